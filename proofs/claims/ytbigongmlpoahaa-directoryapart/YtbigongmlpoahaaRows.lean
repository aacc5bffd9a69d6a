/-
  No cell of these rows narrows 'for every input' (looked for: loops, veiled, ifaces, maps, wideKeys, modest, calm, conditions, laid).
  DERIVED. THE GIVEN ROWS OF THIS SEAT. 4 by the template 'for every input the law returns true; each argument reads behind the call as it read before'; 0 by the template 'total and deterministic' (their statements: YtbigongmlpoahaaTotals.lean).
  GIVEN WITH THE SEED: the statements are not yours to turn. If you find one false, say at which input.
  Laid BY PROGRAM, IN A SANDBOX (cutbox-rows.mjs): the forced cells as the released guide's own fill.sh prints them over the translation f05ca9857a515f0f… (all of the seat's roots in one cut). By AI agents, Wed Nov 11 2026. No macro, syntax, notation, axiom, sorry.
-/
import Derived.Test.YtbigongmlpoahaaChecked
import GoSem.Claim
import GoSem.ClaimJoined
import GoSem.ClaimMapViews
import Derived.JoinedTies
import Derived.KernelRfl
namespace Go.Proofs.Ytbigongmlpoahaa
/- THE CELL 'sum', in the pinned program and in every row, IS THE sha256 OF THE DUMP (.gsa) THAT YtbigongmlpoahaaProg.lean LOADS. Nothing in Lean hashes anything: it is a label: what it is worth is what the hold of that sum in a sandbox is worth. -/
noncomputable def Try.pinned : Pinned := { name := "ytbigongmlpoahaa", sum := "f05ca9857a515f0fc50b9d8b10a670232511cc3060b23d65a509c283b12ec85d", checked := Try.checked }
namespace Rows
def none {H : Type} : Left H := { results := [], args := [] }

/-- 'millpondlaw14.DirectoryPlays': WHATEVER THE INPUT: true; the input reads as it did. -/
def directoryPlaysSpec : ChangeSpec := { name := "directoryPlays", fn := fun _ => fun
  | [d1, d2, d3] => { results := [.lit (.bool true)], args := [d1, d2, d3] }
  | _ => none }
def directoryPlaysRow : OpenClaim := { program := "ytbigongmlpoahaa", sum := "f05ca9857a515f0fc50b9d8b10a670232511cc3060b23d65a509c283b12ec85d", func := "millpond/millpondlaw14.DirectoryPlays", spec := "directoryPlays", unfollowed := true, recurses := true, apart := false }
def DirectoryPlaysSaid : Prop := directoryPlaysRow.holds Try.pinned (OpenSpec.ofChange directoryPlaysSpec)

/-- ITS FALSE NEIGHBOUR: 'it returns false'. Refute it at one input. -/
def directoryPlaysWrong : ChangeSpec := { name := "directoryPlays", fn := fun _ => fun
  | [d1, d2, d3] => { results := [.lit (.bool false)], args := [d1, d2, d3] }
  | _ => none }
def DirectoryPlaysWrongFalsely : Prop := directoryPlaysRow.holds Try.pinned (OpenSpec.ofChange directoryPlaysWrong)

/-- 'millpondlaw14.DirectoryApart': WHATEVER THE INPUT: true; the input reads as it did. -/
def directoryApartSpec : ChangeSpec := { name := "directoryApart", fn := fun _ => fun
  | [d1, d2] => { results := [.lit (.bool true)], args := [d1, d2] }
  | _ => none }
def directoryApartRow : OpenClaim := { program := "ytbigongmlpoahaa", sum := "f05ca9857a515f0fc50b9d8b10a670232511cc3060b23d65a509c283b12ec85d", func := "millpond/millpondlaw14.DirectoryApart", spec := "directoryApart", unfollowed := true, recurses := true, apart := false }
def DirectoryApartSaid : Prop := directoryApartRow.holds Try.pinned (OpenSpec.ofChange directoryApartSpec)

/-- ITS FALSE NEIGHBOUR: 'it returns false'. Refute it at one input. -/
def directoryApartWrong : ChangeSpec := { name := "directoryApart", fn := fun _ => fun
  | [d1, d2] => { results := [.lit (.bool false)], args := [d1, d2] }
  | _ => none }
def DirectoryApartWrongFalsely : Prop := directoryApartRow.holds Try.pinned (OpenSpec.ofChange directoryApartWrong)

/-- 'millpondlaw14.DirectoryCopies': WHATEVER THE INPUT: true; the input reads as it did. -/
def directoryCopiesSpec : ChangeSpec := { name := "directoryCopies", fn := fun _ => fun
  | [d1, d2, d3] => { results := [.lit (.bool true)], args := [d1, d2, d3] }
  | _ => none }
def directoryCopiesRow : OpenClaim := { program := "ytbigongmlpoahaa", sum := "f05ca9857a515f0fc50b9d8b10a670232511cc3060b23d65a509c283b12ec85d", func := "millpond/millpondlaw14.DirectoryCopies", spec := "directoryCopies", unfollowed := true, recurses := true, apart := false }
def DirectoryCopiesSaid : Prop := directoryCopiesRow.holds Try.pinned (OpenSpec.ofChange directoryCopiesSpec)

/-- ITS FALSE NEIGHBOUR: 'it returns false'. Refute it at one input. -/
def directoryCopiesWrong : ChangeSpec := { name := "directoryCopies", fn := fun _ => fun
  | [d1, d2, d3] => { results := [.lit (.bool false)], args := [d1, d2, d3] }
  | _ => none }
def DirectoryCopiesWrongFalsely : Prop := directoryCopiesRow.holds Try.pinned (OpenSpec.ofChange directoryCopiesWrong)

/-- 'millpondlaw14.DirectoryNil': WHATEVER THE INPUT: true; the input reads as it did. -/
def directoryNilSpec : ChangeSpec := { name := "directoryNil", fn := fun _ => fun
  | [] => { results := [.lit (.bool true)], args := [] }
  | _ => none }
def directoryNilRow : OpenClaim := { program := "ytbigongmlpoahaa", sum := "f05ca9857a515f0fc50b9d8b10a670232511cc3060b23d65a509c283b12ec85d", func := "millpond/millpondlaw14.DirectoryNil", spec := "directoryNil", unfollowed := true, recurses := true, apart := false }
def DirectoryNilSaid : Prop := directoryNilRow.holds Try.pinned (OpenSpec.ofChange directoryNilSpec)

/-- ITS FALSE NEIGHBOUR: 'it returns false'. Refute it at one input. -/
def directoryNilWrong : ChangeSpec := { name := "directoryNil", fn := fun _ => fun
  | [] => { results := [.lit (.bool false)], args := [] }
  | _ => none }
def DirectoryNilWrongFalsely : Prop := directoryNilRow.holds Try.pinned (OpenSpec.ofChange directoryNilWrong)

/- THE SECOND FORM. 'bulk': how many values and letters a reading holds, each counted each time it is reached (what is shared counts as often as it is met; a slice's spare places count too). A statement '..UptoSaid' is the law's where the arguments, and the package variables that the reading takes, are together of bulk at most 1048576: NARROWER than '..Said'. Prove '..Said' where nothing that the law and all that it calls make is longer than what came in: it says more and counts as full. Else prove '..UptoSaid'. A law counts once. -/
mutual
def uptoBulk {H : Type} : DataW H → Nat
  | .lit (.string bytes) => bytes.length + 1
  | .lit _ => 1
  | .nil => 1
  | .ptr d => uptoBulk d + 1
  | .slice elems spare => uptoBulkAll elems + uptoBulkAll spare + 1
  | .agg parts => uptoBulkAll parts + 1
  | .iface _ d => uptoBulk d + 1
  | .map entries => uptoBulkEntries entries + 1
  | .held _ => 1
def uptoBulkAll {H : Type} : List (DataW H) → Nat
  | [] => 0
  | d :: r => uptoBulk d + uptoBulkAll r
def uptoBulkEntries {H : Type} : List (Lit × DataW H) → Nat
  | [] => 0
  | x :: r => uptoBulkEntry x + uptoBulkEntries r
def uptoBulkEntry {H : Type} : Lit × DataW H → Nat
  | (.string bytes, d) => bytes.length + uptoBulk d + 1
  | (_, d) => uptoBulk d + 1
 end
def uptoSmall : (H : Type) → List (DataW H) → Bool := fun _ ds => decide (uptoBulkAll ds ≤ 1048576)
def OpenSpec.upto (s : _root_.Go.ChangeSpec) : _root_.Go.OpenSpec := { _root_.Go.OpenSpec.ofChange s with cond := some uptoSmall }

/-- 'millpondlaw14.DirectoryPlays', WHERE WHAT IT READS IS OF BULK AT MOST 1048576: true; the input reads as it did. -/
def directoryPlaysUptoRow : OpenClaim := { program := "ytbigongmlpoahaa", sum := "f05ca9857a515f0fc50b9d8b10a670232511cc3060b23d65a509c283b12ec85d", func := "millpond/millpondlaw14.DirectoryPlays", spec := "directoryPlays", unfollowed := true, recurses := true, apart := false, narrowed := true }
def DirectoryPlaysUptoSaid : Prop := directoryPlaysUptoRow.holds Try.pinned (OpenSpec.upto directoryPlaysSpec)

/-- 'millpondlaw14.DirectoryApart', WHERE WHAT IT READS IS OF BULK AT MOST 1048576: true; the input reads as it did. -/
def directoryApartUptoRow : OpenClaim := { program := "ytbigongmlpoahaa", sum := "f05ca9857a515f0fc50b9d8b10a670232511cc3060b23d65a509c283b12ec85d", func := "millpond/millpondlaw14.DirectoryApart", spec := "directoryApart", unfollowed := true, recurses := true, apart := false, narrowed := true }
def DirectoryApartUptoSaid : Prop := directoryApartUptoRow.holds Try.pinned (OpenSpec.upto directoryApartSpec)

/-- 'millpondlaw14.DirectoryCopies', WHERE WHAT IT READS IS OF BULK AT MOST 1048576: true; the input reads as it did. -/
def directoryCopiesUptoRow : OpenClaim := { program := "ytbigongmlpoahaa", sum := "f05ca9857a515f0fc50b9d8b10a670232511cc3060b23d65a509c283b12ec85d", func := "millpond/millpondlaw14.DirectoryCopies", spec := "directoryCopies", unfollowed := true, recurses := true, apart := false, narrowed := true }
def DirectoryCopiesUptoSaid : Prop := directoryCopiesUptoRow.holds Try.pinned (OpenSpec.upto directoryCopiesSpec)

/-- 'millpondlaw14.DirectoryNil', WHERE WHAT IT READS IS OF BULK AT MOST 1048576: true; the input reads as it did. -/
def directoryNilUptoRow : OpenClaim := { program := "ytbigongmlpoahaa", sum := "f05ca9857a515f0fc50b9d8b10a670232511cc3060b23d65a509c283b12ec85d", func := "millpond/millpondlaw14.DirectoryNil", spec := "directoryNil", unfollowed := true, recurses := true, apart := false, narrowed := true }
def DirectoryNilUptoSaid : Prop := directoryNilUptoRow.holds Try.pinned (OpenSpec.upto directoryNilSpec)

end Rows
end Go.Proofs.Ytbigongmlpoahaa
