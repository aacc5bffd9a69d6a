/-
  No cell of these rows narrows 'for every input' (looked for: loops, veiled, ifaces, maps, wideKeys, modest, calm, conditions, laid).
  DERIVED. THE GIVEN ROWS OF THIS SEAT. 4 by the template 'for every input the law returns true; each argument reads behind the call as it read before'; 0 by the template 'total and deterministic' (their statements: YtcfoebpbbmnleaaTotals.lean).
  GIVEN WITH THE SEED: the statements are not yours to turn. If you find one false, say at which input.
  Laid BY PROGRAM, IN A SANDBOX (cutbox-rows.mjs): the forced cells as the released guide's own fill.sh prints them over the translation 9e62dba9b4083a77… (all of the seat's roots in one cut). By AI agents, Wed Nov 11 2026. No macro, syntax, notation, axiom, sorry.
-/
import Derived.Test.YtcfoebpbbmnleaaChecked
import GoSem.Claim
import GoSem.ClaimJoined
import GoSem.ClaimMapViews
import Derived.JoinedTies
import Derived.KernelRfl
namespace Go.Proofs.Ytcfoebpbbmnleaa
/- THE CELL 'sum', in the pinned program and in every row, IS THE sha256 OF THE DUMP (.gsa) THAT YtcfoebpbbmnleaaProg.lean LOADS. Nothing in Lean hashes anything: it is a label: what it is worth is what the hold of that sum in a sandbox is worth. -/
noncomputable def Try.pinned : Pinned := { name := "ytcfoebpbbmnleaa", sum := "9e62dba9b4083a7721b09e8b38373c18e21b9f23e433f6ab865679b74f1f3699", checked := Try.checked }
namespace Rows
def none {H : Type} : Left H := { results := [], args := [] }

/-- 'millpondlaw05.AreaWhere': WHATEVER THE INPUT: true; the input reads as it did. -/
def areaWhereSpec : ChangeSpec := { name := "areaWhere", fn := fun _ => fun
  | [d1, d2] => { results := [.lit (.bool true)], args := [d1, d2] }
  | _ => none }
def areaWhereRow : OpenClaim := { program := "ytcfoebpbbmnleaa", sum := "9e62dba9b4083a7721b09e8b38373c18e21b9f23e433f6ab865679b74f1f3699", func := "millpond/millpondlaw05.AreaWhere", spec := "areaWhere", apart := false }
def AreaWhereSaid : Prop := areaWhereRow.holds Try.pinned (OpenSpec.ofChange areaWhereSpec)

/-- ITS FALSE NEIGHBOUR: 'it returns false'. Refute it at one input. -/
def areaWhereWrong : ChangeSpec := { name := "areaWhere", fn := fun _ => fun
  | [d1, d2] => { results := [.lit (.bool false)], args := [d1, d2] }
  | _ => none }
def AreaWhereWrongFalsely : Prop := areaWhereRow.holds Try.pinned (OpenSpec.ofChange areaWhereWrong)

/-- 'millpondlaw05.AreaAll': WHATEVER THE INPUT: true; the input reads as it did. -/
def areaAllSpec : ChangeSpec := { name := "areaAll", fn := fun _ => fun
  | [d1, d2] => { results := [.lit (.bool true)], args := [d1, d2] }
  | _ => none }
def areaAllRow : OpenClaim := { program := "ytcfoebpbbmnleaa", sum := "9e62dba9b4083a7721b09e8b38373c18e21b9f23e433f6ab865679b74f1f3699", func := "millpond/millpondlaw05.AreaAll", spec := "areaAll", unfollowed := true, recurses := true, apart := false }
def AreaAllSaid : Prop := areaAllRow.holds Try.pinned (OpenSpec.ofChange areaAllSpec)

/-- ITS FALSE NEIGHBOUR: 'it returns false'. Refute it at one input. -/
def areaAllWrong : ChangeSpec := { name := "areaAll", fn := fun _ => fun
  | [d1, d2] => { results := [.lit (.bool false)], args := [d1, d2] }
  | _ => none }
def AreaAllWrongFalsely : Prop := areaAllRow.holds Try.pinned (OpenSpec.ofChange areaAllWrong)

/-- 'millpondlaw05.AreaApart': WHATEVER THE INPUT: true; the input reads as it did. -/
def areaApartSpec : ChangeSpec := { name := "areaApart", fn := fun _ => fun
  | [d1, d2, d3] => { results := [.lit (.bool true)], args := [d1, d2, d3] }
  | _ => none }
def areaApartRow : OpenClaim := { program := "ytcfoebpbbmnleaa", sum := "9e62dba9b4083a7721b09e8b38373c18e21b9f23e433f6ab865679b74f1f3699", func := "millpond/millpondlaw05.AreaApart", spec := "areaApart", apart := false }
def AreaApartSaid : Prop := areaApartRow.holds Try.pinned (OpenSpec.ofChange areaApartSpec)

/-- ITS FALSE NEIGHBOUR: 'it returns false'. Refute it at one input. -/
def areaApartWrong : ChangeSpec := { name := "areaApart", fn := fun _ => fun
  | [d1, d2, d3] => { results := [.lit (.bool false)], args := [d1, d2, d3] }
  | _ => none }
def AreaApartWrongFalsely : Prop := areaApartRow.holds Try.pinned (OpenSpec.ofChange areaApartWrong)

/-- 'millpondlaw05.AreaBounds': WHATEVER THE INPUT: true; the input reads as it did. -/
def areaBoundsSpec : ChangeSpec := { name := "areaBounds", fn := fun _ => fun
  | [] => { results := [.lit (.bool true)], args := [] }
  | _ => none }
def areaBoundsRow : OpenClaim := { program := "ytcfoebpbbmnleaa", sum := "9e62dba9b4083a7721b09e8b38373c18e21b9f23e433f6ab865679b74f1f3699", func := "millpond/millpondlaw05.AreaBounds", spec := "areaBounds", apart := false }
def AreaBoundsSaid : Prop := areaBoundsRow.holds Try.pinned (OpenSpec.ofChange areaBoundsSpec)

/-- ITS FALSE NEIGHBOUR: 'it returns false'. Refute it at one input. -/
def areaBoundsWrong : ChangeSpec := { name := "areaBounds", fn := fun _ => fun
  | [] => { results := [.lit (.bool false)], args := [] }
  | _ => none }
def AreaBoundsWrongFalsely : Prop := areaBoundsRow.holds Try.pinned (OpenSpec.ofChange areaBoundsWrong)

/- THE SECOND FORM. 'bulk': how many values and letters a reading holds, each counted each time it is reached (what is shared counts as often as it is met; a slice's spare places count too). A statement '..UptoSaid' is the law's where the arguments, and the package variables that the reading takes, are together of bulk at most 1048576: NARROWER than '..Said'. Prove '..Said' where nothing that the law and all that it calls make is longer than what came in: it says more and counts as full. Else prove '..UptoSaid'. A law counts once. -/
mutual
def uptoBulk {H : Type} : DataW H → Nat
  | .lit (.string bytes) => bytes.length + 1
  | .lit _ => 1
  | .nil => 1
  | .ptr d => uptoBulk d + 1
  | .slice elems spare => uptoBulkAll elems + uptoBulkAll spare + 1
  | .agg parts => uptoBulkAll parts + 1
  | .iface _ d => uptoBulk d + 1
  | .map entries => uptoBulkEntries entries + 1
  | .held _ => 1
def uptoBulkAll {H : Type} : List (DataW H) → Nat
  | [] => 0
  | d :: r => uptoBulk d + uptoBulkAll r
def uptoBulkEntries {H : Type} : List (Lit × DataW H) → Nat
  | [] => 0
  | x :: r => uptoBulkEntry x + uptoBulkEntries r
def uptoBulkEntry {H : Type} : Lit × DataW H → Nat
  | (.string bytes, d) => bytes.length + uptoBulk d + 1
  | (_, d) => uptoBulk d + 1
 end
def uptoSmall : (H : Type) → List (DataW H) → Bool := fun _ ds => decide (uptoBulkAll ds ≤ 1048576)
def OpenSpec.upto (s : _root_.Go.ChangeSpec) : _root_.Go.OpenSpec := { _root_.Go.OpenSpec.ofChange s with cond := some uptoSmall }

/-- 'millpondlaw05.AreaWhere', WHERE WHAT IT READS IS OF BULK AT MOST 1048576: true; the input reads as it did. -/
def areaWhereUptoRow : OpenClaim := { program := "ytcfoebpbbmnleaa", sum := "9e62dba9b4083a7721b09e8b38373c18e21b9f23e433f6ab865679b74f1f3699", func := "millpond/millpondlaw05.AreaWhere", spec := "areaWhere", apart := false, narrowed := true }
def AreaWhereUptoSaid : Prop := areaWhereUptoRow.holds Try.pinned (OpenSpec.upto areaWhereSpec)

/-- 'millpondlaw05.AreaAll', WHERE WHAT IT READS IS OF BULK AT MOST 1048576: true; the input reads as it did. -/
def areaAllUptoRow : OpenClaim := { program := "ytcfoebpbbmnleaa", sum := "9e62dba9b4083a7721b09e8b38373c18e21b9f23e433f6ab865679b74f1f3699", func := "millpond/millpondlaw05.AreaAll", spec := "areaAll", unfollowed := true, recurses := true, apart := false, narrowed := true }
def AreaAllUptoSaid : Prop := areaAllUptoRow.holds Try.pinned (OpenSpec.upto areaAllSpec)

/-- 'millpondlaw05.AreaApart', WHERE WHAT IT READS IS OF BULK AT MOST 1048576: true; the input reads as it did. -/
def areaApartUptoRow : OpenClaim := { program := "ytcfoebpbbmnleaa", sum := "9e62dba9b4083a7721b09e8b38373c18e21b9f23e433f6ab865679b74f1f3699", func := "millpond/millpondlaw05.AreaApart", spec := "areaApart", apart := false, narrowed := true }
def AreaApartUptoSaid : Prop := areaApartUptoRow.holds Try.pinned (OpenSpec.upto areaApartSpec)

/-- 'millpondlaw05.AreaBounds', WHERE WHAT IT READS IS OF BULK AT MOST 1048576: true; the input reads as it did. -/
def areaBoundsUptoRow : OpenClaim := { program := "ytcfoebpbbmnleaa", sum := "9e62dba9b4083a7721b09e8b38373c18e21b9f23e433f6ab865679b74f1f3699", func := "millpond/millpondlaw05.AreaBounds", spec := "areaBounds", apart := false, narrowed := true }
def AreaBoundsUptoSaid : Prop := areaBoundsUptoRow.holds Try.pinned (OpenSpec.upto areaBoundsSpec)

end Rows
end Go.Proofs.Ytcfoebpbbmnleaa
