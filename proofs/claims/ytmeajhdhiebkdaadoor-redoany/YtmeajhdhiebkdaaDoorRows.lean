/-
  NARROWER THAN 'FOR EVERY INPUT', by the rows' own cells (each row's printed sentence says how): RedoTorn: laid · RedoRounds: laid · RedoAny: laid · RedoReads: laid · RedoNil: laid.
  DERIVED. THE GIVEN ROWS OF THIS SEAT. 5 by the template 'for every input the law returns true; each argument reads behind the call as it read before'; 0 by the template 'total and deterministic' (their statements: YtmeajhdhiebkdaaDoorTotals.lean).
  GIVEN WITH THE SEED: the statements are not yours to turn. If you find one false, say at which input.
  Laid BY PROGRAM, IN A SANDBOX (cutbox-rows.mjs): the forced cells as the released guide's own fill.sh prints them over the translation fd4caac763e78b6f… (all of the seat's roots in one cut). By AI agents, Wed Nov 11 2026. No macro, syntax, notation, axiom, sorry.
-/
import Derived.Test.YtmeajhdhiebkdaaDoorChecked
import GoSem.Claim
import GoSem.ClaimJoined
import GoSem.ClaimMapViews
import Derived.JoinedTies
import Derived.KernelRfl
namespace Go.Proofs.YtmeajhdhiebkdaaDoor
/- THE CELL 'sum', in the pinned program and in every row, IS THE sha256 OF THE DUMP (.gsa) THAT YtmeajhdhiebkdaaDoorProg.lean LOADS. Nothing in Lean hashes anything: it is a label: what it is worth is what the hold of that sum in a sandbox is worth. -/
noncomputable def Tryd.pinned : Pinned := { name := "ytmeajhdhiebkdaadoor", sum := "fd4caac763e78b6f198bc89e7ac3f3050c364c49e23c0aac6cba72a4b1d76d20", checked := Tryd.checked }
namespace Rows
def none {H : Type} : Left H := { results := [], args := [] }

/- WHAT THE LISTED PACKAGE-LEVEL VARIABLES READ AS WHEN THE CALL BEGINS. Each datum BY PROGRAM (the guide's laid-datum.mjs) off the statement by which the dump's own 'gosem.cut.vars' lays the variable. In a bare row this is a premise. The card (YtmeajhdhiebkdaaDoorCards.lean) ties it to the program's text. -/
def laid_millpond_record_first {H : Type} : DataW H := .agg [.lit (.int .i64 1), .lit (.int .i64 0)]

/-- 'millpondlaw06.RedoTorn': WHATEVER THE INPUT: true; the input reads as it did. -/
def redoTornSpec : ChangeSpec := { name := "redoTorn", fn := fun _ => fun
  | [d1, d2, d3, d4, d5] => { results := [.lit (.bool true)], args := [d1, d2, d3, d4, d5] }
  | _ => none }
def redoTornRow : OpenClaim := { program := "ytmeajhdhiebkdaadoor", sum := "fd4caac763e78b6f198bc89e7ac3f3050c364c49e23c0aac6cba72a4b1d76d20", func := "millpond/millpondlaw06.RedoTorn", spec := "redoTorn", unfollowed := true, recurses := true, named := ["millpond/record.first"], apart := false, laid := [("millpond/record.first", laid_millpond_record_first)] }
def RedoTornSaid : Prop := redoTornRow.holds Tryd.pinned (OpenSpec.ofChange redoTornSpec)

/-- ITS FALSE NEIGHBOUR: 'it returns false'. Refute it at one input. -/
def redoTornWrong : ChangeSpec := { name := "redoTorn", fn := fun _ => fun
  | [d1, d2, d3, d4, d5] => { results := [.lit (.bool false)], args := [d1, d2, d3, d4, d5] }
  | _ => none }
def RedoTornWrongFalsely : Prop := redoTornRow.holds Tryd.pinned (OpenSpec.ofChange redoTornWrong)

/-- 'millpondlaw06.RedoRounds': WHATEVER THE INPUT: true; the input reads as it did. -/
def redoRoundsSpec : ChangeSpec := { name := "redoRounds", fn := fun _ => fun
  | [d1, d2, d3] => { results := [.lit (.bool true)], args := [d1, d2, d3] }
  | _ => none }
def redoRoundsRow : OpenClaim := { program := "ytmeajhdhiebkdaadoor", sum := "fd4caac763e78b6f198bc89e7ac3f3050c364c49e23c0aac6cba72a4b1d76d20", func := "millpond/millpondlaw06.RedoRounds", spec := "redoRounds", unfollowed := true, recurses := true, named := ["millpond/record.first"], apart := false, laid := [("millpond/record.first", laid_millpond_record_first)] }
def RedoRoundsSaid : Prop := redoRoundsRow.holds Tryd.pinned (OpenSpec.ofChange redoRoundsSpec)

/-- ITS FALSE NEIGHBOUR: 'it returns false'. Refute it at one input. -/
def redoRoundsWrong : ChangeSpec := { name := "redoRounds", fn := fun _ => fun
  | [d1, d2, d3] => { results := [.lit (.bool false)], args := [d1, d2, d3] }
  | _ => none }
def RedoRoundsWrongFalsely : Prop := redoRoundsRow.holds Tryd.pinned (OpenSpec.ofChange redoRoundsWrong)

/-- 'millpondlaw06.RedoAny': WHATEVER THE INPUT: true; the input reads as it did. -/
def redoAnySpec : ChangeSpec := { name := "redoAny", fn := fun _ => fun
  | [d1, d2, d3] => { results := [.lit (.bool true)], args := [d1, d2, d3] }
  | _ => none }
def redoAnyRow : OpenClaim := { program := "ytmeajhdhiebkdaadoor", sum := "fd4caac763e78b6f198bc89e7ac3f3050c364c49e23c0aac6cba72a4b1d76d20", func := "millpond/millpondlaw06.RedoAny", spec := "redoAny", unfollowed := true, recurses := true, named := ["millpond/record.first"], apart := false, laid := [("millpond/record.first", laid_millpond_record_first)] }
def RedoAnySaid : Prop := redoAnyRow.holds Tryd.pinned (OpenSpec.ofChange redoAnySpec)

/-- ITS FALSE NEIGHBOUR: 'it returns false'. Refute it at one input. -/
def redoAnyWrong : ChangeSpec := { name := "redoAny", fn := fun _ => fun
  | [d1, d2, d3] => { results := [.lit (.bool false)], args := [d1, d2, d3] }
  | _ => none }
def RedoAnyWrongFalsely : Prop := redoAnyRow.holds Tryd.pinned (OpenSpec.ofChange redoAnyWrong)

/-- 'millpondlaw06.RedoReads': WHATEVER THE INPUT: true; the input reads as it did. -/
def redoReadsSpec : ChangeSpec := { name := "redoReads", fn := fun _ => fun
  | [d1, d2, d3] => { results := [.lit (.bool true)], args := [d1, d2, d3] }
  | _ => none }
def redoReadsRow : OpenClaim := { program := "ytmeajhdhiebkdaadoor", sum := "fd4caac763e78b6f198bc89e7ac3f3050c364c49e23c0aac6cba72a4b1d76d20", func := "millpond/millpondlaw06.RedoReads", spec := "redoReads", unfollowed := true, recurses := true, named := ["millpond/record.first"], apart := false, laid := [("millpond/record.first", laid_millpond_record_first)] }
def RedoReadsSaid : Prop := redoReadsRow.holds Tryd.pinned (OpenSpec.ofChange redoReadsSpec)

/-- ITS FALSE NEIGHBOUR: 'it returns false'. Refute it at one input. -/
def redoReadsWrong : ChangeSpec := { name := "redoReads", fn := fun _ => fun
  | [d1, d2, d3] => { results := [.lit (.bool false)], args := [d1, d2, d3] }
  | _ => none }
def RedoReadsWrongFalsely : Prop := redoReadsRow.holds Tryd.pinned (OpenSpec.ofChange redoReadsWrong)

/-- 'millpondlaw06.RedoNil': WHATEVER THE INPUT: true; the input reads as it did. -/
def redoNilSpec : ChangeSpec := { name := "redoNil", fn := fun _ => fun
  | [] => { results := [.lit (.bool true)], args := [] }
  | _ => none }
def redoNilRow : OpenClaim := { program := "ytmeajhdhiebkdaadoor", sum := "fd4caac763e78b6f198bc89e7ac3f3050c364c49e23c0aac6cba72a4b1d76d20", func := "millpond/millpondlaw06.RedoNil", spec := "redoNil", unfollowed := true, recurses := true, named := ["millpond/record.first"], apart := false, laid := [("millpond/record.first", laid_millpond_record_first)] }
def RedoNilSaid : Prop := redoNilRow.holds Tryd.pinned (OpenSpec.ofChange redoNilSpec)

/-- ITS FALSE NEIGHBOUR: 'it returns false'. Refute it at one input. -/
def redoNilWrong : ChangeSpec := { name := "redoNil", fn := fun _ => fun
  | [] => { results := [.lit (.bool false)], args := [] }
  | _ => none }
def RedoNilWrongFalsely : Prop := redoNilRow.holds Tryd.pinned (OpenSpec.ofChange redoNilWrong)

/- THE SECOND FORM. 'bulk': how many values and letters a reading holds, each counted each time it is reached (what is shared counts as often as it is met; a slice's spare places count too). A statement '..UptoSaid' is the law's where the arguments, and the package variables that the reading takes, are together of bulk at most 1048576: NARROWER than '..Said'. Prove '..Said' where nothing that the law and all that it calls make is longer than what came in: it says more and counts as full. Else prove '..UptoSaid'. A law counts once. -/
mutual
def uptoBulk {H : Type} : DataW H → Nat
  | .lit (.string bytes) => bytes.length + 1
  | .lit _ => 1
  | .nil => 1
  | .ptr d => uptoBulk d + 1
  | .slice elems spare => uptoBulkAll elems + uptoBulkAll spare + 1
  | .agg parts => uptoBulkAll parts + 1
  | .iface _ d => uptoBulk d + 1
  | .map entries => uptoBulkEntries entries + 1
  | .held _ => 1
def uptoBulkAll {H : Type} : List (DataW H) → Nat
  | [] => 0
  | d :: r => uptoBulk d + uptoBulkAll r
def uptoBulkEntries {H : Type} : List (Lit × DataW H) → Nat
  | [] => 0
  | x :: r => uptoBulkEntry x + uptoBulkEntries r
def uptoBulkEntry {H : Type} : Lit × DataW H → Nat
  | (.string bytes, d) => bytes.length + uptoBulk d + 1
  | (_, d) => uptoBulk d + 1
 end
def uptoSmall : (H : Type) → List (DataW H) → Bool := fun _ ds => decide (uptoBulkAll ds ≤ 1048576)
def OpenSpec.upto (s : _root_.Go.ChangeSpec) : _root_.Go.OpenSpec := { _root_.Go.OpenSpec.ofChange s with cond := some uptoSmall }

/-- 'millpondlaw06.RedoTorn', WHERE WHAT IT READS IS OF BULK AT MOST 1048576: true; the input reads as it did. -/
def redoTornUptoRow : OpenClaim := { program := "ytmeajhdhiebkdaadoor", sum := "fd4caac763e78b6f198bc89e7ac3f3050c364c49e23c0aac6cba72a4b1d76d20", func := "millpond/millpondlaw06.RedoTorn", spec := "redoTorn", unfollowed := true, recurses := true, named := ["millpond/record.first"], apart := false, laid := [("millpond/record.first", laid_millpond_record_first)], narrowed := true }
def RedoTornUptoSaid : Prop := redoTornUptoRow.holds Tryd.pinned (OpenSpec.upto redoTornSpec)

/-- 'millpondlaw06.RedoRounds', WHERE WHAT IT READS IS OF BULK AT MOST 1048576: true; the input reads as it did. -/
def redoRoundsUptoRow : OpenClaim := { program := "ytmeajhdhiebkdaadoor", sum := "fd4caac763e78b6f198bc89e7ac3f3050c364c49e23c0aac6cba72a4b1d76d20", func := "millpond/millpondlaw06.RedoRounds", spec := "redoRounds", unfollowed := true, recurses := true, named := ["millpond/record.first"], apart := false, laid := [("millpond/record.first", laid_millpond_record_first)], narrowed := true }
def RedoRoundsUptoSaid : Prop := redoRoundsUptoRow.holds Tryd.pinned (OpenSpec.upto redoRoundsSpec)

/-- 'millpondlaw06.RedoAny', WHERE WHAT IT READS IS OF BULK AT MOST 1048576: true; the input reads as it did. -/
def redoAnyUptoRow : OpenClaim := { program := "ytmeajhdhiebkdaadoor", sum := "fd4caac763e78b6f198bc89e7ac3f3050c364c49e23c0aac6cba72a4b1d76d20", func := "millpond/millpondlaw06.RedoAny", spec := "redoAny", unfollowed := true, recurses := true, named := ["millpond/record.first"], apart := false, laid := [("millpond/record.first", laid_millpond_record_first)], narrowed := true }
def RedoAnyUptoSaid : Prop := redoAnyUptoRow.holds Tryd.pinned (OpenSpec.upto redoAnySpec)

/-- 'millpondlaw06.RedoReads', WHERE WHAT IT READS IS OF BULK AT MOST 1048576: true; the input reads as it did. -/
def redoReadsUptoRow : OpenClaim := { program := "ytmeajhdhiebkdaadoor", sum := "fd4caac763e78b6f198bc89e7ac3f3050c364c49e23c0aac6cba72a4b1d76d20", func := "millpond/millpondlaw06.RedoReads", spec := "redoReads", unfollowed := true, recurses := true, named := ["millpond/record.first"], apart := false, laid := [("millpond/record.first", laid_millpond_record_first)], narrowed := true }
def RedoReadsUptoSaid : Prop := redoReadsUptoRow.holds Tryd.pinned (OpenSpec.upto redoReadsSpec)

/-- 'millpondlaw06.RedoNil', WHERE WHAT IT READS IS OF BULK AT MOST 1048576: true; the input reads as it did. -/
def redoNilUptoRow : OpenClaim := { program := "ytmeajhdhiebkdaadoor", sum := "fd4caac763e78b6f198bc89e7ac3f3050c364c49e23c0aac6cba72a4b1d76d20", func := "millpond/millpondlaw06.RedoNil", spec := "redoNil", unfollowed := true, recurses := true, named := ["millpond/record.first"], apart := false, laid := [("millpond/record.first", laid_millpond_record_first)], narrowed := true }
def RedoNilUptoSaid : Prop := redoNilUptoRow.holds Tryd.pinned (OpenSpec.upto redoNilSpec)

end Rows
end Go.Proofs.YtmeajhdhiebkdaaDoor
