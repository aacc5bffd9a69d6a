/-
  NARROWER THAN 'FOR EVERY INPUT', by the rows' own cells (each row's printed sentence says how): ViewPuts: laid · ViewNext: laid · ViewLooks: laid · ViewMasters: laid · ViewBounds: laid.
  DERIVED. THE GIVEN ROWS OF THIS SEAT. 5 by the template 'for every input the law returns true; each argument reads behind the call as it read before'; 0 by the template 'total and deterministic' (their statements: YtbpnnbbinhdoiaaDoorTotals.lean).
  GIVEN WITH THE SEED: the statements are not yours to turn. If you find one false, say at which input.
  Laid BY PROGRAM, IN A SANDBOX (cutbox-rows.mjs): the forced cells as the released guide's own fill.sh prints them over the translation 2be3e4bb115637b1… (all of the seat's roots in one cut). By AI agents, Wed Nov 11 2026. No macro, syntax, notation, axiom, sorry.
-/
import Derived.Test.YtbpnnbbinhdoiaaDoorChecked
import GoSem.Claim
import GoSem.ClaimJoined
import GoSem.ClaimMapViews
import Derived.JoinedTies
import Derived.KernelRfl
namespace Go.Proofs.YtbpnnbbinhdoiaaDoor
/- THE CELL 'sum', in the pinned program and in every row, IS THE sha256 OF THE DUMP (.gsa) THAT YtbpnnbbinhdoiaaDoorProg.lean LOADS. Nothing in Lean hashes anything: it is a label: what it is worth is what the hold of that sum in a sandbox is worth. -/
noncomputable def Tryd.pinned : Pinned := { name := "ytbpnnbbinhdoiaadoor", sum := "2be3e4bb115637b1b74c3a20c618228bd8d1152366682ae72fea947053b0252b", checked := Tryd.checked }
namespace Rows
def none {H : Type} : Left H := { results := [], args := [] }

/- WHAT THE LISTED PACKAGE-LEVEL VARIABLES READ AS WHEN THE CALL BEGINS. Each datum BY PROGRAM (the guide's laid-datum.mjs) off the statement by which the dump's own 'gosem.cut.vars' lays the variable. In a bare row this is a premise. The card (YtbpnnbbinhdoiaaDoorCards.lean) ties it to the program's text. -/
def laid_millpond_view_first {H : Type} : DataW H := .agg [.lit (.int .i64 0), .lit (.bool true), .lit (.int .i64 0), .agg [.agg [.lit (.bool false), .lit (.int .i64 0)], .agg [.lit (.bool false), .lit (.int .i64 0)], .agg [.lit (.bool false), .lit (.int .i64 0)], .agg [.lit (.bool false), .lit (.int .i64 0)], .agg [.lit (.bool false), .lit (.int .i64 0)], .agg [.lit (.bool false), .lit (.int .i64 0)], .agg [.lit (.bool false), .lit (.int .i64 0)], .agg [.lit (.bool false), .lit (.int .i64 0)]]]

/-- 'millpondlaw09.ViewPuts': WHATEVER THE INPUT: true; the input reads as it did. -/
def viewPutsSpec : ChangeSpec := { name := "viewPuts", fn := fun _ => fun
  | [d1, d2] => { results := [.lit (.bool true)], args := [d1, d2] }
  | _ => none }
def viewPutsRow : OpenClaim := { program := "ytbpnnbbinhdoiaadoor", sum := "2be3e4bb115637b1b74c3a20c618228bd8d1152366682ae72fea947053b0252b", func := "millpond/millpondlaw09.ViewPuts", spec := "viewPuts", unfollowed := true, recurses := true, named := ["millpond/view.first"], apart := false, laid := [("millpond/view.first", laid_millpond_view_first)] }
def ViewPutsSaid : Prop := viewPutsRow.holds Tryd.pinned (OpenSpec.ofChange viewPutsSpec)

/-- ITS FALSE NEIGHBOUR: 'it returns false'. Refute it at one input. -/
def viewPutsWrong : ChangeSpec := { name := "viewPuts", fn := fun _ => fun
  | [d1, d2] => { results := [.lit (.bool false)], args := [d1, d2] }
  | _ => none }
def ViewPutsWrongFalsely : Prop := viewPutsRow.holds Tryd.pinned (OpenSpec.ofChange viewPutsWrong)

/-- 'millpondlaw09.ViewNext': WHATEVER THE INPUT: true; the input reads as it did. -/
def viewNextSpec : ChangeSpec := { name := "viewNext", fn := fun _ => fun
  | [d1, d2] => { results := [.lit (.bool true)], args := [d1, d2] }
  | _ => none }
def viewNextRow : OpenClaim := { program := "ytbpnnbbinhdoiaadoor", sum := "2be3e4bb115637b1b74c3a20c618228bd8d1152366682ae72fea947053b0252b", func := "millpond/millpondlaw09.ViewNext", spec := "viewNext", unfollowed := true, recurses := true, named := ["millpond/view.first"], apart := false, laid := [("millpond/view.first", laid_millpond_view_first)] }
def ViewNextSaid : Prop := viewNextRow.holds Tryd.pinned (OpenSpec.ofChange viewNextSpec)

/-- ITS FALSE NEIGHBOUR: 'it returns false'. Refute it at one input. -/
def viewNextWrong : ChangeSpec := { name := "viewNext", fn := fun _ => fun
  | [d1, d2] => { results := [.lit (.bool false)], args := [d1, d2] }
  | _ => none }
def ViewNextWrongFalsely : Prop := viewNextRow.holds Tryd.pinned (OpenSpec.ofChange viewNextWrong)

/-- 'millpondlaw09.ViewLooks': WHATEVER THE INPUT: true; the input reads as it did. -/
def viewLooksSpec : ChangeSpec := { name := "viewLooks", fn := fun _ => fun
  | [d1, d2, d3] => { results := [.lit (.bool true)], args := [d1, d2, d3] }
  | _ => none }
def viewLooksRow : OpenClaim := { program := "ytbpnnbbinhdoiaadoor", sum := "2be3e4bb115637b1b74c3a20c618228bd8d1152366682ae72fea947053b0252b", func := "millpond/millpondlaw09.ViewLooks", spec := "viewLooks", unfollowed := true, recurses := true, named := ["millpond/view.first"], apart := false, laid := [("millpond/view.first", laid_millpond_view_first)] }
def ViewLooksSaid : Prop := viewLooksRow.holds Tryd.pinned (OpenSpec.ofChange viewLooksSpec)

/-- ITS FALSE NEIGHBOUR: 'it returns false'. Refute it at one input. -/
def viewLooksWrong : ChangeSpec := { name := "viewLooks", fn := fun _ => fun
  | [d1, d2, d3] => { results := [.lit (.bool false)], args := [d1, d2, d3] }
  | _ => none }
def ViewLooksWrongFalsely : Prop := viewLooksRow.holds Tryd.pinned (OpenSpec.ofChange viewLooksWrong)

/-- 'millpondlaw09.ViewMasters': WHATEVER THE INPUT: true; the input reads as it did. -/
def viewMastersSpec : ChangeSpec := { name := "viewMasters", fn := fun _ => fun
  | [d1, d2] => { results := [.lit (.bool true)], args := [d1, d2] }
  | _ => none }
def viewMastersRow : OpenClaim := { program := "ytbpnnbbinhdoiaadoor", sum := "2be3e4bb115637b1b74c3a20c618228bd8d1152366682ae72fea947053b0252b", func := "millpond/millpondlaw09.ViewMasters", spec := "viewMasters", unfollowed := true, recurses := true, named := ["millpond/view.first"], apart := false, laid := [("millpond/view.first", laid_millpond_view_first)] }
def ViewMastersSaid : Prop := viewMastersRow.holds Tryd.pinned (OpenSpec.ofChange viewMastersSpec)

/-- ITS FALSE NEIGHBOUR: 'it returns false'. Refute it at one input. -/
def viewMastersWrong : ChangeSpec := { name := "viewMasters", fn := fun _ => fun
  | [d1, d2] => { results := [.lit (.bool false)], args := [d1, d2] }
  | _ => none }
def ViewMastersWrongFalsely : Prop := viewMastersRow.holds Tryd.pinned (OpenSpec.ofChange viewMastersWrong)

/-- 'millpondlaw09.ViewBounds': WHATEVER THE INPUT: true; the input reads as it did. -/
def viewBoundsSpec : ChangeSpec := { name := "viewBounds", fn := fun _ => fun
  | [] => { results := [.lit (.bool true)], args := [] }
  | _ => none }
def viewBoundsRow : OpenClaim := { program := "ytbpnnbbinhdoiaadoor", sum := "2be3e4bb115637b1b74c3a20c618228bd8d1152366682ae72fea947053b0252b", func := "millpond/millpondlaw09.ViewBounds", spec := "viewBounds", unfollowed := true, recurses := true, named := ["millpond/view.first"], apart := false, laid := [("millpond/view.first", laid_millpond_view_first)] }
def ViewBoundsSaid : Prop := viewBoundsRow.holds Tryd.pinned (OpenSpec.ofChange viewBoundsSpec)

/-- ITS FALSE NEIGHBOUR: 'it returns false'. Refute it at one input. -/
def viewBoundsWrong : ChangeSpec := { name := "viewBounds", fn := fun _ => fun
  | [] => { results := [.lit (.bool false)], args := [] }
  | _ => none }
def ViewBoundsWrongFalsely : Prop := viewBoundsRow.holds Tryd.pinned (OpenSpec.ofChange viewBoundsWrong)

/- THE SECOND FORM. 'bulk': how many values and letters a reading holds, each counted each time it is reached (what is shared counts as often as it is met; a slice's spare places count too). A statement '..UptoSaid' is the law's where the arguments, and the package variables that the reading takes, are together of bulk at most 1048576: NARROWER than '..Said'. Prove '..Said' where nothing that the law and all that it calls make is longer than what came in: it says more and counts as full. Else prove '..UptoSaid'. A law counts once. -/
mutual
def uptoBulk {H : Type} : DataW H → Nat
  | .lit (.string bytes) => bytes.length + 1
  | .lit _ => 1
  | .nil => 1
  | .ptr d => uptoBulk d + 1
  | .slice elems spare => uptoBulkAll elems + uptoBulkAll spare + 1
  | .agg parts => uptoBulkAll parts + 1
  | .iface _ d => uptoBulk d + 1
  | .map entries => uptoBulkEntries entries + 1
  | .held _ => 1
def uptoBulkAll {H : Type} : List (DataW H) → Nat
  | [] => 0
  | d :: r => uptoBulk d + uptoBulkAll r
def uptoBulkEntries {H : Type} : List (Lit × DataW H) → Nat
  | [] => 0
  | x :: r => uptoBulkEntry x + uptoBulkEntries r
def uptoBulkEntry {H : Type} : Lit × DataW H → Nat
  | (.string bytes, d) => bytes.length + uptoBulk d + 1
  | (_, d) => uptoBulk d + 1
 end
def uptoSmall : (H : Type) → List (DataW H) → Bool := fun _ ds => decide (uptoBulkAll ds ≤ 1048576)
def OpenSpec.upto (s : _root_.Go.ChangeSpec) : _root_.Go.OpenSpec := { _root_.Go.OpenSpec.ofChange s with cond := some uptoSmall }

/-- 'millpondlaw09.ViewPuts', WHERE WHAT IT READS IS OF BULK AT MOST 1048576: true; the input reads as it did. -/
def viewPutsUptoRow : OpenClaim := { program := "ytbpnnbbinhdoiaadoor", sum := "2be3e4bb115637b1b74c3a20c618228bd8d1152366682ae72fea947053b0252b", func := "millpond/millpondlaw09.ViewPuts", spec := "viewPuts", unfollowed := true, recurses := true, named := ["millpond/view.first"], apart := false, laid := [("millpond/view.first", laid_millpond_view_first)], narrowed := true }
def ViewPutsUptoSaid : Prop := viewPutsUptoRow.holds Tryd.pinned (OpenSpec.upto viewPutsSpec)

/-- 'millpondlaw09.ViewNext', WHERE WHAT IT READS IS OF BULK AT MOST 1048576: true; the input reads as it did. -/
def viewNextUptoRow : OpenClaim := { program := "ytbpnnbbinhdoiaadoor", sum := "2be3e4bb115637b1b74c3a20c618228bd8d1152366682ae72fea947053b0252b", func := "millpond/millpondlaw09.ViewNext", spec := "viewNext", unfollowed := true, recurses := true, named := ["millpond/view.first"], apart := false, laid := [("millpond/view.first", laid_millpond_view_first)], narrowed := true }
def ViewNextUptoSaid : Prop := viewNextUptoRow.holds Tryd.pinned (OpenSpec.upto viewNextSpec)

/-- 'millpondlaw09.ViewLooks', WHERE WHAT IT READS IS OF BULK AT MOST 1048576: true; the input reads as it did. -/
def viewLooksUptoRow : OpenClaim := { program := "ytbpnnbbinhdoiaadoor", sum := "2be3e4bb115637b1b74c3a20c618228bd8d1152366682ae72fea947053b0252b", func := "millpond/millpondlaw09.ViewLooks", spec := "viewLooks", unfollowed := true, recurses := true, named := ["millpond/view.first"], apart := false, laid := [("millpond/view.first", laid_millpond_view_first)], narrowed := true }
def ViewLooksUptoSaid : Prop := viewLooksUptoRow.holds Tryd.pinned (OpenSpec.upto viewLooksSpec)

/-- 'millpondlaw09.ViewMasters', WHERE WHAT IT READS IS OF BULK AT MOST 1048576: true; the input reads as it did. -/
def viewMastersUptoRow : OpenClaim := { program := "ytbpnnbbinhdoiaadoor", sum := "2be3e4bb115637b1b74c3a20c618228bd8d1152366682ae72fea947053b0252b", func := "millpond/millpondlaw09.ViewMasters", spec := "viewMasters", unfollowed := true, recurses := true, named := ["millpond/view.first"], apart := false, laid := [("millpond/view.first", laid_millpond_view_first)], narrowed := true }
def ViewMastersUptoSaid : Prop := viewMastersUptoRow.holds Tryd.pinned (OpenSpec.upto viewMastersSpec)

/-- 'millpondlaw09.ViewBounds', WHERE WHAT IT READS IS OF BULK AT MOST 1048576: true; the input reads as it did. -/
def viewBoundsUptoRow : OpenClaim := { program := "ytbpnnbbinhdoiaadoor", sum := "2be3e4bb115637b1b74c3a20c618228bd8d1152366682ae72fea947053b0252b", func := "millpond/millpondlaw09.ViewBounds", spec := "viewBounds", unfollowed := true, recurses := true, named := ["millpond/view.first"], apart := false, laid := [("millpond/view.first", laid_millpond_view_first)], narrowed := true }
def ViewBoundsUptoSaid : Prop := viewBoundsUptoRow.holds Tryd.pinned (OpenSpec.upto viewBoundsSpec)

end Rows
end Go.Proofs.YtbpnnbbinhdoiaaDoor
