/-
  NARROWER THAN 'FOR EVERY INPUT', by the rows' own cells (each row's printed sentence says how): MemberPlays: laid · MemberFences: laid · MemberFenced: laid · MemberAny: laid · MemberNil: laid.
  DERIVED. THE GIVEN ROWS OF THIS SEAT. 5 by the template 'for every input the law returns true; each argument reads behind the call as it read before'; 0 by the template 'total and deterministic' (their statements: YtcfflbafclmheaaGreatDoorTotals.lean).
  GIVEN WITH THE SEED: the statements are not yours to turn. If you find one false, say at which input.
  Laid BY PROGRAM, IN A SANDBOX (cutbox-rows.mjs): the forced cells as the released guide's own fill.sh prints them over the translation a86348fcd7ea8c11… (all of the seat's roots in one cut). By AI agents, Wed Nov 11 2026. No macro, syntax, notation, axiom, sorry.
-/
import Derived.Test.YtcfflbafclmheaaGreatDoorChecked
import GoSem.Claim
import GoSem.ClaimJoined
import GoSem.ClaimMapViews
import Derived.JoinedTies
import Derived.KernelRfl
namespace Go.Proofs.YtcfflbafclmheaaGreatDoor
/- THE CELL 'sum', in the pinned program and in every row, IS THE sha256 OF THE DUMP (.gsa) THAT YtcfflbafclmheaaGreatDoorProg.lean LOADS. Nothing in Lean hashes anything: it is a label: what it is worth is what the hold of that sum in a sandbox is worth. -/
noncomputable def Tryz.pinned : Pinned := { name := "ytcfflbafclmheaagreatdoor", sum := "a86348fcd7ea8c117b7144539934ae4f47c23e3d061bc12143509eff85c677fb", checked := Tryz.checked }
namespace Rows
def none {H : Type} : Left H := { results := [], args := [] }

/- WHAT THE LISTED PACKAGE-LEVEL VARIABLES READ AS WHEN THE CALL BEGINS. Each datum BY PROGRAM (the guide's laid-datum.mjs) off the statement by which the dump's own 'gosem.cut.vars' lays the variable. In a bare row this is a premise. The card (YtcfflbafclmheaaGreatDoorCards.lean) ties it to the program's text. -/
def laid_millpond_view_first {H : Type} : DataW H := .agg [.lit (.int .i64 0), .lit (.bool true), .lit (.int .i64 0), .agg [.agg [.lit (.bool false), .lit (.int .i64 0)], .agg [.lit (.bool false), .lit (.int .i64 0)], .agg [.lit (.bool false), .lit (.int .i64 0)], .agg [.lit (.bool false), .lit (.int .i64 0)], .agg [.lit (.bool false), .lit (.int .i64 0)], .agg [.lit (.bool false), .lit (.int .i64 0)], .agg [.lit (.bool false), .lit (.int .i64 0)], .agg [.lit (.bool false), .lit (.int .i64 0)]]]

/-- 'millpondlaw11.MemberPlays': WHATEVER THE INPUT: true; the input reads as it did. -/
def memberPlaysSpec : ChangeSpec := { name := "memberPlays", fn := fun _ => fun
  | [d1, d2, d3, d4] => { results := [.lit (.bool true)], args := [d1, d2, d3, d4] }
  | _ => none }
def memberPlaysRow : OpenClaim := { program := "ytcfflbafclmheaagreatdoor", sum := "a86348fcd7ea8c117b7144539934ae4f47c23e3d061bc12143509eff85c677fb", func := "millpond/millpondlaw11.MemberPlays", spec := "memberPlays", unfollowed := true, recurses := true, named := ["millpond/view.first"], apart := false, laid := [("millpond/view.first", laid_millpond_view_first)] }
def MemberPlaysSaid : Prop := memberPlaysRow.holds Tryz.pinned (OpenSpec.ofChange memberPlaysSpec)

/-- ITS FALSE NEIGHBOUR: 'it returns false'. Refute it at one input. -/
def memberPlaysWrong : ChangeSpec := { name := "memberPlays", fn := fun _ => fun
  | [d1, d2, d3, d4] => { results := [.lit (.bool false)], args := [d1, d2, d3, d4] }
  | _ => none }
def MemberPlaysWrongFalsely : Prop := memberPlaysRow.holds Tryz.pinned (OpenSpec.ofChange memberPlaysWrong)

/-- 'millpondlaw11.MemberFences': WHATEVER THE INPUT: true; the input reads as it did. -/
def memberFencesSpec : ChangeSpec := { name := "memberFences", fn := fun _ => fun
  | [d1, d2] => { results := [.lit (.bool true)], args := [d1, d2] }
  | _ => none }
def memberFencesRow : OpenClaim := { program := "ytcfflbafclmheaagreatdoor", sum := "a86348fcd7ea8c117b7144539934ae4f47c23e3d061bc12143509eff85c677fb", func := "millpond/millpondlaw11.MemberFences", spec := "memberFences", unfollowed := true, recurses := true, named := ["millpond/view.first"], apart := false, laid := [("millpond/view.first", laid_millpond_view_first)] }
def MemberFencesSaid : Prop := memberFencesRow.holds Tryz.pinned (OpenSpec.ofChange memberFencesSpec)

/-- ITS FALSE NEIGHBOUR: 'it returns false'. Refute it at one input. -/
def memberFencesWrong : ChangeSpec := { name := "memberFences", fn := fun _ => fun
  | [d1, d2] => { results := [.lit (.bool false)], args := [d1, d2] }
  | _ => none }
def MemberFencesWrongFalsely : Prop := memberFencesRow.holds Tryz.pinned (OpenSpec.ofChange memberFencesWrong)

/-- 'millpondlaw11.MemberFenced': WHATEVER THE INPUT: true; the input reads as it did. -/
def memberFencedSpec : ChangeSpec := { name := "memberFenced", fn := fun _ => fun
  | [d1, d2, d3] => { results := [.lit (.bool true)], args := [d1, d2, d3] }
  | _ => none }
def memberFencedRow : OpenClaim := { program := "ytcfflbafclmheaagreatdoor", sum := "a86348fcd7ea8c117b7144539934ae4f47c23e3d061bc12143509eff85c677fb", func := "millpond/millpondlaw11.MemberFenced", spec := "memberFenced", unfollowed := true, recurses := true, named := ["millpond/view.first"], apart := false, laid := [("millpond/view.first", laid_millpond_view_first)] }
def MemberFencedSaid : Prop := memberFencedRow.holds Tryz.pinned (OpenSpec.ofChange memberFencedSpec)

/-- ITS FALSE NEIGHBOUR: 'it returns false'. Refute it at one input. -/
def memberFencedWrong : ChangeSpec := { name := "memberFenced", fn := fun _ => fun
  | [d1, d2, d3] => { results := [.lit (.bool false)], args := [d1, d2, d3] }
  | _ => none }
def MemberFencedWrongFalsely : Prop := memberFencedRow.holds Tryz.pinned (OpenSpec.ofChange memberFencedWrong)

/-- 'millpondlaw11.MemberAny': WHATEVER THE INPUT: true; the input reads as it did. -/
def memberAnySpec : ChangeSpec := { name := "memberAny", fn := fun _ => fun
  | [d1, d2, d3, d4, d5] => { results := [.lit (.bool true)], args := [d1, d2, d3, d4, d5] }
  | _ => none }
def memberAnyRow : OpenClaim := { program := "ytcfflbafclmheaagreatdoor", sum := "a86348fcd7ea8c117b7144539934ae4f47c23e3d061bc12143509eff85c677fb", func := "millpond/millpondlaw11.MemberAny", spec := "memberAny", unfollowed := true, recurses := true, named := ["millpond/view.first"], apart := false, laid := [("millpond/view.first", laid_millpond_view_first)] }
def MemberAnySaid : Prop := memberAnyRow.holds Tryz.pinned (OpenSpec.ofChange memberAnySpec)

/-- ITS FALSE NEIGHBOUR: 'it returns false'. Refute it at one input. -/
def memberAnyWrong : ChangeSpec := { name := "memberAny", fn := fun _ => fun
  | [d1, d2, d3, d4, d5] => { results := [.lit (.bool false)], args := [d1, d2, d3, d4, d5] }
  | _ => none }
def MemberAnyWrongFalsely : Prop := memberAnyRow.holds Tryz.pinned (OpenSpec.ofChange memberAnyWrong)

/-- 'millpondlaw11.MemberNil': WHATEVER THE INPUT: true; the input reads as it did. -/
def memberNilSpec : ChangeSpec := { name := "memberNil", fn := fun _ => fun
  | [] => { results := [.lit (.bool true)], args := [] }
  | _ => none }
def memberNilRow : OpenClaim := { program := "ytcfflbafclmheaagreatdoor", sum := "a86348fcd7ea8c117b7144539934ae4f47c23e3d061bc12143509eff85c677fb", func := "millpond/millpondlaw11.MemberNil", spec := "memberNil", unfollowed := true, recurses := true, named := ["millpond/view.first"], apart := false, laid := [("millpond/view.first", laid_millpond_view_first)] }
def MemberNilSaid : Prop := memberNilRow.holds Tryz.pinned (OpenSpec.ofChange memberNilSpec)

/-- ITS FALSE NEIGHBOUR: 'it returns false'. Refute it at one input. -/
def memberNilWrong : ChangeSpec := { name := "memberNil", fn := fun _ => fun
  | [] => { results := [.lit (.bool false)], args := [] }
  | _ => none }
def MemberNilWrongFalsely : Prop := memberNilRow.holds Tryz.pinned (OpenSpec.ofChange memberNilWrong)

/- THE SECOND FORM. 'bulk': how many values and letters a reading holds, each counted each time it is reached (what is shared counts as often as it is met; a slice's spare places count too). A statement '..UptoSaid' is the law's where the arguments, and the package variables that the reading takes, are together of bulk at most 1048576: NARROWER than '..Said'. Prove '..Said' where nothing that the law and all that it calls make is longer than what came in: it says more and counts as full. Else prove '..UptoSaid'. A law counts once. -/
mutual
def uptoBulk {H : Type} : DataW H → Nat
  | .lit (.string bytes) => bytes.length + 1
  | .lit _ => 1
  | .nil => 1
  | .ptr d => uptoBulk d + 1
  | .slice elems spare => uptoBulkAll elems + uptoBulkAll spare + 1
  | .agg parts => uptoBulkAll parts + 1
  | .iface _ d => uptoBulk d + 1
  | .map entries => uptoBulkEntries entries + 1
  | .held _ => 1
def uptoBulkAll {H : Type} : List (DataW H) → Nat
  | [] => 0
  | d :: r => uptoBulk d + uptoBulkAll r
def uptoBulkEntries {H : Type} : List (Lit × DataW H) → Nat
  | [] => 0
  | x :: r => uptoBulkEntry x + uptoBulkEntries r
def uptoBulkEntry {H : Type} : Lit × DataW H → Nat
  | (.string bytes, d) => bytes.length + uptoBulk d + 1
  | (_, d) => uptoBulk d + 1
 end
def uptoSmall : (H : Type) → List (DataW H) → Bool := fun _ ds => decide (uptoBulkAll ds ≤ 1048576)
def OpenSpec.upto (s : _root_.Go.ChangeSpec) : _root_.Go.OpenSpec := { _root_.Go.OpenSpec.ofChange s with cond := some uptoSmall }

/-- 'millpondlaw11.MemberPlays', WHERE WHAT IT READS IS OF BULK AT MOST 1048576: true; the input reads as it did. -/
def memberPlaysUptoRow : OpenClaim := { program := "ytcfflbafclmheaagreatdoor", sum := "a86348fcd7ea8c117b7144539934ae4f47c23e3d061bc12143509eff85c677fb", func := "millpond/millpondlaw11.MemberPlays", spec := "memberPlays", unfollowed := true, recurses := true, named := ["millpond/view.first"], apart := false, laid := [("millpond/view.first", laid_millpond_view_first)], narrowed := true }
def MemberPlaysUptoSaid : Prop := memberPlaysUptoRow.holds Tryz.pinned (OpenSpec.upto memberPlaysSpec)

/-- 'millpondlaw11.MemberFences', WHERE WHAT IT READS IS OF BULK AT MOST 1048576: true; the input reads as it did. -/
def memberFencesUptoRow : OpenClaim := { program := "ytcfflbafclmheaagreatdoor", sum := "a86348fcd7ea8c117b7144539934ae4f47c23e3d061bc12143509eff85c677fb", func := "millpond/millpondlaw11.MemberFences", spec := "memberFences", unfollowed := true, recurses := true, named := ["millpond/view.first"], apart := false, laid := [("millpond/view.first", laid_millpond_view_first)], narrowed := true }
def MemberFencesUptoSaid : Prop := memberFencesUptoRow.holds Tryz.pinned (OpenSpec.upto memberFencesSpec)

/-- 'millpondlaw11.MemberFenced', WHERE WHAT IT READS IS OF BULK AT MOST 1048576: true; the input reads as it did. -/
def memberFencedUptoRow : OpenClaim := { program := "ytcfflbafclmheaagreatdoor", sum := "a86348fcd7ea8c117b7144539934ae4f47c23e3d061bc12143509eff85c677fb", func := "millpond/millpondlaw11.MemberFenced", spec := "memberFenced", unfollowed := true, recurses := true, named := ["millpond/view.first"], apart := false, laid := [("millpond/view.first", laid_millpond_view_first)], narrowed := true }
def MemberFencedUptoSaid : Prop := memberFencedUptoRow.holds Tryz.pinned (OpenSpec.upto memberFencedSpec)

/-- 'millpondlaw11.MemberAny', WHERE WHAT IT READS IS OF BULK AT MOST 1048576: true; the input reads as it did. -/
def memberAnyUptoRow : OpenClaim := { program := "ytcfflbafclmheaagreatdoor", sum := "a86348fcd7ea8c117b7144539934ae4f47c23e3d061bc12143509eff85c677fb", func := "millpond/millpondlaw11.MemberAny", spec := "memberAny", unfollowed := true, recurses := true, named := ["millpond/view.first"], apart := false, laid := [("millpond/view.first", laid_millpond_view_first)], narrowed := true }
def MemberAnyUptoSaid : Prop := memberAnyUptoRow.holds Tryz.pinned (OpenSpec.upto memberAnySpec)

/-- 'millpondlaw11.MemberNil', WHERE WHAT IT READS IS OF BULK AT MOST 1048576: true; the input reads as it did. -/
def memberNilUptoRow : OpenClaim := { program := "ytcfflbafclmheaagreatdoor", sum := "a86348fcd7ea8c117b7144539934ae4f47c23e3d061bc12143509eff85c677fb", func := "millpond/millpondlaw11.MemberNil", spec := "memberNil", unfollowed := true, recurses := true, named := ["millpond/view.first"], apart := false, laid := [("millpond/view.first", laid_millpond_view_first)], narrowed := true }
def MemberNilUptoSaid : Prop := memberNilUptoRow.holds Tryz.pinned (OpenSpec.upto memberNilSpec)

end Rows
end Go.Proofs.YtcfflbafclmheaaGreatDoor
