/-
  NARROWER THAN 'FOR EVERY INPUT', by the rows' own cells (each row's printed sentence says how): RecordPuts: laid · RecordGets: laid · RecordRuns: laid · RecordTorn: laid · RecordBounds: laid.
  DERIVED. THE GIVEN ROWS OF THIS SEAT. 5 by the template 'for every input the law returns true; each argument reads behind the call as it read before'; 0 by the template 'total and deterministic' (their statements: YtkpkiibahfdomaaDoorTotals.lean).
  GIVEN WITH THE SEED: the statements are not yours to turn. If you find one false, say at which input.
  Laid BY PROGRAM, IN A SANDBOX (cutbox-rows.mjs): the forced cells as the released guide's own fill.sh prints them over the translation 6fda266cca89bf94… (all of the seat's roots in one cut). By AI agents, Wed Nov 11 2026. No macro, syntax, notation, axiom, sorry.
-/
import Derived.Test.YtkpkiibahfdomaaDoorChecked
import GoSem.Claim
import GoSem.ClaimJoined
import GoSem.ClaimMapViews
import Derived.JoinedTies
import Derived.KernelRfl
namespace Go.Proofs.YtkpkiibahfdomaaDoor
/- THE CELL 'sum', in the pinned program and in every row, IS THE sha256 OF THE DUMP (.gsa) THAT YtkpkiibahfdomaaDoorProg.lean LOADS. Nothing in Lean hashes anything: it is a label: what it is worth is what the hold of that sum in a sandbox is worth. -/
noncomputable def Tryd.pinned : Pinned := { name := "ytkpkiibahfdomaadoor", sum := "6fda266cca89bf940b893205c8344d20ef5eebacb894e72486a8051335f86d14", checked := Tryd.checked }
namespace Rows
def none {H : Type} : Left H := { results := [], args := [] }

/- WHAT THE LISTED PACKAGE-LEVEL VARIABLES READ AS WHEN THE CALL BEGINS. Each datum BY PROGRAM (the guide's laid-datum.mjs) off the statement by which the dump's own 'gosem.cut.vars' lays the variable. In a bare row this is a premise. The card (YtkpkiibahfdomaaDoorCards.lean) ties it to the program's text. -/
def laid_millpond_record_first {H : Type} : DataW H := .agg [.lit (.int .i64 1), .lit (.int .i64 0)]

/-- 'millpondlaw04.RecordPuts': WHATEVER THE INPUT: true; the input reads as it did. -/
def recordPutsSpec : ChangeSpec := { name := "recordPuts", fn := fun _ => fun
  | [d1, d2] => { results := [.lit (.bool true)], args := [d1, d2] }
  | _ => none }
def recordPutsRow : OpenClaim := { program := "ytkpkiibahfdomaadoor", sum := "6fda266cca89bf940b893205c8344d20ef5eebacb894e72486a8051335f86d14", func := "millpond/millpondlaw04.RecordPuts", spec := "recordPuts", unfollowed := true, recurses := true, named := ["millpond/record.first"], apart := false, laid := [("millpond/record.first", laid_millpond_record_first)] }
def RecordPutsSaid : Prop := recordPutsRow.holds Tryd.pinned (OpenSpec.ofChange recordPutsSpec)

/-- ITS FALSE NEIGHBOUR: 'it returns false'. Refute it at one input. -/
def recordPutsWrong : ChangeSpec := { name := "recordPuts", fn := fun _ => fun
  | [d1, d2] => { results := [.lit (.bool false)], args := [d1, d2] }
  | _ => none }
def RecordPutsWrongFalsely : Prop := recordPutsRow.holds Tryd.pinned (OpenSpec.ofChange recordPutsWrong)

/-- 'millpondlaw04.RecordGets': WHATEVER THE INPUT: true; the input reads as it did. -/
def recordGetsSpec : ChangeSpec := { name := "recordGets", fn := fun _ => fun
  | [d] => { results := [.lit (.bool true)], args := [d] }
  | _ => none }
def recordGetsRow : OpenClaim := { program := "ytkpkiibahfdomaadoor", sum := "6fda266cca89bf940b893205c8344d20ef5eebacb894e72486a8051335f86d14", func := "millpond/millpondlaw04.RecordGets", spec := "recordGets", unfollowed := true, recurses := true, named := ["millpond/record.first"], apart := false, laid := [("millpond/record.first", laid_millpond_record_first)] }
def RecordGetsSaid : Prop := recordGetsRow.holds Tryd.pinned (OpenSpec.ofChange recordGetsSpec)

/-- ITS FALSE NEIGHBOUR: 'it returns false'. Refute it at one input. -/
def recordGetsWrong : ChangeSpec := { name := "recordGets", fn := fun _ => fun
  | [d] => { results := [.lit (.bool false)], args := [d] }
  | _ => none }
def RecordGetsWrongFalsely : Prop := recordGetsRow.holds Tryd.pinned (OpenSpec.ofChange recordGetsWrong)

/-- 'millpondlaw04.RecordRuns': WHATEVER THE INPUT: true; the input reads as it did. -/
def recordRunsSpec : ChangeSpec := { name := "recordRuns", fn := fun _ => fun
  | [d1, d2] => { results := [.lit (.bool true)], args := [d1, d2] }
  | _ => none }
def recordRunsRow : OpenClaim := { program := "ytkpkiibahfdomaadoor", sum := "6fda266cca89bf940b893205c8344d20ef5eebacb894e72486a8051335f86d14", func := "millpond/millpondlaw04.RecordRuns", spec := "recordRuns", unfollowed := true, recurses := true, named := ["millpond/record.first"], apart := false, laid := [("millpond/record.first", laid_millpond_record_first)] }
def RecordRunsSaid : Prop := recordRunsRow.holds Tryd.pinned (OpenSpec.ofChange recordRunsSpec)

/-- ITS FALSE NEIGHBOUR: 'it returns false'. Refute it at one input. -/
def recordRunsWrong : ChangeSpec := { name := "recordRuns", fn := fun _ => fun
  | [d1, d2] => { results := [.lit (.bool false)], args := [d1, d2] }
  | _ => none }
def RecordRunsWrongFalsely : Prop := recordRunsRow.holds Tryd.pinned (OpenSpec.ofChange recordRunsWrong)

/-- 'millpondlaw04.RecordTorn': WHATEVER THE INPUT: true; the input reads as it did. -/
def recordTornSpec : ChangeSpec := { name := "recordTorn", fn := fun _ => fun
  | [d1, d2, d3] => { results := [.lit (.bool true)], args := [d1, d2, d3] }
  | _ => none }
def recordTornRow : OpenClaim := { program := "ytkpkiibahfdomaadoor", sum := "6fda266cca89bf940b893205c8344d20ef5eebacb894e72486a8051335f86d14", func := "millpond/millpondlaw04.RecordTorn", spec := "recordTorn", unfollowed := true, recurses := true, named := ["millpond/record.first"], apart := false, laid := [("millpond/record.first", laid_millpond_record_first)] }
def RecordTornSaid : Prop := recordTornRow.holds Tryd.pinned (OpenSpec.ofChange recordTornSpec)

/-- ITS FALSE NEIGHBOUR: 'it returns false'. Refute it at one input. -/
def recordTornWrong : ChangeSpec := { name := "recordTorn", fn := fun _ => fun
  | [d1, d2, d3] => { results := [.lit (.bool false)], args := [d1, d2, d3] }
  | _ => none }
def RecordTornWrongFalsely : Prop := recordTornRow.holds Tryd.pinned (OpenSpec.ofChange recordTornWrong)

/-- 'millpondlaw04.RecordBounds': WHATEVER THE INPUT: true; the input reads as it did. -/
def recordBoundsSpec : ChangeSpec := { name := "recordBounds", fn := fun _ => fun
  | [] => { results := [.lit (.bool true)], args := [] }
  | _ => none }
def recordBoundsRow : OpenClaim := { program := "ytkpkiibahfdomaadoor", sum := "6fda266cca89bf940b893205c8344d20ef5eebacb894e72486a8051335f86d14", func := "millpond/millpondlaw04.RecordBounds", spec := "recordBounds", unfollowed := true, recurses := true, named := ["millpond/record.first"], apart := false, laid := [("millpond/record.first", laid_millpond_record_first)] }
def RecordBoundsSaid : Prop := recordBoundsRow.holds Tryd.pinned (OpenSpec.ofChange recordBoundsSpec)

/-- ITS FALSE NEIGHBOUR: 'it returns false'. Refute it at one input. -/
def recordBoundsWrong : ChangeSpec := { name := "recordBounds", fn := fun _ => fun
  | [] => { results := [.lit (.bool false)], args := [] }
  | _ => none }
def RecordBoundsWrongFalsely : Prop := recordBoundsRow.holds Tryd.pinned (OpenSpec.ofChange recordBoundsWrong)

/- THE SECOND FORM. 'bulk': how many values and letters a reading holds, each counted each time it is reached (what is shared counts as often as it is met; a slice's spare places count too). A statement '..UptoSaid' is the law's where the arguments, and the package variables that the reading takes, are together of bulk at most 1048576: NARROWER than '..Said'. Prove '..Said' where nothing that the law and all that it calls make is longer than what came in: it says more and counts as full. Else prove '..UptoSaid'. A law counts once. -/
mutual
def uptoBulk {H : Type} : DataW H → Nat
  | .lit (.string bytes) => bytes.length + 1
  | .lit _ => 1
  | .nil => 1
  | .ptr d => uptoBulk d + 1
  | .slice elems spare => uptoBulkAll elems + uptoBulkAll spare + 1
  | .agg parts => uptoBulkAll parts + 1
  | .iface _ d => uptoBulk d + 1
  | .map entries => uptoBulkEntries entries + 1
  | .held _ => 1
def uptoBulkAll {H : Type} : List (DataW H) → Nat
  | [] => 0
  | d :: r => uptoBulk d + uptoBulkAll r
def uptoBulkEntries {H : Type} : List (Lit × DataW H) → Nat
  | [] => 0
  | x :: r => uptoBulkEntry x + uptoBulkEntries r
def uptoBulkEntry {H : Type} : Lit × DataW H → Nat
  | (.string bytes, d) => bytes.length + uptoBulk d + 1
  | (_, d) => uptoBulk d + 1
 end
def uptoSmall : (H : Type) → List (DataW H) → Bool := fun _ ds => decide (uptoBulkAll ds ≤ 1048576)
def OpenSpec.upto (s : _root_.Go.ChangeSpec) : _root_.Go.OpenSpec := { _root_.Go.OpenSpec.ofChange s with cond := some uptoSmall }

/-- 'millpondlaw04.RecordPuts', WHERE WHAT IT READS IS OF BULK AT MOST 1048576: true; the input reads as it did. -/
def recordPutsUptoRow : OpenClaim := { program := "ytkpkiibahfdomaadoor", sum := "6fda266cca89bf940b893205c8344d20ef5eebacb894e72486a8051335f86d14", func := "millpond/millpondlaw04.RecordPuts", spec := "recordPuts", unfollowed := true, recurses := true, named := ["millpond/record.first"], apart := false, laid := [("millpond/record.first", laid_millpond_record_first)], narrowed := true }
def RecordPutsUptoSaid : Prop := recordPutsUptoRow.holds Tryd.pinned (OpenSpec.upto recordPutsSpec)

/-- 'millpondlaw04.RecordGets', WHERE WHAT IT READS IS OF BULK AT MOST 1048576: true; the input reads as it did. -/
def recordGetsUptoRow : OpenClaim := { program := "ytkpkiibahfdomaadoor", sum := "6fda266cca89bf940b893205c8344d20ef5eebacb894e72486a8051335f86d14", func := "millpond/millpondlaw04.RecordGets", spec := "recordGets", unfollowed := true, recurses := true, named := ["millpond/record.first"], apart := false, laid := [("millpond/record.first", laid_millpond_record_first)], narrowed := true }
def RecordGetsUptoSaid : Prop := recordGetsUptoRow.holds Tryd.pinned (OpenSpec.upto recordGetsSpec)

/-- 'millpondlaw04.RecordRuns', WHERE WHAT IT READS IS OF BULK AT MOST 1048576: true; the input reads as it did. -/
def recordRunsUptoRow : OpenClaim := { program := "ytkpkiibahfdomaadoor", sum := "6fda266cca89bf940b893205c8344d20ef5eebacb894e72486a8051335f86d14", func := "millpond/millpondlaw04.RecordRuns", spec := "recordRuns", unfollowed := true, recurses := true, named := ["millpond/record.first"], apart := false, laid := [("millpond/record.first", laid_millpond_record_first)], narrowed := true }
def RecordRunsUptoSaid : Prop := recordRunsUptoRow.holds Tryd.pinned (OpenSpec.upto recordRunsSpec)

/-- 'millpondlaw04.RecordTorn', WHERE WHAT IT READS IS OF BULK AT MOST 1048576: true; the input reads as it did. -/
def recordTornUptoRow : OpenClaim := { program := "ytkpkiibahfdomaadoor", sum := "6fda266cca89bf940b893205c8344d20ef5eebacb894e72486a8051335f86d14", func := "millpond/millpondlaw04.RecordTorn", spec := "recordTorn", unfollowed := true, recurses := true, named := ["millpond/record.first"], apart := false, laid := [("millpond/record.first", laid_millpond_record_first)], narrowed := true }
def RecordTornUptoSaid : Prop := recordTornUptoRow.holds Tryd.pinned (OpenSpec.upto recordTornSpec)

/-- 'millpondlaw04.RecordBounds', WHERE WHAT IT READS IS OF BULK AT MOST 1048576: true; the input reads as it did. -/
def recordBoundsUptoRow : OpenClaim := { program := "ytkpkiibahfdomaadoor", sum := "6fda266cca89bf940b893205c8344d20ef5eebacb894e72486a8051335f86d14", func := "millpond/millpondlaw04.RecordBounds", spec := "recordBounds", unfollowed := true, recurses := true, named := ["millpond/record.first"], apart := false, laid := [("millpond/record.first", laid_millpond_record_first)], narrowed := true }
def RecordBoundsUptoSaid : Prop := recordBoundsUptoRow.holds Tryd.pinned (OpenSpec.upto recordBoundsSpec)

end Rows
end Go.Proofs.YtkpkiibahfdomaaDoor
