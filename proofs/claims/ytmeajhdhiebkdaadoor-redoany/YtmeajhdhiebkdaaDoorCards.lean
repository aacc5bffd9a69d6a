/-
  DERIVED. GIVEN WITH THE SEED: THE CARDS: each row of YtmeajhdhiebkdaaDoorRows.lean that lists a variable, with what it lists TIED to the program's text (the seventh form; the later family's looks); each row that meets fmt, with fmt's text TOLD by the authors' own Lean function (tested against real Go, not proved from fmt's source: count such statements apart). THE CARD IS WHAT COUNTS. Prove the row's statement (the work); the ties are given (YtmeajhdhiebkdaaDoorTie.lean); close each card by the builder's one call (the guide's Derived/Test/ToyasCard.lean, 'card_holds'). Laid BY PROGRAM, IN A SANDBOX (cutbox-door.mjs). By AI agents, Wed Nov 11 2026. No macro, syntax, notation, axiom, sorry.
-/
import Derived.Test.YtmeajhdhiebkdaaDoorRows
import GoSem.ClaimSeven
namespace Go.Proofs.YtmeajhdhiebkdaaDoor
namespace Rows

/-- THE TIED CARD OF 'millpondlaw06.RedoTorn'. -/
def redoTornCard : Claim7 := { stood := { row := redoTornRow, standIns := [], harness := (true, "4cc26c58819661235ef531a128e2421da586cc7150279bf8583e44faf5821f83"), looks := false }, kinds := [], alts := [], laidByText := true, laidKinds := [.data], laidTests := true, laidLooks := .later }
def RedoTornCardSaid : Prop := Claim7.holds Tryd.pinned (.plain (OpenSpec.ofChange redoTornSpec)) redoTornCard

/-- THE TIED CARD OF 'millpondlaw06.RedoRounds'. -/
def redoRoundsCard : Claim7 := { stood := { row := redoRoundsRow, standIns := [], harness := (true, "4cc26c58819661235ef531a128e2421da586cc7150279bf8583e44faf5821f83"), looks := false }, kinds := [], alts := [], laidByText := true, laidKinds := [.data], laidTests := true, laidLooks := .later }
def RedoRoundsCardSaid : Prop := Claim7.holds Tryd.pinned (.plain (OpenSpec.ofChange redoRoundsSpec)) redoRoundsCard

/-- THE TIED CARD OF 'millpondlaw06.RedoAny'. -/
def redoAnyCard : Claim7 := { stood := { row := redoAnyRow, standIns := [], harness := (true, "4cc26c58819661235ef531a128e2421da586cc7150279bf8583e44faf5821f83"), looks := false }, kinds := [], alts := [], laidByText := true, laidKinds := [.data], laidTests := true, laidLooks := .later }
def RedoAnyCardSaid : Prop := Claim7.holds Tryd.pinned (.plain (OpenSpec.ofChange redoAnySpec)) redoAnyCard

/-- THE TIED CARD OF 'millpondlaw06.RedoReads'. -/
def redoReadsCard : Claim7 := { stood := { row := redoReadsRow, standIns := [], harness := (true, "4cc26c58819661235ef531a128e2421da586cc7150279bf8583e44faf5821f83"), looks := false }, kinds := [], alts := [], laidByText := true, laidKinds := [.data], laidTests := true, laidLooks := .later }
def RedoReadsCardSaid : Prop := Claim7.holds Tryd.pinned (.plain (OpenSpec.ofChange redoReadsSpec)) redoReadsCard

/-- THE TIED CARD OF 'millpondlaw06.RedoNil'. -/
def redoNilCard : Claim7 := { stood := { row := redoNilRow, standIns := [], harness := (true, "4cc26c58819661235ef531a128e2421da586cc7150279bf8583e44faf5821f83"), looks := false }, kinds := [], alts := [], laidByText := true, laidKinds := [.data], laidTests := true, laidLooks := .later }
def RedoNilCardSaid : Prop := Claim7.holds Tryd.pinned (.plain (OpenSpec.ofChange redoNilSpec)) redoNilCard

/-- THE SECOND FORM's CARD OF 'millpondlaw06.RedoTorn'. -/
def redoTornUptoCard : Claim7 := { stood := { row := redoTornUptoRow, standIns := [], harness := (true, "4cc26c58819661235ef531a128e2421da586cc7150279bf8583e44faf5821f83"), looks := false }, kinds := [], alts := [], laidByText := true, laidKinds := [.data], laidTests := true, laidLooks := .later }
def RedoTornUptoCardSaid : Prop := Claim7.holds Tryd.pinned (.plain (OpenSpec.upto redoTornSpec)) redoTornUptoCard

/-- THE SECOND FORM's CARD OF 'millpondlaw06.RedoRounds'. -/
def redoRoundsUptoCard : Claim7 := { stood := { row := redoRoundsUptoRow, standIns := [], harness := (true, "4cc26c58819661235ef531a128e2421da586cc7150279bf8583e44faf5821f83"), looks := false }, kinds := [], alts := [], laidByText := true, laidKinds := [.data], laidTests := true, laidLooks := .later }
def RedoRoundsUptoCardSaid : Prop := Claim7.holds Tryd.pinned (.plain (OpenSpec.upto redoRoundsSpec)) redoRoundsUptoCard

/-- THE SECOND FORM's CARD OF 'millpondlaw06.RedoAny'. -/
def redoAnyUptoCard : Claim7 := { stood := { row := redoAnyUptoRow, standIns := [], harness := (true, "4cc26c58819661235ef531a128e2421da586cc7150279bf8583e44faf5821f83"), looks := false }, kinds := [], alts := [], laidByText := true, laidKinds := [.data], laidTests := true, laidLooks := .later }
def RedoAnyUptoCardSaid : Prop := Claim7.holds Tryd.pinned (.plain (OpenSpec.upto redoAnySpec)) redoAnyUptoCard

/-- THE SECOND FORM's CARD OF 'millpondlaw06.RedoReads'. -/
def redoReadsUptoCard : Claim7 := { stood := { row := redoReadsUptoRow, standIns := [], harness := (true, "4cc26c58819661235ef531a128e2421da586cc7150279bf8583e44faf5821f83"), looks := false }, kinds := [], alts := [], laidByText := true, laidKinds := [.data], laidTests := true, laidLooks := .later }
def RedoReadsUptoCardSaid : Prop := Claim7.holds Tryd.pinned (.plain (OpenSpec.upto redoReadsSpec)) redoReadsUptoCard

/-- THE SECOND FORM's CARD OF 'millpondlaw06.RedoNil'. -/
def redoNilUptoCard : Claim7 := { stood := { row := redoNilUptoRow, standIns := [], harness := (true, "4cc26c58819661235ef531a128e2421da586cc7150279bf8583e44faf5821f83"), looks := false }, kinds := [], alts := [], laidByText := true, laidKinds := [.data], laidTests := true, laidLooks := .later }
def RedoNilUptoCardSaid : Prop := Claim7.holds Tryd.pinned (.plain (OpenSpec.upto redoNilSpec)) redoNilUptoCard
end Rows
end Go.Proofs.YtmeajhdhiebkdaaDoor
