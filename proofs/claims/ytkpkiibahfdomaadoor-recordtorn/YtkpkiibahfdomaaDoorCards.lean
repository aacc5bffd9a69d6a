/-
  DERIVED. GIVEN WITH THE SEED: THE CARDS: each row of YtkpkiibahfdomaaDoorRows.lean that lists a variable, with what it lists TIED to the program's text (the seventh form; the later family's looks); each row that meets fmt, with fmt's text TOLD by the authors' own Lean function (tested against real Go, not proved from fmt's source: count such statements apart). THE CARD IS WHAT COUNTS. Prove the row's statement (the work); the ties are given (YtkpkiibahfdomaaDoorTie.lean); close each card by the builder's one call (the guide's Derived/Test/ToyasCard.lean, 'card_holds'). Laid BY PROGRAM, IN A SANDBOX (cutbox-door.mjs). By AI agents, Wed Nov 11 2026. No macro, syntax, notation, axiom, sorry.
-/
import Derived.Test.YtkpkiibahfdomaaDoorRows
import GoSem.ClaimSeven
namespace Go.Proofs.YtkpkiibahfdomaaDoor
namespace Rows

/-- THE TIED CARD OF 'millpondlaw04.RecordPuts'. -/
def recordPutsCard : Claim7 := { stood := { row := recordPutsRow, standIns := [], harness := (true, "976b82ef3f561ab54c97fa6eef50e5ecb31e72b0eb9a4930f76c2d7dca73afe5"), looks := false }, kinds := [], alts := [], laidByText := true, laidKinds := [.data], laidTests := true, laidLooks := .later }
def RecordPutsCardSaid : Prop := Claim7.holds Tryd.pinned (.plain (OpenSpec.ofChange recordPutsSpec)) recordPutsCard

/-- THE TIED CARD OF 'millpondlaw04.RecordGets'. -/
def recordGetsCard : Claim7 := { stood := { row := recordGetsRow, standIns := [], harness := (true, "976b82ef3f561ab54c97fa6eef50e5ecb31e72b0eb9a4930f76c2d7dca73afe5"), looks := false }, kinds := [], alts := [], laidByText := true, laidKinds := [.data], laidTests := true, laidLooks := .later }
def RecordGetsCardSaid : Prop := Claim7.holds Tryd.pinned (.plain (OpenSpec.ofChange recordGetsSpec)) recordGetsCard

/-- THE TIED CARD OF 'millpondlaw04.RecordRuns'. -/
def recordRunsCard : Claim7 := { stood := { row := recordRunsRow, standIns := [], harness := (true, "976b82ef3f561ab54c97fa6eef50e5ecb31e72b0eb9a4930f76c2d7dca73afe5"), looks := false }, kinds := [], alts := [], laidByText := true, laidKinds := [.data], laidTests := true, laidLooks := .later }
def RecordRunsCardSaid : Prop := Claim7.holds Tryd.pinned (.plain (OpenSpec.ofChange recordRunsSpec)) recordRunsCard

/-- THE TIED CARD OF 'millpondlaw04.RecordTorn'. -/
def recordTornCard : Claim7 := { stood := { row := recordTornRow, standIns := [], harness := (true, "976b82ef3f561ab54c97fa6eef50e5ecb31e72b0eb9a4930f76c2d7dca73afe5"), looks := false }, kinds := [], alts := [], laidByText := true, laidKinds := [.data], laidTests := true, laidLooks := .later }
def RecordTornCardSaid : Prop := Claim7.holds Tryd.pinned (.plain (OpenSpec.ofChange recordTornSpec)) recordTornCard

/-- THE TIED CARD OF 'millpondlaw04.RecordBounds'. -/
def recordBoundsCard : Claim7 := { stood := { row := recordBoundsRow, standIns := [], harness := (true, "976b82ef3f561ab54c97fa6eef50e5ecb31e72b0eb9a4930f76c2d7dca73afe5"), looks := false }, kinds := [], alts := [], laidByText := true, laidKinds := [.data], laidTests := true, laidLooks := .later }
def RecordBoundsCardSaid : Prop := Claim7.holds Tryd.pinned (.plain (OpenSpec.ofChange recordBoundsSpec)) recordBoundsCard

/-- THE SECOND FORM's CARD OF 'millpondlaw04.RecordPuts'. -/
def recordPutsUptoCard : Claim7 := { stood := { row := recordPutsUptoRow, standIns := [], harness := (true, "976b82ef3f561ab54c97fa6eef50e5ecb31e72b0eb9a4930f76c2d7dca73afe5"), looks := false }, kinds := [], alts := [], laidByText := true, laidKinds := [.data], laidTests := true, laidLooks := .later }
def RecordPutsUptoCardSaid : Prop := Claim7.holds Tryd.pinned (.plain (OpenSpec.upto recordPutsSpec)) recordPutsUptoCard

/-- THE SECOND FORM's CARD OF 'millpondlaw04.RecordGets'. -/
def recordGetsUptoCard : Claim7 := { stood := { row := recordGetsUptoRow, standIns := [], harness := (true, "976b82ef3f561ab54c97fa6eef50e5ecb31e72b0eb9a4930f76c2d7dca73afe5"), looks := false }, kinds := [], alts := [], laidByText := true, laidKinds := [.data], laidTests := true, laidLooks := .later }
def RecordGetsUptoCardSaid : Prop := Claim7.holds Tryd.pinned (.plain (OpenSpec.upto recordGetsSpec)) recordGetsUptoCard

/-- THE SECOND FORM's CARD OF 'millpondlaw04.RecordRuns'. -/
def recordRunsUptoCard : Claim7 := { stood := { row := recordRunsUptoRow, standIns := [], harness := (true, "976b82ef3f561ab54c97fa6eef50e5ecb31e72b0eb9a4930f76c2d7dca73afe5"), looks := false }, kinds := [], alts := [], laidByText := true, laidKinds := [.data], laidTests := true, laidLooks := .later }
def RecordRunsUptoCardSaid : Prop := Claim7.holds Tryd.pinned (.plain (OpenSpec.upto recordRunsSpec)) recordRunsUptoCard

/-- THE SECOND FORM's CARD OF 'millpondlaw04.RecordTorn'. -/
def recordTornUptoCard : Claim7 := { stood := { row := recordTornUptoRow, standIns := [], harness := (true, "976b82ef3f561ab54c97fa6eef50e5ecb31e72b0eb9a4930f76c2d7dca73afe5"), looks := false }, kinds := [], alts := [], laidByText := true, laidKinds := [.data], laidTests := true, laidLooks := .later }
def RecordTornUptoCardSaid : Prop := Claim7.holds Tryd.pinned (.plain (OpenSpec.upto recordTornSpec)) recordTornUptoCard

/-- THE SECOND FORM's CARD OF 'millpondlaw04.RecordBounds'. -/
def recordBoundsUptoCard : Claim7 := { stood := { row := recordBoundsUptoRow, standIns := [], harness := (true, "976b82ef3f561ab54c97fa6eef50e5ecb31e72b0eb9a4930f76c2d7dca73afe5"), looks := false }, kinds := [], alts := [], laidByText := true, laidKinds := [.data], laidTests := true, laidLooks := .later }
def RecordBoundsUptoCardSaid : Prop := Claim7.holds Tryd.pinned (.plain (OpenSpec.upto recordBoundsSpec)) recordBoundsUptoCard
end Rows
end Go.Proofs.YtkpkiibahfdomaaDoor
