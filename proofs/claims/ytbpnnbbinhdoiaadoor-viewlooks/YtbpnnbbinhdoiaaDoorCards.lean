/-
  DERIVED. GIVEN WITH THE SEED: THE CARDS: each row of YtbpnnbbinhdoiaaDoorRows.lean that lists a variable, with what it lists TIED to the program's text (the seventh form; the later family's looks); each row that meets fmt, with fmt's text TOLD by the authors' own Lean function (tested against real Go, not proved from fmt's source: count such statements apart). THE CARD IS WHAT COUNTS. Prove the row's statement (the work); the ties are given (YtbpnnbbinhdoiaaDoorTie.lean); close each card by the builder's one call (the guide's Derived/Test/ToyasCard.lean, 'card_holds'). Laid BY PROGRAM, IN A SANDBOX (cutbox-door.mjs). By AI agents, Wed Nov 11 2026. No macro, syntax, notation, axiom, sorry.
-/
import Derived.Test.YtbpnnbbinhdoiaaDoorRows
import GoSem.ClaimSeven
namespace Go.Proofs.YtbpnnbbinhdoiaaDoor
namespace Rows

/-- THE TIED CARD OF 'millpondlaw09.ViewPuts'. -/
def viewPutsCard : Claim7 := { stood := { row := viewPutsRow, standIns := [], harness := (true, "9078cffbf71d4b6bef65e9237c4c6fa9d60e62b91ee7c3ce95b7e30ef9f66480"), looks := false }, kinds := [], alts := [], laidByText := true, laidKinds := [.data], laidTests := true, laidLooks := .later }
def ViewPutsCardSaid : Prop := Claim7.holds Tryd.pinned (.plain (OpenSpec.ofChange viewPutsSpec)) viewPutsCard

/-- THE TIED CARD OF 'millpondlaw09.ViewNext'. -/
def viewNextCard : Claim7 := { stood := { row := viewNextRow, standIns := [], harness := (true, "9078cffbf71d4b6bef65e9237c4c6fa9d60e62b91ee7c3ce95b7e30ef9f66480"), looks := false }, kinds := [], alts := [], laidByText := true, laidKinds := [.data], laidTests := true, laidLooks := .later }
def ViewNextCardSaid : Prop := Claim7.holds Tryd.pinned (.plain (OpenSpec.ofChange viewNextSpec)) viewNextCard

/-- THE TIED CARD OF 'millpondlaw09.ViewLooks'. -/
def viewLooksCard : Claim7 := { stood := { row := viewLooksRow, standIns := [], harness := (true, "9078cffbf71d4b6bef65e9237c4c6fa9d60e62b91ee7c3ce95b7e30ef9f66480"), looks := false }, kinds := [], alts := [], laidByText := true, laidKinds := [.data], laidTests := true, laidLooks := .later }
def ViewLooksCardSaid : Prop := Claim7.holds Tryd.pinned (.plain (OpenSpec.ofChange viewLooksSpec)) viewLooksCard

/-- THE TIED CARD OF 'millpondlaw09.ViewMasters'. -/
def viewMastersCard : Claim7 := { stood := { row := viewMastersRow, standIns := [], harness := (true, "9078cffbf71d4b6bef65e9237c4c6fa9d60e62b91ee7c3ce95b7e30ef9f66480"), looks := false }, kinds := [], alts := [], laidByText := true, laidKinds := [.data], laidTests := true, laidLooks := .later }
def ViewMastersCardSaid : Prop := Claim7.holds Tryd.pinned (.plain (OpenSpec.ofChange viewMastersSpec)) viewMastersCard

/-- THE TIED CARD OF 'millpondlaw09.ViewBounds'. -/
def viewBoundsCard : Claim7 := { stood := { row := viewBoundsRow, standIns := [], harness := (true, "9078cffbf71d4b6bef65e9237c4c6fa9d60e62b91ee7c3ce95b7e30ef9f66480"), looks := false }, kinds := [], alts := [], laidByText := true, laidKinds := [.data], laidTests := true, laidLooks := .later }
def ViewBoundsCardSaid : Prop := Claim7.holds Tryd.pinned (.plain (OpenSpec.ofChange viewBoundsSpec)) viewBoundsCard

/-- THE SECOND FORM's CARD OF 'millpondlaw09.ViewPuts'. -/
def viewPutsUptoCard : Claim7 := { stood := { row := viewPutsUptoRow, standIns := [], harness := (true, "9078cffbf71d4b6bef65e9237c4c6fa9d60e62b91ee7c3ce95b7e30ef9f66480"), looks := false }, kinds := [], alts := [], laidByText := true, laidKinds := [.data], laidTests := true, laidLooks := .later }
def ViewPutsUptoCardSaid : Prop := Claim7.holds Tryd.pinned (.plain (OpenSpec.upto viewPutsSpec)) viewPutsUptoCard

/-- THE SECOND FORM's CARD OF 'millpondlaw09.ViewNext'. -/
def viewNextUptoCard : Claim7 := { stood := { row := viewNextUptoRow, standIns := [], harness := (true, "9078cffbf71d4b6bef65e9237c4c6fa9d60e62b91ee7c3ce95b7e30ef9f66480"), looks := false }, kinds := [], alts := [], laidByText := true, laidKinds := [.data], laidTests := true, laidLooks := .later }
def ViewNextUptoCardSaid : Prop := Claim7.holds Tryd.pinned (.plain (OpenSpec.upto viewNextSpec)) viewNextUptoCard

/-- THE SECOND FORM's CARD OF 'millpondlaw09.ViewLooks'. -/
def viewLooksUptoCard : Claim7 := { stood := { row := viewLooksUptoRow, standIns := [], harness := (true, "9078cffbf71d4b6bef65e9237c4c6fa9d60e62b91ee7c3ce95b7e30ef9f66480"), looks := false }, kinds := [], alts := [], laidByText := true, laidKinds := [.data], laidTests := true, laidLooks := .later }
def ViewLooksUptoCardSaid : Prop := Claim7.holds Tryd.pinned (.plain (OpenSpec.upto viewLooksSpec)) viewLooksUptoCard

/-- THE SECOND FORM's CARD OF 'millpondlaw09.ViewMasters'. -/
def viewMastersUptoCard : Claim7 := { stood := { row := viewMastersUptoRow, standIns := [], harness := (true, "9078cffbf71d4b6bef65e9237c4c6fa9d60e62b91ee7c3ce95b7e30ef9f66480"), looks := false }, kinds := [], alts := [], laidByText := true, laidKinds := [.data], laidTests := true, laidLooks := .later }
def ViewMastersUptoCardSaid : Prop := Claim7.holds Tryd.pinned (.plain (OpenSpec.upto viewMastersSpec)) viewMastersUptoCard

/-- THE SECOND FORM's CARD OF 'millpondlaw09.ViewBounds'. -/
def viewBoundsUptoCard : Claim7 := { stood := { row := viewBoundsUptoRow, standIns := [], harness := (true, "9078cffbf71d4b6bef65e9237c4c6fa9d60e62b91ee7c3ce95b7e30ef9f66480"), looks := false }, kinds := [], alts := [], laidByText := true, laidKinds := [.data], laidTests := true, laidLooks := .later }
def ViewBoundsUptoCardSaid : Prop := Claim7.holds Tryd.pinned (.plain (OpenSpec.upto viewBoundsSpec)) viewBoundsUptoCard
end Rows
end Go.Proofs.YtbpnnbbinhdoiaaDoor
