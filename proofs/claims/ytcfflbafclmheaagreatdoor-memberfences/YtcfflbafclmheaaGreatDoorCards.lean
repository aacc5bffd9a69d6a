/-
  DERIVED. GIVEN WITH THE SEED: THE CARDS: each row of YtcfflbafclmheaaGreatDoorRows.lean that lists a variable, with what it lists TIED to the program's text (the seventh form; the later family's looks); each row that meets fmt, with fmt's text TOLD by the authors' own Lean function (tested against real Go, not proved from fmt's source: count such statements apart). THE CARD IS WHAT COUNTS. Prove the row's statement (the work); the ties are given (YtcfflbafclmheaaGreatDoorTie.lean); close each card by the builder's one call (the guide's Derived/Test/ToyasCard.lean, 'card_holds'). Laid BY PROGRAM, IN A SANDBOX (cutbox-door.mjs). By AI agents, Wed Nov 11 2026. No macro, syntax, notation, axiom, sorry.
-/
import Derived.Test.YtcfflbafclmheaaGreatDoorRows
import GoSem.ClaimSeven
namespace Go.Proofs.YtcfflbafclmheaaGreatDoor
namespace Rows

/-- THE TIED CARD OF 'millpondlaw11.MemberPlays'. -/
def memberPlaysCard : Claim7 := { stood := { row := memberPlaysRow, standIns := [], harness := (true, "4d0bed4a7eaaaf6a41b2a3a319468dd78987c4c359ad448da8d1178b55e2aff9"), looks := true }, kinds := [], alts := [], laidByText := true, laidKinds := [.data], laidTests := true, laidLooks := .later }
def MemberPlaysCardSaid : Prop := Claim7.holds Tryz.pinned (.plain (OpenSpec.ofChange memberPlaysSpec)) memberPlaysCard

/-- THE TIED CARD OF 'millpondlaw11.MemberFences'. -/
def memberFencesCard : Claim7 := { stood := { row := memberFencesRow, standIns := [], harness := (true, "4d0bed4a7eaaaf6a41b2a3a319468dd78987c4c359ad448da8d1178b55e2aff9"), looks := true }, kinds := [], alts := [], laidByText := true, laidKinds := [.data], laidTests := true, laidLooks := .later }
def MemberFencesCardSaid : Prop := Claim7.holds Tryz.pinned (.plain (OpenSpec.ofChange memberFencesSpec)) memberFencesCard

/-- THE TIED CARD OF 'millpondlaw11.MemberFenced'. -/
def memberFencedCard : Claim7 := { stood := { row := memberFencedRow, standIns := [], harness := (true, "4d0bed4a7eaaaf6a41b2a3a319468dd78987c4c359ad448da8d1178b55e2aff9"), looks := true }, kinds := [], alts := [], laidByText := true, laidKinds := [.data], laidTests := true, laidLooks := .later }
def MemberFencedCardSaid : Prop := Claim7.holds Tryz.pinned (.plain (OpenSpec.ofChange memberFencedSpec)) memberFencedCard

/-- THE TIED CARD OF 'millpondlaw11.MemberAny'. -/
def memberAnyCard : Claim7 := { stood := { row := memberAnyRow, standIns := [], harness := (true, "4d0bed4a7eaaaf6a41b2a3a319468dd78987c4c359ad448da8d1178b55e2aff9"), looks := true }, kinds := [], alts := [], laidByText := true, laidKinds := [.data], laidTests := true, laidLooks := .later }
def MemberAnyCardSaid : Prop := Claim7.holds Tryz.pinned (.plain (OpenSpec.ofChange memberAnySpec)) memberAnyCard

/-- THE TIED CARD OF 'millpondlaw11.MemberNil'. -/
def memberNilCard : Claim7 := { stood := { row := memberNilRow, standIns := [], harness := (true, "4d0bed4a7eaaaf6a41b2a3a319468dd78987c4c359ad448da8d1178b55e2aff9"), looks := true }, kinds := [], alts := [], laidByText := true, laidKinds := [.data], laidTests := true, laidLooks := .later }
def MemberNilCardSaid : Prop := Claim7.holds Tryz.pinned (.plain (OpenSpec.ofChange memberNilSpec)) memberNilCard

/-- THE SECOND FORM's CARD OF 'millpondlaw11.MemberPlays'. -/
def memberPlaysUptoCard : Claim7 := { stood := { row := memberPlaysUptoRow, standIns := [], harness := (true, "4d0bed4a7eaaaf6a41b2a3a319468dd78987c4c359ad448da8d1178b55e2aff9"), looks := true }, kinds := [], alts := [], laidByText := true, laidKinds := [.data], laidTests := true, laidLooks := .later }
def MemberPlaysUptoCardSaid : Prop := Claim7.holds Tryz.pinned (.plain (OpenSpec.upto memberPlaysSpec)) memberPlaysUptoCard

/-- THE SECOND FORM's CARD OF 'millpondlaw11.MemberFences'. -/
def memberFencesUptoCard : Claim7 := { stood := { row := memberFencesUptoRow, standIns := [], harness := (true, "4d0bed4a7eaaaf6a41b2a3a319468dd78987c4c359ad448da8d1178b55e2aff9"), looks := true }, kinds := [], alts := [], laidByText := true, laidKinds := [.data], laidTests := true, laidLooks := .later }
def MemberFencesUptoCardSaid : Prop := Claim7.holds Tryz.pinned (.plain (OpenSpec.upto memberFencesSpec)) memberFencesUptoCard

/-- THE SECOND FORM's CARD OF 'millpondlaw11.MemberFenced'. -/
def memberFencedUptoCard : Claim7 := { stood := { row := memberFencedUptoRow, standIns := [], harness := (true, "4d0bed4a7eaaaf6a41b2a3a319468dd78987c4c359ad448da8d1178b55e2aff9"), looks := true }, kinds := [], alts := [], laidByText := true, laidKinds := [.data], laidTests := true, laidLooks := .later }
def MemberFencedUptoCardSaid : Prop := Claim7.holds Tryz.pinned (.plain (OpenSpec.upto memberFencedSpec)) memberFencedUptoCard

/-- THE SECOND FORM's CARD OF 'millpondlaw11.MemberAny'. -/
def memberAnyUptoCard : Claim7 := { stood := { row := memberAnyUptoRow, standIns := [], harness := (true, "4d0bed4a7eaaaf6a41b2a3a319468dd78987c4c359ad448da8d1178b55e2aff9"), looks := true }, kinds := [], alts := [], laidByText := true, laidKinds := [.data], laidTests := true, laidLooks := .later }
def MemberAnyUptoCardSaid : Prop := Claim7.holds Tryz.pinned (.plain (OpenSpec.upto memberAnySpec)) memberAnyUptoCard

/-- THE SECOND FORM's CARD OF 'millpondlaw11.MemberNil'. -/
def memberNilUptoCard : Claim7 := { stood := { row := memberNilUptoRow, standIns := [], harness := (true, "4d0bed4a7eaaaf6a41b2a3a319468dd78987c4c359ad448da8d1178b55e2aff9"), looks := true }, kinds := [], alts := [], laidByText := true, laidKinds := [.data], laidTests := true, laidLooks := .later }
def MemberNilUptoCardSaid : Prop := Claim7.holds Tryz.pinned (.plain (OpenSpec.upto memberNilSpec)) memberNilUptoCard
end Rows
end Go.Proofs.YtcfflbafclmheaaGreatDoor
