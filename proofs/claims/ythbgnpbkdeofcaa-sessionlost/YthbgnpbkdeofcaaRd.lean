/-
  The document's session: Come, whole.
-/
import Derived.Test.YthbgnpbkdeofcaaRc
namespace Go.Proofs.Ythbgnpbkdeofcaa
set_option maxRecDepth 100000
open Go.RowKit

theorem rcome21 (b : Nat) (v : Value) (ws : List Value) (P : Ps) (d : Dg) (uo : Option Addr) (m uc : Nat) (w : World) (h : Rx w b v ws P) (hm : d.bs.length = m) (hV : Vals w uo m uc (u8s d.bs)) (hnil : uo = none → m = 0 ∧ uc = 0) (hby : ∀ x ∈ d.bs, 0 ≤ x ∧ x < 256) (hVX : ∀ g off, u8s d.bs ≠ [] → uo = some ⟨g, off, none⟩ → g ∉ b :: v.ownBlock.toList) : Calls Try.prog 21 #[P0 b, aggV (d.C (.slice uo m uc))] w fun e w' => CRr w b v ws P d e w' := by
  cases hno : P.no d with
  | false =>
    by_cases h0 : d.seq = 0
    · exact rcome_0 b v ws P d uo m uc w h hm hno h0
    · by_cases hx : d.seq = P.got + 1
      · exact rcome_next b v ws P d uo m uc w h hm hno h0 hx hV hnil hby hVX
      · exact rcome_far b v ws P d uo m uc w h hm hno h0 hx
  | true =>
    have hcm := come_eq_no hno
    have hlen := h.len
    have hmany := h.ok.many
    suffices hC : Calls Try.prog 21 #[P0 b, aggV (d.C (.slice uo m uc))] w fun e w' => e = .returned (.tuple #[.slice none 0 0, .bool false]) ∧ Kept [] w w' by
      refine hC.mono ?_
      rintro e w' ⟨rfl, hk⟩
      exact ⟨.slice none 0 0, by rw [hcm]; rfl, by rw [hcm]; exact RR.same h hk, by rw [hcm]; exact bod_nil _, fun k e => by cases e⟩
    unfold Ps.no numB at hno
    cases g1 : decide (d.fr = P.oth) with
    | false => exact rno_1 b v ws P d uo m uc w h g1
    | true =>
      cases g2 : decide (d.to = P.me) with
      | false => exact rno_2 b v ws P d uo m uc w h g1 g2
      | true =>
        cases g3 : decide (d.vw = P.view) with
        | false => exact rno_3 b v ws P d uo m uc w h g1 g2 g3
        | true =>
          cases g4 : decide (d.seq < 0) with
          | true => exact rno_4 b v ws P d uo m uc w h g1 g2 g3 g4
          | false =>
            cases g5 : decide (4611686018427387904 < d.seq) with
            | true => exact rno_5 b v ws P d uo m uc w h g1 g2 g3 g4 g5
            | false =>
              cases g6 : decide (d.ack < 0) with
              | true => exact rno_6 b v ws P d uo m uc w h g1 g2 g3 g4 g5 g6
              | false =>
                cases g7 : decide ((ws.length : Int) < d.ack) with
                | true => exact rno_7 b v ws P d uo m uc w h g1 g2 g3 g4 g5 g6 g7
                | false =>
                  cases g8 : decide ((256 : Int) < (m : Int)) with
                  | true => exact rno_8 b v ws P d uo m uc w h g1 g2 g3 g4 g5 g6 g7 g8
                  | false =>
                    have hq : d.seq = 0 ∧ (0 : Int) < (m : Int) := by
                      simp only [decide_eq_true_eq, decide_eq_false_iff_not] at g1 g2 g3 g4 g5 g6 g7 g8
                      rw [hlen] at g7
                      simp only [Bool.or_eq_true, Bool.not_eq_true', Bool.and_eq_false_iff, Bool.and_eq_true, decide_eq_true_eq, decide_eq_false_iff_not] at hno
                      omega
                    exact rno_9 b v ws P d uo m uc w h g1 g2 g3 g4 g5 g6 g7 g8 (by simpa using hq.2) (by simpa using hq.1)

end Go.Proofs.Ythbgnpbkdeofcaa
