/-
  The walk of RecordGets.
-/
import Derived.Test.YtkpkiibahfdomaaDoorStp
import Derived.Test.YtkpkiibahfdomaaDoorRtake
namespace Go.Proofs.YtkpkiibahfdomaaDoor
open Go.RowKit

theorem halfB_body {s : List Int} (hs : Byts 64 s) {h : Nat} (hh : h < 2) : halfB h (bodyK s h 48) = halfS s := by
  have hl := (halfS_byts hs).len
  have e : (s.drop 14).take 48 = halfS s := rfl
  unfold halfB bodyK
  rw [e]
  obtain rfl | rfl : h = 0 ∨ h = 1 := by omega
  · simp only [Nat.zero_mul, List.drop_zero]
    rw [show zs 0 = [] from rfl, List.nil_append, List.take_left' hl]
  · rw [List.append_assoc, List.drop_left' (by simp [zs]), List.take_left' hl]
theorem halfB_two {s : List Int} (hs : Byts 64 s) {h : Nat} (hh : h < 2) : halfB h (halfS s ++ halfS s) = halfS s := by
  have hl := (halfS_byts hs).len
  unfold halfB
  obtain rfl | rfl : h = 0 ∨ h = 1 := by omega
  · rw [Nat.zero_mul, List.drop_zero, List.take_left' hl]
  · rw [List.drop_left' (by omega), List.take_of_length_le (by omega)]
theorem laid_same {s : List Int} (hs : Byts 64 s) {h : Nat} (hh : h < 2) : laidR (readR s h) h = laidR (betR s s) h := by
  have e1 : laidD (readR s h) h = laidH (betR s s) h ++ halfB h (bodyK s h 48) := rfl
  have e2 : laidD (betR s s) h = laidH (betR s s) h ++ halfB h (halfS s ++ halfS s) := rfl
  unfold laidR
  rw [e1, e2, halfB_body hs hh, halfB_two hs hh]
theorem okH_eq {s : List Int} (hs : Byts 64 s) {h : Nat} (hh : h < 2) : okH s h = (isRec (betR s s) && decide (laidR (betR s s) h = s)) := by
  have e : isRec (readR s h) = isRec (betR s s) := rfl
  unfold okH
  rw [laid_same hs hh, e]
  congr 1
  exact Bool.eq_iff_iff.2 (by simp [eq_comm])
theorem laid_first (r : Rec) {h : Nat} (hh : h < 2) : (laidR r h)[0]? = some (177 + (h : Int)) := by
  simp [laidR, secOf, laidD, laidH, be]
  omega
theorem okH_c {s : List Int} (hs : Byts 64 s) {h : Nat} (hh : h < 2) {c : Int} (hc : s[0]? = some c) (hne : c ≠ 177 + h) : okH s h = false := by
  rw [okH_eq hs hh]
  have : ¬ laidR (betR s s) h = s := by
    intro e
    have := laid_first (betR s s) hh
    rw [e, hc] at this
    exact hne (Option.some.inj this)
  simp [this]
theorem rst21 (s : List Int) (hs : Byts 64 s) (w : World) : Calls Tryd.prog 21 #[aggV (u8s s)] w fun e w' => e = .returned (.tuple #[aggV (recC (stR s).1), .int .i64 (stR s).2.1, .bool (stR s).2.2]) ∧ Kept [] w w' := by
  have hR := (betR_ok hs hs).bd
  have hl := hs.len
  obtain ⟨c, hc⟩ : ∃ c, s[0]? = some c := ⟨_, List.getElem?_eq_getElem (by omega)⟩
  have hcb := hs.byte c (List.mem_of_getElem? hc)
  have hc0 : (u8s s)[0]? = some (.int .u8 c) := by simp [u8s, hc]
  have P39 := fun w => said39 s s hs hs w
  have P14 := fun w => may14 (betR s s) w
  have no : okH s 0 = false → okH s 1 = false → stR s = (zrec, 0, false) := fun h0 h1 => by simp [stR, h0, h1]
  by_cases h1 : c - 177 < 0
  · rw [no (okH_c hs (by omega) hc (by omega)) (okH_c hs (by omega) hc (by omega))]
    exact rst_A s hl c hcb hc0 _ hR.len P39 (by simpa using h1) w
  by_cases h2 : 1 < c - 177
  · rw [no (okH_c hs (by omega) hc (by omega)) (okH_c hs (by omega) hc (by omega))]
    exact rst_B s hl c hcb hc0 _ hR.len P39 (by simpa using h1) (by simpa using h2) w
  obtain ⟨h, hh, hce⟩ : ∃ h : Nat, h < 2 ∧ c = 177 + h := ⟨(c - 177).toNat, by omega, by omega⟩
  cases hI : isRec (betR s s) with
  | false =>
    rw [hI] at P14
    rw [no (by rw [okH_eq hs (by omega), hI]; rfl) (by rw [okH_eq hs (by omega), hI]; rfl)]
    exact rst_C s hl c hcb hc0 _ hR.len P39 (by simpa using h1) (by simpa using h2) P14 w
  | true =>
    rw [hI] at P14
    have P17 := fun w => half17 (betR s s) hI hR h hh w
    have lL := (laidR_byts (r := betR s s) hh hR).len
    have ec : c - 177 = (h : Int) := by omega
    by_cases hE : laidR (betR s s) h = s
    · have hok : okH s h = true := by rw [okH_eq hs hh, hI, hE]; simp
      have hst : stR s = (bareR (betR s s), c - 177, true) := by
        rw [ec]
        obtain rfl | rfl : h = 0 ∨ h = 1 := by omega
        · rw [stR, if_pos hok]; rfl
        · rw [stR, if_neg (by rw [okH_c hs (by omega) hc (by omega)]; simp), if_pos hok]; rfl
      rw [hst]
      exact rst_E s hl c hcb hc0 _ hR.len P39 (by simpa using h1) (by simpa using h2) P14 _ lL (fun w => by rw [ec]; exact P17 w) (by simpa using hE) w
    · have hno : okH s h = false := by rw [okH_eq hs hh, hI]; simp [hE]
      have hst : stR s = (zrec, 0, false) := by
        obtain rfl | rfl : h = 0 ∨ h = 1 := by omega
        · exact no hno (okH_c hs (by omega) hc (by omega))
        · exact no (okH_c hs (by omega) hc (by omega)) hno
      rw [hst]
      exact rst_D s hl c hcb hc0 _ hR.len P39 (by simpa using h1) (by simpa using h2) P14 _ lL (fun w => by rw [ec]; exact P17 w) (by simpa using hE) w
theorem stR_ok {s : List Int} : (stR s).1.bd.length = 96 := by
  unfold stR
  split
  · simp [bareR, zs]
  · split
    · simp [bareR, zs]
    · exact zrec_ok.bd.len

end Go.Proofs.YtkpkiibahfdomaaDoor
