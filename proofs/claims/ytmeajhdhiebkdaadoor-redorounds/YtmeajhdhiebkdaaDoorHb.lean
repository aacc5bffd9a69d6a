/-
  What Append, Flush and Cut leave of a device that holds its log.
-/
import Derived.Test.YtmeajhdhiebkdaaDoorHa
namespace Go.Proofs.YtmeajhdhiebkdaaDoor
set_option maxRecDepth 100000
open Go.RowKit

theorem mod_inj {a b l : Int} (hl : 0 < l) (h : a % l = b % l) (h1 : a - b < l) (h2 : b - a < l) : a = b := by
  have ea := Int.mul_ediv_add_emod a l
  have eb := Int.mul_ediv_add_emod b l
  rcases Int.lt_trichotomy (a / l) (b / l) with hx | hx | hx
  · have h3 : l * (a / l + 1) ≤ l * (b / l) := Int.mul_le_mul_of_nonneg_left (by omega) (by omega)
    rw [Int.mul_add, Int.mul_one] at h3
    omega
  · rw [hx] at ea
    omega
  · have h3 : l * (b / l + 1) ≤ l * (a / l) := Int.mul_le_mul_of_nonneg_left (by omega) (by omega)
    rw [Int.mul_add, Int.mul_one] at h3
    omega
/-- The place of a number. -/
def plc (J : Ar.Job) (nd s : Int) : Int := 9 + nd * (1 + 2 * J.l) + 1 + 2 * ((s - 1) % J.l)
theorem rec_plc {J : Ar.Job} {nd s : Int} (hm : J.may = true) (hn : 0 ≤ nd ∧ nd < J.n) (hs : 1 ≤ s ∧ s ≤ 2147483647) : (J.record nd s).1 = plc J nd s := by
  unfold Ar.Job.record plc
  rw [if_pos (by simp [hm, Ar.below, Ar.lsnB]; omega)]
theorem head_plc {J : Ar.Job} {nd : Int} (hm : J.may = true) (hn : 0 ≤ nd ∧ nd < J.n) : (J.head nd).1 = 9 + nd * (1 + 2 * J.l) := by
  unfold Ar.Job.head
  rw [if_pos (by simp [hm, Ar.below]; omega)]
theorem plc_in {J : Ar.Job} {nd s : Int} (hm : J.may = true) (hn : 0 ≤ nd ∧ nd < J.n) : 0 ≤ 9 + nd * (1 + 2 * J.l) ∧ 9 + nd * (1 + 2 * J.l) < plc J nd s ∧ plc J nd s + 1 < J.sectors.1 := by
  have hm' := hm
  simp only [Ar.Job.may, decide_eq_true_eq] at hm'
  have h1 : 0 ≤ nd * (1 + 2 * J.l) := Int.mul_nonneg (by omega) (by omega)
  have h2 : (nd + 1) * (1 + 2 * J.l) ≤ J.n * (1 + 2 * J.l) := Int.mul_le_mul_of_nonneg_right (by omega) (by omega)
  rw [Int.add_mul, Int.one_mul] at h2
  have h3 := Int.emod_nonneg (s - 1) (b := J.l) (by omega)
  have h4 := Int.emod_lt_of_pos (s - 1) (b := J.l) (by omega)
  have e : J.sectors.1 = J.p * 2 + (J.n * (1 + 2 * J.l) + 9) := by unfold Ar.Job.sectors Ar.Job.L; rw [if_pos hm]
  rw [e]
  unfold plc
  omega
theorem plc_inj {J : Ar.Job} {nd s t : Int} (hm : J.may = true) (h : plc J nd s = plc J nd t) (h1 : s - t < J.l) (h2 : t - s < J.l) : s = t := by
  simp only [Ar.Job.may, decide_eq_true_eq] at hm
  unfold plc at h
  have := mod_inj (a := s - 1) (b := t - 1) (l := J.l) (by omega) (by omega) (by omega) (by omega)
  omega
theorem plc_wrap {J : Ar.Job} {nd s : Int} : plc J nd (s + J.l) = plc J nd s := by
  unfold plc
  rw [show s + J.l - 1 = s - 1 + J.l by omega, Int.add_emod_right]
theorem puts1 {D : Dv.Dev} (h : D.set = false) (k : Nat) (x : List Int) : D.puts k [x] = { D with S := D.S.set k x, done := wrap64 (D.done + 1) } := by
  simp [Dv.Dev.puts, Dv.Dev.step, h]
theorem puts2 {D : Dv.Dev} (h : D.set = false) (k : Nat) (x y : List Int) : D.puts k [x, y] = { D with S := (D.S.set k x).set (k + 1) y, done := wrap64 (wrap64 (D.done + 1) + 1) } := by
  simp [Dv.Dev.puts, Dv.Dev.step, h]
theorem ref_hasS {D : Dv.Dev} {x ep : Int} (h : D.ref x ep true = 0) {b : Bool} (hb : b = true) : D.ref x ep b = 0 := by rw [hb]; exact h
theorem read_set {D D' : Dv.Dev} {k : Nat} {v : List Int} (hS : D'.S = D.S.set k v) (x : Int) (hx : 0 ≤ x) : D'.read x = if x = k ∧ k < D.S.length then (v, 0) else D.read x := by
  unfold Dv.Dev.read
  rw [hS, List.length_set]
  by_cases hk : x = k ∧ k < D.S.length
  · rw [if_pos hk, if_pos (by simp [Dv.hasS]; omega)]
    have : x.toNat = k := by omega
    simp [List.getD_eq_getElem?_getD, this, hk.2]
  · rw [if_neg hk]
    split
    · rename_i hh
      simp [Dv.hasS] at hh
      simp only [List.getD_eq_getElem?_getD, List.getElem?_set]
      rw [if_neg (by omega)]
    · rfl
theorem Hol.app {D : Dv.Dev} {L : Lo} (h : Hol D L) (p ps : Int) (bd : List Int) (hb : Rc.Byts 96 bd) : Hol D (L.app p ps bd).1 := by
  unfold Lo.app
  split
  · exact h
  · rename_i hm
    split
    · exact h
    · rename_i hr
      have hm' := h.may
      simp only [Ar.Job.may, decide_eq_true_eq] at hm'
      simp only [Lo.mayA, Bool.and_eq_false_iff, decide_eq_false_iff_not, not_or, Decidable.not_not] at hm
      have hnx := h.nx
      have hmany := h.many
      have hst := h.st
      have hr2 : ¬ L.st + L.R.length = 2147483647 := by
        intro e
        unfold Lo.room at hr
        rw [if_pos e] at hr
        exact hr rfl
      have hr3 : ¬ L.J.l - L.R.length = 0 := by
        unfold Lo.room at hr
        rw [if_neg hr2] at hr
        exact hr
      refine ⟨h.cut, h.len, h.ref, h.may, h.node, h.st, ?_, ?_, ?_, h.ep, ?_, h.hd, ?_, h.no⟩
      · show L.st + ((L.R ++ [L.recN p ps bd]).length : Int) ≤ _
        rw [List.length_append]; simp; omega
      · show L.fl ≤ (L.R ++ [L.recN p ps bd]).length
        rw [List.length_append]; have := h.fl; omega
      · show ((L.R ++ [L.recN p ps bd]).length : Int) ≤ L.J.l
        rw [List.length_append]; simp; omega
      · intro k r hk
        replace hk : (L.R ++ [L.recN p ps bd])[k]? = some r := hk
        by_cases hlt : k < L.R.length
        · rw [List.getElem?_append_left hlt] at hk
          have := h.recs k r hk
          exact ⟨this.nd, this.ep, this.ls, this.pg, this.ok, this.bd⟩
        · rw [List.getElem?_append_right (by omega)] at hk
          have hk0 : k - L.R.length = 0 := by
            have := (List.getElem?_eq_some_iff.1 hk).1
            simp at this
            omega
          rw [hk0] at hk
          simp at hk
          subst hk
          have hn := h.node
          have he := h.ep
          refine ⟨rfl, rfl, ?_, ?_, ?_, hb⟩
          · show L.st + (L.R.length : Int) = L.st + (k : Int)
            omega
          · show 0 ≤ p ∧ p < L.J.p
            omega
          · have e1 : decide (0 ≤ L.nd ∧ L.nd < 8) = true := decide_eq_true (by omega)
            have e2 : decide (0 ≤ p ∧ p < 16) = true := decide_eq_true (by omega)
            have e3 : decide (1 ≤ L.ep ∧ L.ep ≤ 2147483647) = true := decide_eq_true (by omega)
            have e4 : decide (1 ≤ L.st + (L.R.length : Int) ∧ L.st + (L.R.length : Int) ≤ 2147483647) = true := decide_eq_true (by omega)
            have e5 : decide (1 ≤ ps ∧ ps ≤ 2147483647) = true := decide_eq_true (by omega)
            show (decide (0 ≤ L.nd ∧ L.nd < 8) && (decide (0 ≤ p ∧ p < 16) && (decide (1 ≤ L.ep ∧ L.ep ≤ 2147483647) && (decide (1 ≤ L.st + (L.R.length : Int) ∧ L.st + (L.R.length : Int) ≤ 2147483647) && decide (1 ≤ ps ∧ ps ≤ 2147483647))))) = true
            rw [e1, e2, e3, e4, e5]
            rfl
      · intro k r hk hr
        replace hr : (L.R ++ [L.recN p ps bd])[k]? = some r := hr
        have hfl := h.fl
        replace hk : k < L.fl := hk
        rw [List.getElem?_append_left (by omega)] at hr
        exact h.yes k r hk hr
theorem got_two {D D' : Dv.Dev} {J : Ar.Job} {nd : Int} (hm : J.may = true) (hn : 0 ≤ nd ∧ nd < J.n) (hl : (D.S.length : Int) = J.sectors.1) {t : Int} {x y : List Int} (hS : D'.S = (D.S.set (plc J nd t).toNat x).set ((plc J nd t).toNat + 1) y) {s : Int} (hs : 1 ≤ s ∧ s ≤ 2147483647) :
    gotA D' J nd s = if plc J nd s = plc J nd t then Rc.getR x y else gotA D J nd s := by
  have i1 := plc_in (s := s) hm hn
  have i2 := plc_in (s := t) hm hn
  obtain ⟨D1, hD1⟩ : ∃ D1 : Dv.Dev, D1.S = D.S.set (plc J nd t).toNat x := ⟨{ D with S := D.S.set (plc J nd t).toNat x }, rfl⟩
  have hl1 : D1.S.length = D.S.length := by rw [hD1, List.length_set]
  rw [← hD1] at hS
  unfold gotA
  rw [rec_plc hm hn hs, read_set hS _ (by omega), read_set hS _ (by omega), read_set hD1 _ (by omega), read_set hD1 _ (by omega)]
  by_cases he : plc J nd s = plc J nd t
  · rw [if_pos he, if_neg (by omega), if_pos (by omega), if_pos (by omega)]
  · have h2 : plc J nd s + 1 ≠ plc J nd t ∧ plc J nd s ≠ plc J nd t + 1 := by unfold plc; omega
    rw [if_neg he, if_neg (by omega), if_neg (by omega), if_neg (by omega), if_neg (by omega)]

end Go.Proofs.YtmeajhdhiebkdaaDoor
