/-
  Plain facts on where things lie: records, pages and what Of tells of them.
-/
import Derived.Test.YtcfoebpbbmnleaaOf
namespace Go.Proofs.Ytcfoebpbbmnleaa
open Go.RowKit

theorem dm_of {D n r : Int} (hD : 0 < D) (hr : 0 ≤ r ∧ r < D) : (n * D + r) / D = n ∧ (n * D + r) % D = r := by
  rw [Int.add_comm]
  constructor
  · rw [Int.add_mul_ediv_right _ _ (by omega), Int.ediv_eq_zero_of_lt hr.1 hr.2]; omega
  · rw [Int.add_mul_emod_self_right, Int.emod_eq_of_lt hr.1 hr.2]
theorem dm_inj {D n r m s : Int} (hD : 0 < D) (hr : 0 ≤ r ∧ r < D) (hs : 0 ≤ s ∧ s < D) (h : n * D + r = m * D + s) : n = m ∧ r = s := by
  have h1 := dm_of (n := n) hD hr
  have h2 := dm_of (n := m) hD hs
  rw [h] at h1
  exact ⟨h1.1.symm.trans h2.1, h1.2.symm.trans h2.2⟩

theorem Job.l_le {j : Job} (h : j.may = true) : 2 ≤ j.l ∧ j.l ≤ 64 := by
  simp only [Job.may, decide_eq_true_eq] at h; omega
/-- A record's place in its log. -/
def Job.m (j : Job) (s : Int) : Int := (s - 1) % j.l
theorem Job.m_le {j : Job} (h : j.may = true) (s : Int) : 0 ≤ j.m s ∧ j.m s < j.l := by
  have := Job.l_le h
  exact ⟨Int.emod_nonneg _ (by omega), Int.emod_lt_of_pos _ (by omega)⟩
/-- A record's first sector. -/
def Job.at (j : Job) (n s : Int) : Int := 9 + n * (1 + 2 * j.l) + 1 + 2 * j.m s
theorem record_yes {j : Job} {n s : Int} (h1 : j.may = true) (h2 : below n j.n = true) (h3 : lsnB s = true) : j.record n s = (j.at n s, 0) := by
  simp [Job.record, h1, h2, h3, Job.at, Job.m]
theorem record_no {j : Job} {n s : Int} (h : ((j.may && below n j.n) && lsnB s) = false) : j.record n s = (0, 2) := by
  unfold Job.record; rw [h]; rfl
theorem Job.at_le {j : Job} {n s : Int} (h1 : j.may = true) (h2 : below n j.n = true) : 10 ≤ j.at n s ∧ j.at n s + 1 < j.L + 9 := by
  have := node_le h1 h2
  have := Job.m_le h1 s
  unfold Job.at
  omega

theorem of_log {j : Job} (hm : j.may = true) (n r : Int) (hn : below n j.n = true) (hr : 0 ≤ r ∧ r < 1 + 2 * j.l) : j.of (9 + (n * (1 + 2 * j.l) + r)) = (Job.inLog n r, 0) := by
  have hl := Job.l_le hm
  have hnl := node_le hm hn
  have hd := dm_of (n := n) (D := 1 + 2 * j.l) (by omega) hr
  have hL := Job.L_le hm
  generalize hx : n * (1 + 2 * j.l) + r = x at hd
  have hf : j.find (9 + x) = (2, x) := by
    have h1 : ¬ (9 + x < 1) := by omega
    have h2 : ¬ (9 + x < 9) := by omega
    have h3 : 9 + x < j.L + 9 := by omega
    simp [Job.find, h1, h2, h3]; omega
  have h0 : 0 ≤ 9 + x := by omega
  simp [Job.of, hm, hf, hd.1, hd.2, h0]
theorem of_rec {j : Job} (hm : j.may = true) (n s : Int) (hn : below n j.n = true) : j.of (j.at n s) = (⟨4, n, j.m s, 0⟩, 0) ∧ j.of (j.at n s + 1) = (⟨4, n, j.m s, 1⟩, 0) := by
  have hl := Job.l_le hm
  have hms := Job.m_le hm s
  constructor
  · have e : j.at n s = 9 + (n * (1 + 2 * j.l) + (1 + 2 * j.m s)) := by unfold Job.at; omega
    rw [e, of_log hm n _ hn (by omega)]
    simp only [Job.inLog, show ¬ (1 + 2 * j.m s = 0) by omega, if_false]
    congr 2 <;> omega
  · have e : j.at n s + 1 = 9 + (n * (1 + 2 * j.l) + (2 + 2 * j.m s)) := by unfold Job.at; omega
    rw [e, of_log hm n _ hn (by omega)]
    simp only [Job.inLog, show ¬ (2 + 2 * j.m s = 0) by omega, if_false]
    congr 2 <;> omega
theorem of_page {j : Job} (hm : j.may = true) (p : Int) (hp : below p j.p = true) : j.of (j.L + 9 + 2 * p) = (⟨5, 0, p, 0⟩, 0) := by
  have hp2 : 0 ≤ p ∧ p < j.p := by simpa [below] using hp
  have hL := Job.L_le hm
  have hf : j.find (j.L + 9 + 2 * p) = (3, 2 * p) := by
    have h1 : ¬ (j.L + 9 + 2 * p < 1) := by omega
    have h2 : ¬ (j.L + 9 + 2 * p < 9) := by omega
    have h3 : ¬ (j.L + 9 + 2 * p < j.L + 9) := by omega
    have h4 : j.L + 9 + 2 * p < j.p * 2 + (j.L + 9) := by omega
    simp [Job.find, h1, h2, h3, h4]; omega
  have h0 : 0 ≤ j.L + 9 + 2 * p := by omega
  simp [Job.of, hm, hf, h0]

/-- Two records lie in the same place. -/
def Job.same (j : Job) (n s n' s' : Int) : Bool := decide (n = n') && decide ((s - s').tmod j.l = 0)
theorem m_eq {j : Job} (s s' : Int) : j.m s = j.m s' ↔ (s - s').tmod j.l = 0 := by
  unfold Job.m
  rw [Int.emod_eq_emod_iff_emod_sub_eq_zero, show s - 1 - (s' - 1) = s - s' by omega]
  exact ⟨fun h => Int.tmod_eq_zero_of_dvd (Int.dvd_of_emod_eq_zero h), fun h => Int.emod_eq_zero_of_dvd (Int.dvd_of_tmod_eq_zero h)⟩
theorem at_eq {j : Job} (hm : j.may = true) (n s n' s' : Int) : decide (j.at n s = j.at n' s') = j.same n s n' s' := by
  have hl := Job.l_le hm
  have h1 := Job.m_le hm s
  have h2 := Job.m_le hm s'
  rw [Job.same, Bool.eq_iff_iff, Bool.and_eq_true, decide_eq_true_eq, decide_eq_true_eq, decide_eq_true_eq, ← m_eq]
  constructor
  · intro h
    have h : n * (1 + 2 * j.l) + (1 + 2 * j.m s) = n' * (1 + 2 * j.l) + (1 + 2 * j.m s') := by unfold Job.at at h; omega
    have := dm_inj (by omega) (by omega) (by omega) h
    exact ⟨this.1, by omega⟩
  · rintro ⟨rfl, h⟩
    unfold Job.at; rw [h]
theorem at_next {j : Job} (hm : j.may = true) (n s n' s' : Int) : j.at n s ≠ j.at n' s' + 1 := by
  have hl := Job.l_le hm
  have h1 := Job.m_le hm s
  have h2 := Job.m_le hm s'
  intro h
  have h : n * (1 + 2 * j.l) + (1 + 2 * j.m s) = n' * (1 + 2 * j.l) + (2 + 2 * j.m s') := by unfold Job.at at h; omega
  have := dm_inj (by omega) (by omega) (by omega) h
  omega

end Go.Proofs.Ytcfoebpbbmnleaa
