/-
  The law AreaApart: it returns true, whatever the job and the two asks.
-/
import Derived.Test.YtcfoebpbbmnleaaApartb
import Derived.Test.YtcfoebpbbmnleaaApartc
namespace Go.Proofs.Ytcfoebpbbmnleaa
open Go.RowKit

theorem record_ways (j : Job) (n s : Int) : (j.record n s = (0, 2)) ∨ (j.may = true ∧ below n j.n = true ∧ lsnB s = true) := by
  cases h : ((j.may && below n j.n) && lsnB s) with
  | false => exact .inl (record_no h)
  | true =>
    rw [Bool.and_eq_true, Bool.and_eq_true] at h
    exact .inr ⟨h.1.1, h.1.2, h.2⟩
theorem sectors_ways (j : Job) : ∃ n e, j.sectors = (n, e) ∧ 0 ≤ e ∧ e ≤ 2 := by
  unfold Job.sectors
  split
  · exact ⟨_, _, rfl, by omega, by omega⟩
  · exact ⟨_, _, rfl, by omega, by omega⟩
theorem record_some (j : Job) (n s : Int) : ∃ a e, j.record n s = (a, e) ∧ 0 ≤ e ∧ e ≤ 2 := by
  unfold Job.record
  split
  · exact ⟨_, _, rfl, by omega, by omega⟩
  · exact ⟨_, _, rfl, by omega, by omega⟩
theorem page_some (j : Job) (hm : j.may = true) (p : Int) : ∃ c k, j.page p = (c, k) ∧ (0 ≤ k ∧ k ≤ 2) ∧ (k = 0 → j.of c = (⟨5, 0, p, 0⟩, 0) ∧ j.L + 9 ≤ c ∧ c + 1 < j.p * 2 + (j.L + 9)) := by
  cases h : below p j.p with
  | false => exact ⟨0, 2, by simp [Job.page, h], by omega, by omega⟩
  | true =>
    have hp : 0 ≤ p ∧ p < j.p := by simpa [below] using h
    exact ⟨j.L + 9 + 2 * p, 0, by simp [Job.page, hm, h], by omega, fun _ => ⟨of_page hm p h, by omega, by omega⟩⟩

theorem apart5 (j : Job) (xn xp xs xl yn yp ys yl : Int) (w : World) :
    Calls Try.prog 5 #[aggV (jobC j), aggV (fourC xn xp xs xl), aggV (fourC yn yp ys yl)] w fun e w' => e = .returned (.bool true) ∧ Kept [] w w' := by
  obtain ⟨n, e, hS, he⟩ := sectors_ways j
  rcases record_ways j xn xl with hX | ⟨hm, hxn, hxl⟩
  · obtain ⟨b, g, hY, hg⟩ := record_some j yn yl
    exact apart_not j xn xp xs xl yn yp ys yl n e 0 2 b g hS hX hY he (by omega) hg (by omega) w
  rcases record_ways j yn yl with hY | ⟨_, hyn, hyl⟩
  · obtain ⟨a, f, hX, hf⟩ := record_some j xn xl
    exact apart_not j xn xp xs xl yn yp ys yl n e a f 0 2 hS hX hY he hf (by omega) (by omega) w
  clear hS he
  have hS : j.sectors = (j.p * 2 + (j.L + 9), 0) := by simp [Job.sectors, hm]
  have hX := record_yes hm hxn hxl
  have hY := record_yes hm hyn hyl
  have hl := Job.l_le hm
  have hL := Job.L_le hm
  have hP := Job.p_le hm
  have hx : 1 ≤ xl ∧ xl ≤ 2147483647 := by simpa [lsnB] using hxl
  have hy : 1 ≤ yl ∧ yl ≤ 2147483647 := by simpa [lsnB] using hyl
  have ha := Job.at_le (s := xl) hm hxn
  have hb := Job.at_le (s := yl) hm hyn
  obtain ⟨ho1, ho2⟩ := of_rec hm xn xl hxn
  obtain ⟨c, k, hpg, hk, hkc⟩ := page_some j hm xp
  have hk' : (0 ≤ k ∧ k ≤ 2) ∧ (k = 0 → j.of c = (⟨5, 0, xp, 0⟩, 0) ∧ j.at xn xl + 1 < c ∧ c + 1 < j.p * 2 + (j.L + 9)) := by
    refine ⟨hk, fun h => ?_⟩
    obtain ⟨h1, h2, h3⟩ := hkc h
    exact ⟨h1, by omega, h3⟩
  have hat := at_eq hm xn xl yn yl
  have h1 := at_next hm xn xl yn yl
  have h2 := at_next hm yn yl xn xl
  by_cases hn : xn = yn
  · subst hn
    by_cases ht : (xl - yl).tmod j.l = 0
    · have hab : j.at xn xl = j.at xn yl := by simpa [Job.same, ht] using hat
      rw [← hab] at hY
      exact apart_a j xn xp xs xl yp ys yl _ _ _ hS hX hY hl hx hy (by omega) (by omega) rfl ho1 ho2 ht c k hpg hk' w
    · have hab : ¬ j.at xn xl = j.at xn yl := by simpa [Job.same, ht] using hat
      exact apart_b j xn xp xs xl yp ys yl _ _ _ _ hS hX hY hl hx hy (by omega) (by omega) (by omega) rfl ho1 ho2 ht hab h1 h2 c k hpg hk' w
  · have hab : ¬ j.at xn xl = j.at yn yl := by simpa [Job.same, hn] using hat
    exact apart_c j xn xp xs xl yn yp ys yl _ _ _ _ hS hX hY hl hx hy (by omega) (by omega) (by omega) rfl ho1 ho2 hn hab h1 h2 c k hpg hk' w

end Go.Proofs.Ytcfoebpbbmnleaa
