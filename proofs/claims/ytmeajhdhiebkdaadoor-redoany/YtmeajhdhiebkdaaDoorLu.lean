/-
  The document's places.
-/
import Derived.Test.YtmeajhdhiebkdaaDoorLt
namespace Go.Proofs.YtmeajhdhiebkdaaDoor
set_option maxRecDepth 100000
open Go.RowKit

theorem rhead47 (J : Ar.Job) (n : Int) (hm : J.may = true) (hn : 0 ≤ n ∧ n ≤ 8) (w : World) : Calls Tryd.prog 47 #[aggV (Ar.jobC J), .int .i64 n] w fun e w' => e = .returned (.int .i64 (9 + n * (1 + 2 * J.l))) ∧ Kept [] w w' := by
  simp only [Ar.Job.may, decide_eq_true_eq] at hm
  have hl1 : 2 ≤ J.l := by omega
  have hl2 : J.l ≤ 64 := by omega
  have h1 : n * (1 + 2 * J.l) ≤ 8 * 129 := Int.mul_le_mul (by omega) (by omega) (by omega) (by omega)
  have h2 : 0 ≤ n * (1 + 2 * J.l) := Int.mul_nonneg (by omega) (by omega)
  clear hm hn
  go_enter Tryd.func47, Tryd.ntmps47
  go_wp2_with (
    first
    | (refine wpBoxV (by rfl) (.tmp 0) (by rfl) (Ar.jobC J) (by kernel_rfl) ?_
       intro W1 t2 e2 B2 K2
       have H2 := hide B2
       have HK := hide K2
       have hc0 := fits_cell B2 0 (.int .i64 J.n) rfl
       have hc1 := fits_cell B2 1 (.int .i64 J.p) rfl
       have hc3 := fits_cell B2 3 (.int .i64 J.l) rfl
       clear e2 B2 K2))
  go_ret
  exact ⟨rfl, unhide HK⟩
theorem rpage43 (J : Ar.Job) (p : Int) (hm : J.may = true) (hp : 0 ≤ p ∧ p ≤ 16) (w : World) : Calls Tryd.prog 43 #[aggV (Ar.jobC J), .int .i64 p] w fun e w' => e = .returned (.int .i64 (9 + J.n * (1 + 2 * J.l) + 2 * p)) ∧ Kept [] w w' := by
  have P47 := hide (fun W => rhead47 J J.n hm (by simp only [Ar.Job.may, decide_eq_true_eq] at hm; omega) W)
  simp only [Ar.Job.may, decide_eq_true_eq] at hm
  obtain ⟨q, hq⟩ : ∃ q, q = 9 + J.n * (1 + 2 * J.l) := ⟨_, rfl⟩
  have h1 : J.n * (1 + 2 * J.l) ≤ 8 * 129 := Int.mul_le_mul (by omega) (by omega) (by omega) (by omega)
  have h2 : 0 ≤ J.n * (1 + 2 * J.l) := Int.mul_nonneg (by omega) (by omega)
  rw [← hq] at P47
  rw [← hq]
  have hq1 : 0 ≤ q := by omega
  have hq2 : q ≤ 2000 := by omega
  have hp1 := hp.1
  have hp2 := hp.2
  have HJL : Hid ((Ar.jobC J).length = 5) := rfl
  clear hm h1 h2 hq hp
  go_enter Tryd.func43, Tryd.ntmps43
  go_wp2_with (
    first
    | (refine wpBoxV (by rfl) (.tmp 0) (by rfl) (Ar.jobC J) (by kernel_rfl) ?_
       intro W1 t2 e2 B2 K2
       have H2 := hide B2
       have HK := hide K2
       have hc0 := fits_cell B2 0 (.int .i64 J.n) rfl
       have hc1 := fits_cell B2 1 (.int .i64 J.p) rfl
       have hc3 := fits_cell B2 3 (.int .i64 J.l) rfl
       clear e2 B2 K2
       refine Stp.go ?_))
  constructor
  go_wp2_with (
    first
    | (refine wpLoadA row23 (by rfl) (.tmp 2) (by rfl) t2 0 (by kernel_rfl) (Ar.jobC J) (unhide HJL) (unhide H2).range ?_
       refine Stp.go ?_))
  constructor
  go_wp2_with (
    first
    | (go_at_call 47
       refine (unhide P47 _).mono ?_
       rintro e W3 ⟨rfl, K3⟩
       replace HK := hide ((unhide HK).trans K3)
       clear K3))
  go_ret
  exact ⟨rfl, unhide HK⟩
theorem rsect25 (J : Ar.Job) (hm : J.may = true) (w : World) : Calls Tryd.prog 25 #[aggV (Ar.jobC J)] w fun e w' => e = .returned (.int .i64 J.sectors.1) ∧ Kept [] w w' := by
  have P43 := hide (fun W => rpage43 J J.p hm (by simp only [Ar.Job.may, decide_eq_true_eq] at hm; omega) W)
  have e9 : 9 + J.n * (1 + 2 * J.l) + 2 * J.p = J.sectors.1 := by
    unfold Ar.Job.sectors Ar.Job.L
    rw [if_pos hm]
    show _ = J.p * 2 + (J.n * (1 + 2 * J.l) + 9)
    omega
  rw [e9] at P43
  obtain ⟨q, hq⟩ : ∃ q, q = J.sectors.1 := ⟨_, rfl⟩
  rw [← hq] at P43
  rw [← hq]
  have HJL : Hid ((Ar.jobC J).length = 5) := rfl
  clear hm hq e9
  go_enter Tryd.func25, Tryd.ntmps25
  go_wp2_with (
    first
    | (refine wpBoxV (by rfl) (.tmp 0) (by rfl) (Ar.jobC J) (by kernel_rfl) ?_
       intro W1 t1 e2 B2 K2
       have H1 := hide B2
       have HK := hide K2
       have hc0 := fits_cell B2 0 (.int .i64 J.n) rfl
       have hc1 := fits_cell B2 1 (.int .i64 J.p) rfl
       have hc3 := fits_cell B2 3 (.int .i64 J.l) rfl
       clear e2 B2 K2
       refine Stp.go ?_))
  constructor
  go_wp2_with (
    first
    | (refine wpLoadA row23 (by rfl) (.tmp 1) (by rfl) t1 0 (by kernel_rfl) (Ar.jobC J) (unhide HJL) (unhide H1).range ?_
       refine Stp.go ?_))
  constructor
  go_wp2_with (
    first
    | (go_at_call 43
       refine (unhide P43 _).mono ?_
       rintro e W3 ⟨rfl, K3⟩
       replace HK := hide ((unhide HK).trans K3)
       clear K3))
  go_ret
  exact ⟨rfl, unhide HK⟩

end Go.Proofs.YtmeajhdhiebkdaaDoor
