/-
  The walks of slices.Equal over sectors, and of Copy.
-/
import Derived.Test.YtffflafalffifaaRwr
namespace Go.Proofs.Ytffflafalffifaa
open Go.RowKit

set_option maxHeartbeats 1000000 in
set_option maxRecDepth 100000 in
theorem equal49 (ao bo : Option Addr) (n c m d : Nat) (L M : List (List Int)) (w : World) (hL : Secs w ao n c L) (hM : Secs w bo m d M) (hn : n ≤ 1000000) (hm : m ≤ 1000000) :
    Calls Try.prog 49 #[.slice ao n c, .slice bo m d] w fun e w' => e = .returned (.bool (decide (L = M))) ∧ Kept [] w w' := by
  have hl := hL.len
  have hl2 := hM.len
  by_cases hnm : n = m
  · subst hnm
    go_enter Try.func49, Try.ntmps49
    go_wp2_with fail
    go_loopw [5, 13] (fun _ i wr => ∃ k : Nat, k ≤ n ∧ i = .int .i64 k ∧ Hid (L.take k = M.take k) ∧ Hid (Kept [] w wr)) (fun _ i _ => n - (intOf i).toNat)
    case atStart => exact ⟨0, by omega, rfl, rfl, Kept.refl _ _⟩
    case round =>
      obtain ⟨k, hk, rfl, hpre, hK⟩ := hrel
      by_cases hlt : k < n
      · obtain ⟨h1, o1, rfl, r1⟩ := hL.lies (by intro e; simp [e] at hl; omega)
        obtain ⟨h2, o2, rfl, r2⟩ := hM.lies (by intro e; simp [e] at hl2; omega)
        have s1 := hL.sec _ (List.getElem_mem (show k < L.length by omega))
        have s2 := hM.sec _ (List.getElem_mem (show k < M.length by omega))
        have q1 : wr.rangeAt h1 (o1 + k * 64) (u8s L[k]) := fun j v hj => (unhide hK).cell (r1 k (by omega) j v hj) (by simp)
        have q2 : wr.rangeAt h2 (o2 + k * 64) (u8s M[k]) := fun j v hj => (unhide hK).cell (r2 k (by omega) j v hj) (by simp)
        have hkI : (k : Int) < (n : Int) := by omega
        have hk0 : (0 : Int) ≤ (k : Int) := by omega
        by_cases he : L[k] = M[k]
        · have hdec : Hid ((!decide (L[k] = M[k])) = false) := by simpa [Hid] using he
          have HE := hide he
          clear he r1 r2
          go_wp2_with fail
          refine wp_region_quiet_lit (by kernel_rfl) (by kernel_rfl) ?_
          repeat (first | (refine quietLoadS rfl (.tmp 18) rfl h1 (o1 + k * 64) rfl L[k] s1 (by rintro _ ⟨_, rfl⟩; exact q1) ?_) | (refine quietLoadS rfl (.tmp 22) rfl h2 (o2 + k * 64) rfl M[k] s2 (by rintro _ ⟨_, rfl⟩; exact q2) ?_) | (refine quietNeqS rfl (.tmp 19) (.tmp 23) _ rfl L[k] M[k] rfl rfl s1 s2 _ (unhide hdec) ?_) | quiet_step (fail))
          refine wpQuiet_nil ?_
          intro _ hw'
          obtain ⟨nq, hw''⟩ := hw'
          subst hw''
          go_wp2_with fail
          go_roundw
          case rel =>
            refine ⟨k + 1, by omega, by go_num, ?_, (unhide hK).drewN _⟩
            show L.take (k + 1) = M.take (k + 1)
            rw [List.take_succ_eq_append_getElem (by omega), List.take_succ_eq_append_getElem (by omega), unhide hpre, unhide HE]
          case measure => simp [intOf]; omega
        · have hdec : Hid ((!decide (L[k] = M[k])) = true) := by simpa [Hid] using he
          have hne : Hid (decide (L = M) = false) := by
            show decide (L = M) = false
            rw [decide_eq_false_iff_not]
            intro e
            exact he (by simp [e])
          clear he r1 r2
          go_wp2_with fail
          refine wp_region_quiet_lit (by kernel_rfl) (by kernel_rfl) ?_
          repeat (first | (refine quietLoadS rfl (.tmp 18) rfl h1 (o1 + k * 64) rfl L[k] s1 (by rintro _ ⟨_, rfl⟩; exact q1) ?_) | (refine quietLoadS rfl (.tmp 22) rfl h2 (o2 + k * 64) rfl M[k] s2 (by rintro _ ⟨_, rfl⟩; exact q2) ?_) | (refine quietNeqS rfl (.tmp 19) (.tmp 23) _ rfl L[k] M[k] rfl rfl s1 s2 _ (unhide hdec) ?_) | quiet_step (fail))
          refine wpQuiet_nil ?_
          intro _ hw'
          obtain ⟨nq, hw''⟩ := hw'
          subst hw''
          go_wp2_with fail
          go_ret
          exact ⟨ret_bool (unhide hne).symm, (unhide hK).drewN _⟩
      · have heq : Hid (decide (L = M) = true) := by
          show decide (L = M) = true
          rw [decide_eq_true_iff]
          have := unhide hpre
          rwa [List.take_of_length_le (by omega), List.take_of_length_le (by omega)] at this
        go_wp2_with fail
        go_ret
        exact ⟨ret_bool (unhide heq).symm, unhide hK⟩
  · have hne : Hid (decide (L = M) = false) := by
      show decide (L = M) = false
      rw [decide_eq_false_iff_not]
      intro e
      rw [e] at hl
      omega
    have hnI : ¬ (n : Int) = (m : Int) := by omega
    go_enter Try.func49, Try.ntmps49
    go_wp2_with fail
    go_ret
    exact ⟨ret_bool (unhide hne).symm, Kept.refl _ _⟩

end Go.Proofs.Ytffflafalffifaa
