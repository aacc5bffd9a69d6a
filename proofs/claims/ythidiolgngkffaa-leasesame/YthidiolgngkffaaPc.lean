/-
  The document's Put.
-/
import Derived.Test.YthidiolgngkffaaPb
namespace Go.Proofs.Ythidiolgngkffaa
set_option maxRecDepth 100000
open Go.RowKit


theorem be_cons : ∀ (k : Nat) (n : Int), be (k + 1) n = n / 256 ^ k % 256 :: be k n
  | 0, n => by simp [be]
  | k + 1, n => by
    rw [be, be_cons k (n / 256), be]
    have : n / 256 / 256 ^ k = n / 256 ^ (k + 1) := by rw [Int.ediv_ediv_of_nonneg (by omega), Int.pow_succ, Int.mul_comm]
    rw [this]
    rfl
/-- A list in which a byte is written. -/
theorem set_in (A B : List Int) (x y : Int) (n : Nat) (h : A.length = n) : (u8s (A ++ x :: B)).set n (.int .u8 y) = u8s (A ++ y :: B) := by rw [u8s_set, set_at _ _ _ _ _ h]
theorem zs_last (n : Nat) : zs (n + 1) = zs n ++ [0] := by unfold zs; rw [List.replicate_succ']
theorem shr_byte (n : Int) (j : Nat) : n / 2 ^ (8 * j) = n / 256 ^ j := by rw [Int.pow_mul]; rfl
set_option maxHeartbeats 2000000 in
theorem rput_b (lx : Le) (w : World) (hq : decide (lx = le0) = true) : Calls Try.prog 14 #[aggV lx.C] w fun e w' => e = .returned (aggV (u8s (zs 64))) ∧ Kept [] w w' := by
  go_enter Try.func14, Try.ntmps14
  have M : Hid (Mm [] w w []) := hide Mm.init
  go_wp2_with (
    first
    | (refine wpBoxV rfl (.tmp 0) rfl (lx.C) rfl ?_
       intro W1 b1 e1 B1 K1
       replace M : Hid (Mm [] w W1 [(b1, 23, lx.C)]) := hide ((unhide M).new e1 B1 K1)
       clear e1 B1 K1
       refine Stp.go ?_))
  constructor
  go_wp2_with (
    first
    | (refine wpAllocW (u8s (zs 64)) zero25 2 rfl rfl rfl ?_
       intro W2 b2 e2 B2 K2
       replace M : Hid (Mm [] w W2 [(b1, 23, lx.C), (b2, 25, u8s (zs 64))]) := hide ((unhide M).new e2 B2 K2)
       clear e2 B2 K2
       refine Stp.go ?_))
  constructor
  go_wp2_with (
    first
    | (refine wpAllocW (u8s (zs 64)) zero25 3 rfl rfl rfl ?_
       intro W3 b3 e3 B3 K3
       replace M : Hid (Mm [] w W3 [(b1, 23, lx.C), (b2, 25, u8s (zs 64)), (b3, 25, u8s (zs 64))]) := hide ((unhide M).new e3 B3 K3)
       clear e3 B3 K3
       refine Stp.go ?_))
  constructor
  go_wp2_with (
    first
    | (refine wpLoadA row23 rfl (.tmp 1) rfl b1 0 rfl (lx.C) rfl ((unhide M).at 0 _ rfl).range ?_
       refine Stp.go ?_))
  constructor
  go_wp2_with (
    first
    | (refine wpBuildZ (T := 23) le0.C build23 rfl rfl ?_
       refine Stp.go ?_))
  constructor
  go_wp2_with (
    first
    | (refine wpEqlA 23 23 guard23 (.tmp 6) (.tmp 7) rfl rfl (lx.C) (le0.C) rfl rfl true ((eqL23 _ _ _).trans (by rw [hq])) ?_
       refine Stp.go ?_))
  constructor
  go_wp2_with (
    first
    | (refine wpLoadA row25 rfl (.tmp 3) rfl b3 0 rfl (u8s (zs 64)) (zl 64) ((unhide M).at 2 _ rfl).range ?_
       refine Stp.go ?_))
  constructor
  go_wp2_with (
    first
    | (refine wpStoreM row25 rfl (.tmp 2) (.tmp 9) rfl rfl b2 1 (u8s (zs 64)) rfl rfl (zl 64) (u8s_one _) (unhide M) rfl (zl 64) ?_
       intro W4 N4
       replace M : Hid (Mm [] w W4 [(b1, 23, lx.C), (b2, 25, u8s (zs 64)), (b3, 25, u8s (zs 64))]) := hide N4
       clear N4
       refine Stp.go ?_))
  constructor
  go_wp2_with fail
  refine bodyPost_ret (res14 _ b2 (u8s (zs 64)) _ rfl (zl 64) ((unhide M).at 1 _ rfl)) rfl ?_
  exact ⟨rfl, (unhide M).kept⟩
set_option maxHeartbeats 2000000 in
theorem rput_c (lx : Le) (w : World) (hm : lx.may = true) (hq : decide (lx = le0) = false) : Calls Try.prog 14 #[aggV lx.C] w fun e w' => e = .returned (aggV (u8s (secL lx))) ∧ Kept [] w w' := by
  have hb := hm
  simp only [Le.may, decide_eq_true_eq] at hb
  obtain ⟨h1, h2, h3, h4, h5, h6⟩ := hb
  go_enter Try.func14, Try.ntmps14
  have M : Hid (Mm [] w w []) := hide Mm.init
  go_wp2_with (
    first
    | (refine wpBoxV rfl (.tmp 0) rfl (lx.C) rfl ?_
       intro W1 b1 e1 B1 K1
       replace M : Hid (Mm [] w W1 [(b1, 23, lx.C)]) := hide ((unhide M).new e1 B1 K1)
       clear e1 B1 K1
       refine Stp.go ?_))
  constructor
  go_wp2_with (
    first
    | (refine wpAllocW (u8s (zs 64)) zero25 2 rfl rfl rfl ?_
       intro W2 b2 e2 B2 K2
       replace M : Hid (Mm [] w W2 [(b1, 23, lx.C), (b2, 25, u8s (zs 64))]) := hide ((unhide M).new e2 B2 K2)
       clear e2 B2 K2
       refine Stp.go ?_))
  constructor
  go_wp2_with (
    first
    | (refine wpAllocW (u8s (zs 64)) zero25 3 rfl rfl rfl ?_
       intro W3 b3 e3 B3 K3
       replace M : Hid (Mm [] w W3 [(b1, 23, lx.C), (b2, 25, u8s (zs 64)), (b3, 25, u8s (zs 64))]) := hide ((unhide M).new e3 B3 K3)
       clear e3 B3 K3
       refine Stp.go ?_))
  constructor
  go_wp2_with (
    first
    | (refine wpLoadA row23 rfl (.tmp 1) rfl b1 0 rfl (lx.C) rfl ((unhide M).at 0 _ rfl).range ?_
       refine Stp.go ?_))
  constructor
  go_wp2_with (
    first
    | (refine wpBuildZ (T := 23) le0.C build23 rfl rfl ?_
       refine Stp.go ?_))
  constructor
  go_wp2_with (
    first
    | (refine wpEqlA 23 23 guard23 (.tmp 6) (.tmp 7) rfl rfl (lx.C) (le0.C) rfl rfl false ((eqL23 _ _ _).trans (by rw [hq])) ?_
       refine Stp.go ?_))
  constructor
  go_wp2_with (
    first
    | (refine wpStoreM1 size5 rfl (.tmp 10) (.const (.int .u8 209)) rfl rfl b3 0 2 (.int .u8 209) ⟨rfl, rfl⟩ rfl rfl (unhide M) rfl (by simp [u8s, zs]) ?_
       intro W4 N4
       replace M : Hid (Mm [] w W4 [(b1, 23, lx.C), (b2, 25, u8s (zs 64)), (b3, 25, u8s ([209] ++ zs (4 - 0) ++ be 0 lx.ep ++ zs 59))]) := hide N4
       clear N4
       refine Stp.go ?_))
  constructor
  go_wp2_with fail
  go_loopw [4] (fun i wr => ∃ j : Nat, j ≤ 4 ∧ i = .int .i64 j ∧ Hid (Mm [] w wr [(b1, 23, lx.C), (b2, 25, u8s (zs 64)), (b3, 25, u8s ([209] ++ zs (4 - j) ++ be j lx.ep ++ zs 59))])) (fun i _ => 4 - (intOf i).toNat)
  case atStart => exact ⟨0, by omega, rfl, M⟩
  case round =>
    clear M
    obtain ⟨j, hj, rfl, M⟩ := hrel
    by_cases hlt : j < 4
    · have hjI : (j : Int) < 4 := by omega
      have hd : decide ((j : Int) < 4) = true := by simpa using hjI
      have c0 := fits_cell ((unhide M).at 0 _ rfl) 0 _ rfl
      have h9 := unhide M
      rw [show [209] ++ zs (4 - j) ++ be j lx.ep ++ zs 59 = ([209] ++ zs (4 - (j + 1))) ++ 0 :: (be j lx.ep ++ zs 59) by rw [show 4 - j = (4 - (j + 1)) + 1 by omega, zs_last]; simp] at h9
      replace M := hide h9
      have HAL : Hid (([209] ++ zs (4 - (j + 1))).length = (4 - j)) := by show _ = _; simp [zs]; omega
      have HLT : Hid ((4 - j) < (u8s (([209] ++ zs (4 - (j + 1))) ++ 0 :: (be j lx.ep ++ zs 59))).length) := by
        show _ < _
        rw [u8s_len, List.length_append, unhide HAL]; simp
      clear h9
      go_wp2_with (
        first
        | (refine wpStoreMT size5 rfl (.tmp 23) (.tmp 22) rfl rfl b3 (4 - j) 2 (.int .u8 (lx.ep / 2 ^ (8 * j) % 256)) ⟨rfl, rfl⟩ (by rfl) (by rfl) (unhide M) (u8s (([209] ++ zs (4 - (j + 1))) ++ (lx.ep / 2 ^ (8 * j) % 256) :: (be j lx.ep ++ zs 59))) rfl (unhide HLT) (set_in _ _ _ _ _ (unhide HAL)) ?_
           intro W31 N31
           replace M : Hid (Mm [] w W31 [(b1, 23, lx.C), (b2, 25, u8s (zs 64)), (b3, 25, u8s (([209] ++ zs (4 - (j + 1))) ++ (lx.ep / 2 ^ (8 * j) % 256) :: (be j lx.ep ++ zs 59)))]) := hide N31
           clear N31
           refine Stp.go ?_))
      constructor
      go_wp2_with fail
      clear c0
      have h9 := unhide M
      rw [shr_byte, show ([209] ++ zs (4 - (j + 1))) ++ (lx.ep / 256 ^ j % 256) :: (be j lx.ep ++ zs 59) = [209] ++ zs (4 - (j + 1)) ++ be (j + 1) lx.ep ++ zs 59 by rw [be_cons]; simp] at h9
      replace M := hide h9
      clear h9
      go_roundw
      case rel => exact ⟨j + 1, by omega, by go_num, M⟩
      case measure => simp [intOf]; omega
    · have hd : decide ((j : Int) < 4) = false := by simp; omega
      have h9 := unhide M
      rw [show j = 4 by omega, show [209] ++ zs (4 - 4) ++ be 4 lx.ep ++ zs 59 = [209] ++ be 4 lx.ep ++ (zs (8 - 0) ++ be 0 lx.be) ++ (zs (8 - 0) ++ be 0 lx.re) ++ zs 43 by simp [zs, be]] at h9
      replace M := hide h9
      clear h9
      go_wp2_with fail
      go_loopw [5] (fun i wr => ∃ j : Nat, j ≤ 8 ∧ i = .int .i64 j ∧ Hid (Mm [] w wr [(b1, 23, lx.C), (b2, 25, u8s (zs 64)), (b3, 25, u8s ([209] ++ be 4 lx.ep ++ (zs (8 - j) ++ be j lx.be) ++ (zs (8 - j) ++ be j lx.re) ++ zs 43))])) (fun i _ => 8 - (intOf i).toNat)
      case atStart => exact ⟨0, by omega, rfl, M⟩
      case round =>
        clear M hlt hd hj
        obtain ⟨j, hj, rfl, M⟩ := hrel
        by_cases hlt : j < 8
        · have hjI : (j : Int) < 8 := by omega
          have hd : decide ((j : Int) < 8) = true := by simpa using hjI
          have c1 := fits_cell ((unhide M).at 0 _ rfl) 1 _ rfl
          have h9 := unhide M
          rw [show [209] ++ be 4 lx.ep ++ (zs (8 - j) ++ be j lx.be) ++ (zs (8 - j) ++ be j lx.re) ++ zs 43 = ([209] ++ be 4 lx.ep ++ zs (8 - (j + 1))) ++ 0 :: (be j lx.be ++ (zs (8 - j) ++ be j lx.re) ++ zs 43) by rw [show 8 - j = (8 - (j + 1)) + 1 by omega, zs_last]; simp] at h9
          replace M := hide h9
          have HAL : Hid (([209] ++ be 4 lx.ep ++ zs (8 - (j + 1))).length = 12 - j) := by show _ = _; simp [zs, be_len]; omega
          have HLT : Hid (12 - j < (u8s (([209] ++ be 4 lx.ep ++ zs (8 - (j + 1))) ++ 0 :: (be j lx.be ++ (zs (8 - j) ++ be j lx.re) ++ zs 43))).length) := by
            show _ < _
            rw [u8s_len, List.length_append, unhide HAL]; simp
          have HAL2 : Hid (([209] ++ be 4 lx.ep ++ (zs (8 - (j + 1)) ++ (lx.be / 2 ^ (8 * j) % 256) :: be j lx.be) ++ zs (8 - (j + 1))).length = 20 - j) := by show _ = _; simp [zs, be_len]; omega
          have HLT2 : Hid (20 - j < (u8s (([209] ++ be 4 lx.ep ++ (zs (8 - (j + 1)) ++ (lx.be / 2 ^ (8 * j) % 256) :: be j lx.be) ++ zs (8 - (j + 1))) ++ 0 :: (be j lx.re ++ zs 43))).length) := by
            show _ < _
            rw [u8s_len, List.length_append, unhide HAL2]; simp
          have HMID : Hid (([209] ++ be 4 lx.ep ++ zs (8 - (j + 1))) ++ (lx.be / 2 ^ (8 * j) % 256) :: (be j lx.be ++ (zs (8 - j) ++ be j lx.re) ++ zs 43) = ([209] ++ be 4 lx.ep ++ (zs (8 - (j + 1)) ++ (lx.be / 2 ^ (8 * j) % 256) :: be j lx.be) ++ zs (8 - (j + 1))) ++ 0 :: (be j lx.re ++ zs 43)) := by
            show _ = _
            rw [show 8 - j = (8 - (j + 1)) + 1 by omega, zs_last]; simp
          clear h9
          go_wp2_with (
            first
            | (refine wpStoreMT size5 rfl (.tmp 36) (.tmp 35) rfl rfl b3 (12 - j) 2 (.int .u8 (lx.be / 2 ^ (8 * j) % 256)) ⟨rfl, rfl⟩ (by rfl) (by rfl) (unhide M) (u8s (([209] ++ be 4 lx.ep ++ zs (8 - (j + 1))) ++ (lx.be / 2 ^ (8 * j) % 256) :: (be j lx.be ++ (zs (8 - j) ++ be j lx.re) ++ zs 43))) rfl (unhide HLT) (set_in _ _ _ _ _ (unhide HAL)) ?_
               intro W51 N51
               replace M : Hid (Mm [] w W51 [(b1, 23, lx.C), (b2, 25, u8s (zs 64)), (b3, 25, u8s (([209] ++ be 4 lx.ep ++ zs (8 - (j + 1))) ++ (lx.be / 2 ^ (8 * j) % 256) :: (be j lx.be ++ (zs (8 - j) ++ be j lx.re) ++ zs 43)))]) := hide N51
               clear N51
               clear c1
               replace M : Hid (Mm [] w W51 [(b1, 23, lx.C), (b2, 25, u8s (zs 64)), (b3, 25, u8s (([209] ++ be 4 lx.ep ++ (zs (8 - (j + 1)) ++ (lx.be / 2 ^ (8 * j) % 256) :: be j lx.be) ++ zs (8 - (j + 1))) ++ 0 :: (be j lx.re ++ zs 43)))]) := by have h9 := unhide M; rw [unhide HMID] at h9; exact h9
               have c2 := fits_cell ((unhide M).at 0 _ rfl) 2 _ rfl
               refine Stp.go ?_))
          constructor
          go_wp2_with (
            first
            | (refine wpStoreMT size5 rfl (.tmp 45) (.tmp 44) rfl rfl b3 (20 - j) 2 (.int .u8 (lx.re / 2 ^ (8 * j) % 256)) ⟨rfl, rfl⟩ (by rfl) (by rfl) (unhide M) (u8s (([209] ++ be 4 lx.ep ++ (zs (8 - (j + 1)) ++ (lx.be / 2 ^ (8 * j) % 256) :: be j lx.be) ++ zs (8 - (j + 1))) ++ (lx.re / 2 ^ (8 * j) % 256) :: (be j lx.re ++ zs 43))) rfl (unhide HLT2) (set_in _ _ _ _ _ (unhide HAL2)) ?_
               intro W52 N52
               replace M : Hid (Mm [] w W52 [(b1, 23, lx.C), (b2, 25, u8s (zs 64)), (b3, 25, u8s (([209] ++ be 4 lx.ep ++ (zs (8 - (j + 1)) ++ (lx.be / 2 ^ (8 * j) % 256) :: be j lx.be) ++ zs (8 - (j + 1))) ++ (lx.re / 2 ^ (8 * j) % 256) :: (be j lx.re ++ zs 43)))]) := hide N52
               clear N52
               refine Stp.go ?_))
          constructor
          go_wp2_with fail
          clear c2
          have h9 := unhide M
          rw [shr_byte, shr_byte, show ([209] ++ be 4 lx.ep ++ (zs (8 - (j + 1)) ++ (lx.be / 256 ^ j % 256) :: be j lx.be) ++ zs (8 - (j + 1))) ++ (lx.re / 256 ^ j % 256) :: (be j lx.re ++ zs 43) = [209] ++ be 4 lx.ep ++ (zs (8 - (j + 1)) ++ be (j + 1) lx.be) ++ (zs (8 - (j + 1)) ++ be (j + 1) lx.re) ++ zs 43 by rw [be_cons j lx.be, be_cons j lx.re]; simp] at h9
          replace M := hide h9
          clear h9
          go_roundw
          case rel => exact ⟨j + 1, by omega, by go_num, M⟩
          case measure => simp [intOf]; omega
        · have hd : decide ((j : Int) < 8) = false := by simp; omega
          have h9 := unhide M
          rw [show j = 8 by omega, show [209] ++ be 4 lx.ep ++ (zs (8 - 8) ++ be 8 lx.be) ++ (zs (8 - 8) ++ be 8 lx.re) ++ zs 43 = secL lx by simp [zs, secL]] at h9
          replace M := hide h9
          clear h9
          go_wp2_with (
            first
            | (refine wpLoadA row25 rfl (.tmp 3) rfl b3 0 rfl (u8s (secL lx)) (by rw [u8s_len, secL_len]) ((unhide M).at 2 _ rfl).range ?_
               refine Stp.go ?_))
          constructor
          go_wp2_with (
            first
            | (refine wpStoreM row25 rfl (.tmp 2) (.tmp 46) rfl rfl b2 1 (u8s (secL lx)) rfl rfl (by rw [u8s_len, secL_len]) (u8s_one _) (unhide M) rfl (zl 64) ?_
               intro W71 N71
               replace M : Hid (Mm [] w W71 [(b1, 23, lx.C), (b2, 25, u8s (secL lx)), (b3, 25, u8s (secL lx))]) := hide N71
               clear N71
               refine Stp.go ?_))
          constructor
          go_wp2_with fail
          refine bodyPost_ret (res14 _ b2 (u8s (secL lx)) _ rfl (by rw [u8s_len, secL_len]) ((unhide M).at 1 _ rfl)) rfl ?_
          exact ⟨rfl, (unhide M).kept⟩
theorem rput14 (lx : Le) (w : World) (hm : lx.may = true) : Calls Try.prog 14 #[aggV lx.C] w fun e w' => e = .returned (aggV (u8s (putL lx).1)) ∧ Kept [] w w' := by
  unfold putL
  rw [if_neg (by rw [hm]; simp)]
  by_cases hq : lx = le0
  · rw [if_pos hq]; exact rput_b lx w (by simpa using hq)
  · rw [if_neg hq]; exact rput_c lx w hm (by simpa using hq)

end Go.Proofs.Ythidiolgngkffaa
