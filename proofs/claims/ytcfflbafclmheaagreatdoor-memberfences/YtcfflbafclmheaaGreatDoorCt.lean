/-
  The document's GetLease.
-/
import Derived.Test.YtcfflbafclmheaaGreatDoorCs

/-
  The document's PutView.
-/
namespace Go.Proofs.YtcfflbafclmheaaGreatDoor
set_option maxRecDepth 100000
set_option linter.unusedSimpArgs false
open Go.RowKit
open Le (Mm wpStoreM wpStoreM1)


theorem res113 (w : World) (z : Nat) (vs : List Value) (tmps : Array Value) (h4 : tmps[2]?.getD undef = P0 z) (hl : vs.length = 64) (hb : Blk w z 59 vs) : (results Tryz.f113 tmps).run Tryz.prog w = .ok (aggV vs) w := by
  have := loadV Vi.row28 hl hb
  simp [results, Tryz.results113, h4, this, asAddr]
theorem may_ep {v : Vi.Vw} (h : v.may = true) (h0 : v.nu ≠ 0) {m : Bool × Int} (hm : m ∈ v.ms) : 0 ≤ m.2 ∧ m.2 ≤ 2147483647 := by
  unfold Vi.Vw.may at h
  rw [if_neg h0] at h
  simp only [Bool.and_eq_true] at h
  have h9 := List.all_eq_true.1 h.2.2 m hm
  unfold Vi.memOk Vi.isEp at h9
  split at h9 <;> simp at h9 <;> constructor <;> omega
set_option maxHeartbeats 2000000 in
theorem rput_z (v : Vi.Vw) (w : World) (hq : v.nu = 0) : Calls Tryz.prog 113 #[aggV (Vi.vwC v)] w fun e w' => e = .returned (aggV (u8s (Vi.zs 64))) ∧ Kept [] w w' := by
  go_enter Tryz.func113, Tryz.ntmps113
  have M : Hid (Mm [] w w []) := hide Mm.init
  go_wp2_with (
    first
    | (refine wpBoxV rfl (.tmp 0) rfl (Vi.vwC v) rfl ?_
       intro W1 b1 e1 B1 K1
       replace M : Hid (Mm [] w W1 [(b1, 29, Vi.vwC v)]) := hide ((unhide M).new e1 B1 K1)
       clear e1 B1 K1
       refine Stp.go ?_))
  constructor
  go_wp2_with (
    first
    | (refine wpAllocW (u8s (Vi.zs 64)) Vi.zero28 2 rfl rfl rfl ?_
       intro W2 b2 e2 B2 K2
       replace M : Hid (Mm [] w W2 [(b1, 29, Vi.vwC v), (b2, 59, u8s (Vi.zs 64))]) := hide ((unhide M).new e2 B2 K2)
       clear e2 B2 K2
       refine Stp.go ?_))
  constructor
  go_wp2_with (
    first
    | (refine wpAllocW (u8s (Vi.zs 64)) Vi.zero28 3 rfl rfl rfl ?_
       intro W3 b3 e3 B3 K3
       replace M : Hid (Mm [] w W3 [(b1, 29, Vi.vwC v), (b2, 59, u8s (Vi.zs 64)), (b3, 59, u8s (Vi.zs 64))]) := hide ((unhide M).new e3 B3 K3)
       clear e3 B3 K3
       have c0 := fits_cell ((unhide M).at 0 _ rfl) 0 (.int .i64 v.nu) rfl
       refine Stp.go ?_))
  constructor
  rw [hq] at c0
  go_wp2_with (
    first
    | (refine wpLoadA Vi.row28 rfl (.tmp 3) rfl b3 0 rfl (u8s (Vi.zs 64)) (Vi.zl 64) ((unhide M).at 2 _ rfl).range ?_
       refine Stp.go ?_))
  constructor
  go_wp2_with (
    first
    | (refine wpStoreM Vi.row28 rfl (.tmp 2) (.tmp 9) rfl rfl b2 1 (u8s (Vi.zs 64)) rfl rfl (Vi.zl 64) (u8s_one _) (unhide M) rfl (Vi.zl 64) ?_
       intro W4 N4
       replace M : Hid (Mm [] w W4 [(b1, 29, Vi.vwC v), (b2, 59, u8s (Vi.zs 64)), (b3, 59, u8s (Vi.zs 64))]) := hide N4
       clear N4
       refine Stp.go ?_))
  constructor
  go_wp2_with fail
  refine bodyPost_ret (res113 _ b2 (u8s (Vi.zs 64)) _ rfl (Vi.zl 64) ((unhide M).at 1 _ rfl)) rfl ?_
  exact ⟨rfl, (unhide M).kept⟩
set_option maxHeartbeats 8000000 in
theorem rput_true (v : Vi.Vw) (w : World) (hok : v.Ok) (hm : v.may = true) (hq : v.nu ≠ 0) (hop : v.op = true) : Calls Tryz.prog 113 #[aggV (Vi.vwC v)] w fun e w' => e = .returned (aggV (u8s (Vi.secL 1 (v.fd % 256) ((Vi.bitF 0 v.ms : Nat) : Int) v.nu v.ms 20))) ∧ Kept [] w w' := by
  have HNU : Hid (0 ≤ v.nu ∧ v.nu ≤ 9223372036854775807) := by have := Vi.may_nu hm; constructor <;> omega
  have HEP := hide (fun (m : Bool × Int) (hm9 : m ∈ v.ms) => may_ep hm hq hm9)
  have HLEN := hide hok.len
  have hd0 : decide (v.nu = 0) = false := by simp [hq]
  have HL20 : Hid ((u8s (Vi.secL 1 (v.fd % 256) ((Vi.bitF 0 v.ms : Nat) : Int) v.nu v.ms 20)).length = 64) := by show _ = _; rw [u8s_len, Vi.secL_len, hok.len]
  have HS0 : Hid ([193, 1, v.fd % 256, 0] ++ Vi.be 8 v.nu ++ Vi.zs 52 = Vi.secL 1 (v.fd % 256) ((Vi.bitF 0 (v.ms.take 0) : Nat) : Int) v.nu (v.ms.take 0) (52 - 4 * 0)) := by show _ = _; unfold Vi.secL; simp [Vi.bitF, Vi.epB]
  obtain ⟨R, hR⟩ : ∃ R, R = Vi.secL 1 (v.fd % 256) ((Vi.bitF 0 v.ms : Nat) : Int) v.nu v.ms 20 := ⟨_, rfl⟩
  have HR := hide hR
  rw [← hR] at HL20 ⊢
  clear hR hm hok
  go_enter Tryz.func113, Tryz.ntmps113
  have M : Hid (Mm [] w w []) := hide Mm.init
  go_wp2_with (
    first
    | (refine wpBoxV rfl (.tmp 0) rfl (Vi.vwC v) rfl ?_
       intro W1 b1 e1 B1 K1
       replace M : Hid (Mm [] w W1 [(b1, 29, Vi.vwC v)]) := hide ((unhide M).new e1 B1 K1)
       clear e1 B1 K1
       refine Stp.go ?_))
  constructor
  go_wp2_with (
    first
    | (refine wpAllocW (u8s (Vi.zs 64)) Vi.zero28 2 rfl rfl rfl ?_
       intro W2 b2 e2 B2 K2
       replace M : Hid (Mm [] w W2 [(b1, 29, Vi.vwC v), (b2, 59, u8s (Vi.zs 64))]) := hide ((unhide M).new e2 B2 K2)
       clear e2 B2 K2
       refine Stp.go ?_))
  constructor
  go_wp2_with (
    first
    | (refine wpAllocW (u8s (Vi.zs 64)) Vi.zero28 3 rfl rfl rfl ?_
       intro W3 b3 e3 B3 K3
       replace M : Hid (Mm [] w W3 [(b1, 29, Vi.vwC v), (b2, 59, u8s (Vi.zs 64)), (b3, 59, u8s (Vi.zs 64))]) := hide ((unhide M).new e3 B3 K3)
       clear e3 B3 K3
       have c0 := fits_cell ((unhide M).at 0 _ rfl) 0 (.int .i64 v.nu) rfl
       refine Stp.go ?_))
  constructor
  go_wp2_with (
    first
    | (refine wpStoreM1 Le.size5 rfl (.tmp 10) (.const (.int .u8 193)) rfl rfl b3 0 2 (.int .u8 193) ⟨rfl, rfl⟩ rfl rfl (unhide M) rfl (by simp [u8s, Vi.zs]) ?_
       intro W4 N4
       replace M : Hid (Mm [] w W4 [(b1, 29, Vi.vwC v), (b2, 59, u8s (Vi.zs 64)), (b3, 59, u8s ([193, 0, 0, 0] ++ Vi.zs 60))]) := hide N4
       clear N4
       have c1 : W4.cell? ⟨b1, 1, none⟩ = some (.bool true) := by rw [← hop]; exact fits_cell ((unhide M).at 0 _ rfl) 1 _ rfl
       refine Stp.go ?_))
  constructor
  go_wp2_with (
    first
    | (refine wpStoreM1 Le.size5 rfl (.tmp 13) (.const (.int .u8 1)) rfl rfl b3 1 2 (.int .u8 1) ⟨rfl, rfl⟩ rfl rfl (unhide M) rfl (by simp [u8s, Vi.zs]) ?_
       intro W5 N5
       replace M : Hid (Mm [] w W5 [(b1, 29, Vi.vwC v), (b2, 59, u8s (Vi.zs 64)), (b3, 59, u8s ([193, 1, 0, 0] ++ Vi.zs 60))]) := hide N5
       clear N5
       have c2 := fits_cell ((unhide M).at 0 _ rfl) 2 (.int .i64 v.fd) rfl
       refine Stp.go ?_))
  constructor
  go_wp2_with (
    first
    | (refine wpStoreM1 Le.size5 rfl (.tmp 17) (.tmp 16) rfl rfl b3 2 2 (.int .u8 (v.fd % 256)) ⟨rfl, rfl⟩ rfl rfl (unhide M) rfl (by simp [u8s, Vi.zs]) ?_
       intro W6 N6
       replace M : Hid (Mm [] w W6 [(b1, 29, Vi.vwC v), (b2, 59, u8s (Vi.zs 64)), (b3, 59, u8s ([193, 1, v.fd % 256, 0] ++ Vi.zs 60))]) := hide N6
       clear N6
       have c3 := fits_cell ((unhide M).at 0 _ rfl) 0 (.int .i64 v.nu) rfl
       refine Stp.go ?_))
  constructor
  go_wp2_with (
    first
    | (go_at_call 145
       refine (lay145 b3 8 4 v.nu [193, 1, v.fd % 256, 0] (Vi.zs 8) (Vi.zs 52) _ (by have h9 := (unhide M).at 2 _ rfl; rw [show Vi.zs 60 = Vi.zs 8 ++ Vi.zs 52 from rfl, ← List.append_assoc] at h9; exact h9) rfl rfl (by simp [Vi.zs]) (unhide HNU)).mono ?_
       rintro e W7 ⟨rfl, B7, K7⟩
       replace M : Hid (Mm [] w W7 [(b1, 29, Vi.vwC v), (b2, 59, u8s (Vi.zs 64)), (b3, 59, u8s (Vi.secL 1 (v.fd % 256) ((Vi.bitF 0 (v.ms.take 0) : Nat) : Int) v.nu (v.ms.take 0) (52 - 4 * 0)))]) := by have h9 := (unhide M).mut 2 rfl K7 B7; rw [unhide HS0] at h9; exact h9
       clear K7 B7
       refine Stp.go ?_))
  constructor
  go_wp2_with fail
  clear c0 c1 c2 c3
  go_loopw [4, 5] (fun xb xn wr => ∃ j : Nat, j ≤ 8 ∧ xb = .int .i64 ((2 ^ j : Nat) : Int) ∧ xn = .int .i64 j ∧ Hid (Mm [] w wr [(b1, 29, Vi.vwC v), (b2, 59, u8s (Vi.zs 64)), (b3, 59, u8s (Vi.secL 1 (v.fd % 256) ((Vi.bitF 0 (v.ms.take j) : Nat) : Int) v.nu (v.ms.take j) (52 - 4 * j)))])) (fun _ i _ => (8 - intOf i).toNat)
  case atStart => exact ⟨0, by omega, rfl, rfl, M⟩
  case round =>
    clear M
    obtain ⟨j, hj, rfl, rfl, M⟩ := hrel
    by_cases hlt : j < 8
    · have hd : decide ((j : Int) < 8) = true := by simp; omega
      have hj8 : (j : Int) < 8 := by omega
      obtain ⟨m, hm2⟩ : ∃ m, v.ms[j]? = some m := ⟨_, List.getElem?_eq_getElem (by rw [unhide HLEN]; omega)⟩
      have HME : Hid (0 ≤ m.2 ∧ m.2 ≤ 9223372036854775807) := by have h9 := unhide HEP m (List.mem_of_getElem? hm2); show _ ∧ _; omega
      have HBT := hide (Vi.bitF_take v.ms 0 j m hm2)
      have HTK : Hid (v.ms.take (j + 1) = v.ms.take j ++ [m]) := by
        obtain ⟨h1, h2⟩ := List.getElem?_eq_some_iff.1 hm2
        show _ = _
        rw [← h2]; exact (List.take_append_getElem h1).symm
      have HLJ : Hid ((v.ms.take j).length = j) := by show _ = _; rw [List.length_take, unhide HLEN]; omega
      have HBL : Hid (Vi.bitF 0 (v.ms.take j) < 2 ^ j) := by
        have h9 := Vi.bitF_lt (v.ms.take j) 0
        rw [unhide HLJ] at h9
        show _ < _
        simp at h9; omega
      obtain ⟨x0, x1⟩ := Vi.vwC_at hm2
      rw [Nat.mul_comm] at x0 x1
      have hc0 := fits_cell ((unhide M).at 0 _ rfl) _ _ x0
      clear x0 hm2
      have h2j : 2 ^ j ≤ 128 := by have : 2 ^ j ≤ 2 ^ 7 := Nat.pow_le_pow_right (by omega) (by omega); omega
      obtain ⟨p, hp⟩ : ∃ p, p = 2 ^ j := ⟨_, rfl⟩
      have HPP : Hid (2 ^ (j + 1) = 2 * p) := by show _ = _; rw [hp, Nat.pow_succ]; omega
      rw [← hp] at HBL h2j ⊢
      have HPJ := hide hp
      obtain ⟨mi, me⟩ := m
      have HZ : Hid (Vi.zs (52 - 4 * j) = Vi.zs 4 ++ Vi.zs (48 - 4 * j)) := by show _ = _; unfold Vi.zs; rw [List.replicate_append_replicate]; congr 1; omega
      obtain ⟨A, hA⟩ : ∃ A, A = Vi.bitF 0 (v.ms.take j) := ⟨_, rfl⟩
      rw [← hA] at HBL M HBT
      have hAp : A < p := unhide HBL
      have hpI : (p : Int) ≤ 128 := by omega
      have hAI : (A : Int) < (p : Int) := by omega
      have HCUT : ∀ A : Int, Hid (Vi.secL 1 (v.fd % 256) A v.nu (v.ms.take j) (52 - 4 * j) = ([193, 1, (v.fd % 256), A] ++ Vi.be 8 v.nu ++ Vi.epB (v.ms.take j)) ++ Vi.zs 4 ++ Vi.zs (48 - 4 * j)) := by intro A; show _ = _; unfold Vi.secL; rw [unhide HZ]; simp
      have HLP : ∀ A : Int, Hid (([193, 1, (v.fd % 256), A] ++ Vi.be 8 v.nu ++ Vi.epB (v.ms.take j)).length = 12 + 4 * j) := by intro A; show _ = _; simp [Vi.be_len, Vi.epB_len, unhide HLJ]; omega
      clear HZ hA hp hAp h2j
      cases mi with
      | true =>
        have HB1 : Hid ((Vi.bitF 0 (v.ms.take (j + 1)) : Nat) = A + p) := by have h9 := unhide HBT; simp at h9; show _ = _; rw [h9, unhide HPJ]
        have c9 : wr.cell? ⟨b3, 3, none⟩ = some (.int .u8 (A : Int)) := fits_cell ((unhide M).at 2 _ rfl) 3 _ rfl
        go_wp2_with (
          first
          | (refine wpStoreMT Le.size5 rfl (.tmp 35) (.tmp 34) rfl rfl b3 3 2 (.int .u8 ((A + p : Nat) : Int)) ⟨rfl, rfl⟩ rfl (by first | rfl | (show Value.int _ _ = _; congr 1; omega)) (unhide M) (u8s (Vi.secL 1 (v.fd % 256) ((A + p : Nat) : Int) v.nu (v.ms.take j) (52 - 4 * j))) rfl rfl (by rw [u8s_len, Vi.secL_len]; omega) ?_
             intro W61 N61
             replace M : Hid (Mm [] w W61 [(b1, 29, Vi.vwC v), (b2, 59, u8s (Vi.zs 64)), (b3, 59, u8s (Vi.secL 1 (v.fd % 256) ((A + p : Nat) : Int) v.nu (v.ms.take j) (52 - 4 * j)))]) := hide N61
             clear N61 c9 hc0
             have hc1 := fits_cell ((unhide M).at 0 _ rfl) _ _ x1
             refine Stp.go ?_))
        constructor
        obtain ⟨A2, hA2⟩ : ∃ A2, A2 = A + p := ⟨_, rfl⟩
        rw [← hA2] at M HB1
        go_wp2_with (
          first
          | (go_at_call 145
             refine (lay145 b3 4 (12 + 4 * j) me ([193, 1, (v.fd % 256), (A2 : Int)] ++ Vi.be 8 v.nu ++ Vi.epB (v.ms.take j)) (Vi.zs 4) (Vi.zs (48 - 4 * j)) _ (by rw [← unhide (HCUT (A2 : Int))]; exact (unhide M).at 2 _ rfl) (unhide (HLP (A2 : Int))) rfl (by rw [← unhide (HCUT (A2 : Int)), Vi.secL_len, unhide HLJ]; omega) (unhide HME)).mono ?_
             rintro e W71 ⟨rfl, B71, K71⟩
             replace M : Hid (Mm [] w W71 [(b1, 29, Vi.vwC v), (b2, 59, u8s (Vi.zs 64)), (b3, 59, u8s (([193, 1, (v.fd % 256), (A2 : Int)] ++ Vi.be 8 v.nu ++ Vi.epB (v.ms.take j)) ++ Vi.be 4 me ++ Vi.zs (48 - 4 * j)))]) := (unhide M).mut 2 rfl K71 B71
             clear B71 K71 hc1
             refine Stp.go ?_))
        constructor
        go_wp2_with fail
        go_roundw
        case rel => exact ⟨j + 1, by omega, by rw [unhide HPP]; first | rfl | go_num, by first | rfl | go_num, by rw [unhide HB1, unhide HTK]; have h9 := unhide M; rw [Vi.secL_next _ _ _ _ _ _ true j hlt] at h9; exact h9⟩
        case measure => simp [intOf]; omega
      | false =>
        have HB1 : Hid ((Vi.bitF 0 (v.ms.take (j + 1)) : Nat) = A) := by have h9 := unhide HBT; simp at h9; exact h9
        have hc1 := fits_cell ((unhide M).at 0 _ rfl) _ _ x1
        obtain ⟨A2, hA2⟩ : ∃ A2, A2 = A := ⟨_, rfl⟩
        rw [← hA2] at M HB1
        go_wp2_with (
          first
          | (go_at_call 145
             refine (lay145 b3 4 (12 + 4 * j) me ([193, 1, (v.fd % 256), (A2 : Int)] ++ Vi.be 8 v.nu ++ Vi.epB (v.ms.take j)) (Vi.zs 4) (Vi.zs (48 - 4 * j)) _ (by rw [← unhide (HCUT (A2 : Int))]; exact (unhide M).at 2 _ rfl) (unhide (HLP (A2 : Int))) rfl (by rw [← unhide (HCUT (A2 : Int)), Vi.secL_len, unhide HLJ]; omega) (unhide HME)).mono ?_
             rintro e W71 ⟨rfl, B71, K71⟩
             replace M : Hid (Mm [] w W71 [(b1, 29, Vi.vwC v), (b2, 59, u8s (Vi.zs 64)), (b3, 59, u8s (([193, 1, (v.fd % 256), (A2 : Int)] ++ Vi.be 8 v.nu ++ Vi.epB (v.ms.take j)) ++ Vi.be 4 me ++ Vi.zs (48 - 4 * j)))]) := (unhide M).mut 2 rfl K71 B71
             clear B71 K71 hc1
             refine Stp.go ?_))
        constructor
        go_wp2_with fail
        go_roundw
        case rel => exact ⟨j + 1, by omega, by rw [unhide HPP]; first | rfl | go_num, by first | rfl | go_num, by rw [unhide HB1, unhide HTK]; have h9 := unhide M; rw [Vi.secL_next _ _ _ _ _ _ false j hlt] at h9; exact h9⟩
        case measure => simp [intOf]; omega
    · obtain rfl : j = 8 := by omega
      have hT : v.ms.take 8 = v.ms := List.take_of_length_le (by rw [unhide HLEN]; exact Nat.le_refl _)
      have h9 := unhide M
      rw [hT, ← show R = Vi.secL 1 (v.fd % 256) ((Vi.bitF 0 v.ms : Nat) : Int) v.nu v.ms (52 - 4 * 8) from unhide HR] at h9
      replace M := hide h9
      clear h9 hT
      go_wp2_with (
        first
        | (refine wpLoadA Vi.row28 rfl (.tmp 3) rfl b3 0 rfl (u8s R) (unhide HL20) ((unhide M).at 2 _ rfl).range ?_
           refine Stp.go ?_))
      constructor
      go_wp2_with (
        first
        | (refine wpStoreM Vi.row28 rfl (.tmp 2) (.tmp 47) rfl rfl b2 1 (u8s R) rfl rfl (unhide HL20) (u8s_one _) (unhide M) rfl (Vi.zl 64) ?_
           intro W91 N91
           replace M : Hid (Mm [] w W91 [(b1, 29, Vi.vwC v), (b2, 59, u8s R), (b3, 59, u8s R)]) := hide N91
           clear N91
           refine Stp.go ?_))
      constructor
      go_wp2_with fail
      refine bodyPost_ret (res113 _ b2 (u8s R) _ rfl (unhide HL20) ((unhide M).at 1 _ rfl)) rfl ?_
      exact ⟨rfl, (unhide M).kept⟩
set_option maxHeartbeats 8000000 in
theorem rput_false (v : Vi.Vw) (w : World) (hok : v.Ok) (hm : v.may = true) (hq : v.nu ≠ 0) (hop : v.op = false) : Calls Tryz.prog 113 #[aggV (Vi.vwC v)] w fun e w' => e = .returned (aggV (u8s (Vi.secL 0 (v.fd % 256) ((Vi.bitF 0 v.ms : Nat) : Int) v.nu v.ms 20))) ∧ Kept [] w w' := by
  have HNU : Hid (0 ≤ v.nu ∧ v.nu ≤ 9223372036854775807) := by have := Vi.may_nu hm; constructor <;> omega
  have HEP := hide (fun (m : Bool × Int) (hm9 : m ∈ v.ms) => may_ep hm hq hm9)
  have HLEN := hide hok.len
  have hd0 : decide (v.nu = 0) = false := by simp [hq]
  have HL20 : Hid ((u8s (Vi.secL 0 (v.fd % 256) ((Vi.bitF 0 v.ms : Nat) : Int) v.nu v.ms 20)).length = 64) := by show _ = _; rw [u8s_len, Vi.secL_len, hok.len]
  have HS0 : Hid ([193, 0, v.fd % 256, 0] ++ Vi.be 8 v.nu ++ Vi.zs 52 = Vi.secL 0 (v.fd % 256) ((Vi.bitF 0 (v.ms.take 0) : Nat) : Int) v.nu (v.ms.take 0) (52 - 4 * 0)) := by show _ = _; unfold Vi.secL; simp [Vi.bitF, Vi.epB]
  obtain ⟨R, hR⟩ : ∃ R, R = Vi.secL 0 (v.fd % 256) ((Vi.bitF 0 v.ms : Nat) : Int) v.nu v.ms 20 := ⟨_, rfl⟩
  have HR := hide hR
  rw [← hR] at HL20 ⊢
  clear hR hm hok
  go_enter Tryz.func113, Tryz.ntmps113
  have M : Hid (Mm [] w w []) := hide Mm.init
  go_wp2_with (
    first
    | (refine wpBoxV rfl (.tmp 0) rfl (Vi.vwC v) rfl ?_
       intro W1 b1 e1 B1 K1
       replace M : Hid (Mm [] w W1 [(b1, 29, Vi.vwC v)]) := hide ((unhide M).new e1 B1 K1)
       clear e1 B1 K1
       refine Stp.go ?_))
  constructor
  go_wp2_with (
    first
    | (refine wpAllocW (u8s (Vi.zs 64)) Vi.zero28 2 rfl rfl rfl ?_
       intro W2 b2 e2 B2 K2
       replace M : Hid (Mm [] w W2 [(b1, 29, Vi.vwC v), (b2, 59, u8s (Vi.zs 64))]) := hide ((unhide M).new e2 B2 K2)
       clear e2 B2 K2
       refine Stp.go ?_))
  constructor
  go_wp2_with (
    first
    | (refine wpAllocW (u8s (Vi.zs 64)) Vi.zero28 3 rfl rfl rfl ?_
       intro W3 b3 e3 B3 K3
       replace M : Hid (Mm [] w W3 [(b1, 29, Vi.vwC v), (b2, 59, u8s (Vi.zs 64)), (b3, 59, u8s (Vi.zs 64))]) := hide ((unhide M).new e3 B3 K3)
       clear e3 B3 K3
       have c0 := fits_cell ((unhide M).at 0 _ rfl) 0 (.int .i64 v.nu) rfl
       refine Stp.go ?_))
  constructor
  go_wp2_with (
    first
    | (refine wpStoreM1 Le.size5 rfl (.tmp 10) (.const (.int .u8 193)) rfl rfl b3 0 2 (.int .u8 193) ⟨rfl, rfl⟩ rfl rfl (unhide M) rfl (by simp [u8s, Vi.zs]) ?_
       intro W4 N4
       replace M : Hid (Mm [] w W4 [(b1, 29, Vi.vwC v), (b2, 59, u8s (Vi.zs 64)), (b3, 59, u8s ([193, 0, 0, 0] ++ Vi.zs 60))]) := hide N4
       clear N4
       have c1 : W4.cell? ⟨b1, 1, none⟩ = some (.bool false) := by rw [← hop]; exact fits_cell ((unhide M).at 0 _ rfl) 1 _ rfl
       have c2 := fits_cell ((unhide M).at 0 _ rfl) 2 (.int .i64 v.fd) rfl
       refine Stp.go ?_))
  constructor
  go_wp2_with (
    first
    | (refine wpStoreM1 Le.size5 rfl (.tmp 17) (.tmp 16) rfl rfl b3 2 2 (.int .u8 (v.fd % 256)) ⟨rfl, rfl⟩ rfl rfl (unhide M) rfl (by simp [u8s, Vi.zs]) ?_
       intro W5 N5
       replace M : Hid (Mm [] w W5 [(b1, 29, Vi.vwC v), (b2, 59, u8s (Vi.zs 64)), (b3, 59, u8s ([193, 0, v.fd % 256, 0] ++ Vi.zs 60))]) := hide N5
       clear N5
       have c3 := fits_cell ((unhide M).at 0 _ rfl) 0 (.int .i64 v.nu) rfl
       refine Stp.go ?_))
  constructor
  go_wp2_with (
    first
    | (go_at_call 145
       refine (lay145 b3 8 4 v.nu [193, 0, v.fd % 256, 0] (Vi.zs 8) (Vi.zs 52) _ (by have h9 := (unhide M).at 2 _ rfl; rw [show Vi.zs 60 = Vi.zs 8 ++ Vi.zs 52 from rfl, ← List.append_assoc] at h9; exact h9) rfl rfl (by simp [Vi.zs]) (unhide HNU)).mono ?_
       rintro e W6 ⟨rfl, B6, K6⟩
       replace M : Hid (Mm [] w W6 [(b1, 29, Vi.vwC v), (b2, 59, u8s (Vi.zs 64)), (b3, 59, u8s (Vi.secL 0 (v.fd % 256) ((Vi.bitF 0 (v.ms.take 0) : Nat) : Int) v.nu (v.ms.take 0) (52 - 4 * 0)))]) := by have h9 := (unhide M).mut 2 rfl K6 B6; rw [unhide HS0] at h9; exact h9
       clear K6 B6
       refine Stp.go ?_))
  constructor
  go_wp2_with fail
  clear c0 c1 c2 c3
  go_loopw [4, 5] (fun xb xn wr => ∃ j : Nat, j ≤ 8 ∧ xb = .int .i64 ((2 ^ j : Nat) : Int) ∧ xn = .int .i64 j ∧ Hid (Mm [] w wr [(b1, 29, Vi.vwC v), (b2, 59, u8s (Vi.zs 64)), (b3, 59, u8s (Vi.secL 0 (v.fd % 256) ((Vi.bitF 0 (v.ms.take j) : Nat) : Int) v.nu (v.ms.take j) (52 - 4 * j)))])) (fun _ i _ => (8 - intOf i).toNat)
  case atStart => exact ⟨0, by omega, rfl, rfl, M⟩
  case round =>
    clear M
    obtain ⟨j, hj, rfl, rfl, M⟩ := hrel
    by_cases hlt : j < 8
    · have hd : decide ((j : Int) < 8) = true := by simp; omega
      have hj8 : (j : Int) < 8 := by omega
      obtain ⟨m, hm2⟩ : ∃ m, v.ms[j]? = some m := ⟨_, List.getElem?_eq_getElem (by rw [unhide HLEN]; omega)⟩
      have HME : Hid (0 ≤ m.2 ∧ m.2 ≤ 9223372036854775807) := by have h9 := unhide HEP m (List.mem_of_getElem? hm2); show _ ∧ _; omega
      have HBT := hide (Vi.bitF_take v.ms 0 j m hm2)
      have HTK : Hid (v.ms.take (j + 1) = v.ms.take j ++ [m]) := by
        obtain ⟨h1, h2⟩ := List.getElem?_eq_some_iff.1 hm2
        show _ = _
        rw [← h2]; exact (List.take_append_getElem h1).symm
      have HLJ : Hid ((v.ms.take j).length = j) := by show _ = _; rw [List.length_take, unhide HLEN]; omega
      have HBL : Hid (Vi.bitF 0 (v.ms.take j) < 2 ^ j) := by
        have h9 := Vi.bitF_lt (v.ms.take j) 0
        rw [unhide HLJ] at h9
        show _ < _
        simp at h9; omega
      obtain ⟨x0, x1⟩ := Vi.vwC_at hm2
      rw [Nat.mul_comm] at x0 x1
      have hc0 := fits_cell ((unhide M).at 0 _ rfl) _ _ x0
      clear x0 hm2
      have h2j : 2 ^ j ≤ 128 := by have : 2 ^ j ≤ 2 ^ 7 := Nat.pow_le_pow_right (by omega) (by omega); omega
      obtain ⟨p, hp⟩ : ∃ p, p = 2 ^ j := ⟨_, rfl⟩
      have HPP : Hid (2 ^ (j + 1) = 2 * p) := by show _ = _; rw [hp, Nat.pow_succ]; omega
      rw [← hp] at HBL h2j ⊢
      have HPJ := hide hp
      obtain ⟨mi, me⟩ := m
      have HZ : Hid (Vi.zs (52 - 4 * j) = Vi.zs 4 ++ Vi.zs (48 - 4 * j)) := by show _ = _; unfold Vi.zs; rw [List.replicate_append_replicate]; congr 1; omega
      obtain ⟨A, hA⟩ : ∃ A, A = Vi.bitF 0 (v.ms.take j) := ⟨_, rfl⟩
      rw [← hA] at HBL M HBT
      have hAp : A < p := unhide HBL
      have hpI : (p : Int) ≤ 128 := by omega
      have hAI : (A : Int) < (p : Int) := by omega
      have HCUT : ∀ A : Int, Hid (Vi.secL 0 (v.fd % 256) A v.nu (v.ms.take j) (52 - 4 * j) = ([193, 0, (v.fd % 256), A] ++ Vi.be 8 v.nu ++ Vi.epB (v.ms.take j)) ++ Vi.zs 4 ++ Vi.zs (48 - 4 * j)) := by intro A; show _ = _; unfold Vi.secL; rw [unhide HZ]; simp
      have HLP : ∀ A : Int, Hid (([193, 0, (v.fd % 256), A] ++ Vi.be 8 v.nu ++ Vi.epB (v.ms.take j)).length = 12 + 4 * j) := by intro A; show _ = _; simp [Vi.be_len, Vi.epB_len, unhide HLJ]; omega
      clear HZ hA hp hAp h2j
      cases mi with
      | true =>
        have HB1 : Hid ((Vi.bitF 0 (v.ms.take (j + 1)) : Nat) = A + p) := by have h9 := unhide HBT; simp at h9; show _ = _; rw [h9, unhide HPJ]
        have c9 : wr.cell? ⟨b3, 3, none⟩ = some (.int .u8 (A : Int)) := fits_cell ((unhide M).at 2 _ rfl) 3 _ rfl
        go_wp2_with (
          first
          | (refine wpStoreMT Le.size5 rfl (.tmp 35) (.tmp 34) rfl rfl b3 3 2 (.int .u8 ((A + p : Nat) : Int)) ⟨rfl, rfl⟩ rfl (by first | rfl | (show Value.int _ _ = _; congr 1; omega)) (unhide M) (u8s (Vi.secL 0 (v.fd % 256) ((A + p : Nat) : Int) v.nu (v.ms.take j) (52 - 4 * j))) rfl rfl (by rw [u8s_len, Vi.secL_len]; omega) ?_
             intro W61 N61
             replace M : Hid (Mm [] w W61 [(b1, 29, Vi.vwC v), (b2, 59, u8s (Vi.zs 64)), (b3, 59, u8s (Vi.secL 0 (v.fd % 256) ((A + p : Nat) : Int) v.nu (v.ms.take j) (52 - 4 * j)))]) := hide N61
             clear N61 c9 hc0
             have hc1 := fits_cell ((unhide M).at 0 _ rfl) _ _ x1
             refine Stp.go ?_))
        constructor
        obtain ⟨A2, hA2⟩ : ∃ A2, A2 = A + p := ⟨_, rfl⟩
        rw [← hA2] at M HB1
        go_wp2_with (
          first
          | (go_at_call 145
             refine (lay145 b3 4 (12 + 4 * j) me ([193, 0, (v.fd % 256), (A2 : Int)] ++ Vi.be 8 v.nu ++ Vi.epB (v.ms.take j)) (Vi.zs 4) (Vi.zs (48 - 4 * j)) _ (by rw [← unhide (HCUT (A2 : Int))]; exact (unhide M).at 2 _ rfl) (unhide (HLP (A2 : Int))) rfl (by rw [← unhide (HCUT (A2 : Int)), Vi.secL_len, unhide HLJ]; omega) (unhide HME)).mono ?_
             rintro e W71 ⟨rfl, B71, K71⟩
             replace M : Hid (Mm [] w W71 [(b1, 29, Vi.vwC v), (b2, 59, u8s (Vi.zs 64)), (b3, 59, u8s (([193, 0, (v.fd % 256), (A2 : Int)] ++ Vi.be 8 v.nu ++ Vi.epB (v.ms.take j)) ++ Vi.be 4 me ++ Vi.zs (48 - 4 * j)))]) := (unhide M).mut 2 rfl K71 B71
             clear B71 K71 hc1
             refine Stp.go ?_))
        constructor
        go_wp2_with fail
        go_roundw
        case rel => exact ⟨j + 1, by omega, by rw [unhide HPP]; first | rfl | go_num, by first | rfl | go_num, by rw [unhide HB1, unhide HTK]; have h9 := unhide M; rw [Vi.secL_next _ _ _ _ _ _ true j hlt] at h9; exact h9⟩
        case measure => simp [intOf]; omega
      | false =>
        have HB1 : Hid ((Vi.bitF 0 (v.ms.take (j + 1)) : Nat) = A) := by have h9 := unhide HBT; simp at h9; exact h9
        have hc1 := fits_cell ((unhide M).at 0 _ rfl) _ _ x1
        obtain ⟨A2, hA2⟩ : ∃ A2, A2 = A := ⟨_, rfl⟩
        rw [← hA2] at M HB1
        go_wp2_with (
          first
          | (go_at_call 145
             refine (lay145 b3 4 (12 + 4 * j) me ([193, 0, (v.fd % 256), (A2 : Int)] ++ Vi.be 8 v.nu ++ Vi.epB (v.ms.take j)) (Vi.zs 4) (Vi.zs (48 - 4 * j)) _ (by rw [← unhide (HCUT (A2 : Int))]; exact (unhide M).at 2 _ rfl) (unhide (HLP (A2 : Int))) rfl (by rw [← unhide (HCUT (A2 : Int)), Vi.secL_len, unhide HLJ]; omega) (unhide HME)).mono ?_
             rintro e W71 ⟨rfl, B71, K71⟩
             replace M : Hid (Mm [] w W71 [(b1, 29, Vi.vwC v), (b2, 59, u8s (Vi.zs 64)), (b3, 59, u8s (([193, 0, (v.fd % 256), (A2 : Int)] ++ Vi.be 8 v.nu ++ Vi.epB (v.ms.take j)) ++ Vi.be 4 me ++ Vi.zs (48 - 4 * j)))]) := (unhide M).mut 2 rfl K71 B71
             clear B71 K71 hc1
             refine Stp.go ?_))
        constructor
        go_wp2_with fail
        go_roundw
        case rel => exact ⟨j + 1, by omega, by rw [unhide HPP]; first | rfl | go_num, by first | rfl | go_num, by rw [unhide HB1, unhide HTK]; have h9 := unhide M; rw [Vi.secL_next _ _ _ _ _ _ false j hlt] at h9; exact h9⟩
        case measure => simp [intOf]; omega
    · obtain rfl : j = 8 := by omega
      have hT : v.ms.take 8 = v.ms := List.take_of_length_le (by rw [unhide HLEN]; exact Nat.le_refl _)
      have h9 := unhide M
      rw [hT, ← show R = Vi.secL 0 (v.fd % 256) ((Vi.bitF 0 v.ms : Nat) : Int) v.nu v.ms (52 - 4 * 8) from unhide HR] at h9
      replace M := hide h9
      clear h9 hT
      go_wp2_with (
        first
        | (refine wpLoadA Vi.row28 rfl (.tmp 3) rfl b3 0 rfl (u8s R) (unhide HL20) ((unhide M).at 2 _ rfl).range ?_
           refine Stp.go ?_))
      constructor
      go_wp2_with (
        first
        | (refine wpStoreM Vi.row28 rfl (.tmp 2) (.tmp 47) rfl rfl b2 1 (u8s R) rfl rfl (unhide HL20) (u8s_one _) (unhide M) rfl (Vi.zl 64) ?_
           intro W91 N91
           replace M : Hid (Mm [] w W91 [(b1, 29, Vi.vwC v), (b2, 59, u8s R), (b3, 59, u8s R)]) := hide N91
           clear N91
           refine Stp.go ?_))
      constructor
      go_wp2_with fail
      refine bodyPost_ret (res113 _ b2 (u8s R) _ rfl (unhide HL20) ((unhide M).at 1 _ rfl)) rfl ?_
      exact ⟨rfl, (unhide M).kept⟩
theorem rput113 (v : Vi.Vw) (w : World) (hok : v.Ok) (hm : v.may = true) : Calls Tryz.prog 113 #[aggV (Vi.vwC v)] w fun e w' => e = .returned (aggV (u8s (Vi.putV v).1)) ∧ Kept [] w w' := by
  unfold Vi.putV
  rw [if_neg (by rw [hm]; simp)]
  by_cases hq : v.nu = 0
  · have hf : v = Vi.fv := by have h9 := hm; unfold Vi.Vw.may at h9; rw [if_pos hq] at h9; exact of_decide_eq_true h9
    rw [if_pos hf]; exact rput_z v w hq
  · rw [if_neg (fun h => hq (by rw [h]; rfl))]
    unfold Vi.secV
    cases hop : v.op with
    | true => exact rput_true v w hok hm hq hop
    | false => exact rput_false v w hok hm hq hop

end Go.Proofs.YtcfflbafclmheaaGreatDoor

/-
  The document's PutLease.
-/
namespace Go.Proofs.YtcfflbafclmheaaGreatDoor
set_option maxRecDepth 100000
set_option linter.unusedSimpArgs false
open Go.RowKit
open Le (Mm wpStoreM wpStoreM1)


theorem be_same : ∀ (k : Nat) (n : Int), Vi.be k n = Le.be k n
  | 0, _ => rfl
  | k + 1, n => by rw [Vi.be, Le.be, be_same k]
theorem ofB_same : ∀ (l : List Int) (n : Int), Vi.ofB n l = Le.ofB n l
  | [], _ => rfl
  | x :: l, n => by rw [Vi.ofB, Le.ofB, ofB_same l]
theorem zs_same (n : Nat) : Vi.zs n = Le.zs n := rfl
theorem res101 (w : World) (z : Nat) (vs : List Value) (tmps : Array Value) (h4 : tmps[2]?.getD undef = P0 z) (hl : vs.length = 64) (hb : Blk w z 59 vs) : (results Tryz.f101 tmps).run Tryz.prog w = .ok (aggV vs) w := by
  have := loadV Vi.row28 hl hb
  simp [results, Tryz.results101, h4, this, asAddr]
theorem build73z (w : World) : (Instr.build 73 #[]).run Tryz.prog w = .ok (aggV (Le.Le.C Le.le0)) w := by kernel_rfl
set_option maxHeartbeats 4000000 in
theorem rpl_z (l : Le.Le) (w : World) (hq : l = Le.le0) : Calls Tryz.prog 101 #[aggV (Le.Le.C l)] w fun e w' => e = .returned (aggV (u8s (Vi.zs 64))) ∧ Kept [] w w' := by
  have HQ := hide hq
  clear hq
  go_enter Tryz.func101, Tryz.ntmps101
  have M : Hid (Mm [] w w []) := hide Mm.init
  go_wp2_with (
    first
    | (refine wpBoxV rfl (.tmp 0) rfl (Le.Le.C l) rfl ?_
       intro W1 b1 e1 B1 K1
       replace M : Hid (Mm [] w W1 [(b1, 73, Le.Le.C l)]) := hide ((unhide M).new e1 B1 K1)
       clear e1 B1 K1
       refine Stp.go ?_))
  constructor
  go_wp2_with (
    first
    | (refine wpAllocW (u8s (Vi.zs 64)) Vi.zero28 2 rfl rfl rfl ?_
       intro W2 b2 e2 B2 K2
       replace M : Hid (Mm [] w W2 [(b1, 73, Le.Le.C l), (b2, 59, u8s (Vi.zs 64))]) := hide ((unhide M).new e2 B2 K2)
       clear e2 B2 K2
       refine Stp.go ?_))
  constructor
  go_wp2_with (
    first
    | (refine wpAllocW (u8s (Vi.zs 64)) Vi.zero28 3 rfl rfl rfl ?_
       intro W3 b3 e3 B3 K3
       replace M : Hid (Mm [] w W3 [(b1, 73, Le.Le.C l), (b2, 59, u8s (Vi.zs 64)), (b3, 59, u8s (Vi.zs 64))]) := hide ((unhide M).new e3 B3 K3)
       clear e3 B3 K3
       refine Stp.go ?_))
  constructor
  go_wp2_with (
    first
    | (refine wpLoadA Le.row23 rfl (.tmp 1) rfl b1 0 rfl (Le.Le.C l) rfl ((unhide M).at 0 _ rfl).range ?_
       refine Stp.go ?_))
  constructor
  go_wp2_with (
    first
    | (refine wpBuildZ (Le.Le.C Le.le0) build73z rfl rfl ?_
       refine Stp.go ?_))
  constructor
  go_wp2_with (
    first
    | (refine wpEqlA 73 73 Le.guard23 (.tmp 4) (.tmp 5) rfl rfl (Le.Le.C l) (Le.Le.C Le.le0) rfl rfl true ((Le.eqL23 _ l Le.le0).trans (by have h9 := unhide HQ; simp [h9])) ?_
       refine Stp.go ?_))
  constructor
  go_wp2_with (
    first
    | (refine wpLoadA Vi.row28 rfl (.tmp 3) rfl b3 0 rfl (u8s (Vi.zs 64)) (Vi.zl 64) ((unhide M).at 2 _ rfl).range ?_
       refine Stp.go ?_))
  constructor
  go_wp2_with (
    first
    | (refine wpStoreM Vi.row28 rfl (.tmp 2) (.tmp 7) rfl rfl b2 1 (u8s (Vi.zs 64)) rfl rfl (Vi.zl 64) (u8s_one _) (unhide M) rfl (Vi.zl 64) ?_
       intro W4 N4
       replace M : Hid (Mm [] w W4 [(b1, 73, Le.Le.C l), (b2, 59, u8s (Vi.zs 64)), (b3, 59, u8s (Vi.zs 64))]) := hide N4
       clear N4
       refine Stp.go ?_))
  constructor
  go_wp2_with fail
  refine bodyPost_ret (res101 _ b2 (u8s (Vi.zs 64)) _ rfl (Vi.zl 64) ((unhide M).at 1 _ rfl)) rfl ?_
  exact ⟨rfl, (unhide M).kept⟩
set_option maxHeartbeats 4000000 in
theorem rpl_s (l : Le.Le) (w : World) (hm : l.may = true) (hq : l ≠ Le.le0) : Calls Tryz.prog 101 #[aggV (Le.Le.C l)] w fun e w' => e = .returned (aggV (u8s (Le.secL l))) ∧ Kept [] w w' := by
  have hmm := of_decide_eq_true hm
  have HQ := hide hq
  clear hq
  have HE : Hid (0 ≤ l.ep ∧ l.ep ≤ 9223372036854775807) := by constructor <;> omega
  have HB : Hid (0 ≤ l.be ∧ l.be ≤ 9223372036854775807) := by constructor <;> omega
  have HRE : Hid (0 ≤ l.re ∧ l.re ≤ 9223372036854775807) := by constructor <;> omega
  have L4 : ∀ x, (Vi.be 4 x).length = 4 := Vi.be_len 4
  have L8 : ∀ x, (Vi.be 8 x).length = 8 := Vi.be_len 8
  have HL8 : Hid ((u8s (Le.secL l)).length = 64) := by show _ = _; rw [u8s_len, Le.secL_len]
  have HRS : Hid ([209] ++ Vi.be 4 l.ep ++ Vi.be 8 l.be ++ Vi.be 8 l.re ++ Vi.zs 43 = Le.secL l) := by show _ = _; unfold Le.secL; rw [be_same, be_same, be_same]; rfl
  have PL := hide (fun (b o k : Nat) (x : Int) (pre post : List Int) (W : World) => lay145 b k o x pre (Vi.zs k) post W)
  clear hm hmm
  go_enter Tryz.func101, Tryz.ntmps101
  have M : Hid (Mm [] w w []) := hide Mm.init
  go_wp2_with (
    first
    | (refine wpBoxV rfl (.tmp 0) rfl (Le.Le.C l) rfl ?_
       intro W1 b1 e1 B1 K1
       replace M : Hid (Mm [] w W1 [(b1, 73, Le.Le.C l)]) := hide ((unhide M).new e1 B1 K1)
       clear e1 B1 K1
       refine Stp.go ?_))
  constructor
  go_wp2_with (
    first
    | (refine wpAllocW (u8s (Vi.zs 64)) Vi.zero28 2 rfl rfl rfl ?_
       intro W2 b2 e2 B2 K2
       replace M : Hid (Mm [] w W2 [(b1, 73, Le.Le.C l), (b2, 59, u8s (Vi.zs 64))]) := hide ((unhide M).new e2 B2 K2)
       clear e2 B2 K2
       refine Stp.go ?_))
  constructor
  go_wp2_with (
    first
    | (refine wpAllocW (u8s (Vi.zs 64)) Vi.zero28 3 rfl rfl rfl ?_
       intro W3 b3 e3 B3 K3
       replace M : Hid (Mm [] w W3 [(b1, 73, Le.Le.C l), (b2, 59, u8s (Vi.zs 64)), (b3, 59, u8s (Vi.zs 64))]) := hide ((unhide M).new e3 B3 K3)
       clear e3 B3 K3
       refine Stp.go ?_))
  constructor
  go_wp2_with (
    first
    | (refine wpLoadA Le.row23 rfl (.tmp 1) rfl b1 0 rfl (Le.Le.C l) rfl ((unhide M).at 0 _ rfl).range ?_
       refine Stp.go ?_))
  constructor
  go_wp2_with (
    first
    | (refine wpBuildZ (Le.Le.C Le.le0) build73z rfl rfl ?_
       refine Stp.go ?_))
  constructor
  go_wp2_with (
    first
    | (refine wpEqlA 73 73 Le.guard23 (.tmp 4) (.tmp 5) rfl rfl (Le.Le.C l) (Le.Le.C Le.le0) rfl rfl false ((Le.eqL23 _ l Le.le0).trans (by have h9 := unhide HQ; simp [h9])) ?_
       refine Stp.go ?_))
  constructor
  go_wp2_with (
    first
    | (refine wpStoreM1 Le.size5 rfl (.tmp 8) (.const (.int .u8 209)) rfl rfl b3 0 2 (.int .u8 209) ⟨rfl, rfl⟩ rfl rfl (unhide M) rfl (by simp [u8s, Vi.zs]) ?_
       intro W4 N4
       replace M : Hid (Mm [] w W4 [(b1, 73, Le.Le.C l), (b2, 59, u8s (Vi.zs 64)), (b3, 59, u8s ([209] ++ Vi.zs 63))]) := hide N4
       clear N4
       have c0 := fits_cell ((unhide M).at 0 _ rfl) 0 (.int .i64 l.ep) rfl
       refine Stp.go ?_))
  constructor
  go_wp2_with (
    first
    | (go_at_call 145
       refine (lay145 b3 4 1 l.ep ([209]) (Vi.zs 4) (Vi.zs 59) _ (by have h9 := (unhide M).at 2 _ rfl; rw [show Vi.zs 63 = Vi.zs 4 ++ Vi.zs 59 from rfl, ← List.append_assoc] at h9; exact h9) (by simp [L4, L8]) rfl (by simp [L4, L8, Vi.zs]) (unhide HE)).mono ?_
       rintro e W5 ⟨rfl, B5, K5⟩
       replace M : Hid (Mm [] w W5 [(b1, 73, Le.Le.C l), (b2, 59, u8s (Vi.zs 64)), (b3, 59, u8s ([209] ++ Vi.be 4 l.ep ++ Vi.zs 59))]) := (unhide M).mut 2 rfl K5 B5
       clear K5 B5
       clear c0
       have c1 := fits_cell ((unhide M).at 0 _ rfl) 1 (.int .i64 l.be) rfl
       refine Stp.go ?_))
  constructor
  go_wp2_with (
    first
    | (go_at_call 145
       refine (lay145 b3 8 5 l.be ([209] ++ Vi.be 4 l.ep) (Vi.zs 8) (Vi.zs 51) _ (by have h9 := (unhide M).at 2 _ rfl; rw [show Vi.zs 59 = Vi.zs 8 ++ Vi.zs 51 from rfl, ← List.append_assoc] at h9; exact h9) (by simp [L4, L8]) rfl (by simp [L4, L8, Vi.zs]) (unhide HB)).mono ?_
       rintro e W6 ⟨rfl, B6, K6⟩
       replace M : Hid (Mm [] w W6 [(b1, 73, Le.Le.C l), (b2, 59, u8s (Vi.zs 64)), (b3, 59, u8s ([209] ++ Vi.be 4 l.ep ++ Vi.be 8 l.be ++ Vi.zs 51))]) := (unhide M).mut 2 rfl K6 B6
       clear K6 B6
       clear c1
       have c2 := fits_cell ((unhide M).at 0 _ rfl) 2 (.int .i64 l.re) rfl
       refine Stp.go ?_))
  constructor
  go_wp2_with (
    first
    | (go_at_call 145
       refine (lay145 b3 8 13 l.re ([209] ++ Vi.be 4 l.ep ++ Vi.be 8 l.be) (Vi.zs 8) (Vi.zs 43) _ (by have h9 := (unhide M).at 2 _ rfl; rw [show Vi.zs 51 = Vi.zs 8 ++ Vi.zs 43 from rfl, ← List.append_assoc] at h9; exact h9) (by simp [L4, L8]) rfl (by simp [L4, L8, Vi.zs]) (unhide HRE)).mono ?_
       rintro e W7 ⟨rfl, B7, K7⟩
       replace M : Hid (Mm [] w W7 [(b1, 73, Le.Le.C l), (b2, 59, u8s (Vi.zs 64)), (b3, 59, u8s ([209] ++ Vi.be 4 l.ep ++ Vi.be 8 l.be ++ Vi.be 8 l.re ++ Vi.zs 43))]) := (unhide M).mut 2 rfl K7 B7
       clear K7 B7
       clear c2
       have h9 := unhide M
       rw [unhide HRS] at h9
       replace M : Hid (Mm [] w W7 [(b1, 73, Le.Le.C l), (b2, 59, u8s (Vi.zs 64)), (b3, 59, u8s (Le.secL l))]) := h9
       clear h9
       refine Stp.go ?_))
  constructor
  go_wp2_with (
    first
    | (refine wpLoadA Vi.row28 rfl (.tmp 3) rfl b3 0 rfl (u8s (Le.secL l)) (unhide HL8) ((unhide M).at 2 _ rfl).range ?_
       refine Stp.go ?_))
  constructor
  go_wp2_with (
    first
    | (refine wpStoreM Vi.row28 rfl (.tmp 2) (.tmp 18) rfl rfl b2 1 (u8s (Le.secL l)) rfl rfl (unhide HL8) (u8s_one _) (unhide M) rfl (Vi.zl 64) ?_
       intro W8 N8
       replace M : Hid (Mm [] w W8 [(b1, 73, Le.Le.C l), (b2, 59, u8s (Le.secL l)), (b3, 59, u8s (Le.secL l))]) := hide N8
       clear N8
       refine Stp.go ?_))
  constructor
  go_wp2_with fail
  refine bodyPost_ret (res101 _ b2 (u8s (Le.secL l)) _ rfl (unhide HL8) ((unhide M).at 1 _ rfl)) rfl ?_
  exact ⟨rfl, (unhide M).kept⟩
theorem rput101 (l : Le.Le) (w : World) (hm : l.may = true) : Calls Tryz.prog 101 #[aggV (Le.Le.C l)] w fun e w' => e = .returned (aggV (u8s (Le.putL l).1)) ∧ Kept [] w w' := by
  unfold Le.putL
  rw [if_neg (by rw [hm]; simp)]
  by_cases hq : l = Le.le0
  · rw [if_pos hq]; exact rpl_z l w hq
  · rw [if_neg hq]; exact rpl_s l w hm hq

end Go.Proofs.YtcfflbafclmheaaGreatDoor

/-
  The document's GetLease.
-/
namespace Go.Proofs.YtcfflbafclmheaaGreatDoor
set_option maxRecDepth 100000
set_option linter.unusedSimpArgs false
open Go.RowKit


namespace Le
theorem SV.step {V W W' : World} {v : Le} {d : Nat → Bool} {vs : Nat → Value} (h : SV V v d vs W) (hk : Kept [] W W') : SV V v d vs W' :=
  ⟨h.1.trans hk, fun h7 => by
    obtain ⟨p, h1, h2, h3, h4⟩ := h.2 h7
    exact ⟨p, h1, h2, fun h8 => (h3 h8).kept hk (by simp), fun h8 => (h4 h8).kept hk (by simp)⟩⟩
theorem cg112 (vs : Array Value) (w : World) : (callFunc 112 vs).run Tryz.prog w = .ok (.enter 112 vs) w := by kernel_rfl
theorem cg99 (vs : Array Value) (w : World) : (callFunc 99 vs).run Tryz.prog w = .ok (.enter 99 vs) w := by kernel_rfl
theorem cg101 (vs : Array Value) (w : World) : (callFunc 101 vs).run Tryz.prog w = .ok (.enter 101 vs) w := by kernel_rfl
theorem res102 (w : World) (z : Nat) (vs : List Value) (e : Bool) (tmps : Array Value) (h4 : tmps[2]?.getD undef = P0 z) (h5 : tmps[3]?.getD undef = .bool e) (hl : vs.length = 3) (hb : Blk w z 73 vs) : (results Tryz.f102 tmps).run Tryz.prog w = .ok (.tuple #[aggV vs, .bool e]) w := by
  have := loadV row23 hl hb
  simp [results, Tryz.results102, h4, h5, this, asAddr]
theorem u8_at {s : List Int} (hs : s.length = 64) (i : Nat) (h : i < 64) : (u8s s)[i]? = some (.int .u8 (s.getD i 0)) := by
  unfold u8s
  rw [List.getElem?_map, List.getD_eq_getElem?_getD, List.getElem?_eq_getElem (by omega)]
  rfl
set_option maxHeartbeats 2000000 in
theorem rget_a (s : List Int) (w : World) (hs : Byts 64 s) (x5 x13 : Int) (H5 : Hid ((u8s s)[5]? = some (.int .u8 x5))) (H13 : Hid ((u8s s)[13]? = some (.int .u8 x13))) (hx5 : decide (64 < x5) = false) (hx13 : decide (64 < x13) = false) (hm : (leS s).may = false) : Calls Tryz.prog 102 #[aggV (u8s s)] w fun x w' => x = .returned (.tuple #[aggV le0.C, .bool false]) ∧ Kept [] w w' := by
  have P12 : ∀ W, Hid (Calls Tryz.prog 99 #[aggV (leS s).C] W fun e w' => e = .returned (.bool false) ∧ Kept [] W w') := fun W => hide (by have := mayLease99 (leS s) W; rw [hm] at this; exact this)
  go_enter Tryz.func102, Tryz.ntmps102
  have M : Hid (Mm [] w w []) := hide Mm.init
  go_wp2_with (
    first
    | (refine wpBoxV rfl (.tmp 0) rfl (u8s s) rfl ?_
       intro W1 b1 e1 B1 K1
       replace M : Hid (Mm [] w W1 [(b1, 59, u8s s)]) := hide ((unhide M).new e1 B1 K1)
       clear e1 B1 K1
       refine Stp.go ?_))
  constructor
  go_wp2_with (
    first
    | (refine wpAllocW (le0.C) zero23 2 rfl rfl rfl ?_
       intro W2 b2 e2 B2 K2
       replace M : Hid (Mm [] w W2 [(b1, 59, u8s s), (b2, 73, le0.C)]) := hide ((unhide M).new e2 B2 K2)
       clear e2 B2 K2
       have c5 := fits_cell ((unhide M).at 0 _ rfl) 5 _ (unhide H5)
       have c13 := fits_cell ((unhide M).at 0 _ rfl) 13 _ (unhide H13)
       refine Stp.go ?_))
  constructor
  go_wp2_with fail
  clear c5 c13
  refine wp_region_any mixed (wpAny_gx 9 rfl (by kernel_rfl) [some (aggV (u8s s)), some (.int .i64 (ofB 0 ((s.drop 1).take 4))), some (aggV (u8s s)), some (.int .i64 (ofB 0 ((s.drop 5).take 8))), some (aggV (u8s s)), some (.int .i64 (ofB 0 ((s.drop 13).take 8))), some (aggV (leS s).C), none, none] rfl (by kernel_rfl) (fun l vs W => (SV W2 (leS s)) (fun i => l.getD i false) vs W) (⟨⟨rfl, rfl, rfl, Nat.le_refl _, fun _ _ _ => rfl⟩, fun h => by cases h⟩) ?_ ?_)
  · intro ix o' hi ho a' w2 l vs hls hlf hJ hout hin hdep hnot
    match ix, ho with
    | 0, ho =>
      obtain rfl := Option.some.inj ho
      have e0 := hout 1 (by kernel_rfl)
      replace e0 : a'.eval (.tmp 1) = _ := e0.trans rfl
      exact wp_loadA row25 (.tmp 1) rfl b1 0 e0 (u8s s) (by rw [u8s_len]; exact hs.len) (((unhide M).step hJ.1).at 0 _ rfl).range ⟨_, rfl, told_of rfl, keepG (St := (SV W2 (leS s))) [7, 8] SV.loc (by omega) (by decide) hJ⟩
    | 1, ho =>
      obtain rfl := Option.some.inj ho
      have e0 : a'.eval (.tmp 14) = aggV (u8s s) := by have h9 := hin 0 14 (by kernel_rfl) (by kernel_rfl); exact h9.1.trans (told_is _ h9.2 rfl)
      refine wp_callF 112 _ _ rfl #[aggV (u8s s), .int .i64 1, .int .i64 4] (by simp [e0]; exact ⟨rfl, rfl⟩) (cg112 _ _) ((said112 4 1 s w2 hs (by omega)).mono ?_)
      rintro e w3 ⟨rfl, hk3⟩
      exact ⟨_, rfl, _, rfl, told_of rfl, keepG (St := (SV W2 (leS s))) [7, 8] SV.loc (by omega) (by decide) (SV.step hJ hk3)⟩
    | 2, ho =>
      obtain rfl := Option.some.inj ho
      have e0 := hout 1 (by kernel_rfl)
      replace e0 : a'.eval (.tmp 1) = _ := e0.trans rfl
      exact wp_loadA row25 (.tmp 1) rfl b1 0 e0 (u8s s) (by rw [u8s_len]; exact hs.len) (((unhide M).step hJ.1).at 0 _ rfl).range ⟨_, rfl, told_of rfl, keepG (St := (SV W2 (leS s))) [7, 8] SV.loc (by omega) (by decide) hJ⟩
    | 3, ho =>
      obtain rfl := Option.some.inj ho
      have e0 : a'.eval (.tmp 16) = aggV (u8s s) := by have h9 := hin 2 16 (by kernel_rfl) (by kernel_rfl); exact h9.1.trans (told_is _ h9.2 rfl)
      refine wp_callF 112 _ _ rfl #[aggV (u8s s), .int .i64 5, .int .i64 8] (by simp [e0]; exact ⟨rfl, rfl⟩) (cg112 _ _) ((said112 8 5 s w2 hs (by omega)).mono ?_)
      rintro e w3 ⟨rfl, hk3⟩
      exact ⟨_, rfl, _, rfl, told_of rfl, keepG (St := (SV W2 (leS s))) [7, 8] SV.loc (by omega) (by decide) (SV.step hJ hk3)⟩
    | 4, ho =>
      obtain rfl := Option.some.inj ho
      have e0 := hout 1 (by kernel_rfl)
      replace e0 : a'.eval (.tmp 1) = _ := e0.trans rfl
      exact wp_loadA row25 (.tmp 1) rfl b1 0 e0 (u8s s) (by rw [u8s_len]; exact hs.len) (((unhide M).step hJ.1).at 0 _ rfl).range ⟨_, rfl, told_of rfl, keepG (St := (SV W2 (leS s))) [7, 8] SV.loc (by omega) (by decide) hJ⟩
    | 5, ho =>
      obtain rfl := Option.some.inj ho
      have e0 : a'.eval (.tmp 18) = aggV (u8s s) := by have h9 := hin 4 18 (by kernel_rfl) (by kernel_rfl); exact h9.1.trans (told_is _ h9.2 rfl)
      refine wp_callF 112 _ _ rfl #[aggV (u8s s), .int .i64 13, .int .i64 8] (by simp [e0]; exact ⟨rfl, rfl⟩) (cg112 _ _) ((said112 8 13 s w2 hs (by omega)).mono ?_)
      rintro e w3 ⟨rfl, hk3⟩
      exact ⟨_, rfl, _, rfl, told_of rfl, keepG (St := (SV W2 (leS s))) [7, 8] SV.loc (by omega) (by decide) (SV.step hJ hk3)⟩
    | 6, ho =>
      obtain rfl := Option.some.inj ho
      have e0 : a'.eval (.tmp 15) = .int .i64 (ofB 0 ((s.drop 1).take 4)) := by have h9 := hin 1 15 (by kernel_rfl) (by kernel_rfl); exact h9.1.trans (told_is _ h9.2 rfl)
      have e1 : a'.eval (.tmp 17) = .int .i64 (ofB 0 ((s.drop 5).take 8)) := by have h9 := hin 3 17 (by kernel_rfl) (by kernel_rfl); exact h9.1.trans (told_is _ h9.2 rfl)
      have e2 : a'.eval (.tmp 19) = .int .i64 (ofB 0 ((s.drop 13).take 8)) := by have h9 := hin 5 19 (by kernel_rfl) (by kernel_rfl); exact h9.1.trans (told_is _ h9.2 rfl)
      exact o_bld23 (.tmp 15) (.tmp 17) (.tmp 19) rfl _ _ _ e0 e1 e2 ⟨_, rfl, told_of rfl, keepG (St := (SV W2 (leS s))) [7, 8] SV.loc (by omega) (by decide) hJ⟩
    | 7, ho =>
      obtain rfl := Option.some.inj ho
      exact wp_allocA le0.C zero23 rfl ⟨_, rfl, told_no rfl, nextG (St := (SV W2 (leS s))) (by omega) ⟨hJ.1.alloc _, fun _ => ⟨w2.heap.size, rfl, hJ.1.size, fun _ => Blk.new w2 73 _, fun h => by have h9 : l.getD 8 false = true := h; rw [hnot 8 (by kernel_rfl)] at h9; cases h9⟩⟩⟩
    | 8, ho =>
      obtain rfl := Option.some.inj ho
      have e0 : a'.eval (.tmp 4) = vs 7 := (hin 7 4 (by kernel_rfl) (by kernel_rfl)).1
      have e1 : a'.eval (.tmp 20) = aggV (leS s).C := by have h9 := hin 6 20 (by kernel_rfl) (by kernel_rfl); exact h9.1.trans (told_is _ h9.2 rfl)
      obtain ⟨p, hp, hge, hz0, _⟩ := hJ.2 (hdep 7 (by kernel_rfl))
      exact wp_storeN row23 (.tmp 4) (.tmp 20) rfl rfl p 0 _ (e0.trans hp) e1 rfl (leC_one _) ((hz0 hlf).there (by decide)) ⟨undef, rfl, told_no rfl, nextG (St := (SV W2 (leS s))) (by omega) ⟨hJ.1.setCells _ _ (by omega), fun _ => ⟨p, hp, hge, (fun h => by cases h), fun _ => (hz0 hlf).put rfl⟩⟩⟩
  intro l_ vs4 V4 hl hJ htold
  have t0 : vs4 0 = aggV (u8s s) := told_is _ (htold 0 (by decide)) rfl
  have t1 : vs4 1 = .int .i64 (ofB 0 ((s.drop 1).take 4)) := told_is _ (htold 1 (by decide)) rfl
  have t2 : vs4 2 = aggV (u8s s) := told_is _ (htold 2 (by decide)) rfl
  have t3 : vs4 3 = .int .i64 (ofB 0 ((s.drop 5).take 8)) := told_is _ (htold 3 (by decide)) rfl
  have t4 : vs4 4 = aggV (u8s s) := told_is _ (htold 4 (by decide)) rfl
  have t5 : vs4 5 = .int .i64 (ofB 0 ((s.drop 13).take 8)) := told_is _ (htold 5 (by decide)) rfl
  have t6 : vs4 6 = aggV (leS s).C := told_is _ (htold 6 (by decide)) rfl
  rw [show (List.range 9).map vs4 = [vs4 0, vs4 1, vs4 2, vs4 3, vs4 4, vs4 5, vs4 6, vs4 7, vs4 8] from rfl]
  simp only [t0, t1, t2, t3, t4, t5, t6, putAll, Act.put, List.setIfInBounds_toArray, List.set_cons_succ, List.set_cons_zero]
  clear t0 t1 t2 t3 t4 t5 t6 htold
  obtain ⟨p, ep, hgp, _, hbp⟩ := hJ.2 (hl 7 (by decide))
  replace hbp := hbp (hl 8 (by decide))
  have hb1 : b1 < W2.heap.size := ((unhide M).at 0 _ rfl).lt
  have hb2 : b2 < W2.heap.size := ((unhide M).at 1 _ rfl).lt
  have hwz := (unhide M).kept.size
  replace M : Hid (Mm [] w V4 [(b1, 59, u8s s), (b2, 73, le0.C), (p, 73, (leS s).C)]) := hide (((unhide M).step hJ.1).add hbp (by omega) (fun x hx => by simp at hx; rcases hx with rfl | rfl <;> simp <;> omega))
  rw [ep]
  clear hJ hl ep hgp hbp hb1 hb2 hwz
  go_wp2_with fail
  refine wp_region_any mixed (wpAny_tq 9 rfl (by kernel_rfl) [some (aggV (leS s).C), some (.bool false), some (.bool true), some (.bool true), none, none, none, none, some (.bool true)] rfl (by kernel_rfl) (by kernel_rfl) ?_ ?_)
  · intro i o' hi hsk ho a' w2 hout hin hk2
    replace hk2 : Kept [] V4 w2 := ⟨hk2.os, hk2.tape, hk2.output, hk2.size, hk2.block⟩
    match i, ho, hsk with
    | 0, ho, hsk =>
      obtain rfl := Option.some.inj ho
      exact wp_loadA row23 (.tmp 4) rfl p 0 ((hout 4 (by kernel_rfl)).trans rfl) (leS s).C rfl (((unhide M).step hk2).at 2 _ rfl).range ⟨_, rfl, tq_is _ _ _ _ rfl, Kept.refl _ _, fun _ _ _ _ _ => trivial⟩
    | 1, ho, hsk =>
      obtain rfl := Option.some.inj ho
      have e0 : a'.eval (.tmp 21) = aggV (leS s).C := is_tq (hin 0 21 (by kernel_rfl) (by kernel_rfl)) rfl
      refine wp_callF 99 _ _ rfl #[aggV (leS s).C] (by simp [e0]) (cg99 _ _) ((unhide (P12 _)).mono ?_)
      rintro e w3 ⟨rfl, hk3⟩
      exact ⟨_, rfl, _, rfl, tq_is _ _ _ _ rfl, hk3, fun _ _ _ _ _ => trivial⟩
    | 2, ho, hsk =>
      obtain rfl := Option.some.inj ho
      have e0 : a'.eval (.tmp 22) = .bool false := is_tq (hin 1 22 (by kernel_rfl) (by kernel_rfl)) rfl
      exact o_not (.tmp 22) rfl false e0 ⟨_, rfl, tq_is _ _ _ _ rfl, Kept.refl _ _, fun _ _ _ _ _ => trivial⟩
    | 3, ho, hsk =>
      obtain rfl := Option.some.inj ho
      have e0 : a'.eval (.tmp 23) = .bool true := is_tq (hin 2 23 (by kernel_rfl) (by kernel_rfl)) rfl
      exact wp_move (.tmp 23) rfl _ e0 ⟨_, rfl, tq_is _ _ _ _ rfl, Kept.refl _ _, fun _ _ _ _ _ => trivial⟩
    | 4, ho, hsk =>
      cases hsk
    | 5, ho, hsk =>
      cases hsk
    | 6, ho, hsk =>
      cases hsk
    | 7, ho, hsk =>
      cases hsk
    | 8, ho, hsk =>
      obtain rfl := Option.some.inj ho
      have e0 : a'.eval (.tmp 24) = .bool true := is_tq (hin 3 24 (by kernel_rfl) (by kernel_rfl)) rfl
      exact o_pickOrT (.tmp 24) (.tmp 28) rfl e0 ⟨_, rfl, tq_is _ _ _ _ rfl, Kept.refl _ _, fun _ _ _ _ _ => trivial⟩
  intro w9 hk9
  replace hk9 : Kept [] V4 w9 := ⟨hk9.os, hk9.tape, hk9.output, hk9.size, hk9.block⟩
  simp only [valsQ, List.map_cons, List.map_nil, Option.getD_some, Option.getD_none, List.take_succ_cons, List.take_zero, putAll, Act.put, List.setIfInBounds_toArray, List.set_cons_succ, List.set_cons_zero]
  refine wpAny_done (by kernel_rfl) ?_ _
  replace M : Hid (Mm [] w w9 [(b1, 59, u8s s), (b2, 73, le0.C), (p, 73, (leS s).C)]) := hide ((unhide M).step hk9)
  clear hk9
  go_wp2_with (
    first
    | (refine wpBuildZ (T := 73) le0.C build23 rfl rfl ?_
       refine Stp.go ?_))
  constructor
  go_wp2_with (
    first
    | (refine wpStoreM row23 rfl (.tmp 2) (.tmp 30) rfl rfl b2 1 (le0.C) rfl rfl rfl (leC_one _) (unhide M) rfl rfl ?_
       intro W41 N41
       replace M : Hid (Mm [] w W41 [(b1, 59, u8s s), (b2, 73, le0.C), (p, 73, (leS s).C)]) := hide N41
       clear N41
       refine Stp.go ?_))
  constructor
  go_wp2_with fail
  refine bodyPost_ret (res102 _ b2 le0.C false _ rfl rfl rfl ((unhide M).at 1 _ rfl)) rfl ?_
  exact ⟨rfl, (unhide M).kept⟩
set_option maxHeartbeats 2000000 in
theorem rget_b (s q : List Int) (w : World) (hs : Byts 64 s) (hq : q.length = 64) (x5 x13 : Int) (H5 : Hid ((u8s s)[5]? = some (.int .u8 x5))) (H13 : Hid ((u8s s)[13]? = some (.int .u8 x13))) (hx5 : decide (64 < x5) = false) (hx13 : decide (64 < x13) = false) (hm : (leS s).may = true) (h14 : ∀ W, Calls Tryz.prog 101 #[aggV (leS s).C] W fun e w' => e = .returned (aggV (u8s q)) ∧ Kept [] W w') (he : decide (q = s) = false) : Calls Tryz.prog 102 #[aggV (u8s s)] w fun x w' => x = .returned (.tuple #[aggV le0.C, .bool false]) ∧ Kept [] w w' := by
  have P12 : ∀ W, Hid (Calls Tryz.prog 99 #[aggV (leS s).C] W fun e w' => e = .returned (.bool true) ∧ Kept [] W w') := fun W => hide (by have := mayLease99 (leS s) W; rw [hm] at this; exact this)
  have P14 : ∀ W, Hid (Calls Tryz.prog 101 #[aggV (leS s).C] W fun e w' => e = .returned (aggV (u8s q)) ∧ Kept [] W w') := fun W => hide (h14 W)
  clear h14
  go_enter Tryz.func102, Tryz.ntmps102
  have M : Hid (Mm [] w w []) := hide Mm.init
  go_wp2_with (
    first
    | (refine wpBoxV rfl (.tmp 0) rfl (u8s s) rfl ?_
       intro W1 b1 e1 B1 K1
       replace M : Hid (Mm [] w W1 [(b1, 59, u8s s)]) := hide ((unhide M).new e1 B1 K1)
       clear e1 B1 K1
       refine Stp.go ?_))
  constructor
  go_wp2_with (
    first
    | (refine wpAllocW (le0.C) zero23 2 rfl rfl rfl ?_
       intro W2 b2 e2 B2 K2
       replace M : Hid (Mm [] w W2 [(b1, 59, u8s s), (b2, 73, le0.C)]) := hide ((unhide M).new e2 B2 K2)
       clear e2 B2 K2
       have c5 := fits_cell ((unhide M).at 0 _ rfl) 5 _ (unhide H5)
       have c13 := fits_cell ((unhide M).at 0 _ rfl) 13 _ (unhide H13)
       refine Stp.go ?_))
  constructor
  go_wp2_with fail
  clear c5 c13
  refine wp_region_any mixed (wpAny_gx 9 rfl (by kernel_rfl) [some (aggV (u8s s)), some (.int .i64 (ofB 0 ((s.drop 1).take 4))), some (aggV (u8s s)), some (.int .i64 (ofB 0 ((s.drop 5).take 8))), some (aggV (u8s s)), some (.int .i64 (ofB 0 ((s.drop 13).take 8))), some (aggV (leS s).C), none, none] rfl (by kernel_rfl) (fun l vs W => (SV W2 (leS s)) (fun i => l.getD i false) vs W) (⟨⟨rfl, rfl, rfl, Nat.le_refl _, fun _ _ _ => rfl⟩, fun h => by cases h⟩) ?_ ?_)
  · intro ix o' hi ho a' w2 l vs hls hlf hJ hout hin hdep hnot
    match ix, ho with
    | 0, ho =>
      obtain rfl := Option.some.inj ho
      have e0 := hout 1 (by kernel_rfl)
      replace e0 : a'.eval (.tmp 1) = _ := e0.trans rfl
      exact wp_loadA row25 (.tmp 1) rfl b1 0 e0 (u8s s) (by rw [u8s_len]; exact hs.len) (((unhide M).step hJ.1).at 0 _ rfl).range ⟨_, rfl, told_of rfl, keepG (St := (SV W2 (leS s))) [7, 8] SV.loc (by omega) (by decide) hJ⟩
    | 1, ho =>
      obtain rfl := Option.some.inj ho
      have e0 : a'.eval (.tmp 14) = aggV (u8s s) := by have h9 := hin 0 14 (by kernel_rfl) (by kernel_rfl); exact h9.1.trans (told_is _ h9.2 rfl)
      refine wp_callF 112 _ _ rfl #[aggV (u8s s), .int .i64 1, .int .i64 4] (by simp [e0]; exact ⟨rfl, rfl⟩) (cg112 _ _) ((said112 4 1 s w2 hs (by omega)).mono ?_)
      rintro e w3 ⟨rfl, hk3⟩
      exact ⟨_, rfl, _, rfl, told_of rfl, keepG (St := (SV W2 (leS s))) [7, 8] SV.loc (by omega) (by decide) (SV.step hJ hk3)⟩
    | 2, ho =>
      obtain rfl := Option.some.inj ho
      have e0 := hout 1 (by kernel_rfl)
      replace e0 : a'.eval (.tmp 1) = _ := e0.trans rfl
      exact wp_loadA row25 (.tmp 1) rfl b1 0 e0 (u8s s) (by rw [u8s_len]; exact hs.len) (((unhide M).step hJ.1).at 0 _ rfl).range ⟨_, rfl, told_of rfl, keepG (St := (SV W2 (leS s))) [7, 8] SV.loc (by omega) (by decide) hJ⟩
    | 3, ho =>
      obtain rfl := Option.some.inj ho
      have e0 : a'.eval (.tmp 16) = aggV (u8s s) := by have h9 := hin 2 16 (by kernel_rfl) (by kernel_rfl); exact h9.1.trans (told_is _ h9.2 rfl)
      refine wp_callF 112 _ _ rfl #[aggV (u8s s), .int .i64 5, .int .i64 8] (by simp [e0]; exact ⟨rfl, rfl⟩) (cg112 _ _) ((said112 8 5 s w2 hs (by omega)).mono ?_)
      rintro e w3 ⟨rfl, hk3⟩
      exact ⟨_, rfl, _, rfl, told_of rfl, keepG (St := (SV W2 (leS s))) [7, 8] SV.loc (by omega) (by decide) (SV.step hJ hk3)⟩
    | 4, ho =>
      obtain rfl := Option.some.inj ho
      have e0 := hout 1 (by kernel_rfl)
      replace e0 : a'.eval (.tmp 1) = _ := e0.trans rfl
      exact wp_loadA row25 (.tmp 1) rfl b1 0 e0 (u8s s) (by rw [u8s_len]; exact hs.len) (((unhide M).step hJ.1).at 0 _ rfl).range ⟨_, rfl, told_of rfl, keepG (St := (SV W2 (leS s))) [7, 8] SV.loc (by omega) (by decide) hJ⟩
    | 5, ho =>
      obtain rfl := Option.some.inj ho
      have e0 : a'.eval (.tmp 18) = aggV (u8s s) := by have h9 := hin 4 18 (by kernel_rfl) (by kernel_rfl); exact h9.1.trans (told_is _ h9.2 rfl)
      refine wp_callF 112 _ _ rfl #[aggV (u8s s), .int .i64 13, .int .i64 8] (by simp [e0]; exact ⟨rfl, rfl⟩) (cg112 _ _) ((said112 8 13 s w2 hs (by omega)).mono ?_)
      rintro e w3 ⟨rfl, hk3⟩
      exact ⟨_, rfl, _, rfl, told_of rfl, keepG (St := (SV W2 (leS s))) [7, 8] SV.loc (by omega) (by decide) (SV.step hJ hk3)⟩
    | 6, ho =>
      obtain rfl := Option.some.inj ho
      have e0 : a'.eval (.tmp 15) = .int .i64 (ofB 0 ((s.drop 1).take 4)) := by have h9 := hin 1 15 (by kernel_rfl) (by kernel_rfl); exact h9.1.trans (told_is _ h9.2 rfl)
      have e1 : a'.eval (.tmp 17) = .int .i64 (ofB 0 ((s.drop 5).take 8)) := by have h9 := hin 3 17 (by kernel_rfl) (by kernel_rfl); exact h9.1.trans (told_is _ h9.2 rfl)
      have e2 : a'.eval (.tmp 19) = .int .i64 (ofB 0 ((s.drop 13).take 8)) := by have h9 := hin 5 19 (by kernel_rfl) (by kernel_rfl); exact h9.1.trans (told_is _ h9.2 rfl)
      exact o_bld23 (.tmp 15) (.tmp 17) (.tmp 19) rfl _ _ _ e0 e1 e2 ⟨_, rfl, told_of rfl, keepG (St := (SV W2 (leS s))) [7, 8] SV.loc (by omega) (by decide) hJ⟩
    | 7, ho =>
      obtain rfl := Option.some.inj ho
      exact wp_allocA le0.C zero23 rfl ⟨_, rfl, told_no rfl, nextG (St := (SV W2 (leS s))) (by omega) ⟨hJ.1.alloc _, fun _ => ⟨w2.heap.size, rfl, hJ.1.size, fun _ => Blk.new w2 73 _, fun h => by have h9 : l.getD 8 false = true := h; rw [hnot 8 (by kernel_rfl)] at h9; cases h9⟩⟩⟩
    | 8, ho =>
      obtain rfl := Option.some.inj ho
      have e0 : a'.eval (.tmp 4) = vs 7 := (hin 7 4 (by kernel_rfl) (by kernel_rfl)).1
      have e1 : a'.eval (.tmp 20) = aggV (leS s).C := by have h9 := hin 6 20 (by kernel_rfl) (by kernel_rfl); exact h9.1.trans (told_is _ h9.2 rfl)
      obtain ⟨p, hp, hge, hz0, _⟩ := hJ.2 (hdep 7 (by kernel_rfl))
      exact wp_storeN row23 (.tmp 4) (.tmp 20) rfl rfl p 0 _ (e0.trans hp) e1 rfl (leC_one _) ((hz0 hlf).there (by decide)) ⟨undef, rfl, told_no rfl, nextG (St := (SV W2 (leS s))) (by omega) ⟨hJ.1.setCells _ _ (by omega), fun _ => ⟨p, hp, hge, (fun h => by cases h), fun _ => (hz0 hlf).put rfl⟩⟩⟩
  intro l_ vs4 V4 hl hJ htold
  have t0 : vs4 0 = aggV (u8s s) := told_is _ (htold 0 (by decide)) rfl
  have t1 : vs4 1 = .int .i64 (ofB 0 ((s.drop 1).take 4)) := told_is _ (htold 1 (by decide)) rfl
  have t2 : vs4 2 = aggV (u8s s) := told_is _ (htold 2 (by decide)) rfl
  have t3 : vs4 3 = .int .i64 (ofB 0 ((s.drop 5).take 8)) := told_is _ (htold 3 (by decide)) rfl
  have t4 : vs4 4 = aggV (u8s s) := told_is _ (htold 4 (by decide)) rfl
  have t5 : vs4 5 = .int .i64 (ofB 0 ((s.drop 13).take 8)) := told_is _ (htold 5 (by decide)) rfl
  have t6 : vs4 6 = aggV (leS s).C := told_is _ (htold 6 (by decide)) rfl
  rw [show (List.range 9).map vs4 = [vs4 0, vs4 1, vs4 2, vs4 3, vs4 4, vs4 5, vs4 6, vs4 7, vs4 8] from rfl]
  simp only [t0, t1, t2, t3, t4, t5, t6, putAll, Act.put, List.setIfInBounds_toArray, List.set_cons_succ, List.set_cons_zero]
  clear t0 t1 t2 t3 t4 t5 t6 htold
  obtain ⟨p, ep, hgp, _, hbp⟩ := hJ.2 (hl 7 (by decide))
  replace hbp := hbp (hl 8 (by decide))
  have hb1 : b1 < W2.heap.size := ((unhide M).at 0 _ rfl).lt
  have hb2 : b2 < W2.heap.size := ((unhide M).at 1 _ rfl).lt
  have hwz := (unhide M).kept.size
  replace M : Hid (Mm [] w V4 [(b1, 59, u8s s), (b2, 73, le0.C), (p, 73, (leS s).C)]) := hide (((unhide M).step hJ.1).add hbp (by omega) (fun x hx => by simp at hx; rcases hx with rfl | rfl <;> simp <;> omega))
  rw [ep]
  clear hJ hl ep hgp hbp hb1 hb2 hwz
  go_wp2_with fail
  refine wp_region_any mixed (wpAny_tq 9 rfl (by kernel_rfl) [some (aggV (leS s).C), some (.bool true), some (.bool false), some (.bool false), some (aggV (leS s).C), some (aggV (u8s q)), some (aggV (u8s s)), some (.bool true), some (.bool true)] rfl (by kernel_rfl) (by kernel_rfl) ?_ ?_)
  · intro i o' hi hsk ho a' w2 hout hin hk2
    replace hk2 : Kept [] V4 w2 := ⟨hk2.os, hk2.tape, hk2.output, hk2.size, hk2.block⟩
    match i, ho, hsk with
    | 0, ho, hsk =>
      obtain rfl := Option.some.inj ho
      exact wp_loadA row23 (.tmp 4) rfl p 0 ((hout 4 (by kernel_rfl)).trans rfl) (leS s).C rfl (((unhide M).step hk2).at 2 _ rfl).range ⟨_, rfl, tq_is _ _ _ _ rfl, Kept.refl _ _, fun _ _ _ _ _ => trivial⟩
    | 1, ho, hsk =>
      obtain rfl := Option.some.inj ho
      have e0 : a'.eval (.tmp 21) = aggV (leS s).C := is_tq (hin 0 21 (by kernel_rfl) (by kernel_rfl)) rfl
      refine wp_callF 99 _ _ rfl #[aggV (leS s).C] (by simp [e0]) (cg99 _ _) ((unhide (P12 _)).mono ?_)
      rintro e w3 ⟨rfl, hk3⟩
      exact ⟨_, rfl, _, rfl, tq_is _ _ _ _ rfl, hk3, fun _ _ _ _ _ => trivial⟩
    | 2, ho, hsk =>
      obtain rfl := Option.some.inj ho
      have e0 : a'.eval (.tmp 22) = .bool true := is_tq (hin 1 22 (by kernel_rfl) (by kernel_rfl)) rfl
      exact o_not (.tmp 22) rfl true e0 ⟨_, rfl, tq_is _ _ _ _ rfl, Kept.refl _ _, fun _ _ _ _ _ => trivial⟩
    | 3, ho, hsk =>
      obtain rfl := Option.some.inj ho
      have e0 : a'.eval (.tmp 23) = .bool false := is_tq (hin 2 23 (by kernel_rfl) (by kernel_rfl)) rfl
      exact wp_move (.tmp 23) rfl _ e0 ⟨_, rfl, tq_is _ _ _ _ rfl, Kept.refl _ _, fun _ _ _ _ _ => trivial⟩
    | 4, ho, hsk =>
      obtain rfl := Option.some.inj ho
      exact wp_loadA row23 (.tmp 4) rfl p 0 ((hout 4 (by kernel_rfl)).trans rfl) (leS s).C rfl (((unhide M).step hk2).at 2 _ rfl).range ⟨_, rfl, tq_is _ _ _ _ rfl, Kept.refl _ _, fun _ _ _ _ _ => trivial⟩
    | 5, ho, hsk =>
      obtain rfl := Option.some.inj ho
      have e0 : a'.eval (.tmp 25) = aggV (leS s).C := is_tq (hin 4 25 (by kernel_rfl) (by kernel_rfl)) rfl
      refine wp_callF 101 _ _ rfl #[aggV (leS s).C] (by simp [e0]) (cg101 _ _) ((unhide (P14 _)).mono ?_)
      rintro e w3 ⟨rfl, hk3⟩
      exact ⟨_, rfl, _, rfl, tq_is _ _ _ _ rfl, hk3, fun _ _ _ _ _ => trivial⟩
    | 6, ho, hsk =>
      obtain rfl := Option.some.inj ho
      exact wp_loadA row25 (.tmp 1) rfl b1 0 ((hout 1 (by kernel_rfl)).trans rfl) (u8s s) (by rw [u8s_len]; exact hs.len) (((unhide M).step hk2).at 0 _ rfl).range ⟨_, rfl, tq_is _ _ _ _ rfl, Kept.refl _ _, fun _ _ _ _ _ => trivial⟩
    | 7, ho, hsk =>
      obtain rfl := Option.some.inj ho
      have e0 : a'.eval (.tmp 26) = aggV (u8s q) := is_tq (hin 5 26 (by kernel_rfl) (by kernel_rfl)) rfl
      have e1 : a'.eval (.tmp 27) = aggV (u8s s) := is_tq (hin 6 27 (by kernel_rfl) (by kernel_rfl)) rfl
      exact o_neqA 59 59 guard25 (.tmp 26) (.tmp 27) rfl (u8s q) (u8s s) e0 e1 false ((equal25 _ q s hq hs.len).trans (by rw [he])) ⟨_, rfl, tq_is _ _ _ _ rfl, Kept.refl _ _, fun _ _ _ _ _ => trivial⟩
    | 8, ho, hsk =>
      obtain rfl := Option.some.inj ho
      have e0 : a'.eval (.tmp 24) = .bool false := is_tq (hin 3 24 (by kernel_rfl) (by kernel_rfl)) rfl
      have e1 : a'.eval (.tmp 28) = .bool true := is_tq (hin 7 28 (by kernel_rfl) (by kernel_rfl)) rfl
      exact o_pickOr0 (.tmp 24) (.tmp 28) rfl _ e0 e1 ⟨_, rfl, tq_is _ _ _ _ rfl, Kept.refl _ _, fun _ _ _ _ _ => trivial⟩
  intro w9 hk9
  replace hk9 : Kept [] V4 w9 := ⟨hk9.os, hk9.tape, hk9.output, hk9.size, hk9.block⟩
  simp only [valsQ, List.map_cons, List.map_nil, Option.getD_some, List.take_succ_cons, List.take_zero, putAll, Act.put, List.setIfInBounds_toArray, List.set_cons_succ, List.set_cons_zero]
  refine wpAny_done (by kernel_rfl) ?_ _
  replace M : Hid (Mm [] w w9 [(b1, 59, u8s s), (b2, 73, le0.C), (p, 73, (leS s).C)]) := hide ((unhide M).step hk9)
  clear hk9
  go_wp2_with (
    first
    | (refine wpBuildZ (T := 73) le0.C build23 rfl rfl ?_
       refine Stp.go ?_))
  constructor
  go_wp2_with (
    first
    | (refine wpStoreM row23 rfl (.tmp 2) (.tmp 30) rfl rfl b2 1 (le0.C) rfl rfl rfl (leC_one _) (unhide M) rfl rfl ?_
       intro W41 N41
       replace M : Hid (Mm [] w W41 [(b1, 59, u8s s), (b2, 73, le0.C), (p, 73, (leS s).C)]) := hide N41
       clear N41
       refine Stp.go ?_))
  constructor
  go_wp2_with fail
  refine bodyPost_ret (res102 _ b2 le0.C false _ rfl rfl rfl ((unhide M).at 1 _ rfl)) rfl ?_
  exact ⟨rfl, (unhide M).kept⟩
set_option maxHeartbeats 2000000 in
theorem rget_c (s q : List Int) (w : World) (hs : Byts 64 s) (hq : q.length = 64) (x5 x13 : Int) (H5 : Hid ((u8s s)[5]? = some (.int .u8 x5))) (H13 : Hid ((u8s s)[13]? = some (.int .u8 x13))) (hx5 : decide (64 < x5) = false) (hx13 : decide (64 < x13) = false) (hm : (leS s).may = true) (h14 : ∀ W, Calls Tryz.prog 101 #[aggV (leS s).C] W fun e w' => e = .returned (aggV (u8s q)) ∧ Kept [] W w') (he : decide (q = s) = true) : Calls Tryz.prog 102 #[aggV (u8s s)] w fun x w' => x = .returned (.tuple #[aggV (leS s).C, .bool true]) ∧ Kept [] w w' := by
  have P12 : ∀ W, Hid (Calls Tryz.prog 99 #[aggV (leS s).C] W fun e w' => e = .returned (.bool true) ∧ Kept [] W w') := fun W => hide (by have := mayLease99 (leS s) W; rw [hm] at this; exact this)
  have P14 : ∀ W, Hid (Calls Tryz.prog 101 #[aggV (leS s).C] W fun e w' => e = .returned (aggV (u8s q)) ∧ Kept [] W w') := fun W => hide (h14 W)
  clear h14
  go_enter Tryz.func102, Tryz.ntmps102
  have M : Hid (Mm [] w w []) := hide Mm.init
  go_wp2_with (
    first
    | (refine wpBoxV rfl (.tmp 0) rfl (u8s s) rfl ?_
       intro W1 b1 e1 B1 K1
       replace M : Hid (Mm [] w W1 [(b1, 59, u8s s)]) := hide ((unhide M).new e1 B1 K1)
       clear e1 B1 K1
       refine Stp.go ?_))
  constructor
  go_wp2_with (
    first
    | (refine wpAllocW (le0.C) zero23 2 rfl rfl rfl ?_
       intro W2 b2 e2 B2 K2
       replace M : Hid (Mm [] w W2 [(b1, 59, u8s s), (b2, 73, le0.C)]) := hide ((unhide M).new e2 B2 K2)
       clear e2 B2 K2
       have c5 := fits_cell ((unhide M).at 0 _ rfl) 5 _ (unhide H5)
       have c13 := fits_cell ((unhide M).at 0 _ rfl) 13 _ (unhide H13)
       refine Stp.go ?_))
  constructor
  go_wp2_with fail
  clear c5 c13
  refine wp_region_any mixed (wpAny_gx 9 rfl (by kernel_rfl) [some (aggV (u8s s)), some (.int .i64 (ofB 0 ((s.drop 1).take 4))), some (aggV (u8s s)), some (.int .i64 (ofB 0 ((s.drop 5).take 8))), some (aggV (u8s s)), some (.int .i64 (ofB 0 ((s.drop 13).take 8))), some (aggV (leS s).C), none, none] rfl (by kernel_rfl) (fun l vs W => (SV W2 (leS s)) (fun i => l.getD i false) vs W) (⟨⟨rfl, rfl, rfl, Nat.le_refl _, fun _ _ _ => rfl⟩, fun h => by cases h⟩) ?_ ?_)
  · intro ix o' hi ho a' w2 l vs hls hlf hJ hout hin hdep hnot
    match ix, ho with
    | 0, ho =>
      obtain rfl := Option.some.inj ho
      have e0 := hout 1 (by kernel_rfl)
      replace e0 : a'.eval (.tmp 1) = _ := e0.trans rfl
      exact wp_loadA row25 (.tmp 1) rfl b1 0 e0 (u8s s) (by rw [u8s_len]; exact hs.len) (((unhide M).step hJ.1).at 0 _ rfl).range ⟨_, rfl, told_of rfl, keepG (St := (SV W2 (leS s))) [7, 8] SV.loc (by omega) (by decide) hJ⟩
    | 1, ho =>
      obtain rfl := Option.some.inj ho
      have e0 : a'.eval (.tmp 14) = aggV (u8s s) := by have h9 := hin 0 14 (by kernel_rfl) (by kernel_rfl); exact h9.1.trans (told_is _ h9.2 rfl)
      refine wp_callF 112 _ _ rfl #[aggV (u8s s), .int .i64 1, .int .i64 4] (by simp [e0]; exact ⟨rfl, rfl⟩) (cg112 _ _) ((said112 4 1 s w2 hs (by omega)).mono ?_)
      rintro e w3 ⟨rfl, hk3⟩
      exact ⟨_, rfl, _, rfl, told_of rfl, keepG (St := (SV W2 (leS s))) [7, 8] SV.loc (by omega) (by decide) (SV.step hJ hk3)⟩
    | 2, ho =>
      obtain rfl := Option.some.inj ho
      have e0 := hout 1 (by kernel_rfl)
      replace e0 : a'.eval (.tmp 1) = _ := e0.trans rfl
      exact wp_loadA row25 (.tmp 1) rfl b1 0 e0 (u8s s) (by rw [u8s_len]; exact hs.len) (((unhide M).step hJ.1).at 0 _ rfl).range ⟨_, rfl, told_of rfl, keepG (St := (SV W2 (leS s))) [7, 8] SV.loc (by omega) (by decide) hJ⟩
    | 3, ho =>
      obtain rfl := Option.some.inj ho
      have e0 : a'.eval (.tmp 16) = aggV (u8s s) := by have h9 := hin 2 16 (by kernel_rfl) (by kernel_rfl); exact h9.1.trans (told_is _ h9.2 rfl)
      refine wp_callF 112 _ _ rfl #[aggV (u8s s), .int .i64 5, .int .i64 8] (by simp [e0]; exact ⟨rfl, rfl⟩) (cg112 _ _) ((said112 8 5 s w2 hs (by omega)).mono ?_)
      rintro e w3 ⟨rfl, hk3⟩
      exact ⟨_, rfl, _, rfl, told_of rfl, keepG (St := (SV W2 (leS s))) [7, 8] SV.loc (by omega) (by decide) (SV.step hJ hk3)⟩
    | 4, ho =>
      obtain rfl := Option.some.inj ho
      have e0 := hout 1 (by kernel_rfl)
      replace e0 : a'.eval (.tmp 1) = _ := e0.trans rfl
      exact wp_loadA row25 (.tmp 1) rfl b1 0 e0 (u8s s) (by rw [u8s_len]; exact hs.len) (((unhide M).step hJ.1).at 0 _ rfl).range ⟨_, rfl, told_of rfl, keepG (St := (SV W2 (leS s))) [7, 8] SV.loc (by omega) (by decide) hJ⟩
    | 5, ho =>
      obtain rfl := Option.some.inj ho
      have e0 : a'.eval (.tmp 18) = aggV (u8s s) := by have h9 := hin 4 18 (by kernel_rfl) (by kernel_rfl); exact h9.1.trans (told_is _ h9.2 rfl)
      refine wp_callF 112 _ _ rfl #[aggV (u8s s), .int .i64 13, .int .i64 8] (by simp [e0]; exact ⟨rfl, rfl⟩) (cg112 _ _) ((said112 8 13 s w2 hs (by omega)).mono ?_)
      rintro e w3 ⟨rfl, hk3⟩
      exact ⟨_, rfl, _, rfl, told_of rfl, keepG (St := (SV W2 (leS s))) [7, 8] SV.loc (by omega) (by decide) (SV.step hJ hk3)⟩
    | 6, ho =>
      obtain rfl := Option.some.inj ho
      have e0 : a'.eval (.tmp 15) = .int .i64 (ofB 0 ((s.drop 1).take 4)) := by have h9 := hin 1 15 (by kernel_rfl) (by kernel_rfl); exact h9.1.trans (told_is _ h9.2 rfl)
      have e1 : a'.eval (.tmp 17) = .int .i64 (ofB 0 ((s.drop 5).take 8)) := by have h9 := hin 3 17 (by kernel_rfl) (by kernel_rfl); exact h9.1.trans (told_is _ h9.2 rfl)
      have e2 : a'.eval (.tmp 19) = .int .i64 (ofB 0 ((s.drop 13).take 8)) := by have h9 := hin 5 19 (by kernel_rfl) (by kernel_rfl); exact h9.1.trans (told_is _ h9.2 rfl)
      exact o_bld23 (.tmp 15) (.tmp 17) (.tmp 19) rfl _ _ _ e0 e1 e2 ⟨_, rfl, told_of rfl, keepG (St := (SV W2 (leS s))) [7, 8] SV.loc (by omega) (by decide) hJ⟩
    | 7, ho =>
      obtain rfl := Option.some.inj ho
      exact wp_allocA le0.C zero23 rfl ⟨_, rfl, told_no rfl, nextG (St := (SV W2 (leS s))) (by omega) ⟨hJ.1.alloc _, fun _ => ⟨w2.heap.size, rfl, hJ.1.size, fun _ => Blk.new w2 73 _, fun h => by have h9 : l.getD 8 false = true := h; rw [hnot 8 (by kernel_rfl)] at h9; cases h9⟩⟩⟩
    | 8, ho =>
      obtain rfl := Option.some.inj ho
      have e0 : a'.eval (.tmp 4) = vs 7 := (hin 7 4 (by kernel_rfl) (by kernel_rfl)).1
      have e1 : a'.eval (.tmp 20) = aggV (leS s).C := by have h9 := hin 6 20 (by kernel_rfl) (by kernel_rfl); exact h9.1.trans (told_is _ h9.2 rfl)
      obtain ⟨p, hp, hge, hz0, _⟩ := hJ.2 (hdep 7 (by kernel_rfl))
      exact wp_storeN row23 (.tmp 4) (.tmp 20) rfl rfl p 0 _ (e0.trans hp) e1 rfl (leC_one _) ((hz0 hlf).there (by decide)) ⟨undef, rfl, told_no rfl, nextG (St := (SV W2 (leS s))) (by omega) ⟨hJ.1.setCells _ _ (by omega), fun _ => ⟨p, hp, hge, (fun h => by cases h), fun _ => (hz0 hlf).put rfl⟩⟩⟩
  intro l_ vs4 V4 hl hJ htold
  have t0 : vs4 0 = aggV (u8s s) := told_is _ (htold 0 (by decide)) rfl
  have t1 : vs4 1 = .int .i64 (ofB 0 ((s.drop 1).take 4)) := told_is _ (htold 1 (by decide)) rfl
  have t2 : vs4 2 = aggV (u8s s) := told_is _ (htold 2 (by decide)) rfl
  have t3 : vs4 3 = .int .i64 (ofB 0 ((s.drop 5).take 8)) := told_is _ (htold 3 (by decide)) rfl
  have t4 : vs4 4 = aggV (u8s s) := told_is _ (htold 4 (by decide)) rfl
  have t5 : vs4 5 = .int .i64 (ofB 0 ((s.drop 13).take 8)) := told_is _ (htold 5 (by decide)) rfl
  have t6 : vs4 6 = aggV (leS s).C := told_is _ (htold 6 (by decide)) rfl
  rw [show (List.range 9).map vs4 = [vs4 0, vs4 1, vs4 2, vs4 3, vs4 4, vs4 5, vs4 6, vs4 7, vs4 8] from rfl]
  simp only [t0, t1, t2, t3, t4, t5, t6, putAll, Act.put, List.setIfInBounds_toArray, List.set_cons_succ, List.set_cons_zero]
  clear t0 t1 t2 t3 t4 t5 t6 htold
  obtain ⟨p, ep, hgp, _, hbp⟩ := hJ.2 (hl 7 (by decide))
  replace hbp := hbp (hl 8 (by decide))
  have hb1 : b1 < W2.heap.size := ((unhide M).at 0 _ rfl).lt
  have hb2 : b2 < W2.heap.size := ((unhide M).at 1 _ rfl).lt
  have hwz := (unhide M).kept.size
  replace M : Hid (Mm [] w V4 [(b1, 59, u8s s), (b2, 73, le0.C), (p, 73, (leS s).C)]) := hide (((unhide M).step hJ.1).add hbp (by omega) (fun x hx => by simp at hx; rcases hx with rfl | rfl <;> simp <;> omega))
  rw [ep]
  clear hJ hl ep hgp hbp hb1 hb2 hwz
  go_wp2_with fail
  refine wp_region_any mixed (wpAny_tq 9 rfl (by kernel_rfl) [some (aggV (leS s).C), some (.bool true), some (.bool false), some (.bool false), some (aggV (leS s).C), some (aggV (u8s q)), some (aggV (u8s s)), some (.bool false), some (.bool false)] rfl (by kernel_rfl) (by kernel_rfl) ?_ ?_)
  · intro i o' hi hsk ho a' w2 hout hin hk2
    replace hk2 : Kept [] V4 w2 := ⟨hk2.os, hk2.tape, hk2.output, hk2.size, hk2.block⟩
    match i, ho, hsk with
    | 0, ho, hsk =>
      obtain rfl := Option.some.inj ho
      exact wp_loadA row23 (.tmp 4) rfl p 0 ((hout 4 (by kernel_rfl)).trans rfl) (leS s).C rfl (((unhide M).step hk2).at 2 _ rfl).range ⟨_, rfl, tq_is _ _ _ _ rfl, Kept.refl _ _, fun _ _ _ _ _ => trivial⟩
    | 1, ho, hsk =>
      obtain rfl := Option.some.inj ho
      have e0 : a'.eval (.tmp 21) = aggV (leS s).C := is_tq (hin 0 21 (by kernel_rfl) (by kernel_rfl)) rfl
      refine wp_callF 99 _ _ rfl #[aggV (leS s).C] (by simp [e0]) (cg99 _ _) ((unhide (P12 _)).mono ?_)
      rintro e w3 ⟨rfl, hk3⟩
      exact ⟨_, rfl, _, rfl, tq_is _ _ _ _ rfl, hk3, fun _ _ _ _ _ => trivial⟩
    | 2, ho, hsk =>
      obtain rfl := Option.some.inj ho
      have e0 : a'.eval (.tmp 22) = .bool true := is_tq (hin 1 22 (by kernel_rfl) (by kernel_rfl)) rfl
      exact o_not (.tmp 22) rfl true e0 ⟨_, rfl, tq_is _ _ _ _ rfl, Kept.refl _ _, fun _ _ _ _ _ => trivial⟩
    | 3, ho, hsk =>
      obtain rfl := Option.some.inj ho
      have e0 : a'.eval (.tmp 23) = .bool false := is_tq (hin 2 23 (by kernel_rfl) (by kernel_rfl)) rfl
      exact wp_move (.tmp 23) rfl _ e0 ⟨_, rfl, tq_is _ _ _ _ rfl, Kept.refl _ _, fun _ _ _ _ _ => trivial⟩
    | 4, ho, hsk =>
      obtain rfl := Option.some.inj ho
      exact wp_loadA row23 (.tmp 4) rfl p 0 ((hout 4 (by kernel_rfl)).trans rfl) (leS s).C rfl (((unhide M).step hk2).at 2 _ rfl).range ⟨_, rfl, tq_is _ _ _ _ rfl, Kept.refl _ _, fun _ _ _ _ _ => trivial⟩
    | 5, ho, hsk =>
      obtain rfl := Option.some.inj ho
      have e0 : a'.eval (.tmp 25) = aggV (leS s).C := is_tq (hin 4 25 (by kernel_rfl) (by kernel_rfl)) rfl
      refine wp_callF 101 _ _ rfl #[aggV (leS s).C] (by simp [e0]) (cg101 _ _) ((unhide (P14 _)).mono ?_)
      rintro e w3 ⟨rfl, hk3⟩
      exact ⟨_, rfl, _, rfl, tq_is _ _ _ _ rfl, hk3, fun _ _ _ _ _ => trivial⟩
    | 6, ho, hsk =>
      obtain rfl := Option.some.inj ho
      exact wp_loadA row25 (.tmp 1) rfl b1 0 ((hout 1 (by kernel_rfl)).trans rfl) (u8s s) (by rw [u8s_len]; exact hs.len) (((unhide M).step hk2).at 0 _ rfl).range ⟨_, rfl, tq_is _ _ _ _ rfl, Kept.refl _ _, fun _ _ _ _ _ => trivial⟩
    | 7, ho, hsk =>
      obtain rfl := Option.some.inj ho
      have e0 : a'.eval (.tmp 26) = aggV (u8s q) := is_tq (hin 5 26 (by kernel_rfl) (by kernel_rfl)) rfl
      have e1 : a'.eval (.tmp 27) = aggV (u8s s) := is_tq (hin 6 27 (by kernel_rfl) (by kernel_rfl)) rfl
      exact o_neqA 59 59 guard25 (.tmp 26) (.tmp 27) rfl (u8s q) (u8s s) e0 e1 true ((equal25 _ q s hq hs.len).trans (by rw [he])) ⟨_, rfl, tq_is _ _ _ _ rfl, Kept.refl _ _, fun _ _ _ _ _ => trivial⟩
    | 8, ho, hsk =>
      obtain rfl := Option.some.inj ho
      have e0 : a'.eval (.tmp 24) = .bool false := is_tq (hin 3 24 (by kernel_rfl) (by kernel_rfl)) rfl
      have e1 : a'.eval (.tmp 28) = .bool false := is_tq (hin 7 28 (by kernel_rfl) (by kernel_rfl)) rfl
      exact o_pickOr0 (.tmp 24) (.tmp 28) rfl _ e0 e1 ⟨_, rfl, tq_is _ _ _ _ rfl, Kept.refl _ _, fun _ _ _ _ _ => trivial⟩
  intro w9 hk9
  replace hk9 : Kept [] V4 w9 := ⟨hk9.os, hk9.tape, hk9.output, hk9.size, hk9.block⟩
  simp only [valsQ, List.map_cons, List.map_nil, Option.getD_some, List.take_succ_cons, List.take_zero, putAll, Act.put, List.setIfInBounds_toArray, List.set_cons_succ, List.set_cons_zero]
  refine wpAny_done (by kernel_rfl) ?_ _
  replace M : Hid (Mm [] w w9 [(b1, 59, u8s s), (b2, 73, le0.C), (p, 73, (leS s).C)]) := hide ((unhide M).step hk9)
  clear hk9
  go_wp2_with (
    first
    | (refine wpLoadA row23 rfl (.tmp 4) rfl p 0 rfl ((leS s).C) rfl ((unhide M).at 2 _ rfl).range ?_
       refine Stp.go ?_))
  constructor
  go_wp2_with (
    first
    | (refine wpStoreM row23 rfl (.tmp 2) (.tmp 31) rfl rfl b2 1 ((leS s).C) rfl rfl rfl (leC_one _) (unhide M) rfl rfl ?_
       intro W41 N41
       replace M : Hid (Mm [] w W41 [(b1, 59, u8s s), (b2, 73, (leS s).C), (p, 73, (leS s).C)]) := hide N41
       clear N41
       refine Stp.go ?_))
  constructor
  go_wp2_with fail
  refine bodyPost_ret (res102 _ b2 (leS s).C true _ rfl rfl rfl ((unhide M).at 1 _ rfl)) rfl ?_
  exact ⟨rfl, (unhide M).kept⟩
set_option maxHeartbeats 2000000 in
theorem rget_d (s : List Int) (w : World) (_hs : Byts 64 s) (x5 x13 : Int) (H5 : Hid ((u8s s)[5]? = some (.int .u8 x5))) (H13 : Hid ((u8s s)[13]? = some (.int .u8 x13))) (hx5 : decide (64 < x5) = true) : Calls Tryz.prog 102 #[aggV (u8s s)] w fun x w' => x = .returned (.tuple #[aggV le0.C, .bool false]) ∧ Kept [] w w' := by
  go_enter Tryz.func102, Tryz.ntmps102
  have M : Hid (Mm [] w w []) := hide Mm.init
  go_wp2_with (
    first
    | (refine wpBoxV rfl (.tmp 0) rfl (u8s s) rfl ?_
       intro W1 b1 e1 B1 K1
       replace M : Hid (Mm [] w W1 [(b1, 59, u8s s)]) := hide ((unhide M).new e1 B1 K1)
       clear e1 B1 K1
       refine Stp.go ?_))
  constructor
  go_wp2_with (
    first
    | (refine wpAllocW (le0.C) zero23 2 rfl rfl rfl ?_
       intro W2 b2 e2 B2 K2
       replace M : Hid (Mm [] w W2 [(b1, 59, u8s s), (b2, 73, le0.C)]) := hide ((unhide M).new e2 B2 K2)
       clear e2 B2 K2
       have c5 := fits_cell ((unhide M).at 0 _ rfl) 5 _ (unhide H5)
       have c13 := fits_cell ((unhide M).at 0 _ rfl) 13 _ (unhide H13)
       refine Stp.go ?_))
  constructor
  go_wp2_with (
    first
    | (refine wpBuildZ (T := 73) le0.C build23 rfl rfl ?_
       refine Stp.go ?_))
  constructor
  go_wp2_with (
    first
    | (refine wpStoreM row23 rfl (.tmp 2) (.tmp 13) rfl rfl b2 1 (le0.C) rfl rfl rfl (leC_one _) (unhide M) rfl rfl ?_
       intro W3 N3
       replace M : Hid (Mm [] w W3 [(b1, 59, u8s s), (b2, 73, le0.C)]) := hide N3
       clear N3
       refine Stp.go ?_))
  constructor
  go_wp2_with fail
  refine bodyPost_ret (res102 _ b2 le0.C false _ rfl rfl rfl ((unhide M).at 1 _ rfl)) rfl ?_
  exact ⟨rfl, (unhide M).kept⟩
set_option maxHeartbeats 2000000 in
theorem rget_e (s : List Int) (w : World) (_hs : Byts 64 s) (x5 x13 : Int) (H5 : Hid ((u8s s)[5]? = some (.int .u8 x5))) (H13 : Hid ((u8s s)[13]? = some (.int .u8 x13))) (hx5 : decide (64 < x5) = false) (hx13 : decide (64 < x13) = true) : Calls Tryz.prog 102 #[aggV (u8s s)] w fun x w' => x = .returned (.tuple #[aggV le0.C, .bool false]) ∧ Kept [] w w' := by
  go_enter Tryz.func102, Tryz.ntmps102
  have M : Hid (Mm [] w w []) := hide Mm.init
  go_wp2_with (
    first
    | (refine wpBoxV rfl (.tmp 0) rfl (u8s s) rfl ?_
       intro W1 b1 e1 B1 K1
       replace M : Hid (Mm [] w W1 [(b1, 59, u8s s)]) := hide ((unhide M).new e1 B1 K1)
       clear e1 B1 K1
       refine Stp.go ?_))
  constructor
  go_wp2_with (
    first
    | (refine wpAllocW (le0.C) zero23 2 rfl rfl rfl ?_
       intro W2 b2 e2 B2 K2
       replace M : Hid (Mm [] w W2 [(b1, 59, u8s s), (b2, 73, le0.C)]) := hide ((unhide M).new e2 B2 K2)
       clear e2 B2 K2
       have c5 := fits_cell ((unhide M).at 0 _ rfl) 5 _ (unhide H5)
       have c13 := fits_cell ((unhide M).at 0 _ rfl) 13 _ (unhide H13)
       refine Stp.go ?_))
  constructor
  go_wp2_with (
    first
    | (refine wpBuildZ (T := 73) le0.C build23 rfl rfl ?_
       refine Stp.go ?_))
  constructor
  go_wp2_with (
    first
    | (refine wpStoreM row23 rfl (.tmp 2) (.tmp 13) rfl rfl b2 1 (le0.C) rfl rfl rfl (leC_one _) (unhide M) rfl rfl ?_
       intro W3 N3
       replace M : Hid (Mm [] w W3 [(b1, 59, u8s s), (b2, 73, le0.C)]) := hide N3
       clear N3
       refine Stp.go ?_))
  constructor
  go_wp2_with fail
  refine bodyPost_ret (res102 _ b2 le0.C false _ rfl rfl rfl ((unhide M).at 1 _ rfl)) rfl ?_
  exact ⟨rfl, (unhide M).kept⟩

theorem eight {s : List Int} (hs : Byts 64 s) (k : Nat) (hk : k + 8 ≤ 64) : ∃ a b c d e f g h : Int, (s.drop k).take 8 = [a, b, c, d, e, f, g, h] ∧ a = s.getD k 0 ∧ (∀ x ∈ [a, b, c, d, e, f, g, h], 0 ≤ x ∧ x < 256) := by
  have hl : ((s.drop k).take 8).length = 8 := by rw [List.length_take, List.length_drop, hs.len]; omega
  match hq : (s.drop k).take 8, hl with
  | [a, b, c, d, e, f, g, h], _ =>
    refine ⟨a, b, c, d, e, f, g, h, rfl, ?_, ?_⟩
    · have h0 : ((s.drop k).take 8)[0]? = some a := by rw [hq]; rfl
      rw [List.getElem?_take_of_lt (by omega), List.getElem?_drop, Nat.add_zero] at h0
      rw [List.getD_eq_getElem?_getD, h0]; rfl
    · intro x hx
      rw [← hq] at hx
      exact hs.byte x (List.mem_of_mem_drop (List.mem_of_mem_take hx))
theorem ofB_big {s : List Int} (hs : Byts 64 s) (k : Nat) (hk : k + 8 ≤ 64) (h : 64 < s.getD k 0) : ofB 0 ((s.drop k).take 8) < 0 ∨ 4611686018427387904 < ofB 0 ((s.drop k).take 8) := by
  obtain ⟨a, b, c, d, e, f, g, i, hq, ha, hb⟩ := eight hs k hk
  rw [hq]
  rw [← ha] at h
  clear ha hq
  simp only [List.mem_cons, List.not_mem_nil, or_false, forall_eq_or_imp, forall_eq] at hb
  obtain ⟨b0, b1, b2, b3, b4, b5, b6, b7⟩ := hb
  simp only [ofB]
  have w0 : wrap64 (0 * 256 + a) = a := by unfold wrap64; omega
  rw [w0]
  have w1 : wrap64 (a * 256 + b) = a * 256 + b := by unfold wrap64; omega
  rw [w1]
  have w2 : wrap64 ((a * 256 + b) * 256 + c) = (a * 256 + b) * 256 + c := by unfold wrap64; omega
  rw [w2]
  have w3 : wrap64 (((a * 256 + b) * 256 + c) * 256 + d) = ((a * 256 + b) * 256 + c) * 256 + d := by unfold wrap64; omega
  rw [w3]
  obtain ⟨q, hq4⟩ : ∃ q, q = ((a * 256 + b) * 256 + c) * 256 + d := ⟨_, rfl⟩
  rw [← hq4]
  have hq5 : 65 * 16777216 ≤ q ∧ q < 256 * 16777216 := by omega
  have w4 : wrap64 (q * 256 + e) = q * 256 + e := by unfold wrap64; omega
  rw [w4]
  have w5 : wrap64 ((q * 256 + e) * 256 + f) = (q * 256 + e) * 256 + f := by unfold wrap64; omega
  rw [w5]
  have w6 : wrap64 (((q * 256 + e) * 256 + f) * 256 + g) = ((q * 256 + e) * 256 + f) * 256 + g := by unfold wrap64; omega
  rw [w6]
  unfold wrap64
  omega
theorem rget102 (s : List Int) (w : World) (hs : Byts 64 s) : Calls Tryz.prog 102 #[aggV (u8s s)] w fun x w' => x = .returned (.tuple #[aggV (getL s).1.C, .bool (decide ((getL s).2 = 0))]) ∧ Kept [] w w' := by
  unfold getL
  have hl := putL_len (leS s)
  have hno : (leS s).may = false → ¬ putL (leS s) = (s, 0) := fun hm => by unfold putL; rw [if_pos hm]; intro h; have := congrArg Prod.snd h; simp at this
  have H5 := hide (u8_at hs.len 5 (by omega))
  have H13 := hide (u8_at hs.len 13 (by omega))
  by_cases hx5 : 64 < s.getD 5 0
  · have hm : (leS s).may = false := decide_eq_false (by have := ofB_big hs 5 (by omega) hx5; simp only [leS]; omega)
    rw [if_neg (hno hm)]
    exact rget_d s w hs _ _ H5 H13 (decide_eq_true hx5)
  by_cases hx13 : 64 < s.getD 13 0
  · have hm : (leS s).may = false := decide_eq_false (by have := ofB_big hs 13 (by omega) hx13; simp only [leS]; omega)
    rw [if_neg (hno hm)]
    exact rget_e s w hs _ _ H5 H13 (decide_eq_false hx5) (decide_eq_true hx13)
  have h5 := decide_eq_false hx5
  have h13 := decide_eq_false hx13
  cases hm : (leS s).may with
  | false =>
    rw [if_neg (hno hm)]
    exact rget_a s w hs _ _ H5 H13 h5 h13 hm
  | true =>
    have h14 := fun W => rput101 (leS s) W hm
    have h0 : (putL (leS s)).2 = 0 := by unfold putL; rw [if_neg (by rw [hm]; simp)]; split <;> rfl
    by_cases he : (putL (leS s)).1 = s
    · rw [if_pos (Prod.ext he h0)]
      exact rget_c s _ w hs hl _ _ H5 H13 h5 h13 hm h14 (by simpa using he)
    · rw [if_neg (fun h => he (by rw [h]))]
      exact rget_b s _ w hs hl _ _ H5 H13 h5 h13 hm h14 (by simpa using he)
end Le

end Go.Proofs.YtcfflbafclmheaaGreatDoor
