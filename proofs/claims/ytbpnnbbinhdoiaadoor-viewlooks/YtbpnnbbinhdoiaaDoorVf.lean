/-
  The document's Join, Out and Opened.
-/
import Derived.Test.YtbpnnbbinhdoiaaDoorVe
import Derived.Test.YtbpnnbbinhdoiaaDoorVd
namespace Go.Proofs.YtbpnnbbinhdoiaaDoor
set_option maxRecDepth 100000
open Go.RowKit


theorem may_mem {v : Vw} (h : v.may = true) (hv : v.ms.length = 8) {n : Int} (h0 : 0 ≤ n) (h8 : n < 8) : memOk (v.mem n) = true := by
  have hm := mem_at hv h0 h8
  have := List.mem_of_getElem? hm
  unfold Vw.may at h
  split at h
  · rw [decide_eq_true_eq] at h
    have hx : v.mem n ∈ no8 := by rw [h] at this ⊢; exact this
    simp [no8] at hx
    rw [hx]; rfl
  · simp only [Bool.and_eq_true, List.all_eq_true] at h
    exact h.2.2 _ this
theorem cg39 (vs : Array Value) (w : World) : (callFunc 39 vs).run Tryd.prog w = .ok (.enter 39 vs) w := by kernel_rfl
set_option maxHeartbeats 2000000 in
theorem rjoin_a (v : Vw) (n e : Int) (w : World) (hF : First w) (hok : v.Ok) (hm : v.may = false) : Calls Tryd.prog 17 #[aggV (vwC v), .int .i64 n, .int .i64 e] w fun x w' => x = .returned (two (zv, 2)) ∧ Kept [] w w' := by
  have P13 : ∀ W, First W → Hid (Calls Tryd.prog 13 #[aggV (vwC v)] W fun e w' => e = .returned (.bool false) ∧ Kept [] W w') := fun W hW => hide (by have := rmay13 v W hW hok.len; rw [hm] at this; exact this)
  go_enter Tryd.func17, Tryd.ntmps17
  have M : Hid (Mm w w []) := hide (Mm.init hF)
  go_wp2_with (
    first
    | (refine wpBoxV rfl (.tmp 0) rfl (vwC v) rfl ?_
       intro W1 b1 e1 B1 K1
       replace M : Hid (Mm w W1 [(b1, 26, vwC v)]) := hide ((unhide M).new e1 B1 K1)
       clear e1 B1 K1
       refine Stp.go ?_))
  constructor
  go_wp2_with (
    first
    | (refine wpAllocW (vwC zv) zero26 6 rfl rfl rfl ?_
       intro W2 b2 e2 B2 K2
       replace M : Hid (Mm w W2 [(b1, 26, vwC v), (b2, 26, vwC zv)]) := hide ((unhide M).new e2 B2 K2)
       clear e2 B2 K2
       refine Stp.go ?_))
  constructor
  go_wp2_with (
    first
    | (refine wpLoadA row26 rfl (.tmp 3) rfl b1 0 rfl (vwC v) (vwC_len hok.len) ((unhide M).at 0 _ rfl).range ?_
       refine Stp.go ?_))
  constructor
  go_wp2_with (
    first
    | (go_at_call 13
       refine (unhide (P13 _ (unhide M).first)).mono ?_
       rintro e W3 ⟨rfl, K3⟩
       replace M : Hid (Mm w W3 [(b1, 26, vwC v), (b2, 26, vwC zv)]) := hide ((unhide M).step K3)
       clear K3
       refine Stp.go ?_))
  constructor
  go_wp2_with (
    first
    | (refine wpStoreM row26 rfl (.tmp 6) (.tmp 17) rfl rfl b2 1 (vwC zv) rfl rfl rfl (vwC_one _) (unhide M) rfl rfl ?_
       intro W4 N4
       replace M : Hid (Mm w W4 [(b1, 26, vwC v), (b2, 26, vwC zv)]) := hide N4
       clear N4
       refine Stp.go ?_))
  constructor
  go_wp2_with fail
  refine bodyPost_ret (res17 _ b2 (vwC zv) 2 _ rfl rfl rfl ((unhide M).at 1 _ rfl)) rfl ?_
  exact ⟨rfl, (unhide M).kept⟩
set_option maxHeartbeats 2000000 in
theorem rjoin_b (v : Vw) (n e : Int) (w : World) (hF : First w) (hok : v.Ok) (hm : v.may = true) (hn : (isNo n && isEp e) = false) : Calls Tryd.prog 17 #[aggV (vwC v), .int .i64 n, .int .i64 e] w fun x w' => x = .returned (two (zv, 2)) ∧ Kept [] w w' := by
  have P13 : ∀ W, First W → Hid (Calls Tryd.prog 13 #[aggV (vwC v)] W fun e w' => e = .returned (.bool true) ∧ Kept [] W w') := fun W hW => hide (by have := rmay13 v W hW hok.len; rw [hm] at this; exact this)
  have P39 : ∀ W, Hid (Calls Tryd.prog 39 #[.int .i64 n, .int .i64 e] W fun e w' => e = .returned (.bool false) ∧ w' = W) := fun W => hide (by have := node39 n e W; rw [hn] at this; exact this)
  go_enter Tryd.func17, Tryd.ntmps17
  have M : Hid (Mm w w []) := hide (Mm.init hF)
  go_wp2_with (
    first
    | (refine wpBoxV rfl (.tmp 0) rfl (vwC v) rfl ?_
       intro W1 b1 e1 B1 K1
       replace M : Hid (Mm w W1 [(b1, 26, vwC v)]) := hide ((unhide M).new e1 B1 K1)
       clear e1 B1 K1
       refine Stp.go ?_))
  constructor
  go_wp2_with (
    first
    | (refine wpAllocW (vwC zv) zero26 6 rfl rfl rfl ?_
       intro W2 b2 e2 B2 K2
       replace M : Hid (Mm w W2 [(b1, 26, vwC v), (b2, 26, vwC zv)]) := hide ((unhide M).new e2 B2 K2)
       clear e2 B2 K2
       refine Stp.go ?_))
  constructor
  go_wp2_with (
    first
    | (refine wpLoadA row26 rfl (.tmp 3) rfl b1 0 rfl (vwC v) (vwC_len hok.len) ((unhide M).at 0 _ rfl).range ?_
       refine Stp.go ?_))
  constructor
  go_wp2_with (
    first
    | (go_at_call 13
       refine (unhide (P13 _ (unhide M).first)).mono ?_
       rintro e W3 ⟨rfl, K3⟩
       replace M : Hid (Mm w W3 [(b1, 26, vwC v), (b2, 26, vwC zv)]) := hide ((unhide M).step K3)
       clear K3
       refine Stp.go ?_))
  constructor
  go_wp2_with (
    first
    | (go_at_call 39
       refine (unhide (P39 _)).mono ?_
       rintro e W4 ⟨rfl, rfl⟩
       refine Stp.go ?_))
  constructor
  go_wp2_with (
    first
    | (refine wpStoreM row26 rfl (.tmp 6) (.tmp 17) rfl rfl b2 1 (vwC zv) rfl rfl rfl (vwC_one _) (unhide M) rfl rfl ?_
       intro W5 N5
       replace M : Hid (Mm w W5 [(b1, 26, vwC v), (b2, 26, vwC zv)]) := hide N5
       clear N5
       refine Stp.go ?_))
  constructor
  go_wp2_with fail
  refine bodyPost_ret (res17 _ b2 (vwC zv) 2 _ rfl rfl rfl ((unhide M).at 1 _ rfl)) rfl ?_
  exact ⟨rfl, (unhide M).kept⟩
set_option maxHeartbeats 2000000 in
theorem rjoin_d (v : Vw) (n e : Int) (w : World) (hF : First w) (hok : v.Ok) (hm : v.may = true) (hn : (isNo n && isEp e) = true) (hin : (v.mem n).1 = true) (hg : e ≤ (v.mem n).2) : Calls Tryd.prog 17 #[aggV (vwC v), .int .i64 n, .int .i64 e] w fun x w' => x = .returned (two (zv, 7)) ∧ Kept [] w w' := by
  have P13 : ∀ W, First W → Hid (Calls Tryd.prog 13 #[aggV (vwC v)] W fun e w' => e = .returned (.bool true) ∧ Kept [] W w') := fun W hW => hide (by have := rmay13 v W hW hok.len; rw [hm] at this; exact this)
  have P39 : ∀ W, Hid (Calls Tryd.prog 39 #[.int .i64 n, .int .i64 e] W fun e w' => e = .returned (.bool true) ∧ w' = W) := fun W => hide (by have := node39 n e W; rw [hn] at this; exact this)
  have hn9 : 0 ≤ n ∧ n < 8 := by simp [isNo] at hn; omega
  obtain ⟨n0, n8⟩ := hn9
  have hn8 : n.toNat < 8 := by omega
  have hdg : decide (e ≤ (v.mem n).2) = true := by simpa using hg
  go_enter Tryd.func17, Tryd.ntmps17
  have M : Hid (Mm w w []) := hide (Mm.init hF)
  go_wp2_with (
    first
    | (refine wpBoxV rfl (.tmp 0) rfl (vwC v) rfl ?_
       intro W1 b1 e1 B1 K1
       replace M : Hid (Mm w W1 [(b1, 26, vwC v)]) := hide ((unhide M).new e1 B1 K1)
       clear e1 B1 K1
       refine Stp.go ?_))
  constructor
  go_wp2_with (
    first
    | (refine wpAllocW (vwC zv) zero26 6 rfl rfl rfl ?_
       intro W2 b2 e2 B2 K2
       replace M : Hid (Mm w W2 [(b1, 26, vwC v), (b2, 26, vwC zv)]) := hide ((unhide M).new e2 B2 K2)
       clear e2 B2 K2
       refine Stp.go ?_))
  constructor
  go_wp2_with (
    first
    | (refine wpLoadA row26 rfl (.tmp 3) rfl b1 0 rfl (vwC v) (vwC_len hok.len) ((unhide M).at 0 _ rfl).range ?_
       refine Stp.go ?_))
  constructor
  go_wp2_with (
    first
    | (go_at_call 13
       refine (unhide (P13 _ (unhide M).first)).mono ?_
       rintro e W3 ⟨rfl, K3⟩
       replace M : Hid (Mm w W3 [(b1, 26, vwC v), (b2, 26, vwC zv)]) := hide ((unhide M).step K3)
       clear K3
       refine Stp.go ?_))
  constructor
  go_wp2_with (
    first
    | (go_at_call 39
       refine (unhide (P39 _)).mono ?_
       rintro e W4 ⟨rfl, rfl⟩
       obtain ⟨m0, m1⟩ := Blk.mem ((unhide M).at 0 _ rfl) hok.len n0 n8
       rw [hin] at m0
       have c0 := fits_cell ((unhide M).at 0 _ rfl) 0 _ rfl
       refine Stp.go ?_))
  constructor
  go_wp2_with (
    first
    | (refine wpStoreM row26 rfl (.tmp 6) (.tmp 32) rfl rfl b2 1 (vwC zv) rfl rfl rfl (vwC_one _) (unhide M) rfl rfl ?_
       intro W5 N5
       replace M : Hid (Mm w W5 [(b1, 26, vwC v), (b2, 26, vwC zv)]) := hide N5
       clear N5
       refine Stp.go ?_))
  constructor
  go_wp2_with fail
  refine bodyPost_ret (res17 _ b2 (vwC zv) 7 _ rfl rfl rfl ((unhide M).at 1 _ rfl)) rfl ?_
  exact ⟨rfl, (unhide M).kept⟩
set_option maxHeartbeats 2000000 in
theorem rjoin_et (v : Vw) (n e : Int) (w : World) (hF : First w) (hok : v.Ok) (hm : v.may = true) (hn : (isNo n && isEp e) = true) (hin : (v.mem n).1 = true) (hg : ¬ e ≤ (v.mem n).2) (hb : v.nu = 4611686018427387904) : Calls Tryd.prog 17 #[aggV (vwC v), .int .i64 n, .int .i64 e] w fun x w' => x = .returned (two (zv, 5)) ∧ Kept [] w w' := by
  have P13 : ∀ W, First W → Hid (Calls Tryd.prog 13 #[aggV (vwC v)] W fun e w' => e = .returned (.bool true) ∧ Kept [] W w') := fun W hW => hide (by have := rmay13 v W hW hok.len; rw [hm] at this; exact this)
  have P39 : ∀ W, Hid (Calls Tryd.prog 39 #[.int .i64 n, .int .i64 e] W fun e w' => e = .returned (.bool true) ∧ w' = W) := fun W => hide (by have := node39 n e W; rw [hn] at this; exact this)
  have hn9 : 0 ≤ n ∧ n < 8 := by simp [isNo] at hn; omega
  obtain ⟨n0, n8⟩ := hn9
  have hn8 : n.toNat < 8 := by omega
  have hdg : decide (e ≤ (v.mem n).2) = false := by simpa using hg
  go_enter Tryd.func17, Tryd.ntmps17
  have M : Hid (Mm w w []) := hide (Mm.init hF)
  go_wp2_with (
    first
    | (refine wpBoxV rfl (.tmp 0) rfl (vwC v) rfl ?_
       intro W1 b1 e1 B1 K1
       replace M : Hid (Mm w W1 [(b1, 26, vwC v)]) := hide ((unhide M).new e1 B1 K1)
       clear e1 B1 K1
       refine Stp.go ?_))
  constructor
  go_wp2_with (
    first
    | (refine wpAllocW (vwC zv) zero26 6 rfl rfl rfl ?_
       intro W2 b2 e2 B2 K2
       replace M : Hid (Mm w W2 [(b1, 26, vwC v), (b2, 26, vwC zv)]) := hide ((unhide M).new e2 B2 K2)
       clear e2 B2 K2
       refine Stp.go ?_))
  constructor
  go_wp2_with (
    first
    | (refine wpLoadA row26 rfl (.tmp 3) rfl b1 0 rfl (vwC v) (vwC_len hok.len) ((unhide M).at 0 _ rfl).range ?_
       refine Stp.go ?_))
  constructor
  go_wp2_with (
    first
    | (go_at_call 13
       refine (unhide (P13 _ (unhide M).first)).mono ?_
       rintro e W3 ⟨rfl, K3⟩
       replace M : Hid (Mm w W3 [(b1, 26, vwC v), (b2, 26, vwC zv)]) := hide ((unhide M).step K3)
       clear K3
       refine Stp.go ?_))
  constructor
  go_wp2_with (
    first
    | (go_at_call 39
       refine (unhide (P39 _)).mono ?_
       rintro e W4 ⟨rfl, rfl⟩
       obtain ⟨m0, m1⟩ := Blk.mem ((unhide M).at 0 _ rfl) hok.len n0 n8
       rw [hin] at m0
       have c0 := fits_cell ((unhide M).at 0 _ rfl) 0 _ rfl
       refine Stp.go ?_))
  constructor
  go_wp2_with (
    first
    | (refine wpStoreM row26 rfl (.tmp 6) (.tmp 36) rfl rfl b2 1 (vwC zv) rfl rfl rfl (vwC_one _) (unhide M) rfl rfl ?_
       intro W5 N5
       replace M : Hid (Mm w W5 [(b1, 26, vwC v), (b2, 26, vwC zv)]) := hide N5
       clear N5
       refine Stp.go ?_))
  constructor
  go_wp2_with fail
  refine bodyPost_ret (res17 _ b2 (vwC zv) 5 _ rfl rfl rfl ((unhide M).at 1 _ rfl)) rfl ?_
  exact ⟨rfl, (unhide M).kept⟩
set_option maxHeartbeats 2000000 in
theorem rjoin_gt (v : Vw) (n e : Int) (w : World) (hF : First w) (hok : v.Ok) (hm : v.may = true) (hn : (isNo n && isEp e) = true) (hin : (v.mem n).1 = true) (hg : ¬ e ≤ (v.mem n).2) (hb : ¬ v.nu = 4611686018427387904) : Calls Tryd.prog 17 #[aggV (vwC v), .int .i64 n, .int .i64 e] w fun x w' => x = .returned (two (⟨v.nu + 1, false, n, v.ms.set n.toNat (true, e)⟩, 0)) ∧ Kept [] w w' := by
  have P13 : ∀ W, First W → Hid (Calls Tryd.prog 13 #[aggV (vwC v)] W fun e w' => e = .returned (.bool true) ∧ Kept [] W w') := fun W hW => hide (by have := rmay13 v W hW hok.len; rw [hm] at this; exact this)
  have P39 : ∀ W, Hid (Calls Tryd.prog 39 #[.int .i64 n, .int .i64 e] W fun e w' => e = .returned (.bool true) ∧ w' = W) := fun W => hide (by have := node39 n e W; rw [hn] at this; exact this)
  have hn9 : 0 ≤ n ∧ n < 8 := by simp [isNo] at hn; omega
  obtain ⟨n0, n8⟩ := hn9
  have hn8 : n.toNat < 8 := by omega
  have hdg : decide (e ≤ (v.mem n).2) = false := by simpa using hg
  have hnu := may_nu hm
  obtain ⟨hu0, hu1⟩ := hnu
  go_enter Tryd.func17, Tryd.ntmps17
  have M : Hid (Mm w w []) := hide (Mm.init hF)
  go_wp2_with (
    first
    | (refine wpBoxV rfl (.tmp 0) rfl (vwC v) rfl ?_
       intro W1 b1 e1 B1 K1
       replace M : Hid (Mm w W1 [(b1, 26, vwC v)]) := hide ((unhide M).new e1 B1 K1)
       clear e1 B1 K1
       refine Stp.go ?_))
  constructor
  go_wp2_with (
    first
    | (refine wpAllocW (vwC zv) zero26 6 rfl rfl rfl ?_
       intro W2 b2 e2 B2 K2
       replace M : Hid (Mm w W2 [(b1, 26, vwC v), (b2, 26, vwC zv)]) := hide ((unhide M).new e2 B2 K2)
       clear e2 B2 K2
       refine Stp.go ?_))
  constructor
  go_wp2_with (
    first
    | (refine wpLoadA row26 rfl (.tmp 3) rfl b1 0 rfl (vwC v) (vwC_len hok.len) ((unhide M).at 0 _ rfl).range ?_
       refine Stp.go ?_))
  constructor
  go_wp2_with (
    first
    | (go_at_call 13
       refine (unhide (P13 _ (unhide M).first)).mono ?_
       rintro e W3 ⟨rfl, K3⟩
       replace M : Hid (Mm w W3 [(b1, 26, vwC v), (b2, 26, vwC zv)]) := hide ((unhide M).step K3)
       clear K3
       refine Stp.go ?_))
  constructor
  go_wp2_with (
    first
    | (go_at_call 39
       refine (unhide (P39 _)).mono ?_
       rintro e W4 ⟨rfl, rfl⟩
       obtain ⟨m0, m1⟩ := Blk.mem ((unhide M).at 0 _ rfl) hok.len n0 n8
       rw [hin] at m0
       have c0 := fits_cell ((unhide M).at 0 _ rfl) 0 _ rfl
       refine Stp.go ?_))
  constructor
  go_wp2_with (
    first
    | (refine wpStoreM1 size2 rfl (.tmp 41) (.tmp 39) rfl rfl b1 0 0 (.int .i64 (v.nu + 1)) ⟨rfl, rfl⟩ rfl rfl (unhide M) rfl (vw_lt hok.len (by decide)) ?_
       intro W5 N5
       replace M : Hid (Mm w W5 [(b1, 26, vwC ⟨v.nu + 1, v.op, v.fd, v.ms⟩), (b2, 26, vwC zv)]) := hide N5
       clear N5
       clear c0 m0 m1
       refine Stp.go ?_))
  constructor
  go_wp2_with (
    first
    | (refine wpStoreM1 size4 rfl (.tmp 42) (.const (.bool false)) rfl rfl b1 1 0 (.bool false) ⟨rfl, rfl⟩ rfl rfl (unhide M) rfl (vw_lt hok.len (by decide)) ?_
       intro W6 N6
       replace M : Hid (Mm w W6 [(b1, 26, vwC ⟨v.nu + 1, false, v.fd, v.ms⟩), (b2, 26, vwC zv)]) := hide N6
       clear N6
       refine Stp.go ?_))
  constructor
  go_wp2_with (
    first
    | (refine wpStoreM1 size3 rfl (.tmp 43) (.tmp 40) rfl rfl b1 2 0 (.int .i64 n) ⟨rfl, rfl⟩ rfl rfl (unhide M) rfl (vw_lt hok.len (by decide)) ?_
       intro W7 N7
       replace M : Hid (Mm w W7 [(b1, 26, vwC ⟨v.nu + 1, false, n, v.ms⟩), (b2, 26, vwC zv)]) := hide N7
       clear N7
       refine Stp.go ?_))
  constructor
  go_wp2_with (
    first
    | (refine wpStoreMem rfl (.tmp 48) (.tmp 46) rfl rfl b1 0 n.toNat ⟨v.nu + 1, false, n, v.ms⟩ (true, e) rfl rfl (unhide M) rfl hn8 hok.len ?_
       intro W8 N8
       replace M : Hid (Mm w W8 [(b1, 26, vwC ⟨v.nu + 1, false, n, v.ms.set n.toNat (true, e)⟩), (b2, 26, vwC zv)]) := hide N8
       clear N8
       refine Stp.go ?_))
  constructor
  go_wp2_with (
    first
    | (refine wpLoadA row26 rfl (.tmp 3) rfl b1 0 rfl (vwC ⟨v.nu + 1, false, n, v.ms.set n.toNat (true, e)⟩) (vwC_len (by simp [hok.len])) ((unhide M).at 0 _ rfl).range ?_
       refine Stp.go ?_))
  constructor
  go_wp2_with (
    first
    | (refine wpStoreM row26 rfl (.tmp 6) (.tmp 49) rfl rfl b2 1 (vwC ⟨v.nu + 1, false, n, v.ms.set n.toNat (true, e)⟩) rfl rfl (vwC_len (by simp [hok.len])) (vwC_one _) (unhide M) rfl rfl ?_
       intro W9 N9
       replace M : Hid (Mm w W9 [(b1, 26, vwC ⟨v.nu + 1, false, n, v.ms.set n.toNat (true, e)⟩), (b2, 26, vwC ⟨v.nu + 1, false, n, v.ms.set n.toNat (true, e)⟩)]) := hide N9
       clear N9
       refine Stp.go ?_))
  constructor
  go_wp2_with fail
  refine bodyPost_ret (res17 _ b2 (vwC ⟨v.nu + 1, false, n, v.ms.set n.toNat (true, e)⟩) 0 _ rfl rfl (vwC_len (by simp [hok.len])) ((unhide M).at 1 _ rfl)) rfl ?_
  exact ⟨rfl, (unhide M).kept⟩
set_option maxHeartbeats 2000000 in
theorem rjoin_ef (v : Vw) (n e : Int) (w : World) (hF : First w) (hok : v.Ok) (hm : v.may = true) (hn : (isNo n && isEp e) = true) (hin : (v.mem n).1 = false) (hb : v.nu = 4611686018427387904) : Calls Tryd.prog 17 #[aggV (vwC v), .int .i64 n, .int .i64 e] w fun x w' => x = .returned (two (zv, 5)) ∧ Kept [] w w' := by
  have P13 : ∀ W, First W → Hid (Calls Tryd.prog 13 #[aggV (vwC v)] W fun e w' => e = .returned (.bool true) ∧ Kept [] W w') := fun W hW => hide (by have := rmay13 v W hW hok.len; rw [hm] at this; exact this)
  have P39 : ∀ W, Hid (Calls Tryd.prog 39 #[.int .i64 n, .int .i64 e] W fun e w' => e = .returned (.bool true) ∧ w' = W) := fun W => hide (by have := node39 n e W; rw [hn] at this; exact this)
  have hn9 : 0 ≤ n ∧ n < 8 := by simp [isNo] at hn; omega
  obtain ⟨n0, n8⟩ := hn9
  have hn8 : n.toNat < 8 := by omega
  go_enter Tryd.func17, Tryd.ntmps17
  have M : Hid (Mm w w []) := hide (Mm.init hF)
  go_wp2_with (
    first
    | (refine wpBoxV rfl (.tmp 0) rfl (vwC v) rfl ?_
       intro W1 b1 e1 B1 K1
       replace M : Hid (Mm w W1 [(b1, 26, vwC v)]) := hide ((unhide M).new e1 B1 K1)
       clear e1 B1 K1
       refine Stp.go ?_))
  constructor
  go_wp2_with (
    first
    | (refine wpAllocW (vwC zv) zero26 6 rfl rfl rfl ?_
       intro W2 b2 e2 B2 K2
       replace M : Hid (Mm w W2 [(b1, 26, vwC v), (b2, 26, vwC zv)]) := hide ((unhide M).new e2 B2 K2)
       clear e2 B2 K2
       refine Stp.go ?_))
  constructor
  go_wp2_with (
    first
    | (refine wpLoadA row26 rfl (.tmp 3) rfl b1 0 rfl (vwC v) (vwC_len hok.len) ((unhide M).at 0 _ rfl).range ?_
       refine Stp.go ?_))
  constructor
  go_wp2_with (
    first
    | (go_at_call 13
       refine (unhide (P13 _ (unhide M).first)).mono ?_
       rintro e W3 ⟨rfl, K3⟩
       replace M : Hid (Mm w W3 [(b1, 26, vwC v), (b2, 26, vwC zv)]) := hide ((unhide M).step K3)
       clear K3
       refine Stp.go ?_))
  constructor
  go_wp2_with (
    first
    | (go_at_call 39
       refine (unhide (P39 _)).mono ?_
       rintro e W4 ⟨rfl, rfl⟩
       obtain ⟨m0, m1⟩ := Blk.mem ((unhide M).at 0 _ rfl) hok.len n0 n8
       rw [hin] at m0
       have c0 := fits_cell ((unhide M).at 0 _ rfl) 0 _ rfl
       refine Stp.go ?_))
  constructor
  go_wp2_with (
    first
    | (refine wpStoreM row26 rfl (.tmp 6) (.tmp 36) rfl rfl b2 1 (vwC zv) rfl rfl rfl (vwC_one _) (unhide M) rfl rfl ?_
       intro W5 N5
       replace M : Hid (Mm w W5 [(b1, 26, vwC v), (b2, 26, vwC zv)]) := hide N5
       clear N5
       refine Stp.go ?_))
  constructor
  go_wp2_with fail
  refine bodyPost_ret (res17 _ b2 (vwC zv) 5 _ rfl rfl rfl ((unhide M).at 1 _ rfl)) rfl ?_
  exact ⟨rfl, (unhide M).kept⟩
set_option maxHeartbeats 2000000 in
theorem rjoin_gf (v : Vw) (n e : Int) (w : World) (hF : First w) (hok : v.Ok) (hm : v.may = true) (hn : (isNo n && isEp e) = true) (hin : (v.mem n).1 = false) (hb : ¬ v.nu = 4611686018427387904) : Calls Tryd.prog 17 #[aggV (vwC v), .int .i64 n, .int .i64 e] w fun x w' => x = .returned (two (⟨v.nu + 1, false, n, v.ms.set n.toNat (true, e)⟩, 0)) ∧ Kept [] w w' := by
  have P13 : ∀ W, First W → Hid (Calls Tryd.prog 13 #[aggV (vwC v)] W fun e w' => e = .returned (.bool true) ∧ Kept [] W w') := fun W hW => hide (by have := rmay13 v W hW hok.len; rw [hm] at this; exact this)
  have P39 : ∀ W, Hid (Calls Tryd.prog 39 #[.int .i64 n, .int .i64 e] W fun e w' => e = .returned (.bool true) ∧ w' = W) := fun W => hide (by have := node39 n e W; rw [hn] at this; exact this)
  have hn9 : 0 ≤ n ∧ n < 8 := by simp [isNo] at hn; omega
  obtain ⟨n0, n8⟩ := hn9
  have hn8 : n.toNat < 8 := by omega
  have hnu := may_nu hm
  obtain ⟨hu0, hu1⟩ := hnu
  go_enter Tryd.func17, Tryd.ntmps17
  have M : Hid (Mm w w []) := hide (Mm.init hF)
  go_wp2_with (
    first
    | (refine wpBoxV rfl (.tmp 0) rfl (vwC v) rfl ?_
       intro W1 b1 e1 B1 K1
       replace M : Hid (Mm w W1 [(b1, 26, vwC v)]) := hide ((unhide M).new e1 B1 K1)
       clear e1 B1 K1
       refine Stp.go ?_))
  constructor
  go_wp2_with (
    first
    | (refine wpAllocW (vwC zv) zero26 6 rfl rfl rfl ?_
       intro W2 b2 e2 B2 K2
       replace M : Hid (Mm w W2 [(b1, 26, vwC v), (b2, 26, vwC zv)]) := hide ((unhide M).new e2 B2 K2)
       clear e2 B2 K2
       refine Stp.go ?_))
  constructor
  go_wp2_with (
    first
    | (refine wpLoadA row26 rfl (.tmp 3) rfl b1 0 rfl (vwC v) (vwC_len hok.len) ((unhide M).at 0 _ rfl).range ?_
       refine Stp.go ?_))
  constructor
  go_wp2_with (
    first
    | (go_at_call 13
       refine (unhide (P13 _ (unhide M).first)).mono ?_
       rintro e W3 ⟨rfl, K3⟩
       replace M : Hid (Mm w W3 [(b1, 26, vwC v), (b2, 26, vwC zv)]) := hide ((unhide M).step K3)
       clear K3
       refine Stp.go ?_))
  constructor
  go_wp2_with (
    first
    | (go_at_call 39
       refine (unhide (P39 _)).mono ?_
       rintro e W4 ⟨rfl, rfl⟩
       obtain ⟨m0, m1⟩ := Blk.mem ((unhide M).at 0 _ rfl) hok.len n0 n8
       rw [hin] at m0
       have c0 := fits_cell ((unhide M).at 0 _ rfl) 0 _ rfl
       refine Stp.go ?_))
  constructor
  go_wp2_with (
    first
    | (refine wpStoreM1 size2 rfl (.tmp 41) (.tmp 39) rfl rfl b1 0 0 (.int .i64 (v.nu + 1)) ⟨rfl, rfl⟩ rfl rfl (unhide M) rfl (vw_lt hok.len (by decide)) ?_
       intro W5 N5
       replace M : Hid (Mm w W5 [(b1, 26, vwC ⟨v.nu + 1, v.op, v.fd, v.ms⟩), (b2, 26, vwC zv)]) := hide N5
       clear N5
       clear c0 m0 m1
       refine Stp.go ?_))
  constructor
  go_wp2_with (
    first
    | (refine wpStoreM1 size4 rfl (.tmp 42) (.const (.bool false)) rfl rfl b1 1 0 (.bool false) ⟨rfl, rfl⟩ rfl rfl (unhide M) rfl (vw_lt hok.len (by decide)) ?_
       intro W6 N6
       replace M : Hid (Mm w W6 [(b1, 26, vwC ⟨v.nu + 1, false, v.fd, v.ms⟩), (b2, 26, vwC zv)]) := hide N6
       clear N6
       refine Stp.go ?_))
  constructor
  go_wp2_with (
    first
    | (refine wpStoreM1 size3 rfl (.tmp 43) (.tmp 40) rfl rfl b1 2 0 (.int .i64 n) ⟨rfl, rfl⟩ rfl rfl (unhide M) rfl (vw_lt hok.len (by decide)) ?_
       intro W7 N7
       replace M : Hid (Mm w W7 [(b1, 26, vwC ⟨v.nu + 1, false, n, v.ms⟩), (b2, 26, vwC zv)]) := hide N7
       clear N7
       refine Stp.go ?_))
  constructor
  go_wp2_with (
    first
    | (refine wpStoreMem rfl (.tmp 48) (.tmp 46) rfl rfl b1 0 n.toNat ⟨v.nu + 1, false, n, v.ms⟩ (true, e) rfl rfl (unhide M) rfl hn8 hok.len ?_
       intro W8 N8
       replace M : Hid (Mm w W8 [(b1, 26, vwC ⟨v.nu + 1, false, n, v.ms.set n.toNat (true, e)⟩), (b2, 26, vwC zv)]) := hide N8
       clear N8
       refine Stp.go ?_))
  constructor
  go_wp2_with (
    first
    | (refine wpLoadA row26 rfl (.tmp 3) rfl b1 0 rfl (vwC ⟨v.nu + 1, false, n, v.ms.set n.toNat (true, e)⟩) (vwC_len (by simp [hok.len])) ((unhide M).at 0 _ rfl).range ?_
       refine Stp.go ?_))
  constructor
  go_wp2_with (
    first
    | (refine wpStoreM row26 rfl (.tmp 6) (.tmp 49) rfl rfl b2 1 (vwC ⟨v.nu + 1, false, n, v.ms.set n.toNat (true, e)⟩) rfl rfl (vwC_len (by simp [hok.len])) (vwC_one _) (unhide M) rfl rfl ?_
       intro W9 N9
       replace M : Hid (Mm w W9 [(b1, 26, vwC ⟨v.nu + 1, false, n, v.ms.set n.toNat (true, e)⟩), (b2, 26, vwC ⟨v.nu + 1, false, n, v.ms.set n.toNat (true, e)⟩)]) := hide N9
       clear N9
       refine Stp.go ?_))
  constructor
  go_wp2_with fail
  refine bodyPost_ret (res17 _ b2 (vwC ⟨v.nu + 1, false, n, v.ms.set n.toNat (true, e)⟩) 0 _ rfl rfl (vwC_len (by simp [hok.len])) ((unhide M).at 1 _ rfl)) rfl ?_
  exact ⟨rfl, (unhide M).kept⟩
theorem rjoin17 (v : Vw) (n e : Int) (w : World) (hF : First w) (hok : v.Ok) : Calls Tryd.prog 17 #[aggV (vwC v), .int .i64 n, .int .i64 e] w fun x w' => x = .returned (two (joinV v n e)) ∧ Kept [] w w' := by
  unfold joinV
  cases hm : v.may with
  | false => exact rjoin_a v n e w hF hok hm
  | true =>
    cases hn : (isNo n && isEp e) with
    | false => exact rjoin_b v n e w hF hok hm hn
    | true =>
      simp only [Bool.and_self, Bool.true_eq_false, if_false]
      have hn9 : 0 ≤ n ∧ n < 8 := by simp [isNo] at hn; omega
      have he9 : 1 ≤ e := by simp [isEp] at hn; omega
      have hmk := may_mem hm hok.len hn9.1 hn9.2
      by_cases hg : e ≤ (v.mem n).2
      · rw [if_pos hg]
        cases hin : (v.mem n).1 with
        | true => exact rjoin_d v n e w hF hok hm hn hin hg
        | false => exfalso; simp [memOk, hin] at hmk; omega
      · rw [if_neg hg]
        unfold nextV
        by_cases hb : v.nu = 4611686018427387904
        · rw [if_pos hb]
          cases hin : (v.mem n).1 with
          | true => exact rjoin_et v n e w hF hok hm hn hin hg hb
          | false => exact rjoin_ef v n e w hF hok hm hn hin hb
        · rw [if_neg hb]
          cases hin : (v.mem n).1 with
          | true => exact rjoin_gt v n e w hF hok hm hn hin hg hb
          | false => exact rjoin_gf v n e w hF hok hm hn hin hb
set_option maxHeartbeats 2000000 in
theorem rout_a (v : Vw) (f n : Int) (w : World) (hF : First w) (hok : v.Ok) (hm : v.may = false) : Calls Tryd.prog 19 #[aggV (vwC v), .int .i64 f, .int .i64 n] w fun x w' => x = .returned (two (zv, 2)) ∧ Kept [] w w' := by
  have P13 : ∀ W, First W → Hid (Calls Tryd.prog 13 #[aggV (vwC v)] W fun e w' => e = .returned (.bool false) ∧ Kept [] W w') := fun W hW => hide (by have := rmay13 v W hW hok.len; rw [hm] at this; exact this)
  go_enter Tryd.func19, Tryd.ntmps19
  have M : Hid (Mm w w []) := hide (Mm.init hF)
  go_wp2_with (
    first
    | (refine wpBoxV rfl (.tmp 0) rfl (vwC v) rfl ?_
       intro W1 b1 e1 B1 K1
       replace M : Hid (Mm w W1 [(b1, 26, vwC v)]) := hide ((unhide M).new e1 B1 K1)
       clear e1 B1 K1
       refine Stp.go ?_))
  constructor
  go_wp2_with (
    first
    | (refine wpAllocW (vwC zv) zero26 6 rfl rfl rfl ?_
       intro W2 b2 e2 B2 K2
       replace M : Hid (Mm w W2 [(b1, 26, vwC v), (b2, 26, vwC zv)]) := hide ((unhide M).new e2 B2 K2)
       clear e2 B2 K2
       refine Stp.go ?_))
  constructor
  go_wp2_with (
    first
    | (refine wpLoadA row26 rfl (.tmp 3) rfl b1 0 rfl (vwC v) (vwC_len hok.len) ((unhide M).at 0 _ rfl).range ?_
       refine Stp.go ?_))
  constructor
  go_wp2_with (
    first
    | (go_at_call 13
       refine (unhide (P13 _ (unhide M).first)).mono ?_
       rintro e W3 ⟨rfl, K3⟩
       replace M : Hid (Mm w W3 [(b1, 26, vwC v), (b2, 26, vwC zv)]) := hide ((unhide M).step K3)
       clear K3
       refine Stp.go ?_))
  constructor
  go_wp2_with (
    first
    | (refine wpStoreM row26 rfl (.tmp 6) (.tmp 26) rfl rfl b2 1 (vwC zv) rfl rfl rfl (vwC_one _) (unhide M) rfl rfl ?_
       intro W4 N4
       replace M : Hid (Mm w W4 [(b1, 26, vwC v), (b2, 26, vwC zv)]) := hide N4
       clear N4
       refine Stp.go ?_))
  constructor
  go_wp2_with fail
  refine bodyPost_ret (res19 _ b2 (vwC zv) 2 _ rfl rfl rfl ((unhide M).at 1 _ rfl)) rfl ?_
  exact ⟨rfl, (unhide M).kept⟩
set_option maxHeartbeats 2000000 in
theorem rout_b (v : Vw) (f n : Int) (w : World) (hF : First w) (hok : v.Ok) (hm : v.may = true) (hf : isNo f = false) : Calls Tryd.prog 19 #[aggV (vwC v), .int .i64 f, .int .i64 n] w fun x w' => x = .returned (two (zv, 2)) ∧ Kept [] w w' := by
  have P13 : ∀ W, First W → Hid (Calls Tryd.prog 13 #[aggV (vwC v)] W fun e w' => e = .returned (.bool true) ∧ Kept [] W w') := fun W hW => hide (by have := rmay13 v W hW hok.len; rw [hm] at this; exact this)
  have P39 : ∀ W, Hid (Calls Tryd.prog 39 #[.int .i64 f, .int .i64 1] W fun e w' => e = .returned (.bool false) ∧ w' = W) := fun W => hide (by have := node39 f 1 W; rw [show isEp 1 = true from rfl, Bool.and_true, hf] at this; exact this)
  go_enter Tryd.func19, Tryd.ntmps19
  have M : Hid (Mm w w []) := hide (Mm.init hF)
  go_wp2_with (
    first
    | (refine wpBoxV rfl (.tmp 0) rfl (vwC v) rfl ?_
       intro W1 b1 e1 B1 K1
       replace M : Hid (Mm w W1 [(b1, 26, vwC v)]) := hide ((unhide M).new e1 B1 K1)
       clear e1 B1 K1
       refine Stp.go ?_))
  constructor
  go_wp2_with (
    first
    | (refine wpAllocW (vwC zv) zero26 6 rfl rfl rfl ?_
       intro W2 b2 e2 B2 K2
       replace M : Hid (Mm w W2 [(b1, 26, vwC v), (b2, 26, vwC zv)]) := hide ((unhide M).new e2 B2 K2)
       clear e2 B2 K2
       refine Stp.go ?_))
  constructor
  go_wp2_with (
    first
    | (refine wpLoadA row26 rfl (.tmp 3) rfl b1 0 rfl (vwC v) (vwC_len hok.len) ((unhide M).at 0 _ rfl).range ?_
       refine Stp.go ?_))
  constructor
  go_wp2_with (
    first
    | (go_at_call 13
       refine (unhide (P13 _ (unhide M).first)).mono ?_
       rintro e W3 ⟨rfl, K3⟩
       replace M : Hid (Mm w W3 [(b1, 26, vwC v), (b2, 26, vwC zv)]) := hide ((unhide M).step K3)
       clear K3
       refine Stp.go ?_))
  constructor
  go_wp2_with (
    first
    | (go_at_call 39
       refine (unhide (P39 _)).mono ?_
       rintro e W4 ⟨rfl, rfl⟩
       refine Stp.go ?_))
  constructor
  go_wp2_with (
    first
    | (refine wpStoreM row26 rfl (.tmp 6) (.tmp 26) rfl rfl b2 1 (vwC zv) rfl rfl rfl (vwC_one _) (unhide M) rfl rfl ?_
       intro W5 N5
       replace M : Hid (Mm w W5 [(b1, 26, vwC v), (b2, 26, vwC zv)]) := hide N5
       clear N5
       refine Stp.go ?_))
  constructor
  go_wp2_with fail
  refine bodyPost_ret (res19 _ b2 (vwC zv) 2 _ rfl rfl rfl ((unhide M).at 1 _ rfl)) rfl ?_
  exact ⟨rfl, (unhide M).kept⟩
set_option maxHeartbeats 2000000 in
theorem rout_c (v : Vw) (f n : Int) (w : World) (hF : First w) (hok : v.Ok) (hm : v.may = true) (hf : isNo f = true) (hn : isNo n = false) : Calls Tryd.prog 19 #[aggV (vwC v), .int .i64 f, .int .i64 n] w fun x w' => x = .returned (two (zv, 2)) ∧ Kept [] w w' := by
  have P13 : ∀ W, First W → Hid (Calls Tryd.prog 13 #[aggV (vwC v)] W fun e w' => e = .returned (.bool true) ∧ Kept [] W w') := fun W hW => hide (by have := rmay13 v W hW hok.len; rw [hm] at this; exact this)
  have P39 : ∀ W, Hid (Calls Tryd.prog 39 #[.int .i64 f, .int .i64 1] W fun e w' => e = .returned (.bool true) ∧ w' = W) := fun W => hide (by have := node39 f 1 W; rw [show isEp 1 = true from rfl, Bool.and_true, hf] at this; exact this)
  have Q39 : ∀ W, Hid (Calls Tryd.prog 39 #[.int .i64 n, .int .i64 1] W fun e w' => e = .returned (.bool false) ∧ w' = W) := fun W => hide (by have := node39 n 1 W; rw [show isEp 1 = true from rfl, Bool.and_true, hn] at this; exact this)
  go_enter Tryd.func19, Tryd.ntmps19
  have M : Hid (Mm w w []) := hide (Mm.init hF)
  go_wp2_with (
    first
    | (refine wpBoxV rfl (.tmp 0) rfl (vwC v) rfl ?_
       intro W1 b1 e1 B1 K1
       replace M : Hid (Mm w W1 [(b1, 26, vwC v)]) := hide ((unhide M).new e1 B1 K1)
       clear e1 B1 K1
       refine Stp.go ?_))
  constructor
  go_wp2_with (
    first
    | (refine wpAllocW (vwC zv) zero26 6 rfl rfl rfl ?_
       intro W2 b2 e2 B2 K2
       replace M : Hid (Mm w W2 [(b1, 26, vwC v), (b2, 26, vwC zv)]) := hide ((unhide M).new e2 B2 K2)
       clear e2 B2 K2
       refine Stp.go ?_))
  constructor
  go_wp2_with (
    first
    | (refine wpLoadA row26 rfl (.tmp 3) rfl b1 0 rfl (vwC v) (vwC_len hok.len) ((unhide M).at 0 _ rfl).range ?_
       refine Stp.go ?_))
  constructor
  go_wp2_with (
    first
    | (go_at_call 13
       refine (unhide (P13 _ (unhide M).first)).mono ?_
       rintro e W3 ⟨rfl, K3⟩
       replace M : Hid (Mm w W3 [(b1, 26, vwC v), (b2, 26, vwC zv)]) := hide ((unhide M).step K3)
       clear K3
       refine Stp.go ?_))
  constructor
  go_wp2_with (
    first
    | (go_at_call 39
       refine (unhide (P39 _)).mono ?_
       rintro e W4 ⟨rfl, rfl⟩
       refine Stp.go ?_))
  constructor
  go_wp2_with (
    first
    | (go_at_call 39
       refine (unhide (Q39 _)).mono ?_
       rintro e W5 ⟨rfl, rfl⟩
       refine Stp.go ?_))
  constructor
  go_wp2_with (
    first
    | (refine wpStoreM row26 rfl (.tmp 6) (.tmp 26) rfl rfl b2 1 (vwC zv) rfl rfl rfl (vwC_one _) (unhide M) rfl rfl ?_
       intro W6 N6
       replace M : Hid (Mm w W6 [(b1, 26, vwC v), (b2, 26, vwC zv)]) := hide N6
       clear N6
       refine Stp.go ?_))
  constructor
  go_wp2_with fail
  refine bodyPost_ret (res19 _ b2 (vwC zv) 2 _ rfl rfl rfl ((unhide M).at 1 _ rfl)) rfl ?_
  exact ⟨rfl, (unhide M).kept⟩
set_option maxHeartbeats 2000000 in
theorem rout_d (v : Vw) (f n : Int) (w : World) (hF : First w) (hok : v.Ok) (hm : v.may = true) (hf : isNo f = true) (hn : isNo n = true) (hq : f = n) : Calls Tryd.prog 19 #[aggV (vwC v), .int .i64 f, .int .i64 n] w fun x w' => x = .returned (two (zv, 2)) ∧ Kept [] w w' := by
  have P13 : ∀ W, First W → Hid (Calls Tryd.prog 13 #[aggV (vwC v)] W fun e w' => e = .returned (.bool true) ∧ Kept [] W w') := fun W hW => hide (by have := rmay13 v W hW hok.len; rw [hm] at this; exact this)
  have P39 : ∀ W, Hid (Calls Tryd.prog 39 #[.int .i64 f, .int .i64 1] W fun e w' => e = .returned (.bool true) ∧ w' = W) := fun W => hide (by have := node39 f 1 W; rw [show isEp 1 = true from rfl, Bool.and_true, hf] at this; exact this)
  have Q39 : ∀ W, Hid (Calls Tryd.prog 39 #[.int .i64 n, .int .i64 1] W fun e w' => e = .returned (.bool true) ∧ w' = W) := fun W => hide (by have := node39 n 1 W; rw [show isEp 1 = true from rfl, Bool.and_true, hn] at this; exact this)
  have hdq : (f == n) = true := by simpa using hq
  clear hq
  go_enter Tryd.func19, Tryd.ntmps19
  have M : Hid (Mm w w []) := hide (Mm.init hF)
  go_wp2_with (
    first
    | (refine wpBoxV rfl (.tmp 0) rfl (vwC v) rfl ?_
       intro W1 b1 e1 B1 K1
       replace M : Hid (Mm w W1 [(b1, 26, vwC v)]) := hide ((unhide M).new e1 B1 K1)
       clear e1 B1 K1
       refine Stp.go ?_))
  constructor
  go_wp2_with (
    first
    | (refine wpAllocW (vwC zv) zero26 6 rfl rfl rfl ?_
       intro W2 b2 e2 B2 K2
       replace M : Hid (Mm w W2 [(b1, 26, vwC v), (b2, 26, vwC zv)]) := hide ((unhide M).new e2 B2 K2)
       clear e2 B2 K2
       refine Stp.go ?_))
  constructor
  go_wp2_with (
    first
    | (refine wpLoadA row26 rfl (.tmp 3) rfl b1 0 rfl (vwC v) (vwC_len hok.len) ((unhide M).at 0 _ rfl).range ?_
       refine Stp.go ?_))
  constructor
  go_wp2_with (
    first
    | (go_at_call 13
       refine (unhide (P13 _ (unhide M).first)).mono ?_
       rintro e W3 ⟨rfl, K3⟩
       replace M : Hid (Mm w W3 [(b1, 26, vwC v), (b2, 26, vwC zv)]) := hide ((unhide M).step K3)
       clear K3
       refine Stp.go ?_))
  constructor
  go_wp2_with (
    first
    | (go_at_call 39
       refine (unhide (P39 _)).mono ?_
       rintro e W4 ⟨rfl, rfl⟩
       refine Stp.go ?_))
  constructor
  go_wp2_with (
    first
    | (go_at_call 39
       refine (unhide (Q39 _)).mono ?_
       rintro e W5 ⟨rfl, rfl⟩
       refine Stp.go ?_))
  constructor
  go_wp2_with (
    first
    | (refine wpStoreM row26 rfl (.tmp 6) (.tmp 26) rfl rfl b2 1 (vwC zv) rfl rfl rfl (vwC_one _) (unhide M) rfl rfl ?_
       intro W6 N6
       replace M : Hid (Mm w W6 [(b1, 26, vwC v), (b2, 26, vwC zv)]) := hide N6
       clear N6
       refine Stp.go ?_))
  constructor
  go_wp2_with fail
  refine bodyPost_ret (res19 _ b2 (vwC zv) 2 _ rfl rfl rfl ((unhide M).at 1 _ rfl)) rfl ?_
  exact ⟨rfl, (unhide M).kept⟩
set_option maxHeartbeats 2000000 in
theorem rout_e (v : Vw) (f n : Int) (w : World) (hF : First w) (hok : v.Ok) (hm : v.may = true) (hf : isNo f = true) (hn : isNo n = true) (hq : ¬ f = n) (hi : (v.mem f).1 = false) : Calls Tryd.prog 19 #[aggV (vwC v), .int .i64 f, .int .i64 n] w fun x w' => x = .returned (two (zv, 6)) ∧ Kept [] w w' := by
  have P13 : ∀ W, First W → Hid (Calls Tryd.prog 13 #[aggV (vwC v)] W fun e w' => e = .returned (.bool true) ∧ Kept [] W w') := fun W hW => hide (by have := rmay13 v W hW hok.len; rw [hm] at this; exact this)
  have P39 : ∀ W, Hid (Calls Tryd.prog 39 #[.int .i64 f, .int .i64 1] W fun e w' => e = .returned (.bool true) ∧ w' = W) := fun W => hide (by have := node39 f 1 W; rw [show isEp 1 = true from rfl, Bool.and_true, hf] at this; exact this)
  have Q39 : ∀ W, Hid (Calls Tryd.prog 39 #[.int .i64 n, .int .i64 1] W fun e w' => e = .returned (.bool true) ∧ w' = W) := fun W => hide (by have := node39 n 1 W; rw [show isEp 1 = true from rfl, Bool.and_true, hn] at this; exact this)
  have hdq : (f == n) = false := by simpa using hq
  have hf9 : 0 ≤ f ∧ f < 8 := by simpa [isNo] using hf
  obtain ⟨f0, f8⟩ := hf9
  have hn9 : 0 ≤ n ∧ n < 8 := by simpa [isNo] using hn
  obtain ⟨n0, n8⟩ := hn9
  have hn8 : n.toNat < 8 := by omega
  go_enter Tryd.func19, Tryd.ntmps19
  have M : Hid (Mm w w []) := hide (Mm.init hF)
  go_wp2_with (
    first
    | (refine wpBoxV rfl (.tmp 0) rfl (vwC v) rfl ?_
       intro W1 b1 e1 B1 K1
       replace M : Hid (Mm w W1 [(b1, 26, vwC v)]) := hide ((unhide M).new e1 B1 K1)
       clear e1 B1 K1
       refine Stp.go ?_))
  constructor
  go_wp2_with (
    first
    | (refine wpAllocW (vwC zv) zero26 6 rfl rfl rfl ?_
       intro W2 b2 e2 B2 K2
       replace M : Hid (Mm w W2 [(b1, 26, vwC v), (b2, 26, vwC zv)]) := hide ((unhide M).new e2 B2 K2)
       clear e2 B2 K2
       refine Stp.go ?_))
  constructor
  go_wp2_with (
    first
    | (refine wpLoadA row26 rfl (.tmp 3) rfl b1 0 rfl (vwC v) (vwC_len hok.len) ((unhide M).at 0 _ rfl).range ?_
       refine Stp.go ?_))
  constructor
  go_wp2_with (
    first
    | (go_at_call 13
       refine (unhide (P13 _ (unhide M).first)).mono ?_
       rintro e W3 ⟨rfl, K3⟩
       replace M : Hid (Mm w W3 [(b1, 26, vwC v), (b2, 26, vwC zv)]) := hide ((unhide M).step K3)
       clear K3
       refine Stp.go ?_))
  constructor
  go_wp2_with (
    first
    | (go_at_call 39
       refine (unhide (P39 _)).mono ?_
       rintro e W4 ⟨rfl, rfl⟩
       refine Stp.go ?_))
  constructor
  go_wp2_with (
    first
    | (go_at_call 39
       refine (unhide (Q39 _)).mono ?_
       rintro e W5 ⟨rfl, rfl⟩
       obtain ⟨m0, m1⟩ := Blk.mem ((unhide M).at 0 _ rfl) hok.len f0 f8
       obtain ⟨k0, k1⟩ := Blk.mem ((unhide M).at 0 _ rfl) hok.len n0 n8
       rw [hi] at m0
       have c0 := fits_cell ((unhide M).at 0 _ rfl) 0 _ rfl
       refine Stp.go ?_))
  constructor
  go_wp2_with (
    first
    | (refine wpStoreM row26 rfl (.tmp 6) (.tmp 41) rfl rfl b2 1 (vwC zv) rfl rfl rfl (vwC_one _) (unhide M) rfl rfl ?_
       intro W6 N6
       replace M : Hid (Mm w W6 [(b1, 26, vwC v), (b2, 26, vwC zv)]) := hide N6
       clear N6
       refine Stp.go ?_))
  constructor
  go_wp2_with fail
  refine bodyPost_ret (res19 _ b2 (vwC zv) 6 _ rfl rfl rfl ((unhide M).at 1 _ rfl)) rfl ?_
  exact ⟨rfl, (unhide M).kept⟩
set_option maxHeartbeats 2000000 in
theorem rout_f (v : Vw) (f n : Int) (w : World) (hF : First w) (hok : v.Ok) (hm : v.may = true) (hf : isNo f = true) (hn : isNo n = true) (hq : ¬ f = n) (hi : (v.mem f).1 = true) (hj : (v.mem n).1 = false) : Calls Tryd.prog 19 #[aggV (vwC v), .int .i64 f, .int .i64 n] w fun x w' => x = .returned (two (zv, 6)) ∧ Kept [] w w' := by
  have P13 : ∀ W, First W → Hid (Calls Tryd.prog 13 #[aggV (vwC v)] W fun e w' => e = .returned (.bool true) ∧ Kept [] W w') := fun W hW => hide (by have := rmay13 v W hW hok.len; rw [hm] at this; exact this)
  have P39 : ∀ W, Hid (Calls Tryd.prog 39 #[.int .i64 f, .int .i64 1] W fun e w' => e = .returned (.bool true) ∧ w' = W) := fun W => hide (by have := node39 f 1 W; rw [show isEp 1 = true from rfl, Bool.and_true, hf] at this; exact this)
  have Q39 : ∀ W, Hid (Calls Tryd.prog 39 #[.int .i64 n, .int .i64 1] W fun e w' => e = .returned (.bool true) ∧ w' = W) := fun W => hide (by have := node39 n 1 W; rw [show isEp 1 = true from rfl, Bool.and_true, hn] at this; exact this)
  have hdq : (f == n) = false := by simpa using hq
  have hf9 : 0 ≤ f ∧ f < 8 := by simpa [isNo] using hf
  obtain ⟨f0, f8⟩ := hf9
  have hn9 : 0 ≤ n ∧ n < 8 := by simpa [isNo] using hn
  obtain ⟨n0, n8⟩ := hn9
  have hn8 : n.toNat < 8 := by omega
  go_enter Tryd.func19, Tryd.ntmps19
  have M : Hid (Mm w w []) := hide (Mm.init hF)
  go_wp2_with (
    first
    | (refine wpBoxV rfl (.tmp 0) rfl (vwC v) rfl ?_
       intro W1 b1 e1 B1 K1
       replace M : Hid (Mm w W1 [(b1, 26, vwC v)]) := hide ((unhide M).new e1 B1 K1)
       clear e1 B1 K1
       refine Stp.go ?_))
  constructor
  go_wp2_with (
    first
    | (refine wpAllocW (vwC zv) zero26 6 rfl rfl rfl ?_
       intro W2 b2 e2 B2 K2
       replace M : Hid (Mm w W2 [(b1, 26, vwC v), (b2, 26, vwC zv)]) := hide ((unhide M).new e2 B2 K2)
       clear e2 B2 K2
       refine Stp.go ?_))
  constructor
  go_wp2_with (
    first
    | (refine wpLoadA row26 rfl (.tmp 3) rfl b1 0 rfl (vwC v) (vwC_len hok.len) ((unhide M).at 0 _ rfl).range ?_
       refine Stp.go ?_))
  constructor
  go_wp2_with (
    first
    | (go_at_call 13
       refine (unhide (P13 _ (unhide M).first)).mono ?_
       rintro e W3 ⟨rfl, K3⟩
       replace M : Hid (Mm w W3 [(b1, 26, vwC v), (b2, 26, vwC zv)]) := hide ((unhide M).step K3)
       clear K3
       refine Stp.go ?_))
  constructor
  go_wp2_with (
    first
    | (go_at_call 39
       refine (unhide (P39 _)).mono ?_
       rintro e W4 ⟨rfl, rfl⟩
       refine Stp.go ?_))
  constructor
  go_wp2_with (
    first
    | (go_at_call 39
       refine (unhide (Q39 _)).mono ?_
       rintro e W5 ⟨rfl, rfl⟩
       obtain ⟨m0, m1⟩ := Blk.mem ((unhide M).at 0 _ rfl) hok.len f0 f8
       obtain ⟨k0, k1⟩ := Blk.mem ((unhide M).at 0 _ rfl) hok.len n0 n8
       rw [hi] at m0
       rw [hj] at k0
       have c0 := fits_cell ((unhide M).at 0 _ rfl) 0 _ rfl
       refine Stp.go ?_))
  constructor
  go_wp2_with (
    first
    | (refine wpStoreM row26 rfl (.tmp 6) (.tmp 41) rfl rfl b2 1 (vwC zv) rfl rfl rfl (vwC_one _) (unhide M) rfl rfl ?_
       intro W6 N6
       replace M : Hid (Mm w W6 [(b1, 26, vwC v), (b2, 26, vwC zv)]) := hide N6
       clear N6
       refine Stp.go ?_))
  constructor
  go_wp2_with fail
  refine bodyPost_ret (res19 _ b2 (vwC zv) 6 _ rfl rfl rfl ((unhide M).at 1 _ rfl)) rfl ?_
  exact ⟨rfl, (unhide M).kept⟩
set_option maxHeartbeats 2000000 in
theorem rout_g (v : Vw) (f n : Int) (w : World) (hF : First w) (hok : v.Ok) (hm : v.may = true) (hf : isNo f = true) (hn : isNo n = true) (hq : ¬ f = n) (hi : (v.mem f).1 = true) (hj : (v.mem n).1 = true) (hb : v.nu = 4611686018427387904) : Calls Tryd.prog 19 #[aggV (vwC v), .int .i64 f, .int .i64 n] w fun x w' => x = .returned (two (zv, 5)) ∧ Kept [] w w' := by
  have P13 : ∀ W, First W → Hid (Calls Tryd.prog 13 #[aggV (vwC v)] W fun e w' => e = .returned (.bool true) ∧ Kept [] W w') := fun W hW => hide (by have := rmay13 v W hW hok.len; rw [hm] at this; exact this)
  have P39 : ∀ W, Hid (Calls Tryd.prog 39 #[.int .i64 f, .int .i64 1] W fun e w' => e = .returned (.bool true) ∧ w' = W) := fun W => hide (by have := node39 f 1 W; rw [show isEp 1 = true from rfl, Bool.and_true, hf] at this; exact this)
  have Q39 : ∀ W, Hid (Calls Tryd.prog 39 #[.int .i64 n, .int .i64 1] W fun e w' => e = .returned (.bool true) ∧ w' = W) := fun W => hide (by have := node39 n 1 W; rw [show isEp 1 = true from rfl, Bool.and_true, hn] at this; exact this)
  have hdq : (f == n) = false := by simpa using hq
  have hf9 : 0 ≤ f ∧ f < 8 := by simpa [isNo] using hf
  obtain ⟨f0, f8⟩ := hf9
  have hn9 : 0 ≤ n ∧ n < 8 := by simpa [isNo] using hn
  obtain ⟨n0, n8⟩ := hn9
  have hn8 : n.toNat < 8 := by omega
  go_enter Tryd.func19, Tryd.ntmps19
  have M : Hid (Mm w w []) := hide (Mm.init hF)
  go_wp2_with (
    first
    | (refine wpBoxV rfl (.tmp 0) rfl (vwC v) rfl ?_
       intro W1 b1 e1 B1 K1
       replace M : Hid (Mm w W1 [(b1, 26, vwC v)]) := hide ((unhide M).new e1 B1 K1)
       clear e1 B1 K1
       refine Stp.go ?_))
  constructor
  go_wp2_with (
    first
    | (refine wpAllocW (vwC zv) zero26 6 rfl rfl rfl ?_
       intro W2 b2 e2 B2 K2
       replace M : Hid (Mm w W2 [(b1, 26, vwC v), (b2, 26, vwC zv)]) := hide ((unhide M).new e2 B2 K2)
       clear e2 B2 K2
       refine Stp.go ?_))
  constructor
  go_wp2_with (
    first
    | (refine wpLoadA row26 rfl (.tmp 3) rfl b1 0 rfl (vwC v) (vwC_len hok.len) ((unhide M).at 0 _ rfl).range ?_
       refine Stp.go ?_))
  constructor
  go_wp2_with (
    first
    | (go_at_call 13
       refine (unhide (P13 _ (unhide M).first)).mono ?_
       rintro e W3 ⟨rfl, K3⟩
       replace M : Hid (Mm w W3 [(b1, 26, vwC v), (b2, 26, vwC zv)]) := hide ((unhide M).step K3)
       clear K3
       refine Stp.go ?_))
  constructor
  go_wp2_with (
    first
    | (go_at_call 39
       refine (unhide (P39 _)).mono ?_
       rintro e W4 ⟨rfl, rfl⟩
       refine Stp.go ?_))
  constructor
  go_wp2_with (
    first
    | (go_at_call 39
       refine (unhide (Q39 _)).mono ?_
       rintro e W5 ⟨rfl, rfl⟩
       obtain ⟨m0, m1⟩ := Blk.mem ((unhide M).at 0 _ rfl) hok.len f0 f8
       obtain ⟨k0, k1⟩ := Blk.mem ((unhide M).at 0 _ rfl) hok.len n0 n8
       rw [hi] at m0
       rw [hj] at k0
       have c0 := fits_cell ((unhide M).at 0 _ rfl) 0 _ rfl
       refine Stp.go ?_))
  constructor
  go_wp2_with (
    first
    | (refine wpStoreM row26 rfl (.tmp 6) (.tmp 45) rfl rfl b2 1 (vwC zv) rfl rfl rfl (vwC_one _) (unhide M) rfl rfl ?_
       intro W6 N6
       replace M : Hid (Mm w W6 [(b1, 26, vwC v), (b2, 26, vwC zv)]) := hide N6
       clear N6
       refine Stp.go ?_))
  constructor
  go_wp2_with fail
  refine bodyPost_ret (res19 _ b2 (vwC zv) 5 _ rfl rfl rfl ((unhide M).at 1 _ rfl)) rfl ?_
  exact ⟨rfl, (unhide M).kept⟩
set_option maxHeartbeats 2000000 in
theorem rout_h (v : Vw) (f n : Int) (w : World) (hF : First w) (hok : v.Ok) (hm : v.may = true) (hf : isNo f = true) (hn : isNo n = true) (hq : ¬ f = n) (hi : (v.mem f).1 = true) (hj : (v.mem n).1 = true) (hb : ¬ v.nu = 4611686018427387904) : Calls Tryd.prog 19 #[aggV (vwC v), .int .i64 f, .int .i64 n] w fun x w' => x = .returned (two (⟨v.nu + 1, false, f, v.ms.set n.toNat (false, 0)⟩, 0)) ∧ Kept [] w w' := by
  have P13 : ∀ W, First W → Hid (Calls Tryd.prog 13 #[aggV (vwC v)] W fun e w' => e = .returned (.bool true) ∧ Kept [] W w') := fun W hW => hide (by have := rmay13 v W hW hok.len; rw [hm] at this; exact this)
  have P39 : ∀ W, Hid (Calls Tryd.prog 39 #[.int .i64 f, .int .i64 1] W fun e w' => e = .returned (.bool true) ∧ w' = W) := fun W => hide (by have := node39 f 1 W; rw [show isEp 1 = true from rfl, Bool.and_true, hf] at this; exact this)
  have Q39 : ∀ W, Hid (Calls Tryd.prog 39 #[.int .i64 n, .int .i64 1] W fun e w' => e = .returned (.bool true) ∧ w' = W) := fun W => hide (by have := node39 n 1 W; rw [show isEp 1 = true from rfl, Bool.and_true, hn] at this; exact this)
  have hdq : (f == n) = false := by simpa using hq
  have hf9 : 0 ≤ f ∧ f < 8 := by simpa [isNo] using hf
  obtain ⟨f0, f8⟩ := hf9
  have hn9 : 0 ≤ n ∧ n < 8 := by simpa [isNo] using hn
  obtain ⟨n0, n8⟩ := hn9
  have hn8 : n.toNat < 8 := by omega
  have hnu := may_nu hm
  obtain ⟨hu0, hu1⟩ := hnu
  go_enter Tryd.func19, Tryd.ntmps19
  have M : Hid (Mm w w []) := hide (Mm.init hF)
  go_wp2_with (
    first
    | (refine wpBoxV rfl (.tmp 0) rfl (vwC v) rfl ?_
       intro W1 b1 e1 B1 K1
       replace M : Hid (Mm w W1 [(b1, 26, vwC v)]) := hide ((unhide M).new e1 B1 K1)
       clear e1 B1 K1
       refine Stp.go ?_))
  constructor
  go_wp2_with (
    first
    | (refine wpAllocW (vwC zv) zero26 6 rfl rfl rfl ?_
       intro W2 b2 e2 B2 K2
       replace M : Hid (Mm w W2 [(b1, 26, vwC v), (b2, 26, vwC zv)]) := hide ((unhide M).new e2 B2 K2)
       clear e2 B2 K2
       refine Stp.go ?_))
  constructor
  go_wp2_with (
    first
    | (refine wpLoadA row26 rfl (.tmp 3) rfl b1 0 rfl (vwC v) (vwC_len hok.len) ((unhide M).at 0 _ rfl).range ?_
       refine Stp.go ?_))
  constructor
  go_wp2_with (
    first
    | (go_at_call 13
       refine (unhide (P13 _ (unhide M).first)).mono ?_
       rintro e W3 ⟨rfl, K3⟩
       replace M : Hid (Mm w W3 [(b1, 26, vwC v), (b2, 26, vwC zv)]) := hide ((unhide M).step K3)
       clear K3
       refine Stp.go ?_))
  constructor
  go_wp2_with (
    first
    | (go_at_call 39
       refine (unhide (P39 _)).mono ?_
       rintro e W4 ⟨rfl, rfl⟩
       refine Stp.go ?_))
  constructor
  go_wp2_with (
    first
    | (go_at_call 39
       refine (unhide (Q39 _)).mono ?_
       rintro e W5 ⟨rfl, rfl⟩
       obtain ⟨m0, m1⟩ := Blk.mem ((unhide M).at 0 _ rfl) hok.len f0 f8
       obtain ⟨k0, k1⟩ := Blk.mem ((unhide M).at 0 _ rfl) hok.len n0 n8
       rw [hi] at m0
       rw [hj] at k0
       have c0 := fits_cell ((unhide M).at 0 _ rfl) 0 _ rfl
       refine Stp.go ?_))
  constructor
  go_wp2_with (
    first
    | (refine wpStoreM1 size2 rfl (.tmp 50) (.tmp 48) rfl rfl b1 0 0 (.int .i64 (v.nu + 1)) ⟨rfl, rfl⟩ rfl rfl (unhide M) rfl (vw_lt hok.len (by decide)) ?_
       intro W6 N6
       replace M : Hid (Mm w W6 [(b1, 26, vwC ⟨v.nu + 1, v.op, v.fd, v.ms⟩), (b2, 26, vwC zv)]) := hide N6
       clear N6
       clear c0 m0 m1 k0 k1
       refine Stp.go ?_))
  constructor
  go_wp2_with (
    first
    | (refine wpStoreM1 size4 rfl (.tmp 51) (.const (.bool false)) rfl rfl b1 1 0 (.bool false) ⟨rfl, rfl⟩ rfl rfl (unhide M) rfl (vw_lt hok.len (by decide)) ?_
       intro W7 N7
       replace M : Hid (Mm w W7 [(b1, 26, vwC ⟨v.nu + 1, false, v.fd, v.ms⟩), (b2, 26, vwC zv)]) := hide N7
       clear N7
       refine Stp.go ?_))
  constructor
  go_wp2_with (
    first
    | (refine wpStoreM1 size3 rfl (.tmp 52) (.tmp 49) rfl rfl b1 2 0 (.int .i64 f) ⟨rfl, rfl⟩ rfl rfl (unhide M) rfl (vw_lt hok.len (by decide)) ?_
       intro W8 N8
       replace M : Hid (Mm w W8 [(b1, 26, vwC ⟨v.nu + 1, false, f, v.ms⟩), (b2, 26, vwC zv)]) := hide N8
       clear N8
       refine Stp.go ?_))
  constructor
  go_wp2_with (
    first
    | (refine wpStoreMem rfl (.tmp 56) (.tmp 54) rfl rfl b1 0 n.toNat ⟨v.nu + 1, false, f, v.ms⟩ (false, 0) rfl rfl (unhide M) rfl hn8 hok.len ?_
       intro W9 N9
       replace M : Hid (Mm w W9 [(b1, 26, vwC ⟨v.nu + 1, false, f, v.ms.set n.toNat (false, 0)⟩), (b2, 26, vwC zv)]) := hide N9
       clear N9
       refine Stp.go ?_))
  constructor
  go_wp2_with (
    first
    | (refine wpLoadA row26 rfl (.tmp 3) rfl b1 0 rfl (vwC ⟨v.nu + 1, false, f, v.ms.set n.toNat (false, 0)⟩) (vwC_len (by simp [hok.len])) ((unhide M).at 0 _ rfl).range ?_
       refine Stp.go ?_))
  constructor
  go_wp2_with (
    first
    | (refine wpStoreM row26 rfl (.tmp 6) (.tmp 57) rfl rfl b2 1 (vwC ⟨v.nu + 1, false, f, v.ms.set n.toNat (false, 0)⟩) rfl rfl (vwC_len (by simp [hok.len])) (vwC_one _) (unhide M) rfl rfl ?_
       intro W10 N10
       replace M : Hid (Mm w W10 [(b1, 26, vwC ⟨v.nu + 1, false, f, v.ms.set n.toNat (false, 0)⟩), (b2, 26, vwC ⟨v.nu + 1, false, f, v.ms.set n.toNat (false, 0)⟩)]) := hide N10
       clear N10
       refine Stp.go ?_))
  constructor
  go_wp2_with fail
  refine bodyPost_ret (res19 _ b2 (vwC ⟨v.nu + 1, false, f, v.ms.set n.toNat (false, 0)⟩) 0 _ rfl rfl (vwC_len (by simp [hok.len])) ((unhide M).at 1 _ rfl)) rfl ?_
  exact ⟨rfl, (unhide M).kept⟩
theorem rout19 (v : Vw) (f n : Int) (w : World) (hF : First w) (hok : v.Ok) : Calls Tryd.prog 19 #[aggV (vwC v), .int .i64 f, .int .i64 n] w fun x w' => x = .returned (two (outV v f n)) ∧ Kept [] w w' := by
  unfold outV
  cases hm : v.may with
  | false => exact rout_a v f n w hF hok hm
  | true =>
    cases hf : isNo f with
    | false => exact rout_b v f n w hF hok hm hf
    | true =>
      cases hn : isNo n with
      | false => exact rout_c v f n w hF hok hm hf hn
      | true =>
        by_cases hq : f = n
        · rw [if_pos (by simp [hq])]; exact rout_d v f n w hF hok hm hf hn hq
        · rw [if_neg (by simp [hq])]
          unfold Vw.isIn
          rw [hf, hn, Bool.true_and, Bool.true_and]
          cases hi : (v.mem f).1 with
          | false => exact rout_e v f n w hF hok hm hf hn hq hi
          | true =>
            cases hj : (v.mem n).1 with
            | false => exact rout_f v f n w hF hok hm hf hn hq hi hj
            | true =>
              simp only [Bool.and_self, Bool.true_eq_false, if_false]
              unfold nextV
              by_cases hb : v.nu = 4611686018427387904
              · rw [if_pos hb]; exact rout_g v f n w hF hok hm hf hn hq hi hj hb
              · rw [if_neg hb]; exact rout_h v f n w hF hok hm hf hn hq hi hj hb
set_option maxHeartbeats 2000000 in
theorem ropen_a (v : Vw) (w : World) (hF : First w) (hok : v.Ok) (hm : v.may = false) : Calls Tryd.prog 21 #[aggV (vwC v)] w fun x w' => x = .returned (two (zv, 2)) ∧ Kept [] w w' := by
  have P13 : ∀ W, First W → Hid (Calls Tryd.prog 13 #[aggV (vwC v)] W fun e w' => e = .returned (.bool false) ∧ Kept [] W w') := fun W hW => hide (by have := rmay13 v W hW hok.len; rw [hm] at this; exact this)
  go_enter Tryd.func21, Tryd.ntmps21
  have M : Hid (Mm w w []) := hide (Mm.init hF)
  go_wp2_with (
    first
    | (refine wpBoxV rfl (.tmp 0) rfl (vwC v) rfl ?_
       intro W1 b1 e1 B1 K1
       replace M : Hid (Mm w W1 [(b1, 26, vwC v)]) := hide ((unhide M).new e1 B1 K1)
       clear e1 B1 K1
       refine Stp.go ?_))
  constructor
  go_wp2_with (
    first
    | (refine wpAllocW (vwC zv) zero26 2 rfl rfl rfl ?_
       intro W2 b2 e2 B2 K2
       replace M : Hid (Mm w W2 [(b1, 26, vwC v), (b2, 26, vwC zv)]) := hide ((unhide M).new e2 B2 K2)
       clear e2 B2 K2
       refine Stp.go ?_))
  constructor
  go_wp2_with fail
  refine wp_region_any mixed (wpAny_tq 8 rfl (by kernel_rfl) [some (aggV (vwC v)), some (.bool false), some (.bool true), some (.bool true), none, none, none, some (.bool true)] rfl (by kernel_rfl) (by kernel_rfl) ?_ ?_)
  · intro i o' hi hsk ho a' w2 hout hin hk2
    replace hk2 : Kept [] W2 w2 := ⟨hk2.os, hk2.tape, hk2.output, hk2.size, hk2.block⟩
    match i, ho, hsk with
    | 0, ho, hsk =>
      obtain rfl := Option.some.inj ho
      exact wp_loadA row26 (.tmp 1) rfl b1 0 ((hout 1 (by kernel_rfl)).trans rfl) (vwC v) (vwC_len hok.len) (((unhide M).step hk2).at 0 _ rfl).range ⟨_, rfl, tq_is _ _ _ _ rfl, Kept.refl _ _, fun _ _ _ _ _ => trivial⟩
    | 1, ho, hsk =>
      obtain rfl := Option.some.inj ho
      have e0 : a'.eval (.tmp 4) = aggV (vwC v) := is_tq (hin 0 4 (by kernel_rfl) (by kernel_rfl)) rfl
      refine wp_callF 13 _ _ rfl #[aggV (vwC v)] (by simp [e0]) (cg13 _ _) ((unhide (P13 _ (((unhide M).step hk2).first))).mono ?_)
      rintro e w3 ⟨rfl, hk3⟩
      exact ⟨_, rfl, _, rfl, tq_is _ _ _ _ rfl, hk3, fun _ _ _ _ _ => trivial⟩
    | 2, ho, hsk =>
      obtain rfl := Option.some.inj ho
      have e0 : a'.eval (.tmp 5) = .bool false := is_tq (hin 1 5 (by kernel_rfl) (by kernel_rfl)) rfl
      exact o_not (.tmp 5) rfl false e0 ⟨_, rfl, tq_is _ _ _ _ rfl, Kept.refl _ _, fun _ _ _ _ _ => trivial⟩
    | 3, ho, hsk =>
      obtain rfl := Option.some.inj ho
      have e0 : a'.eval (.tmp 6) = .bool true := is_tq (hin 2 6 (by kernel_rfl) (by kernel_rfl)) rfl
      exact wp_move (.tmp 6) rfl _ e0 ⟨_, rfl, tq_is _ _ _ _ rfl, Kept.refl _ _, fun _ _ _ _ _ => trivial⟩
    | 4, ho, hsk =>
      cases hsk
    | 5, ho, hsk =>
      cases hsk
    | 6, ho, hsk =>
      cases hsk
    | 7, ho, hsk =>
      obtain rfl := Option.some.inj ho
      have e0 : a'.eval (.tmp 7) = .bool true := is_tq (hin 3 7 (by kernel_rfl) (by kernel_rfl)) rfl
      exact o_pickOrT (.tmp 7) (.tmp 10) rfl e0 ⟨_, rfl, tq_is _ _ _ _ rfl, Kept.refl _ _, fun _ _ _ _ _ => trivial⟩
  intro w9 hk9
  replace hk9 : Kept [] W2 w9 := ⟨hk9.os, hk9.tape, hk9.output, hk9.size, hk9.block⟩
  simp only [valsQ, List.map_cons, List.map_nil, Option.getD_some, Option.getD_none, List.take_succ_cons, List.take_zero, putAll, Act.put, List.setIfInBounds_toArray, List.set_cons_succ, List.set_cons_zero]
  refine wpAny_done (by kernel_rfl) ?_ _
  replace M : Hid (Mm w w9 [(b1, 26, vwC v), (b2, 26, vwC zv)]) := hide ((unhide M).step hk9)
  clear hk9
  go_wp2_with (
    first
    | (refine wpStoreM row26 rfl (.tmp 2) (.tmp 12) rfl rfl b2 1 (vwC zv) rfl rfl rfl (vwC_one _) (unhide M) rfl rfl ?_
       intro W21 N21
       replace M : Hid (Mm w W21 [(b1, 26, vwC v), (b2, 26, vwC zv)]) := hide N21
       clear N21
       refine Stp.go ?_))
  constructor
  go_wp2_with fail
  refine bodyPost_ret (res21 _ b2 (vwC zv) 2 _ rfl rfl rfl ((unhide M).at 1 _ rfl)) rfl ?_
  exact ⟨rfl, (unhide M).kept⟩
set_option maxHeartbeats 2000000 in
theorem ropen_b (v : Vw) (w : World) (hF : First w) (hok : v.Ok) (hm : v.may = true) (hq : decide (v = fv) = true) : Calls Tryd.prog 21 #[aggV (vwC v)] w fun x w' => x = .returned (two (zv, 2)) ∧ Kept [] w w' := by
  have P13 : ∀ W, First W → Hid (Calls Tryd.prog 13 #[aggV (vwC v)] W fun e w' => e = .returned (.bool true) ∧ Kept [] W w') := fun W hW => hide (by have := rmay13 v W hW hok.len; rw [hm] at this; exact this)
  go_enter Tryd.func21, Tryd.ntmps21
  have M : Hid (Mm w w []) := hide (Mm.init hF)
  go_wp2_with (
    first
    | (refine wpBoxV rfl (.tmp 0) rfl (vwC v) rfl ?_
       intro W1 b1 e1 B1 K1
       replace M : Hid (Mm w W1 [(b1, 26, vwC v)]) := hide ((unhide M).new e1 B1 K1)
       clear e1 B1 K1
       refine Stp.go ?_))
  constructor
  go_wp2_with (
    first
    | (refine wpAllocW (vwC zv) zero26 2 rfl rfl rfl ?_
       intro W2 b2 e2 B2 K2
       replace M : Hid (Mm w W2 [(b1, 26, vwC v), (b2, 26, vwC zv)]) := hide ((unhide M).new e2 B2 K2)
       clear e2 B2 K2
       refine Stp.go ?_))
  constructor
  go_wp2_with fail
  refine wp_region_any mixed (wpAny_tq 8 rfl (by kernel_rfl) [some (aggV (vwC v)), some (.bool true), some (.bool false), some (.bool false), some (aggV (vwC v)), some (aggV (vwC fv)), some (.bool true), some (.bool true)] rfl (by kernel_rfl) (by kernel_rfl) ?_ ?_)
  · intro i o' hi hsk ho a' w2 hout hin hk2
    replace hk2 : Kept [] W2 w2 := ⟨hk2.os, hk2.tape, hk2.output, hk2.size, hk2.block⟩
    match i, ho, hsk with
    | 0, ho, hsk =>
      obtain rfl := Option.some.inj ho
      exact wp_loadA row26 (.tmp 1) rfl b1 0 ((hout 1 (by kernel_rfl)).trans rfl) (vwC v) (vwC_len hok.len) (((unhide M).step hk2).at 0 _ rfl).range ⟨_, rfl, tq_is _ _ _ _ rfl, Kept.refl _ _, fun _ _ _ _ _ => trivial⟩
    | 1, ho, hsk =>
      obtain rfl := Option.some.inj ho
      have e0 : a'.eval (.tmp 4) = aggV (vwC v) := is_tq (hin 0 4 (by kernel_rfl) (by kernel_rfl)) rfl
      refine wp_callF 13 _ _ rfl #[aggV (vwC v)] (by simp [e0]) (cg13 _ _) ((unhide (P13 _ (((unhide M).step hk2).first))).mono ?_)
      rintro e w3 ⟨rfl, hk3⟩
      exact ⟨_, rfl, _, rfl, tq_is _ _ _ _ rfl, hk3, fun _ _ _ _ _ => trivial⟩
    | 2, ho, hsk =>
      obtain rfl := Option.some.inj ho
      have e0 : a'.eval (.tmp 5) = .bool true := is_tq (hin 1 5 (by kernel_rfl) (by kernel_rfl)) rfl
      exact o_not (.tmp 5) rfl true e0 ⟨_, rfl, tq_is _ _ _ _ rfl, Kept.refl _ _, fun _ _ _ _ _ => trivial⟩
    | 3, ho, hsk =>
      obtain rfl := Option.some.inj ho
      have e0 : a'.eval (.tmp 6) = .bool false := is_tq (hin 2 6 (by kernel_rfl) (by kernel_rfl)) rfl
      exact wp_move (.tmp 6) rfl _ e0 ⟨_, rfl, tq_is _ _ _ _ rfl, Kept.refl _ _, fun _ _ _ _ _ => trivial⟩
    | 4, ho, hsk =>
      obtain rfl := Option.some.inj ho
      exact wp_loadA row26 (.tmp 1) rfl b1 0 ((hout 1 (by kernel_rfl)).trans rfl) (vwC v) (vwC_len hok.len) (((unhide M).step hk2).at 0 _ rfl).range ⟨_, rfl, tq_is _ _ _ _ rfl, Kept.refl _ _, fun _ _ _ _ _ => trivial⟩
    | 5, ho, hsk =>
      obtain rfl := Option.some.inj ho
      refine wp_callF 31 _ _ rfl #[] (by simp) (cg31 _ _) ((first31 _).mono ?_)
      rintro e w3 ⟨rfl, hk3⟩
      exact ⟨_, rfl, _, rfl, tq_is _ _ _ _ rfl, hk3, fun _ _ _ _ _ => trivial⟩
    | 6, ho, hsk =>
      obtain rfl := Option.some.inj ho
      have e0 : a'.eval (.tmp 8) = aggV (vwC v) := is_tq (hin 4 8 (by kernel_rfl) (by kernel_rfl)) rfl
      have e1 : a'.eval (.tmp 9) = aggV (vwC fv) := is_tq (hin 5 9 (by kernel_rfl) (by kernel_rfl)) rfl
      exact o_eqlA 26 26 guard26 (.tmp 8) (.tmp 9) rfl (vwC v) (vwC fv) e0 e1 true ((equal26 _ v fv hok.len rfl).trans (by rw [hq])) ⟨_, rfl, tq_is _ _ _ _ rfl, Kept.refl _ _, fun _ _ _ _ _ => trivial⟩
    | 7, ho, hsk =>
      obtain rfl := Option.some.inj ho
      have e0 : a'.eval (.tmp 7) = .bool false := is_tq (hin 3 7 (by kernel_rfl) (by kernel_rfl)) rfl
      have e1 : a'.eval (.tmp 10) = .bool true := is_tq (hin 6 10 (by kernel_rfl) (by kernel_rfl)) rfl
      exact o_pickOr0 (.tmp 7) (.tmp 10) rfl _ e0 e1 ⟨_, rfl, tq_is _ _ _ _ rfl, Kept.refl _ _, fun _ _ _ _ _ => trivial⟩
  intro w9 hk9
  replace hk9 : Kept [] W2 w9 := ⟨hk9.os, hk9.tape, hk9.output, hk9.size, hk9.block⟩
  simp only [valsQ, List.map_cons, List.map_nil, Option.getD_some, List.take_succ_cons, List.take_zero, putAll, Act.put, List.setIfInBounds_toArray, List.set_cons_succ, List.set_cons_zero]
  refine wpAny_done (by kernel_rfl) ?_ _
  replace M : Hid (Mm w w9 [(b1, 26, vwC v), (b2, 26, vwC zv)]) := hide ((unhide M).step hk9)
  clear hk9
  go_wp2_with (
    first
    | (refine wpStoreM row26 rfl (.tmp 2) (.tmp 12) rfl rfl b2 1 (vwC zv) rfl rfl rfl (vwC_one _) (unhide M) rfl rfl ?_
       intro W21 N21
       replace M : Hid (Mm w W21 [(b1, 26, vwC v), (b2, 26, vwC zv)]) := hide N21
       clear N21
       refine Stp.go ?_))
  constructor
  go_wp2_with fail
  refine bodyPost_ret (res21 _ b2 (vwC zv) 2 _ rfl rfl rfl ((unhide M).at 1 _ rfl)) rfl ?_
  exact ⟨rfl, (unhide M).kept⟩
set_option maxHeartbeats 2000000 in
theorem ropen_c (v : Vw) (w : World) (hF : First w) (hok : v.Ok) (hm : v.may = true) (hq : decide (v = fv) = false) (ho : v.op = true) : Calls Tryd.prog 21 #[aggV (vwC v)] w fun x w' => x = .returned (two (zv, 7)) ∧ Kept [] w w' := by
  have P13 : ∀ W, First W → Hid (Calls Tryd.prog 13 #[aggV (vwC v)] W fun e w' => e = .returned (.bool true) ∧ Kept [] W w') := fun W hW => hide (by have := rmay13 v W hW hok.len; rw [hm] at this; exact this)
  go_enter Tryd.func21, Tryd.ntmps21
  have M : Hid (Mm w w []) := hide (Mm.init hF)
  go_wp2_with (
    first
    | (refine wpBoxV rfl (.tmp 0) rfl (vwC v) rfl ?_
       intro W1 b1 e1 B1 K1
       replace M : Hid (Mm w W1 [(b1, 26, vwC v)]) := hide ((unhide M).new e1 B1 K1)
       clear e1 B1 K1
       refine Stp.go ?_))
  constructor
  go_wp2_with (
    first
    | (refine wpAllocW (vwC zv) zero26 2 rfl rfl rfl ?_
       intro W2 b2 e2 B2 K2
       replace M : Hid (Mm w W2 [(b1, 26, vwC v), (b2, 26, vwC zv)]) := hide ((unhide M).new e2 B2 K2)
       clear e2 B2 K2
       refine Stp.go ?_))
  constructor
  go_wp2_with fail
  refine wp_region_any mixed (wpAny_tq 8 rfl (by kernel_rfl) [some (aggV (vwC v)), some (.bool true), some (.bool false), some (.bool false), some (aggV (vwC v)), some (aggV (vwC fv)), some (.bool false), some (.bool false)] rfl (by kernel_rfl) (by kernel_rfl) ?_ ?_)
  · intro i o' hi hsk ho a' w2 hout hin hk2
    replace hk2 : Kept [] W2 w2 := ⟨hk2.os, hk2.tape, hk2.output, hk2.size, hk2.block⟩
    match i, ho, hsk with
    | 0, ho, hsk =>
      obtain rfl := Option.some.inj ho
      exact wp_loadA row26 (.tmp 1) rfl b1 0 ((hout 1 (by kernel_rfl)).trans rfl) (vwC v) (vwC_len hok.len) (((unhide M).step hk2).at 0 _ rfl).range ⟨_, rfl, tq_is _ _ _ _ rfl, Kept.refl _ _, fun _ _ _ _ _ => trivial⟩
    | 1, ho, hsk =>
      obtain rfl := Option.some.inj ho
      have e0 : a'.eval (.tmp 4) = aggV (vwC v) := is_tq (hin 0 4 (by kernel_rfl) (by kernel_rfl)) rfl
      refine wp_callF 13 _ _ rfl #[aggV (vwC v)] (by simp [e0]) (cg13 _ _) ((unhide (P13 _ (((unhide M).step hk2).first))).mono ?_)
      rintro e w3 ⟨rfl, hk3⟩
      exact ⟨_, rfl, _, rfl, tq_is _ _ _ _ rfl, hk3, fun _ _ _ _ _ => trivial⟩
    | 2, ho, hsk =>
      obtain rfl := Option.some.inj ho
      have e0 : a'.eval (.tmp 5) = .bool true := is_tq (hin 1 5 (by kernel_rfl) (by kernel_rfl)) rfl
      exact o_not (.tmp 5) rfl true e0 ⟨_, rfl, tq_is _ _ _ _ rfl, Kept.refl _ _, fun _ _ _ _ _ => trivial⟩
    | 3, ho, hsk =>
      obtain rfl := Option.some.inj ho
      have e0 : a'.eval (.tmp 6) = .bool false := is_tq (hin 2 6 (by kernel_rfl) (by kernel_rfl)) rfl
      exact wp_move (.tmp 6) rfl _ e0 ⟨_, rfl, tq_is _ _ _ _ rfl, Kept.refl _ _, fun _ _ _ _ _ => trivial⟩
    | 4, ho, hsk =>
      obtain rfl := Option.some.inj ho
      exact wp_loadA row26 (.tmp 1) rfl b1 0 ((hout 1 (by kernel_rfl)).trans rfl) (vwC v) (vwC_len hok.len) (((unhide M).step hk2).at 0 _ rfl).range ⟨_, rfl, tq_is _ _ _ _ rfl, Kept.refl _ _, fun _ _ _ _ _ => trivial⟩
    | 5, ho, hsk =>
      obtain rfl := Option.some.inj ho
      refine wp_callF 31 _ _ rfl #[] (by simp) (cg31 _ _) ((first31 _).mono ?_)
      rintro e w3 ⟨rfl, hk3⟩
      exact ⟨_, rfl, _, rfl, tq_is _ _ _ _ rfl, hk3, fun _ _ _ _ _ => trivial⟩
    | 6, ho, hsk =>
      obtain rfl := Option.some.inj ho
      have e0 : a'.eval (.tmp 8) = aggV (vwC v) := is_tq (hin 4 8 (by kernel_rfl) (by kernel_rfl)) rfl
      have e1 : a'.eval (.tmp 9) = aggV (vwC fv) := is_tq (hin 5 9 (by kernel_rfl) (by kernel_rfl)) rfl
      exact o_eqlA 26 26 guard26 (.tmp 8) (.tmp 9) rfl (vwC v) (vwC fv) e0 e1 false ((equal26 _ v fv hok.len rfl).trans (by rw [hq])) ⟨_, rfl, tq_is _ _ _ _ rfl, Kept.refl _ _, fun _ _ _ _ _ => trivial⟩
    | 7, ho, hsk =>
      obtain rfl := Option.some.inj ho
      have e0 : a'.eval (.tmp 7) = .bool false := is_tq (hin 3 7 (by kernel_rfl) (by kernel_rfl)) rfl
      have e1 : a'.eval (.tmp 10) = .bool false := is_tq (hin 6 10 (by kernel_rfl) (by kernel_rfl)) rfl
      exact o_pickOr0 (.tmp 7) (.tmp 10) rfl _ e0 e1 ⟨_, rfl, tq_is _ _ _ _ rfl, Kept.refl _ _, fun _ _ _ _ _ => trivial⟩
  intro w9 hk9
  replace hk9 : Kept [] W2 w9 := ⟨hk9.os, hk9.tape, hk9.output, hk9.size, hk9.block⟩
  simp only [valsQ, List.map_cons, List.map_nil, Option.getD_some, List.take_succ_cons, List.take_zero, putAll, Act.put, List.setIfInBounds_toArray, List.set_cons_succ, List.set_cons_zero]
  refine wpAny_done (by kernel_rfl) ?_ _
  replace M : Hid (Mm w w9 [(b1, 26, vwC v), (b2, 26, vwC zv)]) := hide ((unhide M).step hk9)
  clear hk9
  have c1 : w9.cell? ⟨b1, 1, none⟩ = some (.bool true) := by rw [← ho]; exact fits_cell ((unhide M).at 0 _ rfl) 1 _ rfl
  go_wp2_with (
    first
    | (refine wpStoreM row26 rfl (.tmp 2) (.tmp 15) rfl rfl b2 1 (vwC zv) rfl rfl rfl (vwC_one _) (unhide M) rfl rfl ?_
       intro W21 N21
       replace M : Hid (Mm w W21 [(b1, 26, vwC v), (b2, 26, vwC zv)]) := hide N21
       clear N21
       refine Stp.go ?_))
  constructor
  go_wp2_with fail
  refine bodyPost_ret (res21 _ b2 (vwC zv) 7 _ rfl rfl rfl ((unhide M).at 1 _ rfl)) rfl ?_
  exact ⟨rfl, (unhide M).kept⟩
set_option maxHeartbeats 2000000 in
theorem ropen_d (v : Vw) (w : World) (hF : First w) (hok : v.Ok) (hm : v.may = true) (hq : decide (v = fv) = false) (ho : v.op = false) : Calls Tryd.prog 21 #[aggV (vwC v)] w fun x w' => x = .returned (two (⟨v.nu, true, v.fd, v.ms⟩, 0)) ∧ Kept [] w w' := by
  have P13 : ∀ W, First W → Hid (Calls Tryd.prog 13 #[aggV (vwC v)] W fun e w' => e = .returned (.bool true) ∧ Kept [] W w') := fun W hW => hide (by have := rmay13 v W hW hok.len; rw [hm] at this; exact this)
  go_enter Tryd.func21, Tryd.ntmps21
  have M : Hid (Mm w w []) := hide (Mm.init hF)
  go_wp2_with (
    first
    | (refine wpBoxV rfl (.tmp 0) rfl (vwC v) rfl ?_
       intro W1 b1 e1 B1 K1
       replace M : Hid (Mm w W1 [(b1, 26, vwC v)]) := hide ((unhide M).new e1 B1 K1)
       clear e1 B1 K1
       refine Stp.go ?_))
  constructor
  go_wp2_with (
    first
    | (refine wpAllocW (vwC zv) zero26 2 rfl rfl rfl ?_
       intro W2 b2 e2 B2 K2
       replace M : Hid (Mm w W2 [(b1, 26, vwC v), (b2, 26, vwC zv)]) := hide ((unhide M).new e2 B2 K2)
       clear e2 B2 K2
       refine Stp.go ?_))
  constructor
  go_wp2_with fail
  refine wp_region_any mixed (wpAny_tq 8 rfl (by kernel_rfl) [some (aggV (vwC v)), some (.bool true), some (.bool false), some (.bool false), some (aggV (vwC v)), some (aggV (vwC fv)), some (.bool false), some (.bool false)] rfl (by kernel_rfl) (by kernel_rfl) ?_ ?_)
  · intro i o' hi hsk ho a' w2 hout hin hk2
    replace hk2 : Kept [] W2 w2 := ⟨hk2.os, hk2.tape, hk2.output, hk2.size, hk2.block⟩
    match i, ho, hsk with
    | 0, ho, hsk =>
      obtain rfl := Option.some.inj ho
      exact wp_loadA row26 (.tmp 1) rfl b1 0 ((hout 1 (by kernel_rfl)).trans rfl) (vwC v) (vwC_len hok.len) (((unhide M).step hk2).at 0 _ rfl).range ⟨_, rfl, tq_is _ _ _ _ rfl, Kept.refl _ _, fun _ _ _ _ _ => trivial⟩
    | 1, ho, hsk =>
      obtain rfl := Option.some.inj ho
      have e0 : a'.eval (.tmp 4) = aggV (vwC v) := is_tq (hin 0 4 (by kernel_rfl) (by kernel_rfl)) rfl
      refine wp_callF 13 _ _ rfl #[aggV (vwC v)] (by simp [e0]) (cg13 _ _) ((unhide (P13 _ (((unhide M).step hk2).first))).mono ?_)
      rintro e w3 ⟨rfl, hk3⟩
      exact ⟨_, rfl, _, rfl, tq_is _ _ _ _ rfl, hk3, fun _ _ _ _ _ => trivial⟩
    | 2, ho, hsk =>
      obtain rfl := Option.some.inj ho
      have e0 : a'.eval (.tmp 5) = .bool true := is_tq (hin 1 5 (by kernel_rfl) (by kernel_rfl)) rfl
      exact o_not (.tmp 5) rfl true e0 ⟨_, rfl, tq_is _ _ _ _ rfl, Kept.refl _ _, fun _ _ _ _ _ => trivial⟩
    | 3, ho, hsk =>
      obtain rfl := Option.some.inj ho
      have e0 : a'.eval (.tmp 6) = .bool false := is_tq (hin 2 6 (by kernel_rfl) (by kernel_rfl)) rfl
      exact wp_move (.tmp 6) rfl _ e0 ⟨_, rfl, tq_is _ _ _ _ rfl, Kept.refl _ _, fun _ _ _ _ _ => trivial⟩
    | 4, ho, hsk =>
      obtain rfl := Option.some.inj ho
      exact wp_loadA row26 (.tmp 1) rfl b1 0 ((hout 1 (by kernel_rfl)).trans rfl) (vwC v) (vwC_len hok.len) (((unhide M).step hk2).at 0 _ rfl).range ⟨_, rfl, tq_is _ _ _ _ rfl, Kept.refl _ _, fun _ _ _ _ _ => trivial⟩
    | 5, ho, hsk =>
      obtain rfl := Option.some.inj ho
      refine wp_callF 31 _ _ rfl #[] (by simp) (cg31 _ _) ((first31 _).mono ?_)
      rintro e w3 ⟨rfl, hk3⟩
      exact ⟨_, rfl, _, rfl, tq_is _ _ _ _ rfl, hk3, fun _ _ _ _ _ => trivial⟩
    | 6, ho, hsk =>
      obtain rfl := Option.some.inj ho
      have e0 : a'.eval (.tmp 8) = aggV (vwC v) := is_tq (hin 4 8 (by kernel_rfl) (by kernel_rfl)) rfl
      have e1 : a'.eval (.tmp 9) = aggV (vwC fv) := is_tq (hin 5 9 (by kernel_rfl) (by kernel_rfl)) rfl
      exact o_eqlA 26 26 guard26 (.tmp 8) (.tmp 9) rfl (vwC v) (vwC fv) e0 e1 false ((equal26 _ v fv hok.len rfl).trans (by rw [hq])) ⟨_, rfl, tq_is _ _ _ _ rfl, Kept.refl _ _, fun _ _ _ _ _ => trivial⟩
    | 7, ho, hsk =>
      obtain rfl := Option.some.inj ho
      have e0 : a'.eval (.tmp 7) = .bool false := is_tq (hin 3 7 (by kernel_rfl) (by kernel_rfl)) rfl
      have e1 : a'.eval (.tmp 10) = .bool false := is_tq (hin 6 10 (by kernel_rfl) (by kernel_rfl)) rfl
      exact o_pickOr0 (.tmp 7) (.tmp 10) rfl _ e0 e1 ⟨_, rfl, tq_is _ _ _ _ rfl, Kept.refl _ _, fun _ _ _ _ _ => trivial⟩
  intro w9 hk9
  replace hk9 : Kept [] W2 w9 := ⟨hk9.os, hk9.tape, hk9.output, hk9.size, hk9.block⟩
  simp only [valsQ, List.map_cons, List.map_nil, Option.getD_some, List.take_succ_cons, List.take_zero, putAll, Act.put, List.setIfInBounds_toArray, List.set_cons_succ, List.set_cons_zero]
  refine wpAny_done (by kernel_rfl) ?_ _
  replace M : Hid (Mm w w9 [(b1, 26, vwC v), (b2, 26, vwC zv)]) := hide ((unhide M).step hk9)
  clear hk9
  have c1 : w9.cell? ⟨b1, 1, none⟩ = some (.bool false) := by rw [← ho]; exact fits_cell ((unhide M).at 0 _ rfl) 1 _ rfl
  go_wp2_with (
    first
    | (refine wpStoreM1 size4 rfl (.tmp 16) (.const (.bool true)) rfl rfl b1 1 0 (.bool true) ⟨rfl, rfl⟩ rfl rfl (unhide M) rfl (vw_lt hok.len (by decide)) ?_
       intro W21 N21
       replace M : Hid (Mm w W21 [(b1, 26, vwC ⟨v.nu, true, v.fd, v.ms⟩), (b2, 26, vwC zv)]) := hide N21
       clear N21
       refine Stp.go ?_))
  constructor
  go_wp2_with (
    first
    | (refine wpLoadA row26 rfl (.tmp 1) rfl b1 0 rfl (vwC ⟨v.nu, true, v.fd, v.ms⟩) (vwC_len hok.len) ((unhide M).at 0 _ rfl).range ?_
       refine Stp.go ?_))
  constructor
  go_wp2_with (
    first
    | (refine wpStoreM row26 rfl (.tmp 2) (.tmp 17) rfl rfl b2 1 (vwC ⟨v.nu, true, v.fd, v.ms⟩) rfl rfl (vwC_len hok.len) (vwC_one _) (unhide M) rfl rfl ?_
       intro W22 N22
       replace M : Hid (Mm w W22 [(b1, 26, vwC ⟨v.nu, true, v.fd, v.ms⟩), (b2, 26, vwC ⟨v.nu, true, v.fd, v.ms⟩)]) := hide N22
       clear N22
       refine Stp.go ?_))
  constructor
  go_wp2_with fail
  refine bodyPost_ret (res21 _ b2 (vwC ⟨v.nu, true, v.fd, v.ms⟩) 0 _ rfl rfl (vwC_len hok.len) ((unhide M).at 1 _ rfl)) rfl ?_
  exact ⟨rfl, (unhide M).kept⟩
theorem ropened21 (v : Vw) (w : World) (hF : First w) (hok : v.Ok) : Calls Tryd.prog 21 #[aggV (vwC v)] w fun x w' => x = .returned (two (openV v)) ∧ Kept [] w w' := by
  unfold openV
  cases hm : v.may with
  | false => exact ropen_a v w hF hok hm
  | true =>
    by_cases hq : v = fv
    · rw [if_pos (by simp [hq])]; exact ropen_b v w hF hok hm (by simpa using hq)
    · rw [if_neg (by simp [hq])]
      cases ho : v.op with
      | true => exact ropen_c v w hF hok hm (by simpa using hq) ho
      | false => exact ropen_d v w hF hok hm (by simpa using hq) ho

end Go.Proofs.YtbpnnbbinhdoiaaDoor
