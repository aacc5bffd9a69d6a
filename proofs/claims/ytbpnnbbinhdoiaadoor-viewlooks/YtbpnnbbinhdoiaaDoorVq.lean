/-
  Put and Get of the views that have noughts.
-/
import Derived.Test.YtbpnnbbinhdoiaaDoorVe
namespace Go.Proofs.YtbpnnbbinhdoiaaDoor
set_option maxRecDepth 100000
open Go.RowKit


theorem zl (n : Nat) : (u8s (zs n)).length = n := by simp [u8s_len, zs]
theorem res8 (w : World) (z : Nat) (vs : List Value) (e : Int) (tmps : Array Value) (h4 : tmps[2]?.getD undef = P0 z) (h5 : tmps[3]?.getD undef = .int .i64 e) (hl : vs.length = 64) (hb : Blk w z 28 vs) : (results Tryd.f8 tmps).run Tryd.prog w = .ok (.tuple #[aggV vs, .int .i64 e]) w := by
  have := loadV row28 hl hb
  simp [results, Tryd.results8, h4, h5, this, asAddr]
theorem res9 (w : World) (z : Nat) (vs : List Value) (e : Int) (tmps : Array Value) (h4 : tmps[2]?.getD undef = P0 z) (h5 : tmps[3]?.getD undef = .int .i64 e) (hl : vs.length = 19) (hb : Blk w z 26 vs) : (results Tryd.f9 tmps).run Tryd.prog w = .ok (.tuple #[aggV vs, .int .i64 e]) w := by
  have := loadV row26 hl hb
  simp [results, Tryd.results9, h4, h5, this, asAddr]
theorem res34 (w : World) (z : Nat) (vs : List Value) (tmps : Array Value) (h4 : tmps[2]?.getD undef = P0 z) (hl : vs.length = 19) (hb : Blk w z 26 vs) : (results Tryd.f34 tmps).run Tryd.prog w = .ok (aggV vs) w := by
  have := loadV row26 hl hb
  simp [results, Tryd.results34, h4, this, asAddr]
set_option maxHeartbeats 2000000 in
theorem put_a (v : Vw) (w : World) (hF : First w) (hv : v.ms.length = 8) (hm : v.may = false) : Calls Tryd.prog 8 #[aggV (vwC v)] w fun e w' => e = .returned (.tuple #[aggV (u8s (zs 64)), .int .i64 2]) ∧ Kept [] w w' := by
  have P12 : ∀ W, First W → Hid (Calls Tryd.prog 12 #[aggV (vwC v)] W fun e w' => e = .returned (.bool false) ∧ Kept [] W w') := fun W hW => hide (by have := may12 v W hW hv; rw [hm] at this; exact this)
  go_enter Tryd.func8, Tryd.ntmps8
  have M : Hid (Mm w w []) := hide (Mm.init hF)
  go_wp2_with (
    first
    | (refine wpBoxV rfl (.tmp 0) rfl (vwC v) rfl ?_
       intro W1 b1 e1 B1 K1
       replace M : Hid (Mm w W1 [(b1, 26, vwC v)]) := hide ((unhide M).new e1 B1 K1)
       clear e1 B1 K1
       refine Stp.go ?_))
  constructor
  go_wp2_with (
    first
    | (refine wpAllocW (u8s (zs 64)) zero28 2 rfl rfl rfl ?_
       intro W2 b2 e2 B2 K2
       replace M : Hid (Mm w W2 [(b1, 26, vwC v), (b2, 28, u8s (zs 64))]) := hide ((unhide M).new e2 B2 K2)
       clear e2 B2 K2
       refine Stp.go ?_))
  constructor
  go_wp2_with (
    first
    | (refine wpAllocW (u8s (zs 64)) zero28 4 rfl rfl rfl ?_
       intro W3 b3 e3 B3 K3
       replace M : Hid (Mm w W3 [(b1, 26, vwC v), (b2, 28, u8s (zs 64)), (b3, 28, u8s (zs 64))]) := hide ((unhide M).new e3 B3 K3)
       clear e3 B3 K3
       refine Stp.go ?_))
  constructor
  go_wp2_with (
    first
    | (refine wpLoadA row26 rfl (.tmp 1) rfl b1 0 rfl (vwC v) (vwC_len hv) ((unhide M).at 0 _ rfl).range ?_
       refine Stp.go ?_))
  constructor
  go_wp2_with (
    first
    | (go_at_call 12
       refine (unhide (P12 _ (unhide M).first)).mono ?_
       rintro e W4 ⟨rfl, K4⟩
       replace M : Hid (Mm w W4 [(b1, 26, vwC v), (b2, 28, u8s (zs 64)), (b3, 28, u8s (zs 64))]) := hide ((unhide M).step K4)
       clear K4
       refine Stp.go ?_))
  constructor
  go_wp2_with (
    first
    | (refine wpLoadA row28 rfl (.tmp 4) rfl b3 0 rfl (u8s (zs 64)) (zl 64) ((unhide M).at 2 _ rfl).range ?_
       refine Stp.go ?_))
  constructor
  go_wp2_with (
    first
    | (refine wpStoreM row28 rfl (.tmp 2) (.tmp 11) rfl rfl b2 1 (u8s (zs 64)) rfl rfl (zl 64) (u8s_one _) (unhide M) rfl (zl 64) ?_
       intro W5 N5
       replace M : Hid (Mm w W5 [(b1, 26, vwC v), (b2, 28, u8s (zs 64)), (b3, 28, u8s (zs 64))]) := hide N5
       clear N5
       refine Stp.go ?_))
  constructor
  go_wp2_with fail
  refine bodyPost_ret (res8 _ b2 (u8s (zs 64)) 2 _ rfl rfl (zl 64) ((unhide M).at 1 _ rfl)) rfl ?_
  exact ⟨rfl, (unhide M).kept⟩
set_option maxHeartbeats 2000000 in
theorem put_b (v : Vw) (w : World) (hF : First w) (hv : v.ms.length = 8) (hm : v.may = true) (hq : decide (v = fv) = true) : Calls Tryd.prog 8 #[aggV (vwC v)] w fun e w' => e = .returned (.tuple #[aggV (u8s (zs 64)), .int .i64 0]) ∧ Kept [] w w' := by
  have P12 : ∀ W, First W → Hid (Calls Tryd.prog 12 #[aggV (vwC v)] W fun e w' => e = .returned (.bool true) ∧ Kept [] W w') := fun W hW => hide (by have := may12 v W hW hv; rw [hm] at this; exact this)
  go_enter Tryd.func8, Tryd.ntmps8
  have M : Hid (Mm w w []) := hide (Mm.init hF)
  go_wp2_with (
    first
    | (refine wpBoxV rfl (.tmp 0) rfl (vwC v) rfl ?_
       intro W1 b1 e1 B1 K1
       replace M : Hid (Mm w W1 [(b1, 26, vwC v)]) := hide ((unhide M).new e1 B1 K1)
       clear e1 B1 K1
       refine Stp.go ?_))
  constructor
  go_wp2_with (
    first
    | (refine wpAllocW (u8s (zs 64)) zero28 2 rfl rfl rfl ?_
       intro W2 b2 e2 B2 K2
       replace M : Hid (Mm w W2 [(b1, 26, vwC v), (b2, 28, u8s (zs 64))]) := hide ((unhide M).new e2 B2 K2)
       clear e2 B2 K2
       refine Stp.go ?_))
  constructor
  go_wp2_with (
    first
    | (refine wpAllocW (u8s (zs 64)) zero28 4 rfl rfl rfl ?_
       intro W3 b3 e3 B3 K3
       replace M : Hid (Mm w W3 [(b1, 26, vwC v), (b2, 28, u8s (zs 64)), (b3, 28, u8s (zs 64))]) := hide ((unhide M).new e3 B3 K3)
       clear e3 B3 K3
       refine Stp.go ?_))
  constructor
  go_wp2_with (
    first
    | (refine wpLoadA row26 rfl (.tmp 1) rfl b1 0 rfl (vwC v) (vwC_len hv) ((unhide M).at 0 _ rfl).range ?_
       refine Stp.go ?_))
  constructor
  go_wp2_with (
    first
    | (go_at_call 12
       refine (unhide (P12 _ (unhide M).first)).mono ?_
       rintro e W4 ⟨rfl, K4⟩
       replace M : Hid (Mm w W4 [(b1, 26, vwC v), (b2, 28, u8s (zs 64)), (b3, 28, u8s (zs 64))]) := hide ((unhide M).step K4)
       clear K4
       refine Stp.go ?_))
  constructor
  go_wp2_with (
    first
    | (refine wpLoadA row26 rfl (.tmp 1) rfl b1 0 rfl (vwC v) (vwC_len hv) ((unhide M).at 0 _ rfl).range ?_
       refine Stp.go ?_))
  constructor
  go_wp2_with (
    first
    | (refine wpLoadA row26 rfl (.global 0) rfl 0 0 rfl (vwC fv) rfl (unhide M).first.at0 ?_
       refine Stp.go ?_))
  constructor
  go_wp2_with (
    first
    | (refine wpEqlA 26 26 guard26 (.tmp 13) (.tmp 14) rfl rfl (vwC v) (vwC fv) rfl rfl true ((equal26 _ v fv hv rfl).trans (by rw [hq])) ?_
       refine Stp.go ?_))
  constructor
  go_wp2_with (
    first
    | (refine wpLoadA row28 rfl (.tmp 4) rfl b3 0 rfl (u8s (zs 64)) (zl 64) ((unhide M).at 2 _ rfl).range ?_
       refine Stp.go ?_))
  constructor
  go_wp2_with (
    first
    | (refine wpStoreM row28 rfl (.tmp 2) (.tmp 16) rfl rfl b2 1 (u8s (zs 64)) rfl rfl (zl 64) (u8s_one _) (unhide M) rfl (zl 64) ?_
       intro W5 N5
       replace M : Hid (Mm w W5 [(b1, 26, vwC v), (b2, 28, u8s (zs 64)), (b3, 28, u8s (zs 64))]) := hide N5
       clear N5
       refine Stp.go ?_))
  constructor
  go_wp2_with fail
  refine bodyPost_ret (res8 _ b2 (u8s (zs 64)) 0 _ rfl rfl (zl 64) ((unhide M).at 1 _ rfl)) rfl ?_
  exact ⟨rfl, (unhide M).kept⟩
set_option maxHeartbeats 2000000 in
theorem viewin_z (s : List Int) (w : World) (hF : First w) (hs : s.length = 64) (hz : decide (s = zs 64) = true) : Calls Tryd.prog 34 #[aggV (u8s s)] w fun e w' => e = .returned (aggV (vwC fv)) ∧ Kept [] w w' := by
  go_enter Tryd.func34, Tryd.ntmps34
  have M : Hid (Mm w w []) := hide (Mm.init hF)
  go_wp2_with (
    first
    | (refine wpBoxV rfl (.tmp 0) rfl (u8s s) rfl ?_
       intro W1 b1 e1 B1 K1
       replace M : Hid (Mm w W1 [(b1, 28, u8s s)]) := hide ((unhide M).new e1 B1 K1)
       clear e1 B1 K1
       refine Stp.go ?_))
  constructor
  go_wp2_with (
    first
    | (refine wpAllocW (vwC zv) zero26 2 rfl rfl rfl ?_
       intro W2 b2 e2 B2 K2
       replace M : Hid (Mm w W2 [(b1, 28, u8s s), (b2, 26, vwC zv)]) := hide ((unhide M).new e2 B2 K2)
       clear e2 B2 K2
       refine Stp.go ?_))
  constructor
  go_wp2_with (
    first
    | (refine wpLoadA row28 rfl (.tmp 1) rfl b1 0 rfl (u8s s) (by rw [u8s_len]; exact hs) ((unhide M).at 0 _ rfl).range ?_
       refine Stp.go ?_))
  constructor
  go_wp2_with (
    first
    | (refine wpBuildZ (T := 28) (u8s (zs 64)) build28 rfl rfl ?_
       refine Stp.go ?_))
  constructor
  go_wp2_with (
    first
    | (refine wpEqlA 28 28 guard28 (.tmp 5) (.tmp 6) rfl rfl (u8s s) (u8s (zs 64)) rfl rfl true ((equal28 _ s (zs 64) hs (by simp [zs])).trans (by rw [hz])) ?_
       refine Stp.go ?_))
  constructor
  go_wp2_with (
    first
    | (refine wpLoadA row26 rfl (.global 0) rfl 0 0 rfl (vwC fv) rfl (unhide M).first.at0 ?_
       refine Stp.go ?_))
  constructor
  go_wp2_with (
    first
    | (refine wpStoreM row26 rfl (.tmp 2) (.tmp 8) rfl rfl b2 1 (vwC fv) rfl rfl rfl (vwC_one _) (unhide M) rfl rfl ?_
       intro W3 N3
       replace M : Hid (Mm w W3 [(b1, 28, u8s s), (b2, 26, vwC fv)]) := hide N3
       clear N3
       refine Stp.go ?_))
  constructor
  go_wp2_with fail
  refine bodyPost_ret (res34 _ b2 (vwC fv) _ rfl rfl ((unhide M).at 1 _ rfl)) rfl ?_
  exact ⟨rfl, (unhide M).kept⟩
set_option maxHeartbeats 2000000 in
theorem get_a (s q : List Int) (v : Vw) (c : Int) (w : World) (hF : First w) (hs : s.length = 64) (hq : q.length = 64) (hv : v.ms.length = 8) (h34 : ∀ W, First W → Calls Tryd.prog 34 #[aggV (u8s s)] W fun e w' => e = .returned (aggV (vwC v)) ∧ Kept [] W w') (h8 : ∀ W, First W → Calls Tryd.prog 8 #[aggV (vwC v)] W fun e w' => e = .returned (.tuple #[aggV (u8s q), .int .i64 c]) ∧ Kept [] W w') (hc : c = 0) (he : decide (s = q) = true) : Calls Tryd.prog 9 #[aggV (u8s s)] w fun x w' => x = .returned (two (v, 0)) ∧ Kept [] w w' := by
  have P34 : ∀ W, First W → Hid (Calls Tryd.prog 34 #[aggV (u8s s)] W fun e w' => e = .returned (aggV (vwC v)) ∧ Kept [] W w') := fun W hW => hide (h34 W hW)
  have P8 : ∀ W, First W → Hid (Calls Tryd.prog 8 #[aggV (vwC v)] W fun e w' => e = .returned (.tuple #[aggV (u8s q), .int .i64 c]) ∧ Kept [] W w') := fun W hW => hide (h8 W hW)
  subst hc
  clear h34 h8
  go_enter Tryd.func9, Tryd.ntmps9
  have M : Hid (Mm w w []) := hide (Mm.init hF)
  go_wp2_with (
    first
    | (refine wpBoxV rfl (.tmp 0) rfl (u8s s) rfl ?_
       intro W1 b1 e1 B1 K1
       replace M : Hid (Mm w W1 [(b1, 28, u8s s)]) := hide ((unhide M).new e1 B1 K1)
       clear e1 B1 K1
       refine Stp.go ?_))
  constructor
  go_wp2_with (
    first
    | (refine wpAllocW (vwC zv) zero26 2 rfl rfl rfl ?_
       intro W2 b2 e2 B2 K2
       replace M : Hid (Mm w W2 [(b1, 28, u8s s), (b2, 26, vwC zv)]) := hide ((unhide M).new e2 B2 K2)
       clear e2 B2 K2
       refine Stp.go ?_))
  constructor
  go_wp2_with (
    first
    | (refine wpLoadA row28 rfl (.tmp 1) rfl b1 0 rfl (u8s s) (by rw [u8s_len]; exact hs) ((unhide M).at 0 _ rfl).range ?_
       refine Stp.go ?_))
  constructor
  go_wp2_with (
    first
    | (go_at_call 34
       refine (unhide (P34 _ (unhide M).first)).mono ?_
       rintro e W3 ⟨rfl, K3⟩
       replace M : Hid (Mm w W3 [(b1, 28, u8s s), (b2, 26, vwC zv)]) := hide ((unhide M).step K3)
       clear K3
       refine Stp.go ?_))
  constructor
  go_wp2_with (
    first
    | (refine wpNew row26 (vwC zv) rfl zero26 4 rfl rfl rfl (.tmp 8) rfl rfl rfl (vwC v) (vwC_len hv) (vwC_one _) (by kernel_rfl) (by kernel_rfl) ?_
       intro W4 b4 e4 B4 K4
       replace M : Hid (Mm w W4 [(b1, 28, u8s s), (b2, 26, vwC zv), (b4, 26, vwC v)]) := hide ((unhide M).new e4 B4 K4)
       clear e4 B4 K4
       refine Stp.go ?_))
  constructor
  go_wp2_with (
    first
    | (refine wpLoadA row26 rfl (.tmp 4) rfl b4 0 rfl (vwC v) (vwC_len hv) ((unhide M).at 2 _ rfl).range ?_
       refine Stp.go ?_))
  constructor
  go_wp2_with (
    first
    | (go_at_call 8
       refine (unhide (P8 _ (unhide M).first)).mono ?_
       rintro e W5 ⟨rfl, K5⟩
       replace M : Hid (Mm w W5 [(b1, 28, u8s s), (b2, 26, vwC zv), (b4, 26, vwC v)]) := hide ((unhide M).step K5)
       clear K5
       refine Stp.go ?_))
  constructor
  go_wp2_with (
    first
    | (refine wpNew row28 (u8s (zs 64)) (zl 64) zero28 5 rfl rfl rfl (.tmp 12) rfl rfl rfl (u8s q) (by rw [u8s_len]; exact hq) (u8s_one _) (by kernel_rfl) (by kernel_rfl) ?_
       intro W6 b6 e6 B6 K6
       replace M : Hid (Mm w W6 [(b1, 28, u8s s), (b2, 26, vwC zv), (b4, 26, vwC v), (b6, 28, u8s q)]) := hide ((unhide M).new e6 B6 K6)
       clear e6 B6 K6
       refine Stp.go ?_))
  constructor
  go_wp2_with (
    first
    | (refine wpLoadG row28 (.tmp 1) rfl rfl b1 0 rfl (u8s s) (by rw [u8s_len]; exact hs) ((unhide M).at 0 _ rfl).range ?_
       refine Stp.go ?_))
  constructor
  go_wp2_with (
    first
    | (refine wpLoadG row28 (.tmp 5) rfl rfl b6 0 rfl (u8s q) (by rw [u8s_len]; exact hq) ((unhide M).at 3 _ rfl).range ?_
       refine Stp.go ?_))
  constructor
  go_wp2_with (
    first
    | (refine wpNeqG 28 28 guard28 (.tmp 17) (.tmp 18) rfl rfl (u8s s) (u8s q) rfl rfl true ((equal28 _ s q hs hq).trans (by rw [he])) ?_
       refine Stp.go ?_))
  constructor
  go_wp2_with (
    first
    | (refine wpLoadA row26 rfl (.tmp 4) rfl b4 0 rfl (vwC v) (vwC_len hv) ((unhide M).at 2 _ rfl).range ?_
       refine Stp.go ?_))
  constructor
  go_wp2_with (
    first
    | (refine wpStoreM row26 rfl (.tmp 2) (.tmp 22) rfl rfl b2 1 (vwC v) rfl rfl (vwC_len hv) (vwC_one _) (unhide M) rfl rfl ?_
       intro W7 N7
       replace M : Hid (Mm w W7 [(b1, 28, u8s s), (b2, 26, vwC v), (b4, 26, vwC v), (b6, 28, u8s q)]) := hide N7
       clear N7
       refine Stp.go ?_))
  constructor
  go_wp2_with fail
  refine bodyPost_ret (res9 _ b2 (vwC v) 0 _ rfl rfl (vwC_len hv) ((unhide M).at 1 _ rfl)) rfl ?_
  exact ⟨rfl, (unhide M).kept⟩
set_option maxHeartbeats 2000000 in
theorem get_b (s q : List Int) (v : Vw) (c : Int) (w : World) (hF : First w) (hs : s.length = 64) (hq : q.length = 64) (hv : v.ms.length = 8) (h34 : ∀ W, First W → Calls Tryd.prog 34 #[aggV (u8s s)] W fun e w' => e = .returned (aggV (vwC v)) ∧ Kept [] W w') (h8 : ∀ W, First W → Calls Tryd.prog 8 #[aggV (vwC v)] W fun e w' => e = .returned (.tuple #[aggV (u8s q), .int .i64 c]) ∧ Kept [] W w') (hc : c = 0) (he : decide (s = q) = false) : Calls Tryd.prog 9 #[aggV (u8s s)] w fun x w' => x = .returned (two (zv, 12)) ∧ Kept [] w w' := by
  have P34 : ∀ W, First W → Hid (Calls Tryd.prog 34 #[aggV (u8s s)] W fun e w' => e = .returned (aggV (vwC v)) ∧ Kept [] W w') := fun W hW => hide (h34 W hW)
  have P8 : ∀ W, First W → Hid (Calls Tryd.prog 8 #[aggV (vwC v)] W fun e w' => e = .returned (.tuple #[aggV (u8s q), .int .i64 c]) ∧ Kept [] W w') := fun W hW => hide (h8 W hW)
  subst hc
  clear h34 h8
  go_enter Tryd.func9, Tryd.ntmps9
  have M : Hid (Mm w w []) := hide (Mm.init hF)
  go_wp2_with (
    first
    | (refine wpBoxV rfl (.tmp 0) rfl (u8s s) rfl ?_
       intro W1 b1 e1 B1 K1
       replace M : Hid (Mm w W1 [(b1, 28, u8s s)]) := hide ((unhide M).new e1 B1 K1)
       clear e1 B1 K1
       refine Stp.go ?_))
  constructor
  go_wp2_with (
    first
    | (refine wpAllocW (vwC zv) zero26 2 rfl rfl rfl ?_
       intro W2 b2 e2 B2 K2
       replace M : Hid (Mm w W2 [(b1, 28, u8s s), (b2, 26, vwC zv)]) := hide ((unhide M).new e2 B2 K2)
       clear e2 B2 K2
       refine Stp.go ?_))
  constructor
  go_wp2_with (
    first
    | (refine wpLoadA row28 rfl (.tmp 1) rfl b1 0 rfl (u8s s) (by rw [u8s_len]; exact hs) ((unhide M).at 0 _ rfl).range ?_
       refine Stp.go ?_))
  constructor
  go_wp2_with (
    first
    | (go_at_call 34
       refine (unhide (P34 _ (unhide M).first)).mono ?_
       rintro e W3 ⟨rfl, K3⟩
       replace M : Hid (Mm w W3 [(b1, 28, u8s s), (b2, 26, vwC zv)]) := hide ((unhide M).step K3)
       clear K3
       refine Stp.go ?_))
  constructor
  go_wp2_with (
    first
    | (refine wpNew row26 (vwC zv) rfl zero26 4 rfl rfl rfl (.tmp 8) rfl rfl rfl (vwC v) (vwC_len hv) (vwC_one _) (by kernel_rfl) (by kernel_rfl) ?_
       intro W4 b4 e4 B4 K4
       replace M : Hid (Mm w W4 [(b1, 28, u8s s), (b2, 26, vwC zv), (b4, 26, vwC v)]) := hide ((unhide M).new e4 B4 K4)
       clear e4 B4 K4
       refine Stp.go ?_))
  constructor
  go_wp2_with (
    first
    | (refine wpLoadA row26 rfl (.tmp 4) rfl b4 0 rfl (vwC v) (vwC_len hv) ((unhide M).at 2 _ rfl).range ?_
       refine Stp.go ?_))
  constructor
  go_wp2_with (
    first
    | (go_at_call 8
       refine (unhide (P8 _ (unhide M).first)).mono ?_
       rintro e W5 ⟨rfl, K5⟩
       replace M : Hid (Mm w W5 [(b1, 28, u8s s), (b2, 26, vwC zv), (b4, 26, vwC v)]) := hide ((unhide M).step K5)
       clear K5
       refine Stp.go ?_))
  constructor
  go_wp2_with (
    first
    | (refine wpNew row28 (u8s (zs 64)) (zl 64) zero28 5 rfl rfl rfl (.tmp 12) rfl rfl rfl (u8s q) (by rw [u8s_len]; exact hq) (u8s_one _) (by kernel_rfl) (by kernel_rfl) ?_
       intro W6 b6 e6 B6 K6
       replace M : Hid (Mm w W6 [(b1, 28, u8s s), (b2, 26, vwC zv), (b4, 26, vwC v), (b6, 28, u8s q)]) := hide ((unhide M).new e6 B6 K6)
       clear e6 B6 K6
       refine Stp.go ?_))
  constructor
  go_wp2_with (
    first
    | (refine wpLoadG row28 (.tmp 1) rfl rfl b1 0 rfl (u8s s) (by rw [u8s_len]; exact hs) ((unhide M).at 0 _ rfl).range ?_
       refine Stp.go ?_))
  constructor
  go_wp2_with (
    first
    | (refine wpLoadG row28 (.tmp 5) rfl rfl b6 0 rfl (u8s q) (by rw [u8s_len]; exact hq) ((unhide M).at 3 _ rfl).range ?_
       refine Stp.go ?_))
  constructor
  go_wp2_with (
    first
    | (refine wpNeqG 28 28 guard28 (.tmp 17) (.tmp 18) rfl rfl (u8s s) (u8s q) rfl rfl false ((equal28 _ s q hs hq).trans (by rw [he])) ?_
       refine Stp.go ?_))
  constructor
  go_wp2_with (
    first
    | (refine wpStoreM row26 rfl (.tmp 2) (.tmp 21) rfl rfl b2 1 (vwC zv) rfl rfl rfl (vwC_one _) (unhide M) rfl rfl ?_
       intro W7 N7
       replace M : Hid (Mm w W7 [(b1, 28, u8s s), (b2, 26, vwC zv), (b4, 26, vwC v), (b6, 28, u8s q)]) := hide N7
       clear N7
       refine Stp.go ?_))
  constructor
  go_wp2_with fail
  refine bodyPost_ret (res9 _ b2 (vwC zv) 12 _ rfl rfl rfl ((unhide M).at 1 _ rfl)) rfl ?_
  exact ⟨rfl, (unhide M).kept⟩
set_option maxHeartbeats 2000000 in
theorem get_c (s q : List Int) (v : Vw) (c : Int) (w : World) (hF : First w) (hs : s.length = 64) (hq : q.length = 64) (hv : v.ms.length = 8) (h34 : ∀ W, First W → Calls Tryd.prog 34 #[aggV (u8s s)] W fun e w' => e = .returned (aggV (vwC v)) ∧ Kept [] W w') (h8 : ∀ W, First W → Calls Tryd.prog 8 #[aggV (vwC v)] W fun e w' => e = .returned (.tuple #[aggV (u8s q), .int .i64 c]) ∧ Kept [] W w') (hc : ¬ c = 0) : Calls Tryd.prog 9 #[aggV (u8s s)] w fun x w' => x = .returned (two (zv, 12)) ∧ Kept [] w w' := by
  have P34 : ∀ W, First W → Hid (Calls Tryd.prog 34 #[aggV (u8s s)] W fun e w' => e = .returned (aggV (vwC v)) ∧ Kept [] W w') := fun W hW => hide (h34 W hW)
  have P8 : ∀ W, First W → Hid (Calls Tryd.prog 8 #[aggV (vwC v)] W fun e w' => e = .returned (.tuple #[aggV (u8s q), .int .i64 c]) ∧ Kept [] W w') := fun W hW => hide (h8 W hW)
  have hdc : (c == 0) = false := by simpa using hc
  have hdn : (c != 0) = true := by simpa using hc
  clear h34 h8
  go_enter Tryd.func9, Tryd.ntmps9
  have M : Hid (Mm w w []) := hide (Mm.init hF)
  go_wp2_with (
    first
    | (refine wpBoxV rfl (.tmp 0) rfl (u8s s) rfl ?_
       intro W1 b1 e1 B1 K1
       replace M : Hid (Mm w W1 [(b1, 28, u8s s)]) := hide ((unhide M).new e1 B1 K1)
       clear e1 B1 K1
       refine Stp.go ?_))
  constructor
  go_wp2_with (
    first
    | (refine wpAllocW (vwC zv) zero26 2 rfl rfl rfl ?_
       intro W2 b2 e2 B2 K2
       replace M : Hid (Mm w W2 [(b1, 28, u8s s), (b2, 26, vwC zv)]) := hide ((unhide M).new e2 B2 K2)
       clear e2 B2 K2
       refine Stp.go ?_))
  constructor
  go_wp2_with (
    first
    | (refine wpLoadA row28 rfl (.tmp 1) rfl b1 0 rfl (u8s s) (by rw [u8s_len]; exact hs) ((unhide M).at 0 _ rfl).range ?_
       refine Stp.go ?_))
  constructor
  go_wp2_with (
    first
    | (go_at_call 34
       refine (unhide (P34 _ (unhide M).first)).mono ?_
       rintro e W3 ⟨rfl, K3⟩
       replace M : Hid (Mm w W3 [(b1, 28, u8s s), (b2, 26, vwC zv)]) := hide ((unhide M).step K3)
       clear K3
       refine Stp.go ?_))
  constructor
  go_wp2_with (
    first
    | (refine wpNew row26 (vwC zv) rfl zero26 4 rfl rfl rfl (.tmp 8) rfl rfl rfl (vwC v) (vwC_len hv) (vwC_one _) (by kernel_rfl) (by kernel_rfl) ?_
       intro W4 b4 e4 B4 K4
       replace M : Hid (Mm w W4 [(b1, 28, u8s s), (b2, 26, vwC zv), (b4, 26, vwC v)]) := hide ((unhide M).new e4 B4 K4)
       clear e4 B4 K4
       refine Stp.go ?_))
  constructor
  go_wp2_with (
    first
    | (refine wpLoadA row26 rfl (.tmp 4) rfl b4 0 rfl (vwC v) (vwC_len hv) ((unhide M).at 2 _ rfl).range ?_
       refine Stp.go ?_))
  constructor
  go_wp2_with (
    first
    | (go_at_call 8
       refine (unhide (P8 _ (unhide M).first)).mono ?_
       rintro e W5 ⟨rfl, K5⟩
       replace M : Hid (Mm w W5 [(b1, 28, u8s s), (b2, 26, vwC zv), (b4, 26, vwC v)]) := hide ((unhide M).step K5)
       clear K5
       refine Stp.go ?_))
  constructor
  go_wp2_with (
    first
    | (refine wpNew row28 (u8s (zs 64)) (zl 64) zero28 5 rfl rfl rfl (.tmp 12) rfl rfl rfl (u8s q) (by rw [u8s_len]; exact hq) (u8s_one _) (by kernel_rfl) (by kernel_rfl) ?_
       intro W6 b6 e6 B6 K6
       replace M : Hid (Mm w W6 [(b1, 28, u8s s), (b2, 26, vwC zv), (b4, 26, vwC v), (b6, 28, u8s q)]) := hide ((unhide M).new e6 B6 K6)
       clear e6 B6 K6
       refine Stp.go ?_))
  constructor
  go_wp2_with (
    first
    | (refine wpStoreM row26 rfl (.tmp 2) (.tmp 21) rfl rfl b2 1 (vwC zv) rfl rfl rfl (vwC_one _) (unhide M) rfl rfl ?_
       intro W7 N7
       replace M : Hid (Mm w W7 [(b1, 28, u8s s), (b2, 26, vwC zv), (b4, 26, vwC v), (b6, 28, u8s q)]) := hide N7
       clear N7
       refine Stp.go ?_))
  constructor
  go_wp2_with fail
  refine bodyPost_ret (res9 _ b2 (vwC zv) 12 _ rfl rfl rfl ((unhide M).at 1 _ rfl)) rfl ?_
  exact ⟨rfl, (unhide M).kept⟩
theorem get_zero (w : World) (hF : First w) : Calls Tryd.prog 9 #[aggV (u8s (zs 64))] w fun x w' => x = .returned (two (fv, 0)) ∧ Kept [] w w' :=
  get_a (zs 64) (zs 64) fv 0 w hF (by simp [zs]) (by simp [zs]) rfl (fun W hW => viewin_z (zs 64) W hW (by simp [zs]) (by simp)) (fun W hW => put_b fv W hW rfl rfl (by simp)) rfl (by simp)
theorem put_zero (w : World) (hF : First w) : Calls Tryd.prog 8 #[aggV (vwC zv)] w fun e w' => e = .returned (.tuple #[aggV (u8s (zs 64)), .int .i64 2]) ∧ Kept [] w w' := put_a zv w hF rfl rfl

end Go.Proofs.YtbpnnbbinhdoiaaDoor
