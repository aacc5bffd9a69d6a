/-
  What is kept in mind beside the document's device; its swap.
-/
import Derived.Test.YtcfflbafclmheaaGreatDoorCv

/-
  The document's View and Lease.
-/
namespace Go.Proofs.YtcfflbafclmheaaGreatDoor
set_option maxRecDepth 100000
set_option linter.unusedSimpArgs false
open Go.RowKit
open Le (Mm wpStoreM wpStoreM1)


theorem res14 (w : World) (z : Nat) (vs : List Value) (e : Int) (tmps : Array Value) (h4 : tmps[4]?.getD undef = P0 z) (h5 : tmps[5]?.getD undef = .int .i64 e) (hl : vs.length = 19) (hb : Blk w z 29 vs) : (results Tryz.f14 tmps).run Tryz.prog w = .ok (.tuple #[aggV vs, .int .i64 e]) w := by
  have := loadV Vi.row26 hl hb
  simp [results, Tryz.results14, h4, h5, this, asAddr]
theorem res42 (w : World) (z : Nat) (vs : List Value) (e : Int) (tmps : Array Value) (h4 : tmps[6]?.getD undef = P0 z) (h5 : tmps[7]?.getD undef = .int .i64 e) (hl : vs.length = 3) (hb : Blk w z 73 vs) : (results Tryz.f42 tmps).run Tryz.prog w = .ok (.tuple #[aggV vs, .int .i64 e]) w := by
  have := loadV Le.row23 hl hb
  simp [results, Tryz.results42, h4, h5, this, asAddr]
theorem getV_two (s : List Int) : (Vi.getV s).2 = 0 ∨ Vi.getV s = (Vi.zv, 12) := by
  unfold Vi.getV
  split
  · exact Or.inl rfl
  · split
    · exact Or.inl rfl
    · exact Or.inr rfl
theorem getL_two (s : List Int) : (Le.getL s).2 = 0 ∨ Le.getL s = (Le.le0, 12) := by
  unfold Le.getL
  split
  · exact Or.inl rfl
  · exact Or.inr rfl
theorem read0 {D : Dv.Dev} (h : D.Ok) : (D.read 0).1 = D.S.getD 0 Dv.nought := by
  unfold Dv.Dev.read
  rw [if_pos (by have := h.s0; simp [Dv.hasS]; omega)]
  rfl
theorem read_sec {D : Dv.Dev} (h : D.Ok) (x : Int) : Dv.Sec (D.read x).1 := by
  unfold Dv.Dev.read
  split
  · rw [List.getD_eq_getElem?_getD]
    cases hq : D.S[x.toNat]? with
    | none => exact Dv.nought_sec
    | some s => exact h.sec s (List.mem_of_getElem? hq)
  · exact Dv.nought_sec
set_option maxHeartbeats 4000000 in
theorem rview_y (r sg eg : Nat) (D : Dv.Dev) (J : Ar.Job) (w : World) (h : Dv.Rv w r sg eg D) (V : Vi.Vw) (e : Int) (hV : Vi.getV (D.S.getD 0 Dv.nought) = (V, e)) (he : decide (e = 0) = true) : Calls Tryz.prog 14 #[P0 r, aggV (Ar.jobC J)] w fun x w' => x = .returned (.tuple #[aggV (Vi.vwC V), .int .i64 0]) ∧ Kept [] w w' := by
  have PR := hide (fun W (hk : Kept [] w W) => Dv.r_read r sg eg D 0 W (h.kept hk (by simp) (by simp) (by simp)))
  have h0 := read0 h.ok
  have hsec := read_sec h.ok 0
  rw [h0] at PR hsec
  obtain ⟨q, hq⟩ : ∃ q, q = (D.read 0).2 := ⟨_, rfl⟩
  rw [← hq] at PR
  obtain ⟨s, hs⟩ : ∃ s, s = D.S.getD 0 Dv.nought := ⟨_, rfl⟩
  rw [← hs] at PR hsec hV
  have HSL : Hid ((u8s s).length = 64) := by show _ = _; rw [u8s_len]; exact hsec.1
  have hby : Vi.Byts 64 s := ⟨hsec.1, hsec.2⟩
  have PG := hide (fun W => rget49 s W hby)
  have hvl := (getV_ok s hby).len
  rw [hV] at PG hvl
  simp only [he] at PG
  have HVL : Hid ((Vi.vwC V).length = 19) := Vi.vwC_len hvl
  clear hq hs hsec hV hby hvl h0 h
  go_enter Tryz.func14, Tryz.ntmps14
  have M : Hid (Mm [] w w []) := hide Mm.init
  go_wp2_with (
    first
    | (refine wpBoxV rfl (.tmp 1) rfl (Ar.jobC J) rfl ?_
       intro W1 b1 e1 B1 K1
       replace M : Hid (Mm [] w W1 [(b1, 23, Ar.jobC J)]) := hide ((unhide M).new e1 B1 K1)
       clear e1 B1 K1
       refine Stp.go ?_))
  constructor
  go_wp2_with (
    first
    | (refine wpAllocW (Vi.vwC Vi.zv) Vi.zero26 4 rfl rfl rfl ?_
       intro W2 b2 e2 B2 K2
       replace M : Hid (Mm [] w W2 [(b1, 23, Ar.jobC J), (b2, 29, Vi.vwC Vi.zv)]) := hide ((unhide M).new e2 B2 K2)
       clear e2 B2 K2
       refine Stp.go ?_))
  constructor
  go_wp2_with (
    first
    | (go_at_call 48
       refine (unhide PR _ (unhide M).kept).mono ?_
       rintro e W3 ⟨rfl, K3⟩
       replace M : Hid (Mm [] w W3 [(b1, 23, Ar.jobC J), (b2, 29, Vi.vwC Vi.zv)]) := hide ((unhide M).step K3)
       clear K3
       refine Stp.go ?_))
  constructor
  go_wp2_with (
    first
    | (refine wpNew Vi.row28 (u8s (Vi.zs 64)) (Vi.zl 64) Vi.zero28 6 rfl rfl rfl (.tmp 13) rfl rfl rfl (u8s s) (unhide HSL) (u8s_one _) (by kernel_rfl) (by kernel_rfl) ?_
       intro W4 b4 e4 B4 K4
       replace M : Hid (Mm [] w W4 [(b1, 23, Ar.jobC J), (b2, 29, Vi.vwC Vi.zv), (b4, 59, u8s s)]) := hide ((unhide M).new e4 B4 K4)
       clear e4 B4 K4
       refine Stp.go ?_))
  constructor
  go_wp2_with (
    first
    | (refine wpLoadA Vi.row28 rfl (.tmp 6) rfl b4 0 rfl (u8s s) (unhide HSL) ((unhide M).at 2 _ rfl).range ?_
       refine Stp.go ?_))
  constructor
  go_wp2_with (
    first
    | (go_at_call 49
       refine (unhide PG _).mono ?_
       rintro e W5 ⟨rfl, K5⟩
       replace M : Hid (Mm [] w W5 [(b1, 23, Ar.jobC J), (b2, 29, Vi.vwC Vi.zv), (b4, 59, u8s s)]) := hide ((unhide M).step K5)
       clear K5
       refine Stp.go ?_))
  constructor
  go_wp2_with (
    first
    | (refine wpNew Vi.row26 (Vi.vwC Vi.zv) rfl Vi.zero26 8 rfl rfl rfl (.tmp 18) rfl rfl rfl (Vi.vwC V) (unhide HVL) (Vi.vwC_one _) (by kernel_rfl) (by kernel_rfl) ?_
       intro W6 b6 e6 B6 K6
       replace M : Hid (Mm [] w W6 [(b1, 23, Ar.jobC J), (b2, 29, Vi.vwC Vi.zv), (b4, 59, u8s s), (b6, 29, Vi.vwC V)]) := hide ((unhide M).new e6 B6 K6)
       clear e6 B6 K6
       refine Stp.go ?_))
  constructor
  go_wp2_with (
    first
    | (refine wpLoadA Vi.row26 rfl (.tmp 8) rfl b6 0 rfl (Vi.vwC V) (unhide HVL) ((unhide M).at 3 _ rfl).range ?_
       refine Stp.go ?_))
  constructor
  go_wp2_with (
    first
    | (refine wpStoreM Vi.row26 rfl (.tmp 4) (.tmp 23) rfl rfl b2 1 (Vi.vwC V) rfl rfl (unhide HVL) (Vi.vwC_one _) (unhide M) rfl rfl ?_
       intro W7 N7
       replace M : Hid (Mm [] w W7 [(b1, 23, Ar.jobC J), (b2, 29, Vi.vwC V), (b4, 59, u8s s), (b6, 29, Vi.vwC V)]) := hide N7
       clear N7
       refine Stp.go ?_))
  constructor
  go_wp2_with fail
  refine bodyPost_ret (res14 _ b2 (Vi.vwC V) 0 _ rfl rfl (unhide HVL) ((unhide M).at 1 _ rfl)) rfl ?_
  exact ⟨rfl, (unhide M).kept⟩
set_option maxHeartbeats 4000000 in
theorem rview_n (r sg eg : Nat) (D : Dv.Dev) (J : Ar.Job) (w : World) (h : Dv.Rv w r sg eg D) (V : Vi.Vw) (e : Int) (hV : Vi.getV (D.S.getD 0 Dv.nought) = (V, e)) (he : decide (e = 0) = false) : Calls Tryz.prog 14 #[P0 r, aggV (Ar.jobC J)] w fun x w' => x = .returned (.tuple #[aggV (Vi.vwC Vi.zv), .int .i64 12]) ∧ Kept [] w w' := by
  have PR := hide (fun W (hk : Kept [] w W) => Dv.r_read r sg eg D 0 W (h.kept hk (by simp) (by simp) (by simp)))
  have h0 := read0 h.ok
  have hsec := read_sec h.ok 0
  rw [h0] at PR hsec
  obtain ⟨q, hq⟩ : ∃ q, q = (D.read 0).2 := ⟨_, rfl⟩
  rw [← hq] at PR
  obtain ⟨s, hs⟩ : ∃ s, s = D.S.getD 0 Dv.nought := ⟨_, rfl⟩
  rw [← hs] at PR hsec hV
  have HSL : Hid ((u8s s).length = 64) := by show _ = _; rw [u8s_len]; exact hsec.1
  have hby : Vi.Byts 64 s := ⟨hsec.1, hsec.2⟩
  have PG := hide (fun W => rget49 s W hby)
  have hvl := (getV_ok s hby).len
  rw [hV] at PG hvl
  simp only [he] at PG
  have HVL : Hid ((Vi.vwC V).length = 19) := Vi.vwC_len hvl
  clear hq hs hsec hV hby hvl h0 h
  go_enter Tryz.func14, Tryz.ntmps14
  have M : Hid (Mm [] w w []) := hide Mm.init
  go_wp2_with (
    first
    | (refine wpBoxV rfl (.tmp 1) rfl (Ar.jobC J) rfl ?_
       intro W1 b1 e1 B1 K1
       replace M : Hid (Mm [] w W1 [(b1, 23, Ar.jobC J)]) := hide ((unhide M).new e1 B1 K1)
       clear e1 B1 K1
       refine Stp.go ?_))
  constructor
  go_wp2_with (
    first
    | (refine wpAllocW (Vi.vwC Vi.zv) Vi.zero26 4 rfl rfl rfl ?_
       intro W2 b2 e2 B2 K2
       replace M : Hid (Mm [] w W2 [(b1, 23, Ar.jobC J), (b2, 29, Vi.vwC Vi.zv)]) := hide ((unhide M).new e2 B2 K2)
       clear e2 B2 K2
       refine Stp.go ?_))
  constructor
  go_wp2_with (
    first
    | (go_at_call 48
       refine (unhide PR _ (unhide M).kept).mono ?_
       rintro e W3 ⟨rfl, K3⟩
       replace M : Hid (Mm [] w W3 [(b1, 23, Ar.jobC J), (b2, 29, Vi.vwC Vi.zv)]) := hide ((unhide M).step K3)
       clear K3
       refine Stp.go ?_))
  constructor
  go_wp2_with (
    first
    | (refine wpNew Vi.row28 (u8s (Vi.zs 64)) (Vi.zl 64) Vi.zero28 6 rfl rfl rfl (.tmp 13) rfl rfl rfl (u8s s) (unhide HSL) (u8s_one _) (by kernel_rfl) (by kernel_rfl) ?_
       intro W4 b4 e4 B4 K4
       replace M : Hid (Mm [] w W4 [(b1, 23, Ar.jobC J), (b2, 29, Vi.vwC Vi.zv), (b4, 59, u8s s)]) := hide ((unhide M).new e4 B4 K4)
       clear e4 B4 K4
       refine Stp.go ?_))
  constructor
  go_wp2_with (
    first
    | (refine wpLoadA Vi.row28 rfl (.tmp 6) rfl b4 0 rfl (u8s s) (unhide HSL) ((unhide M).at 2 _ rfl).range ?_
       refine Stp.go ?_))
  constructor
  go_wp2_with (
    first
    | (go_at_call 49
       refine (unhide PG _).mono ?_
       rintro e W5 ⟨rfl, K5⟩
       replace M : Hid (Mm [] w W5 [(b1, 23, Ar.jobC J), (b2, 29, Vi.vwC Vi.zv), (b4, 59, u8s s)]) := hide ((unhide M).step K5)
       clear K5
       refine Stp.go ?_))
  constructor
  go_wp2_with (
    first
    | (refine wpNew Vi.row26 (Vi.vwC Vi.zv) rfl Vi.zero26 8 rfl rfl rfl (.tmp 18) rfl rfl rfl (Vi.vwC V) (unhide HVL) (Vi.vwC_one _) (by kernel_rfl) (by kernel_rfl) ?_
       intro W6 b6 e6 B6 K6
       replace M : Hid (Mm [] w W6 [(b1, 23, Ar.jobC J), (b2, 29, Vi.vwC Vi.zv), (b4, 59, u8s s), (b6, 29, Vi.vwC V)]) := hide ((unhide M).new e6 B6 K6)
       clear e6 B6 K6
       refine Stp.go ?_))
  constructor
  go_wp2_with (
    first
    | (refine wpBuildZ (Vi.vwC Vi.zv) Vi.build26 rfl rfl ?_
       refine Stp.go ?_))
  constructor
  go_wp2_with (
    first
    | (refine wpStoreM Vi.row26 rfl (.tmp 4) (.tmp 22) rfl rfl b2 1 (Vi.vwC Vi.zv) rfl rfl rfl (Vi.vwC_one _) (unhide M) rfl rfl ?_
       intro W7 N7
       replace M : Hid (Mm [] w W7 [(b1, 23, Ar.jobC J), (b2, 29, Vi.vwC Vi.zv), (b4, 59, u8s s), (b6, 29, Vi.vwC V)]) := hide N7
       clear N7
       refine Stp.go ?_))
  constructor
  go_wp2_with fail
  refine bodyPost_ret (res14 _ b2 (Vi.vwC Vi.zv) 12 _ rfl rfl rfl ((unhide M).at 1 _ rfl)) rfl ?_
  exact ⟨rfl, (unhide M).kept⟩
theorem rview14 (r sg eg : Nat) (D : Dv.Dev) (J : Ar.Job) (w : World) (h : Dv.Rv w r sg eg D) : Calls Tryz.prog 14 #[P0 r, aggV (Ar.jobC J)] w fun x w' => x = .returned (.tuple #[aggV (Vi.vwC (oV D).1), .int .i64 (oV D).2]) ∧ Kept [] w w' := by
  unfold oV
  rcases getV_two (D.S.getD 0 Dv.nought) with h0 | h0
  · rw [h0]; exact rview_y r sg eg D J w h _ _ rfl (decide_eq_true h0)
  · rw [h0]; exact rview_n r sg eg D J w h _ _ h0 rfl
/-- What the document's Lease tells. -/
def rlease (D : Dv.Dev) (J : Ar.Job) (n : Int) : Le.Le × Int := if n < 0 ∨ J.n ≤ n then (Le.le0, 2) else Le.getL (D.read (1 + n)).1
set_option maxHeartbeats 4000000 in
theorem rlease_a (r : Nat) (J : Ar.Job) (n : Int) (w : World) (hd : decide (n < 0) = true) : Calls Tryz.prog 42 #[P0 r, aggV (Ar.jobC J), .int .i64 n] w fun x w' => x = .returned (.tuple #[aggV (Le.Le.C Le.le0), .int .i64 2]) ∧ Kept [] w w' := by
  go_enter Tryz.func42, Tryz.ntmps42
  have M : Hid (Mm [] w w []) := hide Mm.init
  go_wp2_with (
    first
    | (refine wpBoxV rfl (.tmp 1) rfl (Ar.jobC J) rfl ?_
       intro W1 b1 e1 B1 K1
       replace M : Hid (Mm [] w W1 [(b1, 23, Ar.jobC J)]) := hide ((unhide M).new e1 B1 K1)
       clear e1 B1 K1
       refine Stp.go ?_))
  constructor
  go_wp2_with (
    first
    | (refine wpAllocW (Le.Le.C Le.le0) Le.zero23 6 rfl rfl rfl ?_
       intro W2 b2 e2 B2 K2
       replace M : Hid (Mm [] w W2 [(b1, 23, Ar.jobC J), (b2, 73, Le.Le.C Le.le0)]) := hide ((unhide M).new e2 B2 K2)
       clear e2 B2 K2
       have f0 := fits_cell ((unhide M).at 0 _ rfl) 0 (.int .i64 J.n) rfl
       refine Stp.go ?_))
  constructor
  go_wp2_with (
    first
    | (refine wpBuildZ (T := 73) (Le.Le.C Le.le0) Le.build23 rfl rfl ?_
       refine Stp.go ?_))
  constructor
  go_wp2_with (
    first
    | (refine wpStoreM Le.row23 rfl (.tmp 6) (.tmp 20) rfl rfl b2 1 (Le.Le.C Le.le0) rfl rfl rfl (Le.leC_one _) (unhide M) rfl rfl ?_
       intro W3 N3
       replace M : Hid (Mm [] w W3 [(b1, 23, Ar.jobC J), (b2, 73, Le.Le.C Le.le0)]) := hide N3
       clear N3
       refine Stp.go ?_))
  constructor
  go_wp2_with fail
  refine bodyPost_ret (res42 _ b2 (Le.Le.C Le.le0) 2 _ rfl rfl rfl ((unhide M).at 1 _ rfl)) rfl ?_
  exact ⟨rfl, (unhide M).kept⟩
set_option maxHeartbeats 4000000 in
theorem rlease_b (r : Nat) (J : Ar.Job) (n : Int) (w : World) (hd : decide (n < 0) = false) (hd2 : decide (J.n ≤ n) = true) : Calls Tryz.prog 42 #[P0 r, aggV (Ar.jobC J), .int .i64 n] w fun x w' => x = .returned (.tuple #[aggV (Le.Le.C Le.le0), .int .i64 2]) ∧ Kept [] w w' := by
  go_enter Tryz.func42, Tryz.ntmps42
  have M : Hid (Mm [] w w []) := hide Mm.init
  go_wp2_with (
    first
    | (refine wpBoxV rfl (.tmp 1) rfl (Ar.jobC J) rfl ?_
       intro W1 b1 e1 B1 K1
       replace M : Hid (Mm [] w W1 [(b1, 23, Ar.jobC J)]) := hide ((unhide M).new e1 B1 K1)
       clear e1 B1 K1
       refine Stp.go ?_))
  constructor
  go_wp2_with (
    first
    | (refine wpAllocW (Le.Le.C Le.le0) Le.zero23 6 rfl rfl rfl ?_
       intro W2 b2 e2 B2 K2
       replace M : Hid (Mm [] w W2 [(b1, 23, Ar.jobC J), (b2, 73, Le.Le.C Le.le0)]) := hide ((unhide M).new e2 B2 K2)
       clear e2 B2 K2
       have f0 := fits_cell ((unhide M).at 0 _ rfl) 0 (.int .i64 J.n) rfl
       refine Stp.go ?_))
  constructor
  go_wp2_with (
    first
    | (refine wpBuildZ (T := 73) (Le.Le.C Le.le0) Le.build23 rfl rfl ?_
       refine Stp.go ?_))
  constructor
  go_wp2_with (
    first
    | (refine wpStoreM Le.row23 rfl (.tmp 6) (.tmp 20) rfl rfl b2 1 (Le.Le.C Le.le0) rfl rfl rfl (Le.leC_one _) (unhide M) rfl rfl ?_
       intro W3 N3
       replace M : Hid (Mm [] w W3 [(b1, 23, Ar.jobC J), (b2, 73, Le.Le.C Le.le0)]) := hide N3
       clear N3
       refine Stp.go ?_))
  constructor
  go_wp2_with fail
  refine bodyPost_ret (res42 _ b2 (Le.Le.C Le.le0) 2 _ rfl rfl rfl ((unhide M).at 1 _ rfl)) rfl ?_
  exact ⟨rfl, (unhide M).kept⟩
set_option maxHeartbeats 4000000 in
theorem rlease_y (r sg eg : Nat) (D : Dv.Dev) (J : Ar.Job) (n : Int) (w : World) (h : Dv.Rv w r sg eg D) (V : Le.Le) (e : Int) (hV : Le.getL (D.read (1 + n)).1 = (V, e)) (he : decide (e = 0) = true) (hd : decide (n < 0) = false) (hd2 : decide (J.n ≤ n) = false) (hn8 : n ≤ 8) : Calls Tryz.prog 42 #[P0 r, aggV (Ar.jobC J), .int .i64 n] w fun x w' => x = .returned (.tuple #[aggV (Le.Le.C V), .int .i64 0]) ∧ Kept [] w w' := by
  have hn0 : 0 ≤ n := by have := of_decide_eq_false hd; omega
  have PR := hide (fun W (hk : Kept [] w W) => Dv.r_read r sg eg D (1 + n) W (h.kept hk (by simp) (by simp) (by simp)))
  have hsec := read_sec h.ok (1 + n)
  obtain ⟨q, hq⟩ : ∃ q, q = (D.read (1 + n)).2 := ⟨_, rfl⟩
  rw [← hq] at PR
  obtain ⟨s, hs⟩ : ∃ s, s = (D.read (1 + n)).1 := ⟨_, rfl⟩
  rw [← hs] at PR hsec hV
  have HSL : Hid ((u8s s).length = 64) := by show _ = _; rw [u8s_len]; exact hsec.1
  have PG := hide (fun W => Le.rget102 s W ⟨hsec.1, hsec.2⟩)
  rw [hV] at PG
  simp only [he] at PG
  clear hq hs hsec hV h
  go_enter Tryz.func42, Tryz.ntmps42
  have M : Hid (Mm [] w w []) := hide Mm.init
  go_wp2_with (
    first
    | (refine wpBoxV rfl (.tmp 1) rfl (Ar.jobC J) rfl ?_
       intro W1 b1 e1 B1 K1
       replace M : Hid (Mm [] w W1 [(b1, 23, Ar.jobC J)]) := hide ((unhide M).new e1 B1 K1)
       clear e1 B1 K1
       refine Stp.go ?_))
  constructor
  go_wp2_with (
    first
    | (refine wpAllocW (Le.Le.C Le.le0) Le.zero23 6 rfl rfl rfl ?_
       intro W2 b2 e2 B2 K2
       replace M : Hid (Mm [] w W2 [(b1, 23, Ar.jobC J), (b2, 73, Le.Le.C Le.le0)]) := hide ((unhide M).new e2 B2 K2)
       clear e2 B2 K2
       have f0 := fits_cell ((unhide M).at 0 _ rfl) 0 (.int .i64 J.n) rfl
       refine Stp.go ?_))
  constructor
  go_wp2_with (
    first
    | (go_at_call 48
       refine (unhide PR _ (unhide M).kept).mono ?_
       rintro e W3 ⟨rfl, K3⟩
       replace M : Hid (Mm [] w W3 [(b1, 23, Ar.jobC J), (b2, 73, Le.Le.C Le.le0)]) := hide ((unhide M).step K3)
       clear K3
       clear f0
       refine Stp.go ?_))
  constructor
  go_wp2_with (
    first
    | (refine wpNew Vi.row28 (u8s (Vi.zs 64)) (Vi.zl 64) Vi.zero28 8 rfl rfl rfl (.tmp 26) rfl rfl rfl (u8s s) (unhide HSL) (u8s_one _) (by kernel_rfl) (by kernel_rfl) ?_
       intro W4 b4 e4 B4 K4
       replace M : Hid (Mm [] w W4 [(b1, 23, Ar.jobC J), (b2, 73, Le.Le.C Le.le0), (b4, 59, u8s s)]) := hide ((unhide M).new e4 B4 K4)
       clear e4 B4 K4
       refine Stp.go ?_))
  constructor
  go_wp2_with (
    first
    | (refine wpLoadA Vi.row28 rfl (.tmp 8) rfl b4 0 rfl (u8s s) (unhide HSL) ((unhide M).at 2 _ rfl).range ?_
       refine Stp.go ?_))
  constructor
  go_wp2_with (
    first
    | (go_at_call 102
       refine (unhide PG _).mono ?_
       rintro e W5 ⟨rfl, K5⟩
       replace M : Hid (Mm [] w W5 [(b1, 23, Ar.jobC J), (b2, 73, Le.Le.C Le.le0), (b4, 59, u8s s)]) := hide ((unhide M).step K5)
       clear K5
       refine Stp.go ?_))
  constructor
  go_wp2_with (
    first
    | (refine wpNew Le.row23 (Le.Le.C Le.le0) rfl Le.zero23 10 rfl rfl rfl (.tmp 31) rfl rfl rfl (Le.Le.C V) rfl (Le.leC_one _) (by kernel_rfl) (by kernel_rfl) ?_
       intro W6 b6 e6 B6 K6
       replace M : Hid (Mm [] w W6 [(b1, 23, Ar.jobC J), (b2, 73, Le.Le.C Le.le0), (b4, 59, u8s s), (b6, 73, Le.Le.C V)]) := hide ((unhide M).new e6 B6 K6)
       clear e6 B6 K6
       refine Stp.go ?_))
  constructor
  go_wp2_with (
    first
    | (refine wpLoadA Le.row23 rfl (.tmp 10) rfl b6 0 rfl (Le.Le.C V) rfl ((unhide M).at 3 _ rfl).range ?_
       refine Stp.go ?_))
  constructor
  go_wp2_with (
    first
    | (refine wpStoreM Le.row23 rfl (.tmp 6) (.tmp 36) rfl rfl b2 1 (Le.Le.C V) rfl rfl rfl (Le.leC_one _) (unhide M) rfl rfl ?_
       intro W7 N7
       replace M : Hid (Mm [] w W7 [(b1, 23, Ar.jobC J), (b2, 73, Le.Le.C V), (b4, 59, u8s s), (b6, 73, Le.Le.C V)]) := hide N7
       clear N7
       refine Stp.go ?_))
  constructor
  go_wp2_with fail
  refine bodyPost_ret (res42 _ b2 (Le.Le.C V) 0 _ rfl rfl rfl ((unhide M).at 1 _ rfl)) rfl ?_
  exact ⟨rfl, (unhide M).kept⟩
set_option maxHeartbeats 4000000 in
theorem rlease_n (r sg eg : Nat) (D : Dv.Dev) (J : Ar.Job) (n : Int) (w : World) (h : Dv.Rv w r sg eg D) (V : Le.Le) (e : Int) (hV : Le.getL (D.read (1 + n)).1 = (V, e)) (he : decide (e = 0) = false) (hd : decide (n < 0) = false) (hd2 : decide (J.n ≤ n) = false) (hn8 : n ≤ 8) : Calls Tryz.prog 42 #[P0 r, aggV (Ar.jobC J), .int .i64 n] w fun x w' => x = .returned (.tuple #[aggV (Le.Le.C Le.le0), .int .i64 12]) ∧ Kept [] w w' := by
  have hn0 : 0 ≤ n := by have := of_decide_eq_false hd; omega
  have PR := hide (fun W (hk : Kept [] w W) => Dv.r_read r sg eg D (1 + n) W (h.kept hk (by simp) (by simp) (by simp)))
  have hsec := read_sec h.ok (1 + n)
  obtain ⟨q, hq⟩ : ∃ q, q = (D.read (1 + n)).2 := ⟨_, rfl⟩
  rw [← hq] at PR
  obtain ⟨s, hs⟩ : ∃ s, s = (D.read (1 + n)).1 := ⟨_, rfl⟩
  rw [← hs] at PR hsec hV
  have HSL : Hid ((u8s s).length = 64) := by show _ = _; rw [u8s_len]; exact hsec.1
  have PG := hide (fun W => Le.rget102 s W ⟨hsec.1, hsec.2⟩)
  rw [hV] at PG
  simp only [he] at PG
  clear hq hs hsec hV h
  go_enter Tryz.func42, Tryz.ntmps42
  have M : Hid (Mm [] w w []) := hide Mm.init
  go_wp2_with (
    first
    | (refine wpBoxV rfl (.tmp 1) rfl (Ar.jobC J) rfl ?_
       intro W1 b1 e1 B1 K1
       replace M : Hid (Mm [] w W1 [(b1, 23, Ar.jobC J)]) := hide ((unhide M).new e1 B1 K1)
       clear e1 B1 K1
       refine Stp.go ?_))
  constructor
  go_wp2_with (
    first
    | (refine wpAllocW (Le.Le.C Le.le0) Le.zero23 6 rfl rfl rfl ?_
       intro W2 b2 e2 B2 K2
       replace M : Hid (Mm [] w W2 [(b1, 23, Ar.jobC J), (b2, 73, Le.Le.C Le.le0)]) := hide ((unhide M).new e2 B2 K2)
       clear e2 B2 K2
       have f0 := fits_cell ((unhide M).at 0 _ rfl) 0 (.int .i64 J.n) rfl
       refine Stp.go ?_))
  constructor
  go_wp2_with (
    first
    | (go_at_call 48
       refine (unhide PR _ (unhide M).kept).mono ?_
       rintro e W3 ⟨rfl, K3⟩
       replace M : Hid (Mm [] w W3 [(b1, 23, Ar.jobC J), (b2, 73, Le.Le.C Le.le0)]) := hide ((unhide M).step K3)
       clear K3
       clear f0
       refine Stp.go ?_))
  constructor
  go_wp2_with (
    first
    | (refine wpNew Vi.row28 (u8s (Vi.zs 64)) (Vi.zl 64) Vi.zero28 8 rfl rfl rfl (.tmp 26) rfl rfl rfl (u8s s) (unhide HSL) (u8s_one _) (by kernel_rfl) (by kernel_rfl) ?_
       intro W4 b4 e4 B4 K4
       replace M : Hid (Mm [] w W4 [(b1, 23, Ar.jobC J), (b2, 73, Le.Le.C Le.le0), (b4, 59, u8s s)]) := hide ((unhide M).new e4 B4 K4)
       clear e4 B4 K4
       refine Stp.go ?_))
  constructor
  go_wp2_with (
    first
    | (refine wpLoadA Vi.row28 rfl (.tmp 8) rfl b4 0 rfl (u8s s) (unhide HSL) ((unhide M).at 2 _ rfl).range ?_
       refine Stp.go ?_))
  constructor
  go_wp2_with (
    first
    | (go_at_call 102
       refine (unhide PG _).mono ?_
       rintro e W5 ⟨rfl, K5⟩
       replace M : Hid (Mm [] w W5 [(b1, 23, Ar.jobC J), (b2, 73, Le.Le.C Le.le0), (b4, 59, u8s s)]) := hide ((unhide M).step K5)
       clear K5
       refine Stp.go ?_))
  constructor
  go_wp2_with (
    first
    | (refine wpNew Le.row23 (Le.Le.C Le.le0) rfl Le.zero23 10 rfl rfl rfl (.tmp 31) rfl rfl rfl (Le.Le.C V) rfl (Le.leC_one _) (by kernel_rfl) (by kernel_rfl) ?_
       intro W6 b6 e6 B6 K6
       replace M : Hid (Mm [] w W6 [(b1, 23, Ar.jobC J), (b2, 73, Le.Le.C Le.le0), (b4, 59, u8s s), (b6, 73, Le.Le.C V)]) := hide ((unhide M).new e6 B6 K6)
       clear e6 B6 K6
       refine Stp.go ?_))
  constructor
  go_wp2_with (
    first
    | (refine wpBuildZ (T := 73) (Le.Le.C Le.le0) Le.build23 rfl rfl ?_
       refine Stp.go ?_))
  constructor
  go_wp2_with (
    first
    | (refine wpStoreM Le.row23 rfl (.tmp 6) (.tmp 35) rfl rfl b2 1 (Le.Le.C Le.le0) rfl rfl rfl (Le.leC_one _) (unhide M) rfl rfl ?_
       intro W7 N7
       replace M : Hid (Mm [] w W7 [(b1, 23, Ar.jobC J), (b2, 73, Le.Le.C Le.le0), (b4, 59, u8s s), (b6, 73, Le.Le.C V)]) := hide N7
       clear N7
       refine Stp.go ?_))
  constructor
  go_wp2_with fail
  refine bodyPost_ret (res42 _ b2 (Le.Le.C Le.le0) 12 _ rfl rfl rfl ((unhide M).at 1 _ rfl)) rfl ?_
  exact ⟨rfl, (unhide M).kept⟩
theorem rlease42 (r sg eg : Nat) (D : Dv.Dev) (J : Ar.Job) (n : Int) (w : World) (h : Dv.Rv w r sg eg D) (hJ : J.n ≤ 8) : Calls Tryz.prog 42 #[P0 r, aggV (Ar.jobC J), .int .i64 n] w fun x w' => x = .returned (.tuple #[aggV (Le.Le.C (rlease D J n).1), .int .i64 (rlease D J n).2]) ∧ Kept [] w w' := by
  unfold rlease
  by_cases h1 : n < 0
  · rw [if_pos (Or.inl h1)]; exact rlease_a r J n w (decide_eq_true h1)
  by_cases h2 : J.n ≤ n
  · rw [if_pos (Or.inr h2)]; exact rlease_b r J n w (decide_eq_false h1) (decide_eq_true h2)
  rw [if_neg (by omega)]
  rcases getL_two (D.read (1 + n)).1 with h0 | h0
  · rw [h0]; exact rlease_y r sg eg D J n w h _ _ rfl (decide_eq_true h0) (decide_eq_false h1) (decide_eq_false h2) (by omega)
  · rw [h0]; exact rlease_n r sg eg D J n w h _ _ h0 rfl (decide_eq_false h1) (decide_eq_false h2) (by omega)

end Go.Proofs.YtcfflbafclmheaaGreatDoor

/-
  What is kept in mind beside the document's device; its swap.
-/
namespace Go.Proofs.YtcfflbafclmheaaGreatDoor
set_option maxRecDepth 100000
set_option linter.unusedSimpArgs false
open Go.RowKit
open Le (Mm wpStoreM wpStoreM1)


/-- What is kept in mind beside the document's device: blocks made since. -/
structure Ph (r sg eg : Nat) (D : Dv.Dev) (w W : World) (bs : List (Nat × Nat × List Value)) : Prop where
  kept : Kept [r, sg, eg] w W
  rv : Dv.Rv W r sg eg D
  blk : ∀ x ∈ bs, Blk W x.1 x.2.1 x.2.2
  own : ∀ x ∈ bs, w.heap.size ≤ x.1
  nd : (bs.map (·.1)).Nodup
  ne : ∀ x ∈ bs, x.1 ∉ [r, sg, eg]
section
variable {r sg eg : Nat} {D D' : Dv.Dev} {w W W' : World} {bs : List (Nat × Nat × List Value)}
theorem Ph.init (h : Dv.Rv w r sg eg D) : Ph r sg eg D w w [] := ⟨Kept.refl _ _, h, (fun x hx => by cases hx), (fun x hx => by cases hx), List.nodup_nil, (fun x hx => by cases hx)⟩
theorem Ph.step (h : Ph r sg eg D w W bs) (hk : Kept [] W W') : Ph r sg eg D w W' bs :=
  ⟨h.kept.trans (hk.mono (by simp)), h.rv.kept hk (by simp) (by simp) (by simp), fun x hx => (h.blk x hx).kept hk (by simp), h.own, h.nd, h.ne⟩
theorem Ph.at (h : Ph r sg eg D w W bs) (i : Nat) (x : Nat × Nat × List Value) (hx : bs[i]? = some x) : Blk W x.1 x.2.1 x.2.2 := h.blk x (List.mem_of_getElem? hx)
theorem Ph.new {b T : Nat} {vs : List Value} (h : Ph r sg eg D w W bs) (hb : b = W.heap.size) (B : Blk W' b T vs) (K : Kept [] W W') : Ph r sg eg D w W' (bs ++ [(b, T, vs)]) := by
  have h' := h.step K
  have hlt := h.rv.lt
  have hs := h.kept.size
  refine ⟨h'.kept, h'.rv, ?_, ?_, ?_, ?_⟩
  · intro x hx
    rcases List.mem_append.1 hx with hx | hx
    · exact h'.blk x hx
    · simp at hx; subst hx; exact B
  · intro x hx
    rcases List.mem_append.1 hx with hx | hx
    · exact h.own x hx
    · simp at hx; subst hx; rw [hb]; exact hs
  · rw [List.map_append, List.nodup_append]
    refine ⟨h.nd, by simp, ?_⟩
    intro a ha c hc
    simp at hc
    subst hc
    obtain ⟨x, hx, rfl⟩ := List.mem_map.1 ha
    have := (h.blk x hx).lt
    omega
  · intro x hx
    rcases List.mem_append.1 hx with hx | hx
    · exact h.ne x hx
    · simp at hx; subst hx; simp; omega
theorem Ph.dev {Y : List Nat} (h : Ph r sg eg D w W bs) (k : Kept Y W W') (hY : Y ⊆ [r, sg, eg]) (hr : Dv.Rv W' r sg eg D') : Ph r sg eg D' w W' bs :=
  ⟨h.kept.trans (k.mono hY), hr, fun x hx => (h.blk x hx).kept k (fun hm => h.ne x hx (hY hm)), h.own, h.nd, h.ne⟩
theorem Ph.mm (h : Ph r sg eg D w W bs) : Mm (bs.map (·.1)) W W bs := ⟨Kept.refl _ _, h.blk, (fun x hx _ => List.mem_map.2 ⟨x, hx, rfl⟩), h.nd⟩
theorem Ph.upd {cs : List (Nat × Nat × List Value)} (h : Ph r sg eg D w W bs) (m : Mm (bs.map (·.1)) W W' cs) (e : cs.map (·.1) = bs.map (·.1)) : Ph r sg eg D w W' cs := by
  have hn : ∀ q ∈ [r, sg, eg], q ∉ bs.map (·.1) := fun q hq hm => by
    obtain ⟨x, hx, rfl⟩ := List.mem_map.1 hm
    exact h.ne x hx hq
  have hmem : ∀ x ∈ cs, ∃ y ∈ bs, y.1 = x.1 := fun x hx => by
    have : x.1 ∈ bs.map (·.1) := by rw [← e]; exact List.mem_map.2 ⟨x, hx, rfl⟩
    obtain ⟨y, hy, h9⟩ := List.mem_map.1 this
    exact ⟨y, hy, h9⟩
  refine ⟨h.kept.fresh m.kept (fun k hk hl => ?_), h.rv.kept m.kept (hn r (by simp)) (hn sg (by simp)) (hn eg (by simp)), m.blk, ?_, by rw [e]; exact h.nd, ?_⟩
  · obtain ⟨x, hx, rfl⟩ := List.mem_map.1 hk
    have := h.own x hx
    omega
  · intro x hx
    obtain ⟨y, hy, h9⟩ := hmem x hx
    rw [← h9]; exact h.own y hy
  · intro x hx
    obtain ⟨y, hy, h9⟩ := hmem x hx
    rw [← h9]; exact h.ne y hy
theorem set_fst {b T : Nat} {us vs : List Value} (i : Nat) (hi : bs[i]? = some (b, T, us)) : (bs.set i (b, T, vs)).map (·.1) = bs.map (·.1) := by
  rw [List.map_set]
  refine List.ext_getElem? fun j => ?_
  rw [List.getElem?_set]
  split
  · rename_i hj
    subst hj
    split
    · rw [List.getElem?_map, hi]; rfl
    · rename_i hl
      rw [List.getElem?_eq_none (by omega)]
  · rfl
end
section
variable {ops : Array Oper} {rest : List Oper} {op : Oper} {a : Act} {w w0 : World} {Q : Exit → Act → World → Prop} {bs : List (Nat × Nat × List Value)} {r sg eg : Nat} {D : Dv.Dev}
theorem wpStoreP {T n : Nat} (hT : Row T n) (hgd : op.guard = none) (x y : Operand) (ho : op.op = .store T x y) (hd : op.dst = none) (b i : Nat) (vs : List Value) (hx : a.eval x = P0 b) (hy : a.eval y = aggV vs) (hl : vs.length = n) (h1 : ∀ v ∈ vs, v.oneCell' = true) (hM : Ph r sg eg D w0 w bs) {us : List Value} (hi : bs[i]? = some (b, T, us)) (hu : us.length = n)
    (h : ∀ W, Ph r sg eg D w0 W (bs.set i (b, T, vs)) → wpList Tryz.prog ops Q rest a W) : wpList Tryz.prog ops Q (op :: rest) a w :=
  wpStoreM hT hgd x y ho hd b i vs hx hy hl h1 hM.mm hi hu fun W m => h W (hM.upd m (set_fst i hi))
theorem wpStoreP1 {T : Nat} (hs : (Tryz.prog.info? T).map (·.size) = some 1) (hgd : op.guard = none) (x y : Operand) (ho : op.op = .store T x y) (hd : op.dst = none) (b off i : Nat) (v : Value) (h1 : Le.One v) (hx : a.eval x = .pointer (some ⟨b, off, none⟩)) (hy : a.eval y = v) (hM : Ph r sg eg D w0 w bs) {TT : Nat} {us : List Value} (hi : bs[i]? = some (b, TT, us)) (hl : off < us.length)
    (h : ∀ W, Ph r sg eg D w0 W (bs.set i (b, TT, us.set off v)) → wpList Tryz.prog ops Q rest a W) : wpList Tryz.prog ops Q (op :: rest) a w :=
  wpStoreM1 hs hgd x y ho hd b off i v h1 hx hy hM.mm hi hl fun W m => h W (hM.upd m (set_fst i hi))
end
theorem cg143 (vs : Array Value) (w : World) : (callFunc 143 vs).run Tryz.prog w = .ok (.enter 143 vs) w := by kernel_rfl
theorem res97 (w : World) (z : Nat) (vs : List Value) (b : Bool) (e : Int) (tmps : Array Value) (h4 : tmps[12]?.getD undef = P0 z) (h5 : tmps[13]?.getD undef = .bool b) (h6 : tmps[14]?.getD undef = .int .i64 e) (hl : vs.length = 19) (hb : Blk w z 29 vs) : (results Tryz.f97 tmps).run Tryz.prog w = .ok (.tuple #[aggV vs, .bool b, .int .i64 e]) w := by
  have := loadV Vi.row26 hl hb
  simp [results, Tryz.results97, h4, h5, h6, this, asAddr]
@[reducible] def SW (V : World) (r sg eg : Nat) (D' : Dv.Dev) (d : Nat → Bool) (_ : Nat → Value) (W : World) : Prop :=
  Kept [r, sg, eg] V W ∧ (d 7 = false → Kept [] V W) ∧ (d 7 = true → Dv.Rv W r sg eg D')
theorem SW.loc {V : World} {r sg eg : Nat} {D' : Dv.Dev} : ∀ d d' vs vs' W, (∀ i ∈ [7], d i = d' i ∧ vs i = vs' i) → SW V r sg eg D' d vs W → SW V r sg eg D' d' vs' W := by
  intro d d' vs vs' W H h
  have e0 := H 7 (by simp)
  unfold SW at h ⊢
  rw [← e0.1]
  exact h
theorem SW.step {V W W' : World} {r sg eg : Nat} {D' : Dv.Dev} {d : Nat → Bool} {vs : Nat → Value} (h : SW V r sg eg D' d vs W) (hk : Kept [] W W') : SW V r sg eg D' d vs W' :=
  ⟨h.1.trans (hk.mono (by simp)), fun h7 => (h.2.1 h7).trans hk, fun h7 => (h.2.2 h7).kept hk (by simp) (by simp) (by simp)⟩
set_option maxHeartbeats 8000000 in
theorem rswap_e (r sg eg : Nat) (D : Dv.Dev) (J : Ar.Job) (n ep : Int) (v u : Vi.Vw) (w : World) (h : Dv.Rv w r sg eg D) (hv : v.Ok) (hu : u.Ok) (hvm : v.may = true) (hum : u.may = true) (dd : Bool) (ee : Int) (D2 : Dv.Dev) (hsw : D.swap n ep 0 (Vi.putV v).1 (Vi.putV u).1 = (dd, ee, D2)) (he : decide (ee = 0) = false) : Calls Tryz.prog 97 #[P0 r, aggV (Ar.jobC J), .int .i64 n, .int .i64 ep, aggV (Vi.vwC v), aggV (Vi.vwC u)] w fun x w' => x = .returned (.tuple #[aggV (Vi.vwC Vi.zv), .bool false, .int .i64 ee]) ∧ Dv.Rv w' r sg eg D2 ∧ Kept [r, sg, eg] w w' := by
  have HVL : Hid ((Vi.vwC v).length = 19) := Vi.vwC_len hv.len
  have HUL : Hid ((Vi.vwC u).length = 19) := Vi.vwC_len hu.len
  have PA := hide (fun W => rput113 v W hv hvm)
  have PB := hide (fun W => rput113 u W hu hum)
  have hA := putV_sec v hv.len
  have hB := putV_sec u hu.len
  have PS := hide (fun W (h0 : Dv.Rv W r sg eg D) => Dv.r_swap r sg eg D n ep 0 _ _ W h0 hA hB)
  obtain ⟨A, hA9⟩ : ∃ A, A = (Vi.putV v).1 := ⟨_, rfl⟩
  obtain ⟨B, hB9⟩ : ∃ B, B = (Vi.putV u).1 := ⟨_, rfl⟩
  rw [← hA9, ← hB9] at hsw PS
  rw [← hA9] at PA
  rw [← hB9] at PB
  rw [hsw] at PS
  have he2 : ¬ ee = 0 := of_decide_eq_false he
  clear hsw hA hB hA9 hB9 hvm hum hv hu
  have M : Hid (Ph r sg eg D w w []) := hide (Ph.init h)
  clear h
  go_enter Tryz.func97, Tryz.ntmps97
  go_wp2_with (
    first
    | (refine wpBoxV rfl (.tmp 1) rfl (Ar.jobC J) rfl ?_
       intro W1 b1 e1 B1 K1
       replace M : Hid (Ph r sg eg D w W1 [(b1, 23, Ar.jobC J)]) := hide ((unhide M).new e1 B1 K1)
       clear e1 B1 K1
       refine Stp.go ?_))
  constructor
  go_wp2_with (
    first
    | (refine wpBoxV rfl (.tmp 4) rfl (Vi.vwC v) rfl ?_
       intro W2 b2 e2 B2 K2
       replace M : Hid (Ph r sg eg D w W2 [(b1, 23, Ar.jobC J), (b2, 29, Vi.vwC v)]) := hide ((unhide M).new e2 B2 K2)
       clear e2 B2 K2
       refine Stp.go ?_))
  constructor
  go_wp2_with (
    first
    | (refine wpBoxV rfl (.tmp 5) rfl (Vi.vwC u) rfl ?_
       intro W3 b3 e3 B3 K3
       replace M : Hid (Ph r sg eg D w W3 [(b1, 23, Ar.jobC J), (b2, 29, Vi.vwC v), (b3, 29, Vi.vwC u)]) := hide ((unhide M).new e3 B3 K3)
       clear e3 B3 K3
       refine Stp.go ?_))
  constructor
  go_wp2_with (
    first
    | (refine wpAllocW (Vi.vwC Vi.zv) Vi.zero26 12 rfl rfl rfl ?_
       intro W4 b4 e4 B4 K4
       replace M : Hid (Ph r sg eg D w W4 [(b1, 23, Ar.jobC J), (b2, 29, Vi.vwC v), (b3, 29, Vi.vwC u), (b4, 29, Vi.vwC Vi.zv)]) := hide ((unhide M).new e4 B4 K4)
       clear e4 B4 K4
       refine Stp.go ?_))
  constructor
  go_wp2_with fail
  refine wp_region_any mixed (wpAny_gx 13 rfl (by kernel_rfl) [some (P0 r), some (.int .i64 n), some (.int .i64 ep), some (aggV (Vi.vwC v)), some (aggV (u8s A)), some (aggV (Vi.vwC u)), some (aggV (u8s B)), some (.tuple #[.bool dd, .int .i64 ee]), some (.tuple #[.bool dd, .int .i64 ee]), some (.bool dd), some (.int .i64 ee), some (.bool dd), some (.int .i64 ee)] rfl (by kernel_rfl) (fun l vs W => (SW W4 r sg eg D2) (fun i => l.getD i false) vs W) (⟨⟨rfl, rfl, rfl, Nat.le_refl _, fun _ _ _ => rfl⟩, (fun _ => ⟨rfl, rfl, rfl, Nat.le_refl _, fun _ _ _ => rfl⟩), (fun h => by cases h)⟩) ?_ ?_)
  · intro ix o' hi ho a' w2 l_ vs hls hlf hJ hout hin hdep hnot
    match ix, ho with
    | 0, ho =>
      obtain rfl := Option.some.inj ho
      have e0 := hout 0 (by kernel_rfl)
      replace e0 : a'.eval (.tmp 0) = _ := e0.trans rfl
      exact wp_move (.tmp 0) rfl _ e0 ⟨_, rfl, told_of rfl, Le.keepG (St := (SW W4 r sg eg D2)) [7] SW.loc (by omega) (by decide) hJ⟩
    | 1, ho =>
      obtain rfl := Option.some.inj ho
      have e0 := hout 2 (by kernel_rfl)
      replace e0 : a'.eval (.tmp 2) = _ := e0.trans rfl
      exact wp_move (.tmp 2) rfl _ e0 ⟨_, rfl, told_of rfl, Le.keepG (St := (SW W4 r sg eg D2)) [7] SW.loc (by omega) (by decide) hJ⟩
    | 2, ho =>
      obtain rfl := Option.some.inj ho
      have e0 := hout 3 (by kernel_rfl)
      replace e0 : a'.eval (.tmp 3) = _ := e0.trans rfl
      exact wp_move (.tmp 3) rfl _ e0 ⟨_, rfl, told_of rfl, Le.keepG (St := (SW W4 r sg eg D2)) [7] SW.loc (by omega) (by decide) hJ⟩
    | 3, ho =>
      obtain rfl := Option.some.inj ho
      have e0 := hout 10 (by kernel_rfl)
      replace e0 : a'.eval (.tmp 10) = _ := e0.trans rfl
      exact wp_loadA Vi.row26 (.tmp 10) rfl b2 0 e0 (Vi.vwC v) (unhide HVL) (((unhide M).at 1 _ rfl).kept hJ.1 ((unhide M).ne (b2, 29, Vi.vwC v) (by simp))).range ⟨_, rfl, told_of rfl, Le.keepG (St := (SW W4 r sg eg D2)) [7] SW.loc (by omega) (by decide) hJ⟩
    | 4, ho =>
      obtain rfl := Option.some.inj ho
      have e0 : a'.eval (.tmp 22) = aggV (Vi.vwC v) := by have h9 := hin 3 22 (by kernel_rfl) (by kernel_rfl); exact h9.1.trans (told_is _ h9.2 rfl)
      refine wp_callF 113 _ _ rfl #[aggV (Vi.vwC v)] (by simp [e0]) (cg113 _ _) ((unhide PA w2).mono ?_)
      rintro e w3 ⟨rfl, hk3⟩
      exact ⟨_, rfl, _, rfl, told_of rfl, Le.keepG (St := (SW W4 r sg eg D2)) [7] SW.loc (by omega) (by decide) (SW.step hJ hk3)⟩
    | 5, ho =>
      obtain rfl := Option.some.inj ho
      have e0 := hout 11 (by kernel_rfl)
      replace e0 : a'.eval (.tmp 11) = _ := e0.trans rfl
      exact wp_loadA Vi.row26 (.tmp 11) rfl b3 0 e0 (Vi.vwC u) (unhide HUL) (((unhide M).at 2 _ rfl).kept hJ.1 ((unhide M).ne (b3, 29, Vi.vwC u) (by simp))).range ⟨_, rfl, told_of rfl, Le.keepG (St := (SW W4 r sg eg D2)) [7] SW.loc (by omega) (by decide) hJ⟩
    | 6, ho =>
      obtain rfl := Option.some.inj ho
      have e0 : a'.eval (.tmp 24) = aggV (Vi.vwC u) := by have h9 := hin 5 24 (by kernel_rfl) (by kernel_rfl); exact h9.1.trans (told_is _ h9.2 rfl)
      refine wp_callF 113 _ _ rfl #[aggV (Vi.vwC u)] (by simp [e0]) (cg113 _ _) ((unhide PB w2).mono ?_)
      rintro e w3 ⟨rfl, hk3⟩
      exact ⟨_, rfl, _, rfl, told_of rfl, Le.keepG (St := (SW W4 r sg eg D2)) [7] SW.loc (by omega) (by decide) (SW.step hJ hk3)⟩
    | 7, ho =>
      obtain rfl := Option.some.inj ho
      have e0 : a'.eval (.tmp 19) = P0 r := by have h9 := hin 0 19 (by kernel_rfl) (by kernel_rfl); exact h9.1.trans (told_is _ h9.2 rfl)
      have e1 : a'.eval (.tmp 20) = .int .i64 n := by have h9 := hin 1 20 (by kernel_rfl) (by kernel_rfl); exact h9.1.trans (told_is _ h9.2 rfl)
      have e2 : a'.eval (.tmp 21) = .int .i64 ep := by have h9 := hin 2 21 (by kernel_rfl) (by kernel_rfl); exact h9.1.trans (told_is _ h9.2 rfl)
      have e3 : a'.eval (.tmp 23) = aggV (u8s A) := by have h9 := hin 4 23 (by kernel_rfl) (by kernel_rfl); exact h9.1.trans (told_is _ h9.2 rfl)
      have e4 : a'.eval (.tmp 25) = aggV (u8s B) := by have h9 := hin 6 25 (by kernel_rfl) (by kernel_rfl); exact h9.1.trans (told_is _ h9.2 rfl)
      refine wp_callF 143 _ _ rfl #[P0 r, .int .i64 n, .int .i64 ep, .int .i64 0, aggV (u8s A), aggV (u8s B)] (by simp [e0, e1, e2, e3, e4]; rfl) (cg143 _ _) ((unhide PS w2 ((unhide M).step (hJ.2.1 hlf)).rv).mono ?_)
      rintro e w3 ⟨rfl, hR3, hk3⟩
      exact ⟨_, rfl, _, rfl, told_of rfl, Le.nextG (St := (SW W4 r sg eg D2)) (by omega) ⟨hJ.1.trans (hk3.mono (by simp)), (fun h => by cases h), fun _ => hR3⟩⟩
    | 8, ho =>
      obtain rfl := Option.some.inj ho
      have e0 : a'.eval (.tmp 26) = .tuple #[.bool dd, .int .i64 ee] := by have h9 := hin 7 26 (by kernel_rfl) (by kernel_rfl); exact h9.1.trans (told_is _ h9.2 rfl)
      exact wp_move (.tmp 26) rfl _ e0 ⟨_, rfl, told_of rfl, Le.keepG (St := (SW W4 r sg eg D2)) [7] SW.loc (by omega) (by decide) hJ⟩
    | 9, ho =>
      obtain rfl := Option.some.inj ho
      have e0 : a'.eval (.tmp 18) = .tuple #[.bool dd, .int .i64 ee] := by have h9 := hin 8 18 (by kernel_rfl) (by kernel_rfl); exact h9.1.trans (told_is _ h9.2 rfl)
      exact o_ext (.tmp 18) 0 rfl _ _ e0 rfl ⟨_, rfl, told_of rfl, Le.keepG (St := (SW W4 r sg eg D2)) [7] SW.loc (by omega) (by decide) hJ⟩
    | 10, ho =>
      obtain rfl := Option.some.inj ho
      have e0 : a'.eval (.tmp 18) = .tuple #[.bool dd, .int .i64 ee] := by have h9 := hin 8 18 (by kernel_rfl) (by kernel_rfl); exact h9.1.trans (told_is _ h9.2 rfl)
      exact o_ext (.tmp 18) 1 rfl _ _ e0 rfl ⟨_, rfl, told_of rfl, Le.keepG (St := (SW W4 r sg eg D2)) [7] SW.loc (by omega) (by decide) hJ⟩
    | 11, ho =>
      obtain rfl := Option.some.inj ho
      have e0 : a'.eval (.tmp 27) = .bool dd := by have h9 := hin 9 27 (by kernel_rfl) (by kernel_rfl); exact h9.1.trans (told_is _ h9.2 rfl)
      exact wp_assignV (.tmp 27) rfl _ e0 ⟨_, rfl, told_of rfl, Le.keepG (St := (SW W4 r sg eg D2)) [7] SW.loc (by omega) (by decide) hJ⟩
    | 12, ho =>
      obtain rfl := Option.some.inj ho
      have e0 : a'.eval (.tmp 28) = .int .i64 ee := by have h9 := hin 10 28 (by kernel_rfl) (by kernel_rfl); exact h9.1.trans (told_is _ h9.2 rfl)
      exact wp_assignV (.tmp 28) rfl _ e0 ⟨_, rfl, told_of rfl, Le.keepG (St := (SW W4 r sg eg D2)) [7] SW.loc (by omega) (by decide) hJ⟩
  intro l_ vs9 V9 hl hJ htold
  have t0 : vs9 0 = P0 r := told_is _ (htold 0 (by decide)) rfl
  have t1 : vs9 1 = .int .i64 n := told_is _ (htold 1 (by decide)) rfl
  have t2 : vs9 2 = .int .i64 ep := told_is _ (htold 2 (by decide)) rfl
  have t3 : vs9 3 = aggV (Vi.vwC v) := told_is _ (htold 3 (by decide)) rfl
  have t4 : vs9 4 = aggV (u8s A) := told_is _ (htold 4 (by decide)) rfl
  have t5 : vs9 5 = aggV (Vi.vwC u) := told_is _ (htold 5 (by decide)) rfl
  have t6 : vs9 6 = aggV (u8s B) := told_is _ (htold 6 (by decide)) rfl
  have t7 : vs9 7 = .tuple #[.bool dd, .int .i64 ee] := told_is _ (htold 7 (by decide)) rfl
  have t8 : vs9 8 = .tuple #[.bool dd, .int .i64 ee] := told_is _ (htold 8 (by decide)) rfl
  have t9 : vs9 9 = .bool dd := told_is _ (htold 9 (by decide)) rfl
  have t10 : vs9 10 = .int .i64 ee := told_is _ (htold 10 (by decide)) rfl
  have t11 : vs9 11 = .bool dd := told_is _ (htold 11 (by decide)) rfl
  have t12 : vs9 12 = .int .i64 ee := told_is _ (htold 12 (by decide)) rfl
  rw [show (List.range 13).map vs9 = [vs9 0, vs9 1, vs9 2, vs9 3, vs9 4, vs9 5, vs9 6, vs9 7, vs9 8, vs9 9, vs9 10, vs9 11, vs9 12] from rfl]
  simp only [t0, t1, t2, t3, t4, t5, t6, t7, t8, t9, t10, t11, t12, putAll, Act.put, List.setIfInBounds_toArray, List.set_cons_succ, List.set_cons_zero]
  clear t0 t1 t2 t3 t4 t5 t6 t7 t8 t9 t10 t11 t12 htold
  replace M : Hid (Ph r sg eg D2 w V9 [(b1, 23, Ar.jobC J), (b2, 29, Vi.vwC v), (b3, 29, Vi.vwC u), (b4, 29, Vi.vwC Vi.zv)]) := hide ((unhide M).dev hJ.1 (fun _ h => h) (hJ.2.2 (hl 7 (by decide))))
  clear hJ hl
  go_wp2_with (
    first
    | (refine wpBuildZ (Vi.vwC Vi.zv) Vi.build26 rfl rfl ?_
       refine Stp.go ?_))
  constructor
  go_wp2_with (
    first
    | (refine wpStoreP Vi.row26 rfl (.tmp 12) (.tmp 31) rfl rfl b4 3 (Vi.vwC Vi.zv) rfl rfl rfl (Vi.vwC_one _) (unhide M) rfl rfl ?_
       intro W61 N61
       replace M : Hid (Ph r sg eg D2 w W61 [(b1, 23, Ar.jobC J), (b2, 29, Vi.vwC v), (b3, 29, Vi.vwC u), (b4, 29, Vi.vwC Vi.zv)]) := hide N61
       clear N61
       refine Stp.go ?_))
  constructor
  go_wp2_with fail
  refine bodyPost_ret (res97 _ b4 (Vi.vwC Vi.zv) false ee _ rfl rfl rfl rfl ((unhide M).at 3 _ rfl)) rfl ?_
  exact ⟨rfl, (unhide M).rv, (unhide M).kept⟩
set_option maxHeartbeats 8000000 in
theorem rswap_d (r sg eg : Nat) (D : Dv.Dev) (J : Ar.Job) (n ep : Int) (v u : Vi.Vw) (w : World) (h : Dv.Rv w r sg eg D) (hv : v.Ok) (hu : u.Ok) (hvm : v.may = true) (hum : u.may = true) (dd : Bool) (ee : Int) (D2 : Dv.Dev) (hsw : D.swap n ep 0 (Vi.putV v).1 (Vi.putV u).1 = (dd, ee, D2)) (he : ee = 0) (hd : dd = true) : Calls Tryz.prog 97 #[P0 r, aggV (Ar.jobC J), .int .i64 n, .int .i64 ep, aggV (Vi.vwC v), aggV (Vi.vwC u)] w fun x w' => x = .returned (.tuple #[aggV (Vi.vwC u), .bool true, .int .i64 0]) ∧ Dv.Rv w' r sg eg D2 ∧ Kept [r, sg, eg] w w' := by
  have HVL : Hid ((Vi.vwC v).length = 19) := Vi.vwC_len hv.len
  have HUL : Hid ((Vi.vwC u).length = 19) := Vi.vwC_len hu.len
  have PA := hide (fun W => rput113 v W hv hvm)
  have PB := hide (fun W => rput113 u W hu hum)
  have hA := putV_sec v hv.len
  have hB := putV_sec u hu.len
  have PS := hide (fun W (h0 : Dv.Rv W r sg eg D) => Dv.r_swap r sg eg D n ep 0 _ _ W h0 hA hB)
  obtain ⟨A, hA9⟩ : ∃ A, A = (Vi.putV v).1 := ⟨_, rfl⟩
  obtain ⟨B, hB9⟩ : ∃ B, B = (Vi.putV u).1 := ⟨_, rfl⟩
  rw [← hA9, ← hB9] at hsw PS
  rw [← hA9] at PA
  rw [← hB9] at PB
  rw [hsw] at PS
  have HED := hide (And.intro he hd)
  clear he hd
  clear hsw hA hB hA9 hB9 hvm hum hv hu
  have M : Hid (Ph r sg eg D w w []) := hide (Ph.init h)
  clear h
  go_enter Tryz.func97, Tryz.ntmps97
  go_wp2_with (
    first
    | (refine wpBoxV rfl (.tmp 1) rfl (Ar.jobC J) rfl ?_
       intro W1 b1 e1 B1 K1
       replace M : Hid (Ph r sg eg D w W1 [(b1, 23, Ar.jobC J)]) := hide ((unhide M).new e1 B1 K1)
       clear e1 B1 K1
       refine Stp.go ?_))
  constructor
  go_wp2_with (
    first
    | (refine wpBoxV rfl (.tmp 4) rfl (Vi.vwC v) rfl ?_
       intro W2 b2 e2 B2 K2
       replace M : Hid (Ph r sg eg D w W2 [(b1, 23, Ar.jobC J), (b2, 29, Vi.vwC v)]) := hide ((unhide M).new e2 B2 K2)
       clear e2 B2 K2
       refine Stp.go ?_))
  constructor
  go_wp2_with (
    first
    | (refine wpBoxV rfl (.tmp 5) rfl (Vi.vwC u) rfl ?_
       intro W3 b3 e3 B3 K3
       replace M : Hid (Ph r sg eg D w W3 [(b1, 23, Ar.jobC J), (b2, 29, Vi.vwC v), (b3, 29, Vi.vwC u)]) := hide ((unhide M).new e3 B3 K3)
       clear e3 B3 K3
       refine Stp.go ?_))
  constructor
  go_wp2_with (
    first
    | (refine wpAllocW (Vi.vwC Vi.zv) Vi.zero26 12 rfl rfl rfl ?_
       intro W4 b4 e4 B4 K4
       replace M : Hid (Ph r sg eg D w W4 [(b1, 23, Ar.jobC J), (b2, 29, Vi.vwC v), (b3, 29, Vi.vwC u), (b4, 29, Vi.vwC Vi.zv)]) := hide ((unhide M).new e4 B4 K4)
       clear e4 B4 K4
       refine Stp.go ?_))
  constructor
  go_wp2_with fail
  refine wp_region_any mixed (wpAny_gx 13 rfl (by kernel_rfl) [some (P0 r), some (.int .i64 n), some (.int .i64 ep), some (aggV (Vi.vwC v)), some (aggV (u8s A)), some (aggV (Vi.vwC u)), some (aggV (u8s B)), some (.tuple #[.bool dd, .int .i64 ee]), some (.tuple #[.bool dd, .int .i64 ee]), some (.bool dd), some (.int .i64 ee), some (.bool dd), some (.int .i64 ee)] rfl (by kernel_rfl) (fun l vs W => (SW W4 r sg eg D2) (fun i => l.getD i false) vs W) (⟨⟨rfl, rfl, rfl, Nat.le_refl _, fun _ _ _ => rfl⟩, (fun _ => ⟨rfl, rfl, rfl, Nat.le_refl _, fun _ _ _ => rfl⟩), (fun h => by cases h)⟩) ?_ ?_)
  · intro ix o' hi ho a' w2 l_ vs hls hlf hJ hout hin hdep hnot
    match ix, ho with
    | 0, ho =>
      obtain rfl := Option.some.inj ho
      have e0 := hout 0 (by kernel_rfl)
      replace e0 : a'.eval (.tmp 0) = _ := e0.trans rfl
      exact wp_move (.tmp 0) rfl _ e0 ⟨_, rfl, told_of rfl, Le.keepG (St := (SW W4 r sg eg D2)) [7] SW.loc (by omega) (by decide) hJ⟩
    | 1, ho =>
      obtain rfl := Option.some.inj ho
      have e0 := hout 2 (by kernel_rfl)
      replace e0 : a'.eval (.tmp 2) = _ := e0.trans rfl
      exact wp_move (.tmp 2) rfl _ e0 ⟨_, rfl, told_of rfl, Le.keepG (St := (SW W4 r sg eg D2)) [7] SW.loc (by omega) (by decide) hJ⟩
    | 2, ho =>
      obtain rfl := Option.some.inj ho
      have e0 := hout 3 (by kernel_rfl)
      replace e0 : a'.eval (.tmp 3) = _ := e0.trans rfl
      exact wp_move (.tmp 3) rfl _ e0 ⟨_, rfl, told_of rfl, Le.keepG (St := (SW W4 r sg eg D2)) [7] SW.loc (by omega) (by decide) hJ⟩
    | 3, ho =>
      obtain rfl := Option.some.inj ho
      have e0 := hout 10 (by kernel_rfl)
      replace e0 : a'.eval (.tmp 10) = _ := e0.trans rfl
      exact wp_loadA Vi.row26 (.tmp 10) rfl b2 0 e0 (Vi.vwC v) (unhide HVL) (((unhide M).at 1 _ rfl).kept hJ.1 ((unhide M).ne (b2, 29, Vi.vwC v) (by simp))).range ⟨_, rfl, told_of rfl, Le.keepG (St := (SW W4 r sg eg D2)) [7] SW.loc (by omega) (by decide) hJ⟩
    | 4, ho =>
      obtain rfl := Option.some.inj ho
      have e0 : a'.eval (.tmp 22) = aggV (Vi.vwC v) := by have h9 := hin 3 22 (by kernel_rfl) (by kernel_rfl); exact h9.1.trans (told_is _ h9.2 rfl)
      refine wp_callF 113 _ _ rfl #[aggV (Vi.vwC v)] (by simp [e0]) (cg113 _ _) ((unhide PA w2).mono ?_)
      rintro e w3 ⟨rfl, hk3⟩
      exact ⟨_, rfl, _, rfl, told_of rfl, Le.keepG (St := (SW W4 r sg eg D2)) [7] SW.loc (by omega) (by decide) (SW.step hJ hk3)⟩
    | 5, ho =>
      obtain rfl := Option.some.inj ho
      have e0 := hout 11 (by kernel_rfl)
      replace e0 : a'.eval (.tmp 11) = _ := e0.trans rfl
      exact wp_loadA Vi.row26 (.tmp 11) rfl b3 0 e0 (Vi.vwC u) (unhide HUL) (((unhide M).at 2 _ rfl).kept hJ.1 ((unhide M).ne (b3, 29, Vi.vwC u) (by simp))).range ⟨_, rfl, told_of rfl, Le.keepG (St := (SW W4 r sg eg D2)) [7] SW.loc (by omega) (by decide) hJ⟩
    | 6, ho =>
      obtain rfl := Option.some.inj ho
      have e0 : a'.eval (.tmp 24) = aggV (Vi.vwC u) := by have h9 := hin 5 24 (by kernel_rfl) (by kernel_rfl); exact h9.1.trans (told_is _ h9.2 rfl)
      refine wp_callF 113 _ _ rfl #[aggV (Vi.vwC u)] (by simp [e0]) (cg113 _ _) ((unhide PB w2).mono ?_)
      rintro e w3 ⟨rfl, hk3⟩
      exact ⟨_, rfl, _, rfl, told_of rfl, Le.keepG (St := (SW W4 r sg eg D2)) [7] SW.loc (by omega) (by decide) (SW.step hJ hk3)⟩
    | 7, ho =>
      obtain rfl := Option.some.inj ho
      have e0 : a'.eval (.tmp 19) = P0 r := by have h9 := hin 0 19 (by kernel_rfl) (by kernel_rfl); exact h9.1.trans (told_is _ h9.2 rfl)
      have e1 : a'.eval (.tmp 20) = .int .i64 n := by have h9 := hin 1 20 (by kernel_rfl) (by kernel_rfl); exact h9.1.trans (told_is _ h9.2 rfl)
      have e2 : a'.eval (.tmp 21) = .int .i64 ep := by have h9 := hin 2 21 (by kernel_rfl) (by kernel_rfl); exact h9.1.trans (told_is _ h9.2 rfl)
      have e3 : a'.eval (.tmp 23) = aggV (u8s A) := by have h9 := hin 4 23 (by kernel_rfl) (by kernel_rfl); exact h9.1.trans (told_is _ h9.2 rfl)
      have e4 : a'.eval (.tmp 25) = aggV (u8s B) := by have h9 := hin 6 25 (by kernel_rfl) (by kernel_rfl); exact h9.1.trans (told_is _ h9.2 rfl)
      refine wp_callF 143 _ _ rfl #[P0 r, .int .i64 n, .int .i64 ep, .int .i64 0, aggV (u8s A), aggV (u8s B)] (by simp [e0, e1, e2, e3, e4]; rfl) (cg143 _ _) ((unhide PS w2 ((unhide M).step (hJ.2.1 hlf)).rv).mono ?_)
      rintro e w3 ⟨rfl, hR3, hk3⟩
      exact ⟨_, rfl, _, rfl, told_of rfl, Le.nextG (St := (SW W4 r sg eg D2)) (by omega) ⟨hJ.1.trans (hk3.mono (by simp)), (fun h => by cases h), fun _ => hR3⟩⟩
    | 8, ho =>
      obtain rfl := Option.some.inj ho
      have e0 : a'.eval (.tmp 26) = .tuple #[.bool dd, .int .i64 ee] := by have h9 := hin 7 26 (by kernel_rfl) (by kernel_rfl); exact h9.1.trans (told_is _ h9.2 rfl)
      exact wp_move (.tmp 26) rfl _ e0 ⟨_, rfl, told_of rfl, Le.keepG (St := (SW W4 r sg eg D2)) [7] SW.loc (by omega) (by decide) hJ⟩
    | 9, ho =>
      obtain rfl := Option.some.inj ho
      have e0 : a'.eval (.tmp 18) = .tuple #[.bool dd, .int .i64 ee] := by have h9 := hin 8 18 (by kernel_rfl) (by kernel_rfl); exact h9.1.trans (told_is _ h9.2 rfl)
      exact o_ext (.tmp 18) 0 rfl _ _ e0 rfl ⟨_, rfl, told_of rfl, Le.keepG (St := (SW W4 r sg eg D2)) [7] SW.loc (by omega) (by decide) hJ⟩
    | 10, ho =>
      obtain rfl := Option.some.inj ho
      have e0 : a'.eval (.tmp 18) = .tuple #[.bool dd, .int .i64 ee] := by have h9 := hin 8 18 (by kernel_rfl) (by kernel_rfl); exact h9.1.trans (told_is _ h9.2 rfl)
      exact o_ext (.tmp 18) 1 rfl _ _ e0 rfl ⟨_, rfl, told_of rfl, Le.keepG (St := (SW W4 r sg eg D2)) [7] SW.loc (by omega) (by decide) hJ⟩
    | 11, ho =>
      obtain rfl := Option.some.inj ho
      have e0 : a'.eval (.tmp 27) = .bool dd := by have h9 := hin 9 27 (by kernel_rfl) (by kernel_rfl); exact h9.1.trans (told_is _ h9.2 rfl)
      exact wp_assignV (.tmp 27) rfl _ e0 ⟨_, rfl, told_of rfl, Le.keepG (St := (SW W4 r sg eg D2)) [7] SW.loc (by omega) (by decide) hJ⟩
    | 12, ho =>
      obtain rfl := Option.some.inj ho
      have e0 : a'.eval (.tmp 28) = .int .i64 ee := by have h9 := hin 10 28 (by kernel_rfl) (by kernel_rfl); exact h9.1.trans (told_is _ h9.2 rfl)
      exact wp_assignV (.tmp 28) rfl _ e0 ⟨_, rfl, told_of rfl, Le.keepG (St := (SW W4 r sg eg D2)) [7] SW.loc (by omega) (by decide) hJ⟩
  intro l_ vs9 V9 hl hJ htold
  have t0 : vs9 0 = P0 r := told_is _ (htold 0 (by decide)) rfl
  have t1 : vs9 1 = .int .i64 n := told_is _ (htold 1 (by decide)) rfl
  have t2 : vs9 2 = .int .i64 ep := told_is _ (htold 2 (by decide)) rfl
  have t3 : vs9 3 = aggV (Vi.vwC v) := told_is _ (htold 3 (by decide)) rfl
  have t4 : vs9 4 = aggV (u8s A) := told_is _ (htold 4 (by decide)) rfl
  have t5 : vs9 5 = aggV (Vi.vwC u) := told_is _ (htold 5 (by decide)) rfl
  have t6 : vs9 6 = aggV (u8s B) := told_is _ (htold 6 (by decide)) rfl
  have t7 : vs9 7 = .tuple #[.bool dd, .int .i64 ee] := told_is _ (htold 7 (by decide)) rfl
  have t8 : vs9 8 = .tuple #[.bool dd, .int .i64 ee] := told_is _ (htold 8 (by decide)) rfl
  have t9 : vs9 9 = .bool dd := told_is _ (htold 9 (by decide)) rfl
  have t10 : vs9 10 = .int .i64 ee := told_is _ (htold 10 (by decide)) rfl
  have t11 : vs9 11 = .bool dd := told_is _ (htold 11 (by decide)) rfl
  have t12 : vs9 12 = .int .i64 ee := told_is _ (htold 12 (by decide)) rfl
  rw [show (List.range 13).map vs9 = [vs9 0, vs9 1, vs9 2, vs9 3, vs9 4, vs9 5, vs9 6, vs9 7, vs9 8, vs9 9, vs9 10, vs9 11, vs9 12] from rfl]
  simp only [t0, t1, t2, t3, t4, t5, t6, t7, t8, t9, t10, t11, t12, putAll, Act.put, List.setIfInBounds_toArray, List.set_cons_succ, List.set_cons_zero]
  clear t0 t1 t2 t3 t4 t5 t6 t7 t8 t9 t10 t11 t12 htold
  replace M : Hid (Ph r sg eg D2 w V9 [(b1, 23, Ar.jobC J), (b2, 29, Vi.vwC v), (b3, 29, Vi.vwC u), (b4, 29, Vi.vwC Vi.zv)]) := hide ((unhide M).dev hJ.1 (fun _ h => h) (hJ.2.2 (hl 7 (by decide))))
  clear hJ hl
  obtain ⟨he, hd⟩ := unhide HED
  subst he hd
  go_wp2_with (
    first
    | (refine wpLoadA Vi.row26 rfl (.tmp 11) rfl b3 0 rfl (Vi.vwC u) (unhide HUL) ((unhide M).at 2 _ rfl).range ?_
       refine Stp.go ?_))
  constructor
  go_wp2_with (
    first
    | (refine wpStoreP Vi.row26 rfl (.tmp 12) (.tmp 34) rfl rfl b4 3 (Vi.vwC u) rfl rfl (unhide HUL) (Vi.vwC_one _) (unhide M) rfl rfl ?_
       intro W61 N61
       replace M : Hid (Ph r sg eg D2 w W61 [(b1, 23, Ar.jobC J), (b2, 29, Vi.vwC v), (b3, 29, Vi.vwC u), (b4, 29, Vi.vwC u)]) := hide N61
       clear N61
       refine Stp.go ?_))
  constructor
  go_wp2_with fail
  refine bodyPost_ret (res97 _ b4 (Vi.vwC u) true 0 _ rfl rfl rfl (unhide HUL) ((unhide M).at 3 _ rfl)) rfl ?_
  exact ⟨rfl, (unhide M).rv, (unhide M).kept⟩
set_option maxHeartbeats 8000000 in
theorem rswap_n (r sg eg : Nat) (D : Dv.Dev) (J : Ar.Job) (n ep : Int) (v u : Vi.Vw) (w : World) (h : Dv.Rv w r sg eg D) (hv : v.Ok) (hu : u.Ok) (hvm : v.may = true) (hum : u.may = true) (dd : Bool) (ee : Int) (D2 : Dv.Dev) (hsw : D.swap n ep 0 (Vi.putV v).1 (Vi.putV u).1 = (dd, ee, D2)) (he : ee = 0) (hd : dd = false) (y : Vi.Vw) (ye : Int) (hy : oV D2 = (y, ye)) (hyl : y.ms.length = 8) : Calls Tryz.prog 97 #[P0 r, aggV (Ar.jobC J), .int .i64 n, .int .i64 ep, aggV (Vi.vwC v), aggV (Vi.vwC u)] w fun x w' => x = .returned (.tuple #[aggV (Vi.vwC y), .bool false, .int .i64 ye]) ∧ Dv.Rv w' r sg eg D2 ∧ Kept [r, sg, eg] w w' := by
  have HVL : Hid ((Vi.vwC v).length = 19) := Vi.vwC_len hv.len
  have HUL : Hid ((Vi.vwC u).length = 19) := Vi.vwC_len hu.len
  have PA := hide (fun W => rput113 v W hv hvm)
  have PB := hide (fun W => rput113 u W hu hum)
  have hA := putV_sec v hv.len
  have hB := putV_sec u hu.len
  have PS := hide (fun W (h0 : Dv.Rv W r sg eg D) => Dv.r_swap r sg eg D n ep 0 _ _ W h0 hA hB)
  obtain ⟨A, hA9⟩ : ∃ A, A = (Vi.putV v).1 := ⟨_, rfl⟩
  obtain ⟨B, hB9⟩ : ∃ B, B = (Vi.putV u).1 := ⟨_, rfl⟩
  rw [← hA9, ← hB9] at hsw PS
  rw [← hA9] at PA
  rw [← hB9] at PB
  rw [hsw] at PS
  have HED := hide (And.intro he hd)
  clear he hd
  have PV := hide (fun W (h0 : Dv.Rv W r sg eg D2) => rview14 r sg eg D2 J W h0)
  rw [hy] at PV
  have HYL : Hid ((Vi.vwC y).length = 19) := Vi.vwC_len hyl
  clear hy hyl
  clear hsw hA hB hA9 hB9 hvm hum hv hu
  have M : Hid (Ph r sg eg D w w []) := hide (Ph.init h)
  clear h
  go_enter Tryz.func97, Tryz.ntmps97
  go_wp2_with (
    first
    | (refine wpBoxV rfl (.tmp 1) rfl (Ar.jobC J) rfl ?_
       intro W1 b1 e1 B1 K1
       replace M : Hid (Ph r sg eg D w W1 [(b1, 23, Ar.jobC J)]) := hide ((unhide M).new e1 B1 K1)
       clear e1 B1 K1
       refine Stp.go ?_))
  constructor
  go_wp2_with (
    first
    | (refine wpBoxV rfl (.tmp 4) rfl (Vi.vwC v) rfl ?_
       intro W2 b2 e2 B2 K2
       replace M : Hid (Ph r sg eg D w W2 [(b1, 23, Ar.jobC J), (b2, 29, Vi.vwC v)]) := hide ((unhide M).new e2 B2 K2)
       clear e2 B2 K2
       refine Stp.go ?_))
  constructor
  go_wp2_with (
    first
    | (refine wpBoxV rfl (.tmp 5) rfl (Vi.vwC u) rfl ?_
       intro W3 b3 e3 B3 K3
       replace M : Hid (Ph r sg eg D w W3 [(b1, 23, Ar.jobC J), (b2, 29, Vi.vwC v), (b3, 29, Vi.vwC u)]) := hide ((unhide M).new e3 B3 K3)
       clear e3 B3 K3
       refine Stp.go ?_))
  constructor
  go_wp2_with (
    first
    | (refine wpAllocW (Vi.vwC Vi.zv) Vi.zero26 12 rfl rfl rfl ?_
       intro W4 b4 e4 B4 K4
       replace M : Hid (Ph r sg eg D w W4 [(b1, 23, Ar.jobC J), (b2, 29, Vi.vwC v), (b3, 29, Vi.vwC u), (b4, 29, Vi.vwC Vi.zv)]) := hide ((unhide M).new e4 B4 K4)
       clear e4 B4 K4
       refine Stp.go ?_))
  constructor
  go_wp2_with fail
  refine wp_region_any mixed (wpAny_gx 13 rfl (by kernel_rfl) [some (P0 r), some (.int .i64 n), some (.int .i64 ep), some (aggV (Vi.vwC v)), some (aggV (u8s A)), some (aggV (Vi.vwC u)), some (aggV (u8s B)), some (.tuple #[.bool dd, .int .i64 ee]), some (.tuple #[.bool dd, .int .i64 ee]), some (.bool dd), some (.int .i64 ee), some (.bool dd), some (.int .i64 ee)] rfl (by kernel_rfl) (fun l vs W => (SW W4 r sg eg D2) (fun i => l.getD i false) vs W) (⟨⟨rfl, rfl, rfl, Nat.le_refl _, fun _ _ _ => rfl⟩, (fun _ => ⟨rfl, rfl, rfl, Nat.le_refl _, fun _ _ _ => rfl⟩), (fun h => by cases h)⟩) ?_ ?_)
  · intro ix o' hi ho a' w2 l_ vs hls hlf hJ hout hin hdep hnot
    match ix, ho with
    | 0, ho =>
      obtain rfl := Option.some.inj ho
      have e0 := hout 0 (by kernel_rfl)
      replace e0 : a'.eval (.tmp 0) = _ := e0.trans rfl
      exact wp_move (.tmp 0) rfl _ e0 ⟨_, rfl, told_of rfl, Le.keepG (St := (SW W4 r sg eg D2)) [7] SW.loc (by omega) (by decide) hJ⟩
    | 1, ho =>
      obtain rfl := Option.some.inj ho
      have e0 := hout 2 (by kernel_rfl)
      replace e0 : a'.eval (.tmp 2) = _ := e0.trans rfl
      exact wp_move (.tmp 2) rfl _ e0 ⟨_, rfl, told_of rfl, Le.keepG (St := (SW W4 r sg eg D2)) [7] SW.loc (by omega) (by decide) hJ⟩
    | 2, ho =>
      obtain rfl := Option.some.inj ho
      have e0 := hout 3 (by kernel_rfl)
      replace e0 : a'.eval (.tmp 3) = _ := e0.trans rfl
      exact wp_move (.tmp 3) rfl _ e0 ⟨_, rfl, told_of rfl, Le.keepG (St := (SW W4 r sg eg D2)) [7] SW.loc (by omega) (by decide) hJ⟩
    | 3, ho =>
      obtain rfl := Option.some.inj ho
      have e0 := hout 10 (by kernel_rfl)
      replace e0 : a'.eval (.tmp 10) = _ := e0.trans rfl
      exact wp_loadA Vi.row26 (.tmp 10) rfl b2 0 e0 (Vi.vwC v) (unhide HVL) (((unhide M).at 1 _ rfl).kept hJ.1 ((unhide M).ne (b2, 29, Vi.vwC v) (by simp))).range ⟨_, rfl, told_of rfl, Le.keepG (St := (SW W4 r sg eg D2)) [7] SW.loc (by omega) (by decide) hJ⟩
    | 4, ho =>
      obtain rfl := Option.some.inj ho
      have e0 : a'.eval (.tmp 22) = aggV (Vi.vwC v) := by have h9 := hin 3 22 (by kernel_rfl) (by kernel_rfl); exact h9.1.trans (told_is _ h9.2 rfl)
      refine wp_callF 113 _ _ rfl #[aggV (Vi.vwC v)] (by simp [e0]) (cg113 _ _) ((unhide PA w2).mono ?_)
      rintro e w3 ⟨rfl, hk3⟩
      exact ⟨_, rfl, _, rfl, told_of rfl, Le.keepG (St := (SW W4 r sg eg D2)) [7] SW.loc (by omega) (by decide) (SW.step hJ hk3)⟩
    | 5, ho =>
      obtain rfl := Option.some.inj ho
      have e0 := hout 11 (by kernel_rfl)
      replace e0 : a'.eval (.tmp 11) = _ := e0.trans rfl
      exact wp_loadA Vi.row26 (.tmp 11) rfl b3 0 e0 (Vi.vwC u) (unhide HUL) (((unhide M).at 2 _ rfl).kept hJ.1 ((unhide M).ne (b3, 29, Vi.vwC u) (by simp))).range ⟨_, rfl, told_of rfl, Le.keepG (St := (SW W4 r sg eg D2)) [7] SW.loc (by omega) (by decide) hJ⟩
    | 6, ho =>
      obtain rfl := Option.some.inj ho
      have e0 : a'.eval (.tmp 24) = aggV (Vi.vwC u) := by have h9 := hin 5 24 (by kernel_rfl) (by kernel_rfl); exact h9.1.trans (told_is _ h9.2 rfl)
      refine wp_callF 113 _ _ rfl #[aggV (Vi.vwC u)] (by simp [e0]) (cg113 _ _) ((unhide PB w2).mono ?_)
      rintro e w3 ⟨rfl, hk3⟩
      exact ⟨_, rfl, _, rfl, told_of rfl, Le.keepG (St := (SW W4 r sg eg D2)) [7] SW.loc (by omega) (by decide) (SW.step hJ hk3)⟩
    | 7, ho =>
      obtain rfl := Option.some.inj ho
      have e0 : a'.eval (.tmp 19) = P0 r := by have h9 := hin 0 19 (by kernel_rfl) (by kernel_rfl); exact h9.1.trans (told_is _ h9.2 rfl)
      have e1 : a'.eval (.tmp 20) = .int .i64 n := by have h9 := hin 1 20 (by kernel_rfl) (by kernel_rfl); exact h9.1.trans (told_is _ h9.2 rfl)
      have e2 : a'.eval (.tmp 21) = .int .i64 ep := by have h9 := hin 2 21 (by kernel_rfl) (by kernel_rfl); exact h9.1.trans (told_is _ h9.2 rfl)
      have e3 : a'.eval (.tmp 23) = aggV (u8s A) := by have h9 := hin 4 23 (by kernel_rfl) (by kernel_rfl); exact h9.1.trans (told_is _ h9.2 rfl)
      have e4 : a'.eval (.tmp 25) = aggV (u8s B) := by have h9 := hin 6 25 (by kernel_rfl) (by kernel_rfl); exact h9.1.trans (told_is _ h9.2 rfl)
      refine wp_callF 143 _ _ rfl #[P0 r, .int .i64 n, .int .i64 ep, .int .i64 0, aggV (u8s A), aggV (u8s B)] (by simp [e0, e1, e2, e3, e4]; rfl) (cg143 _ _) ((unhide PS w2 ((unhide M).step (hJ.2.1 hlf)).rv).mono ?_)
      rintro e w3 ⟨rfl, hR3, hk3⟩
      exact ⟨_, rfl, _, rfl, told_of rfl, Le.nextG (St := (SW W4 r sg eg D2)) (by omega) ⟨hJ.1.trans (hk3.mono (by simp)), (fun h => by cases h), fun _ => hR3⟩⟩
    | 8, ho =>
      obtain rfl := Option.some.inj ho
      have e0 : a'.eval (.tmp 26) = .tuple #[.bool dd, .int .i64 ee] := by have h9 := hin 7 26 (by kernel_rfl) (by kernel_rfl); exact h9.1.trans (told_is _ h9.2 rfl)
      exact wp_move (.tmp 26) rfl _ e0 ⟨_, rfl, told_of rfl, Le.keepG (St := (SW W4 r sg eg D2)) [7] SW.loc (by omega) (by decide) hJ⟩
    | 9, ho =>
      obtain rfl := Option.some.inj ho
      have e0 : a'.eval (.tmp 18) = .tuple #[.bool dd, .int .i64 ee] := by have h9 := hin 8 18 (by kernel_rfl) (by kernel_rfl); exact h9.1.trans (told_is _ h9.2 rfl)
      exact o_ext (.tmp 18) 0 rfl _ _ e0 rfl ⟨_, rfl, told_of rfl, Le.keepG (St := (SW W4 r sg eg D2)) [7] SW.loc (by omega) (by decide) hJ⟩
    | 10, ho =>
      obtain rfl := Option.some.inj ho
      have e0 : a'.eval (.tmp 18) = .tuple #[.bool dd, .int .i64 ee] := by have h9 := hin 8 18 (by kernel_rfl) (by kernel_rfl); exact h9.1.trans (told_is _ h9.2 rfl)
      exact o_ext (.tmp 18) 1 rfl _ _ e0 rfl ⟨_, rfl, told_of rfl, Le.keepG (St := (SW W4 r sg eg D2)) [7] SW.loc (by omega) (by decide) hJ⟩
    | 11, ho =>
      obtain rfl := Option.some.inj ho
      have e0 : a'.eval (.tmp 27) = .bool dd := by have h9 := hin 9 27 (by kernel_rfl) (by kernel_rfl); exact h9.1.trans (told_is _ h9.2 rfl)
      exact wp_assignV (.tmp 27) rfl _ e0 ⟨_, rfl, told_of rfl, Le.keepG (St := (SW W4 r sg eg D2)) [7] SW.loc (by omega) (by decide) hJ⟩
    | 12, ho =>
      obtain rfl := Option.some.inj ho
      have e0 : a'.eval (.tmp 28) = .int .i64 ee := by have h9 := hin 10 28 (by kernel_rfl) (by kernel_rfl); exact h9.1.trans (told_is _ h9.2 rfl)
      exact wp_assignV (.tmp 28) rfl _ e0 ⟨_, rfl, told_of rfl, Le.keepG (St := (SW W4 r sg eg D2)) [7] SW.loc (by omega) (by decide) hJ⟩
  intro l_ vs9 V9 hl hJ htold
  have t0 : vs9 0 = P0 r := told_is _ (htold 0 (by decide)) rfl
  have t1 : vs9 1 = .int .i64 n := told_is _ (htold 1 (by decide)) rfl
  have t2 : vs9 2 = .int .i64 ep := told_is _ (htold 2 (by decide)) rfl
  have t3 : vs9 3 = aggV (Vi.vwC v) := told_is _ (htold 3 (by decide)) rfl
  have t4 : vs9 4 = aggV (u8s A) := told_is _ (htold 4 (by decide)) rfl
  have t5 : vs9 5 = aggV (Vi.vwC u) := told_is _ (htold 5 (by decide)) rfl
  have t6 : vs9 6 = aggV (u8s B) := told_is _ (htold 6 (by decide)) rfl
  have t7 : vs9 7 = .tuple #[.bool dd, .int .i64 ee] := told_is _ (htold 7 (by decide)) rfl
  have t8 : vs9 8 = .tuple #[.bool dd, .int .i64 ee] := told_is _ (htold 8 (by decide)) rfl
  have t9 : vs9 9 = .bool dd := told_is _ (htold 9 (by decide)) rfl
  have t10 : vs9 10 = .int .i64 ee := told_is _ (htold 10 (by decide)) rfl
  have t11 : vs9 11 = .bool dd := told_is _ (htold 11 (by decide)) rfl
  have t12 : vs9 12 = .int .i64 ee := told_is _ (htold 12 (by decide)) rfl
  rw [show (List.range 13).map vs9 = [vs9 0, vs9 1, vs9 2, vs9 3, vs9 4, vs9 5, vs9 6, vs9 7, vs9 8, vs9 9, vs9 10, vs9 11, vs9 12] from rfl]
  simp only [t0, t1, t2, t3, t4, t5, t6, t7, t8, t9, t10, t11, t12, putAll, Act.put, List.setIfInBounds_toArray, List.set_cons_succ, List.set_cons_zero]
  clear t0 t1 t2 t3 t4 t5 t6 t7 t8 t9 t10 t11 t12 htold
  replace M : Hid (Ph r sg eg D2 w V9 [(b1, 23, Ar.jobC J), (b2, 29, Vi.vwC v), (b3, 29, Vi.vwC u), (b4, 29, Vi.vwC Vi.zv)]) := hide ((unhide M).dev hJ.1 (fun _ h => h) (hJ.2.2 (hl 7 (by decide))))
  clear hJ hl
  obtain ⟨he, hd⟩ := unhide HED
  subst he hd
  go_wp2_with (
    first
    | (refine wpLoadA jrow rfl (.tmp 7) rfl b1 0 rfl (Ar.jobC J) rfl ((unhide M).at 0 _ rfl).range ?_
       refine Stp.go ?_))
  constructor
  go_wp2_with (
    first
    | (go_at_call 14
       refine (unhide PV _ (unhide M).rv).mono ?_
       rintro e W61 ⟨rfl, K61⟩
       replace M : Hid (Ph r sg eg D2 w W61 [(b1, 23, Ar.jobC J), (b2, 29, Vi.vwC v), (b3, 29, Vi.vwC u), (b4, 29, Vi.vwC Vi.zv)]) := hide ((unhide M).step K61)
       clear K61
       refine Stp.go ?_))
  constructor
  go_wp2_with (
    first
    | (refine wpNew Vi.row26 (Vi.vwC Vi.zv) rfl Vi.zero26 17 rfl rfl rfl (.tmp 39) rfl rfl rfl (Vi.vwC y) (unhide HYL) (Vi.vwC_one _) (by kernel_rfl) (by kernel_rfl) ?_
       intro W62 b62 e62 B62 K62
       replace M : Hid (Ph r sg eg D2 w W62 [(b1, 23, Ar.jobC J), (b2, 29, Vi.vwC v), (b3, 29, Vi.vwC u), (b4, 29, Vi.vwC Vi.zv), (b62, 29, Vi.vwC y)]) := hide ((unhide M).new e62 B62 K62)
       clear e62 B62 K62
       refine Stp.go ?_))
  constructor
  go_wp2_with (
    first
    | (refine wpLoadA Vi.row26 rfl (.tmp 17) rfl b62 0 rfl (Vi.vwC y) (unhide HYL) ((unhide M).at 4 _ rfl).range ?_
       refine Stp.go ?_))
  constructor
  go_wp2_with (
    first
    | (refine wpStoreP Vi.row26 rfl (.tmp 12) (.tmp 41) rfl rfl b4 3 (Vi.vwC y) rfl rfl (unhide HYL) (Vi.vwC_one _) (unhide M) rfl rfl ?_
       intro W63 N63
       replace M : Hid (Ph r sg eg D2 w W63 [(b1, 23, Ar.jobC J), (b2, 29, Vi.vwC v), (b3, 29, Vi.vwC u), (b4, 29, Vi.vwC y), (b62, 29, Vi.vwC y)]) := hide N63
       clear N63
       refine Stp.go ?_))
  constructor
  go_wp2_with fail
  refine bodyPost_ret (res97 _ b4 (Vi.vwC y) false ye _ rfl rfl rfl (unhide HYL) ((unhide M).at 3 _ rfl)) rfl ?_
  exact ⟨rfl, (unhide M).rv, (unhide M).kept⟩

theorem oV_okD {D : Dv.Dev} (h : D.Ok) : (oV D).1.Ok := getV_ok _ ⟨(read0 h ▸ read_sec h 0).1, (read0 h ▸ read_sec h 0).2⟩
theorem rswap97 (r sg eg : Nat) (D : Dv.Dev) (J : Ar.Job) (n ep : Int) (v u : Vi.Vw) (w : World) (h : Dv.Rv w r sg eg D) (hv : v.Ok) (hu : u.Ok) (hvm : v.may = true) (hum : u.may = true) : Calls Tryz.prog 97 #[P0 r, aggV (Ar.jobC J), .int .i64 n, .int .i64 ep, aggV (Vi.vwC v), aggV (Vi.vwC u)] w fun x w' => x = .returned (.tuple #[aggV (Vi.vwC (mswap D n ep v u).1.1), .bool (mswap D n ep v u).1.2, .int .i64 (mswap D n ep v u).2.1]) ∧ Dv.Rv w' r sg eg (mswap D n ep v u).2.2 ∧ Kept [r, sg, eg] w w' := by
  unfold mswap
  have hDD : (D.swap n ep 0 (Vi.putV v).1 (Vi.putV u).1).1 = false → (D.swap n ep 0 (Vi.putV v).1 (Vi.putV u).1).2.2 = D := by
    unfold Dv.Dev.swap
    split
    · split
      · intro h; cases h
      · intro _; rfl
    · intro _; rfl
  obtain ⟨⟨dd, ee, D2⟩, hsw⟩ : ∃ x, D.swap n ep 0 (Vi.putV v).1 (Vi.putV u).1 = x := ⟨_, rfl⟩
  rw [hsw] at hDD ⊢
  by_cases he : ee = 0
  · rw [if_pos (show ((dd, ee, D2) : Bool × Int × Dv.Dev).2.1 = 0 from he)]
    cases hd : dd with
    | true =>
      rw [if_pos rfl]
      exact rswap_d r sg eg D J n ep v u w h hv hu hvm hum dd ee D2 hsw he hd
    | false =>
      have hD2 : D2 = D := hDD hd
      have hy := (oV_okD h.ok).len
      rw [← hD2] at hy
      rw [if_neg (by simp)]
      exact rswap_n r sg eg D J n ep v u w h hv hu hvm hum dd ee D2 hsw he hd _ _ rfl hy
  · rw [if_neg (show ¬ ((dd, ee, D2) : Bool × Int × Dv.Dev).2.1 = 0 from he)]
    exact rswap_e r sg eg D J n ep v u w h hv hu hvm hum dd ee D2 hsw (decide_eq_false he)

end Go.Proofs.YtcfflbafclmheaaGreatDoor
