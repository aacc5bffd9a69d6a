/-
  Look.
-/
import Derived.Test.YthidiolgngkffaaLe
namespace Go.Proofs.Ythidiolgngkffaa
set_option maxRecDepth 100000
open Go.RowKit

theorem look_no (p : Value) (m : Int) (lx : Le) (w : World) (h : ∀ W, Kept [] w W → Calls Try.prog 39 #[p] W fun e w' => e = .returned (.bool true) ∧ w' = W) : Calls Try.prog 21 #[p, .int .i64 m, aggV lx.C] w fun e w' => e = .returned (.tuple #[.bool false, .int .i64 1]) ∧ Kept [] w w' := by
  have P39 : ∀ W, Kept [] w W → Hid (Calls Try.prog 39 #[p] W fun e w' => e = .returned (.bool true) ∧ w' = W) := fun W hW => hide (h W hW)
  clear h
  go_enter Try.func21, Try.ntmps21
  have M : Hid (Mm [] w w []) := hide Mm.init
  go_wp2_with (
    first
    | (refine wpBoxV rfl (.tmp 2) rfl (lx.C) rfl ?_
       intro W1 b1 e1 B1 K1
       replace M : Hid (Mm [] w W1 [(b1, 23, lx.C)]) := hide ((unhide M).new e1 B1 K1)
       clear e1 B1 K1
       refine Stp.go ?_))
  constructor
  go_wp2_with (
    first
    | (go_at_call 39
       refine (unhide (P39 _ (unhide M).kept)).mono ?_
       rintro e W2 ⟨rfl, q2⟩
       replace q2 := q2.symm
       subst q2
       refine Stp.go ?_))
  constructor
  go_wp2_with fail
  go_ret2
  exact ⟨rfl, (unhide M).kept⟩
set_option maxHeartbeats 2000000 in
theorem look_a {A : Int} (v : Wt) (b : Nat) (m : Int) (lx : Le) (w : World) (hB : Blk w b 65 v.C) (hv : v.Ok A) (hh : v.has m = false) : Calls Try.prog 21 #[P0 b, .int .i64 m, aggV lx.C] w fun e w' => e = .returned (.tuple #[.bool false, .int .i64 2]) ∧ Blk w' b 65 v.C ∧ Kept [b] w w' := by
  have P39 : ∀ W, Blk W b 65 v.C → Hid (Calls Try.prog 39 #[P0 b] W fun e w' => e = .returned (.bool false) ∧ w' = W) := fun W hW => hide (none_is v b W hW hv.n.1)
  have P40 : ∀ W, Blk W b 65 v.C → Hid (Calls Try.prog 40 #[P0 b, .int .i64 m] W fun e w' => e = .returned (.bool false) ∧ w' = W) := fun W hW => hide (by have := has_is v b m W hW hv.n.1; rw [hh] at this; exact this)
  go_enter Try.func21, Try.ntmps21
  have M : Hid (Mm [b] w w [(b, 65, v.C)]) := hide (Mm.one hB)
  go_wp2_with (
    first
    | (refine wpBoxV rfl (.tmp 2) rfl (lx.C) rfl ?_
       intro W1 b1 e1 B1 K1
       replace M : Hid (Mm [b] w W1 [(b, 65, v.C), (b1, 23, lx.C)]) := hide ((unhide M).new e1 B1 K1)
       clear e1 B1 K1
       refine Stp.go ?_))
  constructor
  go_wp2_with (
    first
    | (go_at_call 39
       refine (unhide (P39 _ ((unhide M).at 0 _ rfl))).mono ?_
       rintro e W2 ⟨rfl, q2⟩
       replace q2 := q2.symm
       subst q2
       refine Stp.go ?_))
  constructor
  go_wp2_with (
    first
    | (go_at_call 40
       refine (unhide (P40 _ ((unhide M).at 0 _ rfl))).mono ?_
       rintro e W3 ⟨rfl, q3⟩
       replace q3 := q3.symm
       subst q3
       refine Stp.go ?_))
  constructor
  go_wp2_with fail
  go_ret2
  exact ⟨rfl, (unhide M).at 0 _ rfl, (unhide M).kept⟩
set_option maxHeartbeats 2000000 in
theorem look_b {A : Int} (v : Wt) (b : Nat) (m : Int) (lx : Le) (w : World) (hB : Blk w b 65 v.C) (hv : v.Ok A) (hh : v.has m = true) (hm : lx.may = false) : Calls Try.prog 21 #[P0 b, .int .i64 m, aggV lx.C] w fun e w' => e = .returned (.tuple #[.bool false, .int .i64 2]) ∧ Blk w' b 65 v.C ∧ Kept [b] w w' := by
  have P39 : ∀ W, Blk W b 65 v.C → Hid (Calls Try.prog 39 #[P0 b] W fun e w' => e = .returned (.bool false) ∧ w' = W) := fun W hW => hide (none_is v b W hW hv.n.1)
  have P40 : ∀ W, Blk W b 65 v.C → Hid (Calls Try.prog 40 #[P0 b, .int .i64 m] W fun e w' => e = .returned (.bool true) ∧ w' = W) := fun W hW => hide (by have := has_is v b m W hW hv.n.1; rw [hh] at this; exact this)
  have P24 : ∀ W, Hid (Calls Try.prog 24 #[aggV lx.C] W fun e w' => e = .returned (.bool false) ∧ Kept [] W w') := fun W => hide (by have := may24 lx W; rw [hm] at this; exact this)
  go_enter Try.func21, Try.ntmps21
  have M : Hid (Mm [b] w w [(b, 65, v.C)]) := hide (Mm.one hB)
  go_wp2_with (
    first
    | (refine wpBoxV rfl (.tmp 2) rfl (lx.C) rfl ?_
       intro W1 b1 e1 B1 K1
       replace M : Hid (Mm [b] w W1 [(b, 65, v.C), (b1, 23, lx.C)]) := hide ((unhide M).new e1 B1 K1)
       clear e1 B1 K1
       refine Stp.go ?_))
  constructor
  go_wp2_with (
    first
    | (go_at_call 39
       refine (unhide (P39 _ ((unhide M).at 0 _ rfl))).mono ?_
       rintro e W2 ⟨rfl, q2⟩
       replace q2 := q2.symm
       subst q2
       refine Stp.go ?_))
  constructor
  go_wp2_with (
    first
    | (go_at_call 40
       refine (unhide (P40 _ ((unhide M).at 0 _ rfl))).mono ?_
       rintro e W3 ⟨rfl, q3⟩
       replace q3 := q3.symm
       subst q3
       refine Stp.go ?_))
  constructor
  go_wp2_with (
    first
    | (refine wpLoadG row23 (.tmp 5) rfl rfl b1 0 rfl (lx.C) rfl ((unhide M).at 1 _ rfl).range ?_
       refine Stp.go ?_))
  constructor
  go_wp2_with (
    first
    | (go_at_call 24
       refine (unhide (P24 _)).mono ?_
       rintro e W4 ⟨rfl, K4⟩
       replace M : Hid (Mm [b] w W4 [(b, 65, v.C), (b1, 23, lx.C)]) := hide ((unhide M).step K4)
       clear K4
       refine Stp.go ?_))
  constructor
  go_wp2_with fail
  go_ret2
  exact ⟨rfl, (unhide M).at 0 _ rfl, (unhide M).kept⟩
set_option maxHeartbeats 2000000 in
theorem rlook_a {A : Int} (v : Wt) (b : Nat) (m : Int) (lx : Le) (w : World) (hB : Blk w b 79 v.C) (_hv : v.Ok A) (hh : v.has m = false) : Calls Try.prog 31 #[P0 b, .int .i64 m, aggV lx.C] w fun e w' => e = .returned (.tuple #[.bool false, .int .i64 2]) ∧ Blk w' b 79 v.C ∧ Kept [b] w w' := by
  have P44 : ∀ W, Blk W b 79 v.C → Hid (Calls Try.prog 44 #[P0 b, .int .i64 m] W fun e w' => e = .returned (.bool false) ∧ w' = W) := fun W hW => hide (by have := in44 v b m W hW; rw [hh] at this; exact this)
  go_enter Try.func31, Try.ntmps31
  have M : Hid (Mm [b] w w [(b, 79, v.C)]) := hide (Mm.one hB)
  go_wp2_with (
    first
    | (refine wpBoxV rfl (.tmp 2) rfl (lx.C) rfl ?_
       intro W1 b1 e1 B1 K1
       replace M : Hid (Mm [b] w W1 [(b, 79, v.C), (b1, 23, lx.C)]) := hide ((unhide M).new e1 B1 K1)
       clear e1 B1 K1
       refine Stp.go ?_))
  constructor
  go_wp2_with (
    first
    | (go_at_call 44
       refine (unhide (P44 _ ((unhide M).at 0 _ rfl))).mono ?_
       rintro e W2 ⟨rfl, q2⟩
       replace q2 := q2.symm
       subst q2
       refine Stp.go ?_))
  constructor
  go_wp2_with fail
  go_ret2
  exact ⟨rfl, (unhide M).at 0 _ rfl, (unhide M).kept⟩
set_option maxHeartbeats 2000000 in
theorem rlook_b {A : Int} (v : Wt) (b : Nat) (m : Int) (lx : Le) (w : World) (hB : Blk w b 79 v.C) (_hv : v.Ok A) (hh : v.has m = true) (hm : lx.may = false) : Calls Try.prog 31 #[P0 b, .int .i64 m, aggV lx.C] w fun e w' => e = .returned (.tuple #[.bool false, .int .i64 2]) ∧ Blk w' b 79 v.C ∧ Kept [b] w w' := by
  have P44 : ∀ W, Blk W b 79 v.C → Hid (Calls Try.prog 44 #[P0 b, .int .i64 m] W fun e w' => e = .returned (.bool true) ∧ w' = W) := fun W hW => hide (by have := in44 v b m W hW; rw [hh] at this; exact this)
  have P12 : ∀ W, Hid (Calls Try.prog 12 #[aggV lx.C] W fun e w' => e = .returned (.bool false) ∧ Kept [] W w') := fun W => hide (by have := rmay12 lx W; rw [hm] at this; exact this)
  go_enter Try.func31, Try.ntmps31
  have M : Hid (Mm [b] w w [(b, 79, v.C)]) := hide (Mm.one hB)
  go_wp2_with (
    first
    | (refine wpBoxV rfl (.tmp 2) rfl (lx.C) rfl ?_
       intro W1 b1 e1 B1 K1
       replace M : Hid (Mm [b] w W1 [(b, 79, v.C), (b1, 23, lx.C)]) := hide ((unhide M).new e1 B1 K1)
       clear e1 B1 K1
       refine Stp.go ?_))
  constructor
  go_wp2_with (
    first
    | (go_at_call 44
       refine (unhide (P44 _ ((unhide M).at 0 _ rfl))).mono ?_
       rintro e W2 ⟨rfl, q2⟩
       replace q2 := q2.symm
       subst q2
       refine Stp.go ?_))
  constructor
  go_wp2_with (
    first
    | (refine wpLoadG row23 (.tmp 5) rfl rfl b1 0 rfl (lx.C) rfl ((unhide M).at 1 _ rfl).range ?_
       refine Stp.go ?_))
  constructor
  go_wp2_with (
    first
    | (go_at_call 12
       refine (unhide (P12 _)).mono ?_
       rintro e W3 ⟨rfl, K3⟩
       replace M : Hid (Mm [b] w W3 [(b, 79, v.C), (b1, 23, lx.C)]) := hide ((unhide M).step K3)
       clear K3
       refine Stp.go ?_))
  constructor
  go_wp2_with fail
  go_ret2
  exact ⟨rfl, (unhide M).at 0 _ rfl, (unhide M).kept⟩
set_option maxHeartbeats 2000000 in
theorem look_c {A : Int} (v : Wt) (b : Nat) (m : Int) (lx : Le) (w : World) (hB : Blk w b 65 v.C) (hv : v.Ok A) (hh : v.has m = true) (hm : lx.may = true) (his : (v.lk m).is = false) : Calls Try.prog 21 #[P0 b, .int .i64 m, aggV lx.C] w fun e w' => e = .returned (.tuple #[.bool (decide (v.p ≤ (Lk.mk true lx 0).age)), .int .i64 0]) ∧ Blk w' b 65 (v.put m (Lk.mk true lx 0)).C ∧ Kept [b] w w' := by
  have P39 : ∀ W, Blk W b 65 v.C → Hid (Calls Try.prog 39 #[P0 b] W fun e w' => e = .returned (.bool false) ∧ w' = W) := fun W hW => hide (none_is v b W hW hv.n.1)
  have P40 : ∀ W, Blk W b 65 v.C → Hid (Calls Try.prog 40 #[P0 b, .int .i64 m] W fun e w' => e = .returned (.bool true) ∧ w' = W) := fun W hW => hide (by have := has_is v b m W hW hv.n.1; rw [hh] at this; exact this)
  have P24 : ∀ W, Hid (Calls Try.prog 24 #[aggV lx.C] W fun e w' => e = .returned (.bool true) ∧ Kept [] W w') := fun W => hide (by have := may24 lx W; rw [hm] at this; exact this)
  obtain ⟨m0, m8⟩ := has_lt hv hh
  have m8n : m.toNat < 8 := by omega
  go_enter Try.func21, Try.ntmps21
  have M : Hid (Mm [b] w w [(b, 65, v.C)]) := hide (Mm.one hB)
  go_wp2_with (
    first
    | (refine wpBoxV rfl (.tmp 2) rfl (lx.C) rfl ?_
       intro W1 b1 e1 B1 K1
       replace M : Hid (Mm [b] w W1 [(b, 65, v.C), (b1, 23, lx.C)]) := hide ((unhide M).new e1 B1 K1)
       clear e1 B1 K1
       refine Stp.go ?_))
  constructor
  go_wp2_with (
    first
    | (go_at_call 39
       refine (unhide (P39 _ ((unhide M).at 0 _ rfl))).mono ?_
       rintro e W2 ⟨rfl, q2⟩
       replace q2 := q2.symm
       subst q2
       refine Stp.go ?_))
  constructor
  go_wp2_with (
    first
    | (go_at_call 40
       refine (unhide (P40 _ ((unhide M).at 0 _ rfl))).mono ?_
       rintro e W3 ⟨rfl, q3⟩
       replace q3 := q3.symm
       subst q3
       refine Stp.go ?_))
  constructor
  go_wp2_with (
    first
    | (refine wpLoadG row23 (.tmp 5) rfl rfl b1 0 rfl (lx.C) rfl ((unhide M).at 1 _ rfl).range ?_
       refine Stp.go ?_))
  constructor
  go_wp2_with (
    first
    | (go_at_call 24
       refine (unhide (P24 _)).mono ?_
       rintro e W4 ⟨rfl, K4⟩
       replace M : Hid (Mm [b] w W4 [(b, 65, v.C), (b1, 23, lx.C)]) := hide ((unhide M).step K4)
       clear K4
       refine Stp.go ?_))
  constructor
  go_wp2_with (
    first
    | (refine wpLoadA row23 rfl (.tmp 5) rfl b1 0 rfl (lx.C) rfl ((unhide M).at 1 _ rfl).range ?_
       refine Stp.go ?_))
  constructor
  go_wp2_with (
    first
    | (refine wpBuildP (by rfl) #[(0, .const (.bool true)), (1, .tmp 23)] (by rfl) #[(0, .bool true), (1, aggV lx.C)] (by kernel_rfl) (Lk.mk true lx 0).C (build62p _ lx) ?_
       refine Stp.go ?_))
  constructor
  go_wp2_with (
    first
    | (refine wpNew row62 (lk0.C) rfl zero62 8 rfl rfl rfl (.tmp 24) rfl rfl rfl ((Lk.mk true lx 0).C) rfl (lkC_one _) (by kernel_rfl) (by kernel_rfl) ?_
       intro W5 b5 e5 B5 K5
       replace M : Hid (Mm [b] w W5 [(b, 65, v.C), (b1, 23, lx.C), (b5, 62, (Lk.mk true lx 0).C)]) := hide ((unhide M).new e5 B5 K5)
       clear e5 B5 K5
       refine Stp.go ?_))
  constructor
  go_wp2_with (
    first
    | (refine wpLoadA row62 rfl (.tmp 29) rfl b (2 + m.toNat * 5) rfl ((v.lk m).C) rfl (((unhide M).at 0 _ rfl).lk hv hh) ?_
       refine Stp.go ?_))
  constructor
  go_wp2_with (
    first
    | (refine wpNew row62 (lk0.C) rfl zero62 9 rfl rfl rfl (.tmp 30) rfl rfl rfl ((v.lk m).C) rfl (lkC_one _) (by kernel_rfl) (by kernel_rfl) ?_
       intro W6 b6 e6 B6 K6
       replace M : Hid (Mm [b] w W6 [(b, 65, v.C), (b1, 23, lx.C), (b5, 62, (Lk.mk true lx 0).C), (b6, 62, (v.lk m).C)]) := hide ((unhide M).new e6 B6 K6)
       clear e6 B6 K6
       have c0 : W6.cell? ⟨b6, 0, none⟩ = some (.bool false) := by rw [← his]; exact fits_cell ((unhide M).at 3 _ rfl) 0 _ rfl
       refine Stp.go ?_))
  constructor
  go_wp2_with fail
  refine wp_region_any mixed (wpAny_gx 7 rfl (by kernel_rfl) [some (P0 b), some (.int .i64 m), some (aggV (Lk.mk true lx 0).C), some (P0 b), some (.pointer (some ⟨b, 0 + 2, none⟩)), some (.pointer (some ⟨b, 2 + m.toNat * 5, none⟩)), none] rfl (by kernel_rfl) (fun l vs W => (SX [b] w (fun S : Wt => [(b, 65, S.C), (b1, 23, lx.C), (b5, 62, (Lk.mk true lx 0).C), (b6, 62, (v.lk m).C)]) v (v.put m (Lk.mk true lx 0)) 6) (fun i => l.getD i false) vs W) (⟨_, (unhide M).drew, (fun _ => rfl), fun h => by cases h⟩) ?_ ?_)
  · intro ix o' hi ho a' w2 l vs hls hlf hJ hout hin hdep hnot
    match ix, ho with
    | 0, ho =>
      obtain rfl := Option.some.inj ho
      have e0 := hout 0 (by kernel_rfl)
      replace e0 : a'.eval (.tmp 0) = _ := e0.trans rfl
      exact wp_move (.tmp 0) rfl _ e0 ⟨_, rfl, told_of rfl, keepG (St := (SX [b] w (fun S : Wt => [(b, 65, S.C), (b1, 23, lx.C), (b5, 62, (Lk.mk true lx 0).C), (b6, 62, (v.lk m).C)]) v (v.put m (Lk.mk true lx 0)) 6)) [6] SX.loc (by omega) (by decide) hJ⟩
    | 1, ho =>
      obtain rfl := Option.some.inj ho
      have e0 := hout 1 (by kernel_rfl)
      replace e0 : a'.eval (.tmp 1) = _ := e0.trans rfl
      exact wp_move (.tmp 1) rfl _ e0 ⟨_, rfl, told_of rfl, keepG (St := (SX [b] w (fun S : Wt => [(b, 65, S.C), (b1, 23, lx.C), (b5, 62, (Lk.mk true lx 0).C), (b6, 62, (v.lk m).C)]) v (v.put m (Lk.mk true lx 0)) 6)) [6] SX.loc (by omega) (by decide) hJ⟩
    | 2, ho =>
      obtain rfl := Option.some.inj ho
      have e0 := hout 8 (by kernel_rfl)
      replace e0 : a'.eval (.tmp 8) = _ := e0.trans rfl
      have hJ2 := hJ
      obtain ⟨S, hM, _, _⟩ := hJ2
      exact wp_loadA row62 (.tmp 8) rfl b5 0 e0 (Lk.mk true lx 0).C rfl (hM.at 2 _ rfl).range ⟨_, rfl, told_of rfl, keepG (St := (SX [b] w (fun S : Wt => [(b, 65, S.C), (b1, 23, lx.C), (b5, 62, (Lk.mk true lx 0).C), (b6, 62, (v.lk m).C)]) v (v.put m (Lk.mk true lx 0)) 6)) [6] SX.loc (by omega) (by decide) hJ⟩
    | 3, ho =>
      obtain rfl := Option.some.inj ho
      have e0 : a'.eval (.tmp 43) = P0 b := by have h9 := hin 0 43 (by kernel_rfl) (by kernel_rfl); exact h9.1.trans (told_is _ h9.2 rfl)
      exact o_nil (.tmp 43) rfl _ e0 ⟨_, rfl, told_of rfl, keepG (St := (SX [b] w (fun S : Wt => [(b, 65, S.C), (b1, 23, lx.C), (b5, 62, (Lk.mk true lx 0).C), (b6, 62, (v.lk m).C)]) v (v.put m (Lk.mk true lx 0)) 6)) [6] SX.loc (by omega) (by decide) hJ⟩
    | 4, ho =>
      obtain rfl := Option.some.inj ho
      have e0 : a'.eval (.tmp 46) = P0 b := by have h9 := hin 3 46 (by kernel_rfl) (by kernel_rfl); exact h9.1.trans (told_is _ h9.2 rfl)
      exact o_fld65_2 (.tmp 46) rfl b 0 e0 ⟨_, rfl, told_of rfl, keepG (St := (SX [b] w (fun S : Wt => [(b, 65, S.C), (b1, 23, lx.C), (b5, 62, (Lk.mk true lx 0).C), (b6, 62, (v.lk m).C)]) v (v.put m (Lk.mk true lx 0)) 6)) [6] SX.loc (by omega) (by decide) hJ⟩
    | 5, ho =>
      obtain rfl := Option.some.inj ho
      have e0 : a'.eval (.tmp 47) = .pointer (some ⟨b, 0 + 2, none⟩) := by have h9 := hin 4 47 (by kernel_rfl) (by kernel_rfl); exact h9.1.trans (told_is _ h9.2 rfl)
      have e1 : a'.eval (.tmp 44) = .int .i64 m := by have h9 := hin 1 44 (by kernel_rfl) (by kernel_rfl); exact h9.1.trans (told_is _ h9.2 rfl)
      exact o_idx63 (.tmp 47) (.tmp 44) rfl b m m0 m8 e0 e1 ⟨_, rfl, told_of rfl, keepG (St := (SX [b] w (fun S : Wt => [(b, 65, S.C), (b1, 23, lx.C), (b5, 62, (Lk.mk true lx 0).C), (b6, 62, (v.lk m).C)]) v (v.put m (Lk.mk true lx 0)) 6)) [6] SX.loc (by omega) (by decide) hJ⟩
    | 6, ho =>
      obtain rfl := Option.some.inj ho
      have e0 : a'.eval (.tmp 48) = .pointer (some ⟨b, 2 + m.toNat * 5, none⟩) := by have h9 := hin 5 48 (by kernel_rfl) (by kernel_rfl); exact h9.1.trans (told_is _ h9.2 rfl)
      have e1 : a'.eval (.tmp 45) = aggV (Lk.mk true lx 0).C := by have h9 := hin 2 45 (by kernel_rfl) (by kernel_rfl); exact h9.1.trans (told_is _ h9.2 rfl)
      obtain ⟨S, hM, hS0, _⟩ := hJ
      obtain rfl := (hS0 hlf).symm
      exact o_stLk row62 (.tmp 48) (.tmp 45) rfl rfl b m v (Lk.mk true lx 0) e0 e1 (hM.at 0 _ rfl) m8n hv.len (fun W hB hK => ⟨undef, rfl, told_no rfl, nextG (St := (SX [b] w (fun S : Wt => [(b, 65, S.C), (b1, 23, lx.C), (b5, 62, (Lk.mk true lx 0).C), (b6, 62, (v.lk m).C)]) v (v.put m (Lk.mk true lx 0)) 6)) (by omega) ⟨_, hM.mut 0 rfl hK hB, (fun h => by cases h), fun _ => rfl⟩⟩)
  intro l_ vs4 V4 hl hJ htold
  have t0 : vs4 0 = P0 b := told_is _ (htold 0 (by decide)) rfl
  have t1 : vs4 1 = .int .i64 m := told_is _ (htold 1 (by decide)) rfl
  have t2 : vs4 2 = aggV (Lk.mk true lx 0).C := told_is _ (htold 2 (by decide)) rfl
  have t3 : vs4 3 = P0 b := told_is _ (htold 3 (by decide)) rfl
  have t4 : vs4 4 = .pointer (some ⟨b, 0 + 2, none⟩) := told_is _ (htold 4 (by decide)) rfl
  have t5 : vs4 5 = .pointer (some ⟨b, 2 + m.toNat * 5, none⟩) := told_is _ (htold 5 (by decide)) rfl
  rw [show (List.range 7).map vs4 = [vs4 0, vs4 1, vs4 2, vs4 3, vs4 4, vs4 5, vs4 6] from rfl]
  simp only [t0, t1, t2, t3, t4, t5, putAll, Act.put, List.setIfInBounds_toArray, List.set_cons_succ, List.set_cons_zero]
  clear t0 t1 t2 t3 t4 t5 htold
  obtain ⟨S4, hM4, _, hS4⟩ := hJ
  obtain rfl := hS4 (hl 6 (by decide))
  replace M : Hid (Mm [b] w V4 [(b, 65, (v.put m (Lk.mk true lx 0)).C), (b1, 23, lx.C), (b5, 62, (Lk.mk true lx 0).C), (b6, 62, (v.lk m).C)]) := hide hM4
  clear hS4 hM4 hl
  go_wp2_with fail
  refine wp_region_any mixed (wpAny_tq 9 rfl (by kernel_rfl) [some (.pointer (some ⟨b5, 0 + 4, none⟩)), some (.int .i64 (Lk.mk true lx 0).age), some (P0 b), some (P0 b), some (.pointer (some ⟨b, 0 + 1, none⟩)), some (.int .i64 v.p), some (.bool (decide (v.p ≤ (Lk.mk true lx 0).age))), some (.bool (decide (v.p ≤ (Lk.mk true lx 0).age))), some (.int .i64 0)] rfl (by kernel_rfl) (by kernel_rfl) ?_ ?_)
  · intro i o' hi hsk ho a' w2 hout hin hk2
    replace hk2 : Kept [] V4 w2 := ⟨hk2.os, hk2.tape, hk2.output, hk2.size, hk2.block⟩
    match i, ho, hsk with
    | 0, ho, hsk =>
      obtain rfl := Option.some.inj ho
      exact o_fld62_2 (.tmp 8) rfl b5 0 ((hout 8 (by kernel_rfl)).trans rfl) ⟨_, rfl, tq_is _ _ _ _ rfl, Kept.refl _ _, fun _ _ _ _ _ => trivial⟩
    | 1, ho, hsk =>
      obtain rfl := Option.some.inj ho
      have e0 : a'.eval (.tmp 49) = .pointer (some ⟨b5, 0 + 4, none⟩) := is_tq (hin 0 49 (by kernel_rfl) (by kernel_rfl)) rfl
      exact o_load3 (.tmp 49) rfl _ _ e0 (fits_cell (((unhide M).step hk2).at 2 _ rfl) 4 _ rfl) ⟨_, rfl, tq_is _ _ _ _ rfl, Kept.refl _ _, fun _ _ _ _ _ => trivial⟩
    | 2, ho, hsk =>
      obtain rfl := Option.some.inj ho
      exact wp_move (.tmp 0) rfl _ ((hout 0 (by kernel_rfl)).trans rfl) ⟨_, rfl, tq_is _ _ _ _ rfl, Kept.refl _ _, fun _ _ _ _ _ => trivial⟩
    | 3, ho, hsk =>
      obtain rfl := Option.some.inj ho
      have e0 : a'.eval (.tmp 51) = P0 b := is_tq (hin 2 51 (by kernel_rfl) (by kernel_rfl)) rfl
      exact o_nil (.tmp 51) rfl _ e0 ⟨_, rfl, tq_is _ _ _ _ rfl, Kept.refl _ _, fun _ _ _ _ _ => trivial⟩
    | 4, ho, hsk =>
      obtain rfl := Option.some.inj ho
      have e0 : a'.eval (.tmp 52) = P0 b := is_tq (hin 3 52 (by kernel_rfl) (by kernel_rfl)) rfl
      exact o_fld65_1 (.tmp 52) rfl b 0 e0 ⟨_, rfl, tq_is _ _ _ _ rfl, Kept.refl _ _, fun _ _ _ _ _ => trivial⟩
    | 5, ho, hsk =>
      obtain rfl := Option.some.inj ho
      have e0 : a'.eval (.tmp 53) = .pointer (some ⟨b, 0 + 1, none⟩) := is_tq (hin 4 53 (by kernel_rfl) (by kernel_rfl)) rfl
      exact o_load3 (.tmp 53) rfl _ _ e0 ((((unhide M).step hk2).at 0 _ rfl).p) ⟨_, rfl, tq_is _ _ _ _ rfl, Kept.refl _ _, fun _ _ _ _ _ => trivial⟩
    | 6, ho, hsk =>
      obtain rfl := Option.some.inj ho
      have e0 : a'.eval (.tmp 50) = .int .i64 (Lk.mk true lx 0).age := is_tq (hin 1 50 (by kernel_rfl) (by kernel_rfl)) rfl
      have e1 : a'.eval (.tmp 54) = .int .i64 v.p := is_tq (hin 5 54 (by kernel_rfl) (by kernel_rfl)) rfl
      exact o_geq3 (.tmp 50) (.tmp 54) rfl _ _ _ rfl e0 e1 ⟨_, rfl, tq_is _ _ _ _ rfl, Kept.refl _ _, fun _ _ _ _ _ => trivial⟩
    | 7, ho, hsk =>
      obtain rfl := Option.some.inj ho
      have e0 : a'.eval (.tmp 55) = .bool (decide (v.p ≤ (Lk.mk true lx 0).age)) := is_tq (hin 6 55 (by kernel_rfl) (by kernel_rfl)) rfl
      exact wp_assignV (.tmp 55) rfl _ e0 ⟨_, rfl, tq_is _ _ _ _ rfl, Kept.refl _ _, fun _ _ _ _ _ => trivial⟩
    | 8, ho, hsk =>
      obtain rfl := Option.some.inj ho
      exact wp_assignV _ rfl _ rfl ⟨_, rfl, tq_is _ _ _ _ rfl, Kept.refl _ _, fun _ _ _ _ _ => trivial⟩
  intro w9 hk9
  replace hk9 : Kept [] V4 w9 := ⟨hk9.os, hk9.tape, hk9.output, hk9.size, hk9.block⟩
  simp only [valsQ, List.map_cons, List.map_nil, Option.getD_some, List.take_succ_cons, List.take_zero, putAll, Act.put, List.setIfInBounds_toArray, List.set_cons_succ, List.set_cons_zero]
  refine wpAny_done (by kernel_rfl) ?_ _
  go_wp2_with fail
  go_ret2
  have h9 := (unhide M).step hk9
  exact ⟨rfl, h9.at 0 _ rfl, h9.kept⟩
set_option maxHeartbeats 2000000 in
theorem look_d {A : Int} (v : Wt) (b : Nat) (m : Int) (lx : Le) (w : World) (hB : Blk w b 65 v.C) (hv : v.Ok A) (hh : v.has m = true) (hm : lx.may = true) (his : (v.lk m).is = true) (hq : decide ((v.lk m).said = lx) = false) : Calls Try.prog 21 #[P0 b, .int .i64 m, aggV lx.C] w fun e w' => e = .returned (.tuple #[.bool (decide (v.p ≤ (Lk.mk true lx 0).age)), .int .i64 0]) ∧ Blk w' b 65 (v.put m (Lk.mk true lx 0)).C ∧ Kept [b] w w' := by
  have P39 : ∀ W, Blk W b 65 v.C → Hid (Calls Try.prog 39 #[P0 b] W fun e w' => e = .returned (.bool false) ∧ w' = W) := fun W hW => hide (none_is v b W hW hv.n.1)
  have P40 : ∀ W, Blk W b 65 v.C → Hid (Calls Try.prog 40 #[P0 b, .int .i64 m] W fun e w' => e = .returned (.bool true) ∧ w' = W) := fun W hW => hide (by have := has_is v b m W hW hv.n.1; rw [hh] at this; exact this)
  have P24 : ∀ W, Hid (Calls Try.prog 24 #[aggV lx.C] W fun e w' => e = .returned (.bool true) ∧ Kept [] W w') := fun W => hide (by have := may24 lx W; rw [hm] at this; exact this)
  obtain ⟨m0, m8⟩ := has_lt hv hh
  have m8n : m.toNat < 8 := by omega
  go_enter Try.func21, Try.ntmps21
  have M : Hid (Mm [b] w w [(b, 65, v.C)]) := hide (Mm.one hB)
  go_wp2_with (
    first
    | (refine wpBoxV rfl (.tmp 2) rfl (lx.C) rfl ?_
       intro W1 b1 e1 B1 K1
       replace M : Hid (Mm [b] w W1 [(b, 65, v.C), (b1, 23, lx.C)]) := hide ((unhide M).new e1 B1 K1)
       clear e1 B1 K1
       refine Stp.go ?_))
  constructor
  go_wp2_with (
    first
    | (go_at_call 39
       refine (unhide (P39 _ ((unhide M).at 0 _ rfl))).mono ?_
       rintro e W2 ⟨rfl, q2⟩
       replace q2 := q2.symm
       subst q2
       refine Stp.go ?_))
  constructor
  go_wp2_with (
    first
    | (go_at_call 40
       refine (unhide (P40 _ ((unhide M).at 0 _ rfl))).mono ?_
       rintro e W3 ⟨rfl, q3⟩
       replace q3 := q3.symm
       subst q3
       refine Stp.go ?_))
  constructor
  go_wp2_with (
    first
    | (refine wpLoadG row23 (.tmp 5) rfl rfl b1 0 rfl (lx.C) rfl ((unhide M).at 1 _ rfl).range ?_
       refine Stp.go ?_))
  constructor
  go_wp2_with (
    first
    | (go_at_call 24
       refine (unhide (P24 _)).mono ?_
       rintro e W4 ⟨rfl, K4⟩
       replace M : Hid (Mm [b] w W4 [(b, 65, v.C), (b1, 23, lx.C)]) := hide ((unhide M).step K4)
       clear K4
       refine Stp.go ?_))
  constructor
  go_wp2_with (
    first
    | (refine wpLoadA row23 rfl (.tmp 5) rfl b1 0 rfl (lx.C) rfl ((unhide M).at 1 _ rfl).range ?_
       refine Stp.go ?_))
  constructor
  go_wp2_with (
    first
    | (refine wpBuildP (by rfl) #[(0, .const (.bool true)), (1, .tmp 23)] (by rfl) #[(0, .bool true), (1, aggV lx.C)] (by kernel_rfl) (Lk.mk true lx 0).C (build62p _ lx) ?_
       refine Stp.go ?_))
  constructor
  go_wp2_with (
    first
    | (refine wpNew row62 (lk0.C) rfl zero62 8 rfl rfl rfl (.tmp 24) rfl rfl rfl ((Lk.mk true lx 0).C) rfl (lkC_one _) (by kernel_rfl) (by kernel_rfl) ?_
       intro W5 b5 e5 B5 K5
       replace M : Hid (Mm [b] w W5 [(b, 65, v.C), (b1, 23, lx.C), (b5, 62, (Lk.mk true lx 0).C)]) := hide ((unhide M).new e5 B5 K5)
       clear e5 B5 K5
       refine Stp.go ?_))
  constructor
  go_wp2_with (
    first
    | (refine wpLoadA row62 rfl (.tmp 29) rfl b (2 + m.toNat * 5) rfl ((v.lk m).C) rfl (((unhide M).at 0 _ rfl).lk hv hh) ?_
       refine Stp.go ?_))
  constructor
  go_wp2_with (
    first
    | (refine wpNew row62 (lk0.C) rfl zero62 9 rfl rfl rfl (.tmp 30) rfl rfl rfl ((v.lk m).C) rfl (lkC_one _) (by kernel_rfl) (by kernel_rfl) ?_
       intro W6 b6 e6 B6 K6
       replace M : Hid (Mm [b] w W6 [(b, 65, v.C), (b1, 23, lx.C), (b5, 62, (Lk.mk true lx 0).C), (b6, 62, (v.lk m).C)]) := hide ((unhide M).new e6 B6 K6)
       clear e6 B6 K6
       have c0 : W6.cell? ⟨b6, 0, none⟩ = some (.bool true) := by rw [← his]; exact fits_cell ((unhide M).at 3 _ rfl) 0 _ rfl
       refine Stp.go ?_))
  constructor
  go_wp2_with (
    first
    | (refine wpLoadG row23 (.tmp 34) rfl rfl b6 (1) rfl ((v.lk m).said.C) rfl (((unhide M).at 3 _ rfl).rangeIn _ (fun j hj => said_in _ j hj)) ?_
       refine Stp.go ?_))
  constructor
  go_wp2_with (
    first
    | (refine wpLoadG row23 (.tmp 5) rfl rfl b1 0 rfl (lx.C) rfl ((unhide M).at 1 _ rfl).range ?_
       refine Stp.go ?_))
  constructor
  go_wp2_with (
    first
    | (refine wpEqlG 23 23 guard23 (.tmp 35) (.tmp 36) rfl rfl ((v.lk m).said.C) (lx.C) rfl rfl false ((eqL23 _ _ _).trans (by rw [hq])) ?_
       refine Stp.go ?_))
  constructor
  go_wp2_with fail
  refine wp_region_any mixed (wpAny_gx 7 rfl (by kernel_rfl) [some (P0 b), some (.int .i64 m), some (aggV (Lk.mk true lx 0).C), some (P0 b), some (.pointer (some ⟨b, 0 + 2, none⟩)), some (.pointer (some ⟨b, 2 + m.toNat * 5, none⟩)), none] rfl (by kernel_rfl) (fun l vs W => (SX [b] w (fun S : Wt => [(b, 65, S.C), (b1, 23, lx.C), (b5, 62, (Lk.mk true lx 0).C), (b6, 62, (v.lk m).C)]) v (v.put m (Lk.mk true lx 0)) 6) (fun i => l.getD i false) vs W) (⟨_, (unhide M).drew, (fun _ => rfl), fun h => by cases h⟩) ?_ ?_)
  · intro ix o' hi ho a' w2 l vs hls hlf hJ hout hin hdep hnot
    match ix, ho with
    | 0, ho =>
      obtain rfl := Option.some.inj ho
      have e0 := hout 0 (by kernel_rfl)
      replace e0 : a'.eval (.tmp 0) = _ := e0.trans rfl
      exact wp_move (.tmp 0) rfl _ e0 ⟨_, rfl, told_of rfl, keepG (St := (SX [b] w (fun S : Wt => [(b, 65, S.C), (b1, 23, lx.C), (b5, 62, (Lk.mk true lx 0).C), (b6, 62, (v.lk m).C)]) v (v.put m (Lk.mk true lx 0)) 6)) [6] SX.loc (by omega) (by decide) hJ⟩
    | 1, ho =>
      obtain rfl := Option.some.inj ho
      have e0 := hout 1 (by kernel_rfl)
      replace e0 : a'.eval (.tmp 1) = _ := e0.trans rfl
      exact wp_move (.tmp 1) rfl _ e0 ⟨_, rfl, told_of rfl, keepG (St := (SX [b] w (fun S : Wt => [(b, 65, S.C), (b1, 23, lx.C), (b5, 62, (Lk.mk true lx 0).C), (b6, 62, (v.lk m).C)]) v (v.put m (Lk.mk true lx 0)) 6)) [6] SX.loc (by omega) (by decide) hJ⟩
    | 2, ho =>
      obtain rfl := Option.some.inj ho
      have e0 := hout 8 (by kernel_rfl)
      replace e0 : a'.eval (.tmp 8) = _ := e0.trans rfl
      have hJ2 := hJ
      obtain ⟨S, hM, _, _⟩ := hJ2
      exact wp_loadA row62 (.tmp 8) rfl b5 0 e0 (Lk.mk true lx 0).C rfl (hM.at 2 _ rfl).range ⟨_, rfl, told_of rfl, keepG (St := (SX [b] w (fun S : Wt => [(b, 65, S.C), (b1, 23, lx.C), (b5, 62, (Lk.mk true lx 0).C), (b6, 62, (v.lk m).C)]) v (v.put m (Lk.mk true lx 0)) 6)) [6] SX.loc (by omega) (by decide) hJ⟩
    | 3, ho =>
      obtain rfl := Option.some.inj ho
      have e0 : a'.eval (.tmp 43) = P0 b := by have h9 := hin 0 43 (by kernel_rfl) (by kernel_rfl); exact h9.1.trans (told_is _ h9.2 rfl)
      exact o_nil (.tmp 43) rfl _ e0 ⟨_, rfl, told_of rfl, keepG (St := (SX [b] w (fun S : Wt => [(b, 65, S.C), (b1, 23, lx.C), (b5, 62, (Lk.mk true lx 0).C), (b6, 62, (v.lk m).C)]) v (v.put m (Lk.mk true lx 0)) 6)) [6] SX.loc (by omega) (by decide) hJ⟩
    | 4, ho =>
      obtain rfl := Option.some.inj ho
      have e0 : a'.eval (.tmp 46) = P0 b := by have h9 := hin 3 46 (by kernel_rfl) (by kernel_rfl); exact h9.1.trans (told_is _ h9.2 rfl)
      exact o_fld65_2 (.tmp 46) rfl b 0 e0 ⟨_, rfl, told_of rfl, keepG (St := (SX [b] w (fun S : Wt => [(b, 65, S.C), (b1, 23, lx.C), (b5, 62, (Lk.mk true lx 0).C), (b6, 62, (v.lk m).C)]) v (v.put m (Lk.mk true lx 0)) 6)) [6] SX.loc (by omega) (by decide) hJ⟩
    | 5, ho =>
      obtain rfl := Option.some.inj ho
      have e0 : a'.eval (.tmp 47) = .pointer (some ⟨b, 0 + 2, none⟩) := by have h9 := hin 4 47 (by kernel_rfl) (by kernel_rfl); exact h9.1.trans (told_is _ h9.2 rfl)
      have e1 : a'.eval (.tmp 44) = .int .i64 m := by have h9 := hin 1 44 (by kernel_rfl) (by kernel_rfl); exact h9.1.trans (told_is _ h9.2 rfl)
      exact o_idx63 (.tmp 47) (.tmp 44) rfl b m m0 m8 e0 e1 ⟨_, rfl, told_of rfl, keepG (St := (SX [b] w (fun S : Wt => [(b, 65, S.C), (b1, 23, lx.C), (b5, 62, (Lk.mk true lx 0).C), (b6, 62, (v.lk m).C)]) v (v.put m (Lk.mk true lx 0)) 6)) [6] SX.loc (by omega) (by decide) hJ⟩
    | 6, ho =>
      obtain rfl := Option.some.inj ho
      have e0 : a'.eval (.tmp 48) = .pointer (some ⟨b, 2 + m.toNat * 5, none⟩) := by have h9 := hin 5 48 (by kernel_rfl) (by kernel_rfl); exact h9.1.trans (told_is _ h9.2 rfl)
      have e1 : a'.eval (.tmp 45) = aggV (Lk.mk true lx 0).C := by have h9 := hin 2 45 (by kernel_rfl) (by kernel_rfl); exact h9.1.trans (told_is _ h9.2 rfl)
      obtain ⟨S, hM, hS0, _⟩ := hJ
      obtain rfl := (hS0 hlf).symm
      exact o_stLk row62 (.tmp 48) (.tmp 45) rfl rfl b m v (Lk.mk true lx 0) e0 e1 (hM.at 0 _ rfl) m8n hv.len (fun W hB hK => ⟨undef, rfl, told_no rfl, nextG (St := (SX [b] w (fun S : Wt => [(b, 65, S.C), (b1, 23, lx.C), (b5, 62, (Lk.mk true lx 0).C), (b6, 62, (v.lk m).C)]) v (v.put m (Lk.mk true lx 0)) 6)) (by omega) ⟨_, hM.mut 0 rfl hK hB, (fun h => by cases h), fun _ => rfl⟩⟩)
  intro l_ vs4 V4 hl hJ htold
  have t0 : vs4 0 = P0 b := told_is _ (htold 0 (by decide)) rfl
  have t1 : vs4 1 = .int .i64 m := told_is _ (htold 1 (by decide)) rfl
  have t2 : vs4 2 = aggV (Lk.mk true lx 0).C := told_is _ (htold 2 (by decide)) rfl
  have t3 : vs4 3 = P0 b := told_is _ (htold 3 (by decide)) rfl
  have t4 : vs4 4 = .pointer (some ⟨b, 0 + 2, none⟩) := told_is _ (htold 4 (by decide)) rfl
  have t5 : vs4 5 = .pointer (some ⟨b, 2 + m.toNat * 5, none⟩) := told_is _ (htold 5 (by decide)) rfl
  rw [show (List.range 7).map vs4 = [vs4 0, vs4 1, vs4 2, vs4 3, vs4 4, vs4 5, vs4 6] from rfl]
  simp only [t0, t1, t2, t3, t4, t5, putAll, Act.put, List.setIfInBounds_toArray, List.set_cons_succ, List.set_cons_zero]
  clear t0 t1 t2 t3 t4 t5 htold
  obtain ⟨S4, hM4, _, hS4⟩ := hJ
  obtain rfl := hS4 (hl 6 (by decide))
  replace M : Hid (Mm [b] w V4 [(b, 65, (v.put m (Lk.mk true lx 0)).C), (b1, 23, lx.C), (b5, 62, (Lk.mk true lx 0).C), (b6, 62, (v.lk m).C)]) := hide hM4
  clear hS4 hM4 hl
  go_wp2_with fail
  refine wp_region_any mixed (wpAny_tq 9 rfl (by kernel_rfl) [some (.pointer (some ⟨b5, 0 + 4, none⟩)), some (.int .i64 (Lk.mk true lx 0).age), some (P0 b), some (P0 b), some (.pointer (some ⟨b, 0 + 1, none⟩)), some (.int .i64 v.p), some (.bool (decide (v.p ≤ (Lk.mk true lx 0).age))), some (.bool (decide (v.p ≤ (Lk.mk true lx 0).age))), some (.int .i64 0)] rfl (by kernel_rfl) (by kernel_rfl) ?_ ?_)
  · intro i o' hi hsk ho a' w2 hout hin hk2
    replace hk2 : Kept [] V4 w2 := ⟨hk2.os, hk2.tape, hk2.output, hk2.size, hk2.block⟩
    match i, ho, hsk with
    | 0, ho, hsk =>
      obtain rfl := Option.some.inj ho
      exact o_fld62_2 (.tmp 8) rfl b5 0 ((hout 8 (by kernel_rfl)).trans rfl) ⟨_, rfl, tq_is _ _ _ _ rfl, Kept.refl _ _, fun _ _ _ _ _ => trivial⟩
    | 1, ho, hsk =>
      obtain rfl := Option.some.inj ho
      have e0 : a'.eval (.tmp 49) = .pointer (some ⟨b5, 0 + 4, none⟩) := is_tq (hin 0 49 (by kernel_rfl) (by kernel_rfl)) rfl
      exact o_load3 (.tmp 49) rfl _ _ e0 (fits_cell (((unhide M).step hk2).at 2 _ rfl) 4 _ rfl) ⟨_, rfl, tq_is _ _ _ _ rfl, Kept.refl _ _, fun _ _ _ _ _ => trivial⟩
    | 2, ho, hsk =>
      obtain rfl := Option.some.inj ho
      exact wp_move (.tmp 0) rfl _ ((hout 0 (by kernel_rfl)).trans rfl) ⟨_, rfl, tq_is _ _ _ _ rfl, Kept.refl _ _, fun _ _ _ _ _ => trivial⟩
    | 3, ho, hsk =>
      obtain rfl := Option.some.inj ho
      have e0 : a'.eval (.tmp 51) = P0 b := is_tq (hin 2 51 (by kernel_rfl) (by kernel_rfl)) rfl
      exact o_nil (.tmp 51) rfl _ e0 ⟨_, rfl, tq_is _ _ _ _ rfl, Kept.refl _ _, fun _ _ _ _ _ => trivial⟩
    | 4, ho, hsk =>
      obtain rfl := Option.some.inj ho
      have e0 : a'.eval (.tmp 52) = P0 b := is_tq (hin 3 52 (by kernel_rfl) (by kernel_rfl)) rfl
      exact o_fld65_1 (.tmp 52) rfl b 0 e0 ⟨_, rfl, tq_is _ _ _ _ rfl, Kept.refl _ _, fun _ _ _ _ _ => trivial⟩
    | 5, ho, hsk =>
      obtain rfl := Option.some.inj ho
      have e0 : a'.eval (.tmp 53) = .pointer (some ⟨b, 0 + 1, none⟩) := is_tq (hin 4 53 (by kernel_rfl) (by kernel_rfl)) rfl
      exact o_load3 (.tmp 53) rfl _ _ e0 ((((unhide M).step hk2).at 0 _ rfl).p) ⟨_, rfl, tq_is _ _ _ _ rfl, Kept.refl _ _, fun _ _ _ _ _ => trivial⟩
    | 6, ho, hsk =>
      obtain rfl := Option.some.inj ho
      have e0 : a'.eval (.tmp 50) = .int .i64 (Lk.mk true lx 0).age := is_tq (hin 1 50 (by kernel_rfl) (by kernel_rfl)) rfl
      have e1 : a'.eval (.tmp 54) = .int .i64 v.p := is_tq (hin 5 54 (by kernel_rfl) (by kernel_rfl)) rfl
      exact o_geq3 (.tmp 50) (.tmp 54) rfl _ _ _ rfl e0 e1 ⟨_, rfl, tq_is _ _ _ _ rfl, Kept.refl _ _, fun _ _ _ _ _ => trivial⟩
    | 7, ho, hsk =>
      obtain rfl := Option.some.inj ho
      have e0 : a'.eval (.tmp 55) = .bool (decide (v.p ≤ (Lk.mk true lx 0).age)) := is_tq (hin 6 55 (by kernel_rfl) (by kernel_rfl)) rfl
      exact wp_assignV (.tmp 55) rfl _ e0 ⟨_, rfl, tq_is _ _ _ _ rfl, Kept.refl _ _, fun _ _ _ _ _ => trivial⟩
    | 8, ho, hsk =>
      obtain rfl := Option.some.inj ho
      exact wp_assignV _ rfl _ rfl ⟨_, rfl, tq_is _ _ _ _ rfl, Kept.refl _ _, fun _ _ _ _ _ => trivial⟩
  intro w9 hk9
  replace hk9 : Kept [] V4 w9 := ⟨hk9.os, hk9.tape, hk9.output, hk9.size, hk9.block⟩
  simp only [valsQ, List.map_cons, List.map_nil, Option.getD_some, List.take_succ_cons, List.take_zero, putAll, Act.put, List.setIfInBounds_toArray, List.set_cons_succ, List.set_cons_zero]
  refine wpAny_done (by kernel_rfl) ?_ _
  go_wp2_with fail
  go_ret2
  have h9 := (unhide M).step hk9
  exact ⟨rfl, h9.at 0 _ rfl, h9.kept⟩
set_option maxHeartbeats 2000000 in
theorem look_e {A : Int} (v : Wt) (b : Nat) (m : Int) (lx : Le) (w : World) (hB : Blk w b 65 v.C) (hv : v.Ok A) (hh : v.has m = true) (hm : lx.may = true) (his : (v.lk m).is = true) (hq : decide ((v.lk m).said = lx) = true) (hA : 0 ≤ A ∧ A ≤ 1000000) : Calls Try.prog 21 #[P0 b, .int .i64 m, aggV lx.C] w fun e w' => e = .returned (.tuple #[.bool (decide (v.p ≤ (Lk.mk true lx ((v.lk m).age + 1)).age)), .int .i64 0]) ∧ Blk w' b 65 (v.put m (Lk.mk true lx ((v.lk m).age + 1))).C ∧ Kept [b] w w' := by
  have P39 : ∀ W, Blk W b 65 v.C → Hid (Calls Try.prog 39 #[P0 b] W fun e w' => e = .returned (.bool false) ∧ w' = W) := fun W hW => hide (none_is v b W hW hv.n.1)
  have P40 : ∀ W, Blk W b 65 v.C → Hid (Calls Try.prog 40 #[P0 b, .int .i64 m] W fun e w' => e = .returned (.bool true) ∧ w' = W) := fun W hW => hide (by have := has_is v b m W hW hv.n.1; rw [hh] at this; exact this)
  have P24 : ∀ W, Hid (Calls Try.prog 24 #[aggV lx.C] W fun e w' => e = .returned (.bool true) ∧ Kept [] W w') := fun W => hide (by have := may24 lx W; rw [hm] at this; exact this)
  obtain ⟨m0, m8⟩ := has_lt hv hh
  have m8n : m.toNat < 8 := by omega
  obtain ⟨a0, a1⟩ := lk_age hv hA.1 m
  obtain ⟨A0, A1⟩ := hA
  go_enter Try.func21, Try.ntmps21
  have M : Hid (Mm [b] w w [(b, 65, v.C)]) := hide (Mm.one hB)
  go_wp2_with (
    first
    | (refine wpBoxV rfl (.tmp 2) rfl (lx.C) rfl ?_
       intro W1 b1 e1 B1 K1
       replace M : Hid (Mm [b] w W1 [(b, 65, v.C), (b1, 23, lx.C)]) := hide ((unhide M).new e1 B1 K1)
       clear e1 B1 K1
       refine Stp.go ?_))
  constructor
  go_wp2_with (
    first
    | (go_at_call 39
       refine (unhide (P39 _ ((unhide M).at 0 _ rfl))).mono ?_
       rintro e W2 ⟨rfl, q2⟩
       replace q2 := q2.symm
       subst q2
       refine Stp.go ?_))
  constructor
  go_wp2_with (
    first
    | (go_at_call 40
       refine (unhide (P40 _ ((unhide M).at 0 _ rfl))).mono ?_
       rintro e W3 ⟨rfl, q3⟩
       replace q3 := q3.symm
       subst q3
       refine Stp.go ?_))
  constructor
  go_wp2_with (
    first
    | (refine wpLoadG row23 (.tmp 5) rfl rfl b1 0 rfl (lx.C) rfl ((unhide M).at 1 _ rfl).range ?_
       refine Stp.go ?_))
  constructor
  go_wp2_with (
    first
    | (go_at_call 24
       refine (unhide (P24 _)).mono ?_
       rintro e W4 ⟨rfl, K4⟩
       replace M : Hid (Mm [b] w W4 [(b, 65, v.C), (b1, 23, lx.C)]) := hide ((unhide M).step K4)
       clear K4
       refine Stp.go ?_))
  constructor
  go_wp2_with (
    first
    | (refine wpLoadA row23 rfl (.tmp 5) rfl b1 0 rfl (lx.C) rfl ((unhide M).at 1 _ rfl).range ?_
       refine Stp.go ?_))
  constructor
  go_wp2_with (
    first
    | (refine wpBuildP (by rfl) #[(0, .const (.bool true)), (1, .tmp 23)] (by rfl) #[(0, .bool true), (1, aggV lx.C)] (by kernel_rfl) (Lk.mk true lx 0).C (build62p _ lx) ?_
       refine Stp.go ?_))
  constructor
  go_wp2_with (
    first
    | (refine wpNew row62 (lk0.C) rfl zero62 8 rfl rfl rfl (.tmp 24) rfl rfl rfl ((Lk.mk true lx 0).C) rfl (lkC_one _) (by kernel_rfl) (by kernel_rfl) ?_
       intro W5 b5 e5 B5 K5
       replace M : Hid (Mm [b] w W5 [(b, 65, v.C), (b1, 23, lx.C), (b5, 62, (Lk.mk true lx 0).C)]) := hide ((unhide M).new e5 B5 K5)
       clear e5 B5 K5
       refine Stp.go ?_))
  constructor
  go_wp2_with (
    first
    | (refine wpLoadA row62 rfl (.tmp 29) rfl b (2 + m.toNat * 5) rfl ((v.lk m).C) rfl (((unhide M).at 0 _ rfl).lk hv hh) ?_
       refine Stp.go ?_))
  constructor
  go_wp2_with (
    first
    | (refine wpNew row62 (lk0.C) rfl zero62 9 rfl rfl rfl (.tmp 30) rfl rfl rfl ((v.lk m).C) rfl (lkC_one _) (by kernel_rfl) (by kernel_rfl) ?_
       intro W6 b6 e6 B6 K6
       replace M : Hid (Mm [b] w W6 [(b, 65, v.C), (b1, 23, lx.C), (b5, 62, (Lk.mk true lx 0).C), (b6, 62, (v.lk m).C)]) := hide ((unhide M).new e6 B6 K6)
       clear e6 B6 K6
       have c0 : W6.cell? ⟨b6, 0, none⟩ = some (.bool true) := by rw [← his]; exact fits_cell ((unhide M).at 3 _ rfl) 0 _ rfl
       refine Stp.go ?_))
  constructor
  go_wp2_with (
    first
    | (refine wpLoadG row23 (.tmp 34) rfl rfl b6 (1) rfl ((v.lk m).said.C) rfl (((unhide M).at 3 _ rfl).rangeIn _ (fun j hj => said_in _ j hj)) ?_
       refine Stp.go ?_))
  constructor
  go_wp2_with (
    first
    | (refine wpLoadG row23 (.tmp 5) rfl rfl b1 0 rfl (lx.C) rfl ((unhide M).at 1 _ rfl).range ?_
       refine Stp.go ?_))
  constructor
  go_wp2_with (
    first
    | (refine wpEqlG 23 23 guard23 (.tmp 35) (.tmp 36) rfl rfl ((v.lk m).said.C) (lx.C) rfl rfl true ((eqL23 _ _ _).trans (by rw [hq])) ?_
       have c4 := fits_cell ((unhide M).at 3 _ rfl) 4 _ rfl
       refine Stp.go ?_))
  constructor
  go_wp2_with (
    first
    | (refine wpStoreM1 size3 rfl (.tmp 42) (.tmp 41) rfl rfl b5 4 2 (.int .i64 ((v.lk m).age + 1)) ⟨rfl, rfl⟩ rfl rfl (unhide M) rfl (by simp [Lk.C]) ?_
       intro W7 N7
       replace M : Hid (Mm [b] w W7 [(b, 65, v.C), (b1, 23, lx.C), (b5, 62, (Lk.mk true lx ((v.lk m).age + 1)).C), (b6, 62, (v.lk m).C)]) := hide N7
       clear N7
       clear c4
       refine Stp.go ?_))
  constructor
  go_wp2_with fail
  refine wp_region_any mixed (wpAny_gx 7 rfl (by kernel_rfl) [some (P0 b), some (.int .i64 m), some (aggV (Lk.mk true lx ((v.lk m).age + 1)).C), some (P0 b), some (.pointer (some ⟨b, 0 + 2, none⟩)), some (.pointer (some ⟨b, 2 + m.toNat * 5, none⟩)), none] rfl (by kernel_rfl) (fun l vs W => (SX [b] w (fun S : Wt => [(b, 65, S.C), (b1, 23, lx.C), (b5, 62, (Lk.mk true lx ((v.lk m).age + 1)).C), (b6, 62, (v.lk m).C)]) v (v.put m (Lk.mk true lx ((v.lk m).age + 1))) 6) (fun i => l.getD i false) vs W) (⟨_, (unhide M).drew, (fun _ => rfl), fun h => by cases h⟩) ?_ ?_)
  · intro ix o' hi ho a' w2 l vs hls hlf hJ hout hin hdep hnot
    match ix, ho with
    | 0, ho =>
      obtain rfl := Option.some.inj ho
      have e0 := hout 0 (by kernel_rfl)
      replace e0 : a'.eval (.tmp 0) = _ := e0.trans rfl
      exact wp_move (.tmp 0) rfl _ e0 ⟨_, rfl, told_of rfl, keepG (St := (SX [b] w (fun S : Wt => [(b, 65, S.C), (b1, 23, lx.C), (b5, 62, (Lk.mk true lx ((v.lk m).age + 1)).C), (b6, 62, (v.lk m).C)]) v (v.put m (Lk.mk true lx ((v.lk m).age + 1))) 6)) [6] SX.loc (by omega) (by decide) hJ⟩
    | 1, ho =>
      obtain rfl := Option.some.inj ho
      have e0 := hout 1 (by kernel_rfl)
      replace e0 : a'.eval (.tmp 1) = _ := e0.trans rfl
      exact wp_move (.tmp 1) rfl _ e0 ⟨_, rfl, told_of rfl, keepG (St := (SX [b] w (fun S : Wt => [(b, 65, S.C), (b1, 23, lx.C), (b5, 62, (Lk.mk true lx ((v.lk m).age + 1)).C), (b6, 62, (v.lk m).C)]) v (v.put m (Lk.mk true lx ((v.lk m).age + 1))) 6)) [6] SX.loc (by omega) (by decide) hJ⟩
    | 2, ho =>
      obtain rfl := Option.some.inj ho
      have e0 := hout 8 (by kernel_rfl)
      replace e0 : a'.eval (.tmp 8) = _ := e0.trans rfl
      have hJ2 := hJ
      obtain ⟨S, hM, _, _⟩ := hJ2
      exact wp_loadA row62 (.tmp 8) rfl b5 0 e0 (Lk.mk true lx ((v.lk m).age + 1)).C rfl (hM.at 2 _ rfl).range ⟨_, rfl, told_of rfl, keepG (St := (SX [b] w (fun S : Wt => [(b, 65, S.C), (b1, 23, lx.C), (b5, 62, (Lk.mk true lx ((v.lk m).age + 1)).C), (b6, 62, (v.lk m).C)]) v (v.put m (Lk.mk true lx ((v.lk m).age + 1))) 6)) [6] SX.loc (by omega) (by decide) hJ⟩
    | 3, ho =>
      obtain rfl := Option.some.inj ho
      have e0 : a'.eval (.tmp 43) = P0 b := by have h9 := hin 0 43 (by kernel_rfl) (by kernel_rfl); exact h9.1.trans (told_is _ h9.2 rfl)
      exact o_nil (.tmp 43) rfl _ e0 ⟨_, rfl, told_of rfl, keepG (St := (SX [b] w (fun S : Wt => [(b, 65, S.C), (b1, 23, lx.C), (b5, 62, (Lk.mk true lx ((v.lk m).age + 1)).C), (b6, 62, (v.lk m).C)]) v (v.put m (Lk.mk true lx ((v.lk m).age + 1))) 6)) [6] SX.loc (by omega) (by decide) hJ⟩
    | 4, ho =>
      obtain rfl := Option.some.inj ho
      have e0 : a'.eval (.tmp 46) = P0 b := by have h9 := hin 3 46 (by kernel_rfl) (by kernel_rfl); exact h9.1.trans (told_is _ h9.2 rfl)
      exact o_fld65_2 (.tmp 46) rfl b 0 e0 ⟨_, rfl, told_of rfl, keepG (St := (SX [b] w (fun S : Wt => [(b, 65, S.C), (b1, 23, lx.C), (b5, 62, (Lk.mk true lx ((v.lk m).age + 1)).C), (b6, 62, (v.lk m).C)]) v (v.put m (Lk.mk true lx ((v.lk m).age + 1))) 6)) [6] SX.loc (by omega) (by decide) hJ⟩
    | 5, ho =>
      obtain rfl := Option.some.inj ho
      have e0 : a'.eval (.tmp 47) = .pointer (some ⟨b, 0 + 2, none⟩) := by have h9 := hin 4 47 (by kernel_rfl) (by kernel_rfl); exact h9.1.trans (told_is _ h9.2 rfl)
      have e1 : a'.eval (.tmp 44) = .int .i64 m := by have h9 := hin 1 44 (by kernel_rfl) (by kernel_rfl); exact h9.1.trans (told_is _ h9.2 rfl)
      exact o_idx63 (.tmp 47) (.tmp 44) rfl b m m0 m8 e0 e1 ⟨_, rfl, told_of rfl, keepG (St := (SX [b] w (fun S : Wt => [(b, 65, S.C), (b1, 23, lx.C), (b5, 62, (Lk.mk true lx ((v.lk m).age + 1)).C), (b6, 62, (v.lk m).C)]) v (v.put m (Lk.mk true lx ((v.lk m).age + 1))) 6)) [6] SX.loc (by omega) (by decide) hJ⟩
    | 6, ho =>
      obtain rfl := Option.some.inj ho
      have e0 : a'.eval (.tmp 48) = .pointer (some ⟨b, 2 + m.toNat * 5, none⟩) := by have h9 := hin 5 48 (by kernel_rfl) (by kernel_rfl); exact h9.1.trans (told_is _ h9.2 rfl)
      have e1 : a'.eval (.tmp 45) = aggV (Lk.mk true lx ((v.lk m).age + 1)).C := by have h9 := hin 2 45 (by kernel_rfl) (by kernel_rfl); exact h9.1.trans (told_is _ h9.2 rfl)
      obtain ⟨S, hM, hS0, _⟩ := hJ
      obtain rfl := (hS0 hlf).symm
      exact o_stLk row62 (.tmp 48) (.tmp 45) rfl rfl b m v (Lk.mk true lx ((v.lk m).age + 1)) e0 e1 (hM.at 0 _ rfl) m8n hv.len (fun W hB hK => ⟨undef, rfl, told_no rfl, nextG (St := (SX [b] w (fun S : Wt => [(b, 65, S.C), (b1, 23, lx.C), (b5, 62, (Lk.mk true lx ((v.lk m).age + 1)).C), (b6, 62, (v.lk m).C)]) v (v.put m (Lk.mk true lx ((v.lk m).age + 1))) 6)) (by omega) ⟨_, hM.mut 0 rfl hK hB, (fun h => by cases h), fun _ => rfl⟩⟩)
  intro l_ vs4 V4 hl hJ htold
  have t0 : vs4 0 = P0 b := told_is _ (htold 0 (by decide)) rfl
  have t1 : vs4 1 = .int .i64 m := told_is _ (htold 1 (by decide)) rfl
  have t2 : vs4 2 = aggV (Lk.mk true lx ((v.lk m).age + 1)).C := told_is _ (htold 2 (by decide)) rfl
  have t3 : vs4 3 = P0 b := told_is _ (htold 3 (by decide)) rfl
  have t4 : vs4 4 = .pointer (some ⟨b, 0 + 2, none⟩) := told_is _ (htold 4 (by decide)) rfl
  have t5 : vs4 5 = .pointer (some ⟨b, 2 + m.toNat * 5, none⟩) := told_is _ (htold 5 (by decide)) rfl
  rw [show (List.range 7).map vs4 = [vs4 0, vs4 1, vs4 2, vs4 3, vs4 4, vs4 5, vs4 6] from rfl]
  simp only [t0, t1, t2, t3, t4, t5, putAll, Act.put, List.setIfInBounds_toArray, List.set_cons_succ, List.set_cons_zero]
  clear t0 t1 t2 t3 t4 t5 htold
  obtain ⟨S4, hM4, _, hS4⟩ := hJ
  obtain rfl := hS4 (hl 6 (by decide))
  replace M : Hid (Mm [b] w V4 [(b, 65, (v.put m (Lk.mk true lx ((v.lk m).age + 1))).C), (b1, 23, lx.C), (b5, 62, (Lk.mk true lx ((v.lk m).age + 1)).C), (b6, 62, (v.lk m).C)]) := hide hM4
  clear hS4 hM4 hl
  go_wp2_with fail
  refine wp_region_any mixed (wpAny_tq 9 rfl (by kernel_rfl) [some (.pointer (some ⟨b5, 0 + 4, none⟩)), some (.int .i64 (Lk.mk true lx ((v.lk m).age + 1)).age), some (P0 b), some (P0 b), some (.pointer (some ⟨b, 0 + 1, none⟩)), some (.int .i64 v.p), some (.bool (decide (v.p ≤ (Lk.mk true lx ((v.lk m).age + 1)).age))), some (.bool (decide (v.p ≤ (Lk.mk true lx ((v.lk m).age + 1)).age))), some (.int .i64 0)] rfl (by kernel_rfl) (by kernel_rfl) ?_ ?_)
  · intro i o' hi hsk ho a' w2 hout hin hk2
    replace hk2 : Kept [] V4 w2 := ⟨hk2.os, hk2.tape, hk2.output, hk2.size, hk2.block⟩
    match i, ho, hsk with
    | 0, ho, hsk =>
      obtain rfl := Option.some.inj ho
      exact o_fld62_2 (.tmp 8) rfl b5 0 ((hout 8 (by kernel_rfl)).trans rfl) ⟨_, rfl, tq_is _ _ _ _ rfl, Kept.refl _ _, fun _ _ _ _ _ => trivial⟩
    | 1, ho, hsk =>
      obtain rfl := Option.some.inj ho
      have e0 : a'.eval (.tmp 49) = .pointer (some ⟨b5, 0 + 4, none⟩) := is_tq (hin 0 49 (by kernel_rfl) (by kernel_rfl)) rfl
      exact o_load3 (.tmp 49) rfl _ _ e0 (fits_cell (((unhide M).step hk2).at 2 _ rfl) 4 _ rfl) ⟨_, rfl, tq_is _ _ _ _ rfl, Kept.refl _ _, fun _ _ _ _ _ => trivial⟩
    | 2, ho, hsk =>
      obtain rfl := Option.some.inj ho
      exact wp_move (.tmp 0) rfl _ ((hout 0 (by kernel_rfl)).trans rfl) ⟨_, rfl, tq_is _ _ _ _ rfl, Kept.refl _ _, fun _ _ _ _ _ => trivial⟩
    | 3, ho, hsk =>
      obtain rfl := Option.some.inj ho
      have e0 : a'.eval (.tmp 51) = P0 b := is_tq (hin 2 51 (by kernel_rfl) (by kernel_rfl)) rfl
      exact o_nil (.tmp 51) rfl _ e0 ⟨_, rfl, tq_is _ _ _ _ rfl, Kept.refl _ _, fun _ _ _ _ _ => trivial⟩
    | 4, ho, hsk =>
      obtain rfl := Option.some.inj ho
      have e0 : a'.eval (.tmp 52) = P0 b := is_tq (hin 3 52 (by kernel_rfl) (by kernel_rfl)) rfl
      exact o_fld65_1 (.tmp 52) rfl b 0 e0 ⟨_, rfl, tq_is _ _ _ _ rfl, Kept.refl _ _, fun _ _ _ _ _ => trivial⟩
    | 5, ho, hsk =>
      obtain rfl := Option.some.inj ho
      have e0 : a'.eval (.tmp 53) = .pointer (some ⟨b, 0 + 1, none⟩) := is_tq (hin 4 53 (by kernel_rfl) (by kernel_rfl)) rfl
      exact o_load3 (.tmp 53) rfl _ _ e0 ((((unhide M).step hk2).at 0 _ rfl).p) ⟨_, rfl, tq_is _ _ _ _ rfl, Kept.refl _ _, fun _ _ _ _ _ => trivial⟩
    | 6, ho, hsk =>
      obtain rfl := Option.some.inj ho
      have e0 : a'.eval (.tmp 50) = .int .i64 (Lk.mk true lx ((v.lk m).age + 1)).age := is_tq (hin 1 50 (by kernel_rfl) (by kernel_rfl)) rfl
      have e1 : a'.eval (.tmp 54) = .int .i64 v.p := is_tq (hin 5 54 (by kernel_rfl) (by kernel_rfl)) rfl
      exact o_geq3 (.tmp 50) (.tmp 54) rfl _ _ _ rfl e0 e1 ⟨_, rfl, tq_is _ _ _ _ rfl, Kept.refl _ _, fun _ _ _ _ _ => trivial⟩
    | 7, ho, hsk =>
      obtain rfl := Option.some.inj ho
      have e0 : a'.eval (.tmp 55) = .bool (decide (v.p ≤ (Lk.mk true lx ((v.lk m).age + 1)).age)) := is_tq (hin 6 55 (by kernel_rfl) (by kernel_rfl)) rfl
      exact wp_assignV (.tmp 55) rfl _ e0 ⟨_, rfl, tq_is _ _ _ _ rfl, Kept.refl _ _, fun _ _ _ _ _ => trivial⟩
    | 8, ho, hsk =>
      obtain rfl := Option.some.inj ho
      exact wp_assignV _ rfl _ rfl ⟨_, rfl, tq_is _ _ _ _ rfl, Kept.refl _ _, fun _ _ _ _ _ => trivial⟩
  intro w9 hk9
  replace hk9 : Kept [] V4 w9 := ⟨hk9.os, hk9.tape, hk9.output, hk9.size, hk9.block⟩
  simp only [valsQ, List.map_cons, List.map_nil, Option.getD_some, List.take_succ_cons, List.take_zero, putAll, Act.put, List.setIfInBounds_toArray, List.set_cons_succ, List.set_cons_zero]
  refine wpAny_done (by kernel_rfl) ?_ _
  go_wp2_with fail
  go_ret2
  have h9 := (unhide M).step hk9
  exact ⟨rfl, h9.at 0 _ rfl, h9.kept⟩
theorem look21 {A : Int} (v : Wt) (b : Nat) (m : Int) (lx : Le) (w : World) (hB : Blk w b 65 v.C) (hv : v.Ok A) (hA : 0 ≤ A ∧ A ≤ 1000000) : Calls Try.prog 21 #[P0 b, .int .i64 m, aggV lx.C] w fun e w' => e = .returned (.tuple #[.bool (v.look m lx).2.1, .int .i64 (v.look m lx).2.2]) ∧ Blk w' b 65 (v.look m lx).1.C ∧ Kept [b] w w' := by
  unfold Wt.look
  cases hh : v.has m with
  | false => rw [if_pos (by simp)]; exact look_a v b m lx w hB hv hh
  | true =>
    cases hm : lx.may with
    | false => rw [if_pos (by simp)]; exact look_b v b m lx w hB hv hh hm
    | true =>
      rw [if_neg (by simp)]
      unfold Wt.see
      cases his : (v.lk m).is with
      | false => rw [if_neg (by simp)]; exact look_c v b m lx w hB hv hh hm his
      | true =>
        by_cases hq : (v.lk m).said = lx
        · rw [if_pos ⟨rfl, hq⟩]; exact look_e v b m lx w hB hv hh hm his (by simpa using hq) hA
        · rw [if_neg (by simp [hq])]; exact look_d v b m lx w hB hv hh hm his (by simpa using hq)

end Go.Proofs.Ythidiolgngkffaa
