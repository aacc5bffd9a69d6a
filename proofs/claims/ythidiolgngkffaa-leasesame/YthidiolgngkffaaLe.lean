/-
  Age, Said, Of, Forget, Clear, Copy.
-/
import Derived.Test.YthidiolgngkffaaLd
namespace Go.Proofs.Ythidiolgngkffaa
set_option maxRecDepth 100000
open Go.RowKit

theorem age22 {A : Int} (v : Wt) (b : Nat) (m : Int) (w : World) (hB : Blk w b 65 v.C) (hv : v.Ok A) : Calls Try.prog 22 #[P0 b, .int .i64 m] w fun e w' => e = .returned (.int .i64 (v.of m).age) ∧ w' = w := by
  unfold Wt.of
  cases hh : v.has m with
  | true =>
    rw [if_pos rfl]
    have P40 : ∀ W, Blk W b 65 v.C → Hid (Calls Try.prog 40 #[P0 b, .int .i64 m] W fun e w' => e = .returned (.bool true) ∧ w' = W) := fun W hW => hide (by have := has_is v b m W hW hv.n.1; rw [hh] at this; exact this)
    obtain ⟨m0, m8⟩ := has_lt hv hh
    have m8n : m.toNat < 8 := by omega
    have c1 := hB.age hv hh
    have P := P40 w hB
    clear P40 hB
    go_enter Try.func22, Try.ntmps22
    go_wp2_with (
      first
      | (go_at_call 40; refine (unhide P).mono ?_; rintro e w2 ⟨rfl, rfl⟩; clear P))
    go_ret
    exact ⟨rfl, rfl⟩
  | false =>
    rw [if_neg (by simp)]
    have P40 : ∀ W, Blk W b 65 v.C → Hid (Calls Try.prog 40 #[P0 b, .int .i64 m] W fun e w' => e = .returned (.bool false) ∧ w' = W) := fun W hW => hide (by have := has_is v b m W hW hv.n.1; rw [hh] at this; exact this)
    have P := P40 w hB
    clear P40 hB
    go_enter Try.func22, Try.ntmps22
    go_wp2_with (
      first
      | (go_at_call 40; refine (unhide P).mono ?_; rintro e w2 ⟨rfl, rfl⟩; clear P))
    go_ret
    exact ⟨rfl, rfl⟩
theorem age_no (p : Value) (m : Int) (w : World) (h : Calls Try.prog 40 #[p, .int .i64 m] w fun e w' => e = .returned (.bool false) ∧ w' = w) : Calls Try.prog 22 #[p, .int .i64 m] w fun e w' => e = .returned (.int .i64 0) ∧ w' = w := by
  have P := hide h
  clear h
  go_enter Try.func22, Try.ntmps22
  go_wp2_with (
    first
    | (go_at_call 40; refine (unhide P).mono ?_; rintro e w2 ⟨rfl, rfl⟩; clear P))
  go_ret
  exact ⟨rfl, rfl⟩
theorem res30 (w : World) (z : Nat) (vs : List Value) (e : Bool) (tmps : Array Value) (h4 : tmps[4]?.getD undef = P0 z) (h5 : tmps[5]?.getD undef = .bool e) (hl : vs.length = 3) (hb : Blk w z 23 vs) : (results Try.f30 tmps).run Try.prog w = .ok (.tuple #[aggV vs, .bool e]) w := by
  have := loadV row23 hl hb
  simp [results, Try.results30, h4, h5, this, asAddr]
theorem res36 (w : World) (z : Nat) (vs : List Value) (tmps : Array Value) (h4 : tmps[4]?.getD undef = P0 z) (hl : vs.length = 5) (hb : Blk w z 76 vs) : (results Try.f36 tmps).run Try.prog w = .ok (aggV vs) w := by
  have := loadV row76 hl hb
  simp [results, Try.results36, h4, this, asAddr]
theorem said_in (k : Lk) (j : Nat) (hj : j < k.said.C.length) : k.C[1 + j]? = k.said.C[j]? := by
  have : j < 3 := by simpa [Le.C] using hj
  rcases (show j = 0 ∨ j = 1 ∨ j = 2 by omega) with rfl | rfl | rfl <;> rfl
set_option maxHeartbeats 2000000 in
theorem said_yes {A : Int} (v : Wt) (b : Nat) (m : Int) (w : World) (hB : Blk w b 65 v.C) (hv : v.Ok A) (hh : v.has m = true) : Calls Try.prog 30 #[P0 b, .int .i64 m] w fun e w' => e = .returned (.tuple #[aggV (v.lk m).said.C, .bool (v.lk m).is]) ∧ Kept [] w w' := by
  have P40 : ∀ W, Blk W b 65 v.C → Hid (Calls Try.prog 40 #[P0 b, .int .i64 m] W fun e w' => e = .returned (.bool true) ∧ w' = W) := fun W hW => hide (by have := has_is v b m W hW hv.n.1; rw [hh] at this; exact this)
  obtain ⟨m0, m8⟩ := has_lt hv hh
  have m8n : m.toNat < 8 := by omega
  go_enter Try.func30, Try.ntmps30
  have M : Hid (Mm [b] w w [(b, 65, v.C)]) := hide (Mm.one hB)
  go_wp2_with (
    first
    | (refine wpAllocW (le0.C) zero23 4 rfl rfl rfl ?_
       intro W1 b1 e1 B1 K1
       replace M : Hid (Mm [b] w W1 [(b, 65, v.C), (b1, 23, le0.C)]) := hide ((unhide M).new e1 B1 K1)
       clear e1 B1 K1
       refine Stp.go ?_))
  constructor
  go_wp2_with (
    first
    | (go_at_call 40
       refine (unhide (P40 _ ((unhide M).at 0 _ rfl))).mono ?_
       rintro e W2 ⟨rfl, q2⟩
       replace q2 := q2.symm
       subst q2
       refine Stp.go ?_))
  constructor
  go_wp2_with (
    first
    | (refine wpLoadA row62 rfl (.tmp 16) rfl b (2 + m.toNat * 5) rfl ((v.lk m).C) rfl (((unhide M).at 0 _ rfl).lk hv hh) ?_
       refine Stp.go ?_))
  constructor
  go_wp2_with (
    first
    | (refine wpNew row62 (lk0.C) rfl zero62 6 rfl rfl rfl (.tmp 17) rfl rfl rfl ((v.lk m).C) rfl (lkC_one _) (by kernel_rfl) (by kernel_rfl) ?_
       intro W3 b3 e3 B3 K3
       replace M : Hid (Mm [b] w W3 [(b, 65, v.C), (b1, 23, le0.C), (b3, 62, (v.lk m).C)]) := hide ((unhide M).new e3 B3 K3)
       clear e3 B3 K3
       refine Stp.go ?_))
  constructor
  go_wp2_with fail
  refine wp_region_any mixed (wpAny_gx 6 rfl (by kernel_rfl) [some (.pointer (some ⟨b3, 0 + 1, none⟩)), some (aggV (v.lk m).said.C), some (.pointer (some ⟨b3, 0, none⟩)), some (.bool (v.lk m).is), none, some (.bool (v.lk m).is)] rfl (by kernel_rfl) (fun l vs W => (SX [b] w (fun S => [(b, 65, v.C), (b1, 23, S), (b3, 62, (v.lk m).C)]) le0.C (v.lk m).said.C 4) (fun i => l.getD i false) vs W) (⟨_, (unhide M).drew, (fun _ => rfl), fun h => by cases h⟩) ?_ ?_)
  · intro ix o' hi ho a' w2 l vs hls hlf hJ hout hin hdep hnot
    match ix, ho with
    | 0, ho =>
      obtain rfl := Option.some.inj ho
      have e0 := hout 6 (by kernel_rfl)
      replace e0 : a'.eval (.tmp 6) = _ := e0.trans rfl
      exact o_fld62_1 (.tmp 6) rfl b3 0 e0 ⟨_, rfl, told_of rfl, keepG (St := (SX [b] w (fun S => [(b, 65, v.C), (b1, 23, S), (b3, 62, (v.lk m).C)]) le0.C (v.lk m).said.C 4)) [4] SX.loc (by omega) (by decide) hJ⟩
    | 1, ho =>
      obtain rfl := Option.some.inj ho
      have e0 : a'.eval (.tmp 18) = .pointer (some ⟨b3, 0 + 1, none⟩) := by have h9 := hin 0 18 (by kernel_rfl) (by kernel_rfl); exact h9.1.trans (told_is _ h9.2 rfl)
      have hJ2 := hJ
      obtain ⟨S, hM, _, _⟩ := hJ2
      exact wp_loadA row23 (.tmp 18) rfl b3 1 e0 (v.lk m).said.C rfl ((hM.at 2 _ rfl).rangeIn _ (fun j hj => said_in _ j hj)) ⟨_, rfl, told_of rfl, keepG (St := (SX [b] w (fun S => [(b, 65, v.C), (b1, 23, S), (b3, 62, (v.lk m).C)]) le0.C (v.lk m).said.C 4)) [4] SX.loc (by omega) (by decide) hJ⟩
    | 2, ho =>
      obtain rfl := Option.some.inj ho
      have e0 := hout 6 (by kernel_rfl)
      replace e0 : a'.eval (.tmp 6) = _ := e0.trans rfl
      exact o_fld62_0 (.tmp 6) rfl b3 0 e0 ⟨_, rfl, told_of rfl, keepG (St := (SX [b] w (fun S => [(b, 65, v.C), (b1, 23, S), (b3, 62, (v.lk m).C)]) le0.C (v.lk m).said.C 4)) [4] SX.loc (by omega) (by decide) hJ⟩
    | 3, ho =>
      obtain rfl := Option.some.inj ho
      have e0 : a'.eval (.tmp 20) = .pointer (some ⟨b3, 0, none⟩) := by have h9 := hin 2 20 (by kernel_rfl) (by kernel_rfl); exact h9.1.trans (told_is _ h9.2 rfl)
      have hJ2 := hJ
      obtain ⟨S, hM, _, _⟩ := hJ2
      exact o_load4 (.tmp 20) rfl _ _ e0 (fits_cell (hM.at 2 _ rfl) 0 _ rfl) ⟨_, rfl, told_of rfl, keepG (St := (SX [b] w (fun S => [(b, 65, v.C), (b1, 23, S), (b3, 62, (v.lk m).C)]) le0.C (v.lk m).said.C 4)) [4] SX.loc (by omega) (by decide) hJ⟩
    | 4, ho =>
      obtain rfl := Option.some.inj ho
      have e0 := hout 4 (by kernel_rfl)
      replace e0 : a'.eval (.tmp 4) = _ := e0.trans rfl
      have e1 : a'.eval (.tmp 19) = aggV (v.lk m).said.C := by have h9 := hin 1 19 (by kernel_rfl) (by kernel_rfl); exact h9.1.trans (told_is _ h9.2 rfl)
      obtain ⟨S, hM, hS0, _⟩ := hJ
      obtain rfl := hS0 hlf
      exact wp_storeN row23 (.tmp 4) (.tmp 19) rfl rfl b1 0 (v.lk m).said.C e0 e1 rfl (leC_one _) ((hM.at 1 _ rfl).there (Nat.le_refl 3)) ⟨undef, rfl, told_no rfl, nextG (St := (SX [b] w (fun S => [(b, 65, v.C), (b1, 23, S), (b3, 62, (v.lk m).C)]) le0.C (v.lk m).said.C 4)) (by omega) ⟨_, hM.mut 1 rfl ((Kept.refl _ _).setCells _ _ (by simp)) ((hM.at 1 _ rfl).put rfl), (fun h => by cases h), fun _ => rfl⟩⟩
    | 5, ho =>
      obtain rfl := Option.some.inj ho
      have e0 : a'.eval (.tmp 21) = .bool (v.lk m).is := by have h9 := hin 3 21 (by kernel_rfl) (by kernel_rfl); exact h9.1.trans (told_is _ h9.2 rfl)
      exact wp_assignV (.tmp 21) rfl _ e0 ⟨_, rfl, told_of rfl, keepG (St := (SX [b] w (fun S => [(b, 65, v.C), (b1, 23, S), (b3, 62, (v.lk m).C)]) le0.C (v.lk m).said.C 4)) [4] SX.loc (by omega) (by decide) hJ⟩
  intro l_ vs4 V4 hl hJ htold
  have t0 : vs4 0 = .pointer (some ⟨b3, 0 + 1, none⟩) := told_is _ (htold 0 (by decide)) rfl
  have t1 : vs4 1 = aggV (v.lk m).said.C := told_is _ (htold 1 (by decide)) rfl
  have t2 : vs4 2 = .pointer (some ⟨b3, 0, none⟩) := told_is _ (htold 2 (by decide)) rfl
  have t3 : vs4 3 = .bool (v.lk m).is := told_is _ (htold 3 (by decide)) rfl
  have t5 : vs4 5 = .bool (v.lk m).is := told_is _ (htold 5 (by decide)) rfl
  rw [show (List.range 6).map vs4 = [vs4 0, vs4 1, vs4 2, vs4 3, vs4 4, vs4 5] from rfl]
  simp only [t0, t1, t2, t3, t5, putAll, Act.put, List.setIfInBounds_toArray, List.set_cons_succ, List.set_cons_zero]
  clear t0 t1 t2 t3 t5 htold
  obtain ⟨S4, hM4, _, hS4⟩ := hJ
  obtain rfl := hS4 (hl 4 (by decide))
  have HM4 := hide hM4
  clear hS4 hM4 hl M
  go_wp2_with fail
  have hM4 := unhide HM4
  refine bodyPost_ret (res30 _ b1 (v.lk m).said.C _ _ rfl rfl rfl (hM4.at 1 _ rfl)) rfl ?_
  exact ⟨rfl, hM4.kept.drop hB (hM4.at 0 _ rfl)⟩
set_option maxHeartbeats 2000000 in
theorem said_no (p : Value) (m : Int) (w : World) (h : ∀ W, Kept [] w W → Calls Try.prog 40 #[p, .int .i64 m] W fun e w' => e = .returned (.bool false) ∧ w' = W) : Calls Try.prog 30 #[p, .int .i64 m] w fun e w' => e = .returned (.tuple #[aggV le0.C, .bool false]) ∧ Kept [] w w' := by
  have P40 : ∀ W, Kept [] w W → Hid (Calls Try.prog 40 #[p, .int .i64 m] W fun e w' => e = .returned (.bool false) ∧ w' = W) := fun W hW => hide (h W hW)
  go_enter Try.func30, Try.ntmps30
  have M : Hid (Mm [] w w []) := hide Mm.init
  go_wp2_with (
    first
    | (refine wpAllocW (le0.C) zero23 4 rfl rfl rfl ?_
       intro W1 b1 e1 B1 K1
       replace M : Hid (Mm [] w W1 [(b1, 23, le0.C)]) := hide ((unhide M).new e1 B1 K1)
       clear e1 B1 K1
       refine Stp.go ?_))
  constructor
  go_wp2_with (
    first
    | (go_at_call 40
       refine (unhide (P40 _ (unhide M).kept)).mono ?_
       rintro e W2 ⟨rfl, q2⟩
       replace q2 := q2.symm
       subst q2
       refine Stp.go ?_))
  constructor
  go_wp2_with (
    first
    | (refine wpBuildZ (T := 23) le0.C build23 rfl rfl ?_
       refine Stp.go ?_))
  constructor
  go_wp2_with (
    first
    | (refine wpStoreM row23 rfl (.tmp 4) (.tmp 11) rfl rfl b1 0 (le0.C) rfl rfl rfl (leC_one _) (unhide M) rfl rfl ?_
       intro W3 N3
       replace M : Hid (Mm [] w W3 [(b1, 23, le0.C)]) := hide N3
       clear N3
       refine Stp.go ?_))
  constructor
  go_wp2_with fail
  refine bodyPost_ret (res30 _ b1 le0.C false _ rfl rfl rfl ((unhide M).at 0 _ rfl)) rfl ?_
  exact ⟨rfl, (unhide M).kept⟩
theorem said30 {A : Int} (v : Wt) (b : Nat) (m : Int) (w : World) (hB : Blk w b 65 v.C) (hv : v.Ok A) : Calls Try.prog 30 #[P0 b, .int .i64 m] w fun e w' => e = .returned (.tuple #[aggV (v.of m).said.C, .bool (v.of m).is]) ∧ Kept [] w w' := by
  unfold Wt.of
  cases hh : v.has m with
  | true => rw [if_pos rfl]; exact said_yes v b m w hB hv hh
  | false =>
    rw [if_neg (by simp)]
    exact said_no _ m w (fun W hW => by have := has_is v b m W (hB.kept hW (by simp)) hv.n.1; rw [hh] at this; exact this)
set_option maxHeartbeats 2000000 in
theorem of_true {A : Int} (v : Wt) (b : Nat) (m : Int) (w : World) (hB : Blk w b 79 v.C) (hv : v.Ok A) (hh : v.has m = true) : Calls Try.prog 36 #[P0 b, .int .i64 m] w fun e w' => e = .returned (aggV (v.lk m).C) ∧ Kept [] w w' := by
  have P44 : ∀ W, Blk W b 79 v.C → Hid (Calls Try.prog 44 #[P0 b, .int .i64 m] W fun e w' => e = .returned (.bool true) ∧ w' = W) := fun W hW => hide (by have := in44 v b m W hW; rw [hh] at this; exact this)
  obtain ⟨m0, m8⟩ := has_lt hv hh
  have m8n : m.toNat < 8 := by omega
  go_enter Try.func36, Try.ntmps36
  have M : Hid (Mm [b] w w [(b, 79, v.C)]) := hide (Mm.one hB)
  go_wp2_with (
    first
    | (refine wpAllocW (lk0.C) zero76 4 rfl rfl rfl ?_
       intro W1 b1 e1 B1 K1
       replace M : Hid (Mm [b] w W1 [(b, 79, v.C), (b1, 76, lk0.C)]) := hide ((unhide M).new e1 B1 K1)
       clear e1 B1 K1
       refine Stp.go ?_))
  constructor
  go_wp2_with (
    first
    | (go_at_call 44
       refine (unhide (P44 _ ((unhide M).at 0 _ rfl))).mono ?_
       rintro e W2 ⟨rfl, q2⟩
       replace q2 := q2.symm
       subst q2
       refine Stp.go ?_))
  constructor
  go_wp2_with (
    first
    | (refine wpLoadA row76 rfl (.tmp 14) rfl b (2 + m.toNat * 5) rfl ((v.lk m).C) rfl (((unhide M).at 0 _ rfl).lk hv hh) ?_
       refine Stp.go ?_))
  constructor
  go_wp2_with (
    first
    | (refine wpStoreM row76 rfl (.tmp 4) (.tmp 15) rfl rfl b1 1 ((v.lk m).C) rfl rfl rfl (lkC_one _) (unhide M) rfl rfl ?_
       intro W3 N3
       replace M : Hid (Mm [b] w W3 [(b, 79, v.C), (b1, 76, (v.lk m).C)]) := hide N3
       clear N3
       refine Stp.go ?_))
  constructor
  go_wp2_with fail
  refine bodyPost_ret (res36 _ b1 (v.lk m).C _ rfl rfl ((unhide M).at 1 _ rfl)) rfl ?_
  exact ⟨rfl, (unhide M).kept.drop hB ((unhide M).at 0 _ rfl)⟩
set_option maxHeartbeats 2000000 in
theorem of_false {A : Int} (v : Wt) (b : Nat) (m : Int) (w : World) (hB : Blk w b 79 v.C) (_hv : v.Ok A) (hh : v.has m = false) : Calls Try.prog 36 #[P0 b, .int .i64 m] w fun e w' => e = .returned (aggV lk0.C) ∧ Kept [] w w' := by
  have P44 : ∀ W, Blk W b 79 v.C → Hid (Calls Try.prog 44 #[P0 b, .int .i64 m] W fun e w' => e = .returned (.bool false) ∧ w' = W) := fun W hW => hide (by have := in44 v b m W hW; rw [hh] at this; exact this)
  go_enter Try.func36, Try.ntmps36
  have M : Hid (Mm [b] w w [(b, 79, v.C)]) := hide (Mm.one hB)
  go_wp2_with (
    first
    | (refine wpAllocW (lk0.C) zero76 4 rfl rfl rfl ?_
       intro W1 b1 e1 B1 K1
       replace M : Hid (Mm [b] w W1 [(b, 79, v.C), (b1, 76, lk0.C)]) := hide ((unhide M).new e1 B1 K1)
       clear e1 B1 K1
       refine Stp.go ?_))
  constructor
  go_wp2_with (
    first
    | (go_at_call 44
       refine (unhide (P44 _ ((unhide M).at 0 _ rfl))).mono ?_
       rintro e W2 ⟨rfl, q2⟩
       replace q2 := q2.symm
       subst q2
       refine Stp.go ?_))
  constructor
  go_wp2_with (
    first
    | (refine wpBuildZ (T := 76) lk0.C build76 rfl rfl ?_
       refine Stp.go ?_))
  constructor
  go_wp2_with (
    first
    | (refine wpStoreM row76 rfl (.tmp 4) (.tmp 9) rfl rfl b1 1 (lk0.C) rfl rfl rfl (lkC_one _) (unhide M) rfl rfl ?_
       intro W3 N3
       replace M : Hid (Mm [b] w W3 [(b, 79, v.C), (b1, 76, lk0.C)]) := hide N3
       clear N3
       refine Stp.go ?_))
  constructor
  go_wp2_with fail
  refine bodyPost_ret (res36 _ b1 lk0.C _ rfl rfl ((unhide M).at 1 _ rfl)) rfl ?_
  exact ⟨rfl, (unhide M).kept.drop hB ((unhide M).at 0 _ rfl)⟩
theorem of36 {A : Int} (v : Wt) (b : Nat) (m : Int) (w : World) (hB : Blk w b 79 v.C) (hv : v.Ok A) : Calls Try.prog 36 #[P0 b, .int .i64 m] w fun e w' => e = .returned (aggV (v.of m).C) ∧ Kept [] w w' := by
  unfold Wt.of
  cases hh : v.has m with
  | true => rw [if_pos rfl]; exact of_true v b m w hB hv hh
  | false => rw [if_neg (by simp)]; exact of_false v b m w hB hv hh
set_option maxHeartbeats 2000000 in
theorem forget_true {A : Int} (v : Wt) (b : Nat) (m : Int) (w : World) (hB : Blk w b 65 v.C) (hv : v.Ok A) (hh : v.has m = true) : Calls Try.prog 29 #[P0 b, .int .i64 m] w fun e w' => e = .returned (.int .i64 0) ∧ Blk w' b 65 (v.put m lk0).C ∧ Kept [b] w w' := by
  have P39 : ∀ W, Blk W b 65 v.C → Hid (Calls Try.prog 39 #[P0 b] W fun e w' => e = .returned (.bool false) ∧ w' = W) := fun W hW => hide (none_is v b W hW hv.n.1)
  have P40 : ∀ W, Blk W b 65 v.C → Hid (Calls Try.prog 40 #[P0 b, .int .i64 m] W fun e w' => e = .returned (.bool true) ∧ w' = W) := fun W hW => hide (by have := has_is v b m W hW hv.n.1; rw [hh] at this; exact this)
  obtain ⟨m0, m8⟩ := has_lt hv hh
  have m8n : m.toNat < 8 := by omega
  go_enter Try.func29, Try.ntmps29
  have M : Hid (Mm [b] w w [(b, 65, v.C)]) := hide (Mm.one hB)
  go_wp2_with (
    first
    | (go_at_call 39
       refine (unhide (P39 _ ((unhide M).at 0 _ rfl))).mono ?_
       rintro e W1 ⟨rfl, q1⟩
       replace q1 := q1.symm
       subst q1
       refine Stp.go ?_))
  constructor
  go_wp2_with (
    first
    | (go_at_call 40
       refine (unhide (P40 _ ((unhide M).at 0 _ rfl))).mono ?_
       rintro e W2 ⟨rfl, q2⟩
       replace q2 := q2.symm
       subst q2
       refine Stp.go ?_))
  constructor
  go_wp2_with (
    first
    | (refine wpBuildZ (T := 62) lk0.C build62 rfl rfl ?_
       refine Stp.go ?_))
  constructor
  go_wp2_with (
    first
    | (refine wpStoreLk row62 rfl (.tmp 18) (.tmp 15) rfl rfl b 0 m v lk0 rfl rfl (unhide M) rfl m8n hv.len ?_
       intro W3 N3
       replace M : Hid (Mm [b] w W3 [(b, 65, (v.put m lk0).C)]) := hide N3
       clear N3
       refine Stp.go ?_))
  constructor
  go_wp2_with fail
  go_ret
  exact ⟨rfl, (unhide M).at 0 _ rfl, (unhide M).kept⟩
set_option maxHeartbeats 2000000 in
theorem forget_false {A : Int} (v : Wt) (b : Nat) (m : Int) (w : World) (hB : Blk w b 65 v.C) (hv : v.Ok A) (hh : v.has m = false) : Calls Try.prog 29 #[P0 b, .int .i64 m] w fun e w' => e = .returned (.int .i64 2) ∧ Blk w' b 65 v.C ∧ Kept [b] w w' := by
  have P39 : ∀ W, Blk W b 65 v.C → Hid (Calls Try.prog 39 #[P0 b] W fun e w' => e = .returned (.bool false) ∧ w' = W) := fun W hW => hide (none_is v b W hW hv.n.1)
  have P40 : ∀ W, Blk W b 65 v.C → Hid (Calls Try.prog 40 #[P0 b, .int .i64 m] W fun e w' => e = .returned (.bool false) ∧ w' = W) := fun W hW => hide (by have := has_is v b m W hW hv.n.1; rw [hh] at this; exact this)
  go_enter Try.func29, Try.ntmps29
  have M : Hid (Mm [b] w w [(b, 65, v.C)]) := hide (Mm.one hB)
  go_wp2_with (
    first
    | (go_at_call 39
       refine (unhide (P39 _ ((unhide M).at 0 _ rfl))).mono ?_
       rintro e W1 ⟨rfl, q1⟩
       replace q1 := q1.symm
       subst q1
       refine Stp.go ?_))
  constructor
  go_wp2_with (
    first
    | (go_at_call 40
       refine (unhide (P40 _ ((unhide M).at 0 _ rfl))).mono ?_
       rintro e W2 ⟨rfl, q2⟩
       replace q2 := q2.symm
       subst q2
       refine Stp.go ?_))
  constructor
  go_wp2_with fail
  go_ret
  exact ⟨rfl, (unhide M).at 0 _ rfl, (unhide M).kept⟩
theorem forget29 {A : Int} (v : Wt) (b : Nat) (m : Int) (w : World) (hB : Blk w b 65 v.C) (hv : v.Ok A) : Calls Try.prog 29 #[P0 b, .int .i64 m] w fun e w' => e = .returned (.int .i64 (v.forget m).2) ∧ Blk w' b 65 (v.forget m).1.C ∧ Kept [b] w w' := by
  unfold Wt.forget
  cases hh : v.has m with
  | true => rw [if_neg (by simp)]; exact forget_true v b m w hB hv hh
  | false => rw [if_pos rfl]; exact forget_false v b m w hB hv hh
set_option maxHeartbeats 2000000 in
theorem rforget_true {A : Int} (v : Wt) (b : Nat) (m : Int) (w : World) (hB : Blk w b 79 v.C) (hv : v.Ok A) (hh : v.has m = true) : Calls Try.prog 32 #[P0 b, .int .i64 m] w fun e w' => e = .returned (.int .i64 0) ∧ Blk w' b 79 (v.put m lk0).C ∧ Kept [b] w w' := by
  have P44 : ∀ W, Blk W b 79 v.C → Hid (Calls Try.prog 44 #[P0 b, .int .i64 m] W fun e w' => e = .returned (.bool true) ∧ w' = W) := fun W hW => hide (by have := in44 v b m W hW; rw [hh] at this; exact this)
  obtain ⟨m0, m8⟩ := has_lt hv hh
  have m8n : m.toNat < 8 := by omega
  go_enter Try.func32, Try.ntmps32
  have M : Hid (Mm [b] w w [(b, 79, v.C)]) := hide (Mm.one hB)
  go_wp2_with (
    first
    | (go_at_call 44
       refine (unhide (P44 _ ((unhide M).at 0 _ rfl))).mono ?_
       rintro e W1 ⟨rfl, q1⟩
       replace q1 := q1.symm
       subst q1
       refine Stp.go ?_))
  constructor
  go_wp2_with (
    first
    | (refine wpBuildZ (T := 76) lk0.C build76 rfl rfl ?_
       refine Stp.go ?_))
  constructor
  go_wp2_with (
    first
    | (refine wpStoreLk row76 rfl (.tmp 16) (.tmp 13) rfl rfl b 0 m v lk0 rfl rfl (unhide M) rfl m8n hv.len ?_
       intro W2 N2
       replace M : Hid (Mm [b] w W2 [(b, 79, (v.put m lk0).C)]) := hide N2
       clear N2
       refine Stp.go ?_))
  constructor
  go_wp2_with fail
  go_ret
  exact ⟨rfl, (unhide M).at 0 _ rfl, (unhide M).kept⟩
set_option maxHeartbeats 2000000 in
theorem rforget_false {A : Int} (v : Wt) (b : Nat) (m : Int) (w : World) (hB : Blk w b 79 v.C) (_hv : v.Ok A) (hh : v.has m = false) : Calls Try.prog 32 #[P0 b, .int .i64 m] w fun e w' => e = .returned (.int .i64 2) ∧ Blk w' b 79 v.C ∧ Kept [b] w w' := by
  have P44 : ∀ W, Blk W b 79 v.C → Hid (Calls Try.prog 44 #[P0 b, .int .i64 m] W fun e w' => e = .returned (.bool false) ∧ w' = W) := fun W hW => hide (by have := in44 v b m W hW; rw [hh] at this; exact this)
  go_enter Try.func32, Try.ntmps32
  have M : Hid (Mm [b] w w [(b, 79, v.C)]) := hide (Mm.one hB)
  go_wp2_with (
    first
    | (go_at_call 44
       refine (unhide (P44 _ ((unhide M).at 0 _ rfl))).mono ?_
       rintro e W1 ⟨rfl, q1⟩
       replace q1 := q1.symm
       subst q1
       refine Stp.go ?_))
  constructor
  go_wp2_with fail
  go_ret
  exact ⟨rfl, (unhide M).at 0 _ rfl, (unhide M).kept⟩
theorem rforget32 {A : Int} (v : Wt) (b : Nat) (m : Int) (w : World) (hB : Blk w b 79 v.C) (hv : v.Ok A) : Calls Try.prog 32 #[P0 b, .int .i64 m] w fun e w' => e = .returned (.int .i64 (v.forget m).2) ∧ Blk w' b 79 (v.forget m).1.C ∧ Kept [b] w w' := by
  unfold Wt.forget
  cases hh : v.has m with
  | true => rw [if_neg (by simp)]; exact rforget_true v b m w hB hv hh
  | false => rw [if_pos rfl]; exact rforget_false v b m w hB hv hh
set_option maxHeartbeats 2000000 in
theorem clear33 {A : Int} (v : Wt) (b : Nat) (w : World) (hB : Blk w b 65 v.C) (hv : v.Ok A) : Calls Try.prog 33 #[P0 b] w fun e w' => e = .returned (.int .i64 0) ∧ Blk w' b 65 v.clear.C ∧ Kept [b] w w' := by
  have P39 : ∀ W, Blk W b 65 v.C → Hid (Calls Try.prog 39 #[P0 b] W fun e w' => e = .returned (.bool false) ∧ w' = W) := fun W hW => hide (none_is v b W hW hv.n.1)
  go_enter Try.func33, Try.ntmps33
  have M : Hid (Mm [b] w w [(b, 65, v.C)]) := hide (Mm.one hB)
  go_wp2_with (
    first
    | (go_at_call 39
       refine (unhide (P39 _ ((unhide M).at 0 _ rfl))).mono ?_
       rintro e W1 ⟨rfl, q1⟩
       replace q1 := q1.symm
       subst q1
       refine Stp.go ?_))
  constructor
  go_wp2_with (
    first
    | (refine wpBuildZ (T := 63) (lksC lk8) build63 rfl rfl ?_
       refine Stp.go ?_))
  constructor
  go_wp2_with (
    first
    | (refine wpStoreClr row63 rfl (.tmp 8) (.tmp 6) rfl rfl b 0 v rfl rfl (unhide M) rfl hv.len ?_
       intro W2 N2
       replace M : Hid (Mm [b] w W2 [(b, 65, v.clear.C)]) := hide N2
       clear N2
       refine Stp.go ?_))
  constructor
  go_wp2_with fail
  go_ret
  exact ⟨rfl, (unhide M).at 0 _ rfl, (unhide M).kept⟩
set_option maxHeartbeats 2000000 in
theorem rclear34 {A : Int} (v : Wt) (b : Nat) (w : World) (hB : Blk w b 79 v.C) (hv : v.Ok A) : Calls Try.prog 34 #[P0 b] w fun e w' => e = .returned (.int .i64 0) ∧ Blk w' b 79 v.clear.C ∧ Kept [b] w w' := by
  go_enter Try.func34, Try.ntmps34
  have M : Hid (Mm [b] w w [(b, 79, v.C)]) := hide (Mm.one hB)
  go_wp2_with (
    first
    | (refine wpBuildZ (T := 77) (lksC lk8) build77 rfl rfl ?_
       refine Stp.go ?_))
  constructor
  go_wp2_with (
    first
    | (refine wpStoreClr row77 rfl (.tmp 8) (.tmp 6) rfl rfl b 0 v rfl rfl (unhide M) rfl hv.len ?_
       intro W1 N1
       replace M : Hid (Mm [b] w W1 [(b, 79, v.clear.C)]) := hide N1
       clear N1
       refine Stp.go ?_))
  constructor
  go_wp2_with fail
  go_ret
  exact ⟨rfl, (unhide M).at 0 _ rfl, (unhide M).kept⟩
theorem forget_no (p : Value) (m : Int) (w : World) (h : Calls Try.prog 39 #[p] w fun e w' => e = .returned (.bool true) ∧ w' = w) : Calls Try.prog 29 #[p, .int .i64 m] w fun e w' => e = .returned (.int .i64 1) ∧ w' = w := by
  have P := hide h
  clear h
  go_enter Try.func29, Try.ntmps29
  go_wp2_with (
    first
    | (go_at_call 39; refine (unhide P).mono ?_; rintro e w2 ⟨rfl, rfl⟩; clear P))
  go_ret
  exact ⟨rfl, rfl⟩
theorem clear_no (p : Value) (w : World) (h : Calls Try.prog 39 #[p] w fun e w' => e = .returned (.bool true) ∧ w' = w) : Calls Try.prog 33 #[p] w fun e w' => e = .returned (.int .i64 1) ∧ w' = w := by
  have P := hide h
  clear h
  go_enter Try.func33, Try.ntmps33
  go_wp2_with (
    first
    | (go_at_call 39; refine (unhide P).mono ?_; rintro e w2 ⟨rfl, rfl⟩; clear P))
  go_ret
  exact ⟨rfl, rfl⟩
theorem copy_no (p : Value) (w : World) (h : Calls Try.prog 39 #[p] w fun e w' => e = .returned (.bool true) ∧ w' = w) : Calls Try.prog 35 #[p] w fun e w' => e = .returned (.pointer none) ∧ w' = w := by
  have P := hide h
  clear h
  go_enter Try.func35, Try.ntmps35
  go_wp2_with (
    first
    | (go_at_call 39; refine (unhide P).mono ?_; rintro e w2 ⟨rfl, rfl⟩; clear P))
  go_ret
  exact ⟨rfl, rfl⟩
set_option maxHeartbeats 2000000 in
theorem copy35 {A : Int} (v : Wt) (b : Nat) (w : World) (hB : Blk w b 65 v.C) (hv : v.Ok A) : Calls Try.prog 35 #[P0 b] w fun e w' => ∃ c, e = .returned (P0 c) ∧ w.heap.size ≤ c ∧ Blk w' c 65 v.C ∧ Kept [] w w' := by
  have P39 : ∀ W, Blk W b 65 v.C → Hid (Calls Try.prog 39 #[P0 b] W fun e w' => e = .returned (.bool false) ∧ w' = W) := fun W hW => hide (none_is v b W hW hv.n.1)
  go_enter Try.func35, Try.ntmps35
  have M : Hid (Mm [b] w w [(b, 65, v.C)]) := hide (Mm.one hB)
  go_wp2_with (
    first
    | (go_at_call 39
       refine (unhide (P39 _ ((unhide M).at 0 _ rfl))).mono ?_
       rintro e W1 ⟨rfl, q1⟩
       replace q1 := q1.symm
       subst q1
       refine Stp.go ?_))
  constructor
  go_wp2_with (
    first
    | (refine wpLoadA row65 rfl (.tmp 7) rfl b 0 rfl (v.C) (wtC_len hv.len) ((unhide M).at 0 _ rfl).range ?_
       refine Stp.go ?_))
  constructor
  go_wp2_with (
    first
    | (refine wpNew row65 (wt0.C) rfl zero65 3 rfl rfl rfl (.tmp 8) rfl rfl rfl (v.C) (wtC_len hv.len) (wtC_one _) (by kernel_rfl) (by kernel_rfl) ?_
       intro W2 b2 e2 B2 K2
       replace M : Hid (Mm [b] w W2 [(b, 65, v.C), (b2, 65, v.C)]) := hide ((unhide M).new e2 B2 K2)
       have EB := hide e2
       clear e2 B2 K2
       refine Stp.go ?_))
  constructor
  go_wp2_with fail
  go_ret
  exact ⟨b2, rfl, Nat.le_of_eq (unhide EB).symm, (unhide M).at 1 _ rfl, (unhide M).kept.drop hB ((unhide M).at 0 _ rfl)⟩

end Go.Proofs.Ythidiolgngkffaa
