/-
  The document's Get.
-/
import Derived.Test.YthidiolgngkffaaPc
namespace Go.Proofs.Ythidiolgngkffaa
set_option maxRecDepth 100000
open Go.RowKit


theorem SV.step {V W W' : World} {v : Le} {d : Nat → Bool} {vs : Nat → Value} (h : SV V v d vs W) (hk : Kept [] W W') : SV V v d vs W' :=
  ⟨h.1.trans hk, fun h7 => by
    obtain ⟨p, h1, h2, h3, h4⟩ := h.2 h7
    exact ⟨p, h1, h2, fun h8 => (h3 h8).kept hk (by simp), fun h8 => (h4 h8).kept hk (by simp)⟩⟩
set_option maxHeartbeats 2000000 in
theorem rget_a (s : List Int) (w : World) (hs : Byts 64 s) (hm : (leS s).may = false) : Calls Try.prog 10 #[aggV (u8s s)] w fun x w' => x = .returned (.tuple #[aggV le0.C, .int .i64 12]) ∧ Kept [] w w' := by
  have P12 : ∀ W, Hid (Calls Try.prog 12 #[aggV (leS s).C] W fun e w' => e = .returned (.bool false) ∧ Kept [] W w') := fun W => hide (by have := rmay12 (leS s) W; rw [hm] at this; exact this)
  go_enter Try.func10, Try.ntmps10
  have M : Hid (Mm [] w w []) := hide Mm.init
  go_wp2_with (
    first
    | (refine wpBoxV rfl (.tmp 0) rfl (u8s s) rfl ?_
       intro W1 b1 e1 B1 K1
       replace M : Hid (Mm [] w W1 [(b1, 25, u8s s)]) := hide ((unhide M).new e1 B1 K1)
       clear e1 B1 K1
       refine Stp.go ?_))
  constructor
  go_wp2_with (
    first
    | (refine wpAllocW (le0.C) zero23 2 rfl rfl rfl ?_
       intro W2 b2 e2 B2 K2
       replace M : Hid (Mm [] w W2 [(b1, 25, u8s s), (b2, 23, le0.C)]) := hide ((unhide M).new e2 B2 K2)
       clear e2 B2 K2
       refine Stp.go ?_))
  constructor
  go_wp2_with fail
  refine wp_region_any mixed (wpAny_gx 9 rfl (by kernel_rfl) [some (aggV (u8s s)), some (.int .i64 (ofB 0 ((s.drop 1).take 4))), some (aggV (u8s s)), some (.int .i64 (ofB 0 ((s.drop 5).take 8))), some (aggV (u8s s)), some (.int .i64 (ofB 0 ((s.drop 13).take 8))), some (aggV (leS s).C), none, none] rfl (by kernel_rfl) (fun l vs W => (SV W2 (leS s)) (fun i => l.getD i false) vs W) (⟨⟨rfl, rfl, rfl, Nat.le_refl _, fun _ _ _ => rfl⟩, fun h => by cases h⟩) ?_ ?_)
  · intro ix o' hi ho a' w2 l vs hls hlf hJ hout hin hdep hnot
    match ix, ho with
    | 0, ho =>
      obtain rfl := Option.some.inj ho
      have e0 := hout 1 (by kernel_rfl)
      replace e0 : a'.eval (.tmp 1) = _ := e0.trans rfl
      exact wp_loadA row25 (.tmp 1) rfl b1 0 e0 (u8s s) (by rw [u8s_len]; exact hs.len) (((unhide M).step hJ.1).at 0 _ rfl).range ⟨_, rfl, told_of rfl, keepG (St := (SV W2 (leS s))) [7, 8] SV.loc (by omega) (by decide) hJ⟩
    | 1, ho =>
      obtain rfl := Option.some.inj ho
      have e0 : a'.eval (.tmp 5) = aggV (u8s s) := by have h9 := hin 0 5 (by kernel_rfl) (by kernel_rfl); exact h9.1.trans (told_is _ h9.2 rfl)
      refine wp_callF 27 _ _ rfl #[aggV (u8s s), .int .i64 1, .int .i64 4] (by simp [e0]; exact ⟨rfl, rfl⟩) (cg27 _ _) ((rnumber27 4 1 s w2 hs (by omega)).mono ?_)
      rintro e w3 ⟨rfl, hk3⟩
      exact ⟨_, rfl, _, rfl, told_of rfl, keepG (St := (SV W2 (leS s))) [7, 8] SV.loc (by omega) (by decide) (SV.step hJ hk3)⟩
    | 2, ho =>
      obtain rfl := Option.some.inj ho
      have e0 := hout 1 (by kernel_rfl)
      replace e0 : a'.eval (.tmp 1) = _ := e0.trans rfl
      exact wp_loadA row25 (.tmp 1) rfl b1 0 e0 (u8s s) (by rw [u8s_len]; exact hs.len) (((unhide M).step hJ.1).at 0 _ rfl).range ⟨_, rfl, told_of rfl, keepG (St := (SV W2 (leS s))) [7, 8] SV.loc (by omega) (by decide) hJ⟩
    | 3, ho =>
      obtain rfl := Option.some.inj ho
      have e0 : a'.eval (.tmp 7) = aggV (u8s s) := by have h9 := hin 2 7 (by kernel_rfl) (by kernel_rfl); exact h9.1.trans (told_is _ h9.2 rfl)
      refine wp_callF 27 _ _ rfl #[aggV (u8s s), .int .i64 5, .int .i64 8] (by simp [e0]; exact ⟨rfl, rfl⟩) (cg27 _ _) ((rnumber27 8 5 s w2 hs (by omega)).mono ?_)
      rintro e w3 ⟨rfl, hk3⟩
      exact ⟨_, rfl, _, rfl, told_of rfl, keepG (St := (SV W2 (leS s))) [7, 8] SV.loc (by omega) (by decide) (SV.step hJ hk3)⟩
    | 4, ho =>
      obtain rfl := Option.some.inj ho
      have e0 := hout 1 (by kernel_rfl)
      replace e0 : a'.eval (.tmp 1) = _ := e0.trans rfl
      exact wp_loadA row25 (.tmp 1) rfl b1 0 e0 (u8s s) (by rw [u8s_len]; exact hs.len) (((unhide M).step hJ.1).at 0 _ rfl).range ⟨_, rfl, told_of rfl, keepG (St := (SV W2 (leS s))) [7, 8] SV.loc (by omega) (by decide) hJ⟩
    | 5, ho =>
      obtain rfl := Option.some.inj ho
      have e0 : a'.eval (.tmp 9) = aggV (u8s s) := by have h9 := hin 4 9 (by kernel_rfl) (by kernel_rfl); exact h9.1.trans (told_is _ h9.2 rfl)
      refine wp_callF 27 _ _ rfl #[aggV (u8s s), .int .i64 13, .int .i64 8] (by simp [e0]; exact ⟨rfl, rfl⟩) (cg27 _ _) ((rnumber27 8 13 s w2 hs (by omega)).mono ?_)
      rintro e w3 ⟨rfl, hk3⟩
      exact ⟨_, rfl, _, rfl, told_of rfl, keepG (St := (SV W2 (leS s))) [7, 8] SV.loc (by omega) (by decide) (SV.step hJ hk3)⟩
    | 6, ho =>
      obtain rfl := Option.some.inj ho
      have e0 : a'.eval (.tmp 6) = .int .i64 (ofB 0 ((s.drop 1).take 4)) := by have h9 := hin 1 6 (by kernel_rfl) (by kernel_rfl); exact h9.1.trans (told_is _ h9.2 rfl)
      have e1 : a'.eval (.tmp 8) = .int .i64 (ofB 0 ((s.drop 5).take 8)) := by have h9 := hin 3 8 (by kernel_rfl) (by kernel_rfl); exact h9.1.trans (told_is _ h9.2 rfl)
      have e2 : a'.eval (.tmp 10) = .int .i64 (ofB 0 ((s.drop 13).take 8)) := by have h9 := hin 5 10 (by kernel_rfl) (by kernel_rfl); exact h9.1.trans (told_is _ h9.2 rfl)
      exact o_bld23 (.tmp 6) (.tmp 8) (.tmp 10) rfl _ _ _ e0 e1 e2 ⟨_, rfl, told_of rfl, keepG (St := (SV W2 (leS s))) [7, 8] SV.loc (by omega) (by decide) hJ⟩
    | 7, ho =>
      obtain rfl := Option.some.inj ho
      exact wp_allocA le0.C zero23 rfl ⟨_, rfl, told_no rfl, nextG (St := (SV W2 (leS s))) (by omega) ⟨hJ.1.alloc _, fun _ => ⟨w2.heap.size, rfl, hJ.1.size, fun _ => Blk.new w2 23 _, fun h => by have h9 : l.getD 8 false = true := h; rw [hnot 8 (by kernel_rfl)] at h9; cases h9⟩⟩⟩
    | 8, ho =>
      obtain rfl := Option.some.inj ho
      have e0 : a'.eval (.tmp 4) = vs 7 := (hin 7 4 (by kernel_rfl) (by kernel_rfl)).1
      have e1 : a'.eval (.tmp 11) = aggV (leS s).C := by have h9 := hin 6 11 (by kernel_rfl) (by kernel_rfl); exact h9.1.trans (told_is _ h9.2 rfl)
      obtain ⟨p, hp, hge, hz0, _⟩ := hJ.2 (hdep 7 (by kernel_rfl))
      exact wp_storeN row23 (.tmp 4) (.tmp 11) rfl rfl p 0 _ (e0.trans hp) e1 rfl (leC_one _) ((hz0 hlf).there (by decide)) ⟨undef, rfl, told_no rfl, nextG (St := (SV W2 (leS s))) (by omega) ⟨hJ.1.setCells _ _ (by omega), fun _ => ⟨p, hp, hge, (fun h => by cases h), fun _ => (hz0 hlf).put rfl⟩⟩⟩
  intro l_ vs4 V4 hl hJ htold
  have t0 : vs4 0 = aggV (u8s s) := told_is _ (htold 0 (by decide)) rfl
  have t1 : vs4 1 = .int .i64 (ofB 0 ((s.drop 1).take 4)) := told_is _ (htold 1 (by decide)) rfl
  have t2 : vs4 2 = aggV (u8s s) := told_is _ (htold 2 (by decide)) rfl
  have t3 : vs4 3 = .int .i64 (ofB 0 ((s.drop 5).take 8)) := told_is _ (htold 3 (by decide)) rfl
  have t4 : vs4 4 = aggV (u8s s) := told_is _ (htold 4 (by decide)) rfl
  have t5 : vs4 5 = .int .i64 (ofB 0 ((s.drop 13).take 8)) := told_is _ (htold 5 (by decide)) rfl
  have t6 : vs4 6 = aggV (leS s).C := told_is _ (htold 6 (by decide)) rfl
  rw [show (List.range 9).map vs4 = [vs4 0, vs4 1, vs4 2, vs4 3, vs4 4, vs4 5, vs4 6, vs4 7, vs4 8] from rfl]
  simp only [t0, t1, t2, t3, t4, t5, t6, putAll, Act.put, List.setIfInBounds_toArray, List.set_cons_succ, List.set_cons_zero]
  clear t0 t1 t2 t3 t4 t5 t6 htold
  obtain ⟨p, ep, hgp, _, hbp⟩ := hJ.2 (hl 7 (by decide))
  replace hbp := hbp (hl 8 (by decide))
  have hb1 : b1 < W2.heap.size := ((unhide M).at 0 _ rfl).lt
  have hb2 : b2 < W2.heap.size := ((unhide M).at 1 _ rfl).lt
  have hwz := (unhide M).kept.size
  replace M : Hid (Mm [] w V4 [(b1, 25, u8s s), (b2, 23, le0.C), (p, 23, (leS s).C)]) := hide (((unhide M).step hJ.1).add hbp (by omega) (fun x hx => by simp at hx; rcases hx with rfl | rfl <;> simp <;> omega))
  rw [ep]
  clear hJ hl ep hgp hbp hb1 hb2 hwz
  go_wp2_with fail
  refine wp_region_any mixed (wpAny_tq 9 rfl (by kernel_rfl) [some (aggV (leS s).C), some (.bool false), some (.bool true), some (.bool true), none, none, none, none, some (.bool true)] rfl (by kernel_rfl) (by kernel_rfl) ?_ ?_)
  · intro i o' hi hsk ho a' w2 hout hin hk2
    replace hk2 : Kept [] V4 w2 := ⟨hk2.os, hk2.tape, hk2.output, hk2.size, hk2.block⟩
    match i, ho, hsk with
    | 0, ho, hsk =>
      obtain rfl := Option.some.inj ho
      exact wp_loadA row23 (.tmp 4) rfl p 0 ((hout 4 (by kernel_rfl)).trans rfl) (leS s).C rfl (((unhide M).step hk2).at 2 _ rfl).range ⟨_, rfl, tq_is _ _ _ _ rfl, Kept.refl _ _, fun _ _ _ _ _ => trivial⟩
    | 1, ho, hsk =>
      obtain rfl := Option.some.inj ho
      have e0 : a'.eval (.tmp 12) = aggV (leS s).C := is_tq (hin 0 12 (by kernel_rfl) (by kernel_rfl)) rfl
      refine wp_callF 12 _ _ rfl #[aggV (leS s).C] (by simp [e0]) (cg12 _ _) ((unhide (P12 _)).mono ?_)
      rintro e w3 ⟨rfl, hk3⟩
      exact ⟨_, rfl, _, rfl, tq_is _ _ _ _ rfl, hk3, fun _ _ _ _ _ => trivial⟩
    | 2, ho, hsk =>
      obtain rfl := Option.some.inj ho
      have e0 : a'.eval (.tmp 13) = .bool false := is_tq (hin 1 13 (by kernel_rfl) (by kernel_rfl)) rfl
      exact o_not (.tmp 13) rfl false e0 ⟨_, rfl, tq_is _ _ _ _ rfl, Kept.refl _ _, fun _ _ _ _ _ => trivial⟩
    | 3, ho, hsk =>
      obtain rfl := Option.some.inj ho
      have e0 : a'.eval (.tmp 14) = .bool true := is_tq (hin 2 14 (by kernel_rfl) (by kernel_rfl)) rfl
      exact wp_move (.tmp 14) rfl _ e0 ⟨_, rfl, tq_is _ _ _ _ rfl, Kept.refl _ _, fun _ _ _ _ _ => trivial⟩
    | 4, ho, hsk =>
      cases hsk
    | 5, ho, hsk =>
      cases hsk
    | 6, ho, hsk =>
      cases hsk
    | 7, ho, hsk =>
      cases hsk
    | 8, ho, hsk =>
      obtain rfl := Option.some.inj ho
      have e0 : a'.eval (.tmp 15) = .bool true := is_tq (hin 3 15 (by kernel_rfl) (by kernel_rfl)) rfl
      exact o_pickOrT (.tmp 15) (.tmp 19) rfl e0 ⟨_, rfl, tq_is _ _ _ _ rfl, Kept.refl _ _, fun _ _ _ _ _ => trivial⟩
  intro w9 hk9
  replace hk9 : Kept [] V4 w9 := ⟨hk9.os, hk9.tape, hk9.output, hk9.size, hk9.block⟩
  simp only [valsQ, List.map_cons, List.map_nil, Option.getD_some, Option.getD_none, List.take_succ_cons, List.take_zero, putAll, Act.put, List.setIfInBounds_toArray, List.set_cons_succ, List.set_cons_zero]
  refine wpAny_done (by kernel_rfl) ?_ _
  replace M : Hid (Mm [] w w9 [(b1, 25, u8s s), (b2, 23, le0.C), (p, 23, (leS s).C)]) := hide ((unhide M).step hk9)
  clear hk9
  go_wp2_with (
    first
    | (refine wpBuildZ (T := 23) le0.C build23 rfl rfl ?_
       refine Stp.go ?_))
  constructor
  go_wp2_with (
    first
    | (refine wpStoreM row23 rfl (.tmp 2) (.tmp 21) rfl rfl b2 1 (le0.C) rfl rfl rfl (leC_one _) (unhide M) rfl rfl ?_
       intro W41 N41
       replace M : Hid (Mm [] w W41 [(b1, 25, u8s s), (b2, 23, le0.C), (p, 23, (leS s).C)]) := hide N41
       clear N41
       refine Stp.go ?_))
  constructor
  go_wp2_with fail
  refine bodyPost_ret (res10 _ b2 le0.C 12 _ rfl rfl rfl ((unhide M).at 1 _ rfl)) rfl ?_
  exact ⟨rfl, (unhide M).kept⟩
set_option maxHeartbeats 2000000 in
theorem rget_b (s q : List Int) (w : World) (hs : Byts 64 s) (hq : q.length = 64) (hm : (leS s).may = true) (h14 : ∀ W, Calls Try.prog 14 #[aggV (leS s).C] W fun e w' => e = .returned (aggV (u8s q)) ∧ Kept [] W w') (he : decide (q = s) = false) : Calls Try.prog 10 #[aggV (u8s s)] w fun x w' => x = .returned (.tuple #[aggV le0.C, .int .i64 12]) ∧ Kept [] w w' := by
  have P12 : ∀ W, Hid (Calls Try.prog 12 #[aggV (leS s).C] W fun e w' => e = .returned (.bool true) ∧ Kept [] W w') := fun W => hide (by have := rmay12 (leS s) W; rw [hm] at this; exact this)
  have P14 : ∀ W, Hid (Calls Try.prog 14 #[aggV (leS s).C] W fun e w' => e = .returned (aggV (u8s q)) ∧ Kept [] W w') := fun W => hide (h14 W)
  clear h14
  go_enter Try.func10, Try.ntmps10
  have M : Hid (Mm [] w w []) := hide Mm.init
  go_wp2_with (
    first
    | (refine wpBoxV rfl (.tmp 0) rfl (u8s s) rfl ?_
       intro W1 b1 e1 B1 K1
       replace M : Hid (Mm [] w W1 [(b1, 25, u8s s)]) := hide ((unhide M).new e1 B1 K1)
       clear e1 B1 K1
       refine Stp.go ?_))
  constructor
  go_wp2_with (
    first
    | (refine wpAllocW (le0.C) zero23 2 rfl rfl rfl ?_
       intro W2 b2 e2 B2 K2
       replace M : Hid (Mm [] w W2 [(b1, 25, u8s s), (b2, 23, le0.C)]) := hide ((unhide M).new e2 B2 K2)
       clear e2 B2 K2
       refine Stp.go ?_))
  constructor
  go_wp2_with fail
  refine wp_region_any mixed (wpAny_gx 9 rfl (by kernel_rfl) [some (aggV (u8s s)), some (.int .i64 (ofB 0 ((s.drop 1).take 4))), some (aggV (u8s s)), some (.int .i64 (ofB 0 ((s.drop 5).take 8))), some (aggV (u8s s)), some (.int .i64 (ofB 0 ((s.drop 13).take 8))), some (aggV (leS s).C), none, none] rfl (by kernel_rfl) (fun l vs W => (SV W2 (leS s)) (fun i => l.getD i false) vs W) (⟨⟨rfl, rfl, rfl, Nat.le_refl _, fun _ _ _ => rfl⟩, fun h => by cases h⟩) ?_ ?_)
  · intro ix o' hi ho a' w2 l vs hls hlf hJ hout hin hdep hnot
    match ix, ho with
    | 0, ho =>
      obtain rfl := Option.some.inj ho
      have e0 := hout 1 (by kernel_rfl)
      replace e0 : a'.eval (.tmp 1) = _ := e0.trans rfl
      exact wp_loadA row25 (.tmp 1) rfl b1 0 e0 (u8s s) (by rw [u8s_len]; exact hs.len) (((unhide M).step hJ.1).at 0 _ rfl).range ⟨_, rfl, told_of rfl, keepG (St := (SV W2 (leS s))) [7, 8] SV.loc (by omega) (by decide) hJ⟩
    | 1, ho =>
      obtain rfl := Option.some.inj ho
      have e0 : a'.eval (.tmp 5) = aggV (u8s s) := by have h9 := hin 0 5 (by kernel_rfl) (by kernel_rfl); exact h9.1.trans (told_is _ h9.2 rfl)
      refine wp_callF 27 _ _ rfl #[aggV (u8s s), .int .i64 1, .int .i64 4] (by simp [e0]; exact ⟨rfl, rfl⟩) (cg27 _ _) ((rnumber27 4 1 s w2 hs (by omega)).mono ?_)
      rintro e w3 ⟨rfl, hk3⟩
      exact ⟨_, rfl, _, rfl, told_of rfl, keepG (St := (SV W2 (leS s))) [7, 8] SV.loc (by omega) (by decide) (SV.step hJ hk3)⟩
    | 2, ho =>
      obtain rfl := Option.some.inj ho
      have e0 := hout 1 (by kernel_rfl)
      replace e0 : a'.eval (.tmp 1) = _ := e0.trans rfl
      exact wp_loadA row25 (.tmp 1) rfl b1 0 e0 (u8s s) (by rw [u8s_len]; exact hs.len) (((unhide M).step hJ.1).at 0 _ rfl).range ⟨_, rfl, told_of rfl, keepG (St := (SV W2 (leS s))) [7, 8] SV.loc (by omega) (by decide) hJ⟩
    | 3, ho =>
      obtain rfl := Option.some.inj ho
      have e0 : a'.eval (.tmp 7) = aggV (u8s s) := by have h9 := hin 2 7 (by kernel_rfl) (by kernel_rfl); exact h9.1.trans (told_is _ h9.2 rfl)
      refine wp_callF 27 _ _ rfl #[aggV (u8s s), .int .i64 5, .int .i64 8] (by simp [e0]; exact ⟨rfl, rfl⟩) (cg27 _ _) ((rnumber27 8 5 s w2 hs (by omega)).mono ?_)
      rintro e w3 ⟨rfl, hk3⟩
      exact ⟨_, rfl, _, rfl, told_of rfl, keepG (St := (SV W2 (leS s))) [7, 8] SV.loc (by omega) (by decide) (SV.step hJ hk3)⟩
    | 4, ho =>
      obtain rfl := Option.some.inj ho
      have e0 := hout 1 (by kernel_rfl)
      replace e0 : a'.eval (.tmp 1) = _ := e0.trans rfl
      exact wp_loadA row25 (.tmp 1) rfl b1 0 e0 (u8s s) (by rw [u8s_len]; exact hs.len) (((unhide M).step hJ.1).at 0 _ rfl).range ⟨_, rfl, told_of rfl, keepG (St := (SV W2 (leS s))) [7, 8] SV.loc (by omega) (by decide) hJ⟩
    | 5, ho =>
      obtain rfl := Option.some.inj ho
      have e0 : a'.eval (.tmp 9) = aggV (u8s s) := by have h9 := hin 4 9 (by kernel_rfl) (by kernel_rfl); exact h9.1.trans (told_is _ h9.2 rfl)
      refine wp_callF 27 _ _ rfl #[aggV (u8s s), .int .i64 13, .int .i64 8] (by simp [e0]; exact ⟨rfl, rfl⟩) (cg27 _ _) ((rnumber27 8 13 s w2 hs (by omega)).mono ?_)
      rintro e w3 ⟨rfl, hk3⟩
      exact ⟨_, rfl, _, rfl, told_of rfl, keepG (St := (SV W2 (leS s))) [7, 8] SV.loc (by omega) (by decide) (SV.step hJ hk3)⟩
    | 6, ho =>
      obtain rfl := Option.some.inj ho
      have e0 : a'.eval (.tmp 6) = .int .i64 (ofB 0 ((s.drop 1).take 4)) := by have h9 := hin 1 6 (by kernel_rfl) (by kernel_rfl); exact h9.1.trans (told_is _ h9.2 rfl)
      have e1 : a'.eval (.tmp 8) = .int .i64 (ofB 0 ((s.drop 5).take 8)) := by have h9 := hin 3 8 (by kernel_rfl) (by kernel_rfl); exact h9.1.trans (told_is _ h9.2 rfl)
      have e2 : a'.eval (.tmp 10) = .int .i64 (ofB 0 ((s.drop 13).take 8)) := by have h9 := hin 5 10 (by kernel_rfl) (by kernel_rfl); exact h9.1.trans (told_is _ h9.2 rfl)
      exact o_bld23 (.tmp 6) (.tmp 8) (.tmp 10) rfl _ _ _ e0 e1 e2 ⟨_, rfl, told_of rfl, keepG (St := (SV W2 (leS s))) [7, 8] SV.loc (by omega) (by decide) hJ⟩
    | 7, ho =>
      obtain rfl := Option.some.inj ho
      exact wp_allocA le0.C zero23 rfl ⟨_, rfl, told_no rfl, nextG (St := (SV W2 (leS s))) (by omega) ⟨hJ.1.alloc _, fun _ => ⟨w2.heap.size, rfl, hJ.1.size, fun _ => Blk.new w2 23 _, fun h => by have h9 : l.getD 8 false = true := h; rw [hnot 8 (by kernel_rfl)] at h9; cases h9⟩⟩⟩
    | 8, ho =>
      obtain rfl := Option.some.inj ho
      have e0 : a'.eval (.tmp 4) = vs 7 := (hin 7 4 (by kernel_rfl) (by kernel_rfl)).1
      have e1 : a'.eval (.tmp 11) = aggV (leS s).C := by have h9 := hin 6 11 (by kernel_rfl) (by kernel_rfl); exact h9.1.trans (told_is _ h9.2 rfl)
      obtain ⟨p, hp, hge, hz0, _⟩ := hJ.2 (hdep 7 (by kernel_rfl))
      exact wp_storeN row23 (.tmp 4) (.tmp 11) rfl rfl p 0 _ (e0.trans hp) e1 rfl (leC_one _) ((hz0 hlf).there (by decide)) ⟨undef, rfl, told_no rfl, nextG (St := (SV W2 (leS s))) (by omega) ⟨hJ.1.setCells _ _ (by omega), fun _ => ⟨p, hp, hge, (fun h => by cases h), fun _ => (hz0 hlf).put rfl⟩⟩⟩
  intro l_ vs4 V4 hl hJ htold
  have t0 : vs4 0 = aggV (u8s s) := told_is _ (htold 0 (by decide)) rfl
  have t1 : vs4 1 = .int .i64 (ofB 0 ((s.drop 1).take 4)) := told_is _ (htold 1 (by decide)) rfl
  have t2 : vs4 2 = aggV (u8s s) := told_is _ (htold 2 (by decide)) rfl
  have t3 : vs4 3 = .int .i64 (ofB 0 ((s.drop 5).take 8)) := told_is _ (htold 3 (by decide)) rfl
  have t4 : vs4 4 = aggV (u8s s) := told_is _ (htold 4 (by decide)) rfl
  have t5 : vs4 5 = .int .i64 (ofB 0 ((s.drop 13).take 8)) := told_is _ (htold 5 (by decide)) rfl
  have t6 : vs4 6 = aggV (leS s).C := told_is _ (htold 6 (by decide)) rfl
  rw [show (List.range 9).map vs4 = [vs4 0, vs4 1, vs4 2, vs4 3, vs4 4, vs4 5, vs4 6, vs4 7, vs4 8] from rfl]
  simp only [t0, t1, t2, t3, t4, t5, t6, putAll, Act.put, List.setIfInBounds_toArray, List.set_cons_succ, List.set_cons_zero]
  clear t0 t1 t2 t3 t4 t5 t6 htold
  obtain ⟨p, ep, hgp, _, hbp⟩ := hJ.2 (hl 7 (by decide))
  replace hbp := hbp (hl 8 (by decide))
  have hb1 : b1 < W2.heap.size := ((unhide M).at 0 _ rfl).lt
  have hb2 : b2 < W2.heap.size := ((unhide M).at 1 _ rfl).lt
  have hwz := (unhide M).kept.size
  replace M : Hid (Mm [] w V4 [(b1, 25, u8s s), (b2, 23, le0.C), (p, 23, (leS s).C)]) := hide (((unhide M).step hJ.1).add hbp (by omega) (fun x hx => by simp at hx; rcases hx with rfl | rfl <;> simp <;> omega))
  rw [ep]
  clear hJ hl ep hgp hbp hb1 hb2 hwz
  go_wp2_with fail
  refine wp_region_any mixed (wpAny_tq 9 rfl (by kernel_rfl) [some (aggV (leS s).C), some (.bool true), some (.bool false), some (.bool false), some (aggV (leS s).C), some (aggV (u8s q)), some (aggV (u8s s)), some (.bool true), some (.bool true)] rfl (by kernel_rfl) (by kernel_rfl) ?_ ?_)
  · intro i o' hi hsk ho a' w2 hout hin hk2
    replace hk2 : Kept [] V4 w2 := ⟨hk2.os, hk2.tape, hk2.output, hk2.size, hk2.block⟩
    match i, ho, hsk with
    | 0, ho, hsk =>
      obtain rfl := Option.some.inj ho
      exact wp_loadA row23 (.tmp 4) rfl p 0 ((hout 4 (by kernel_rfl)).trans rfl) (leS s).C rfl (((unhide M).step hk2).at 2 _ rfl).range ⟨_, rfl, tq_is _ _ _ _ rfl, Kept.refl _ _, fun _ _ _ _ _ => trivial⟩
    | 1, ho, hsk =>
      obtain rfl := Option.some.inj ho
      have e0 : a'.eval (.tmp 12) = aggV (leS s).C := is_tq (hin 0 12 (by kernel_rfl) (by kernel_rfl)) rfl
      refine wp_callF 12 _ _ rfl #[aggV (leS s).C] (by simp [e0]) (cg12 _ _) ((unhide (P12 _)).mono ?_)
      rintro e w3 ⟨rfl, hk3⟩
      exact ⟨_, rfl, _, rfl, tq_is _ _ _ _ rfl, hk3, fun _ _ _ _ _ => trivial⟩
    | 2, ho, hsk =>
      obtain rfl := Option.some.inj ho
      have e0 : a'.eval (.tmp 13) = .bool true := is_tq (hin 1 13 (by kernel_rfl) (by kernel_rfl)) rfl
      exact o_not (.tmp 13) rfl true e0 ⟨_, rfl, tq_is _ _ _ _ rfl, Kept.refl _ _, fun _ _ _ _ _ => trivial⟩
    | 3, ho, hsk =>
      obtain rfl := Option.some.inj ho
      have e0 : a'.eval (.tmp 14) = .bool false := is_tq (hin 2 14 (by kernel_rfl) (by kernel_rfl)) rfl
      exact wp_move (.tmp 14) rfl _ e0 ⟨_, rfl, tq_is _ _ _ _ rfl, Kept.refl _ _, fun _ _ _ _ _ => trivial⟩
    | 4, ho, hsk =>
      obtain rfl := Option.some.inj ho
      exact wp_loadA row23 (.tmp 4) rfl p 0 ((hout 4 (by kernel_rfl)).trans rfl) (leS s).C rfl (((unhide M).step hk2).at 2 _ rfl).range ⟨_, rfl, tq_is _ _ _ _ rfl, Kept.refl _ _, fun _ _ _ _ _ => trivial⟩
    | 5, ho, hsk =>
      obtain rfl := Option.some.inj ho
      have e0 : a'.eval (.tmp 16) = aggV (leS s).C := is_tq (hin 4 16 (by kernel_rfl) (by kernel_rfl)) rfl
      refine wp_callF 14 _ _ rfl #[aggV (leS s).C] (by simp [e0]) (cg14 _ _) ((unhide (P14 _)).mono ?_)
      rintro e w3 ⟨rfl, hk3⟩
      exact ⟨_, rfl, _, rfl, tq_is _ _ _ _ rfl, hk3, fun _ _ _ _ _ => trivial⟩
    | 6, ho, hsk =>
      obtain rfl := Option.some.inj ho
      exact wp_loadA row25 (.tmp 1) rfl b1 0 ((hout 1 (by kernel_rfl)).trans rfl) (u8s s) (by rw [u8s_len]; exact hs.len) (((unhide M).step hk2).at 0 _ rfl).range ⟨_, rfl, tq_is _ _ _ _ rfl, Kept.refl _ _, fun _ _ _ _ _ => trivial⟩
    | 7, ho, hsk =>
      obtain rfl := Option.some.inj ho
      have e0 : a'.eval (.tmp 17) = aggV (u8s q) := is_tq (hin 5 17 (by kernel_rfl) (by kernel_rfl)) rfl
      have e1 : a'.eval (.tmp 18) = aggV (u8s s) := is_tq (hin 6 18 (by kernel_rfl) (by kernel_rfl)) rfl
      exact o_neqA 25 25 guard25 (.tmp 17) (.tmp 18) rfl (u8s q) (u8s s) e0 e1 false ((equal25 _ q s hq hs.len).trans (by rw [he])) ⟨_, rfl, tq_is _ _ _ _ rfl, Kept.refl _ _, fun _ _ _ _ _ => trivial⟩
    | 8, ho, hsk =>
      obtain rfl := Option.some.inj ho
      have e0 : a'.eval (.tmp 15) = .bool false := is_tq (hin 3 15 (by kernel_rfl) (by kernel_rfl)) rfl
      have e1 : a'.eval (.tmp 19) = .bool true := is_tq (hin 7 19 (by kernel_rfl) (by kernel_rfl)) rfl
      exact o_pickOr0 (.tmp 15) (.tmp 19) rfl _ e0 e1 ⟨_, rfl, tq_is _ _ _ _ rfl, Kept.refl _ _, fun _ _ _ _ _ => trivial⟩
  intro w9 hk9
  replace hk9 : Kept [] V4 w9 := ⟨hk9.os, hk9.tape, hk9.output, hk9.size, hk9.block⟩
  simp only [valsQ, List.map_cons, List.map_nil, Option.getD_some, List.take_succ_cons, List.take_zero, putAll, Act.put, List.setIfInBounds_toArray, List.set_cons_succ, List.set_cons_zero]
  refine wpAny_done (by kernel_rfl) ?_ _
  replace M : Hid (Mm [] w w9 [(b1, 25, u8s s), (b2, 23, le0.C), (p, 23, (leS s).C)]) := hide ((unhide M).step hk9)
  clear hk9
  go_wp2_with (
    first
    | (refine wpBuildZ (T := 23) le0.C build23 rfl rfl ?_
       refine Stp.go ?_))
  constructor
  go_wp2_with (
    first
    | (refine wpStoreM row23 rfl (.tmp 2) (.tmp 21) rfl rfl b2 1 (le0.C) rfl rfl rfl (leC_one _) (unhide M) rfl rfl ?_
       intro W41 N41
       replace M : Hid (Mm [] w W41 [(b1, 25, u8s s), (b2, 23, le0.C), (p, 23, (leS s).C)]) := hide N41
       clear N41
       refine Stp.go ?_))
  constructor
  go_wp2_with fail
  refine bodyPost_ret (res10 _ b2 le0.C 12 _ rfl rfl rfl ((unhide M).at 1 _ rfl)) rfl ?_
  exact ⟨rfl, (unhide M).kept⟩
set_option maxHeartbeats 2000000 in
theorem rget_c (s q : List Int) (w : World) (hs : Byts 64 s) (hq : q.length = 64) (hm : (leS s).may = true) (h14 : ∀ W, Calls Try.prog 14 #[aggV (leS s).C] W fun e w' => e = .returned (aggV (u8s q)) ∧ Kept [] W w') (he : decide (q = s) = true) : Calls Try.prog 10 #[aggV (u8s s)] w fun x w' => x = .returned (.tuple #[aggV (leS s).C, .int .i64 0]) ∧ Kept [] w w' := by
  have P12 : ∀ W, Hid (Calls Try.prog 12 #[aggV (leS s).C] W fun e w' => e = .returned (.bool true) ∧ Kept [] W w') := fun W => hide (by have := rmay12 (leS s) W; rw [hm] at this; exact this)
  have P14 : ∀ W, Hid (Calls Try.prog 14 #[aggV (leS s).C] W fun e w' => e = .returned (aggV (u8s q)) ∧ Kept [] W w') := fun W => hide (h14 W)
  clear h14
  go_enter Try.func10, Try.ntmps10
  have M : Hid (Mm [] w w []) := hide Mm.init
  go_wp2_with (
    first
    | (refine wpBoxV rfl (.tmp 0) rfl (u8s s) rfl ?_
       intro W1 b1 e1 B1 K1
       replace M : Hid (Mm [] w W1 [(b1, 25, u8s s)]) := hide ((unhide M).new e1 B1 K1)
       clear e1 B1 K1
       refine Stp.go ?_))
  constructor
  go_wp2_with (
    first
    | (refine wpAllocW (le0.C) zero23 2 rfl rfl rfl ?_
       intro W2 b2 e2 B2 K2
       replace M : Hid (Mm [] w W2 [(b1, 25, u8s s), (b2, 23, le0.C)]) := hide ((unhide M).new e2 B2 K2)
       clear e2 B2 K2
       refine Stp.go ?_))
  constructor
  go_wp2_with fail
  refine wp_region_any mixed (wpAny_gx 9 rfl (by kernel_rfl) [some (aggV (u8s s)), some (.int .i64 (ofB 0 ((s.drop 1).take 4))), some (aggV (u8s s)), some (.int .i64 (ofB 0 ((s.drop 5).take 8))), some (aggV (u8s s)), some (.int .i64 (ofB 0 ((s.drop 13).take 8))), some (aggV (leS s).C), none, none] rfl (by kernel_rfl) (fun l vs W => (SV W2 (leS s)) (fun i => l.getD i false) vs W) (⟨⟨rfl, rfl, rfl, Nat.le_refl _, fun _ _ _ => rfl⟩, fun h => by cases h⟩) ?_ ?_)
  · intro ix o' hi ho a' w2 l vs hls hlf hJ hout hin hdep hnot
    match ix, ho with
    | 0, ho =>
      obtain rfl := Option.some.inj ho
      have e0 := hout 1 (by kernel_rfl)
      replace e0 : a'.eval (.tmp 1) = _ := e0.trans rfl
      exact wp_loadA row25 (.tmp 1) rfl b1 0 e0 (u8s s) (by rw [u8s_len]; exact hs.len) (((unhide M).step hJ.1).at 0 _ rfl).range ⟨_, rfl, told_of rfl, keepG (St := (SV W2 (leS s))) [7, 8] SV.loc (by omega) (by decide) hJ⟩
    | 1, ho =>
      obtain rfl := Option.some.inj ho
      have e0 : a'.eval (.tmp 5) = aggV (u8s s) := by have h9 := hin 0 5 (by kernel_rfl) (by kernel_rfl); exact h9.1.trans (told_is _ h9.2 rfl)
      refine wp_callF 27 _ _ rfl #[aggV (u8s s), .int .i64 1, .int .i64 4] (by simp [e0]; exact ⟨rfl, rfl⟩) (cg27 _ _) ((rnumber27 4 1 s w2 hs (by omega)).mono ?_)
      rintro e w3 ⟨rfl, hk3⟩
      exact ⟨_, rfl, _, rfl, told_of rfl, keepG (St := (SV W2 (leS s))) [7, 8] SV.loc (by omega) (by decide) (SV.step hJ hk3)⟩
    | 2, ho =>
      obtain rfl := Option.some.inj ho
      have e0 := hout 1 (by kernel_rfl)
      replace e0 : a'.eval (.tmp 1) = _ := e0.trans rfl
      exact wp_loadA row25 (.tmp 1) rfl b1 0 e0 (u8s s) (by rw [u8s_len]; exact hs.len) (((unhide M).step hJ.1).at 0 _ rfl).range ⟨_, rfl, told_of rfl, keepG (St := (SV W2 (leS s))) [7, 8] SV.loc (by omega) (by decide) hJ⟩
    | 3, ho =>
      obtain rfl := Option.some.inj ho
      have e0 : a'.eval (.tmp 7) = aggV (u8s s) := by have h9 := hin 2 7 (by kernel_rfl) (by kernel_rfl); exact h9.1.trans (told_is _ h9.2 rfl)
      refine wp_callF 27 _ _ rfl #[aggV (u8s s), .int .i64 5, .int .i64 8] (by simp [e0]; exact ⟨rfl, rfl⟩) (cg27 _ _) ((rnumber27 8 5 s w2 hs (by omega)).mono ?_)
      rintro e w3 ⟨rfl, hk3⟩
      exact ⟨_, rfl, _, rfl, told_of rfl, keepG (St := (SV W2 (leS s))) [7, 8] SV.loc (by omega) (by decide) (SV.step hJ hk3)⟩
    | 4, ho =>
      obtain rfl := Option.some.inj ho
      have e0 := hout 1 (by kernel_rfl)
      replace e0 : a'.eval (.tmp 1) = _ := e0.trans rfl
      exact wp_loadA row25 (.tmp 1) rfl b1 0 e0 (u8s s) (by rw [u8s_len]; exact hs.len) (((unhide M).step hJ.1).at 0 _ rfl).range ⟨_, rfl, told_of rfl, keepG (St := (SV W2 (leS s))) [7, 8] SV.loc (by omega) (by decide) hJ⟩
    | 5, ho =>
      obtain rfl := Option.some.inj ho
      have e0 : a'.eval (.tmp 9) = aggV (u8s s) := by have h9 := hin 4 9 (by kernel_rfl) (by kernel_rfl); exact h9.1.trans (told_is _ h9.2 rfl)
      refine wp_callF 27 _ _ rfl #[aggV (u8s s), .int .i64 13, .int .i64 8] (by simp [e0]; exact ⟨rfl, rfl⟩) (cg27 _ _) ((rnumber27 8 13 s w2 hs (by omega)).mono ?_)
      rintro e w3 ⟨rfl, hk3⟩
      exact ⟨_, rfl, _, rfl, told_of rfl, keepG (St := (SV W2 (leS s))) [7, 8] SV.loc (by omega) (by decide) (SV.step hJ hk3)⟩
    | 6, ho =>
      obtain rfl := Option.some.inj ho
      have e0 : a'.eval (.tmp 6) = .int .i64 (ofB 0 ((s.drop 1).take 4)) := by have h9 := hin 1 6 (by kernel_rfl) (by kernel_rfl); exact h9.1.trans (told_is _ h9.2 rfl)
      have e1 : a'.eval (.tmp 8) = .int .i64 (ofB 0 ((s.drop 5).take 8)) := by have h9 := hin 3 8 (by kernel_rfl) (by kernel_rfl); exact h9.1.trans (told_is _ h9.2 rfl)
      have e2 : a'.eval (.tmp 10) = .int .i64 (ofB 0 ((s.drop 13).take 8)) := by have h9 := hin 5 10 (by kernel_rfl) (by kernel_rfl); exact h9.1.trans (told_is _ h9.2 rfl)
      exact o_bld23 (.tmp 6) (.tmp 8) (.tmp 10) rfl _ _ _ e0 e1 e2 ⟨_, rfl, told_of rfl, keepG (St := (SV W2 (leS s))) [7, 8] SV.loc (by omega) (by decide) hJ⟩
    | 7, ho =>
      obtain rfl := Option.some.inj ho
      exact wp_allocA le0.C zero23 rfl ⟨_, rfl, told_no rfl, nextG (St := (SV W2 (leS s))) (by omega) ⟨hJ.1.alloc _, fun _ => ⟨w2.heap.size, rfl, hJ.1.size, fun _ => Blk.new w2 23 _, fun h => by have h9 : l.getD 8 false = true := h; rw [hnot 8 (by kernel_rfl)] at h9; cases h9⟩⟩⟩
    | 8, ho =>
      obtain rfl := Option.some.inj ho
      have e0 : a'.eval (.tmp 4) = vs 7 := (hin 7 4 (by kernel_rfl) (by kernel_rfl)).1
      have e1 : a'.eval (.tmp 11) = aggV (leS s).C := by have h9 := hin 6 11 (by kernel_rfl) (by kernel_rfl); exact h9.1.trans (told_is _ h9.2 rfl)
      obtain ⟨p, hp, hge, hz0, _⟩ := hJ.2 (hdep 7 (by kernel_rfl))
      exact wp_storeN row23 (.tmp 4) (.tmp 11) rfl rfl p 0 _ (e0.trans hp) e1 rfl (leC_one _) ((hz0 hlf).there (by decide)) ⟨undef, rfl, told_no rfl, nextG (St := (SV W2 (leS s))) (by omega) ⟨hJ.1.setCells _ _ (by omega), fun _ => ⟨p, hp, hge, (fun h => by cases h), fun _ => (hz0 hlf).put rfl⟩⟩⟩
  intro l_ vs4 V4 hl hJ htold
  have t0 : vs4 0 = aggV (u8s s) := told_is _ (htold 0 (by decide)) rfl
  have t1 : vs4 1 = .int .i64 (ofB 0 ((s.drop 1).take 4)) := told_is _ (htold 1 (by decide)) rfl
  have t2 : vs4 2 = aggV (u8s s) := told_is _ (htold 2 (by decide)) rfl
  have t3 : vs4 3 = .int .i64 (ofB 0 ((s.drop 5).take 8)) := told_is _ (htold 3 (by decide)) rfl
  have t4 : vs4 4 = aggV (u8s s) := told_is _ (htold 4 (by decide)) rfl
  have t5 : vs4 5 = .int .i64 (ofB 0 ((s.drop 13).take 8)) := told_is _ (htold 5 (by decide)) rfl
  have t6 : vs4 6 = aggV (leS s).C := told_is _ (htold 6 (by decide)) rfl
  rw [show (List.range 9).map vs4 = [vs4 0, vs4 1, vs4 2, vs4 3, vs4 4, vs4 5, vs4 6, vs4 7, vs4 8] from rfl]
  simp only [t0, t1, t2, t3, t4, t5, t6, putAll, Act.put, List.setIfInBounds_toArray, List.set_cons_succ, List.set_cons_zero]
  clear t0 t1 t2 t3 t4 t5 t6 htold
  obtain ⟨p, ep, hgp, _, hbp⟩ := hJ.2 (hl 7 (by decide))
  replace hbp := hbp (hl 8 (by decide))
  have hb1 : b1 < W2.heap.size := ((unhide M).at 0 _ rfl).lt
  have hb2 : b2 < W2.heap.size := ((unhide M).at 1 _ rfl).lt
  have hwz := (unhide M).kept.size
  replace M : Hid (Mm [] w V4 [(b1, 25, u8s s), (b2, 23, le0.C), (p, 23, (leS s).C)]) := hide (((unhide M).step hJ.1).add hbp (by omega) (fun x hx => by simp at hx; rcases hx with rfl | rfl <;> simp <;> omega))
  rw [ep]
  clear hJ hl ep hgp hbp hb1 hb2 hwz
  go_wp2_with fail
  refine wp_region_any mixed (wpAny_tq 9 rfl (by kernel_rfl) [some (aggV (leS s).C), some (.bool true), some (.bool false), some (.bool false), some (aggV (leS s).C), some (aggV (u8s q)), some (aggV (u8s s)), some (.bool false), some (.bool false)] rfl (by kernel_rfl) (by kernel_rfl) ?_ ?_)
  · intro i o' hi hsk ho a' w2 hout hin hk2
    replace hk2 : Kept [] V4 w2 := ⟨hk2.os, hk2.tape, hk2.output, hk2.size, hk2.block⟩
    match i, ho, hsk with
    | 0, ho, hsk =>
      obtain rfl := Option.some.inj ho
      exact wp_loadA row23 (.tmp 4) rfl p 0 ((hout 4 (by kernel_rfl)).trans rfl) (leS s).C rfl (((unhide M).step hk2).at 2 _ rfl).range ⟨_, rfl, tq_is _ _ _ _ rfl, Kept.refl _ _, fun _ _ _ _ _ => trivial⟩
    | 1, ho, hsk =>
      obtain rfl := Option.some.inj ho
      have e0 : a'.eval (.tmp 12) = aggV (leS s).C := is_tq (hin 0 12 (by kernel_rfl) (by kernel_rfl)) rfl
      refine wp_callF 12 _ _ rfl #[aggV (leS s).C] (by simp [e0]) (cg12 _ _) ((unhide (P12 _)).mono ?_)
      rintro e w3 ⟨rfl, hk3⟩
      exact ⟨_, rfl, _, rfl, tq_is _ _ _ _ rfl, hk3, fun _ _ _ _ _ => trivial⟩
    | 2, ho, hsk =>
      obtain rfl := Option.some.inj ho
      have e0 : a'.eval (.tmp 13) = .bool true := is_tq (hin 1 13 (by kernel_rfl) (by kernel_rfl)) rfl
      exact o_not (.tmp 13) rfl true e0 ⟨_, rfl, tq_is _ _ _ _ rfl, Kept.refl _ _, fun _ _ _ _ _ => trivial⟩
    | 3, ho, hsk =>
      obtain rfl := Option.some.inj ho
      have e0 : a'.eval (.tmp 14) = .bool false := is_tq (hin 2 14 (by kernel_rfl) (by kernel_rfl)) rfl
      exact wp_move (.tmp 14) rfl _ e0 ⟨_, rfl, tq_is _ _ _ _ rfl, Kept.refl _ _, fun _ _ _ _ _ => trivial⟩
    | 4, ho, hsk =>
      obtain rfl := Option.some.inj ho
      exact wp_loadA row23 (.tmp 4) rfl p 0 ((hout 4 (by kernel_rfl)).trans rfl) (leS s).C rfl (((unhide M).step hk2).at 2 _ rfl).range ⟨_, rfl, tq_is _ _ _ _ rfl, Kept.refl _ _, fun _ _ _ _ _ => trivial⟩
    | 5, ho, hsk =>
      obtain rfl := Option.some.inj ho
      have e0 : a'.eval (.tmp 16) = aggV (leS s).C := is_tq (hin 4 16 (by kernel_rfl) (by kernel_rfl)) rfl
      refine wp_callF 14 _ _ rfl #[aggV (leS s).C] (by simp [e0]) (cg14 _ _) ((unhide (P14 _)).mono ?_)
      rintro e w3 ⟨rfl, hk3⟩
      exact ⟨_, rfl, _, rfl, tq_is _ _ _ _ rfl, hk3, fun _ _ _ _ _ => trivial⟩
    | 6, ho, hsk =>
      obtain rfl := Option.some.inj ho
      exact wp_loadA row25 (.tmp 1) rfl b1 0 ((hout 1 (by kernel_rfl)).trans rfl) (u8s s) (by rw [u8s_len]; exact hs.len) (((unhide M).step hk2).at 0 _ rfl).range ⟨_, rfl, tq_is _ _ _ _ rfl, Kept.refl _ _, fun _ _ _ _ _ => trivial⟩
    | 7, ho, hsk =>
      obtain rfl := Option.some.inj ho
      have e0 : a'.eval (.tmp 17) = aggV (u8s q) := is_tq (hin 5 17 (by kernel_rfl) (by kernel_rfl)) rfl
      have e1 : a'.eval (.tmp 18) = aggV (u8s s) := is_tq (hin 6 18 (by kernel_rfl) (by kernel_rfl)) rfl
      exact o_neqA 25 25 guard25 (.tmp 17) (.tmp 18) rfl (u8s q) (u8s s) e0 e1 true ((equal25 _ q s hq hs.len).trans (by rw [he])) ⟨_, rfl, tq_is _ _ _ _ rfl, Kept.refl _ _, fun _ _ _ _ _ => trivial⟩
    | 8, ho, hsk =>
      obtain rfl := Option.some.inj ho
      have e0 : a'.eval (.tmp 15) = .bool false := is_tq (hin 3 15 (by kernel_rfl) (by kernel_rfl)) rfl
      have e1 : a'.eval (.tmp 19) = .bool false := is_tq (hin 7 19 (by kernel_rfl) (by kernel_rfl)) rfl
      exact o_pickOr0 (.tmp 15) (.tmp 19) rfl _ e0 e1 ⟨_, rfl, tq_is _ _ _ _ rfl, Kept.refl _ _, fun _ _ _ _ _ => trivial⟩
  intro w9 hk9
  replace hk9 : Kept [] V4 w9 := ⟨hk9.os, hk9.tape, hk9.output, hk9.size, hk9.block⟩
  simp only [valsQ, List.map_cons, List.map_nil, Option.getD_some, List.take_succ_cons, List.take_zero, putAll, Act.put, List.setIfInBounds_toArray, List.set_cons_succ, List.set_cons_zero]
  refine wpAny_done (by kernel_rfl) ?_ _
  replace M : Hid (Mm [] w w9 [(b1, 25, u8s s), (b2, 23, le0.C), (p, 23, (leS s).C)]) := hide ((unhide M).step hk9)
  clear hk9
  go_wp2_with (
    first
    | (refine wpLoadA row23 rfl (.tmp 4) rfl p 0 rfl ((leS s).C) rfl ((unhide M).at 2 _ rfl).range ?_
       refine Stp.go ?_))
  constructor
  go_wp2_with (
    first
    | (refine wpStoreM row23 rfl (.tmp 2) (.tmp 22) rfl rfl b2 1 ((leS s).C) rfl rfl rfl (leC_one _) (unhide M) rfl rfl ?_
       intro W41 N41
       replace M : Hid (Mm [] w W41 [(b1, 25, u8s s), (b2, 23, (leS s).C), (p, 23, (leS s).C)]) := hide N41
       clear N41
       refine Stp.go ?_))
  constructor
  go_wp2_with fail
  refine bodyPost_ret (res10 _ b2 (leS s).C 0 _ rfl rfl rfl ((unhide M).at 1 _ rfl)) rfl ?_
  exact ⟨rfl, (unhide M).kept⟩
theorem rget10 (s : List Int) (w : World) (hs : Byts 64 s) : Calls Try.prog 10 #[aggV (u8s s)] w fun x w' => x = .returned (.tuple #[aggV (getL s).1.C, .int .i64 (getL s).2]) ∧ Kept [] w w' := by
  unfold getL
  have hl := putL_len (leS s)
  cases hm : (leS s).may with
  | false =>
    rw [if_neg (by unfold putL; rw [if_pos hm]; intro h; have := congrArg Prod.snd h; simp at this)]
    exact rget_a s w hs hm
  | true =>
    have h14 := fun W => rput14 (leS s) W hm
    have h0 : (putL (leS s)).2 = 0 := by unfold putL; rw [if_neg (by rw [hm]; simp)]; split <;> rfl
    by_cases he : (putL (leS s)).1 = s
    · rw [if_pos (Prod.ext he h0)]
      exact rget_c s _ w hs hl hm h14 (by simpa using he)
    · rw [if_neg (fun h => he (by rw [h]))]
      exact rget_b s _ w hs hl hm h14 (by simpa using he)
theorem leS_sec {lx : Le} (hm : lx.may = true) : leS (secL lx) = lx := by
  simp only [Le.may, decide_eq_true_eq] at hm
  have e1 : ((secL lx).drop 1).take 4 = be 4 lx.ep := by
    show (be 4 lx.ep ++ be 8 lx.be ++ be 8 lx.re ++ zs 43).take 4 = _
    rw [List.append_assoc, List.append_assoc, List.take_append_of_le_length (by rw [be_len]; exact Nat.le_refl _), List.take_of_length_le (by rw [be_len]; exact Nat.le_refl _)]
  have e2 : ((secL lx).drop 5).take 8 = be 8 lx.be := by
    have : (secL lx).drop 5 = be 8 lx.be ++ (be 8 lx.re ++ zs 43) := by
      unfold secL
      rw [List.append_assoc, List.append_assoc, List.drop_left' (by simp [be_len])]
    rw [this, List.take_append_of_le_length (by rw [be_len]; exact Nat.le_refl _), List.take_of_length_le (by rw [be_len]; exact Nat.le_refl _)]
  have e3 : ((secL lx).drop 13).take 8 = be 8 lx.re := by
    have : (secL lx).drop 13 = be 8 lx.re ++ zs 43 := by
      unfold secL
      rw [List.append_assoc, List.drop_left' (by simp [be_len])]
    rw [this, List.take_append_of_le_length (by rw [be_len]; exact Nat.le_refl _), List.take_of_length_le (by rw [be_len]; exact Nat.le_refl _)]
  have h4 : (256 : Int) ^ 4 = 4294967296 := by decide
  have h8 : (256 : Int) ^ 8 = 18446744073709551616 := by decide
  unfold leS
  rw [e1, e2, e3, ofB_be 4 lx.ep (by omega) (by omega) (by omega), ofB_be 8 lx.be (by omega) (by omega) (by omega), ofB_be 8 lx.re (by omega) (by omega) (by omega)]
theorem sec_byts (lx : Le) : Byts 64 (secL lx) := by
  refine ⟨secL_len lx, ?_⟩
  intro x hx
  unfold secL at hx
  simp only [List.mem_append, List.mem_cons, List.mem_nil_iff, or_false] at hx
  rcases hx with (((rfl | hx) | hx) | hx) | hx
  · omega
  · exact be_byte _ _ x hx
  · exact be_byte _ _ x hx
  · exact be_byte _ _ x hx
  · exact (zs_byts 43).byte x hx
theorem put_byts (lx : Le) : Byts 64 (putL lx).1 := by
  unfold putL
  split
  · exact zs_byts 64
  · split
    · exact zs_byts 64
    · exact sec_byts lx
theorem get_put {lx : Le} (hm : lx.may = true) : getL (putL lx).1 = (lx, 0) := by
  have h0 : leS (putL lx).1 = lx := by
    unfold putL
    rw [if_neg (by rw [hm]; simp)]
    by_cases hq : lx = le0
    · rw [if_pos hq, hq]; show leS (zs 64) = le0; kernel_rfl
    · rw [if_neg hq]; exact leS_sec hm
  have h1 : (putL lx).2 = 0 := by unfold putL; rw [if_neg (by rw [hm]; simp)]; split <;> rfl
  unfold getL
  rw [h0, if_pos (show putL lx = ((putL lx).1, 0) from Prod.ext rfl h1)]

end Go.Proofs.Ythidiolgngkffaa
