/-
  Open, walked.
-/
import Derived.Test.YtmeajhdhiebkdaaDoorLn
namespace Go.Proofs.YtmeajhdhiebkdaaDoor
set_option maxRecDepth 100000
open Go.RowKit

set_option maxHeartbeats 4000000 in
theorem open_no (b g : Nat) (D : Dv.Dev) (J : Ar.Job) (nd ep : Int) (w : World) (hD : Dv.Dv w b g D) (hF : Rc.First w) (hbad : ¬ (lookR D J nd (decide (1 ≤ ep ∧ ep ≤ 2147483647))).2.2 = 0) : Calls Tryd.prog 11 #[P0 b, aggV (Ar.jobC J), .int .i64 nd, .int .i64 ep] w fun e w' => e = .returned (.tuple #[.pointer none, .int .i64 (lookR D J nd (decide (1 ≤ ep ∧ ep ≤ 2147483647))).2.2]) ∧ Kept [] w w' := by
  obtain ⟨may, hmay⟩ : ∃ x, x = decide (1 ≤ ep ∧ ep ≤ 2147483647) := ⟨_, rfl⟩
  rw [← hmay]
  rw [← hmay] at hbad
  have P32 := hide (fun W => from32 1 ep 2147483647 W)
  rw [← hmay] at P32
  obtain ⟨s, hs⟩ : ∃ x, x = (lookR D J nd may).1 := ⟨_, rfl⟩
  obtain ⟨c, hc⟩ : ∃ x, x = (lookR D J nd may).2.2 := ⟨_, rfl⟩
  obtain ⟨R, hR⟩ : ∃ x, x = (lookR D J nd may).2.1 := ⟨_, rfl⟩
  obtain ⟨n, hn⟩ : ∃ x, x = R.length := ⟨_, rfl⟩
  obtain ⟨xs, hxs⟩ : ∃ x, x = cellsR R := ⟨_, rfl⟩
  have P31 : Hid (∀ W', Kept [] w W' → Calls Tryd.prog 31 #[P0 b, aggV (Ar.jobC J), .int .i64 nd, .bool may] W' fun e w' => ∃ u, e = .returned (.tuple #[.int .i64 s, u, .int .i64 c]) ∧ OwnO w' u n xs ∧ (∀ k, u.ownBlock = some k → W'.heap.size ≤ k) ∧ Kept [] W' w') := by
    intro W' hk
    rw [hs, hc, hn, hxs, hR]
    exact look31 b g D J nd may W' (hD.kept hk (by simp) (by simp)) (hF.kept hk)
  rw [← hc]
  rw [← hc] at hbad
  have hb2 : (c != 0) = true := by simpa using hbad
  clear hs hc hR hn hxs hD hF hmay
  go_enter Tryd.func11, Tryd.ntmps11
  go_wp2_with (
    first
    | (refine wpBoxV (by rfl) (.tmp 1) (by rfl) (Ar.jobC J) (by kernel_rfl) ?_
       intro V t5 e5 B5 K5
       have H5 := hide B5
       have HK := hide K5
       clear e5 B5 K5
       refine Stp.go ?_))
  constructor
  go_wp2_with fail
  refine wp_region_any mixed (wpAny_gx 13 rfl (by kernel_rfl) [some (P0 b), some (aggV (Ar.jobC J)), some (.int .i64 nd), some (.int .i64 ep), some (.bool may), none, none, some (.int .i64 s), none, some (.int .i64 c), some (.int .i64 s), none, some (.int .i64 c)] rfl (by kernel_rfl) (fun l_ vs W => (S11 w V s c n xs) (fun i => l_.getD i false) vs W) (⟨⟨rfl, rfl, rfl, Nat.le_refl _, fun _ _ _ => rfl⟩, undef, (fun h => by cases h), (fun h => by cases h), (fun h => by cases h), fun h => by cases h⟩) ?_ ?_)
  · intro ix o' hi ho a' w2 l_ vs hls hlf hJ hout hin hdep hnot
    match ix, ho with
    | 0, ho =>
      obtain rfl := Option.some.inj ho
      have e0 := hout 0 (by kernel_rfl)
      replace e0 : a'.eval (.tmp 0) = _ := e0.trans rfl
      exact wp_move (.tmp 0) rfl _ e0 ⟨_, rfl, told_of rfl, keepG (St := (S11 w V s c n xs)) [5, 6, 8, 11] S11.loc (by omega) (by decide) hJ⟩
    | 1, ho =>
      obtain rfl := Option.some.inj ho
      have e0 := hout 5 (by kernel_rfl)
      replace e0 : a'.eval (.tmp 5) = _ := e0.trans rfl
      exact wp_loadA row23 (.tmp 5) rfl t5 0 e0 (Ar.jobC J) rfl ((unhide H5).kept hJ.1 (by simp)).range ⟨_, rfl, told_of rfl, keepG (St := (S11 w V s c n xs)) [5, 6, 8, 11] S11.loc (by omega) (by decide) hJ⟩
    | 2, ho =>
      obtain rfl := Option.some.inj ho
      have e0 := hout 2 (by kernel_rfl)
      replace e0 : a'.eval (.tmp 2) = _ := e0.trans rfl
      exact wp_move (.tmp 2) rfl _ e0 ⟨_, rfl, told_of rfl, keepG (St := (S11 w V s c n xs)) [5, 6, 8, 11] S11.loc (by omega) (by decide) hJ⟩
    | 3, ho =>
      obtain rfl := Option.some.inj ho
      have e0 := hout 3 (by kernel_rfl)
      replace e0 : a'.eval (.tmp 3) = _ := e0.trans rfl
      exact wp_move (.tmp 3) rfl _ e0 ⟨_, rfl, told_of rfl, keepG (St := (S11 w V s c n xs)) [5, 6, 8, 11] S11.loc (by omega) (by decide) hJ⟩
    | 4, ho =>
      obtain rfl := Option.some.inj ho
      have e0 : a'.eval (.tmp 17) = .int .i64 ep := by have h9 := hin 3 17 (by kernel_rfl) (by kernel_rfl); exact h9.1.trans (told_is _ h9.2 rfl)
      refine wp_callF 32 _ _ rfl #[.int .i64 1, .int .i64 ep, .int .i64 2147483647] (by simp only [List.map_toArray, List.map_cons, List.map_nil, e0]; rfl) (cg32 _ _) ((unhide P32 w2).mono ?_)
      rintro e w3 ⟨rfl, hw3⟩
      obtain rfl := hw3.symm
      exact ⟨_, rfl, _, rfl, told_of rfl, keepG (St := (S11 w V s c n xs)) [5, 6, 8, 11] S11.loc (by omega) (by decide) hJ⟩
    | 5, ho =>
      obtain rfl := Option.some.inj ho
      have e0 : a'.eval (.tmp 14) = P0 b := by have h9 := hin 0 14 (by kernel_rfl) (by kernel_rfl); exact h9.1.trans (told_is _ h9.2 rfl)
      have e1 : a'.eval (.tmp 15) = aggV (Ar.jobC J) := by have h9 := hin 1 15 (by kernel_rfl) (by kernel_rfl); exact h9.1.trans (told_is _ h9.2 rfl)
      have e2 : a'.eval (.tmp 16) = .int .i64 nd := by have h9 := hin 2 16 (by kernel_rfl) (by kernel_rfl); exact h9.1.trans (told_is _ h9.2 rfl)
      have e3 : a'.eval (.tmp 18) = .bool may := by have h9 := hin 4 18 (by kernel_rfl) (by kernel_rfl); exact h9.1.trans (told_is _ h9.2 rfl)
      refine wp_callF 31 _ _ rfl #[P0 b, aggV (Ar.jobC J), .int .i64 nd, .bool may] (by simp [e0, e1, e2, e3]) (cg31 _ _) ((unhide P31 w2 ((unhide HK).trans hJ.1)).mono ?_)
      rintro e w3 ⟨u, rfl, hO3, hf3, hk3⟩
      exact ⟨_, rfl, _, rfl, told_no rfl, nextG (St := (S11 w V s c n xs)) (by omega) ⟨hJ.1.trans hk3, u, (fun _ => ⟨rfl, hO3, fun k hk => by have h1 := hf3 k hk; have h2 := (unhide HK).size; have h3 := hJ.1.size; omega⟩), (fun h => by have h9 : l_.getD 6 false = true := h; rw [hnot 6 (by kernel_rfl)] at h9; cases h9), (fun h => by have h9 : l_.getD 8 false = true := h; rw [hnot 8 (by kernel_rfl)] at h9; cases h9), (fun h => by have h9 : l_.getD 11 false = true := h; rw [hnot 11 (by kernel_rfl)] at h9; cases h9)⟩⟩
    | 6, ho =>
      obtain rfl := Option.some.inj ho
      have e0 : a'.eval (.tmp 19) = vs 5 := (hin 5 19 (by kernel_rfl) (by kernel_rfl)).1
      obtain ⟨hk0, u, g1, g2, g3, g4⟩ := hJ
      exact wp_move (.tmp 19) rfl _ e0 ⟨_, rfl, told_no rfl, nextG (St := (S11 w V s c n xs)) (by omega) ⟨hk0, u, (fun h => g1 h), (fun _ => (g1 (hdep 5 (by kernel_rfl))).1), (fun h => g3 h), fun h => g4 h⟩⟩
    | 7, ho =>
      obtain rfl := Option.some.inj ho
      have e0 : a'.eval (.tmp 13) = vs 6 := (hin 6 13 (by kernel_rfl) (by kernel_rfl)).1
      obtain ⟨u, g1, g2, g3, g4⟩ := hJ.2
      exact o_ext3_0 (.tmp 13) rfl _ _ _ (e0.trans (g2 (hdep 6 (by kernel_rfl)))) ⟨_, rfl, told_of rfl, keepG (St := (S11 w V s c n xs)) [5, 6, 8, 11] S11.loc (by omega) (by decide) hJ⟩
    | 8, ho =>
      obtain rfl := Option.some.inj ho
      have e0 : a'.eval (.tmp 13) = vs 6 := (hin 6 13 (by kernel_rfl) (by kernel_rfl)).1
      obtain ⟨hk0, u, g1, g2, g3, g4⟩ := hJ
      exact o_ext3_1 (.tmp 13) rfl _ _ _ (e0.trans (g2 (hdep 6 (by kernel_rfl)))) ⟨_, rfl, told_no rfl, nextG (St := (S11 w V s c n xs)) (by omega) ⟨hk0, u, (fun h => g1 h), (fun h => g2 h), (fun _ => rfl), fun h => g4 h⟩⟩
    | 9, ho =>
      obtain rfl := Option.some.inj ho
      have e0 : a'.eval (.tmp 13) = vs 6 := (hin 6 13 (by kernel_rfl) (by kernel_rfl)).1
      obtain ⟨u, g1, g2, g3, g4⟩ := hJ.2
      exact o_ext3_2 (.tmp 13) rfl _ _ _ (e0.trans (g2 (hdep 6 (by kernel_rfl)))) ⟨_, rfl, told_of rfl, keepG (St := (S11 w V s c n xs)) [5, 6, 8, 11] S11.loc (by omega) (by decide) hJ⟩
    | 10, ho =>
      obtain rfl := Option.some.inj ho
      have e0 : a'.eval (.tmp 20) = .int .i64 s := by have h9 := hin 7 20 (by kernel_rfl) (by kernel_rfl); exact h9.1.trans (told_is _ h9.2 rfl)
      exact wp_assignV (.tmp 20) rfl _ e0 ⟨_, rfl, told_of rfl, keepG (St := (S11 w V s c n xs)) [5, 6, 8, 11] S11.loc (by omega) (by decide) hJ⟩
    | 11, ho =>
      obtain rfl := Option.some.inj ho
      have e0 : a'.eval (.tmp 21) = vs 8 := (hin 8 21 (by kernel_rfl) (by kernel_rfl)).1
      obtain ⟨hk0, u, g1, g2, g3, g4⟩ := hJ
      exact wp_assignV (.tmp 21) rfl _ e0 ⟨_, rfl, told_no rfl, nextG (St := (S11 w V s c n xs)) (by omega) ⟨hk0, u, (fun h => g1 h), (fun h => g2 h), (fun h => g3 h), fun _ => g3 (hdep 8 (by kernel_rfl))⟩⟩
    | 12, ho =>
      obtain rfl := Option.some.inj ho
      have e0 : a'.eval (.tmp 22) = .int .i64 c := by have h9 := hin 9 22 (by kernel_rfl) (by kernel_rfl); exact h9.1.trans (told_is _ h9.2 rfl)
      exact wp_assignV (.tmp 22) rfl _ e0 ⟨_, rfl, told_of rfl, keepG (St := (S11 w V s c n xs)) [5, 6, 8, 11] S11.loc (by omega) (by decide) hJ⟩
  intro l_ vs9 V9 hl hJ htold
  have t0 : vs9 0 = P0 b := told_is _ (htold 0 (by decide)) rfl
  have t1 : vs9 1 = aggV (Ar.jobC J) := told_is _ (htold 1 (by decide)) rfl
  have t2 : vs9 2 = .int .i64 nd := told_is _ (htold 2 (by decide)) rfl
  have t3 : vs9 3 = .int .i64 ep := told_is _ (htold 3 (by decide)) rfl
  have t4 : vs9 4 = .bool may := told_is _ (htold 4 (by decide)) rfl
  have t7 : vs9 7 = .int .i64 s := told_is _ (htold 7 (by decide)) rfl
  have t9 : vs9 9 = .int .i64 c := told_is _ (htold 9 (by decide)) rfl
  have t10 : vs9 10 = .int .i64 s := told_is _ (htold 10 (by decide)) rfl
  have t12 : vs9 12 = .int .i64 c := told_is _ (htold 12 (by decide)) rfl
  rw [show (List.range 13).map vs9 = [vs9 0, vs9 1, vs9 2, vs9 3, vs9 4, vs9 5, vs9 6, vs9 7, vs9 8, vs9 9, vs9 10, vs9 11, vs9 12] from rfl]
  simp only [t0, t1, t2, t3, t4, t7, t9, t10, t12, putAll, Act.put, List.setIfInBounds_toArray, List.set_cons_succ, List.set_cons_zero]
  clear t0 t1 t2 t3 t4 t7 t9 t10 t12 htold
  obtain ⟨hk0, u, g1, g2, g3, g4⟩ := hJ
  obtain ⟨g5, hO9, hf9⟩ := g1 (hl 5 (by decide))
  rw [g5, g2 (hl 6 (by decide)), g3 (hl 8 (by decide)), g4 (hl 11 (by decide))]
  have HO9 := hide hO9
  have HF9 := hide hf9
  replace H5 := hide ((unhide H5).kept hk0 (by simp))
  replace HK := hide ((unhide HK).trans hk0)
  clear hk0 g1 g2 g3 g4 g5 hl hO9 hf9
  go_wp2_with fail
  go_ret2
  exact ⟨rfl, unhide HK⟩
set_option maxHeartbeats 4000000 in
theorem open_yes (b g : Nat) (D : Dv.Dev) (J : Ar.Job) (nd ep : Int) (w : World) (hD : Dv.Dv w b g D) (hF : Rc.First w) (hok : (lookR D J nd (decide (1 ≤ ep ∧ ep ≤ 2147483647))).2.2 = 0) : Calls Tryd.prog 11 #[P0 b, aggV (Ar.jobC J), .int .i64 nd, .int .i64 ep] w fun e w' => ∃ l rv, e = .returned (.tuple #[P0 l, .int .i64 0]) ∧ Lt w' l b g rv D (openL J nd ep (lookR D J nd (decide (1 ≤ ep ∧ ep ≤ 2147483647))).1 (lookR D J nd (decide (1 ≤ ep ∧ ep ≤ 2147483647))).2.1) ∧ Kept [] w w' ∧ w.heap.size ≤ l ∧ ∀ k, rv.ownBlock = some k → w.heap.size ≤ k := by
  obtain ⟨may, hmay⟩ : ∃ x, x = decide (1 ≤ ep ∧ ep ≤ 2147483647) := ⟨_, rfl⟩
  rw [← hmay]
  rw [← hmay] at hok
  have P32 := hide (fun W => from32 1 ep 2147483647 W)
  rw [← hmay] at P32
  obtain ⟨s, hs⟩ : ∃ x, x = (lookR D J nd may).1 := ⟨_, rfl⟩
  obtain ⟨c, hc⟩ : ∃ x, x = (lookR D J nd may).2.2 := ⟨_, rfl⟩
  obtain ⟨R, hR⟩ : ∃ x, x = (lookR D J nd may).2.1 := ⟨_, rfl⟩
  obtain ⟨n, hn⟩ : ∃ x, x = R.length := ⟨_, rfl⟩
  obtain ⟨xs, hxs⟩ : ∃ x, x = cellsR R := ⟨_, rfl⟩
  have P31 : Hid (∀ W', Kept [] w W' → Calls Tryd.prog 31 #[P0 b, aggV (Ar.jobC J), .int .i64 nd, .bool may] W' fun e w' => ∃ u, e = .returned (.tuple #[.int .i64 s, u, .int .i64 c]) ∧ OwnO w' u n xs ∧ (∀ k, u.ownBlock = some k → W'.heap.size ≤ k) ∧ Kept [] W' w') := by
    intro W' hk
    rw [hs, hc, hn, hxs, hR]
    exact look31 b g D J nd may W' (hD.kept hk (by simp) (by simp)) (hF.kept hk)
  have hall := look_ok hD.ok hok
  rw [← hs, ← hR]
  rw [← hs, ← hR] at hall
  rw [← hc] at hok
  have HEP : Hid (1 ≤ ep ∧ ep ≤ 2147483647) := by have h9 := hall.1; rw [hmay] at h9; show 1 ≤ ep ∧ ep ≤ 2147483647; simpa using h9
  have HC0 : Hid (c = 0) := hok
  clear hok
  have HALL := hide hall.2
  have HN : Hid (n = R.length ∧ xs = cellsR R) := ⟨hn, hxs⟩
  have HD := hide hD
  have HJL : Hid ((Ar.jobC J).length = 5) := rfl
  clear hall hs hc hR hn hxs hD hF hmay
  go_enter Tryd.func11, Tryd.ntmps11
  go_wp2_with (
    first
    | (refine wpBoxV (by rfl) (.tmp 1) (by rfl) (Ar.jobC J) (by kernel_rfl) ?_
       intro V t5 e5 B5 K5
       have H5 := hide B5
       have HK := hide K5
       clear e5 B5 K5
       refine Stp.go ?_))
  constructor
  go_wp2_with fail
  refine wp_region_any mixed (wpAny_gx 13 rfl (by kernel_rfl) [some (P0 b), some (aggV (Ar.jobC J)), some (.int .i64 nd), some (.int .i64 ep), some (.bool may), none, none, some (.int .i64 s), none, some (.int .i64 c), some (.int .i64 s), none, some (.int .i64 c)] rfl (by kernel_rfl) (fun l_ vs W => (S11 w V s c n xs) (fun i => l_.getD i false) vs W) (⟨⟨rfl, rfl, rfl, Nat.le_refl _, fun _ _ _ => rfl⟩, undef, (fun h => by cases h), (fun h => by cases h), (fun h => by cases h), fun h => by cases h⟩) ?_ ?_)
  · intro ix o' hi ho a' w2 l_ vs hls hlf hJ hout hin hdep hnot
    match ix, ho with
    | 0, ho =>
      obtain rfl := Option.some.inj ho
      have e0 := hout 0 (by kernel_rfl)
      replace e0 : a'.eval (.tmp 0) = _ := e0.trans rfl
      exact wp_move (.tmp 0) rfl _ e0 ⟨_, rfl, told_of rfl, keepG (St := (S11 w V s c n xs)) [5, 6, 8, 11] S11.loc (by omega) (by decide) hJ⟩
    | 1, ho =>
      obtain rfl := Option.some.inj ho
      have e0 := hout 5 (by kernel_rfl)
      replace e0 : a'.eval (.tmp 5) = _ := e0.trans rfl
      exact wp_loadA row23 (.tmp 5) rfl t5 0 e0 (Ar.jobC J) rfl ((unhide H5).kept hJ.1 (by simp)).range ⟨_, rfl, told_of rfl, keepG (St := (S11 w V s c n xs)) [5, 6, 8, 11] S11.loc (by omega) (by decide) hJ⟩
    | 2, ho =>
      obtain rfl := Option.some.inj ho
      have e0 := hout 2 (by kernel_rfl)
      replace e0 : a'.eval (.tmp 2) = _ := e0.trans rfl
      exact wp_move (.tmp 2) rfl _ e0 ⟨_, rfl, told_of rfl, keepG (St := (S11 w V s c n xs)) [5, 6, 8, 11] S11.loc (by omega) (by decide) hJ⟩
    | 3, ho =>
      obtain rfl := Option.some.inj ho
      have e0 := hout 3 (by kernel_rfl)
      replace e0 : a'.eval (.tmp 3) = _ := e0.trans rfl
      exact wp_move (.tmp 3) rfl _ e0 ⟨_, rfl, told_of rfl, keepG (St := (S11 w V s c n xs)) [5, 6, 8, 11] S11.loc (by omega) (by decide) hJ⟩
    | 4, ho =>
      obtain rfl := Option.some.inj ho
      have e0 : a'.eval (.tmp 17) = .int .i64 ep := by have h9 := hin 3 17 (by kernel_rfl) (by kernel_rfl); exact h9.1.trans (told_is _ h9.2 rfl)
      refine wp_callF 32 _ _ rfl #[.int .i64 1, .int .i64 ep, .int .i64 2147483647] (by simp only [List.map_toArray, List.map_cons, List.map_nil, e0]; rfl) (cg32 _ _) ((unhide P32 w2).mono ?_)
      rintro e w3 ⟨rfl, hw3⟩
      obtain rfl := hw3.symm
      exact ⟨_, rfl, _, rfl, told_of rfl, keepG (St := (S11 w V s c n xs)) [5, 6, 8, 11] S11.loc (by omega) (by decide) hJ⟩
    | 5, ho =>
      obtain rfl := Option.some.inj ho
      have e0 : a'.eval (.tmp 14) = P0 b := by have h9 := hin 0 14 (by kernel_rfl) (by kernel_rfl); exact h9.1.trans (told_is _ h9.2 rfl)
      have e1 : a'.eval (.tmp 15) = aggV (Ar.jobC J) := by have h9 := hin 1 15 (by kernel_rfl) (by kernel_rfl); exact h9.1.trans (told_is _ h9.2 rfl)
      have e2 : a'.eval (.tmp 16) = .int .i64 nd := by have h9 := hin 2 16 (by kernel_rfl) (by kernel_rfl); exact h9.1.trans (told_is _ h9.2 rfl)
      have e3 : a'.eval (.tmp 18) = .bool may := by have h9 := hin 4 18 (by kernel_rfl) (by kernel_rfl); exact h9.1.trans (told_is _ h9.2 rfl)
      refine wp_callF 31 _ _ rfl #[P0 b, aggV (Ar.jobC J), .int .i64 nd, .bool may] (by simp [e0, e1, e2, e3]) (cg31 _ _) ((unhide P31 w2 ((unhide HK).trans hJ.1)).mono ?_)
      rintro e w3 ⟨u, rfl, hO3, hf3, hk3⟩
      exact ⟨_, rfl, _, rfl, told_no rfl, nextG (St := (S11 w V s c n xs)) (by omega) ⟨hJ.1.trans hk3, u, (fun _ => ⟨rfl, hO3, fun k hk => by have h1 := hf3 k hk; have h2 := (unhide HK).size; have h3 := hJ.1.size; omega⟩), (fun h => by have h9 : l_.getD 6 false = true := h; rw [hnot 6 (by kernel_rfl)] at h9; cases h9), (fun h => by have h9 : l_.getD 8 false = true := h; rw [hnot 8 (by kernel_rfl)] at h9; cases h9), (fun h => by have h9 : l_.getD 11 false = true := h; rw [hnot 11 (by kernel_rfl)] at h9; cases h9)⟩⟩
    | 6, ho =>
      obtain rfl := Option.some.inj ho
      have e0 : a'.eval (.tmp 19) = vs 5 := (hin 5 19 (by kernel_rfl) (by kernel_rfl)).1
      obtain ⟨hk0, u, g1, g2, g3, g4⟩ := hJ
      exact wp_move (.tmp 19) rfl _ e0 ⟨_, rfl, told_no rfl, nextG (St := (S11 w V s c n xs)) (by omega) ⟨hk0, u, (fun h => g1 h), (fun _ => (g1 (hdep 5 (by kernel_rfl))).1), (fun h => g3 h), fun h => g4 h⟩⟩
    | 7, ho =>
      obtain rfl := Option.some.inj ho
      have e0 : a'.eval (.tmp 13) = vs 6 := (hin 6 13 (by kernel_rfl) (by kernel_rfl)).1
      obtain ⟨u, g1, g2, g3, g4⟩ := hJ.2
      exact o_ext3_0 (.tmp 13) rfl _ _ _ (e0.trans (g2 (hdep 6 (by kernel_rfl)))) ⟨_, rfl, told_of rfl, keepG (St := (S11 w V s c n xs)) [5, 6, 8, 11] S11.loc (by omega) (by decide) hJ⟩
    | 8, ho =>
      obtain rfl := Option.some.inj ho
      have e0 : a'.eval (.tmp 13) = vs 6 := (hin 6 13 (by kernel_rfl) (by kernel_rfl)).1
      obtain ⟨hk0, u, g1, g2, g3, g4⟩ := hJ
      exact o_ext3_1 (.tmp 13) rfl _ _ _ (e0.trans (g2 (hdep 6 (by kernel_rfl)))) ⟨_, rfl, told_no rfl, nextG (St := (S11 w V s c n xs)) (by omega) ⟨hk0, u, (fun h => g1 h), (fun h => g2 h), (fun _ => rfl), fun h => g4 h⟩⟩
    | 9, ho =>
      obtain rfl := Option.some.inj ho
      have e0 : a'.eval (.tmp 13) = vs 6 := (hin 6 13 (by kernel_rfl) (by kernel_rfl)).1
      obtain ⟨u, g1, g2, g3, g4⟩ := hJ.2
      exact o_ext3_2 (.tmp 13) rfl _ _ _ (e0.trans (g2 (hdep 6 (by kernel_rfl)))) ⟨_, rfl, told_of rfl, keepG (St := (S11 w V s c n xs)) [5, 6, 8, 11] S11.loc (by omega) (by decide) hJ⟩
    | 10, ho =>
      obtain rfl := Option.some.inj ho
      have e0 : a'.eval (.tmp 20) = .int .i64 s := by have h9 := hin 7 20 (by kernel_rfl) (by kernel_rfl); exact h9.1.trans (told_is _ h9.2 rfl)
      exact wp_assignV (.tmp 20) rfl _ e0 ⟨_, rfl, told_of rfl, keepG (St := (S11 w V s c n xs)) [5, 6, 8, 11] S11.loc (by omega) (by decide) hJ⟩
    | 11, ho =>
      obtain rfl := Option.some.inj ho
      have e0 : a'.eval (.tmp 21) = vs 8 := (hin 8 21 (by kernel_rfl) (by kernel_rfl)).1
      obtain ⟨hk0, u, g1, g2, g3, g4⟩ := hJ
      exact wp_assignV (.tmp 21) rfl _ e0 ⟨_, rfl, told_no rfl, nextG (St := (S11 w V s c n xs)) (by omega) ⟨hk0, u, (fun h => g1 h), (fun h => g2 h), (fun h => g3 h), fun _ => g3 (hdep 8 (by kernel_rfl))⟩⟩
    | 12, ho =>
      obtain rfl := Option.some.inj ho
      have e0 : a'.eval (.tmp 22) = .int .i64 c := by have h9 := hin 9 22 (by kernel_rfl) (by kernel_rfl); exact h9.1.trans (told_is _ h9.2 rfl)
      exact wp_assignV (.tmp 22) rfl _ e0 ⟨_, rfl, told_of rfl, keepG (St := (S11 w V s c n xs)) [5, 6, 8, 11] S11.loc (by omega) (by decide) hJ⟩
  intro l_ vs9 V9 hl hJ htold
  have t0 : vs9 0 = P0 b := told_is _ (htold 0 (by decide)) rfl
  have t1 : vs9 1 = aggV (Ar.jobC J) := told_is _ (htold 1 (by decide)) rfl
  have t2 : vs9 2 = .int .i64 nd := told_is _ (htold 2 (by decide)) rfl
  have t3 : vs9 3 = .int .i64 ep := told_is _ (htold 3 (by decide)) rfl
  have t4 : vs9 4 = .bool may := told_is _ (htold 4 (by decide)) rfl
  have t7 : vs9 7 = .int .i64 s := told_is _ (htold 7 (by decide)) rfl
  have t9 : vs9 9 = .int .i64 c := told_is _ (htold 9 (by decide)) rfl
  have t10 : vs9 10 = .int .i64 s := told_is _ (htold 10 (by decide)) rfl
  have t12 : vs9 12 = .int .i64 c := told_is _ (htold 12 (by decide)) rfl
  rw [show (List.range 13).map vs9 = [vs9 0, vs9 1, vs9 2, vs9 3, vs9 4, vs9 5, vs9 6, vs9 7, vs9 8, vs9 9, vs9 10, vs9 11, vs9 12] from rfl]
  simp only [t0, t1, t2, t3, t4, t7, t9, t10, t12, putAll, Act.put, List.setIfInBounds_toArray, List.set_cons_succ, List.set_cons_zero]
  clear t0 t1 t2 t3 t4 t7 t9 t10 t12 htold
  obtain ⟨hk0, u, g1, g2, g3, g4⟩ := hJ
  obtain ⟨g5, hO9, hf9⟩ := g1 (hl 5 (by decide))
  rw [g5, g2 (hl 6 (by decide)), g3 (hl 8 (by decide)), g4 (hl 11 (by decide))]
  have HO9 := hide hO9
  have HF9 := hide hf9
  replace H5 := hide ((unhide H5).kept hk0 (by simp))
  replace HK := hide ((unhide HK).trans hk0)
  clear hk0 g1 g2 g3 g4 g5 hl hO9 hf9
  obtain ⟨ro, rc, e9, _, _⟩ := (unhide HO9).sl
  subst e9
  have hc0 := unhide HC0
  subst hc0
  clear HC0
  go_wp2_with (
    first
    | (refine wpLoadA row23 (by rfl) (.tmp 5) (by rfl) t5 0 (by kernel_rfl) (Ar.jobC J) (unhide HJL) (unhide H5).range ?_
       refine Stp.go ?_))
  constructor
  go_wp2_with (
    first
    | (refine wpBuildP (by rfl) _ (by rfl) #[(0, P0 b), (1, aggV (Ar.jobC J)), (2, .int .i64 nd), (3, .int .i64 ep), (4, .int .i64 s), (5, .slice ro n rc), (6, .int .i64 n)] (by simp only [List.map_toArray, List.map_cons, List.map_nil]; rfl) [P0 b, .int .i64 J.n, .int .i64 J.p, .int .i64 J.f, .int .i64 J.l, .int .i64 J.t, .int .i64 nd, .int .i64 ep, .int .i64 s, .slice ro n rc, .int .i64 n] (build72 _ _ _ _ _ _ _ _ _) ?_
       refine Stp.go ?_))
  constructor
  go_wp2_with (
    first
    | (refine wpBoxV (by rfl) (.tmp 34) (by rfl) [P0 b, .int .i64 J.n, .int .i64 J.p, .int .i64 J.f, .int .i64 J.l, .int .i64 J.t, .int .i64 nd, .int .i64 ep, .int .i64 s, .slice ro n rc, .int .i64 n] (by kernel_rfl) ?_
       intro W8 l e8 B8 K8
       have HB8 := hide B8
       have HN8 : Hid (w.heap.size ≤ l) := by rw [e8]; exact (unhide HK).size
       replace HO9 := hide ((unhide HO9).kept K8 (by simp))
       replace HK := hide ((unhide HK).trans K8)
       clear e8 B8 K8))
  go_ret2
  obtain ⟨hn1, hn2⟩ := unhide HN
  obtain ⟨a1, a2, a3, a4, a5, a6⟩ := unhide HALL
  subst hn1 hn2
  exact ⟨l, _, rfl, ⟨unhide HB8, (unhide HD).kept (unhide HK) (by simp) (by simp), unhide HO9, a6, a1, a2, unhide HEP, a3, a4, Nat.le_refl _, a5⟩, unhide HK, unhide HN8, unhide HF9⟩

end Go.Proofs.YtmeajhdhiebkdaaDoor
