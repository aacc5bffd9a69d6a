/-
  The document's pool: comparing, the victim.
-/
import Derived.Test.YtgnafbohikbpfaaRe
namespace Go.Proofs.Ytgnafbohikbpfaa
set_option maxRecDepth 100000
set_option linter.unusedSimpArgs false
open Go.RowKit


variable {w0 w W W' : World} {b g c mb b2 g2 c2 : Nat} {P Q : Po} {L : List En} {pg : Int} {q k i : Nat}
theorem rsame_zz (w : World) : Calls Try.prog 14 #[.pointer none, .pointer none] w fun e w' => e = .returned (.bool true) ∧ w' = w := by
  go_enter Try.func14, Try.ntmps14
  go_wp2_with fail
  go_ret
  exact ⟨rfl, rfl⟩
theorem rsame_zp (w : World) : Calls Try.prog 14 #[.pointer none, P0 b] w fun e w' => e = .returned (.bool false) ∧ w' = w := by
  go_enter Try.func14, Try.ntmps14
  go_wp2_with fail
  go_ret
  exact ⟨rfl, rfl⟩
theorem rsame_pz (w : World) : Calls Try.prog 14 #[P0 b, .pointer none] w fun e w' => e = .returned (.bool false) ∧ w' = w := by
  go_enter Try.func14, Try.ntmps14
  go_wp2_with fail
  go_ret
  exact ⟨rfl, rfl⟩
theorem Rg.slR (h : Rg W b g c P) (hk : k < P.m) : W.rangeAt g (k * 105) (P.S k).D := by
  obtain ⟨post, hp⟩ := h.row
  refine hp.rangeIn _ (fun j hj => ?_)
  rw [Pl.lenD] at hj
  rw [plsD_at _ _ _ _ _ hk hj]
theorem sameP_is {P Q : Po} (h : sameP P Q = true) {k : Nat} (hk : k < 16) : P.S k = Q.S k := likeP_iff.1 (by unfold sameP at h; rw [Bool.and_eq_true, Bool.and_eq_true] at h; exact h.2.2) k hk
theorem sameP_of {P Q : Po} (hp : P.Ok) (hq : Q.Ok) (h1 : P.m = Q.m) (h2 : P.h = Q.h) (h3 : ∀ j, j < P.m → P.S j = Q.S j) : sameP P Q = true := by
  have h4 : P.S = Q.S := by
    funext j
    by_cases hj : j < P.m
    · exact h3 j hj
    · rw [hp.z j (by omega), hq.z j (by omega)]
  unfold sameP
  rw [h1, h2, h4, likeP_iff.2 (fun _ _ => rfl)]
  simp
theorem rsame_m (h : Rg w b g c P) (k : Rg w b2 g2 c2 Q) (ha : ¬ P.m = Q.m) : Calls Try.prog 14 #[P0 b, P0 b2] w fun e w' => e = .returned (.bool false) ∧ Kept [] w w' := by
  have HP := hide h
  have HQ := hide k
  have HA : Hid (decide ((P.m : Int) = (Q.m : Int)) = false) := by show _ = _; simp; omega
  clear h k ha
  go_enter Try.func14, Try.ntmps14
  go_wp2_with fail
  refine wp_region_any mixed (wpAny_tq 22 rfl (by kernel_rfl) [some (P0 b), some (P0 b), some (P0 b), some (.slice (some ⟨g, 0, none⟩) P.m c), some (.int .i64 P.m), some (P0 b2), some (P0 b2), some (P0 b2), some (.slice (some ⟨g2, 0, none⟩) Q.m c2), some (.int .i64 Q.m), some (.bool true), some (.bool true), none, none, none, none, none, none, none, none, none, some (.bool true)] rfl (by kernel_rfl) (by kernel_rfl) ?_ ?_)
  · intro i o' hi hsk ho a' w2 hout hin hk2
    replace hk2 : Kept [] w w2 := ⟨hk2.os, hk2.tape, hk2.output, hk2.size, hk2.block⟩
    match i, ho, hsk with
    | 0, ho, hsk =>
      obtain rfl := Option.some.inj ho
      exact wp_move (.tmp 0) rfl _ ((hout 0 (by kernel_rfl)).trans rfl) ⟨_, rfl, tq_is _ _ _ _ rfl, Kept.refl _ _, fun _ _ _ _ _ => trivial⟩
    | 1, ho, hsk =>
      obtain rfl := Option.some.inj ho
      have e0 : a'.eval (.tmp 18) = P0 b := is_tq (hin 0 18 (by kernel_rfl) (by kernel_rfl)) rfl
      exact o_nil (.tmp 18) rfl _ e0 ⟨_, rfl, tq_is _ _ _ _ rfl, Kept.refl _ _, fun _ _ _ _ _ => trivial⟩
    | 2, ho, hsk =>
      obtain rfl := Option.some.inj ho
      have e0 : a'.eval (.tmp 19) = P0 b := is_tq (hin 1 19 (by kernel_rfl) (by kernel_rfl)) rfl
      exact o_fld73_0 (.tmp 19) rfl b (0) (0) rfl e0 ⟨_, rfl, tq_is _ _ _ _ rfl, Kept.refl _ _, fun _ _ _ _ _ => trivial⟩
    | 3, ho, hsk =>
      obtain rfl := Option.some.inj ho
      have e0 : a'.eval (.tmp 20) = P0 b := is_tq (hin 2 20 (by kernel_rfl) (by kernel_rfl)) rfl
      exact o_load71 (.tmp 20) rfl _ _ e0 (((unhide HP).step hk2 (by simp) (by simp)).cs) ⟨_, rfl, tq_is _ _ _ _ rfl, Kept.refl _ _, fun _ _ _ _ _ => trivial⟩
    | 4, ho, hsk =>
      obtain rfl := Option.some.inj ho
      have e0 : a'.eval (.tmp 21) = .slice (some ⟨g, 0, none⟩) P.m c := is_tq (hin 3 21 (by kernel_rfl) (by kernel_rfl)) rfl
      exact o_len71 (.tmp 21) rfl _ _ _ e0 ⟨_, rfl, tq_is _ _ _ _ rfl, Kept.refl _ _, fun _ _ _ _ _ => trivial⟩
    | 5, ho, hsk =>
      obtain rfl := Option.some.inj ho
      exact wp_move (.tmp 1) rfl _ ((hout 1 (by kernel_rfl)).trans rfl) ⟨_, rfl, tq_is _ _ _ _ rfl, Kept.refl _ _, fun _ _ _ _ _ => trivial⟩
    | 6, ho, hsk =>
      obtain rfl := Option.some.inj ho
      have e0 : a'.eval (.tmp 23) = P0 b2 := is_tq (hin 5 23 (by kernel_rfl) (by kernel_rfl)) rfl
      exact o_nil (.tmp 23) rfl _ e0 ⟨_, rfl, tq_is _ _ _ _ rfl, Kept.refl _ _, fun _ _ _ _ _ => trivial⟩
    | 7, ho, hsk =>
      obtain rfl := Option.some.inj ho
      have e0 : a'.eval (.tmp 24) = P0 b2 := is_tq (hin 6 24 (by kernel_rfl) (by kernel_rfl)) rfl
      exact o_fld73_0 (.tmp 24) rfl b2 (0) (0) rfl e0 ⟨_, rfl, tq_is _ _ _ _ rfl, Kept.refl _ _, fun _ _ _ _ _ => trivial⟩
    | 8, ho, hsk =>
      obtain rfl := Option.some.inj ho
      have e0 : a'.eval (.tmp 25) = P0 b2 := is_tq (hin 7 25 (by kernel_rfl) (by kernel_rfl)) rfl
      exact o_load71 (.tmp 25) rfl _ _ e0 (((unhide HQ).step hk2 (by simp) (by simp)).cs) ⟨_, rfl, tq_is _ _ _ _ rfl, Kept.refl _ _, fun _ _ _ _ _ => trivial⟩
    | 9, ho, hsk =>
      obtain rfl := Option.some.inj ho
      have e0 : a'.eval (.tmp 26) = .slice (some ⟨g2, 0, none⟩) Q.m c2 := is_tq (hin 8 26 (by kernel_rfl) (by kernel_rfl)) rfl
      exact o_len71 (.tmp 26) rfl _ _ _ e0 ⟨_, rfl, tq_is _ _ _ _ rfl, Kept.refl _ _, fun _ _ _ _ _ => trivial⟩
    | 10, ho, hsk =>
      obtain rfl := Option.some.inj ho
      have e0 : a'.eval (.tmp 22) = .int .i64 P.m := is_tq (hin 4 22 (by kernel_rfl) (by kernel_rfl)) rfl
      have e1 : a'.eval (.tmp 27) = .int .i64 Q.m := is_tq (hin 9 27 (by kernel_rfl) (by kernel_rfl)) rfl
      exact c_neq3 (.tmp 22) (.tmp 27) rfl _ _ (false) (unhide HA) e0 e1 ⟨_, rfl, tq_is _ _ _ _ rfl, Kept.refl _ _, fun _ _ _ _ _ => trivial⟩
    | 11, ho, hsk =>
      obtain rfl := Option.some.inj ho
      have e0 : a'.eval (.tmp 28) = .bool true := is_tq (hin 10 28 (by kernel_rfl) (by kernel_rfl)) rfl
      exact wp_move (.tmp 28) rfl _ e0 ⟨_, rfl, tq_is _ _ _ _ rfl, Kept.refl _ _, fun _ _ _ _ _ => trivial⟩
    | 12, ho, hsk =>
      cases hsk
    | 13, ho, hsk =>
      cases hsk
    | 14, ho, hsk =>
      cases hsk
    | 15, ho, hsk =>
      cases hsk
    | 16, ho, hsk =>
      cases hsk
    | 17, ho, hsk =>
      cases hsk
    | 18, ho, hsk =>
      cases hsk
    | 19, ho, hsk =>
      cases hsk
    | 20, ho, hsk =>
      cases hsk
    | 21, ho, hsk =>
      obtain rfl := Option.some.inj ho
      have e0 : a'.eval (.tmp 29) = .bool true := is_tq (hin 11 29 (by kernel_rfl) (by kernel_rfl)) rfl
      exact o_pickOrT (.tmp 29) (.tmp 38) rfl e0 ⟨_, rfl, tq_is _ _ _ _ rfl, Kept.refl _ _, fun _ _ _ _ _ => trivial⟩
  intro w9 hk9
  replace hk9 : Kept [] w w9 := ⟨hk9.os, hk9.tape, hk9.output, hk9.size, hk9.block⟩
  simp only [valsQ, List.map_cons, List.map_nil, Option.getD_some, Option.getD_none, List.take_succ_cons, List.take_zero, putAll, Act.put, List.setIfInBounds_toArray, List.set_cons_succ, List.set_cons_zero]
  refine wpAny_done (by kernel_rfl) ?_ _
  go_wp2_with fail
  go_ret
  exact ⟨rfl, hk9⟩
theorem rsame_h (h : Rg w b g c P) (k : Rg w b2 g2 c2 Q) (ha : P.m = Q.m) (hb : ¬ P.h = Q.h) : Calls Try.prog 14 #[P0 b, P0 b2] w fun e w' => e = .returned (.bool false) ∧ Kept [] w w' := by
  have HP := hide h
  have HQ := hide k
  have HA : Hid (decide ((P.m : Int) = (Q.m : Int)) = true) := by show _ = _; simp; omega
  have HB : Hid (decide ((P.h : Int) = (Q.h : Int)) = false) := by show _ = _; simp; omega
  clear h k ha hb
  go_enter Try.func14, Try.ntmps14
  go_wp2_with fail
  refine wp_region_any mixed (wpAny_tq 22 rfl (by kernel_rfl) [some (P0 b), some (P0 b), some (P0 b), some (.slice (some ⟨g, 0, none⟩) P.m c), some (.int .i64 P.m), some (P0 b2), some (P0 b2), some (P0 b2), some (.slice (some ⟨g2, 0, none⟩) Q.m c2), some (.int .i64 Q.m), some (.bool false), some (.bool false), some (P0 b), some (P0 b), some (.pointer (some ⟨b, 1, none⟩)), some (.int .i64 P.h), some (P0 b2), some (P0 b2), some (.pointer (some ⟨b2, 1, none⟩)), some (.int .i64 Q.h), some (.bool true), some (.bool true)] rfl (by kernel_rfl) (by kernel_rfl) ?_ ?_)
  · intro i o' hi hsk ho a' w2 hout hin hk2
    replace hk2 : Kept [] w w2 := ⟨hk2.os, hk2.tape, hk2.output, hk2.size, hk2.block⟩
    match i, ho, hsk with
    | 0, ho, hsk =>
      obtain rfl := Option.some.inj ho
      exact wp_move (.tmp 0) rfl _ ((hout 0 (by kernel_rfl)).trans rfl) ⟨_, rfl, tq_is _ _ _ _ rfl, Kept.refl _ _, fun _ _ _ _ _ => trivial⟩
    | 1, ho, hsk =>
      obtain rfl := Option.some.inj ho
      have e0 : a'.eval (.tmp 18) = P0 b := is_tq (hin 0 18 (by kernel_rfl) (by kernel_rfl)) rfl
      exact o_nil (.tmp 18) rfl _ e0 ⟨_, rfl, tq_is _ _ _ _ rfl, Kept.refl _ _, fun _ _ _ _ _ => trivial⟩
    | 2, ho, hsk =>
      obtain rfl := Option.some.inj ho
      have e0 : a'.eval (.tmp 19) = P0 b := is_tq (hin 1 19 (by kernel_rfl) (by kernel_rfl)) rfl
      exact o_fld73_0 (.tmp 19) rfl b (0) (0) rfl e0 ⟨_, rfl, tq_is _ _ _ _ rfl, Kept.refl _ _, fun _ _ _ _ _ => trivial⟩
    | 3, ho, hsk =>
      obtain rfl := Option.some.inj ho
      have e0 : a'.eval (.tmp 20) = P0 b := is_tq (hin 2 20 (by kernel_rfl) (by kernel_rfl)) rfl
      exact o_load71 (.tmp 20) rfl _ _ e0 (((unhide HP).step hk2 (by simp) (by simp)).cs) ⟨_, rfl, tq_is _ _ _ _ rfl, Kept.refl _ _, fun _ _ _ _ _ => trivial⟩
    | 4, ho, hsk =>
      obtain rfl := Option.some.inj ho
      have e0 : a'.eval (.tmp 21) = .slice (some ⟨g, 0, none⟩) P.m c := is_tq (hin 3 21 (by kernel_rfl) (by kernel_rfl)) rfl
      exact o_len71 (.tmp 21) rfl _ _ _ e0 ⟨_, rfl, tq_is _ _ _ _ rfl, Kept.refl _ _, fun _ _ _ _ _ => trivial⟩
    | 5, ho, hsk =>
      obtain rfl := Option.some.inj ho
      exact wp_move (.tmp 1) rfl _ ((hout 1 (by kernel_rfl)).trans rfl) ⟨_, rfl, tq_is _ _ _ _ rfl, Kept.refl _ _, fun _ _ _ _ _ => trivial⟩
    | 6, ho, hsk =>
      obtain rfl := Option.some.inj ho
      have e0 : a'.eval (.tmp 23) = P0 b2 := is_tq (hin 5 23 (by kernel_rfl) (by kernel_rfl)) rfl
      exact o_nil (.tmp 23) rfl _ e0 ⟨_, rfl, tq_is _ _ _ _ rfl, Kept.refl _ _, fun _ _ _ _ _ => trivial⟩
    | 7, ho, hsk =>
      obtain rfl := Option.some.inj ho
      have e0 : a'.eval (.tmp 24) = P0 b2 := is_tq (hin 6 24 (by kernel_rfl) (by kernel_rfl)) rfl
      exact o_fld73_0 (.tmp 24) rfl b2 (0) (0) rfl e0 ⟨_, rfl, tq_is _ _ _ _ rfl, Kept.refl _ _, fun _ _ _ _ _ => trivial⟩
    | 8, ho, hsk =>
      obtain rfl := Option.some.inj ho
      have e0 : a'.eval (.tmp 25) = P0 b2 := is_tq (hin 7 25 (by kernel_rfl) (by kernel_rfl)) rfl
      exact o_load71 (.tmp 25) rfl _ _ e0 (((unhide HQ).step hk2 (by simp) (by simp)).cs) ⟨_, rfl, tq_is _ _ _ _ rfl, Kept.refl _ _, fun _ _ _ _ _ => trivial⟩
    | 9, ho, hsk =>
      obtain rfl := Option.some.inj ho
      have e0 : a'.eval (.tmp 26) = .slice (some ⟨g2, 0, none⟩) Q.m c2 := is_tq (hin 8 26 (by kernel_rfl) (by kernel_rfl)) rfl
      exact o_len71 (.tmp 26) rfl _ _ _ e0 ⟨_, rfl, tq_is _ _ _ _ rfl, Kept.refl _ _, fun _ _ _ _ _ => trivial⟩
    | 10, ho, hsk =>
      obtain rfl := Option.some.inj ho
      have e0 : a'.eval (.tmp 22) = .int .i64 P.m := is_tq (hin 4 22 (by kernel_rfl) (by kernel_rfl)) rfl
      have e1 : a'.eval (.tmp 27) = .int .i64 Q.m := is_tq (hin 9 27 (by kernel_rfl) (by kernel_rfl)) rfl
      exact c_neq3 (.tmp 22) (.tmp 27) rfl _ _ (true) (unhide HA) e0 e1 ⟨_, rfl, tq_is _ _ _ _ rfl, Kept.refl _ _, fun _ _ _ _ _ => trivial⟩
    | 11, ho, hsk =>
      obtain rfl := Option.some.inj ho
      have e0 : a'.eval (.tmp 28) = .bool false := is_tq (hin 10 28 (by kernel_rfl) (by kernel_rfl)) rfl
      exact wp_move (.tmp 28) rfl _ e0 ⟨_, rfl, tq_is _ _ _ _ rfl, Kept.refl _ _, fun _ _ _ _ _ => trivial⟩
    | 12, ho, hsk =>
      obtain rfl := Option.some.inj ho
      exact wp_move (.tmp 0) rfl _ ((hout 0 (by kernel_rfl)).trans rfl) ⟨_, rfl, tq_is _ _ _ _ rfl, Kept.refl _ _, fun _ _ _ _ _ => trivial⟩
    | 13, ho, hsk =>
      obtain rfl := Option.some.inj ho
      have e0 : a'.eval (.tmp 30) = P0 b := is_tq (hin 12 30 (by kernel_rfl) (by kernel_rfl)) rfl
      exact o_nil (.tmp 30) rfl _ e0 ⟨_, rfl, tq_is _ _ _ _ rfl, Kept.refl _ _, fun _ _ _ _ _ => trivial⟩
    | 14, ho, hsk =>
      obtain rfl := Option.some.inj ho
      have e0 : a'.eval (.tmp 31) = P0 b := is_tq (hin 13 31 (by kernel_rfl) (by kernel_rfl)) rfl
      exact o_fld73_1 (.tmp 31) rfl b (0) (1) rfl e0 ⟨_, rfl, tq_is _ _ _ _ rfl, Kept.refl _ _, fun _ _ _ _ _ => trivial⟩
    | 15, ho, hsk =>
      obtain rfl := Option.some.inj ho
      have e0 : a'.eval (.tmp 32) = .pointer (some ⟨b, 1, none⟩) := is_tq (hin 14 32 (by kernel_rfl) (by kernel_rfl)) rfl
      exact o_load3 (.tmp 32) rfl _ _ e0 (((unhide HP).step hk2 (by simp) (by simp)).ch) ⟨_, rfl, tq_is _ _ _ _ rfl, Kept.refl _ _, fun _ _ _ _ _ => trivial⟩
    | 16, ho, hsk =>
      obtain rfl := Option.some.inj ho
      exact wp_move (.tmp 1) rfl _ ((hout 1 (by kernel_rfl)).trans rfl) ⟨_, rfl, tq_is _ _ _ _ rfl, Kept.refl _ _, fun _ _ _ _ _ => trivial⟩
    | 17, ho, hsk =>
      obtain rfl := Option.some.inj ho
      have e0 : a'.eval (.tmp 34) = P0 b2 := is_tq (hin 16 34 (by kernel_rfl) (by kernel_rfl)) rfl
      exact o_nil (.tmp 34) rfl _ e0 ⟨_, rfl, tq_is _ _ _ _ rfl, Kept.refl _ _, fun _ _ _ _ _ => trivial⟩
    | 18, ho, hsk =>
      obtain rfl := Option.some.inj ho
      have e0 : a'.eval (.tmp 35) = P0 b2 := is_tq (hin 17 35 (by kernel_rfl) (by kernel_rfl)) rfl
      exact o_fld73_1 (.tmp 35) rfl b2 (0) (1) rfl e0 ⟨_, rfl, tq_is _ _ _ _ rfl, Kept.refl _ _, fun _ _ _ _ _ => trivial⟩
    | 19, ho, hsk =>
      obtain rfl := Option.some.inj ho
      have e0 : a'.eval (.tmp 36) = .pointer (some ⟨b2, 1, none⟩) := is_tq (hin 18 36 (by kernel_rfl) (by kernel_rfl)) rfl
      exact o_load3 (.tmp 36) rfl _ _ e0 (((unhide HQ).step hk2 (by simp) (by simp)).ch) ⟨_, rfl, tq_is _ _ _ _ rfl, Kept.refl _ _, fun _ _ _ _ _ => trivial⟩
    | 20, ho, hsk =>
      obtain rfl := Option.some.inj ho
      have e0 : a'.eval (.tmp 33) = .int .i64 P.h := is_tq (hin 15 33 (by kernel_rfl) (by kernel_rfl)) rfl
      have e1 : a'.eval (.tmp 37) = .int .i64 Q.h := is_tq (hin 19 37 (by kernel_rfl) (by kernel_rfl)) rfl
      exact c_neq3 (.tmp 33) (.tmp 37) rfl _ _ (false) (unhide HB) e0 e1 ⟨_, rfl, tq_is _ _ _ _ rfl, Kept.refl _ _, fun _ _ _ _ _ => trivial⟩
    | 21, ho, hsk =>
      obtain rfl := Option.some.inj ho
      have e0 : a'.eval (.tmp 29) = .bool false := is_tq (hin 11 29 (by kernel_rfl) (by kernel_rfl)) rfl
      have e1 : a'.eval (.tmp 38) = .bool true := is_tq (hin 20 38 (by kernel_rfl) (by kernel_rfl)) rfl
      exact o_pickOr0 (.tmp 29) (.tmp 38) rfl _ e0 e1 ⟨_, rfl, tq_is _ _ _ _ rfl, Kept.refl _ _, fun _ _ _ _ _ => trivial⟩
  intro w9 hk9
  replace hk9 : Kept [] w w9 := ⟨hk9.os, hk9.tape, hk9.output, hk9.size, hk9.block⟩
  simp only [valsQ, List.map_cons, List.map_nil, Option.getD_some, List.take_succ_cons, List.take_zero, putAll, Act.put, List.setIfInBounds_toArray, List.set_cons_succ, List.set_cons_zero]
  refine wpAny_done (by kernel_rfl) ?_ _
  go_wp2_with fail
  go_ret
  exact ⟨rfl, hk9⟩
set_option maxHeartbeats 1000000 in
theorem rsame_p (h : Rg w b g c P) (k : Rg w b2 g2 c2 Q) (ha : P.m = Q.m) (hb : P.h = Q.h) : Calls Try.prog 14 #[P0 b, P0 b2] w fun e w' => e = .returned (.bool (sameP P Q)) ∧ Kept [] w w' := by
  have HP := hide h
  have HQ := hide k
  have hm := h.ok.m
  have hcm := h.cm
  have hcm2 := k.cm
  have HA : Hid (decide ((P.m : Int) = (Q.m : Int)) = true) := by show _ = _; simp; omega
  have HB : Hid (decide ((P.h : Int) = (Q.h : Int)) = true) := by show _ = _; simp; omega
  have HAB : Hid (P.m = Q.m ∧ P.h = Q.h) := ⟨ha, hb⟩
  clear h k hb
  go_enter Try.func14, Try.ntmps14
  go_wp2_with fail
  refine wp_region_any mixed (wpAny_tq 22 rfl (by kernel_rfl) [some (P0 b), some (P0 b), some (P0 b), some (.slice (some ⟨g, 0, none⟩) P.m c), some (.int .i64 P.m), some (P0 b2), some (P0 b2), some (P0 b2), some (.slice (some ⟨g2, 0, none⟩) Q.m c2), some (.int .i64 Q.m), some (.bool false), some (.bool false), some (P0 b), some (P0 b), some (.pointer (some ⟨b, 1, none⟩)), some (.int .i64 P.h), some (P0 b2), some (P0 b2), some (.pointer (some ⟨b2, 1, none⟩)), some (.int .i64 Q.h), some (.bool false), some (.bool false)] rfl (by kernel_rfl) (by kernel_rfl) ?_ ?_)
  · intro i o' hi hsk ho a' w2 hout hin hk2
    replace hk2 : Kept [] w w2 := ⟨hk2.os, hk2.tape, hk2.output, hk2.size, hk2.block⟩
    match i, ho, hsk with
    | 0, ho, hsk =>
      obtain rfl := Option.some.inj ho
      exact wp_move (.tmp 0) rfl _ ((hout 0 (by kernel_rfl)).trans rfl) ⟨_, rfl, tq_is _ _ _ _ rfl, Kept.refl _ _, fun _ _ _ _ _ => trivial⟩
    | 1, ho, hsk =>
      obtain rfl := Option.some.inj ho
      have e0 : a'.eval (.tmp 18) = P0 b := is_tq (hin 0 18 (by kernel_rfl) (by kernel_rfl)) rfl
      exact o_nil (.tmp 18) rfl _ e0 ⟨_, rfl, tq_is _ _ _ _ rfl, Kept.refl _ _, fun _ _ _ _ _ => trivial⟩
    | 2, ho, hsk =>
      obtain rfl := Option.some.inj ho
      have e0 : a'.eval (.tmp 19) = P0 b := is_tq (hin 1 19 (by kernel_rfl) (by kernel_rfl)) rfl
      exact o_fld73_0 (.tmp 19) rfl b (0) (0) rfl e0 ⟨_, rfl, tq_is _ _ _ _ rfl, Kept.refl _ _, fun _ _ _ _ _ => trivial⟩
    | 3, ho, hsk =>
      obtain rfl := Option.some.inj ho
      have e0 : a'.eval (.tmp 20) = P0 b := is_tq (hin 2 20 (by kernel_rfl) (by kernel_rfl)) rfl
      exact o_load71 (.tmp 20) rfl _ _ e0 (((unhide HP).step hk2 (by simp) (by simp)).cs) ⟨_, rfl, tq_is _ _ _ _ rfl, Kept.refl _ _, fun _ _ _ _ _ => trivial⟩
    | 4, ho, hsk =>
      obtain rfl := Option.some.inj ho
      have e0 : a'.eval (.tmp 21) = .slice (some ⟨g, 0, none⟩) P.m c := is_tq (hin 3 21 (by kernel_rfl) (by kernel_rfl)) rfl
      exact o_len71 (.tmp 21) rfl _ _ _ e0 ⟨_, rfl, tq_is _ _ _ _ rfl, Kept.refl _ _, fun _ _ _ _ _ => trivial⟩
    | 5, ho, hsk =>
      obtain rfl := Option.some.inj ho
      exact wp_move (.tmp 1) rfl _ ((hout 1 (by kernel_rfl)).trans rfl) ⟨_, rfl, tq_is _ _ _ _ rfl, Kept.refl _ _, fun _ _ _ _ _ => trivial⟩
    | 6, ho, hsk =>
      obtain rfl := Option.some.inj ho
      have e0 : a'.eval (.tmp 23) = P0 b2 := is_tq (hin 5 23 (by kernel_rfl) (by kernel_rfl)) rfl
      exact o_nil (.tmp 23) rfl _ e0 ⟨_, rfl, tq_is _ _ _ _ rfl, Kept.refl _ _, fun _ _ _ _ _ => trivial⟩
    | 7, ho, hsk =>
      obtain rfl := Option.some.inj ho
      have e0 : a'.eval (.tmp 24) = P0 b2 := is_tq (hin 6 24 (by kernel_rfl) (by kernel_rfl)) rfl
      exact o_fld73_0 (.tmp 24) rfl b2 (0) (0) rfl e0 ⟨_, rfl, tq_is _ _ _ _ rfl, Kept.refl _ _, fun _ _ _ _ _ => trivial⟩
    | 8, ho, hsk =>
      obtain rfl := Option.some.inj ho
      have e0 : a'.eval (.tmp 25) = P0 b2 := is_tq (hin 7 25 (by kernel_rfl) (by kernel_rfl)) rfl
      exact o_load71 (.tmp 25) rfl _ _ e0 (((unhide HQ).step hk2 (by simp) (by simp)).cs) ⟨_, rfl, tq_is _ _ _ _ rfl, Kept.refl _ _, fun _ _ _ _ _ => trivial⟩
    | 9, ho, hsk =>
      obtain rfl := Option.some.inj ho
      have e0 : a'.eval (.tmp 26) = .slice (some ⟨g2, 0, none⟩) Q.m c2 := is_tq (hin 8 26 (by kernel_rfl) (by kernel_rfl)) rfl
      exact o_len71 (.tmp 26) rfl _ _ _ e0 ⟨_, rfl, tq_is _ _ _ _ rfl, Kept.refl _ _, fun _ _ _ _ _ => trivial⟩
    | 10, ho, hsk =>
      obtain rfl := Option.some.inj ho
      have e0 : a'.eval (.tmp 22) = .int .i64 P.m := is_tq (hin 4 22 (by kernel_rfl) (by kernel_rfl)) rfl
      have e1 : a'.eval (.tmp 27) = .int .i64 Q.m := is_tq (hin 9 27 (by kernel_rfl) (by kernel_rfl)) rfl
      exact c_neq3 (.tmp 22) (.tmp 27) rfl _ _ (true) (unhide HA) e0 e1 ⟨_, rfl, tq_is _ _ _ _ rfl, Kept.refl _ _, fun _ _ _ _ _ => trivial⟩
    | 11, ho, hsk =>
      obtain rfl := Option.some.inj ho
      have e0 : a'.eval (.tmp 28) = .bool false := is_tq (hin 10 28 (by kernel_rfl) (by kernel_rfl)) rfl
      exact wp_move (.tmp 28) rfl _ e0 ⟨_, rfl, tq_is _ _ _ _ rfl, Kept.refl _ _, fun _ _ _ _ _ => trivial⟩
    | 12, ho, hsk =>
      obtain rfl := Option.some.inj ho
      exact wp_move (.tmp 0) rfl _ ((hout 0 (by kernel_rfl)).trans rfl) ⟨_, rfl, tq_is _ _ _ _ rfl, Kept.refl _ _, fun _ _ _ _ _ => trivial⟩
    | 13, ho, hsk =>
      obtain rfl := Option.some.inj ho
      have e0 : a'.eval (.tmp 30) = P0 b := is_tq (hin 12 30 (by kernel_rfl) (by kernel_rfl)) rfl
      exact o_nil (.tmp 30) rfl _ e0 ⟨_, rfl, tq_is _ _ _ _ rfl, Kept.refl _ _, fun _ _ _ _ _ => trivial⟩
    | 14, ho, hsk =>
      obtain rfl := Option.some.inj ho
      have e0 : a'.eval (.tmp 31) = P0 b := is_tq (hin 13 31 (by kernel_rfl) (by kernel_rfl)) rfl
      exact o_fld73_1 (.tmp 31) rfl b (0) (1) rfl e0 ⟨_, rfl, tq_is _ _ _ _ rfl, Kept.refl _ _, fun _ _ _ _ _ => trivial⟩
    | 15, ho, hsk =>
      obtain rfl := Option.some.inj ho
      have e0 : a'.eval (.tmp 32) = .pointer (some ⟨b, 1, none⟩) := is_tq (hin 14 32 (by kernel_rfl) (by kernel_rfl)) rfl
      exact o_load3 (.tmp 32) rfl _ _ e0 (((unhide HP).step hk2 (by simp) (by simp)).ch) ⟨_, rfl, tq_is _ _ _ _ rfl, Kept.refl _ _, fun _ _ _ _ _ => trivial⟩
    | 16, ho, hsk =>
      obtain rfl := Option.some.inj ho
      exact wp_move (.tmp 1) rfl _ ((hout 1 (by kernel_rfl)).trans rfl) ⟨_, rfl, tq_is _ _ _ _ rfl, Kept.refl _ _, fun _ _ _ _ _ => trivial⟩
    | 17, ho, hsk =>
      obtain rfl := Option.some.inj ho
      have e0 : a'.eval (.tmp 34) = P0 b2 := is_tq (hin 16 34 (by kernel_rfl) (by kernel_rfl)) rfl
      exact o_nil (.tmp 34) rfl _ e0 ⟨_, rfl, tq_is _ _ _ _ rfl, Kept.refl _ _, fun _ _ _ _ _ => trivial⟩
    | 18, ho, hsk =>
      obtain rfl := Option.some.inj ho
      have e0 : a'.eval (.tmp 35) = P0 b2 := is_tq (hin 17 35 (by kernel_rfl) (by kernel_rfl)) rfl
      exact o_fld73_1 (.tmp 35) rfl b2 (0) (1) rfl e0 ⟨_, rfl, tq_is _ _ _ _ rfl, Kept.refl _ _, fun _ _ _ _ _ => trivial⟩
    | 19, ho, hsk =>
      obtain rfl := Option.some.inj ho
      have e0 : a'.eval (.tmp 36) = .pointer (some ⟨b2, 1, none⟩) := is_tq (hin 18 36 (by kernel_rfl) (by kernel_rfl)) rfl
      exact o_load3 (.tmp 36) rfl _ _ e0 (((unhide HQ).step hk2 (by simp) (by simp)).ch) ⟨_, rfl, tq_is _ _ _ _ rfl, Kept.refl _ _, fun _ _ _ _ _ => trivial⟩
    | 20, ho, hsk =>
      obtain rfl := Option.some.inj ho
      have e0 : a'.eval (.tmp 33) = .int .i64 P.h := is_tq (hin 15 33 (by kernel_rfl) (by kernel_rfl)) rfl
      have e1 : a'.eval (.tmp 37) = .int .i64 Q.h := is_tq (hin 19 37 (by kernel_rfl) (by kernel_rfl)) rfl
      exact c_neq3 (.tmp 33) (.tmp 37) rfl _ _ (true) (unhide HB) e0 e1 ⟨_, rfl, tq_is _ _ _ _ rfl, Kept.refl _ _, fun _ _ _ _ _ => trivial⟩
    | 21, ho, hsk =>
      obtain rfl := Option.some.inj ho
      have e0 : a'.eval (.tmp 29) = .bool false := is_tq (hin 11 29 (by kernel_rfl) (by kernel_rfl)) rfl
      have e1 : a'.eval (.tmp 38) = .bool false := is_tq (hin 20 38 (by kernel_rfl) (by kernel_rfl)) rfl
      exact o_pickOr0 (.tmp 29) (.tmp 38) rfl _ e0 e1 ⟨_, rfl, tq_is _ _ _ _ rfl, Kept.refl _ _, fun _ _ _ _ _ => trivial⟩
  intro w9 hk9
  replace hk9 : Kept [] w w9 := ⟨hk9.os, hk9.tape, hk9.output, hk9.size, hk9.block⟩
  simp only [valsQ, List.map_cons, List.map_nil, Option.getD_some, List.take_succ_cons, List.take_zero, putAll, Act.put, List.setIfInBounds_toArray, List.set_cons_succ, List.set_cons_zero]
  refine wpAny_done (by kernel_rfl) ?_ _
  have HK := hide hk9
  clear hk9
  go_wp2_with fail
  replace HP := hide ((unhide HP).step (unhide HK) (by simp) (by simp))
  replace HQ := hide ((unhide HQ).step (unhide HK) (by simp) (by simp))
  go_loopw [5] (fun xi wr => ∃ k : Nat, k ≤ P.m ∧ xi = .int .i64 k ∧ Hid (∀ j, j < k → P.S j = Q.S j) ∧ Hid (Kept [] w wr) ∧ Hid (Rg wr b g c P) ∧ Hid (Rg wr b2 g2 c2 Q)) (fun xi _ => P.m - (intOf xi).toNat)
  case atStart => exact ⟨0, by omega, rfl, (fun j hj => by omega), HK, HP, HQ⟩
  case round =>
    clear HP HQ HK
    obtain ⟨k, hk, rfl, HI, HK, HP, HQ⟩ := hrel
    have cs := (unhide HP).cs
    by_cases hlt : k < P.m
    · have hd : decide ((k : Int) < (P.m : Int)) = true := by simp; omega
      have hkI : (k : Int) < (P.m : Int) := by omega
      have hk2m : k < Q.m := by omega
      obtain ⟨s1, hs1⟩ : ∃ s, s = (P.S k).D := ⟨_, rfl⟩
      obtain ⟨s2, hs2⟩ : ∃ s, s = (Q.S k).D := ⟨_, rfl⟩
      have HL1 : Hid (s1.length = 105) := by show _ = _; rw [hs1, Pl.lenD]
      have HL2 : Hid (s2.length = 105) := by show _ = _; rw [hs2, Pl.lenD]
      have HR1 : Hid (∀ W, Kept [] wr W → W.rangeAt g (k * 105) s1) := fun W hk => by rw [hs1]; exact ((unhide HP).step hk (by simp) (by simp)).slR hlt
      have HR2 : Hid (∀ W, Kept [] wr W → W.rangeAt g2 (k * 105) s2) := fun W hk => by rw [hs2]; exact ((unhide HQ).step hk (by simp) (by simp)).slR hk2m
      have HEQ0 : Hid (∀ W, (Op.equal 84 (aggV s1) (aggV s2)).run Try.prog W = .ok (decide (P.S k = Q.S k)) W) := fun W => by rw [hs1, hs2]; exact equal84 W _ _
      clear hs1 hs2
      by_cases h1 : P.S k = Q.S k
      · have HEQ : Hid (∀ W, (Op.equal 84 (aggV s1) (aggV s2)).run Try.prog W = .ok true W) := fun W => by have h9 := unhide HEQ0 W; rw [decide_eq_true h1] at h9; exact h9
        have HI2 : Hid (∀ j, j < k + 1 → P.S j = Q.S j) := fun j hj => by
          by_cases e : j = k
          · subst e; exact h1
          · exact unhide HI j (by omega)
        clear h1
        go_wp2_with fail
        refine wp_region_any mixed (wpAny_tq 15 rfl (by kernel_rfl) [some (P0 b), some (P0 b), some (P0 b), some (.slice (some ⟨g, 0, none⟩) P.m c), some (.int .i64 k), some (.pointer (some ⟨g, k * 105, none⟩)), some (aggV s1), some (P0 b2), some (P0 b2), some (P0 b2), some (.slice (some ⟨g2, 0, none⟩) Q.m c2), some (.int .i64 k), some (.pointer (some ⟨g2, k * 105, none⟩)), some (aggV s2), some (.bool false)] rfl (by kernel_rfl) (by kernel_rfl) ?_ ?_)
        · intro i o' hi hsk ho a' w2 hout hin hk2
          replace hk2 : Kept [] wr w2 := ⟨hk2.os, hk2.tape, hk2.output, hk2.size, hk2.block⟩
          match i, ho, hsk with
          | 0, ho, hsk =>
            obtain rfl := Option.some.inj ho
            exact wp_move (.tmp 0) rfl _ ((hout 0 (by kernel_rfl)).trans rfl) ⟨_, rfl, tq_is _ _ _ _ rfl, Kept.refl _ _, fun _ _ _ _ _ => trivial⟩
          | 1, ho, hsk =>
            obtain rfl := Option.some.inj ho
            have e0 : a'.eval (.tmp 49) = P0 b := is_tq (hin 0 49 (by kernel_rfl) (by kernel_rfl)) rfl
            exact o_nil (.tmp 49) rfl _ e0 ⟨_, rfl, tq_is _ _ _ _ rfl, Kept.refl _ _, fun _ _ _ _ _ => trivial⟩
          | 2, ho, hsk =>
            obtain rfl := Option.some.inj ho
            have e0 : a'.eval (.tmp 50) = P0 b := is_tq (hin 1 50 (by kernel_rfl) (by kernel_rfl)) rfl
            exact o_fld73_0 (.tmp 50) rfl b (0) (0) rfl e0 ⟨_, rfl, tq_is _ _ _ _ rfl, Kept.refl _ _, fun _ _ _ _ _ => trivial⟩
          | 3, ho, hsk =>
            obtain rfl := Option.some.inj ho
            have e0 : a'.eval (.tmp 51) = P0 b := is_tq (hin 2 51 (by kernel_rfl) (by kernel_rfl)) rfl
            exact o_load71 (.tmp 51) rfl _ _ e0 (((unhide HP).step hk2 (by simp) (by simp)).cs) ⟨_, rfl, tq_is _ _ _ _ rfl, Kept.refl _ _, fun _ _ _ _ _ => trivial⟩
          | 4, ho, hsk =>
            obtain rfl := Option.some.inj ho
            exact wp_move (.tmp 5) rfl _ ((hout 5 (by kernel_rfl)).trans rfl) ⟨_, rfl, tq_is _ _ _ _ rfl, Kept.refl _ _, fun _ _ _ _ _ => trivial⟩
          | 5, ho, hsk =>
            obtain rfl := Option.some.inj ho
            have e0 : a'.eval (.tmp 52) = .slice (some ⟨g, 0, none⟩) P.m c := is_tq (hin 3 52 (by kernel_rfl) (by kernel_rfl)) rfl
            have e1 : a'.eval (.tmp 53) = .int .i64 k := is_tq (hin 4 53 (by kernel_rfl) (by kernel_rfl)) rfl
            exact o_idx71 (.tmp 52) (.tmp 53) rfl g P.m c k (k * 105) (by omega) rfl e0 e1 ⟨_, rfl, tq_is _ _ _ _ rfl, Kept.refl _ _, fun _ _ _ _ _ => trivial⟩
          | 6, ho, hsk =>
            obtain rfl := Option.some.inj ho
            have e0 : a'.eval (.tmp 54) = .pointer (some ⟨g, k * 105, none⟩) := is_tq (hin 5 54 (by kernel_rfl) (by kernel_rfl)) rfl
            exact wp_loadA row84 (.tmp 54) rfl g (k * 105) e0 (s1) (unhide HL1) (unhide HR1 _ hk2) ⟨_, rfl, tq_is _ _ _ _ rfl, Kept.refl _ _, fun _ _ _ _ _ => trivial⟩
          | 7, ho, hsk =>
            obtain rfl := Option.some.inj ho
            exact wp_move (.tmp 1) rfl _ ((hout 1 (by kernel_rfl)).trans rfl) ⟨_, rfl, tq_is _ _ _ _ rfl, Kept.refl _ _, fun _ _ _ _ _ => trivial⟩
          | 8, ho, hsk =>
            obtain rfl := Option.some.inj ho
            have e0 : a'.eval (.tmp 56) = P0 b2 := is_tq (hin 7 56 (by kernel_rfl) (by kernel_rfl)) rfl
            exact o_nil (.tmp 56) rfl _ e0 ⟨_, rfl, tq_is _ _ _ _ rfl, Kept.refl _ _, fun _ _ _ _ _ => trivial⟩
          | 9, ho, hsk =>
            obtain rfl := Option.some.inj ho
            have e0 : a'.eval (.tmp 57) = P0 b2 := is_tq (hin 8 57 (by kernel_rfl) (by kernel_rfl)) rfl
            exact o_fld73_0 (.tmp 57) rfl b2 (0) (0) rfl e0 ⟨_, rfl, tq_is _ _ _ _ rfl, Kept.refl _ _, fun _ _ _ _ _ => trivial⟩
          | 10, ho, hsk =>
            obtain rfl := Option.some.inj ho
            have e0 : a'.eval (.tmp 58) = P0 b2 := is_tq (hin 9 58 (by kernel_rfl) (by kernel_rfl)) rfl
            exact o_load71 (.tmp 58) rfl _ _ e0 (((unhide HQ).step hk2 (by simp) (by simp)).cs) ⟨_, rfl, tq_is _ _ _ _ rfl, Kept.refl _ _, fun _ _ _ _ _ => trivial⟩
          | 11, ho, hsk =>
            obtain rfl := Option.some.inj ho
            exact wp_move (.tmp 5) rfl _ ((hout 5 (by kernel_rfl)).trans rfl) ⟨_, rfl, tq_is _ _ _ _ rfl, Kept.refl _ _, fun _ _ _ _ _ => trivial⟩
          | 12, ho, hsk =>
            obtain rfl := Option.some.inj ho
            have e0 : a'.eval (.tmp 59) = .slice (some ⟨g2, 0, none⟩) Q.m c2 := is_tq (hin 10 59 (by kernel_rfl) (by kernel_rfl)) rfl
            have e1 : a'.eval (.tmp 60) = .int .i64 k := is_tq (hin 11 60 (by kernel_rfl) (by kernel_rfl)) rfl
            exact o_idx71 (.tmp 59) (.tmp 60) rfl g2 Q.m c2 k (k * 105) (by omega) rfl e0 e1 ⟨_, rfl, tq_is _ _ _ _ rfl, Kept.refl _ _, fun _ _ _ _ _ => trivial⟩
          | 13, ho, hsk =>
            obtain rfl := Option.some.inj ho
            have e0 : a'.eval (.tmp 61) = .pointer (some ⟨g2, k * 105, none⟩) := is_tq (hin 12 61 (by kernel_rfl) (by kernel_rfl)) rfl
            exact wp_loadA row84 (.tmp 61) rfl g2 (k * 105) e0 (s2) (unhide HL2) (unhide HR2 _ hk2) ⟨_, rfl, tq_is _ _ _ _ rfl, Kept.refl _ _, fun _ _ _ _ _ => trivial⟩
          | 14, ho, hsk =>
            obtain rfl := Option.some.inj ho
            have e0 : a'.eval (.tmp 55) = aggV s1 := is_tq (hin 6 55 (by kernel_rfl) (by kernel_rfl)) rfl
            have e1 : a'.eval (.tmp 62) = aggV s2 := is_tq (hin 13 62 (by kernel_rfl) (by kernel_rfl)) rfl
            exact o_neqA 84 84 guard84 (.tmp 55) (.tmp 62) rfl (s1) (s2) e0 e1 (true) (unhide HEQ _) ⟨_, rfl, tq_is _ _ _ _ rfl, Kept.refl _ _, fun _ _ _ _ _ => trivial⟩
        intro w9 hk9
        replace hk9 : Kept [] wr w9 := ⟨hk9.os, hk9.tape, hk9.output, hk9.size, hk9.block⟩
        simp only [valsQ, List.map_cons, List.map_nil, Option.getD_some, List.take_succ_cons, List.take_zero, putAll, Act.put, List.setIfInBounds_toArray, List.set_cons_succ, List.set_cons_zero]
        refine wpAny_done (by kernel_rfl) ?_ _
        go_wp2_with fail
        go_roundw
        case rel => exact ⟨k + 1, by omega, by go_num, HI2, hide ((unhide HK).trans hk9), hide ((unhide HP).step hk9 (by simp) (by simp)), hide ((unhide HQ).step hk9 (by simp) (by simp))⟩
        case measure => simp [intOf]; omega
      · have HEQ : Hid (∀ W, (Op.equal 84 (aggV s1) (aggV s2)).run Try.prog W = .ok false W) := fun W => by have h9 := unhide HEQ0 W; rw [decide_eq_false h1] at h9; exact h9
        have HN : Hid (sameP P Q = false) := by
          show _ = _
          cases e : sameP P Q with
          | false => rfl
          | true => exact absurd (sameP_is e (by omega)) h1
        clear h1
        go_wp2_with fail
        refine wp_region_any mixed (wpAny_tq 15 rfl (by kernel_rfl) [some (P0 b), some (P0 b), some (P0 b), some (.slice (some ⟨g, 0, none⟩) P.m c), some (.int .i64 k), some (.pointer (some ⟨g, k * 105, none⟩)), some (aggV s1), some (P0 b2), some (P0 b2), some (P0 b2), some (.slice (some ⟨g2, 0, none⟩) Q.m c2), some (.int .i64 k), some (.pointer (some ⟨g2, k * 105, none⟩)), some (aggV s2), some (.bool true)] rfl (by kernel_rfl) (by kernel_rfl) ?_ ?_)
        · intro i o' hi hsk ho a' w2 hout hin hk2
          replace hk2 : Kept [] wr w2 := ⟨hk2.os, hk2.tape, hk2.output, hk2.size, hk2.block⟩
          match i, ho, hsk with
          | 0, ho, hsk =>
            obtain rfl := Option.some.inj ho
            exact wp_move (.tmp 0) rfl _ ((hout 0 (by kernel_rfl)).trans rfl) ⟨_, rfl, tq_is _ _ _ _ rfl, Kept.refl _ _, fun _ _ _ _ _ => trivial⟩
          | 1, ho, hsk =>
            obtain rfl := Option.some.inj ho
            have e0 : a'.eval (.tmp 49) = P0 b := is_tq (hin 0 49 (by kernel_rfl) (by kernel_rfl)) rfl
            exact o_nil (.tmp 49) rfl _ e0 ⟨_, rfl, tq_is _ _ _ _ rfl, Kept.refl _ _, fun _ _ _ _ _ => trivial⟩
          | 2, ho, hsk =>
            obtain rfl := Option.some.inj ho
            have e0 : a'.eval (.tmp 50) = P0 b := is_tq (hin 1 50 (by kernel_rfl) (by kernel_rfl)) rfl
            exact o_fld73_0 (.tmp 50) rfl b (0) (0) rfl e0 ⟨_, rfl, tq_is _ _ _ _ rfl, Kept.refl _ _, fun _ _ _ _ _ => trivial⟩
          | 3, ho, hsk =>
            obtain rfl := Option.some.inj ho
            have e0 : a'.eval (.tmp 51) = P0 b := is_tq (hin 2 51 (by kernel_rfl) (by kernel_rfl)) rfl
            exact o_load71 (.tmp 51) rfl _ _ e0 (((unhide HP).step hk2 (by simp) (by simp)).cs) ⟨_, rfl, tq_is _ _ _ _ rfl, Kept.refl _ _, fun _ _ _ _ _ => trivial⟩
          | 4, ho, hsk =>
            obtain rfl := Option.some.inj ho
            exact wp_move (.tmp 5) rfl _ ((hout 5 (by kernel_rfl)).trans rfl) ⟨_, rfl, tq_is _ _ _ _ rfl, Kept.refl _ _, fun _ _ _ _ _ => trivial⟩
          | 5, ho, hsk =>
            obtain rfl := Option.some.inj ho
            have e0 : a'.eval (.tmp 52) = .slice (some ⟨g, 0, none⟩) P.m c := is_tq (hin 3 52 (by kernel_rfl) (by kernel_rfl)) rfl
            have e1 : a'.eval (.tmp 53) = .int .i64 k := is_tq (hin 4 53 (by kernel_rfl) (by kernel_rfl)) rfl
            exact o_idx71 (.tmp 52) (.tmp 53) rfl g P.m c k (k * 105) (by omega) rfl e0 e1 ⟨_, rfl, tq_is _ _ _ _ rfl, Kept.refl _ _, fun _ _ _ _ _ => trivial⟩
          | 6, ho, hsk =>
            obtain rfl := Option.some.inj ho
            have e0 : a'.eval (.tmp 54) = .pointer (some ⟨g, k * 105, none⟩) := is_tq (hin 5 54 (by kernel_rfl) (by kernel_rfl)) rfl
            exact wp_loadA row84 (.tmp 54) rfl g (k * 105) e0 (s1) (unhide HL1) (unhide HR1 _ hk2) ⟨_, rfl, tq_is _ _ _ _ rfl, Kept.refl _ _, fun _ _ _ _ _ => trivial⟩
          | 7, ho, hsk =>
            obtain rfl := Option.some.inj ho
            exact wp_move (.tmp 1) rfl _ ((hout 1 (by kernel_rfl)).trans rfl) ⟨_, rfl, tq_is _ _ _ _ rfl, Kept.refl _ _, fun _ _ _ _ _ => trivial⟩
          | 8, ho, hsk =>
            obtain rfl := Option.some.inj ho
            have e0 : a'.eval (.tmp 56) = P0 b2 := is_tq (hin 7 56 (by kernel_rfl) (by kernel_rfl)) rfl
            exact o_nil (.tmp 56) rfl _ e0 ⟨_, rfl, tq_is _ _ _ _ rfl, Kept.refl _ _, fun _ _ _ _ _ => trivial⟩
          | 9, ho, hsk =>
            obtain rfl := Option.some.inj ho
            have e0 : a'.eval (.tmp 57) = P0 b2 := is_tq (hin 8 57 (by kernel_rfl) (by kernel_rfl)) rfl
            exact o_fld73_0 (.tmp 57) rfl b2 (0) (0) rfl e0 ⟨_, rfl, tq_is _ _ _ _ rfl, Kept.refl _ _, fun _ _ _ _ _ => trivial⟩
          | 10, ho, hsk =>
            obtain rfl := Option.some.inj ho
            have e0 : a'.eval (.tmp 58) = P0 b2 := is_tq (hin 9 58 (by kernel_rfl) (by kernel_rfl)) rfl
            exact o_load71 (.tmp 58) rfl _ _ e0 (((unhide HQ).step hk2 (by simp) (by simp)).cs) ⟨_, rfl, tq_is _ _ _ _ rfl, Kept.refl _ _, fun _ _ _ _ _ => trivial⟩
          | 11, ho, hsk =>
            obtain rfl := Option.some.inj ho
            exact wp_move (.tmp 5) rfl _ ((hout 5 (by kernel_rfl)).trans rfl) ⟨_, rfl, tq_is _ _ _ _ rfl, Kept.refl _ _, fun _ _ _ _ _ => trivial⟩
          | 12, ho, hsk =>
            obtain rfl := Option.some.inj ho
            have e0 : a'.eval (.tmp 59) = .slice (some ⟨g2, 0, none⟩) Q.m c2 := is_tq (hin 10 59 (by kernel_rfl) (by kernel_rfl)) rfl
            have e1 : a'.eval (.tmp 60) = .int .i64 k := is_tq (hin 11 60 (by kernel_rfl) (by kernel_rfl)) rfl
            exact o_idx71 (.tmp 59) (.tmp 60) rfl g2 Q.m c2 k (k * 105) (by omega) rfl e0 e1 ⟨_, rfl, tq_is _ _ _ _ rfl, Kept.refl _ _, fun _ _ _ _ _ => trivial⟩
          | 13, ho, hsk =>
            obtain rfl := Option.some.inj ho
            have e0 : a'.eval (.tmp 61) = .pointer (some ⟨g2, k * 105, none⟩) := is_tq (hin 12 61 (by kernel_rfl) (by kernel_rfl)) rfl
            exact wp_loadA row84 (.tmp 61) rfl g2 (k * 105) e0 (s2) (unhide HL2) (unhide HR2 _ hk2) ⟨_, rfl, tq_is _ _ _ _ rfl, Kept.refl _ _, fun _ _ _ _ _ => trivial⟩
          | 14, ho, hsk =>
            obtain rfl := Option.some.inj ho
            have e0 : a'.eval (.tmp 55) = aggV s1 := is_tq (hin 6 55 (by kernel_rfl) (by kernel_rfl)) rfl
            have e1 : a'.eval (.tmp 62) = aggV s2 := is_tq (hin 13 62 (by kernel_rfl) (by kernel_rfl)) rfl
            exact o_neqA 84 84 guard84 (.tmp 55) (.tmp 62) rfl (s1) (s2) e0 e1 (false) (unhide HEQ _) ⟨_, rfl, tq_is _ _ _ _ rfl, Kept.refl _ _, fun _ _ _ _ _ => trivial⟩
        intro w9 hk9
        replace hk9 : Kept [] wr w9 := ⟨hk9.os, hk9.tape, hk9.output, hk9.size, hk9.block⟩
        simp only [valsQ, List.map_cons, List.map_nil, Option.getD_some, List.take_succ_cons, List.take_zero, putAll, Act.put, List.setIfInBounds_toArray, List.set_cons_succ, List.set_cons_zero]
        refine wpAny_done (by kernel_rfl) ?_ _
        go_wp2_with fail
        go_ret
        exact ⟨by rw [unhide HN]; rfl, (unhide HK).trans hk9⟩
    · obtain rfl : k = P.m := by omega
      have hd : decide ((P.m : Int) < (P.m : Int)) = false := by simp
      have HT : Hid (sameP P Q = true) := sameP_of (unhide HP).ok (unhide HQ).ok (unhide HAB).1 (unhide HAB).2 (unhide HI)
      go_wp2_with fail
      go_ret
      exact ⟨by rw [unhide HT]; rfl, unhide HK⟩
theorem rsame14 (h : Rg w b g c P) (k : Rg w b2 g2 c2 Q) : Calls Try.prog 14 #[P0 b, P0 b2] w fun e w' => e = .returned (.bool (sameP P Q)) ∧ Kept [] w w' := by
  by_cases ha : P.m = Q.m
  · by_cases hb : P.h = Q.h
    · exact rsame_p h k ha hb
    · have e : sameP P Q = false := by unfold sameP; rw [decide_eq_false hb]; simp
      rw [e]; exact rsame_h h k ha hb
  · have e : sameP P Q = false := by unfold sameP; rw [decide_eq_false ha]; rfl
    rw [e]; exact rsame_m h k ha

end Go.Proofs.Ytgnafbohikbpfaa
