/-
  Same.
-/
import Derived.Test.YthidiolgngkffaaLg
namespace Go.Proofs.Ythidiolgngkffaa
set_option maxRecDepth 100000
open Go.RowKit

theorem same_nn (p q : Value) (w : World) (ha : Calls Try.prog 39 #[p] w fun e w' => e = .returned (.bool true) ∧ w' = w) (hb : Calls Try.prog 39 #[q] w fun e w' => e = .returned (.bool true) ∧ w' = w) : Calls Try.prog 19 #[p, q] w fun e w' => e = .returned (.bool true) ∧ w' = w := by
  have PA := hide ha
  have PB := hide hb
  clear ha hb
  go_enter Try.func19, Try.ntmps19
  go_wp2_with (
    first
    | (go_at_call 39
       refine (unhide PA).mono ?_
       rintro e w2 ⟨rfl, q2⟩
       replace q2 := q2.symm
       subst q2
       refine Stp.go ?_))
  constructor
  go_wp2_with (
    first
    | (go_at_call 39
       refine (unhide PA).mono ?_
       rintro e w2 ⟨rfl, q2⟩
       replace q2 := q2.symm
       subst q2
       refine Stp.go ?_))
  constructor
  go_wp2_with (
    first
    | (go_at_call 39
       refine (unhide PB).mono ?_
       rintro e w2 ⟨rfl, q2⟩
       replace q2 := q2.symm
       subst q2
       refine Stp.go ?_))
  constructor
  go_wp2_with fail
  go_ret
  exact ⟨rfl, rfl⟩
theorem same_ny (p q : Value) (w : World) (ha : Calls Try.prog 39 #[p] w fun e w' => e = .returned (.bool true) ∧ w' = w) (hb : Calls Try.prog 39 #[q] w fun e w' => e = .returned (.bool false) ∧ w' = w) : Calls Try.prog 19 #[p, q] w fun e w' => e = .returned (.bool false) ∧ w' = w := by
  have PA := hide ha
  have PB := hide hb
  clear ha hb
  go_enter Try.func19, Try.ntmps19
  go_wp2_with (
    first
    | (go_at_call 39
       refine (unhide PA).mono ?_
       rintro e w2 ⟨rfl, q2⟩
       replace q2 := q2.symm
       subst q2
       refine Stp.go ?_))
  constructor
  go_wp2_with (
    first
    | (go_at_call 39
       refine (unhide PA).mono ?_
       rintro e w2 ⟨rfl, q2⟩
       replace q2 := q2.symm
       subst q2
       refine Stp.go ?_))
  constructor
  go_wp2_with (
    first
    | (go_at_call 39
       refine (unhide PB).mono ?_
       rintro e w2 ⟨rfl, q2⟩
       replace q2 := q2.symm
       subst q2
       refine Stp.go ?_))
  constructor
  go_wp2_with fail
  go_ret
  exact ⟨rfl, rfl⟩
theorem same_yn (p q : Value) (w : World) (ha : Calls Try.prog 39 #[p] w fun e w' => e = .returned (.bool false) ∧ w' = w) (hb : Calls Try.prog 39 #[q] w fun e w' => e = .returned (.bool true) ∧ w' = w) : Calls Try.prog 19 #[p, q] w fun e w' => e = .returned (.bool false) ∧ w' = w := by
  have PA := hide ha
  have PB := hide hb
  clear ha hb
  go_enter Try.func19, Try.ntmps19
  go_wp2_with (
    first
    | (go_at_call 39
       refine (unhide PA).mono ?_
       rintro e w2 ⟨rfl, q2⟩
       replace q2 := q2.symm
       subst q2
       refine Stp.go ?_))
  constructor
  go_wp2_with (
    first
    | (go_at_call 39
       refine (unhide PB).mono ?_
       rintro e w2 ⟨rfl, q2⟩
       replace q2 := q2.symm
       subst q2
       refine Stp.go ?_))
  constructor
  go_wp2_with (
    first
    | (go_at_call 39
       refine (unhide PA).mono ?_
       rintro e w2 ⟨rfl, q2⟩
       replace q2 := q2.symm
       subst q2
       refine Stp.go ?_))
  constructor
  go_wp2_with fail
  go_ret
  exact ⟨rfl, rfl⟩
theorem same_yy (v u : Wt) (a b : Nat) (w : World) (hA : Blk w a 65 v.C) (hB : Blk w b 65 u.C) (hv : v.ls.length = 8) (hu : u.ls.length = 8) (hv1 : 1 ≤ v.n) (hu1 : 1 ≤ u.n) : Calls Try.prog 19 #[P0 a, P0 b] w fun e w' => e = .returned (.bool (decide (v = u))) ∧ Kept [] w w' := by
  have PA := hide (none_is v a w hA hv1)
  have PB := hide (none_is u b w hB hu1)
  have HA := hide hA
  have HB := hide hB
  clear hA hB
  go_enter Try.func19, Try.ntmps19
  go_wp2_with (
    first
    | (go_at_call 39
       refine (unhide PA).mono ?_
       rintro e w2 ⟨rfl, q2⟩
       replace q2 := q2.symm
       subst q2
       refine Stp.go ?_))
  constructor
  go_wp2_with (
    first
    | (go_at_call 39
       refine (unhide PB).mono ?_
       rintro e w2 ⟨rfl, q2⟩
       replace q2 := q2.symm
       subst q2
       refine Stp.go ?_))
  constructor
  go_wp2_with fail
  refine wp_region_any mixed (wpAny_tq 8 rfl (by kernel_rfl) [some (P0 a), some (P0 a), some (aggV v.C), some (P0 b), some (P0 b), some (aggV u.C), some (.bool (decide (v = u))), some (.bool (decide (v = u)))] rfl (by kernel_rfl) (by kernel_rfl) ?_ ?_)
  · intro i o' hi hsk ho a' w2 hout hin hk2
    replace hk2 : Kept [] w w2 := ⟨hk2.os, hk2.tape, hk2.output, hk2.size, hk2.block⟩
    match i, ho, hsk with
    | 0, ho, hsk =>
      obtain rfl := Option.some.inj ho
      exact wp_move (.tmp 0) rfl _ ((hout 0 (by kernel_rfl)).trans rfl) ⟨_, rfl, tq_is _ _ _ _ rfl, Kept.refl _ _, fun _ _ _ _ _ => trivial⟩
    | 1, ho, hsk =>
      obtain rfl := Option.some.inj ho
      have e0 : a'.eval (.tmp 17) = P0 a := is_tq (hin 0 17 (by kernel_rfl) (by kernel_rfl)) rfl
      exact o_nil (.tmp 17) rfl _ e0 ⟨_, rfl, tq_is _ _ _ _ rfl, Kept.refl _ _, fun _ _ _ _ _ => trivial⟩
    | 2, ho, hsk =>
      obtain rfl := Option.some.inj ho
      have e0 : a'.eval (.tmp 18) = P0 a := is_tq (hin 1 18 (by kernel_rfl) (by kernel_rfl)) rfl
      exact wp_loadA row65 (.tmp 18) rfl a 0 e0 v.C (wtC_len hv) ((unhide HA).kept hk2 (by simp)).range ⟨_, rfl, tq_is _ _ _ _ rfl, Kept.refl _ _, fun _ _ _ _ _ => trivial⟩
    | 3, ho, hsk =>
      obtain rfl := Option.some.inj ho
      exact wp_move (.tmp 1) rfl _ ((hout 1 (by kernel_rfl)).trans rfl) ⟨_, rfl, tq_is _ _ _ _ rfl, Kept.refl _ _, fun _ _ _ _ _ => trivial⟩
    | 4, ho, hsk =>
      obtain rfl := Option.some.inj ho
      have e0 : a'.eval (.tmp 20) = P0 b := is_tq (hin 3 20 (by kernel_rfl) (by kernel_rfl)) rfl
      exact o_nil (.tmp 20) rfl _ e0 ⟨_, rfl, tq_is _ _ _ _ rfl, Kept.refl _ _, fun _ _ _ _ _ => trivial⟩
    | 5, ho, hsk =>
      obtain rfl := Option.some.inj ho
      have e0 : a'.eval (.tmp 21) = P0 b := is_tq (hin 4 21 (by kernel_rfl) (by kernel_rfl)) rfl
      exact wp_loadA row65 (.tmp 21) rfl b 0 e0 u.C (wtC_len hu) ((unhide HB).kept hk2 (by simp)).range ⟨_, rfl, tq_is _ _ _ _ rfl, Kept.refl _ _, fun _ _ _ _ _ => trivial⟩
    | 6, ho, hsk =>
      obtain rfl := Option.some.inj ho
      have e0 : a'.eval (.tmp 19) = aggV v.C := is_tq (hin 2 19 (by kernel_rfl) (by kernel_rfl)) rfl
      have e1 : a'.eval (.tmp 22) = aggV u.C := is_tq (hin 5 22 (by kernel_rfl) (by kernel_rfl)) rfl
      exact o_eqlA 65 65 guard65 (.tmp 19) (.tmp 22) rfl v.C u.C e0 e1 _ (eqW65 _ v u hv hu) ⟨_, rfl, tq_is _ _ _ _ rfl, Kept.refl _ _, fun _ _ _ _ _ => trivial⟩
    | 7, ho, hsk =>
      obtain rfl := Option.some.inj ho
      have e0 : a'.eval (.tmp 23) = .bool (decide (v = u)) := is_tq (hin 6 23 (by kernel_rfl) (by kernel_rfl)) rfl
      exact wp_assignV (.tmp 23) rfl _ e0 ⟨_, rfl, tq_is _ _ _ _ rfl, Kept.refl _ _, fun _ _ _ _ _ => trivial⟩
  intro w9 hk9
  replace hk9 : Kept [] w w9 := ⟨hk9.os, hk9.tape, hk9.output, hk9.size, hk9.block⟩
  simp only [valsQ, List.map_cons, List.map_nil, Option.getD_some, List.take_succ_cons, List.take_zero, putAll, Act.put, List.setIfInBounds_toArray, List.set_cons_succ, List.set_cons_zero]
  refine wpAny_done (by kernel_rfl) ?_ _
  go_wp2_with fail
  go_ret
  exact ⟨rfl, hk9⟩
theorem rsame_nn (w : World) : Calls Try.prog 20 #[.pointer none, .pointer none] w fun e w' => e = .returned (.bool true) ∧ w' = w := by
  go_enter Try.func20, Try.ntmps20
  go_wp2_with fail
  go_ret
  exact ⟨rfl, rfl⟩
theorem rsame_ny (b : Nat) (w : World) : Calls Try.prog 20 #[.pointer none, P0 b] w fun e w' => e = .returned (.bool false) ∧ w' = w := by
  go_enter Try.func20, Try.ntmps20
  go_wp2_with fail
  go_ret
  exact ⟨rfl, rfl⟩
theorem rsame_yn (a : Nat) (w : World) : Calls Try.prog 20 #[P0 a, .pointer none] w fun e w' => e = .returned (.bool false) ∧ w' = w := by
  go_enter Try.func20, Try.ntmps20
  go_wp2_with fail
  go_ret
  exact ⟨rfl, rfl⟩
theorem rsame_yy (v u : Wt) (a b : Nat) (w : World) (hA : Blk w a 79 v.C) (hB : Blk w b 79 u.C) (hv : v.ls.length = 8) (hu : u.ls.length = 8) : Calls Try.prog 20 #[P0 a, P0 b] w fun e w' => e = .returned (.bool (decide (v = u))) ∧ Kept [] w w' := by
  have HA := hide hA
  have HB := hide hB
  clear hA hB
  go_enter Try.func20, Try.ntmps20
  go_wp2_with fail
  refine wp_region_any mixed (wpAny_tq 8 rfl (by kernel_rfl) [some (P0 a), some (P0 a), some (aggV v.C), some (P0 b), some (P0 b), some (aggV u.C), some (.bool (decide (v = u))), some (.bool (decide (v = u)))] rfl (by kernel_rfl) (by kernel_rfl) ?_ ?_)
  · intro i o' hi hsk ho a' w2 hout hin hk2
    replace hk2 : Kept [] w w2 := ⟨hk2.os, hk2.tape, hk2.output, hk2.size, hk2.block⟩
    match i, ho, hsk with
    | 0, ho, hsk =>
      obtain rfl := Option.some.inj ho
      exact wp_move (.tmp 0) rfl _ ((hout 0 (by kernel_rfl)).trans rfl) ⟨_, rfl, tq_is _ _ _ _ rfl, Kept.refl _ _, fun _ _ _ _ _ => trivial⟩
    | 1, ho, hsk =>
      obtain rfl := Option.some.inj ho
      have e0 : a'.eval (.tmp 17) = P0 a := is_tq (hin 0 17 (by kernel_rfl) (by kernel_rfl)) rfl
      exact o_nil (.tmp 17) rfl _ e0 ⟨_, rfl, tq_is _ _ _ _ rfl, Kept.refl _ _, fun _ _ _ _ _ => trivial⟩
    | 2, ho, hsk =>
      obtain rfl := Option.some.inj ho
      have e0 : a'.eval (.tmp 18) = P0 a := is_tq (hin 1 18 (by kernel_rfl) (by kernel_rfl)) rfl
      exact wp_loadA row79 (.tmp 18) rfl a 0 e0 v.C (wtC_len hv) ((unhide HA).kept hk2 (by simp)).range ⟨_, rfl, tq_is _ _ _ _ rfl, Kept.refl _ _, fun _ _ _ _ _ => trivial⟩
    | 3, ho, hsk =>
      obtain rfl := Option.some.inj ho
      exact wp_move (.tmp 1) rfl _ ((hout 1 (by kernel_rfl)).trans rfl) ⟨_, rfl, tq_is _ _ _ _ rfl, Kept.refl _ _, fun _ _ _ _ _ => trivial⟩
    | 4, ho, hsk =>
      obtain rfl := Option.some.inj ho
      have e0 : a'.eval (.tmp 20) = P0 b := is_tq (hin 3 20 (by kernel_rfl) (by kernel_rfl)) rfl
      exact o_nil (.tmp 20) rfl _ e0 ⟨_, rfl, tq_is _ _ _ _ rfl, Kept.refl _ _, fun _ _ _ _ _ => trivial⟩
    | 5, ho, hsk =>
      obtain rfl := Option.some.inj ho
      have e0 : a'.eval (.tmp 21) = P0 b := is_tq (hin 4 21 (by kernel_rfl) (by kernel_rfl)) rfl
      exact wp_loadA row79 (.tmp 21) rfl b 0 e0 u.C (wtC_len hu) ((unhide HB).kept hk2 (by simp)).range ⟨_, rfl, tq_is _ _ _ _ rfl, Kept.refl _ _, fun _ _ _ _ _ => trivial⟩
    | 6, ho, hsk =>
      obtain rfl := Option.some.inj ho
      have e0 : a'.eval (.tmp 19) = aggV v.C := is_tq (hin 2 19 (by kernel_rfl) (by kernel_rfl)) rfl
      have e1 : a'.eval (.tmp 22) = aggV u.C := is_tq (hin 5 22 (by kernel_rfl) (by kernel_rfl)) rfl
      exact o_eqlA 79 79 guard79 (.tmp 19) (.tmp 22) rfl v.C u.C e0 e1 _ (eqW79 _ v u hv hu) ⟨_, rfl, tq_is _ _ _ _ rfl, Kept.refl _ _, fun _ _ _ _ _ => trivial⟩
    | 7, ho, hsk =>
      obtain rfl := Option.some.inj ho
      have e0 : a'.eval (.tmp 23) = .bool (decide (v = u)) := is_tq (hin 6 23 (by kernel_rfl) (by kernel_rfl)) rfl
      exact wp_assignV (.tmp 23) rfl _ e0 ⟨_, rfl, tq_is _ _ _ _ rfl, Kept.refl _ _, fun _ _ _ _ _ => trivial⟩
  intro w9 hk9
  replace hk9 : Kept [] w w9 := ⟨hk9.os, hk9.tape, hk9.output, hk9.size, hk9.block⟩
  simp only [valsQ, List.map_cons, List.map_nil, Option.getD_some, List.take_succ_cons, List.take_zero, putAll, Act.put, List.setIfInBounds_toArray, List.set_cons_succ, List.set_cons_zero]
  refine wpAny_done (by kernel_rfl) ?_ _
  go_wp2_with fail
  go_ret
  exact ⟨rfl, hk9⟩

end Go.Proofs.Ythidiolgngkffaa
