/-
  The document's Same.
-/
import Derived.Test.YtpcggcicpojdoaaSd
import Derived.Test.YtpcggcicpojdoaaRc
namespace Go.Proofs.Ytpcggcicpojdoaa
open Go.RowKit

theorem cg19r (vs : Array Value) (w : World) : (callFunc 19 vs).run Try.prog w = .ok (.enter 19 vs) w := by kernel_rfl
section
variable {o : Oper} {a : Act} {w : World} {K : Act → World → Prop} {Q : Exit → Act → World → Prop}
theorem o_neqI2 (x y : Operand) (ho : o.op = .binOp .neq 2 x y 2) (m n : Int) (r : Bool) (hr : decide (m = n) = r) (hx : a.eval x = .int .i64 m) (hy : a.eval y = .int .i64 n) (h : K (a.put o.dst (.bool (!r))) w) : o.wp Try.prog a w K Q := by
  subst hr
  unfold Oper.wp execOp
  simp only [ho, hx, hy]
  simp [go_sem]
  exact h
theorem o_neqI3 (x y : Operand) (ho : o.op = .binOp .neq 3 x y 3) (m n : Int) (r : Bool) (hr : decide (m = n) = r) (hx : a.eval x = .int .i64 m) (hy : a.eval y = .int .i64 n) (h : K (a.put o.dst (.bool (!r))) w) : o.wp Try.prog a w K Q := by
  subst hr
  unfold Oper.wp execOp
  simp only [ho, hx, hy]
  simp [go_sem]
  exact h
theorem o_len43 (t : Nat) (ho : o.op = .call { callee := .builtin .len, args := #[.tmp t], argTypes := #[43] }) (ao : Option Addr) (m c : Nat) (hx : a.eval (.tmp t) = .slice ao m c) (h : K (a.put o.dst (.int .i64 m)) w) : o.wp Try.prog a w K Q := by
  have hr : (Builtin.len_ #[43] o.type #[.slice ao m c]).run Try.prog w = .ok (.int .i64 m) w := by kernel_rfl
  unfold Oper.wp execOp
  simp only [ho, resolve, invoke, builtin, Sem.run_bind, Sem.run_pure, Result.andThen_ok, List.map_toArray, List.map_cons, List.map_nil, hx, hr]
  exact h
end
theorem rs_nn (w : World) : Calls Try.prog 15 #[.pointer none, .pointer none] w fun e w' => e = .returned (.bool true) ∧ w' = w := by
  go_enter Try.func15, Try.ntmps15
  go_wp2
  go_ret
  exact ⟨rfl, rfl⟩
theorem rs_n1 (r : Nat) (w : World) : Calls Try.prog 15 #[.pointer none, P0 r] w fun e w' => e = .returned (.bool false) ∧ w' = w := by
  go_enter Try.func15, Try.ntmps15
  go_wp2
  go_ret
  exact ⟨rfl, rfl⟩
theorem rs_1n (r : Nat) (w : World) : Calls Try.prog 15 #[P0 r, .pointer none] w fun e w' => e = .returned (.bool false) ∧ w' = w := by
  go_enter Try.func15, Try.ntmps15
  go_wp2
  go_ret
  exact ⟨rfl, rfl⟩
set_option maxHeartbeats 2000000 in
theorem s15a (r r2 : Nat) (lv lv2 : Value) (R S : Nn) (w : World) (h : Rt w r lv R) (h2 : Rt w r2 lv2 S) (hl : ¬ R.last = S.last) : Calls Try.prog 15 #[P0 r, P0 r2] w fun e w' => e = .returned (.bool false) ∧ Kept [] w w' := by
  obtain ⟨lo, lc, rfl, _, _, _⟩ := h.sl
  obtain ⟨mo, mc, rfl, _, _, _⟩ := h2.sl
  have HA := hide h.head
  have HB := hide h2.head
  clear h h2
  go_enter Try.func15, Try.ntmps15
  go_wp2_with fail
  refine wp_region_any mixed (wpAny_tq 33 rfl (by kernel_rfl) [some (P0 r), some (P0 r), some (.pointer (some ⟨r, 2, none⟩)), some (.int .i64 R.last), some (P0 r2), some (P0 r2), some (.pointer (some ⟨r2, 2, none⟩)), some (.int .i64 S.last), some (.bool true), some (.bool true), none, none, none, none, none, none, none, none, none, some (.bool true), some (.bool true), none, none, none, none, none, none, none, none, none, none, none, some (.bool true)] rfl (by kernel_rfl) (by kernel_rfl) ?_ ?_)
  · intro i o' hi hsk ho a' w2 hout hin hk2
    replace hk2 : Kept [] w w2 := ⟨hk2.os, hk2.tape, hk2.output, hk2.size, hk2.block⟩
    match i, ho, hsk with
    | 0, ho, hsk =>
      obtain rfl := Option.some.inj ho
      exact wp_move (.tmp 0) rfl _ ((hout 0 (by kernel_rfl)).trans rfl) ⟨_, rfl, tq_is _ _ _ _ rfl, Kept.refl _ _, fun _ _ _ _ _ => trivial⟩
    | 1, ho, hsk =>
      obtain rfl := Option.some.inj ho
      have e0 : a'.eval (.tmp 18) = P0 r := is_tq (hin 0 18 (by kernel_rfl) (by kernel_rfl)) rfl
      exact o_nil (.tmp 18) rfl _ e0 ⟨_, rfl, tq_is _ _ _ _ rfl, Kept.refl _ _, fun _ _ _ _ _ => trivial⟩
    | 2, ho, hsk =>
      obtain rfl := Option.some.inj ho
      have e0 : a'.eval (.tmp 19) = P0 r := is_tq (hin 1 19 (by kernel_rfl) (by kernel_rfl)) rfl
      exact o_fld60_2 (.tmp 19) rfl r e0 ⟨_, rfl, tq_is _ _ _ _ rfl, Kept.refl _ _, fun _ _ _ _ _ => trivial⟩
    | 3, ho, hsk =>
      obtain rfl := Option.some.inj ho
      have e0 : a'.eval (.tmp 20) = .pointer (some ⟨r, 2, none⟩) := is_tq (hin 2 20 (by kernel_rfl) (by kernel_rfl)) rfl
      exact o_load2 (.tmp 20) rfl ⟨r, 2, none⟩ _ e0 (fits_cell ((unhide HA).kept hk2 (by simp)) 2 _ rfl) ⟨_, rfl, tq_is _ _ _ _ rfl, Kept.refl _ _, fun _ _ _ _ _ => trivial⟩
    | 4, ho, hsk =>
      obtain rfl := Option.some.inj ho
      exact wp_move (.tmp 1) rfl _ ((hout 1 (by kernel_rfl)).trans rfl) ⟨_, rfl, tq_is _ _ _ _ rfl, Kept.refl _ _, fun _ _ _ _ _ => trivial⟩
    | 5, ho, hsk =>
      obtain rfl := Option.some.inj ho
      have e0 : a'.eval (.tmp 22) = P0 r2 := is_tq (hin 4 22 (by kernel_rfl) (by kernel_rfl)) rfl
      exact o_nil (.tmp 22) rfl _ e0 ⟨_, rfl, tq_is _ _ _ _ rfl, Kept.refl _ _, fun _ _ _ _ _ => trivial⟩
    | 6, ho, hsk =>
      obtain rfl := Option.some.inj ho
      have e0 : a'.eval (.tmp 23) = P0 r2 := is_tq (hin 5 23 (by kernel_rfl) (by kernel_rfl)) rfl
      exact o_fld60_2 (.tmp 23) rfl r2 e0 ⟨_, rfl, tq_is _ _ _ _ rfl, Kept.refl _ _, fun _ _ _ _ _ => trivial⟩
    | 7, ho, hsk =>
      obtain rfl := Option.some.inj ho
      have e0 : a'.eval (.tmp 24) = .pointer (some ⟨r2, 2, none⟩) := is_tq (hin 6 24 (by kernel_rfl) (by kernel_rfl)) rfl
      exact o_load2 (.tmp 24) rfl ⟨r2, 2, none⟩ _ e0 (fits_cell ((unhide HB).kept hk2 (by simp)) 2 _ rfl) ⟨_, rfl, tq_is _ _ _ _ rfl, Kept.refl _ _, fun _ _ _ _ _ => trivial⟩
    | 8, ho, hsk =>
      obtain rfl := Option.some.inj ho
      have e0 : a'.eval (.tmp 21) = .int .i64 R.last := is_tq (hin 3 21 (by kernel_rfl) (by kernel_rfl)) rfl
      have e1 : a'.eval (.tmp 25) = .int .i64 S.last := is_tq (hin 7 25 (by kernel_rfl) (by kernel_rfl)) rfl
      exact o_neqI2 (.tmp 21) (.tmp 25) rfl _ _ false (decide_eq_false hl) e0 e1 ⟨_, rfl, tq_is _ _ _ _ rfl, Kept.refl _ _, fun _ _ _ _ _ => trivial⟩
    | 9, ho, hsk =>
      obtain rfl := Option.some.inj ho
      have e0 : a'.eval (.tmp 26) = .bool true := is_tq (hin 8 26 (by kernel_rfl) (by kernel_rfl)) rfl
      exact wp_move (.tmp 26) rfl _ e0 ⟨_, rfl, tq_is _ _ _ _ rfl, Kept.refl _ _, fun _ _ _ _ _ => trivial⟩
    | 10, ho, hsk =>
      cases hsk
    | 11, ho, hsk =>
      cases hsk
    | 12, ho, hsk =>
      cases hsk
    | 13, ho, hsk =>
      cases hsk
    | 14, ho, hsk =>
      cases hsk
    | 15, ho, hsk =>
      cases hsk
    | 16, ho, hsk =>
      cases hsk
    | 17, ho, hsk =>
      cases hsk
    | 18, ho, hsk =>
      cases hsk
    | 19, ho, hsk =>
      obtain rfl := Option.some.inj ho
      have e0 : a'.eval (.tmp 27) = .bool true := is_tq (hin 9 27 (by kernel_rfl) (by kernel_rfl)) rfl
      exact o_pickOrT (.tmp 27) (.tmp 36) rfl e0 ⟨_, rfl, tq_is _ _ _ _ rfl, Kept.refl _ _, fun _ _ _ _ _ => trivial⟩
    | 20, ho, hsk =>
      obtain rfl := Option.some.inj ho
      have e0 : a'.eval (.tmp 37) = .bool true := is_tq (hin 19 37 (by kernel_rfl) (by kernel_rfl)) rfl
      exact wp_move (.tmp 37) rfl _ e0 ⟨_, rfl, tq_is _ _ _ _ rfl, Kept.refl _ _, fun _ _ _ _ _ => trivial⟩
    | 21, ho, hsk =>
      cases hsk
    | 22, ho, hsk =>
      cases hsk
    | 23, ho, hsk =>
      cases hsk
    | 24, ho, hsk =>
      cases hsk
    | 25, ho, hsk =>
      cases hsk
    | 26, ho, hsk =>
      cases hsk
    | 27, ho, hsk =>
      cases hsk
    | 28, ho, hsk =>
      cases hsk
    | 29, ho, hsk =>
      cases hsk
    | 30, ho, hsk =>
      cases hsk
    | 31, ho, hsk =>
      cases hsk
    | 32, ho, hsk =>
      obtain rfl := Option.some.inj ho
      have e0 : a'.eval (.tmp 38) = .bool true := is_tq (hin 20 38 (by kernel_rfl) (by kernel_rfl)) rfl
      exact o_pickOrT (.tmp 38) (.tmp 49) rfl e0 ⟨_, rfl, tq_is _ _ _ _ rfl, Kept.refl _ _, fun _ _ _ _ _ => trivial⟩
  intro w9 hk9
  replace hk9 : Kept [] w w9 := ⟨hk9.os, hk9.tape, hk9.output, hk9.size, hk9.block⟩
  simp only [valsQ, List.map_cons, List.map_nil, Option.getD_some, Option.getD_none, List.take_succ_cons, List.take_zero, putAll, Act.put, List.setIfInBounds_toArray, List.set_cons_succ, List.set_cons_zero]
  refine wpAny_done (by kernel_rfl) ?_ _
  go_wp2_with fail
  go_ret
  exact ⟨rfl, hk9⟩
set_option maxHeartbeats 2000000 in
theorem s15b (r r2 : Nat) (lv lv2 : Value) (R S : Nn) (w : World) (h : Rt w r lv R) (h2 : Rt w r2 lv2 S) (hl : R.last = S.last) (hn : ¬ R.nodes = S.nodes) : Calls Try.prog 15 #[P0 r, P0 r2] w fun e w' => e = .returned (.bool false) ∧ Kept [] w w' := by
  obtain ⟨lo, lc, rfl, _, _, _⟩ := h.sl
  obtain ⟨mo, mc, rfl, _, _, _⟩ := h2.sl
  have HA := hide h.head
  have HB := hide h2.head
  clear h h2
  go_enter Try.func15, Try.ntmps15
  go_wp2_with fail
  refine wp_region_any mixed (wpAny_tq 33 rfl (by kernel_rfl) [some (P0 r), some (P0 r), some (.pointer (some ⟨r, 2, none⟩)), some (.int .i64 R.last), some (P0 r2), some (P0 r2), some (.pointer (some ⟨r2, 2, none⟩)), some (.int .i64 S.last), some (.bool false), some (.bool false), some (P0 r), some (P0 r), some (.pointer (some ⟨r, 0, none⟩)), some (.int .i64 R.nodes), some (P0 r2), some (P0 r2), some (.pointer (some ⟨r2, 0, none⟩)), some (.int .i64 S.nodes), some (.bool true), some (.bool true), some (.bool true), none, none, none, none, none, none, none, none, none, none, none, some (.bool true)] rfl (by kernel_rfl) (by kernel_rfl) ?_ ?_)
  · intro i o' hi hsk ho a' w2 hout hin hk2
    replace hk2 : Kept [] w w2 := ⟨hk2.os, hk2.tape, hk2.output, hk2.size, hk2.block⟩
    match i, ho, hsk with
    | 0, ho, hsk =>
      obtain rfl := Option.some.inj ho
      exact wp_move (.tmp 0) rfl _ ((hout 0 (by kernel_rfl)).trans rfl) ⟨_, rfl, tq_is _ _ _ _ rfl, Kept.refl _ _, fun _ _ _ _ _ => trivial⟩
    | 1, ho, hsk =>
      obtain rfl := Option.some.inj ho
      have e0 : a'.eval (.tmp 18) = P0 r := is_tq (hin 0 18 (by kernel_rfl) (by kernel_rfl)) rfl
      exact o_nil (.tmp 18) rfl _ e0 ⟨_, rfl, tq_is _ _ _ _ rfl, Kept.refl _ _, fun _ _ _ _ _ => trivial⟩
    | 2, ho, hsk =>
      obtain rfl := Option.some.inj ho
      have e0 : a'.eval (.tmp 19) = P0 r := is_tq (hin 1 19 (by kernel_rfl) (by kernel_rfl)) rfl
      exact o_fld60_2 (.tmp 19) rfl r e0 ⟨_, rfl, tq_is _ _ _ _ rfl, Kept.refl _ _, fun _ _ _ _ _ => trivial⟩
    | 3, ho, hsk =>
      obtain rfl := Option.some.inj ho
      have e0 : a'.eval (.tmp 20) = .pointer (some ⟨r, 2, none⟩) := is_tq (hin 2 20 (by kernel_rfl) (by kernel_rfl)) rfl
      exact o_load2 (.tmp 20) rfl ⟨r, 2, none⟩ _ e0 (fits_cell ((unhide HA).kept hk2 (by simp)) 2 _ rfl) ⟨_, rfl, tq_is _ _ _ _ rfl, Kept.refl _ _, fun _ _ _ _ _ => trivial⟩
    | 4, ho, hsk =>
      obtain rfl := Option.some.inj ho
      exact wp_move (.tmp 1) rfl _ ((hout 1 (by kernel_rfl)).trans rfl) ⟨_, rfl, tq_is _ _ _ _ rfl, Kept.refl _ _, fun _ _ _ _ _ => trivial⟩
    | 5, ho, hsk =>
      obtain rfl := Option.some.inj ho
      have e0 : a'.eval (.tmp 22) = P0 r2 := is_tq (hin 4 22 (by kernel_rfl) (by kernel_rfl)) rfl
      exact o_nil (.tmp 22) rfl _ e0 ⟨_, rfl, tq_is _ _ _ _ rfl, Kept.refl _ _, fun _ _ _ _ _ => trivial⟩
    | 6, ho, hsk =>
      obtain rfl := Option.some.inj ho
      have e0 : a'.eval (.tmp 23) = P0 r2 := is_tq (hin 5 23 (by kernel_rfl) (by kernel_rfl)) rfl
      exact o_fld60_2 (.tmp 23) rfl r2 e0 ⟨_, rfl, tq_is _ _ _ _ rfl, Kept.refl _ _, fun _ _ _ _ _ => trivial⟩
    | 7, ho, hsk =>
      obtain rfl := Option.some.inj ho
      have e0 : a'.eval (.tmp 24) = .pointer (some ⟨r2, 2, none⟩) := is_tq (hin 6 24 (by kernel_rfl) (by kernel_rfl)) rfl
      exact o_load2 (.tmp 24) rfl ⟨r2, 2, none⟩ _ e0 (fits_cell ((unhide HB).kept hk2 (by simp)) 2 _ rfl) ⟨_, rfl, tq_is _ _ _ _ rfl, Kept.refl _ _, fun _ _ _ _ _ => trivial⟩
    | 8, ho, hsk =>
      obtain rfl := Option.some.inj ho
      have e0 : a'.eval (.tmp 21) = .int .i64 R.last := is_tq (hin 3 21 (by kernel_rfl) (by kernel_rfl)) rfl
      have e1 : a'.eval (.tmp 25) = .int .i64 S.last := is_tq (hin 7 25 (by kernel_rfl) (by kernel_rfl)) rfl
      exact o_neqI2 (.tmp 21) (.tmp 25) rfl _ _ true (decide_eq_true hl) e0 e1 ⟨_, rfl, tq_is _ _ _ _ rfl, Kept.refl _ _, fun _ _ _ _ _ => trivial⟩
    | 9, ho, hsk =>
      obtain rfl := Option.some.inj ho
      have e0 : a'.eval (.tmp 26) = .bool false := is_tq (hin 8 26 (by kernel_rfl) (by kernel_rfl)) rfl
      exact wp_move (.tmp 26) rfl _ e0 ⟨_, rfl, tq_is _ _ _ _ rfl, Kept.refl _ _, fun _ _ _ _ _ => trivial⟩
    | 10, ho, hsk =>
      obtain rfl := Option.some.inj ho
      exact wp_move (.tmp 0) rfl _ ((hout 0 (by kernel_rfl)).trans rfl) ⟨_, rfl, tq_is _ _ _ _ rfl, Kept.refl _ _, fun _ _ _ _ _ => trivial⟩
    | 11, ho, hsk =>
      obtain rfl := Option.some.inj ho
      have e0 : a'.eval (.tmp 28) = P0 r := is_tq (hin 10 28 (by kernel_rfl) (by kernel_rfl)) rfl
      exact o_nil (.tmp 28) rfl _ e0 ⟨_, rfl, tq_is _ _ _ _ rfl, Kept.refl _ _, fun _ _ _ _ _ => trivial⟩
    | 12, ho, hsk =>
      obtain rfl := Option.some.inj ho
      have e0 : a'.eval (.tmp 29) = P0 r := is_tq (hin 11 29 (by kernel_rfl) (by kernel_rfl)) rfl
      exact o_fld60_0 (.tmp 29) rfl r e0 ⟨_, rfl, tq_is _ _ _ _ rfl, Kept.refl _ _, fun _ _ _ _ _ => trivial⟩
    | 13, ho, hsk =>
      obtain rfl := Option.some.inj ho
      have e0 : a'.eval (.tmp 30) = .pointer (some ⟨r, 0, none⟩) := is_tq (hin 12 30 (by kernel_rfl) (by kernel_rfl)) rfl
      exact o_load3 (.tmp 30) rfl ⟨r, 0, none⟩ _ e0 (fits_cell ((unhide HA).kept hk2 (by simp)) 0 _ rfl) ⟨_, rfl, tq_is _ _ _ _ rfl, Kept.refl _ _, fun _ _ _ _ _ => trivial⟩
    | 14, ho, hsk =>
      obtain rfl := Option.some.inj ho
      exact wp_move (.tmp 1) rfl _ ((hout 1 (by kernel_rfl)).trans rfl) ⟨_, rfl, tq_is _ _ _ _ rfl, Kept.refl _ _, fun _ _ _ _ _ => trivial⟩
    | 15, ho, hsk =>
      obtain rfl := Option.some.inj ho
      have e0 : a'.eval (.tmp 32) = P0 r2 := is_tq (hin 14 32 (by kernel_rfl) (by kernel_rfl)) rfl
      exact o_nil (.tmp 32) rfl _ e0 ⟨_, rfl, tq_is _ _ _ _ rfl, Kept.refl _ _, fun _ _ _ _ _ => trivial⟩
    | 16, ho, hsk =>
      obtain rfl := Option.some.inj ho
      have e0 : a'.eval (.tmp 33) = P0 r2 := is_tq (hin 15 33 (by kernel_rfl) (by kernel_rfl)) rfl
      exact o_fld60_0 (.tmp 33) rfl r2 e0 ⟨_, rfl, tq_is _ _ _ _ rfl, Kept.refl _ _, fun _ _ _ _ _ => trivial⟩
    | 17, ho, hsk =>
      obtain rfl := Option.some.inj ho
      have e0 : a'.eval (.tmp 34) = .pointer (some ⟨r2, 0, none⟩) := is_tq (hin 16 34 (by kernel_rfl) (by kernel_rfl)) rfl
      exact o_load3 (.tmp 34) rfl ⟨r2, 0, none⟩ _ e0 (fits_cell ((unhide HB).kept hk2 (by simp)) 0 _ rfl) ⟨_, rfl, tq_is _ _ _ _ rfl, Kept.refl _ _, fun _ _ _ _ _ => trivial⟩
    | 18, ho, hsk =>
      obtain rfl := Option.some.inj ho
      have e0 : a'.eval (.tmp 31) = .int .i64 R.nodes := is_tq (hin 13 31 (by kernel_rfl) (by kernel_rfl)) rfl
      have e1 : a'.eval (.tmp 35) = .int .i64 S.nodes := is_tq (hin 17 35 (by kernel_rfl) (by kernel_rfl)) rfl
      exact o_neqI3 (.tmp 31) (.tmp 35) rfl _ _ false (decide_eq_false hn) e0 e1 ⟨_, rfl, tq_is _ _ _ _ rfl, Kept.refl _ _, fun _ _ _ _ _ => trivial⟩
    | 19, ho, hsk =>
      obtain rfl := Option.some.inj ho
      have e0 : a'.eval (.tmp 27) = .bool false := is_tq (hin 9 27 (by kernel_rfl) (by kernel_rfl)) rfl
      have e1 : a'.eval (.tmp 36) = .bool true := is_tq (hin 18 36 (by kernel_rfl) (by kernel_rfl)) rfl
      exact o_pickOr0 (.tmp 27) (.tmp 36) rfl _ e0 e1 ⟨_, rfl, tq_is _ _ _ _ rfl, Kept.refl _ _, fun _ _ _ _ _ => trivial⟩
    | 20, ho, hsk =>
      obtain rfl := Option.some.inj ho
      have e0 : a'.eval (.tmp 37) = .bool true := is_tq (hin 19 37 (by kernel_rfl) (by kernel_rfl)) rfl
      exact wp_move (.tmp 37) rfl _ e0 ⟨_, rfl, tq_is _ _ _ _ rfl, Kept.refl _ _, fun _ _ _ _ _ => trivial⟩
    | 21, ho, hsk =>
      cases hsk
    | 22, ho, hsk =>
      cases hsk
    | 23, ho, hsk =>
      cases hsk
    | 24, ho, hsk =>
      cases hsk
    | 25, ho, hsk =>
      cases hsk
    | 26, ho, hsk =>
      cases hsk
    | 27, ho, hsk =>
      cases hsk
    | 28, ho, hsk =>
      cases hsk
    | 29, ho, hsk =>
      cases hsk
    | 30, ho, hsk =>
      cases hsk
    | 31, ho, hsk =>
      cases hsk
    | 32, ho, hsk =>
      obtain rfl := Option.some.inj ho
      have e0 : a'.eval (.tmp 38) = .bool true := is_tq (hin 20 38 (by kernel_rfl) (by kernel_rfl)) rfl
      exact o_pickOrT (.tmp 38) (.tmp 49) rfl e0 ⟨_, rfl, tq_is _ _ _ _ rfl, Kept.refl _ _, fun _ _ _ _ _ => trivial⟩
  intro w9 hk9
  replace hk9 : Kept [] w w9 := ⟨hk9.os, hk9.tape, hk9.output, hk9.size, hk9.block⟩
  simp only [valsQ, List.map_cons, List.map_nil, Option.getD_some, Option.getD_none, List.take_succ_cons, List.take_zero, putAll, Act.put, List.setIfInBounds_toArray, List.set_cons_succ, List.set_cons_zero]
  refine wpAny_done (by kernel_rfl) ?_ _
  go_wp2_with fail
  go_ret
  exact ⟨rfl, hk9⟩
set_option maxHeartbeats 2000000 in
theorem s15c (r r2 : Nat) (lv lv2 : Value) (R S : Nn) (w : World) (h : Rt w r lv R) (h2 : Rt w r2 lv2 S) (hl : R.last = S.last) (hn : R.nodes = S.nodes) (hL : ¬ R.L.length = S.L.length) : Calls Try.prog 15 #[P0 r, P0 r2] w fun e w' => e = .returned (.bool false) ∧ Kept [] w w' := by
  obtain ⟨lo, lc, rfl, _, _, _⟩ := h.sl
  obtain ⟨mo, mc, rfl, _, _, _⟩ := h2.sl
  have HA := hide h.head
  have HB := hide h2.head
  have hLI : ¬ (R.L.length : Int) = S.L.length := by omega
  clear h h2
  go_enter Try.func15, Try.ntmps15
  go_wp2_with fail
  refine wp_region_any mixed (wpAny_tq 33 rfl (by kernel_rfl) [some (P0 r), some (P0 r), some (.pointer (some ⟨r, 2, none⟩)), some (.int .i64 R.last), some (P0 r2), some (P0 r2), some (.pointer (some ⟨r2, 2, none⟩)), some (.int .i64 S.last), some (.bool false), some (.bool false), some (P0 r), some (P0 r), some (.pointer (some ⟨r, 0, none⟩)), some (.int .i64 R.nodes), some (P0 r2), some (P0 r2), some (.pointer (some ⟨r2, 0, none⟩)), some (.int .i64 S.nodes), some (.bool false), some (.bool false), some (.bool false), some (P0 r), some (P0 r), some (.pointer (some ⟨r, 1, none⟩)), some (.slice lo R.L.length lc), some (.int .i64 R.L.length), some (P0 r2), some (P0 r2), some (.pointer (some ⟨r2, 1, none⟩)), some (.slice mo S.L.length mc), some (.int .i64 S.L.length), some (.bool true), some (.bool true)] rfl (by kernel_rfl) (by kernel_rfl) ?_ ?_)
  · intro i o' hi hsk ho a' w2 hout hin hk2
    replace hk2 : Kept [] w w2 := ⟨hk2.os, hk2.tape, hk2.output, hk2.size, hk2.block⟩
    match i, ho, hsk with
    | 0, ho, hsk =>
      obtain rfl := Option.some.inj ho
      exact wp_move (.tmp 0) rfl _ ((hout 0 (by kernel_rfl)).trans rfl) ⟨_, rfl, tq_is _ _ _ _ rfl, Kept.refl _ _, fun _ _ _ _ _ => trivial⟩
    | 1, ho, hsk =>
      obtain rfl := Option.some.inj ho
      have e0 : a'.eval (.tmp 18) = P0 r := is_tq (hin 0 18 (by kernel_rfl) (by kernel_rfl)) rfl
      exact o_nil (.tmp 18) rfl _ e0 ⟨_, rfl, tq_is _ _ _ _ rfl, Kept.refl _ _, fun _ _ _ _ _ => trivial⟩
    | 2, ho, hsk =>
      obtain rfl := Option.some.inj ho
      have e0 : a'.eval (.tmp 19) = P0 r := is_tq (hin 1 19 (by kernel_rfl) (by kernel_rfl)) rfl
      exact o_fld60_2 (.tmp 19) rfl r e0 ⟨_, rfl, tq_is _ _ _ _ rfl, Kept.refl _ _, fun _ _ _ _ _ => trivial⟩
    | 3, ho, hsk =>
      obtain rfl := Option.some.inj ho
      have e0 : a'.eval (.tmp 20) = .pointer (some ⟨r, 2, none⟩) := is_tq (hin 2 20 (by kernel_rfl) (by kernel_rfl)) rfl
      exact o_load2 (.tmp 20) rfl ⟨r, 2, none⟩ _ e0 (fits_cell ((unhide HA).kept hk2 (by simp)) 2 _ rfl) ⟨_, rfl, tq_is _ _ _ _ rfl, Kept.refl _ _, fun _ _ _ _ _ => trivial⟩
    | 4, ho, hsk =>
      obtain rfl := Option.some.inj ho
      exact wp_move (.tmp 1) rfl _ ((hout 1 (by kernel_rfl)).trans rfl) ⟨_, rfl, tq_is _ _ _ _ rfl, Kept.refl _ _, fun _ _ _ _ _ => trivial⟩
    | 5, ho, hsk =>
      obtain rfl := Option.some.inj ho
      have e0 : a'.eval (.tmp 22) = P0 r2 := is_tq (hin 4 22 (by kernel_rfl) (by kernel_rfl)) rfl
      exact o_nil (.tmp 22) rfl _ e0 ⟨_, rfl, tq_is _ _ _ _ rfl, Kept.refl _ _, fun _ _ _ _ _ => trivial⟩
    | 6, ho, hsk =>
      obtain rfl := Option.some.inj ho
      have e0 : a'.eval (.tmp 23) = P0 r2 := is_tq (hin 5 23 (by kernel_rfl) (by kernel_rfl)) rfl
      exact o_fld60_2 (.tmp 23) rfl r2 e0 ⟨_, rfl, tq_is _ _ _ _ rfl, Kept.refl _ _, fun _ _ _ _ _ => trivial⟩
    | 7, ho, hsk =>
      obtain rfl := Option.some.inj ho
      have e0 : a'.eval (.tmp 24) = .pointer (some ⟨r2, 2, none⟩) := is_tq (hin 6 24 (by kernel_rfl) (by kernel_rfl)) rfl
      exact o_load2 (.tmp 24) rfl ⟨r2, 2, none⟩ _ e0 (fits_cell ((unhide HB).kept hk2 (by simp)) 2 _ rfl) ⟨_, rfl, tq_is _ _ _ _ rfl, Kept.refl _ _, fun _ _ _ _ _ => trivial⟩
    | 8, ho, hsk =>
      obtain rfl := Option.some.inj ho
      have e0 : a'.eval (.tmp 21) = .int .i64 R.last := is_tq (hin 3 21 (by kernel_rfl) (by kernel_rfl)) rfl
      have e1 : a'.eval (.tmp 25) = .int .i64 S.last := is_tq (hin 7 25 (by kernel_rfl) (by kernel_rfl)) rfl
      exact o_neqI2 (.tmp 21) (.tmp 25) rfl _ _ true (decide_eq_true hl) e0 e1 ⟨_, rfl, tq_is _ _ _ _ rfl, Kept.refl _ _, fun _ _ _ _ _ => trivial⟩
    | 9, ho, hsk =>
      obtain rfl := Option.some.inj ho
      have e0 : a'.eval (.tmp 26) = .bool false := is_tq (hin 8 26 (by kernel_rfl) (by kernel_rfl)) rfl
      exact wp_move (.tmp 26) rfl _ e0 ⟨_, rfl, tq_is _ _ _ _ rfl, Kept.refl _ _, fun _ _ _ _ _ => trivial⟩
    | 10, ho, hsk =>
      obtain rfl := Option.some.inj ho
      exact wp_move (.tmp 0) rfl _ ((hout 0 (by kernel_rfl)).trans rfl) ⟨_, rfl, tq_is _ _ _ _ rfl, Kept.refl _ _, fun _ _ _ _ _ => trivial⟩
    | 11, ho, hsk =>
      obtain rfl := Option.some.inj ho
      have e0 : a'.eval (.tmp 28) = P0 r := is_tq (hin 10 28 (by kernel_rfl) (by kernel_rfl)) rfl
      exact o_nil (.tmp 28) rfl _ e0 ⟨_, rfl, tq_is _ _ _ _ rfl, Kept.refl _ _, fun _ _ _ _ _ => trivial⟩
    | 12, ho, hsk =>
      obtain rfl := Option.some.inj ho
      have e0 : a'.eval (.tmp 29) = P0 r := is_tq (hin 11 29 (by kernel_rfl) (by kernel_rfl)) rfl
      exact o_fld60_0 (.tmp 29) rfl r e0 ⟨_, rfl, tq_is _ _ _ _ rfl, Kept.refl _ _, fun _ _ _ _ _ => trivial⟩
    | 13, ho, hsk =>
      obtain rfl := Option.some.inj ho
      have e0 : a'.eval (.tmp 30) = .pointer (some ⟨r, 0, none⟩) := is_tq (hin 12 30 (by kernel_rfl) (by kernel_rfl)) rfl
      exact o_load3 (.tmp 30) rfl ⟨r, 0, none⟩ _ e0 (fits_cell ((unhide HA).kept hk2 (by simp)) 0 _ rfl) ⟨_, rfl, tq_is _ _ _ _ rfl, Kept.refl _ _, fun _ _ _ _ _ => trivial⟩
    | 14, ho, hsk =>
      obtain rfl := Option.some.inj ho
      exact wp_move (.tmp 1) rfl _ ((hout 1 (by kernel_rfl)).trans rfl) ⟨_, rfl, tq_is _ _ _ _ rfl, Kept.refl _ _, fun _ _ _ _ _ => trivial⟩
    | 15, ho, hsk =>
      obtain rfl := Option.some.inj ho
      have e0 : a'.eval (.tmp 32) = P0 r2 := is_tq (hin 14 32 (by kernel_rfl) (by kernel_rfl)) rfl
      exact o_nil (.tmp 32) rfl _ e0 ⟨_, rfl, tq_is _ _ _ _ rfl, Kept.refl _ _, fun _ _ _ _ _ => trivial⟩
    | 16, ho, hsk =>
      obtain rfl := Option.some.inj ho
      have e0 : a'.eval (.tmp 33) = P0 r2 := is_tq (hin 15 33 (by kernel_rfl) (by kernel_rfl)) rfl
      exact o_fld60_0 (.tmp 33) rfl r2 e0 ⟨_, rfl, tq_is _ _ _ _ rfl, Kept.refl _ _, fun _ _ _ _ _ => trivial⟩
    | 17, ho, hsk =>
      obtain rfl := Option.some.inj ho
      have e0 : a'.eval (.tmp 34) = .pointer (some ⟨r2, 0, none⟩) := is_tq (hin 16 34 (by kernel_rfl) (by kernel_rfl)) rfl
      exact o_load3 (.tmp 34) rfl ⟨r2, 0, none⟩ _ e0 (fits_cell ((unhide HB).kept hk2 (by simp)) 0 _ rfl) ⟨_, rfl, tq_is _ _ _ _ rfl, Kept.refl _ _, fun _ _ _ _ _ => trivial⟩
    | 18, ho, hsk =>
      obtain rfl := Option.some.inj ho
      have e0 : a'.eval (.tmp 31) = .int .i64 R.nodes := is_tq (hin 13 31 (by kernel_rfl) (by kernel_rfl)) rfl
      have e1 : a'.eval (.tmp 35) = .int .i64 S.nodes := is_tq (hin 17 35 (by kernel_rfl) (by kernel_rfl)) rfl
      exact o_neqI3 (.tmp 31) (.tmp 35) rfl _ _ true (decide_eq_true hn) e0 e1 ⟨_, rfl, tq_is _ _ _ _ rfl, Kept.refl _ _, fun _ _ _ _ _ => trivial⟩
    | 19, ho, hsk =>
      obtain rfl := Option.some.inj ho
      have e0 : a'.eval (.tmp 27) = .bool false := is_tq (hin 9 27 (by kernel_rfl) (by kernel_rfl)) rfl
      have e1 : a'.eval (.tmp 36) = .bool false := is_tq (hin 18 36 (by kernel_rfl) (by kernel_rfl)) rfl
      exact o_pickOr0 (.tmp 27) (.tmp 36) rfl _ e0 e1 ⟨_, rfl, tq_is _ _ _ _ rfl, Kept.refl _ _, fun _ _ _ _ _ => trivial⟩
    | 20, ho, hsk =>
      obtain rfl := Option.some.inj ho
      have e0 : a'.eval (.tmp 37) = .bool false := is_tq (hin 19 37 (by kernel_rfl) (by kernel_rfl)) rfl
      exact wp_move (.tmp 37) rfl _ e0 ⟨_, rfl, tq_is _ _ _ _ rfl, Kept.refl _ _, fun _ _ _ _ _ => trivial⟩
    | 21, ho, hsk =>
      obtain rfl := Option.some.inj ho
      exact wp_move (.tmp 0) rfl _ ((hout 0 (by kernel_rfl)).trans rfl) ⟨_, rfl, tq_is _ _ _ _ rfl, Kept.refl _ _, fun _ _ _ _ _ => trivial⟩
    | 22, ho, hsk =>
      obtain rfl := Option.some.inj ho
      have e0 : a'.eval (.tmp 39) = P0 r := is_tq (hin 21 39 (by kernel_rfl) (by kernel_rfl)) rfl
      exact o_nil (.tmp 39) rfl _ e0 ⟨_, rfl, tq_is _ _ _ _ rfl, Kept.refl _ _, fun _ _ _ _ _ => trivial⟩
    | 23, ho, hsk =>
      obtain rfl := Option.some.inj ho
      have e0 : a'.eval (.tmp 40) = P0 r := is_tq (hin 22 40 (by kernel_rfl) (by kernel_rfl)) rfl
      exact o_fld60_1 (.tmp 40) rfl r e0 ⟨_, rfl, tq_is _ _ _ _ rfl, Kept.refl _ _, fun _ _ _ _ _ => trivial⟩
    | 24, ho, hsk =>
      obtain rfl := Option.some.inj ho
      have e0 : a'.eval (.tmp 41) = .pointer (some ⟨r, 1, none⟩) := is_tq (hin 23 41 (by kernel_rfl) (by kernel_rfl)) rfl
      exact o_load43 (.tmp 41) rfl ⟨r, 1, none⟩ _ e0 (fits_cell ((unhide HA).kept hk2 (by simp)) 1 _ rfl) ⟨_, rfl, tq_is _ _ _ _ rfl, Kept.refl _ _, fun _ _ _ _ _ => trivial⟩
    | 25, ho, hsk =>
      obtain rfl := Option.some.inj ho
      have e0 : a'.eval (.tmp 42) = .slice lo R.L.length lc := is_tq (hin 24 42 (by kernel_rfl) (by kernel_rfl)) rfl
      exact o_len43 42 rfl _ _ _ e0 ⟨_, rfl, tq_is _ _ _ _ rfl, Kept.refl _ _, fun _ _ _ _ _ => trivial⟩
    | 26, ho, hsk =>
      obtain rfl := Option.some.inj ho
      exact wp_move (.tmp 1) rfl _ ((hout 1 (by kernel_rfl)).trans rfl) ⟨_, rfl, tq_is _ _ _ _ rfl, Kept.refl _ _, fun _ _ _ _ _ => trivial⟩
    | 27, ho, hsk =>
      obtain rfl := Option.some.inj ho
      have e0 : a'.eval (.tmp 44) = P0 r2 := is_tq (hin 26 44 (by kernel_rfl) (by kernel_rfl)) rfl
      exact o_nil (.tmp 44) rfl _ e0 ⟨_, rfl, tq_is _ _ _ _ rfl, Kept.refl _ _, fun _ _ _ _ _ => trivial⟩
    | 28, ho, hsk =>
      obtain rfl := Option.some.inj ho
      have e0 : a'.eval (.tmp 45) = P0 r2 := is_tq (hin 27 45 (by kernel_rfl) (by kernel_rfl)) rfl
      exact o_fld60_1 (.tmp 45) rfl r2 e0 ⟨_, rfl, tq_is _ _ _ _ rfl, Kept.refl _ _, fun _ _ _ _ _ => trivial⟩
    | 29, ho, hsk =>
      obtain rfl := Option.some.inj ho
      have e0 : a'.eval (.tmp 46) = .pointer (some ⟨r2, 1, none⟩) := is_tq (hin 28 46 (by kernel_rfl) (by kernel_rfl)) rfl
      exact o_load43 (.tmp 46) rfl ⟨r2, 1, none⟩ _ e0 (fits_cell ((unhide HB).kept hk2 (by simp)) 1 _ rfl) ⟨_, rfl, tq_is _ _ _ _ rfl, Kept.refl _ _, fun _ _ _ _ _ => trivial⟩
    | 30, ho, hsk =>
      obtain rfl := Option.some.inj ho
      have e0 : a'.eval (.tmp 47) = .slice mo S.L.length mc := is_tq (hin 29 47 (by kernel_rfl) (by kernel_rfl)) rfl
      exact o_len43 47 rfl _ _ _ e0 ⟨_, rfl, tq_is _ _ _ _ rfl, Kept.refl _ _, fun _ _ _ _ _ => trivial⟩
    | 31, ho, hsk =>
      obtain rfl := Option.some.inj ho
      have e0 : a'.eval (.tmp 43) = .int .i64 R.L.length := is_tq (hin 25 43 (by kernel_rfl) (by kernel_rfl)) rfl
      have e1 : a'.eval (.tmp 48) = .int .i64 S.L.length := is_tq (hin 30 48 (by kernel_rfl) (by kernel_rfl)) rfl
      exact o_neqI3 (.tmp 43) (.tmp 48) rfl _ _ false (decide_eq_false hLI) e0 e1 ⟨_, rfl, tq_is _ _ _ _ rfl, Kept.refl _ _, fun _ _ _ _ _ => trivial⟩
    | 32, ho, hsk =>
      obtain rfl := Option.some.inj ho
      have e0 : a'.eval (.tmp 38) = .bool false := is_tq (hin 20 38 (by kernel_rfl) (by kernel_rfl)) rfl
      have e1 : a'.eval (.tmp 49) = .bool true := is_tq (hin 31 49 (by kernel_rfl) (by kernel_rfl)) rfl
      exact o_pickOr0 (.tmp 38) (.tmp 49) rfl _ e0 e1 ⟨_, rfl, tq_is _ _ _ _ rfl, Kept.refl _ _, fun _ _ _ _ _ => trivial⟩
  intro w9 hk9
  replace hk9 : Kept [] w w9 := ⟨hk9.os, hk9.tape, hk9.output, hk9.size, hk9.block⟩
  simp only [valsQ, List.map_cons, List.map_nil, Option.getD_some, List.take_succ_cons, List.take_zero, putAll, Act.put, List.setIfInBounds_toArray, List.set_cons_succ, List.set_cons_zero]
  refine wpAny_done (by kernel_rfl) ?_ _
  go_wp2_with fail
  go_ret
  exact ⟨rfl, hk9⟩
set_option maxHeartbeats 8000000 in
set_option maxRecDepth 100000 in
theorem s15d (r r2 : Nat) (lv lv2 : Value) (R S : Nn) (w : World) (h : Rt w r lv R) (h2 : Rt w r2 lv2 S) (hl : R.last = S.last) (hn : R.nodes = S.nodes) (hL : R.L.length = S.L.length) (hmany : R.L.length ≤ 4096) : Calls Try.prog 15 #[P0 r, P0 r2] w fun e w' => e = .returned (.bool (decide (sigs R.L = sigs S.L))) ∧ Kept [] w w' := by
  obtain ⟨lo, lc, rfl, _, _, _⟩ := h.sl
  obtain ⟨mo, mc, rfl, _, _, _⟩ := h2.sl
  have HA := hide h.head
  have HB := hide h2.head
  have hLI : (R.L.length : Int) = S.L.length := by omega
  have HR1 := hide h
  have HR2 := hide h2
  clear h h2
  go_enter Try.func15, Try.ntmps15
  go_wp2_with fail
  refine wp_region_any mixed (wpAny_tq 33 rfl (by kernel_rfl) [some (P0 r), some (P0 r), some (.pointer (some ⟨r, 2, none⟩)), some (.int .i64 R.last), some (P0 r2), some (P0 r2), some (.pointer (some ⟨r2, 2, none⟩)), some (.int .i64 S.last), some (.bool false), some (.bool false), some (P0 r), some (P0 r), some (.pointer (some ⟨r, 0, none⟩)), some (.int .i64 R.nodes), some (P0 r2), some (P0 r2), some (.pointer (some ⟨r2, 0, none⟩)), some (.int .i64 S.nodes), some (.bool false), some (.bool false), some (.bool false), some (P0 r), some (P0 r), some (.pointer (some ⟨r, 1, none⟩)), some (.slice lo R.L.length lc), some (.int .i64 R.L.length), some (P0 r2), some (P0 r2), some (.pointer (some ⟨r2, 1, none⟩)), some (.slice mo S.L.length mc), some (.int .i64 S.L.length), some (.bool false), some (.bool false)] rfl (by kernel_rfl) (by kernel_rfl) ?_ ?_)
  · intro i o' hi hsk ho a' w2 hout hin hk2
    replace hk2 : Kept [] w w2 := ⟨hk2.os, hk2.tape, hk2.output, hk2.size, hk2.block⟩
    match i, ho, hsk with
    | 0, ho, hsk =>
      obtain rfl := Option.some.inj ho
      exact wp_move (.tmp 0) rfl _ ((hout 0 (by kernel_rfl)).trans rfl) ⟨_, rfl, tq_is _ _ _ _ rfl, Kept.refl _ _, fun _ _ _ _ _ => trivial⟩
    | 1, ho, hsk =>
      obtain rfl := Option.some.inj ho
      have e0 : a'.eval (.tmp 18) = P0 r := is_tq (hin 0 18 (by kernel_rfl) (by kernel_rfl)) rfl
      exact o_nil (.tmp 18) rfl _ e0 ⟨_, rfl, tq_is _ _ _ _ rfl, Kept.refl _ _, fun _ _ _ _ _ => trivial⟩
    | 2, ho, hsk =>
      obtain rfl := Option.some.inj ho
      have e0 : a'.eval (.tmp 19) = P0 r := is_tq (hin 1 19 (by kernel_rfl) (by kernel_rfl)) rfl
      exact o_fld60_2 (.tmp 19) rfl r e0 ⟨_, rfl, tq_is _ _ _ _ rfl, Kept.refl _ _, fun _ _ _ _ _ => trivial⟩
    | 3, ho, hsk =>
      obtain rfl := Option.some.inj ho
      have e0 : a'.eval (.tmp 20) = .pointer (some ⟨r, 2, none⟩) := is_tq (hin 2 20 (by kernel_rfl) (by kernel_rfl)) rfl
      exact o_load2 (.tmp 20) rfl ⟨r, 2, none⟩ _ e0 (fits_cell ((unhide HA).kept hk2 (by simp)) 2 _ rfl) ⟨_, rfl, tq_is _ _ _ _ rfl, Kept.refl _ _, fun _ _ _ _ _ => trivial⟩
    | 4, ho, hsk =>
      obtain rfl := Option.some.inj ho
      exact wp_move (.tmp 1) rfl _ ((hout 1 (by kernel_rfl)).trans rfl) ⟨_, rfl, tq_is _ _ _ _ rfl, Kept.refl _ _, fun _ _ _ _ _ => trivial⟩
    | 5, ho, hsk =>
      obtain rfl := Option.some.inj ho
      have e0 : a'.eval (.tmp 22) = P0 r2 := is_tq (hin 4 22 (by kernel_rfl) (by kernel_rfl)) rfl
      exact o_nil (.tmp 22) rfl _ e0 ⟨_, rfl, tq_is _ _ _ _ rfl, Kept.refl _ _, fun _ _ _ _ _ => trivial⟩
    | 6, ho, hsk =>
      obtain rfl := Option.some.inj ho
      have e0 : a'.eval (.tmp 23) = P0 r2 := is_tq (hin 5 23 (by kernel_rfl) (by kernel_rfl)) rfl
      exact o_fld60_2 (.tmp 23) rfl r2 e0 ⟨_, rfl, tq_is _ _ _ _ rfl, Kept.refl _ _, fun _ _ _ _ _ => trivial⟩
    | 7, ho, hsk =>
      obtain rfl := Option.some.inj ho
      have e0 : a'.eval (.tmp 24) = .pointer (some ⟨r2, 2, none⟩) := is_tq (hin 6 24 (by kernel_rfl) (by kernel_rfl)) rfl
      exact o_load2 (.tmp 24) rfl ⟨r2, 2, none⟩ _ e0 (fits_cell ((unhide HB).kept hk2 (by simp)) 2 _ rfl) ⟨_, rfl, tq_is _ _ _ _ rfl, Kept.refl _ _, fun _ _ _ _ _ => trivial⟩
    | 8, ho, hsk =>
      obtain rfl := Option.some.inj ho
      have e0 : a'.eval (.tmp 21) = .int .i64 R.last := is_tq (hin 3 21 (by kernel_rfl) (by kernel_rfl)) rfl
      have e1 : a'.eval (.tmp 25) = .int .i64 S.last := is_tq (hin 7 25 (by kernel_rfl) (by kernel_rfl)) rfl
      exact o_neqI2 (.tmp 21) (.tmp 25) rfl _ _ true (decide_eq_true hl) e0 e1 ⟨_, rfl, tq_is _ _ _ _ rfl, Kept.refl _ _, fun _ _ _ _ _ => trivial⟩
    | 9, ho, hsk =>
      obtain rfl := Option.some.inj ho
      have e0 : a'.eval (.tmp 26) = .bool false := is_tq (hin 8 26 (by kernel_rfl) (by kernel_rfl)) rfl
      exact wp_move (.tmp 26) rfl _ e0 ⟨_, rfl, tq_is _ _ _ _ rfl, Kept.refl _ _, fun _ _ _ _ _ => trivial⟩
    | 10, ho, hsk =>
      obtain rfl := Option.some.inj ho
      exact wp_move (.tmp 0) rfl _ ((hout 0 (by kernel_rfl)).trans rfl) ⟨_, rfl, tq_is _ _ _ _ rfl, Kept.refl _ _, fun _ _ _ _ _ => trivial⟩
    | 11, ho, hsk =>
      obtain rfl := Option.some.inj ho
      have e0 : a'.eval (.tmp 28) = P0 r := is_tq (hin 10 28 (by kernel_rfl) (by kernel_rfl)) rfl
      exact o_nil (.tmp 28) rfl _ e0 ⟨_, rfl, tq_is _ _ _ _ rfl, Kept.refl _ _, fun _ _ _ _ _ => trivial⟩
    | 12, ho, hsk =>
      obtain rfl := Option.some.inj ho
      have e0 : a'.eval (.tmp 29) = P0 r := is_tq (hin 11 29 (by kernel_rfl) (by kernel_rfl)) rfl
      exact o_fld60_0 (.tmp 29) rfl r e0 ⟨_, rfl, tq_is _ _ _ _ rfl, Kept.refl _ _, fun _ _ _ _ _ => trivial⟩
    | 13, ho, hsk =>
      obtain rfl := Option.some.inj ho
      have e0 : a'.eval (.tmp 30) = .pointer (some ⟨r, 0, none⟩) := is_tq (hin 12 30 (by kernel_rfl) (by kernel_rfl)) rfl
      exact o_load3 (.tmp 30) rfl ⟨r, 0, none⟩ _ e0 (fits_cell ((unhide HA).kept hk2 (by simp)) 0 _ rfl) ⟨_, rfl, tq_is _ _ _ _ rfl, Kept.refl _ _, fun _ _ _ _ _ => trivial⟩
    | 14, ho, hsk =>
      obtain rfl := Option.some.inj ho
      exact wp_move (.tmp 1) rfl _ ((hout 1 (by kernel_rfl)).trans rfl) ⟨_, rfl, tq_is _ _ _ _ rfl, Kept.refl _ _, fun _ _ _ _ _ => trivial⟩
    | 15, ho, hsk =>
      obtain rfl := Option.some.inj ho
      have e0 : a'.eval (.tmp 32) = P0 r2 := is_tq (hin 14 32 (by kernel_rfl) (by kernel_rfl)) rfl
      exact o_nil (.tmp 32) rfl _ e0 ⟨_, rfl, tq_is _ _ _ _ rfl, Kept.refl _ _, fun _ _ _ _ _ => trivial⟩
    | 16, ho, hsk =>
      obtain rfl := Option.some.inj ho
      have e0 : a'.eval (.tmp 33) = P0 r2 := is_tq (hin 15 33 (by kernel_rfl) (by kernel_rfl)) rfl
      exact o_fld60_0 (.tmp 33) rfl r2 e0 ⟨_, rfl, tq_is _ _ _ _ rfl, Kept.refl _ _, fun _ _ _ _ _ => trivial⟩
    | 17, ho, hsk =>
      obtain rfl := Option.some.inj ho
      have e0 : a'.eval (.tmp 34) = .pointer (some ⟨r2, 0, none⟩) := is_tq (hin 16 34 (by kernel_rfl) (by kernel_rfl)) rfl
      exact o_load3 (.tmp 34) rfl ⟨r2, 0, none⟩ _ e0 (fits_cell ((unhide HB).kept hk2 (by simp)) 0 _ rfl) ⟨_, rfl, tq_is _ _ _ _ rfl, Kept.refl _ _, fun _ _ _ _ _ => trivial⟩
    | 18, ho, hsk =>
      obtain rfl := Option.some.inj ho
      have e0 : a'.eval (.tmp 31) = .int .i64 R.nodes := is_tq (hin 13 31 (by kernel_rfl) (by kernel_rfl)) rfl
      have e1 : a'.eval (.tmp 35) = .int .i64 S.nodes := is_tq (hin 17 35 (by kernel_rfl) (by kernel_rfl)) rfl
      exact o_neqI3 (.tmp 31) (.tmp 35) rfl _ _ true (decide_eq_true hn) e0 e1 ⟨_, rfl, tq_is _ _ _ _ rfl, Kept.refl _ _, fun _ _ _ _ _ => trivial⟩
    | 19, ho, hsk =>
      obtain rfl := Option.some.inj ho
      have e0 : a'.eval (.tmp 27) = .bool false := is_tq (hin 9 27 (by kernel_rfl) (by kernel_rfl)) rfl
      have e1 : a'.eval (.tmp 36) = .bool false := is_tq (hin 18 36 (by kernel_rfl) (by kernel_rfl)) rfl
      exact o_pickOr0 (.tmp 27) (.tmp 36) rfl _ e0 e1 ⟨_, rfl, tq_is _ _ _ _ rfl, Kept.refl _ _, fun _ _ _ _ _ => trivial⟩
    | 20, ho, hsk =>
      obtain rfl := Option.some.inj ho
      have e0 : a'.eval (.tmp 37) = .bool false := is_tq (hin 19 37 (by kernel_rfl) (by kernel_rfl)) rfl
      exact wp_move (.tmp 37) rfl _ e0 ⟨_, rfl, tq_is _ _ _ _ rfl, Kept.refl _ _, fun _ _ _ _ _ => trivial⟩
    | 21, ho, hsk =>
      obtain rfl := Option.some.inj ho
      exact wp_move (.tmp 0) rfl _ ((hout 0 (by kernel_rfl)).trans rfl) ⟨_, rfl, tq_is _ _ _ _ rfl, Kept.refl _ _, fun _ _ _ _ _ => trivial⟩
    | 22, ho, hsk =>
      obtain rfl := Option.some.inj ho
      have e0 : a'.eval (.tmp 39) = P0 r := is_tq (hin 21 39 (by kernel_rfl) (by kernel_rfl)) rfl
      exact o_nil (.tmp 39) rfl _ e0 ⟨_, rfl, tq_is _ _ _ _ rfl, Kept.refl _ _, fun _ _ _ _ _ => trivial⟩
    | 23, ho, hsk =>
      obtain rfl := Option.some.inj ho
      have e0 : a'.eval (.tmp 40) = P0 r := is_tq (hin 22 40 (by kernel_rfl) (by kernel_rfl)) rfl
      exact o_fld60_1 (.tmp 40) rfl r e0 ⟨_, rfl, tq_is _ _ _ _ rfl, Kept.refl _ _, fun _ _ _ _ _ => trivial⟩
    | 24, ho, hsk =>
      obtain rfl := Option.some.inj ho
      have e0 : a'.eval (.tmp 41) = .pointer (some ⟨r, 1, none⟩) := is_tq (hin 23 41 (by kernel_rfl) (by kernel_rfl)) rfl
      exact o_load43 (.tmp 41) rfl ⟨r, 1, none⟩ _ e0 (fits_cell ((unhide HA).kept hk2 (by simp)) 1 _ rfl) ⟨_, rfl, tq_is _ _ _ _ rfl, Kept.refl _ _, fun _ _ _ _ _ => trivial⟩
    | 25, ho, hsk =>
      obtain rfl := Option.some.inj ho
      have e0 : a'.eval (.tmp 42) = .slice lo R.L.length lc := is_tq (hin 24 42 (by kernel_rfl) (by kernel_rfl)) rfl
      exact o_len43 42 rfl _ _ _ e0 ⟨_, rfl, tq_is _ _ _ _ rfl, Kept.refl _ _, fun _ _ _ _ _ => trivial⟩
    | 26, ho, hsk =>
      obtain rfl := Option.some.inj ho
      exact wp_move (.tmp 1) rfl _ ((hout 1 (by kernel_rfl)).trans rfl) ⟨_, rfl, tq_is _ _ _ _ rfl, Kept.refl _ _, fun _ _ _ _ _ => trivial⟩
    | 27, ho, hsk =>
      obtain rfl := Option.some.inj ho
      have e0 : a'.eval (.tmp 44) = P0 r2 := is_tq (hin 26 44 (by kernel_rfl) (by kernel_rfl)) rfl
      exact o_nil (.tmp 44) rfl _ e0 ⟨_, rfl, tq_is _ _ _ _ rfl, Kept.refl _ _, fun _ _ _ _ _ => trivial⟩
    | 28, ho, hsk =>
      obtain rfl := Option.some.inj ho
      have e0 : a'.eval (.tmp 45) = P0 r2 := is_tq (hin 27 45 (by kernel_rfl) (by kernel_rfl)) rfl
      exact o_fld60_1 (.tmp 45) rfl r2 e0 ⟨_, rfl, tq_is _ _ _ _ rfl, Kept.refl _ _, fun _ _ _ _ _ => trivial⟩
    | 29, ho, hsk =>
      obtain rfl := Option.some.inj ho
      have e0 : a'.eval (.tmp 46) = .pointer (some ⟨r2, 1, none⟩) := is_tq (hin 28 46 (by kernel_rfl) (by kernel_rfl)) rfl
      exact o_load43 (.tmp 46) rfl ⟨r2, 1, none⟩ _ e0 (fits_cell ((unhide HB).kept hk2 (by simp)) 1 _ rfl) ⟨_, rfl, tq_is _ _ _ _ rfl, Kept.refl _ _, fun _ _ _ _ _ => trivial⟩
    | 30, ho, hsk =>
      obtain rfl := Option.some.inj ho
      have e0 : a'.eval (.tmp 47) = .slice mo S.L.length mc := is_tq (hin 29 47 (by kernel_rfl) (by kernel_rfl)) rfl
      exact o_len43 47 rfl _ _ _ e0 ⟨_, rfl, tq_is _ _ _ _ rfl, Kept.refl _ _, fun _ _ _ _ _ => trivial⟩
    | 31, ho, hsk =>
      obtain rfl := Option.some.inj ho
      have e0 : a'.eval (.tmp 43) = .int .i64 R.L.length := is_tq (hin 25 43 (by kernel_rfl) (by kernel_rfl)) rfl
      have e1 : a'.eval (.tmp 48) = .int .i64 S.L.length := is_tq (hin 30 48 (by kernel_rfl) (by kernel_rfl)) rfl
      exact o_neqI3 (.tmp 43) (.tmp 48) rfl _ _ true (decide_eq_true hLI) e0 e1 ⟨_, rfl, tq_is _ _ _ _ rfl, Kept.refl _ _, fun _ _ _ _ _ => trivial⟩
    | 32, ho, hsk =>
      obtain rfl := Option.some.inj ho
      have e0 : a'.eval (.tmp 38) = .bool false := is_tq (hin 20 38 (by kernel_rfl) (by kernel_rfl)) rfl
      have e1 : a'.eval (.tmp 49) = .bool false := is_tq (hin 31 49 (by kernel_rfl) (by kernel_rfl)) rfl
      exact o_pickOr0 (.tmp 38) (.tmp 49) rfl _ e0 e1 ⟨_, rfl, tq_is _ _ _ _ rfl, Kept.refl _ _, fun _ _ _ _ _ => trivial⟩
  intro w9 hk9
  replace hk9 : Kept [] w w9 := ⟨hk9.os, hk9.tape, hk9.output, hk9.size, hk9.block⟩
  simp only [valsQ, List.map_cons, List.map_nil, Option.getD_some, List.take_succ_cons, List.take_zero, putAll, Act.put, List.setIfInBounds_toArray, List.set_cons_succ, List.set_cons_zero]
  refine wpAny_done (by kernel_rfl) ?_ _
  have HK9 := hide hk9
  clear hk9
  go_wp2_with fail
  go_loopw [5] (fun i wr => ∃ j : Nat, j ≤ R.L.length ∧ i = .int .i64 j ∧ Hid (Kept [] w wr) ∧ Hid ((sigs R.L).take j = (sigs S.L).take j)) (fun i _ => R.L.length - (intOf i).toNat)
  case atStart => exact ⟨0, by omega, rfl, HK9, rfl⟩
  case round =>
    obtain ⟨j, hj, rfl, HKr, HS⟩ := hrel
    have HAr := hide ((unhide HR1).kept0 (unhide HKr)).head
    have HBr := hide ((unhide HR2).kept0 (unhide HKr)).head
    have hc := fits_cell (unhide HAr) 1 _ rfl
    by_cases hlt : j < R.L.length
    · obtain ⟨l, hll⟩ : ∃ l, R.L[j]? = some l := ⟨_, List.getElem?_eq_getElem hlt⟩
      obtain ⟨l2, hll2⟩ : ∃ l2, S.L[j]? = some l2 := ⟨_, List.getElem?_eq_getElem (by omega)⟩
      have hR1 := (unhide HR1).kept0 (unhide HKr)
      have hR2 := (unhide HR2).kept0 (unhide HKr)
      obtain ⟨g, rfl, hG⟩ := cellsL_at hR1.row hll
      obtain ⟨g2, rfl, hG2⟩ := cellsL_at hR2.row hll2
      have HG := hide hG
      have HG2 := hide hG2
      have hb1 := hR1.body l (List.mem_of_getElem? hll)
      have hb2 := hR2.body l2 (List.mem_of_getElem? hll2)
      have PS := hide (fun W (hk : Kept [] wr W) => same19x l l2 W (hb1.row.kept hk) (hb2.row.kept hk) hb1.byte hb2.byte)
      have hltI : (j : Int) < R.L.length := by omega
      have hs1 : (sigs R.L)[j]? = some l.sig := by simp [sigs, hll]
      have hs2 : (sigs S.L)[j]? = some l2.sig := by simp [sigs, hll2]
      have HS1 := hide hs1
      have HS2 := hide hs2
      clear hG hG2 hR1 hR2 hb1 hb2 hll hll2 hs1 hs2
      by_cases hal : alike l l2 = true
      · rw [hal] at PS
        go_wp2_with fail
        refine wp_region_any mixed (wpAny_tq 16 rfl (by kernel_rfl) [some (P0 r), some (P0 r), some (.pointer (some ⟨r, 1, none⟩)), some (.slice (some ⟨g, 0, none⟩) R.L.length lc), some (.int .i64 j), some (.pointer (some ⟨g, j * 4, none⟩)), some (aggV l.C), some (P0 r2), some (P0 r2), some (.pointer (some ⟨r2, 1, none⟩)), some (.slice (some ⟨g2, 0, none⟩) S.L.length mc), some (.int .i64 j), some (.pointer (some ⟨g2, j * 4, none⟩)), some (aggV l2.C), some (.bool true), some (.bool (!true))] rfl (by kernel_rfl) (by kernel_rfl) ?_ ?_)
        · intro i o' hi hsk ho a' w2 hout hin hk2
          replace hk2 : Kept [] wr w2 := ⟨hk2.os, hk2.tape, hk2.output, hk2.size, hk2.block⟩
          match i, ho, hsk with
          | 0, ho, hsk =>
            obtain rfl := Option.some.inj ho
            exact wp_move (.tmp 0) rfl _ ((hout 0 (by kernel_rfl)).trans rfl) ⟨_, rfl, tq_is _ _ _ _ rfl, Kept.refl _ _, fun _ _ _ _ _ => trivial⟩
          | 1, ho, hsk =>
            obtain rfl := Option.some.inj ho
            have e0 : a'.eval (.tmp 60) = P0 r := is_tq (hin 0 60 (by kernel_rfl) (by kernel_rfl)) rfl
            exact o_nil (.tmp 60) rfl _ e0 ⟨_, rfl, tq_is _ _ _ _ rfl, Kept.refl _ _, fun _ _ _ _ _ => trivial⟩
          | 2, ho, hsk =>
            obtain rfl := Option.some.inj ho
            have e0 : a'.eval (.tmp 61) = P0 r := is_tq (hin 1 61 (by kernel_rfl) (by kernel_rfl)) rfl
            exact o_fld60_1 (.tmp 61) rfl r e0 ⟨_, rfl, tq_is _ _ _ _ rfl, Kept.refl _ _, fun _ _ _ _ _ => trivial⟩
          | 3, ho, hsk =>
            obtain rfl := Option.some.inj ho
            have e0 : a'.eval (.tmp 62) = .pointer (some ⟨r, 1, none⟩) := is_tq (hin 2 62 (by kernel_rfl) (by kernel_rfl)) rfl
            exact o_load43 (.tmp 62) rfl ⟨r, 1, none⟩ _ e0 (fits_cell ((unhide HAr).kept hk2 (by simp)) 1 _ rfl) ⟨_, rfl, tq_is _ _ _ _ rfl, Kept.refl _ _, fun _ _ _ _ _ => trivial⟩
          | 4, ho, hsk =>
            obtain rfl := Option.some.inj ho
            exact wp_move (.tmp 5) rfl _ ((hout 5 (by kernel_rfl)).trans rfl) ⟨_, rfl, tq_is _ _ _ _ rfl, Kept.refl _ _, fun _ _ _ _ _ => trivial⟩
          | 5, ho, hsk =>
            obtain rfl := Option.some.inj ho
            have e0 : a'.eval (.tmp 63) = .slice (some ⟨g, 0, none⟩) R.L.length lc := is_tq (hin 3 63 (by kernel_rfl) (by kernel_rfl)) rfl
            have e1 : a'.eval (.tmp 64) = .int .i64 j := is_tq (hin 4 64 (by kernel_rfl) (by kernel_rfl)) rfl
            exact o_ix43 (.tmp 63) (.tmp 64) rfl g _ lc j (by omega) e0 e1 ⟨_, rfl, tq_is _ _ _ _ rfl, Kept.refl _ _, fun _ _ _ _ _ => trivial⟩
          | 6, ho, hsk =>
            obtain rfl := Option.some.inj ho
            have e0 : a'.eval (.tmp 65) = .pointer (some ⟨g, j * 4, none⟩) := is_tq (hin 5 65 (by kernel_rfl) (by kernel_rfl)) rfl
            exact wp_loadA row47 (.tmp 65) rfl g (j * 4) e0 (l.C) rfl (fun i u hi => hk2.cell (unhide HG i u hi) (by simp)) ⟨_, rfl, tq_is _ _ _ _ rfl, Kept.refl _ _, fun _ _ _ _ _ => trivial⟩
          | 7, ho, hsk =>
            obtain rfl := Option.some.inj ho
            exact wp_move (.tmp 1) rfl _ ((hout 1 (by kernel_rfl)).trans rfl) ⟨_, rfl, tq_is _ _ _ _ rfl, Kept.refl _ _, fun _ _ _ _ _ => trivial⟩
          | 8, ho, hsk =>
            obtain rfl := Option.some.inj ho
            have e0 : a'.eval (.tmp 67) = P0 r2 := is_tq (hin 7 67 (by kernel_rfl) (by kernel_rfl)) rfl
            exact o_nil (.tmp 67) rfl _ e0 ⟨_, rfl, tq_is _ _ _ _ rfl, Kept.refl _ _, fun _ _ _ _ _ => trivial⟩
          | 9, ho, hsk =>
            obtain rfl := Option.some.inj ho
            have e0 : a'.eval (.tmp 68) = P0 r2 := is_tq (hin 8 68 (by kernel_rfl) (by kernel_rfl)) rfl
            exact o_fld60_1 (.tmp 68) rfl r2 e0 ⟨_, rfl, tq_is _ _ _ _ rfl, Kept.refl _ _, fun _ _ _ _ _ => trivial⟩
          | 10, ho, hsk =>
            obtain rfl := Option.some.inj ho
            have e0 : a'.eval (.tmp 69) = .pointer (some ⟨r2, 1, none⟩) := is_tq (hin 9 69 (by kernel_rfl) (by kernel_rfl)) rfl
            exact o_load43 (.tmp 69) rfl ⟨r2, 1, none⟩ _ e0 (fits_cell ((unhide HBr).kept hk2 (by simp)) 1 _ rfl) ⟨_, rfl, tq_is _ _ _ _ rfl, Kept.refl _ _, fun _ _ _ _ _ => trivial⟩
          | 11, ho, hsk =>
            obtain rfl := Option.some.inj ho
            exact wp_move (.tmp 5) rfl _ ((hout 5 (by kernel_rfl)).trans rfl) ⟨_, rfl, tq_is _ _ _ _ rfl, Kept.refl _ _, fun _ _ _ _ _ => trivial⟩
          | 12, ho, hsk =>
            obtain rfl := Option.some.inj ho
            have e0 : a'.eval (.tmp 70) = .slice (some ⟨g2, 0, none⟩) S.L.length mc := is_tq (hin 10 70 (by kernel_rfl) (by kernel_rfl)) rfl
            have e1 : a'.eval (.tmp 71) = .int .i64 j := is_tq (hin 11 71 (by kernel_rfl) (by kernel_rfl)) rfl
            exact o_ix43 (.tmp 70) (.tmp 71) rfl g2 _ mc j (by omega) e0 e1 ⟨_, rfl, tq_is _ _ _ _ rfl, Kept.refl _ _, fun _ _ _ _ _ => trivial⟩
          | 13, ho, hsk =>
            obtain rfl := Option.some.inj ho
            have e0 : a'.eval (.tmp 72) = .pointer (some ⟨g2, j * 4, none⟩) := is_tq (hin 12 72 (by kernel_rfl) (by kernel_rfl)) rfl
            exact wp_loadA row47 (.tmp 72) rfl g2 (j * 4) e0 (l2.C) rfl (fun i u hi => hk2.cell (unhide HG2 i u hi) (by simp)) ⟨_, rfl, tq_is _ _ _ _ rfl, Kept.refl _ _, fun _ _ _ _ _ => trivial⟩
          | 14, ho, hsk =>
            obtain rfl := Option.some.inj ho
            have e0 : a'.eval (.tmp 66) = aggV l.C := is_tq (hin 6 66 (by kernel_rfl) (by kernel_rfl)) rfl
            have e1 : a'.eval (.tmp 73) = aggV l2.C := is_tq (hin 13 73 (by kernel_rfl) (by kernel_rfl)) rfl
            refine wp_callF 19 _ _ rfl #[aggV l.C, aggV l2.C] (by simp [e0, e1]) (cg19r _ _) ((unhide PS w2 hk2).mono ?_)
            rintro e w3 ⟨rfl, hk3⟩
            exact ⟨_, rfl, _, rfl, tq_is _ _ _ _ rfl, hk3, fun _ _ _ _ _ => trivial⟩
          | 15, ho, hsk =>
            obtain rfl := Option.some.inj ho
            have e0 : a'.eval (.tmp 74) = .bool true := is_tq (hin 14 74 (by kernel_rfl) (by kernel_rfl)) rfl
            exact o_not (.tmp 74) rfl _ e0 ⟨_, rfl, tq_is _ _ _ _ rfl, Kept.refl _ _, fun _ _ _ _ _ => trivial⟩
        intro w9 hk9
        replace hk9 : Kept [] wr w9 := ⟨hk9.os, hk9.tape, hk9.output, hk9.size, hk9.block⟩
        simp only [valsQ, List.map_cons, List.map_nil, Option.getD_some, List.take_succ_cons, List.take_zero, putAll, Act.put, List.setIfInBounds_toArray, List.set_cons_succ, List.set_cons_zero]
        refine wpAny_done (by kernel_rfl) ?_ _
        have HKn : Hid (Kept [] w w9) := (unhide HKr).trans hk9
        clear hk9
        go_wp2_with fail
        go_roundw
        case rel =>
          refine ⟨j + 1, by omega, by go_num, HKn, ?_⟩
          show (sigs R.L).take (j + 1) = (sigs S.L).take (j + 1)
          rw [List.take_add_one, List.take_add_one, unhide HS, unhide HS1, unhide HS2, alike_sig.1 hal]
        case measure => simp [intOf]; omega
      · have hal' : alike l l2 = false := by simpa using hal
        rw [hal'] at PS
        go_wp2_with fail
        refine wp_region_any mixed (wpAny_tq 16 rfl (by kernel_rfl) [some (P0 r), some (P0 r), some (.pointer (some ⟨r, 1, none⟩)), some (.slice (some ⟨g, 0, none⟩) R.L.length lc), some (.int .i64 j), some (.pointer (some ⟨g, j * 4, none⟩)), some (aggV l.C), some (P0 r2), some (P0 r2), some (.pointer (some ⟨r2, 1, none⟩)), some (.slice (some ⟨g2, 0, none⟩) S.L.length mc), some (.int .i64 j), some (.pointer (some ⟨g2, j * 4, none⟩)), some (aggV l2.C), some (.bool false), some (.bool (!false))] rfl (by kernel_rfl) (by kernel_rfl) ?_ ?_)
        · intro i o' hi hsk ho a' w2 hout hin hk2
          replace hk2 : Kept [] wr w2 := ⟨hk2.os, hk2.tape, hk2.output, hk2.size, hk2.block⟩
          match i, ho, hsk with
          | 0, ho, hsk =>
            obtain rfl := Option.some.inj ho
            exact wp_move (.tmp 0) rfl _ ((hout 0 (by kernel_rfl)).trans rfl) ⟨_, rfl, tq_is _ _ _ _ rfl, Kept.refl _ _, fun _ _ _ _ _ => trivial⟩
          | 1, ho, hsk =>
            obtain rfl := Option.some.inj ho
            have e0 : a'.eval (.tmp 60) = P0 r := is_tq (hin 0 60 (by kernel_rfl) (by kernel_rfl)) rfl
            exact o_nil (.tmp 60) rfl _ e0 ⟨_, rfl, tq_is _ _ _ _ rfl, Kept.refl _ _, fun _ _ _ _ _ => trivial⟩
          | 2, ho, hsk =>
            obtain rfl := Option.some.inj ho
            have e0 : a'.eval (.tmp 61) = P0 r := is_tq (hin 1 61 (by kernel_rfl) (by kernel_rfl)) rfl
            exact o_fld60_1 (.tmp 61) rfl r e0 ⟨_, rfl, tq_is _ _ _ _ rfl, Kept.refl _ _, fun _ _ _ _ _ => trivial⟩
          | 3, ho, hsk =>
            obtain rfl := Option.some.inj ho
            have e0 : a'.eval (.tmp 62) = .pointer (some ⟨r, 1, none⟩) := is_tq (hin 2 62 (by kernel_rfl) (by kernel_rfl)) rfl
            exact o_load43 (.tmp 62) rfl ⟨r, 1, none⟩ _ e0 (fits_cell ((unhide HAr).kept hk2 (by simp)) 1 _ rfl) ⟨_, rfl, tq_is _ _ _ _ rfl, Kept.refl _ _, fun _ _ _ _ _ => trivial⟩
          | 4, ho, hsk =>
            obtain rfl := Option.some.inj ho
            exact wp_move (.tmp 5) rfl _ ((hout 5 (by kernel_rfl)).trans rfl) ⟨_, rfl, tq_is _ _ _ _ rfl, Kept.refl _ _, fun _ _ _ _ _ => trivial⟩
          | 5, ho, hsk =>
            obtain rfl := Option.some.inj ho
            have e0 : a'.eval (.tmp 63) = .slice (some ⟨g, 0, none⟩) R.L.length lc := is_tq (hin 3 63 (by kernel_rfl) (by kernel_rfl)) rfl
            have e1 : a'.eval (.tmp 64) = .int .i64 j := is_tq (hin 4 64 (by kernel_rfl) (by kernel_rfl)) rfl
            exact o_ix43 (.tmp 63) (.tmp 64) rfl g _ lc j (by omega) e0 e1 ⟨_, rfl, tq_is _ _ _ _ rfl, Kept.refl _ _, fun _ _ _ _ _ => trivial⟩
          | 6, ho, hsk =>
            obtain rfl := Option.some.inj ho
            have e0 : a'.eval (.tmp 65) = .pointer (some ⟨g, j * 4, none⟩) := is_tq (hin 5 65 (by kernel_rfl) (by kernel_rfl)) rfl
            exact wp_loadA row47 (.tmp 65) rfl g (j * 4) e0 (l.C) rfl (fun i u hi => hk2.cell (unhide HG i u hi) (by simp)) ⟨_, rfl, tq_is _ _ _ _ rfl, Kept.refl _ _, fun _ _ _ _ _ => trivial⟩
          | 7, ho, hsk =>
            obtain rfl := Option.some.inj ho
            exact wp_move (.tmp 1) rfl _ ((hout 1 (by kernel_rfl)).trans rfl) ⟨_, rfl, tq_is _ _ _ _ rfl, Kept.refl _ _, fun _ _ _ _ _ => trivial⟩
          | 8, ho, hsk =>
            obtain rfl := Option.some.inj ho
            have e0 : a'.eval (.tmp 67) = P0 r2 := is_tq (hin 7 67 (by kernel_rfl) (by kernel_rfl)) rfl
            exact o_nil (.tmp 67) rfl _ e0 ⟨_, rfl, tq_is _ _ _ _ rfl, Kept.refl _ _, fun _ _ _ _ _ => trivial⟩
          | 9, ho, hsk =>
            obtain rfl := Option.some.inj ho
            have e0 : a'.eval (.tmp 68) = P0 r2 := is_tq (hin 8 68 (by kernel_rfl) (by kernel_rfl)) rfl
            exact o_fld60_1 (.tmp 68) rfl r2 e0 ⟨_, rfl, tq_is _ _ _ _ rfl, Kept.refl _ _, fun _ _ _ _ _ => trivial⟩
          | 10, ho, hsk =>
            obtain rfl := Option.some.inj ho
            have e0 : a'.eval (.tmp 69) = .pointer (some ⟨r2, 1, none⟩) := is_tq (hin 9 69 (by kernel_rfl) (by kernel_rfl)) rfl
            exact o_load43 (.tmp 69) rfl ⟨r2, 1, none⟩ _ e0 (fits_cell ((unhide HBr).kept hk2 (by simp)) 1 _ rfl) ⟨_, rfl, tq_is _ _ _ _ rfl, Kept.refl _ _, fun _ _ _ _ _ => trivial⟩
          | 11, ho, hsk =>
            obtain rfl := Option.some.inj ho
            exact wp_move (.tmp 5) rfl _ ((hout 5 (by kernel_rfl)).trans rfl) ⟨_, rfl, tq_is _ _ _ _ rfl, Kept.refl _ _, fun _ _ _ _ _ => trivial⟩
          | 12, ho, hsk =>
            obtain rfl := Option.some.inj ho
            have e0 : a'.eval (.tmp 70) = .slice (some ⟨g2, 0, none⟩) S.L.length mc := is_tq (hin 10 70 (by kernel_rfl) (by kernel_rfl)) rfl
            have e1 : a'.eval (.tmp 71) = .int .i64 j := is_tq (hin 11 71 (by kernel_rfl) (by kernel_rfl)) rfl
            exact o_ix43 (.tmp 70) (.tmp 71) rfl g2 _ mc j (by omega) e0 e1 ⟨_, rfl, tq_is _ _ _ _ rfl, Kept.refl _ _, fun _ _ _ _ _ => trivial⟩
          | 13, ho, hsk =>
            obtain rfl := Option.some.inj ho
            have e0 : a'.eval (.tmp 72) = .pointer (some ⟨g2, j * 4, none⟩) := is_tq (hin 12 72 (by kernel_rfl) (by kernel_rfl)) rfl
            exact wp_loadA row47 (.tmp 72) rfl g2 (j * 4) e0 (l2.C) rfl (fun i u hi => hk2.cell (unhide HG2 i u hi) (by simp)) ⟨_, rfl, tq_is _ _ _ _ rfl, Kept.refl _ _, fun _ _ _ _ _ => trivial⟩
          | 14, ho, hsk =>
            obtain rfl := Option.some.inj ho
            have e0 : a'.eval (.tmp 66) = aggV l.C := is_tq (hin 6 66 (by kernel_rfl) (by kernel_rfl)) rfl
            have e1 : a'.eval (.tmp 73) = aggV l2.C := is_tq (hin 13 73 (by kernel_rfl) (by kernel_rfl)) rfl
            refine wp_callF 19 _ _ rfl #[aggV l.C, aggV l2.C] (by simp [e0, e1]) (cg19r _ _) ((unhide PS w2 hk2).mono ?_)
            rintro e w3 ⟨rfl, hk3⟩
            exact ⟨_, rfl, _, rfl, tq_is _ _ _ _ rfl, hk3, fun _ _ _ _ _ => trivial⟩
          | 15, ho, hsk =>
            obtain rfl := Option.some.inj ho
            have e0 : a'.eval (.tmp 74) = .bool false := is_tq (hin 14 74 (by kernel_rfl) (by kernel_rfl)) rfl
            exact o_not (.tmp 74) rfl _ e0 ⟨_, rfl, tq_is _ _ _ _ rfl, Kept.refl _ _, fun _ _ _ _ _ => trivial⟩
        intro w9 hk9
        replace hk9 : Kept [] wr w9 := ⟨hk9.os, hk9.tape, hk9.output, hk9.size, hk9.block⟩
        simp only [valsQ, List.map_cons, List.map_nil, Option.getD_some, List.take_succ_cons, List.take_zero, putAll, Act.put, List.setIfInBounds_toArray, List.set_cons_succ, List.set_cons_zero]
        refine wpAny_done (by kernel_rfl) ?_ _
        have HKn : Hid (Kept [] w w9) := (unhide HKr).trans hk9
        clear hk9
        go_wp2_with fail
        go_ret
        refine ⟨?_, unhide HKn⟩
        rw [show decide (sigs R.L = sigs S.L) = false from decide_eq_false (fun e => hal (alike_sig.2 (by
          have h1 := unhide HS1
          rw [e, unhide HS2] at h1
          exact (Option.some.inj h1).symm)))]
        rfl
    · have hje : j = R.L.length := by omega
      go_wp2_with fail
      go_ret
      refine ⟨?_, unhide HKr⟩
      have h1 := unhide HS
      rw [List.take_of_length_le (by simp [sigs]; omega), List.take_of_length_le (by simp [sigs]; omega)] at h1
      rw [show decide (sigs R.L = sigs S.L) = true from decide_eq_true h1]
      rfl
theorem rsame15 (r r2 : Nat) (lv lv2 : Value) (R S : Nn) (w : World) (h : Rt w r lv R) (h2 : Rt w r2 lv2 S) (hmany : R.L.length ≤ 4096) : Calls Try.prog 15 #[P0 r, P0 r2] w fun e w' => e = .returned (.bool (sameN R S)) ∧ Kept [] w w' := by
  unfold sameN
  by_cases hl : R.last = S.last
  · by_cases hn : R.nodes = S.nodes
    · rw [decide_eq_true hn, decide_eq_true hl, Bool.true_and, Bool.true_and]
      by_cases hL : R.L.length = S.L.length
      · exact s15d r r2 lv lv2 R S w h h2 hl hn hL hmany
      · rw [decide_eq_false (fun e => hL (by have := congrArg List.length e; simpa [sigs] using this))]
        exact s15c r r2 lv lv2 R S w h h2 hl hn hL
    · rw [decide_eq_false hn]
      exact s15b r r2 lv lv2 R S w h h2 hl hn
  · rw [decide_eq_false hl, Bool.false_and, Bool.and_false]
    exact s15a r r2 lv lv2 R S w h h2 hl

end Go.Proofs.Ytpcggcicpojdoaa
