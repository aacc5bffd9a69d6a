/-
  The calls of RedoTorn.
-/
import Derived.Test.YtmeajhdhiebkdaaDoorLv
import Derived.Deep.CutBlock
import Derived.ProofKit
import Derived.SizedLaws
import Derived.Lib.SmallJoins
import Derived.Test.YtmeajhdhiebkdaaDoorMb

/-
  The document's May of a job.
-/
namespace Go.Proofs.YtmeajhdhiebkdaaDoor
set_option maxRecDepth 100000
open Go.RowKit

/-- A region in the text's order, by its table. -/
theorem wp_text_tq {id : Nat} {ops : Array Oper} {Q : Exit → Act → World → Prop} {a0 : Act} {w0 : World} (n : Nat) (hn : ops.size = n) (hok : prefG ops n = true) (us : List (Option Value)) (hu : us.length = n) (hg : guardsQ ops us = true)
    (hsl : ops.all (fun o => match o.dst with | none => true | some t => decide (t < a0.tmps.size)) = true)
    (hop : ∀ (j : Nat) (o : Oper), j < n → skipQ us j = false → ops[j]? = some o → ∀ a w, (∀ t : Nat, (ops.toList.take n).all (fun p => p.dst != some t) = true → a.eval (.tmp t) = a0.eval (.tmp t)) →
      (∀ (i t : Nat), o.after.any (fun e => Region.binds .any e && e.on == i) = true → ops[i]?.bind (·.dst) = some t → tq us i (a.eval (.tmp t)) w) → Kept [] w0 w →
      o.wp Tryd.prog a w (fun a' w' => ∃ v, a' = a.put o.dst v ∧ tq us j v w' ∧ Kept [] w w' ∧ ∀ i u, i < n → i ≠ j → tq us i u w → True) Q)
    (hQ : ∀ w, Kept [] w0 w → Q .normal (putAll a0 (ops.toList.take n) (valsQ us)) w) : (Code.region id ops false).wp Tryd.prog Q a0 w0 := by
  refine wp_region_text n hn hok (tq us) (fun _ _ _ _ => True) (skipQ us) (fun j o i b _ ho hg' => guardsQ_some hg j o i b ho hg') (fun j o _ ho hg' => guardsQ_none hg j o ho hg') (fun j w h => skipQ_undef w h) (fun _ _ _ _ => trivial) (tq_kept us) hsl hop ?_
  intro vs w hlen hv hk
  obtain rfl := vs_tq hv (by omega)
  exact hQ w hk
section
variable {o : Oper} {a : Act} {w : World} {K : Act → World → Prop} {Q : Exit → Act → World → Prop}
theorem o_fld23_1 (x : Operand) (ho : o.op = .fieldAddr 23 x 1) (b : Nat) (hx : a.eval x = P0 b) (h : K (a.put o.dst (.pointer (some ⟨b, 1, none⟩))) w) : o.wp Tryd.prog a w K Q := by
  unfold Oper.wp execOp
  simp only [ho, hx]
  simp [go_sem]
  exact h
theorem o_fld23_2 (x : Operand) (ho : o.op = .fieldAddr 23 x 2) (b : Nat) (hx : a.eval x = P0 b) (h : K (a.put o.dst (.pointer (some ⟨b, 2, none⟩))) w) : o.wp Tryd.prog a w K Q := by
  unfold Oper.wp execOp
  simp only [ho, hx]
  simp [go_sem]
  exact h
theorem o_fld23_3 (x : Operand) (ho : o.op = .fieldAddr 23 x 3) (b : Nat) (hx : a.eval x = P0 b) (h : K (a.put o.dst (.pointer (some ⟨b, 3, none⟩))) w) : o.wp Tryd.prog a w K Q := by
  unfold Oper.wp execOp
  simp only [ho, hx]
  simp [go_sem]
  exact h
theorem o_fld23_4 (x : Operand) (ho : o.op = .fieldAddr 23 x 4) (b : Nat) (hx : a.eval x = P0 b) (h : K (a.put o.dst (.pointer (some ⟨b, 4, none⟩))) w) : o.wp Tryd.prog a w K Q := by
  unfold Oper.wp execOp
  simp only [ho, hx]
  simp [go_sem]
  exact h
theorem o_geqc3 (x : Operand) (c : Int) (ho : o.op = .binOp .geq 3 x (.const (.int .i64 c)) 3) (m : Int) (r : Bool) (hr : decide (c ≤ m) = r) (hx : a.eval x = .int .i64 m) (h : K (a.put o.dst (.bool r)) w) : o.wp Tryd.prog a w K Q := by
  unfold Oper.wp execOp
  simp only [ho, hx]
  simp [go_sem, hr]
  exact h
theorem o_leqc3 (x : Operand) (c : Int) (ho : o.op = .binOp .leq 3 x (.const (.int .i64 c)) 3) (m : Int) (r : Bool) (hr : decide (m ≤ c) = r) (hx : a.eval x = .int .i64 m) (h : K (a.put o.dst (.bool r)) w) : o.wp Tryd.prog a w K Q := by
  unfold Oper.wp execOp
  simp only [ho, hx]
  simp [go_sem, hr]
  exact h
end
set_option maxHeartbeats 4000000 in
theorem rmay_0 (J : Ar.Job) (w : World) (c0 : decide ((2 : Int) ≤ J.n) = false) : Calls Tryd.prog 8 #[aggV (Ar.jobC J)] w fun e w' => e = .returned (.bool false) ∧ Kept [] w w' := by
  go_enter Tryd.func8, Tryd.ntmps8
  go_wp2_with (
    first
    | (refine wpBoxV (by rfl) (.tmp 0) (by rfl) (Ar.jobC J) (by kernel_rfl) ?_
       intro V1 b1 e1 B1 K1
       have HB := hide B1
       have HK := hide K1
       clear e1 B1 K1
       refine Stp.go ?_))
  constructor
  go_upto_region 1 with fail
  refine wp_text_tq 49 rfl (by kernel_rfl) [some (.pointer (some ⟨b1, 0, none⟩)), some (.int .i64 J.n), some (.bool false), some (.bool false), none, none, none, some (.bool false), some (.bool false), none, none, none, some (.bool false), some (.bool false), none, none, none, some (.bool false), some (.bool false), none, none, none, some (.bool false), some (.bool false), none, none, none, some (.bool false), some (.bool false), none, none, none, some (.bool false), some (.bool false), none, none, none, some (.bool false), some (.bool false), none, none, none, some (.bool false), some (.bool false), none, none, none, some (.bool false), some (.bool false)] rfl (by kernel_rfl) (by kernel_rfl) ?_ ?_
  · intro i o' hi hsk ho a' w2 hout hin hk2
    replace hk2 : Kept [] V1 w2 := ⟨hk2.os, hk2.tape, hk2.output, hk2.size, hk2.block⟩
    match i, ho, hsk with
    | 0, ho, hsk =>
      obtain rfl := Option.some.inj ho
      exact o_fld23_0 (.tmp 1) rfl b1 ((hout 1 (by kernel_rfl)).trans rfl) ⟨_, rfl, tq_is _ _ _ _ rfl, Kept.refl _ _, fun _ _ _ _ _ => trivial⟩
    | 1, ho, hsk =>
      obtain rfl := Option.some.inj ho
      have e0 : a'.eval (.tmp 3) = .pointer (some ⟨b1, 0, none⟩) := is_tq (hin 0 3 (by kernel_rfl) (by kernel_rfl)) rfl
      exact q_load3 (.tmp 3) rfl _ _ e0 (fits_cell ((unhide HB).kept hk2 (by simp)) 0 _ rfl) ⟨_, rfl, tq_is _ _ _ _ rfl, Kept.refl _ _, fun _ _ _ _ _ => trivial⟩
    | 2, ho, hsk =>
      obtain rfl := Option.some.inj ho
      have e0 : a'.eval (.tmp 4) = .int .i64 J.n := is_tq (hin 1 4 (by kernel_rfl) (by kernel_rfl)) rfl
      exact o_geqc3 (.tmp 4) 2 rfl _ _ c0 e0 ⟨_, rfl, tq_is _ _ _ _ rfl, Kept.refl _ _, fun _ _ _ _ _ => trivial⟩
    | 3, ho, hsk =>
      obtain rfl := Option.some.inj ho
      have e0 : a'.eval (.tmp 5) = .bool false := is_tq (hin 2 5 (by kernel_rfl) (by kernel_rfl)) rfl
      exact wp_move (.tmp 5) rfl _ e0 ⟨_, rfl, tq_is _ _ _ _ rfl, Kept.refl _ _, fun _ _ _ _ _ => trivial⟩
    | 4, ho, hsk =>
      cases hsk
    | 5, ho, hsk =>
      cases hsk
    | 6, ho, hsk =>
      cases hsk
    | 7, ho, hsk =>
      obtain rfl := Option.some.inj ho
      have e0 : a'.eval (.tmp 6) = .bool false := is_tq (hin 3 6 (by kernel_rfl) (by kernel_rfl)) rfl
      exact o_pickN (.tmp 6) (.tmp 9) rfl e0 ⟨_, rfl, tq_is _ _ _ _ rfl, Kept.refl _ _, fun _ _ _ _ _ => trivial⟩
    | 8, ho, hsk =>
      obtain rfl := Option.some.inj ho
      have e0 : a'.eval (.tmp 10) = .bool false := is_tq (hin 7 10 (by kernel_rfl) (by kernel_rfl)) rfl
      exact wp_move (.tmp 10) rfl _ e0 ⟨_, rfl, tq_is _ _ _ _ rfl, Kept.refl _ _, fun _ _ _ _ _ => trivial⟩
    | 9, ho, hsk =>
      cases hsk
    | 10, ho, hsk =>
      cases hsk
    | 11, ho, hsk =>
      cases hsk
    | 12, ho, hsk =>
      obtain rfl := Option.some.inj ho
      have e0 : a'.eval (.tmp 11) = .bool false := is_tq (hin 8 11 (by kernel_rfl) (by kernel_rfl)) rfl
      exact o_pickN (.tmp 11) (.tmp 14) rfl e0 ⟨_, rfl, tq_is _ _ _ _ rfl, Kept.refl _ _, fun _ _ _ _ _ => trivial⟩
    | 13, ho, hsk =>
      obtain rfl := Option.some.inj ho
      have e0 : a'.eval (.tmp 15) = .bool false := is_tq (hin 12 15 (by kernel_rfl) (by kernel_rfl)) rfl
      exact wp_move (.tmp 15) rfl _ e0 ⟨_, rfl, tq_is _ _ _ _ rfl, Kept.refl _ _, fun _ _ _ _ _ => trivial⟩
    | 14, ho, hsk =>
      cases hsk
    | 15, ho, hsk =>
      cases hsk
    | 16, ho, hsk =>
      cases hsk
    | 17, ho, hsk =>
      obtain rfl := Option.some.inj ho
      have e0 : a'.eval (.tmp 16) = .bool false := is_tq (hin 13 16 (by kernel_rfl) (by kernel_rfl)) rfl
      exact o_pickN (.tmp 16) (.tmp 19) rfl e0 ⟨_, rfl, tq_is _ _ _ _ rfl, Kept.refl _ _, fun _ _ _ _ _ => trivial⟩
    | 18, ho, hsk =>
      obtain rfl := Option.some.inj ho
      have e0 : a'.eval (.tmp 20) = .bool false := is_tq (hin 17 20 (by kernel_rfl) (by kernel_rfl)) rfl
      exact wp_move (.tmp 20) rfl _ e0 ⟨_, rfl, tq_is _ _ _ _ rfl, Kept.refl _ _, fun _ _ _ _ _ => trivial⟩
    | 19, ho, hsk =>
      cases hsk
    | 20, ho, hsk =>
      cases hsk
    | 21, ho, hsk =>
      cases hsk
    | 22, ho, hsk =>
      obtain rfl := Option.some.inj ho
      have e0 : a'.eval (.tmp 21) = .bool false := is_tq (hin 18 21 (by kernel_rfl) (by kernel_rfl)) rfl
      exact o_pickN (.tmp 21) (.tmp 24) rfl e0 ⟨_, rfl, tq_is _ _ _ _ rfl, Kept.refl _ _, fun _ _ _ _ _ => trivial⟩
    | 23, ho, hsk =>
      obtain rfl := Option.some.inj ho
      have e0 : a'.eval (.tmp 25) = .bool false := is_tq (hin 22 25 (by kernel_rfl) (by kernel_rfl)) rfl
      exact wp_move (.tmp 25) rfl _ e0 ⟨_, rfl, tq_is _ _ _ _ rfl, Kept.refl _ _, fun _ _ _ _ _ => trivial⟩
    | 24, ho, hsk =>
      cases hsk
    | 25, ho, hsk =>
      cases hsk
    | 26, ho, hsk =>
      cases hsk
    | 27, ho, hsk =>
      obtain rfl := Option.some.inj ho
      have e0 : a'.eval (.tmp 26) = .bool false := is_tq (hin 23 26 (by kernel_rfl) (by kernel_rfl)) rfl
      exact o_pickN (.tmp 26) (.tmp 29) rfl e0 ⟨_, rfl, tq_is _ _ _ _ rfl, Kept.refl _ _, fun _ _ _ _ _ => trivial⟩
    | 28, ho, hsk =>
      obtain rfl := Option.some.inj ho
      have e0 : a'.eval (.tmp 30) = .bool false := is_tq (hin 27 30 (by kernel_rfl) (by kernel_rfl)) rfl
      exact wp_move (.tmp 30) rfl _ e0 ⟨_, rfl, tq_is _ _ _ _ rfl, Kept.refl _ _, fun _ _ _ _ _ => trivial⟩
    | 29, ho, hsk =>
      cases hsk
    | 30, ho, hsk =>
      cases hsk
    | 31, ho, hsk =>
      cases hsk
    | 32, ho, hsk =>
      obtain rfl := Option.some.inj ho
      have e0 : a'.eval (.tmp 31) = .bool false := is_tq (hin 28 31 (by kernel_rfl) (by kernel_rfl)) rfl
      exact o_pickN (.tmp 31) (.tmp 34) rfl e0 ⟨_, rfl, tq_is _ _ _ _ rfl, Kept.refl _ _, fun _ _ _ _ _ => trivial⟩
    | 33, ho, hsk =>
      obtain rfl := Option.some.inj ho
      have e0 : a'.eval (.tmp 35) = .bool false := is_tq (hin 32 35 (by kernel_rfl) (by kernel_rfl)) rfl
      exact wp_move (.tmp 35) rfl _ e0 ⟨_, rfl, tq_is _ _ _ _ rfl, Kept.refl _ _, fun _ _ _ _ _ => trivial⟩
    | 34, ho, hsk =>
      cases hsk
    | 35, ho, hsk =>
      cases hsk
    | 36, ho, hsk =>
      cases hsk
    | 37, ho, hsk =>
      obtain rfl := Option.some.inj ho
      have e0 : a'.eval (.tmp 36) = .bool false := is_tq (hin 33 36 (by kernel_rfl) (by kernel_rfl)) rfl
      exact o_pickN (.tmp 36) (.tmp 39) rfl e0 ⟨_, rfl, tq_is _ _ _ _ rfl, Kept.refl _ _, fun _ _ _ _ _ => trivial⟩
    | 38, ho, hsk =>
      obtain rfl := Option.some.inj ho
      have e0 : a'.eval (.tmp 40) = .bool false := is_tq (hin 37 40 (by kernel_rfl) (by kernel_rfl)) rfl
      exact wp_move (.tmp 40) rfl _ e0 ⟨_, rfl, tq_is _ _ _ _ rfl, Kept.refl _ _, fun _ _ _ _ _ => trivial⟩
    | 39, ho, hsk =>
      cases hsk
    | 40, ho, hsk =>
      cases hsk
    | 41, ho, hsk =>
      cases hsk
    | 42, ho, hsk =>
      obtain rfl := Option.some.inj ho
      have e0 : a'.eval (.tmp 41) = .bool false := is_tq (hin 38 41 (by kernel_rfl) (by kernel_rfl)) rfl
      exact o_pickN (.tmp 41) (.tmp 44) rfl e0 ⟨_, rfl, tq_is _ _ _ _ rfl, Kept.refl _ _, fun _ _ _ _ _ => trivial⟩
    | 43, ho, hsk =>
      obtain rfl := Option.some.inj ho
      have e0 : a'.eval (.tmp 45) = .bool false := is_tq (hin 42 45 (by kernel_rfl) (by kernel_rfl)) rfl
      exact wp_move (.tmp 45) rfl _ e0 ⟨_, rfl, tq_is _ _ _ _ rfl, Kept.refl _ _, fun _ _ _ _ _ => trivial⟩
    | 44, ho, hsk =>
      cases hsk
    | 45, ho, hsk =>
      cases hsk
    | 46, ho, hsk =>
      cases hsk
    | 47, ho, hsk =>
      obtain rfl := Option.some.inj ho
      have e0 : a'.eval (.tmp 46) = .bool false := is_tq (hin 43 46 (by kernel_rfl) (by kernel_rfl)) rfl
      exact o_pickN (.tmp 46) (.tmp 49) rfl e0 ⟨_, rfl, tq_is _ _ _ _ rfl, Kept.refl _ _, fun _ _ _ _ _ => trivial⟩
    | 48, ho, hsk =>
      obtain rfl := Option.some.inj ho
      have e0 : a'.eval (.tmp 50) = .bool false := is_tq (hin 47 50 (by kernel_rfl) (by kernel_rfl)) rfl
      exact wp_assignV (.tmp 50) rfl _ e0 ⟨_, rfl, tq_is _ _ _ _ rfl, Kept.refl _ _, fun _ _ _ _ _ => trivial⟩
  intro w9 hk9
  replace hk9 : Kept [] V1 w9 := ⟨hk9.os, hk9.tape, hk9.output, hk9.size, hk9.block⟩
  simp only [valsQ, List.map_cons, List.map_nil, Option.getD_some, Option.getD_none, List.take_succ_cons, List.take_zero, putAll, Act.put, List.setIfInBounds_toArray, List.set_cons_succ, List.set_cons_zero]
  go_wp2_with fail
  go_ret
  exact ⟨rfl, (unhide HK).trans hk9⟩
set_option maxHeartbeats 4000000 in
theorem rmay_1 (J : Ar.Job) (w : World) (c0 : decide ((2 : Int) ≤ J.n) = true) (c1 : decide (J.n ≤ 8) = false) : Calls Tryd.prog 8 #[aggV (Ar.jobC J)] w fun e w' => e = .returned (.bool false) ∧ Kept [] w w' := by
  go_enter Tryd.func8, Tryd.ntmps8
  go_wp2_with (
    first
    | (refine wpBoxV (by rfl) (.tmp 0) (by rfl) (Ar.jobC J) (by kernel_rfl) ?_
       intro V1 b1 e1 B1 K1
       have HB := hide B1
       have HK := hide K1
       clear e1 B1 K1
       refine Stp.go ?_))
  constructor
  go_upto_region 1 with fail
  refine wp_text_tq 49 rfl (by kernel_rfl) [some (.pointer (some ⟨b1, 0, none⟩)), some (.int .i64 J.n), some (.bool true), some (.bool true), some (.pointer (some ⟨b1, 0, none⟩)), some (.int .i64 J.n), some (.bool false), some (.bool false), some (.bool false), none, none, none, some (.bool false), some (.bool false), none, none, none, some (.bool false), some (.bool false), none, none, none, some (.bool false), some (.bool false), none, none, none, some (.bool false), some (.bool false), none, none, none, some (.bool false), some (.bool false), none, none, none, some (.bool false), some (.bool false), none, none, none, some (.bool false), some (.bool false), none, none, none, some (.bool false), some (.bool false)] rfl (by kernel_rfl) (by kernel_rfl) ?_ ?_
  · intro i o' hi hsk ho a' w2 hout hin hk2
    replace hk2 : Kept [] V1 w2 := ⟨hk2.os, hk2.tape, hk2.output, hk2.size, hk2.block⟩
    match i, ho, hsk with
    | 0, ho, hsk =>
      obtain rfl := Option.some.inj ho
      exact o_fld23_0 (.tmp 1) rfl b1 ((hout 1 (by kernel_rfl)).trans rfl) ⟨_, rfl, tq_is _ _ _ _ rfl, Kept.refl _ _, fun _ _ _ _ _ => trivial⟩
    | 1, ho, hsk =>
      obtain rfl := Option.some.inj ho
      have e0 : a'.eval (.tmp 3) = .pointer (some ⟨b1, 0, none⟩) := is_tq (hin 0 3 (by kernel_rfl) (by kernel_rfl)) rfl
      exact q_load3 (.tmp 3) rfl _ _ e0 (fits_cell ((unhide HB).kept hk2 (by simp)) 0 _ rfl) ⟨_, rfl, tq_is _ _ _ _ rfl, Kept.refl _ _, fun _ _ _ _ _ => trivial⟩
    | 2, ho, hsk =>
      obtain rfl := Option.some.inj ho
      have e0 : a'.eval (.tmp 4) = .int .i64 J.n := is_tq (hin 1 4 (by kernel_rfl) (by kernel_rfl)) rfl
      exact o_geqc3 (.tmp 4) 2 rfl _ _ c0 e0 ⟨_, rfl, tq_is _ _ _ _ rfl, Kept.refl _ _, fun _ _ _ _ _ => trivial⟩
    | 3, ho, hsk =>
      obtain rfl := Option.some.inj ho
      have e0 : a'.eval (.tmp 5) = .bool true := is_tq (hin 2 5 (by kernel_rfl) (by kernel_rfl)) rfl
      exact wp_move (.tmp 5) rfl _ e0 ⟨_, rfl, tq_is _ _ _ _ rfl, Kept.refl _ _, fun _ _ _ _ _ => trivial⟩
    | 4, ho, hsk =>
      obtain rfl := Option.some.inj ho
      exact o_fld23_0 (.tmp 1) rfl b1 ((hout 1 (by kernel_rfl)).trans rfl) ⟨_, rfl, tq_is _ _ _ _ rfl, Kept.refl _ _, fun _ _ _ _ _ => trivial⟩
    | 5, ho, hsk =>
      obtain rfl := Option.some.inj ho
      have e0 : a'.eval (.tmp 7) = .pointer (some ⟨b1, 0, none⟩) := is_tq (hin 4 7 (by kernel_rfl) (by kernel_rfl)) rfl
      exact q_load3 (.tmp 7) rfl _ _ e0 (fits_cell ((unhide HB).kept hk2 (by simp)) 0 _ rfl) ⟨_, rfl, tq_is _ _ _ _ rfl, Kept.refl _ _, fun _ _ _ _ _ => trivial⟩
    | 6, ho, hsk =>
      obtain rfl := Option.some.inj ho
      have e0 : a'.eval (.tmp 8) = .int .i64 J.n := is_tq (hin 5 8 (by kernel_rfl) (by kernel_rfl)) rfl
      exact o_leqc3 (.tmp 8) 8 rfl _ _ c1 e0 ⟨_, rfl, tq_is _ _ _ _ rfl, Kept.refl _ _, fun _ _ _ _ _ => trivial⟩
    | 7, ho, hsk =>
      obtain rfl := Option.some.inj ho
      have e0 : a'.eval (.tmp 6) = .bool true := is_tq (hin 3 6 (by kernel_rfl) (by kernel_rfl)) rfl
      have e1 : a'.eval (.tmp 9) = .bool false := is_tq (hin 6 9 (by kernel_rfl) (by kernel_rfl)) rfl
      exact o_pick (.tmp 6) (.tmp 9) rfl _ e0 e1 ⟨_, rfl, tq_is _ _ _ _ rfl, Kept.refl _ _, fun _ _ _ _ _ => trivial⟩
    | 8, ho, hsk =>
      obtain rfl := Option.some.inj ho
      have e0 : a'.eval (.tmp 10) = .bool false := is_tq (hin 7 10 (by kernel_rfl) (by kernel_rfl)) rfl
      exact wp_move (.tmp 10) rfl _ e0 ⟨_, rfl, tq_is _ _ _ _ rfl, Kept.refl _ _, fun _ _ _ _ _ => trivial⟩
    | 9, ho, hsk =>
      cases hsk
    | 10, ho, hsk =>
      cases hsk
    | 11, ho, hsk =>
      cases hsk
    | 12, ho, hsk =>
      obtain rfl := Option.some.inj ho
      have e0 : a'.eval (.tmp 11) = .bool false := is_tq (hin 8 11 (by kernel_rfl) (by kernel_rfl)) rfl
      exact o_pickN (.tmp 11) (.tmp 14) rfl e0 ⟨_, rfl, tq_is _ _ _ _ rfl, Kept.refl _ _, fun _ _ _ _ _ => trivial⟩
    | 13, ho, hsk =>
      obtain rfl := Option.some.inj ho
      have e0 : a'.eval (.tmp 15) = .bool false := is_tq (hin 12 15 (by kernel_rfl) (by kernel_rfl)) rfl
      exact wp_move (.tmp 15) rfl _ e0 ⟨_, rfl, tq_is _ _ _ _ rfl, Kept.refl _ _, fun _ _ _ _ _ => trivial⟩
    | 14, ho, hsk =>
      cases hsk
    | 15, ho, hsk =>
      cases hsk
    | 16, ho, hsk =>
      cases hsk
    | 17, ho, hsk =>
      obtain rfl := Option.some.inj ho
      have e0 : a'.eval (.tmp 16) = .bool false := is_tq (hin 13 16 (by kernel_rfl) (by kernel_rfl)) rfl
      exact o_pickN (.tmp 16) (.tmp 19) rfl e0 ⟨_, rfl, tq_is _ _ _ _ rfl, Kept.refl _ _, fun _ _ _ _ _ => trivial⟩
    | 18, ho, hsk =>
      obtain rfl := Option.some.inj ho
      have e0 : a'.eval (.tmp 20) = .bool false := is_tq (hin 17 20 (by kernel_rfl) (by kernel_rfl)) rfl
      exact wp_move (.tmp 20) rfl _ e0 ⟨_, rfl, tq_is _ _ _ _ rfl, Kept.refl _ _, fun _ _ _ _ _ => trivial⟩
    | 19, ho, hsk =>
      cases hsk
    | 20, ho, hsk =>
      cases hsk
    | 21, ho, hsk =>
      cases hsk
    | 22, ho, hsk =>
      obtain rfl := Option.some.inj ho
      have e0 : a'.eval (.tmp 21) = .bool false := is_tq (hin 18 21 (by kernel_rfl) (by kernel_rfl)) rfl
      exact o_pickN (.tmp 21) (.tmp 24) rfl e0 ⟨_, rfl, tq_is _ _ _ _ rfl, Kept.refl _ _, fun _ _ _ _ _ => trivial⟩
    | 23, ho, hsk =>
      obtain rfl := Option.some.inj ho
      have e0 : a'.eval (.tmp 25) = .bool false := is_tq (hin 22 25 (by kernel_rfl) (by kernel_rfl)) rfl
      exact wp_move (.tmp 25) rfl _ e0 ⟨_, rfl, tq_is _ _ _ _ rfl, Kept.refl _ _, fun _ _ _ _ _ => trivial⟩
    | 24, ho, hsk =>
      cases hsk
    | 25, ho, hsk =>
      cases hsk
    | 26, ho, hsk =>
      cases hsk
    | 27, ho, hsk =>
      obtain rfl := Option.some.inj ho
      have e0 : a'.eval (.tmp 26) = .bool false := is_tq (hin 23 26 (by kernel_rfl) (by kernel_rfl)) rfl
      exact o_pickN (.tmp 26) (.tmp 29) rfl e0 ⟨_, rfl, tq_is _ _ _ _ rfl, Kept.refl _ _, fun _ _ _ _ _ => trivial⟩
    | 28, ho, hsk =>
      obtain rfl := Option.some.inj ho
      have e0 : a'.eval (.tmp 30) = .bool false := is_tq (hin 27 30 (by kernel_rfl) (by kernel_rfl)) rfl
      exact wp_move (.tmp 30) rfl _ e0 ⟨_, rfl, tq_is _ _ _ _ rfl, Kept.refl _ _, fun _ _ _ _ _ => trivial⟩
    | 29, ho, hsk =>
      cases hsk
    | 30, ho, hsk =>
      cases hsk
    | 31, ho, hsk =>
      cases hsk
    | 32, ho, hsk =>
      obtain rfl := Option.some.inj ho
      have e0 : a'.eval (.tmp 31) = .bool false := is_tq (hin 28 31 (by kernel_rfl) (by kernel_rfl)) rfl
      exact o_pickN (.tmp 31) (.tmp 34) rfl e0 ⟨_, rfl, tq_is _ _ _ _ rfl, Kept.refl _ _, fun _ _ _ _ _ => trivial⟩
    | 33, ho, hsk =>
      obtain rfl := Option.some.inj ho
      have e0 : a'.eval (.tmp 35) = .bool false := is_tq (hin 32 35 (by kernel_rfl) (by kernel_rfl)) rfl
      exact wp_move (.tmp 35) rfl _ e0 ⟨_, rfl, tq_is _ _ _ _ rfl, Kept.refl _ _, fun _ _ _ _ _ => trivial⟩
    | 34, ho, hsk =>
      cases hsk
    | 35, ho, hsk =>
      cases hsk
    | 36, ho, hsk =>
      cases hsk
    | 37, ho, hsk =>
      obtain rfl := Option.some.inj ho
      have e0 : a'.eval (.tmp 36) = .bool false := is_tq (hin 33 36 (by kernel_rfl) (by kernel_rfl)) rfl
      exact o_pickN (.tmp 36) (.tmp 39) rfl e0 ⟨_, rfl, tq_is _ _ _ _ rfl, Kept.refl _ _, fun _ _ _ _ _ => trivial⟩
    | 38, ho, hsk =>
      obtain rfl := Option.some.inj ho
      have e0 : a'.eval (.tmp 40) = .bool false := is_tq (hin 37 40 (by kernel_rfl) (by kernel_rfl)) rfl
      exact wp_move (.tmp 40) rfl _ e0 ⟨_, rfl, tq_is _ _ _ _ rfl, Kept.refl _ _, fun _ _ _ _ _ => trivial⟩
    | 39, ho, hsk =>
      cases hsk
    | 40, ho, hsk =>
      cases hsk
    | 41, ho, hsk =>
      cases hsk
    | 42, ho, hsk =>
      obtain rfl := Option.some.inj ho
      have e0 : a'.eval (.tmp 41) = .bool false := is_tq (hin 38 41 (by kernel_rfl) (by kernel_rfl)) rfl
      exact o_pickN (.tmp 41) (.tmp 44) rfl e0 ⟨_, rfl, tq_is _ _ _ _ rfl, Kept.refl _ _, fun _ _ _ _ _ => trivial⟩
    | 43, ho, hsk =>
      obtain rfl := Option.some.inj ho
      have e0 : a'.eval (.tmp 45) = .bool false := is_tq (hin 42 45 (by kernel_rfl) (by kernel_rfl)) rfl
      exact wp_move (.tmp 45) rfl _ e0 ⟨_, rfl, tq_is _ _ _ _ rfl, Kept.refl _ _, fun _ _ _ _ _ => trivial⟩
    | 44, ho, hsk =>
      cases hsk
    | 45, ho, hsk =>
      cases hsk
    | 46, ho, hsk =>
      cases hsk
    | 47, ho, hsk =>
      obtain rfl := Option.some.inj ho
      have e0 : a'.eval (.tmp 46) = .bool false := is_tq (hin 43 46 (by kernel_rfl) (by kernel_rfl)) rfl
      exact o_pickN (.tmp 46) (.tmp 49) rfl e0 ⟨_, rfl, tq_is _ _ _ _ rfl, Kept.refl _ _, fun _ _ _ _ _ => trivial⟩
    | 48, ho, hsk =>
      obtain rfl := Option.some.inj ho
      have e0 : a'.eval (.tmp 50) = .bool false := is_tq (hin 47 50 (by kernel_rfl) (by kernel_rfl)) rfl
      exact wp_assignV (.tmp 50) rfl _ e0 ⟨_, rfl, tq_is _ _ _ _ rfl, Kept.refl _ _, fun _ _ _ _ _ => trivial⟩
  intro w9 hk9
  replace hk9 : Kept [] V1 w9 := ⟨hk9.os, hk9.tape, hk9.output, hk9.size, hk9.block⟩
  simp only [valsQ, List.map_cons, List.map_nil, Option.getD_some, Option.getD_none, List.take_succ_cons, List.take_zero, putAll, Act.put, List.setIfInBounds_toArray, List.set_cons_succ, List.set_cons_zero]
  go_wp2_with fail
  go_ret
  exact ⟨rfl, (unhide HK).trans hk9⟩
set_option maxHeartbeats 4000000 in
theorem rmay_2 (J : Ar.Job) (w : World) (c0 : decide ((2 : Int) ≤ J.n) = true) (c1 : decide (J.n ≤ 8) = true) (c2 : decide ((1 : Int) ≤ J.p) = false) : Calls Tryd.prog 8 #[aggV (Ar.jobC J)] w fun e w' => e = .returned (.bool false) ∧ Kept [] w w' := by
  go_enter Tryd.func8, Tryd.ntmps8
  go_wp2_with (
    first
    | (refine wpBoxV (by rfl) (.tmp 0) (by rfl) (Ar.jobC J) (by kernel_rfl) ?_
       intro V1 b1 e1 B1 K1
       have HB := hide B1
       have HK := hide K1
       clear e1 B1 K1
       refine Stp.go ?_))
  constructor
  go_upto_region 1 with fail
  refine wp_text_tq 49 rfl (by kernel_rfl) [some (.pointer (some ⟨b1, 0, none⟩)), some (.int .i64 J.n), some (.bool true), some (.bool true), some (.pointer (some ⟨b1, 0, none⟩)), some (.int .i64 J.n), some (.bool true), some (.bool true), some (.bool true), some (.pointer (some ⟨b1, 1, none⟩)), some (.int .i64 J.p), some (.bool false), some (.bool false), some (.bool false), none, none, none, some (.bool false), some (.bool false), none, none, none, some (.bool false), some (.bool false), none, none, none, some (.bool false), some (.bool false), none, none, none, some (.bool false), some (.bool false), none, none, none, some (.bool false), some (.bool false), none, none, none, some (.bool false), some (.bool false), none, none, none, some (.bool false), some (.bool false)] rfl (by kernel_rfl) (by kernel_rfl) ?_ ?_
  · intro i o' hi hsk ho a' w2 hout hin hk2
    replace hk2 : Kept [] V1 w2 := ⟨hk2.os, hk2.tape, hk2.output, hk2.size, hk2.block⟩
    match i, ho, hsk with
    | 0, ho, hsk =>
      obtain rfl := Option.some.inj ho
      exact o_fld23_0 (.tmp 1) rfl b1 ((hout 1 (by kernel_rfl)).trans rfl) ⟨_, rfl, tq_is _ _ _ _ rfl, Kept.refl _ _, fun _ _ _ _ _ => trivial⟩
    | 1, ho, hsk =>
      obtain rfl := Option.some.inj ho
      have e0 : a'.eval (.tmp 3) = .pointer (some ⟨b1, 0, none⟩) := is_tq (hin 0 3 (by kernel_rfl) (by kernel_rfl)) rfl
      exact q_load3 (.tmp 3) rfl _ _ e0 (fits_cell ((unhide HB).kept hk2 (by simp)) 0 _ rfl) ⟨_, rfl, tq_is _ _ _ _ rfl, Kept.refl _ _, fun _ _ _ _ _ => trivial⟩
    | 2, ho, hsk =>
      obtain rfl := Option.some.inj ho
      have e0 : a'.eval (.tmp 4) = .int .i64 J.n := is_tq (hin 1 4 (by kernel_rfl) (by kernel_rfl)) rfl
      exact o_geqc3 (.tmp 4) 2 rfl _ _ c0 e0 ⟨_, rfl, tq_is _ _ _ _ rfl, Kept.refl _ _, fun _ _ _ _ _ => trivial⟩
    | 3, ho, hsk =>
      obtain rfl := Option.some.inj ho
      have e0 : a'.eval (.tmp 5) = .bool true := is_tq (hin 2 5 (by kernel_rfl) (by kernel_rfl)) rfl
      exact wp_move (.tmp 5) rfl _ e0 ⟨_, rfl, tq_is _ _ _ _ rfl, Kept.refl _ _, fun _ _ _ _ _ => trivial⟩
    | 4, ho, hsk =>
      obtain rfl := Option.some.inj ho
      exact o_fld23_0 (.tmp 1) rfl b1 ((hout 1 (by kernel_rfl)).trans rfl) ⟨_, rfl, tq_is _ _ _ _ rfl, Kept.refl _ _, fun _ _ _ _ _ => trivial⟩
    | 5, ho, hsk =>
      obtain rfl := Option.some.inj ho
      have e0 : a'.eval (.tmp 7) = .pointer (some ⟨b1, 0, none⟩) := is_tq (hin 4 7 (by kernel_rfl) (by kernel_rfl)) rfl
      exact q_load3 (.tmp 7) rfl _ _ e0 (fits_cell ((unhide HB).kept hk2 (by simp)) 0 _ rfl) ⟨_, rfl, tq_is _ _ _ _ rfl, Kept.refl _ _, fun _ _ _ _ _ => trivial⟩
    | 6, ho, hsk =>
      obtain rfl := Option.some.inj ho
      have e0 : a'.eval (.tmp 8) = .int .i64 J.n := is_tq (hin 5 8 (by kernel_rfl) (by kernel_rfl)) rfl
      exact o_leqc3 (.tmp 8) 8 rfl _ _ c1 e0 ⟨_, rfl, tq_is _ _ _ _ rfl, Kept.refl _ _, fun _ _ _ _ _ => trivial⟩
    | 7, ho, hsk =>
      obtain rfl := Option.some.inj ho
      have e0 : a'.eval (.tmp 6) = .bool true := is_tq (hin 3 6 (by kernel_rfl) (by kernel_rfl)) rfl
      have e1 : a'.eval (.tmp 9) = .bool true := is_tq (hin 6 9 (by kernel_rfl) (by kernel_rfl)) rfl
      exact o_pick (.tmp 6) (.tmp 9) rfl _ e0 e1 ⟨_, rfl, tq_is _ _ _ _ rfl, Kept.refl _ _, fun _ _ _ _ _ => trivial⟩
    | 8, ho, hsk =>
      obtain rfl := Option.some.inj ho
      have e0 : a'.eval (.tmp 10) = .bool true := is_tq (hin 7 10 (by kernel_rfl) (by kernel_rfl)) rfl
      exact wp_move (.tmp 10) rfl _ e0 ⟨_, rfl, tq_is _ _ _ _ rfl, Kept.refl _ _, fun _ _ _ _ _ => trivial⟩
    | 9, ho, hsk =>
      obtain rfl := Option.some.inj ho
      exact o_fld23_1 (.tmp 1) rfl b1 ((hout 1 (by kernel_rfl)).trans rfl) ⟨_, rfl, tq_is _ _ _ _ rfl, Kept.refl _ _, fun _ _ _ _ _ => trivial⟩
    | 10, ho, hsk =>
      obtain rfl := Option.some.inj ho
      have e0 : a'.eval (.tmp 12) = .pointer (some ⟨b1, 1, none⟩) := is_tq (hin 9 12 (by kernel_rfl) (by kernel_rfl)) rfl
      exact q_load3 (.tmp 12) rfl _ _ e0 (fits_cell ((unhide HB).kept hk2 (by simp)) 1 _ rfl) ⟨_, rfl, tq_is _ _ _ _ rfl, Kept.refl _ _, fun _ _ _ _ _ => trivial⟩
    | 11, ho, hsk =>
      obtain rfl := Option.some.inj ho
      have e0 : a'.eval (.tmp 13) = .int .i64 J.p := is_tq (hin 10 13 (by kernel_rfl) (by kernel_rfl)) rfl
      exact o_geqc3 (.tmp 13) 1 rfl _ _ c2 e0 ⟨_, rfl, tq_is _ _ _ _ rfl, Kept.refl _ _, fun _ _ _ _ _ => trivial⟩
    | 12, ho, hsk =>
      obtain rfl := Option.some.inj ho
      have e0 : a'.eval (.tmp 11) = .bool true := is_tq (hin 8 11 (by kernel_rfl) (by kernel_rfl)) rfl
      have e1 : a'.eval (.tmp 14) = .bool false := is_tq (hin 11 14 (by kernel_rfl) (by kernel_rfl)) rfl
      exact o_pick (.tmp 11) (.tmp 14) rfl _ e0 e1 ⟨_, rfl, tq_is _ _ _ _ rfl, Kept.refl _ _, fun _ _ _ _ _ => trivial⟩
    | 13, ho, hsk =>
      obtain rfl := Option.some.inj ho
      have e0 : a'.eval (.tmp 15) = .bool false := is_tq (hin 12 15 (by kernel_rfl) (by kernel_rfl)) rfl
      exact wp_move (.tmp 15) rfl _ e0 ⟨_, rfl, tq_is _ _ _ _ rfl, Kept.refl _ _, fun _ _ _ _ _ => trivial⟩
    | 14, ho, hsk =>
      cases hsk
    | 15, ho, hsk =>
      cases hsk
    | 16, ho, hsk =>
      cases hsk
    | 17, ho, hsk =>
      obtain rfl := Option.some.inj ho
      have e0 : a'.eval (.tmp 16) = .bool false := is_tq (hin 13 16 (by kernel_rfl) (by kernel_rfl)) rfl
      exact o_pickN (.tmp 16) (.tmp 19) rfl e0 ⟨_, rfl, tq_is _ _ _ _ rfl, Kept.refl _ _, fun _ _ _ _ _ => trivial⟩
    | 18, ho, hsk =>
      obtain rfl := Option.some.inj ho
      have e0 : a'.eval (.tmp 20) = .bool false := is_tq (hin 17 20 (by kernel_rfl) (by kernel_rfl)) rfl
      exact wp_move (.tmp 20) rfl _ e0 ⟨_, rfl, tq_is _ _ _ _ rfl, Kept.refl _ _, fun _ _ _ _ _ => trivial⟩
    | 19, ho, hsk =>
      cases hsk
    | 20, ho, hsk =>
      cases hsk
    | 21, ho, hsk =>
      cases hsk
    | 22, ho, hsk =>
      obtain rfl := Option.some.inj ho
      have e0 : a'.eval (.tmp 21) = .bool false := is_tq (hin 18 21 (by kernel_rfl) (by kernel_rfl)) rfl
      exact o_pickN (.tmp 21) (.tmp 24) rfl e0 ⟨_, rfl, tq_is _ _ _ _ rfl, Kept.refl _ _, fun _ _ _ _ _ => trivial⟩
    | 23, ho, hsk =>
      obtain rfl := Option.some.inj ho
      have e0 : a'.eval (.tmp 25) = .bool false := is_tq (hin 22 25 (by kernel_rfl) (by kernel_rfl)) rfl
      exact wp_move (.tmp 25) rfl _ e0 ⟨_, rfl, tq_is _ _ _ _ rfl, Kept.refl _ _, fun _ _ _ _ _ => trivial⟩
    | 24, ho, hsk =>
      cases hsk
    | 25, ho, hsk =>
      cases hsk
    | 26, ho, hsk =>
      cases hsk
    | 27, ho, hsk =>
      obtain rfl := Option.some.inj ho
      have e0 : a'.eval (.tmp 26) = .bool false := is_tq (hin 23 26 (by kernel_rfl) (by kernel_rfl)) rfl
      exact o_pickN (.tmp 26) (.tmp 29) rfl e0 ⟨_, rfl, tq_is _ _ _ _ rfl, Kept.refl _ _, fun _ _ _ _ _ => trivial⟩
    | 28, ho, hsk =>
      obtain rfl := Option.some.inj ho
      have e0 : a'.eval (.tmp 30) = .bool false := is_tq (hin 27 30 (by kernel_rfl) (by kernel_rfl)) rfl
      exact wp_move (.tmp 30) rfl _ e0 ⟨_, rfl, tq_is _ _ _ _ rfl, Kept.refl _ _, fun _ _ _ _ _ => trivial⟩
    | 29, ho, hsk =>
      cases hsk
    | 30, ho, hsk =>
      cases hsk
    | 31, ho, hsk =>
      cases hsk
    | 32, ho, hsk =>
      obtain rfl := Option.some.inj ho
      have e0 : a'.eval (.tmp 31) = .bool false := is_tq (hin 28 31 (by kernel_rfl) (by kernel_rfl)) rfl
      exact o_pickN (.tmp 31) (.tmp 34) rfl e0 ⟨_, rfl, tq_is _ _ _ _ rfl, Kept.refl _ _, fun _ _ _ _ _ => trivial⟩
    | 33, ho, hsk =>
      obtain rfl := Option.some.inj ho
      have e0 : a'.eval (.tmp 35) = .bool false := is_tq (hin 32 35 (by kernel_rfl) (by kernel_rfl)) rfl
      exact wp_move (.tmp 35) rfl _ e0 ⟨_, rfl, tq_is _ _ _ _ rfl, Kept.refl _ _, fun _ _ _ _ _ => trivial⟩
    | 34, ho, hsk =>
      cases hsk
    | 35, ho, hsk =>
      cases hsk
    | 36, ho, hsk =>
      cases hsk
    | 37, ho, hsk =>
      obtain rfl := Option.some.inj ho
      have e0 : a'.eval (.tmp 36) = .bool false := is_tq (hin 33 36 (by kernel_rfl) (by kernel_rfl)) rfl
      exact o_pickN (.tmp 36) (.tmp 39) rfl e0 ⟨_, rfl, tq_is _ _ _ _ rfl, Kept.refl _ _, fun _ _ _ _ _ => trivial⟩
    | 38, ho, hsk =>
      obtain rfl := Option.some.inj ho
      have e0 : a'.eval (.tmp 40) = .bool false := is_tq (hin 37 40 (by kernel_rfl) (by kernel_rfl)) rfl
      exact wp_move (.tmp 40) rfl _ e0 ⟨_, rfl, tq_is _ _ _ _ rfl, Kept.refl _ _, fun _ _ _ _ _ => trivial⟩
    | 39, ho, hsk =>
      cases hsk
    | 40, ho, hsk =>
      cases hsk
    | 41, ho, hsk =>
      cases hsk
    | 42, ho, hsk =>
      obtain rfl := Option.some.inj ho
      have e0 : a'.eval (.tmp 41) = .bool false := is_tq (hin 38 41 (by kernel_rfl) (by kernel_rfl)) rfl
      exact o_pickN (.tmp 41) (.tmp 44) rfl e0 ⟨_, rfl, tq_is _ _ _ _ rfl, Kept.refl _ _, fun _ _ _ _ _ => trivial⟩
    | 43, ho, hsk =>
      obtain rfl := Option.some.inj ho
      have e0 : a'.eval (.tmp 45) = .bool false := is_tq (hin 42 45 (by kernel_rfl) (by kernel_rfl)) rfl
      exact wp_move (.tmp 45) rfl _ e0 ⟨_, rfl, tq_is _ _ _ _ rfl, Kept.refl _ _, fun _ _ _ _ _ => trivial⟩
    | 44, ho, hsk =>
      cases hsk
    | 45, ho, hsk =>
      cases hsk
    | 46, ho, hsk =>
      cases hsk
    | 47, ho, hsk =>
      obtain rfl := Option.some.inj ho
      have e0 : a'.eval (.tmp 46) = .bool false := is_tq (hin 43 46 (by kernel_rfl) (by kernel_rfl)) rfl
      exact o_pickN (.tmp 46) (.tmp 49) rfl e0 ⟨_, rfl, tq_is _ _ _ _ rfl, Kept.refl _ _, fun _ _ _ _ _ => trivial⟩
    | 48, ho, hsk =>
      obtain rfl := Option.some.inj ho
      have e0 : a'.eval (.tmp 50) = .bool false := is_tq (hin 47 50 (by kernel_rfl) (by kernel_rfl)) rfl
      exact wp_assignV (.tmp 50) rfl _ e0 ⟨_, rfl, tq_is _ _ _ _ rfl, Kept.refl _ _, fun _ _ _ _ _ => trivial⟩
  intro w9 hk9
  replace hk9 : Kept [] V1 w9 := ⟨hk9.os, hk9.tape, hk9.output, hk9.size, hk9.block⟩
  simp only [valsQ, List.map_cons, List.map_nil, Option.getD_some, Option.getD_none, List.take_succ_cons, List.take_zero, putAll, Act.put, List.setIfInBounds_toArray, List.set_cons_succ, List.set_cons_zero]
  go_wp2_with fail
  go_ret
  exact ⟨rfl, (unhide HK).trans hk9⟩
set_option maxHeartbeats 4000000 in
theorem rmay_3 (J : Ar.Job) (w : World) (c0 : decide ((2 : Int) ≤ J.n) = true) (c1 : decide (J.n ≤ 8) = true) (c2 : decide ((1 : Int) ≤ J.p) = true) (c3 : decide (J.p ≤ 16) = false) : Calls Tryd.prog 8 #[aggV (Ar.jobC J)] w fun e w' => e = .returned (.bool false) ∧ Kept [] w w' := by
  go_enter Tryd.func8, Tryd.ntmps8
  go_wp2_with (
    first
    | (refine wpBoxV (by rfl) (.tmp 0) (by rfl) (Ar.jobC J) (by kernel_rfl) ?_
       intro V1 b1 e1 B1 K1
       have HB := hide B1
       have HK := hide K1
       clear e1 B1 K1
       refine Stp.go ?_))
  constructor
  go_upto_region 1 with fail
  refine wp_text_tq 49 rfl (by kernel_rfl) [some (.pointer (some ⟨b1, 0, none⟩)), some (.int .i64 J.n), some (.bool true), some (.bool true), some (.pointer (some ⟨b1, 0, none⟩)), some (.int .i64 J.n), some (.bool true), some (.bool true), some (.bool true), some (.pointer (some ⟨b1, 1, none⟩)), some (.int .i64 J.p), some (.bool true), some (.bool true), some (.bool true), some (.pointer (some ⟨b1, 1, none⟩)), some (.int .i64 J.p), some (.bool false), some (.bool false), some (.bool false), none, none, none, some (.bool false), some (.bool false), none, none, none, some (.bool false), some (.bool false), none, none, none, some (.bool false), some (.bool false), none, none, none, some (.bool false), some (.bool false), none, none, none, some (.bool false), some (.bool false), none, none, none, some (.bool false), some (.bool false)] rfl (by kernel_rfl) (by kernel_rfl) ?_ ?_
  · intro i o' hi hsk ho a' w2 hout hin hk2
    replace hk2 : Kept [] V1 w2 := ⟨hk2.os, hk2.tape, hk2.output, hk2.size, hk2.block⟩
    match i, ho, hsk with
    | 0, ho, hsk =>
      obtain rfl := Option.some.inj ho
      exact o_fld23_0 (.tmp 1) rfl b1 ((hout 1 (by kernel_rfl)).trans rfl) ⟨_, rfl, tq_is _ _ _ _ rfl, Kept.refl _ _, fun _ _ _ _ _ => trivial⟩
    | 1, ho, hsk =>
      obtain rfl := Option.some.inj ho
      have e0 : a'.eval (.tmp 3) = .pointer (some ⟨b1, 0, none⟩) := is_tq (hin 0 3 (by kernel_rfl) (by kernel_rfl)) rfl
      exact q_load3 (.tmp 3) rfl _ _ e0 (fits_cell ((unhide HB).kept hk2 (by simp)) 0 _ rfl) ⟨_, rfl, tq_is _ _ _ _ rfl, Kept.refl _ _, fun _ _ _ _ _ => trivial⟩
    | 2, ho, hsk =>
      obtain rfl := Option.some.inj ho
      have e0 : a'.eval (.tmp 4) = .int .i64 J.n := is_tq (hin 1 4 (by kernel_rfl) (by kernel_rfl)) rfl
      exact o_geqc3 (.tmp 4) 2 rfl _ _ c0 e0 ⟨_, rfl, tq_is _ _ _ _ rfl, Kept.refl _ _, fun _ _ _ _ _ => trivial⟩
    | 3, ho, hsk =>
      obtain rfl := Option.some.inj ho
      have e0 : a'.eval (.tmp 5) = .bool true := is_tq (hin 2 5 (by kernel_rfl) (by kernel_rfl)) rfl
      exact wp_move (.tmp 5) rfl _ e0 ⟨_, rfl, tq_is _ _ _ _ rfl, Kept.refl _ _, fun _ _ _ _ _ => trivial⟩
    | 4, ho, hsk =>
      obtain rfl := Option.some.inj ho
      exact o_fld23_0 (.tmp 1) rfl b1 ((hout 1 (by kernel_rfl)).trans rfl) ⟨_, rfl, tq_is _ _ _ _ rfl, Kept.refl _ _, fun _ _ _ _ _ => trivial⟩
    | 5, ho, hsk =>
      obtain rfl := Option.some.inj ho
      have e0 : a'.eval (.tmp 7) = .pointer (some ⟨b1, 0, none⟩) := is_tq (hin 4 7 (by kernel_rfl) (by kernel_rfl)) rfl
      exact q_load3 (.tmp 7) rfl _ _ e0 (fits_cell ((unhide HB).kept hk2 (by simp)) 0 _ rfl) ⟨_, rfl, tq_is _ _ _ _ rfl, Kept.refl _ _, fun _ _ _ _ _ => trivial⟩
    | 6, ho, hsk =>
      obtain rfl := Option.some.inj ho
      have e0 : a'.eval (.tmp 8) = .int .i64 J.n := is_tq (hin 5 8 (by kernel_rfl) (by kernel_rfl)) rfl
      exact o_leqc3 (.tmp 8) 8 rfl _ _ c1 e0 ⟨_, rfl, tq_is _ _ _ _ rfl, Kept.refl _ _, fun _ _ _ _ _ => trivial⟩
    | 7, ho, hsk =>
      obtain rfl := Option.some.inj ho
      have e0 : a'.eval (.tmp 6) = .bool true := is_tq (hin 3 6 (by kernel_rfl) (by kernel_rfl)) rfl
      have e1 : a'.eval (.tmp 9) = .bool true := is_tq (hin 6 9 (by kernel_rfl) (by kernel_rfl)) rfl
      exact o_pick (.tmp 6) (.tmp 9) rfl _ e0 e1 ⟨_, rfl, tq_is _ _ _ _ rfl, Kept.refl _ _, fun _ _ _ _ _ => trivial⟩
    | 8, ho, hsk =>
      obtain rfl := Option.some.inj ho
      have e0 : a'.eval (.tmp 10) = .bool true := is_tq (hin 7 10 (by kernel_rfl) (by kernel_rfl)) rfl
      exact wp_move (.tmp 10) rfl _ e0 ⟨_, rfl, tq_is _ _ _ _ rfl, Kept.refl _ _, fun _ _ _ _ _ => trivial⟩
    | 9, ho, hsk =>
      obtain rfl := Option.some.inj ho
      exact o_fld23_1 (.tmp 1) rfl b1 ((hout 1 (by kernel_rfl)).trans rfl) ⟨_, rfl, tq_is _ _ _ _ rfl, Kept.refl _ _, fun _ _ _ _ _ => trivial⟩
    | 10, ho, hsk =>
      obtain rfl := Option.some.inj ho
      have e0 : a'.eval (.tmp 12) = .pointer (some ⟨b1, 1, none⟩) := is_tq (hin 9 12 (by kernel_rfl) (by kernel_rfl)) rfl
      exact q_load3 (.tmp 12) rfl _ _ e0 (fits_cell ((unhide HB).kept hk2 (by simp)) 1 _ rfl) ⟨_, rfl, tq_is _ _ _ _ rfl, Kept.refl _ _, fun _ _ _ _ _ => trivial⟩
    | 11, ho, hsk =>
      obtain rfl := Option.some.inj ho
      have e0 : a'.eval (.tmp 13) = .int .i64 J.p := is_tq (hin 10 13 (by kernel_rfl) (by kernel_rfl)) rfl
      exact o_geqc3 (.tmp 13) 1 rfl _ _ c2 e0 ⟨_, rfl, tq_is _ _ _ _ rfl, Kept.refl _ _, fun _ _ _ _ _ => trivial⟩
    | 12, ho, hsk =>
      obtain rfl := Option.some.inj ho
      have e0 : a'.eval (.tmp 11) = .bool true := is_tq (hin 8 11 (by kernel_rfl) (by kernel_rfl)) rfl
      have e1 : a'.eval (.tmp 14) = .bool true := is_tq (hin 11 14 (by kernel_rfl) (by kernel_rfl)) rfl
      exact o_pick (.tmp 11) (.tmp 14) rfl _ e0 e1 ⟨_, rfl, tq_is _ _ _ _ rfl, Kept.refl _ _, fun _ _ _ _ _ => trivial⟩
    | 13, ho, hsk =>
      obtain rfl := Option.some.inj ho
      have e0 : a'.eval (.tmp 15) = .bool true := is_tq (hin 12 15 (by kernel_rfl) (by kernel_rfl)) rfl
      exact wp_move (.tmp 15) rfl _ e0 ⟨_, rfl, tq_is _ _ _ _ rfl, Kept.refl _ _, fun _ _ _ _ _ => trivial⟩
    | 14, ho, hsk =>
      obtain rfl := Option.some.inj ho
      exact o_fld23_1 (.tmp 1) rfl b1 ((hout 1 (by kernel_rfl)).trans rfl) ⟨_, rfl, tq_is _ _ _ _ rfl, Kept.refl _ _, fun _ _ _ _ _ => trivial⟩
    | 15, ho, hsk =>
      obtain rfl := Option.some.inj ho
      have e0 : a'.eval (.tmp 17) = .pointer (some ⟨b1, 1, none⟩) := is_tq (hin 14 17 (by kernel_rfl) (by kernel_rfl)) rfl
      exact q_load3 (.tmp 17) rfl _ _ e0 (fits_cell ((unhide HB).kept hk2 (by simp)) 1 _ rfl) ⟨_, rfl, tq_is _ _ _ _ rfl, Kept.refl _ _, fun _ _ _ _ _ => trivial⟩
    | 16, ho, hsk =>
      obtain rfl := Option.some.inj ho
      have e0 : a'.eval (.tmp 18) = .int .i64 J.p := is_tq (hin 15 18 (by kernel_rfl) (by kernel_rfl)) rfl
      exact o_leqc3 (.tmp 18) 16 rfl _ _ c3 e0 ⟨_, rfl, tq_is _ _ _ _ rfl, Kept.refl _ _, fun _ _ _ _ _ => trivial⟩
    | 17, ho, hsk =>
      obtain rfl := Option.some.inj ho
      have e0 : a'.eval (.tmp 16) = .bool true := is_tq (hin 13 16 (by kernel_rfl) (by kernel_rfl)) rfl
      have e1 : a'.eval (.tmp 19) = .bool false := is_tq (hin 16 19 (by kernel_rfl) (by kernel_rfl)) rfl
      exact o_pick (.tmp 16) (.tmp 19) rfl _ e0 e1 ⟨_, rfl, tq_is _ _ _ _ rfl, Kept.refl _ _, fun _ _ _ _ _ => trivial⟩
    | 18, ho, hsk =>
      obtain rfl := Option.some.inj ho
      have e0 : a'.eval (.tmp 20) = .bool false := is_tq (hin 17 20 (by kernel_rfl) (by kernel_rfl)) rfl
      exact wp_move (.tmp 20) rfl _ e0 ⟨_, rfl, tq_is _ _ _ _ rfl, Kept.refl _ _, fun _ _ _ _ _ => trivial⟩
    | 19, ho, hsk =>
      cases hsk
    | 20, ho, hsk =>
      cases hsk
    | 21, ho, hsk =>
      cases hsk
    | 22, ho, hsk =>
      obtain rfl := Option.some.inj ho
      have e0 : a'.eval (.tmp 21) = .bool false := is_tq (hin 18 21 (by kernel_rfl) (by kernel_rfl)) rfl
      exact o_pickN (.tmp 21) (.tmp 24) rfl e0 ⟨_, rfl, tq_is _ _ _ _ rfl, Kept.refl _ _, fun _ _ _ _ _ => trivial⟩
    | 23, ho, hsk =>
      obtain rfl := Option.some.inj ho
      have e0 : a'.eval (.tmp 25) = .bool false := is_tq (hin 22 25 (by kernel_rfl) (by kernel_rfl)) rfl
      exact wp_move (.tmp 25) rfl _ e0 ⟨_, rfl, tq_is _ _ _ _ rfl, Kept.refl _ _, fun _ _ _ _ _ => trivial⟩
    | 24, ho, hsk =>
      cases hsk
    | 25, ho, hsk =>
      cases hsk
    | 26, ho, hsk =>
      cases hsk
    | 27, ho, hsk =>
      obtain rfl := Option.some.inj ho
      have e0 : a'.eval (.tmp 26) = .bool false := is_tq (hin 23 26 (by kernel_rfl) (by kernel_rfl)) rfl
      exact o_pickN (.tmp 26) (.tmp 29) rfl e0 ⟨_, rfl, tq_is _ _ _ _ rfl, Kept.refl _ _, fun _ _ _ _ _ => trivial⟩
    | 28, ho, hsk =>
      obtain rfl := Option.some.inj ho
      have e0 : a'.eval (.tmp 30) = .bool false := is_tq (hin 27 30 (by kernel_rfl) (by kernel_rfl)) rfl
      exact wp_move (.tmp 30) rfl _ e0 ⟨_, rfl, tq_is _ _ _ _ rfl, Kept.refl _ _, fun _ _ _ _ _ => trivial⟩
    | 29, ho, hsk =>
      cases hsk
    | 30, ho, hsk =>
      cases hsk
    | 31, ho, hsk =>
      cases hsk
    | 32, ho, hsk =>
      obtain rfl := Option.some.inj ho
      have e0 : a'.eval (.tmp 31) = .bool false := is_tq (hin 28 31 (by kernel_rfl) (by kernel_rfl)) rfl
      exact o_pickN (.tmp 31) (.tmp 34) rfl e0 ⟨_, rfl, tq_is _ _ _ _ rfl, Kept.refl _ _, fun _ _ _ _ _ => trivial⟩
    | 33, ho, hsk =>
      obtain rfl := Option.some.inj ho
      have e0 : a'.eval (.tmp 35) = .bool false := is_tq (hin 32 35 (by kernel_rfl) (by kernel_rfl)) rfl
      exact wp_move (.tmp 35) rfl _ e0 ⟨_, rfl, tq_is _ _ _ _ rfl, Kept.refl _ _, fun _ _ _ _ _ => trivial⟩
    | 34, ho, hsk =>
      cases hsk
    | 35, ho, hsk =>
      cases hsk
    | 36, ho, hsk =>
      cases hsk
    | 37, ho, hsk =>
      obtain rfl := Option.some.inj ho
      have e0 : a'.eval (.tmp 36) = .bool false := is_tq (hin 33 36 (by kernel_rfl) (by kernel_rfl)) rfl
      exact o_pickN (.tmp 36) (.tmp 39) rfl e0 ⟨_, rfl, tq_is _ _ _ _ rfl, Kept.refl _ _, fun _ _ _ _ _ => trivial⟩
    | 38, ho, hsk =>
      obtain rfl := Option.some.inj ho
      have e0 : a'.eval (.tmp 40) = .bool false := is_tq (hin 37 40 (by kernel_rfl) (by kernel_rfl)) rfl
      exact wp_move (.tmp 40) rfl _ e0 ⟨_, rfl, tq_is _ _ _ _ rfl, Kept.refl _ _, fun _ _ _ _ _ => trivial⟩
    | 39, ho, hsk =>
      cases hsk
    | 40, ho, hsk =>
      cases hsk
    | 41, ho, hsk =>
      cases hsk
    | 42, ho, hsk =>
      obtain rfl := Option.some.inj ho
      have e0 : a'.eval (.tmp 41) = .bool false := is_tq (hin 38 41 (by kernel_rfl) (by kernel_rfl)) rfl
      exact o_pickN (.tmp 41) (.tmp 44) rfl e0 ⟨_, rfl, tq_is _ _ _ _ rfl, Kept.refl _ _, fun _ _ _ _ _ => trivial⟩
    | 43, ho, hsk =>
      obtain rfl := Option.some.inj ho
      have e0 : a'.eval (.tmp 45) = .bool false := is_tq (hin 42 45 (by kernel_rfl) (by kernel_rfl)) rfl
      exact wp_move (.tmp 45) rfl _ e0 ⟨_, rfl, tq_is _ _ _ _ rfl, Kept.refl _ _, fun _ _ _ _ _ => trivial⟩
    | 44, ho, hsk =>
      cases hsk
    | 45, ho, hsk =>
      cases hsk
    | 46, ho, hsk =>
      cases hsk
    | 47, ho, hsk =>
      obtain rfl := Option.some.inj ho
      have e0 : a'.eval (.tmp 46) = .bool false := is_tq (hin 43 46 (by kernel_rfl) (by kernel_rfl)) rfl
      exact o_pickN (.tmp 46) (.tmp 49) rfl e0 ⟨_, rfl, tq_is _ _ _ _ rfl, Kept.refl _ _, fun _ _ _ _ _ => trivial⟩
    | 48, ho, hsk =>
      obtain rfl := Option.some.inj ho
      have e0 : a'.eval (.tmp 50) = .bool false := is_tq (hin 47 50 (by kernel_rfl) (by kernel_rfl)) rfl
      exact wp_assignV (.tmp 50) rfl _ e0 ⟨_, rfl, tq_is _ _ _ _ rfl, Kept.refl _ _, fun _ _ _ _ _ => trivial⟩
  intro w9 hk9
  replace hk9 : Kept [] V1 w9 := ⟨hk9.os, hk9.tape, hk9.output, hk9.size, hk9.block⟩
  simp only [valsQ, List.map_cons, List.map_nil, Option.getD_some, Option.getD_none, List.take_succ_cons, List.take_zero, putAll, Act.put, List.setIfInBounds_toArray, List.set_cons_succ, List.set_cons_zero]
  go_wp2_with fail
  go_ret
  exact ⟨rfl, (unhide HK).trans hk9⟩
set_option maxHeartbeats 4000000 in
theorem rmay_4 (J : Ar.Job) (w : World) (c0 : decide ((2 : Int) ≤ J.n) = true) (c1 : decide (J.n ≤ 8) = true) (c2 : decide ((1 : Int) ≤ J.p) = true) (c3 : decide (J.p ≤ 16) = true) (c4 : decide ((1 : Int) ≤ J.f) = false) : Calls Tryd.prog 8 #[aggV (Ar.jobC J)] w fun e w' => e = .returned (.bool false) ∧ Kept [] w w' := by
  go_enter Tryd.func8, Tryd.ntmps8
  go_wp2_with (
    first
    | (refine wpBoxV (by rfl) (.tmp 0) (by rfl) (Ar.jobC J) (by kernel_rfl) ?_
       intro V1 b1 e1 B1 K1
       have HB := hide B1
       have HK := hide K1
       clear e1 B1 K1
       refine Stp.go ?_))
  constructor
  go_upto_region 1 with fail
  refine wp_text_tq 49 rfl (by kernel_rfl) [some (.pointer (some ⟨b1, 0, none⟩)), some (.int .i64 J.n), some (.bool true), some (.bool true), some (.pointer (some ⟨b1, 0, none⟩)), some (.int .i64 J.n), some (.bool true), some (.bool true), some (.bool true), some (.pointer (some ⟨b1, 1, none⟩)), some (.int .i64 J.p), some (.bool true), some (.bool true), some (.bool true), some (.pointer (some ⟨b1, 1, none⟩)), some (.int .i64 J.p), some (.bool true), some (.bool true), some (.bool true), some (.pointer (some ⟨b1, 2, none⟩)), some (.int .i64 J.f), some (.bool false), some (.bool false), some (.bool false), none, none, none, some (.bool false), some (.bool false), none, none, none, some (.bool false), some (.bool false), none, none, none, some (.bool false), some (.bool false), none, none, none, some (.bool false), some (.bool false), none, none, none, some (.bool false), some (.bool false)] rfl (by kernel_rfl) (by kernel_rfl) ?_ ?_
  · intro i o' hi hsk ho a' w2 hout hin hk2
    replace hk2 : Kept [] V1 w2 := ⟨hk2.os, hk2.tape, hk2.output, hk2.size, hk2.block⟩
    match i, ho, hsk with
    | 0, ho, hsk =>
      obtain rfl := Option.some.inj ho
      exact o_fld23_0 (.tmp 1) rfl b1 ((hout 1 (by kernel_rfl)).trans rfl) ⟨_, rfl, tq_is _ _ _ _ rfl, Kept.refl _ _, fun _ _ _ _ _ => trivial⟩
    | 1, ho, hsk =>
      obtain rfl := Option.some.inj ho
      have e0 : a'.eval (.tmp 3) = .pointer (some ⟨b1, 0, none⟩) := is_tq (hin 0 3 (by kernel_rfl) (by kernel_rfl)) rfl
      exact q_load3 (.tmp 3) rfl _ _ e0 (fits_cell ((unhide HB).kept hk2 (by simp)) 0 _ rfl) ⟨_, rfl, tq_is _ _ _ _ rfl, Kept.refl _ _, fun _ _ _ _ _ => trivial⟩
    | 2, ho, hsk =>
      obtain rfl := Option.some.inj ho
      have e0 : a'.eval (.tmp 4) = .int .i64 J.n := is_tq (hin 1 4 (by kernel_rfl) (by kernel_rfl)) rfl
      exact o_geqc3 (.tmp 4) 2 rfl _ _ c0 e0 ⟨_, rfl, tq_is _ _ _ _ rfl, Kept.refl _ _, fun _ _ _ _ _ => trivial⟩
    | 3, ho, hsk =>
      obtain rfl := Option.some.inj ho
      have e0 : a'.eval (.tmp 5) = .bool true := is_tq (hin 2 5 (by kernel_rfl) (by kernel_rfl)) rfl
      exact wp_move (.tmp 5) rfl _ e0 ⟨_, rfl, tq_is _ _ _ _ rfl, Kept.refl _ _, fun _ _ _ _ _ => trivial⟩
    | 4, ho, hsk =>
      obtain rfl := Option.some.inj ho
      exact o_fld23_0 (.tmp 1) rfl b1 ((hout 1 (by kernel_rfl)).trans rfl) ⟨_, rfl, tq_is _ _ _ _ rfl, Kept.refl _ _, fun _ _ _ _ _ => trivial⟩
    | 5, ho, hsk =>
      obtain rfl := Option.some.inj ho
      have e0 : a'.eval (.tmp 7) = .pointer (some ⟨b1, 0, none⟩) := is_tq (hin 4 7 (by kernel_rfl) (by kernel_rfl)) rfl
      exact q_load3 (.tmp 7) rfl _ _ e0 (fits_cell ((unhide HB).kept hk2 (by simp)) 0 _ rfl) ⟨_, rfl, tq_is _ _ _ _ rfl, Kept.refl _ _, fun _ _ _ _ _ => trivial⟩
    | 6, ho, hsk =>
      obtain rfl := Option.some.inj ho
      have e0 : a'.eval (.tmp 8) = .int .i64 J.n := is_tq (hin 5 8 (by kernel_rfl) (by kernel_rfl)) rfl
      exact o_leqc3 (.tmp 8) 8 rfl _ _ c1 e0 ⟨_, rfl, tq_is _ _ _ _ rfl, Kept.refl _ _, fun _ _ _ _ _ => trivial⟩
    | 7, ho, hsk =>
      obtain rfl := Option.some.inj ho
      have e0 : a'.eval (.tmp 6) = .bool true := is_tq (hin 3 6 (by kernel_rfl) (by kernel_rfl)) rfl
      have e1 : a'.eval (.tmp 9) = .bool true := is_tq (hin 6 9 (by kernel_rfl) (by kernel_rfl)) rfl
      exact o_pick (.tmp 6) (.tmp 9) rfl _ e0 e1 ⟨_, rfl, tq_is _ _ _ _ rfl, Kept.refl _ _, fun _ _ _ _ _ => trivial⟩
    | 8, ho, hsk =>
      obtain rfl := Option.some.inj ho
      have e0 : a'.eval (.tmp 10) = .bool true := is_tq (hin 7 10 (by kernel_rfl) (by kernel_rfl)) rfl
      exact wp_move (.tmp 10) rfl _ e0 ⟨_, rfl, tq_is _ _ _ _ rfl, Kept.refl _ _, fun _ _ _ _ _ => trivial⟩
    | 9, ho, hsk =>
      obtain rfl := Option.some.inj ho
      exact o_fld23_1 (.tmp 1) rfl b1 ((hout 1 (by kernel_rfl)).trans rfl) ⟨_, rfl, tq_is _ _ _ _ rfl, Kept.refl _ _, fun _ _ _ _ _ => trivial⟩
    | 10, ho, hsk =>
      obtain rfl := Option.some.inj ho
      have e0 : a'.eval (.tmp 12) = .pointer (some ⟨b1, 1, none⟩) := is_tq (hin 9 12 (by kernel_rfl) (by kernel_rfl)) rfl
      exact q_load3 (.tmp 12) rfl _ _ e0 (fits_cell ((unhide HB).kept hk2 (by simp)) 1 _ rfl) ⟨_, rfl, tq_is _ _ _ _ rfl, Kept.refl _ _, fun _ _ _ _ _ => trivial⟩
    | 11, ho, hsk =>
      obtain rfl := Option.some.inj ho
      have e0 : a'.eval (.tmp 13) = .int .i64 J.p := is_tq (hin 10 13 (by kernel_rfl) (by kernel_rfl)) rfl
      exact o_geqc3 (.tmp 13) 1 rfl _ _ c2 e0 ⟨_, rfl, tq_is _ _ _ _ rfl, Kept.refl _ _, fun _ _ _ _ _ => trivial⟩
    | 12, ho, hsk =>
      obtain rfl := Option.some.inj ho
      have e0 : a'.eval (.tmp 11) = .bool true := is_tq (hin 8 11 (by kernel_rfl) (by kernel_rfl)) rfl
      have e1 : a'.eval (.tmp 14) = .bool true := is_tq (hin 11 14 (by kernel_rfl) (by kernel_rfl)) rfl
      exact o_pick (.tmp 11) (.tmp 14) rfl _ e0 e1 ⟨_, rfl, tq_is _ _ _ _ rfl, Kept.refl _ _, fun _ _ _ _ _ => trivial⟩
    | 13, ho, hsk =>
      obtain rfl := Option.some.inj ho
      have e0 : a'.eval (.tmp 15) = .bool true := is_tq (hin 12 15 (by kernel_rfl) (by kernel_rfl)) rfl
      exact wp_move (.tmp 15) rfl _ e0 ⟨_, rfl, tq_is _ _ _ _ rfl, Kept.refl _ _, fun _ _ _ _ _ => trivial⟩
    | 14, ho, hsk =>
      obtain rfl := Option.some.inj ho
      exact o_fld23_1 (.tmp 1) rfl b1 ((hout 1 (by kernel_rfl)).trans rfl) ⟨_, rfl, tq_is _ _ _ _ rfl, Kept.refl _ _, fun _ _ _ _ _ => trivial⟩
    | 15, ho, hsk =>
      obtain rfl := Option.some.inj ho
      have e0 : a'.eval (.tmp 17) = .pointer (some ⟨b1, 1, none⟩) := is_tq (hin 14 17 (by kernel_rfl) (by kernel_rfl)) rfl
      exact q_load3 (.tmp 17) rfl _ _ e0 (fits_cell ((unhide HB).kept hk2 (by simp)) 1 _ rfl) ⟨_, rfl, tq_is _ _ _ _ rfl, Kept.refl _ _, fun _ _ _ _ _ => trivial⟩
    | 16, ho, hsk =>
      obtain rfl := Option.some.inj ho
      have e0 : a'.eval (.tmp 18) = .int .i64 J.p := is_tq (hin 15 18 (by kernel_rfl) (by kernel_rfl)) rfl
      exact o_leqc3 (.tmp 18) 16 rfl _ _ c3 e0 ⟨_, rfl, tq_is _ _ _ _ rfl, Kept.refl _ _, fun _ _ _ _ _ => trivial⟩
    | 17, ho, hsk =>
      obtain rfl := Option.some.inj ho
      have e0 : a'.eval (.tmp 16) = .bool true := is_tq (hin 13 16 (by kernel_rfl) (by kernel_rfl)) rfl
      have e1 : a'.eval (.tmp 19) = .bool true := is_tq (hin 16 19 (by kernel_rfl) (by kernel_rfl)) rfl
      exact o_pick (.tmp 16) (.tmp 19) rfl _ e0 e1 ⟨_, rfl, tq_is _ _ _ _ rfl, Kept.refl _ _, fun _ _ _ _ _ => trivial⟩
    | 18, ho, hsk =>
      obtain rfl := Option.some.inj ho
      have e0 : a'.eval (.tmp 20) = .bool true := is_tq (hin 17 20 (by kernel_rfl) (by kernel_rfl)) rfl
      exact wp_move (.tmp 20) rfl _ e0 ⟨_, rfl, tq_is _ _ _ _ rfl, Kept.refl _ _, fun _ _ _ _ _ => trivial⟩
    | 19, ho, hsk =>
      obtain rfl := Option.some.inj ho
      exact o_fld23_2 (.tmp 1) rfl b1 ((hout 1 (by kernel_rfl)).trans rfl) ⟨_, rfl, tq_is _ _ _ _ rfl, Kept.refl _ _, fun _ _ _ _ _ => trivial⟩
    | 20, ho, hsk =>
      obtain rfl := Option.some.inj ho
      have e0 : a'.eval (.tmp 22) = .pointer (some ⟨b1, 2, none⟩) := is_tq (hin 19 22 (by kernel_rfl) (by kernel_rfl)) rfl
      exact q_load3 (.tmp 22) rfl _ _ e0 (fits_cell ((unhide HB).kept hk2 (by simp)) 2 _ rfl) ⟨_, rfl, tq_is _ _ _ _ rfl, Kept.refl _ _, fun _ _ _ _ _ => trivial⟩
    | 21, ho, hsk =>
      obtain rfl := Option.some.inj ho
      have e0 : a'.eval (.tmp 23) = .int .i64 J.f := is_tq (hin 20 23 (by kernel_rfl) (by kernel_rfl)) rfl
      exact o_geqc3 (.tmp 23) 1 rfl _ _ c4 e0 ⟨_, rfl, tq_is _ _ _ _ rfl, Kept.refl _ _, fun _ _ _ _ _ => trivial⟩
    | 22, ho, hsk =>
      obtain rfl := Option.some.inj ho
      have e0 : a'.eval (.tmp 21) = .bool true := is_tq (hin 18 21 (by kernel_rfl) (by kernel_rfl)) rfl
      have e1 : a'.eval (.tmp 24) = .bool false := is_tq (hin 21 24 (by kernel_rfl) (by kernel_rfl)) rfl
      exact o_pick (.tmp 21) (.tmp 24) rfl _ e0 e1 ⟨_, rfl, tq_is _ _ _ _ rfl, Kept.refl _ _, fun _ _ _ _ _ => trivial⟩
    | 23, ho, hsk =>
      obtain rfl := Option.some.inj ho
      have e0 : a'.eval (.tmp 25) = .bool false := is_tq (hin 22 25 (by kernel_rfl) (by kernel_rfl)) rfl
      exact wp_move (.tmp 25) rfl _ e0 ⟨_, rfl, tq_is _ _ _ _ rfl, Kept.refl _ _, fun _ _ _ _ _ => trivial⟩
    | 24, ho, hsk =>
      cases hsk
    | 25, ho, hsk =>
      cases hsk
    | 26, ho, hsk =>
      cases hsk
    | 27, ho, hsk =>
      obtain rfl := Option.some.inj ho
      have e0 : a'.eval (.tmp 26) = .bool false := is_tq (hin 23 26 (by kernel_rfl) (by kernel_rfl)) rfl
      exact o_pickN (.tmp 26) (.tmp 29) rfl e0 ⟨_, rfl, tq_is _ _ _ _ rfl, Kept.refl _ _, fun _ _ _ _ _ => trivial⟩
    | 28, ho, hsk =>
      obtain rfl := Option.some.inj ho
      have e0 : a'.eval (.tmp 30) = .bool false := is_tq (hin 27 30 (by kernel_rfl) (by kernel_rfl)) rfl
      exact wp_move (.tmp 30) rfl _ e0 ⟨_, rfl, tq_is _ _ _ _ rfl, Kept.refl _ _, fun _ _ _ _ _ => trivial⟩
    | 29, ho, hsk =>
      cases hsk
    | 30, ho, hsk =>
      cases hsk
    | 31, ho, hsk =>
      cases hsk
    | 32, ho, hsk =>
      obtain rfl := Option.some.inj ho
      have e0 : a'.eval (.tmp 31) = .bool false := is_tq (hin 28 31 (by kernel_rfl) (by kernel_rfl)) rfl
      exact o_pickN (.tmp 31) (.tmp 34) rfl e0 ⟨_, rfl, tq_is _ _ _ _ rfl, Kept.refl _ _, fun _ _ _ _ _ => trivial⟩
    | 33, ho, hsk =>
      obtain rfl := Option.some.inj ho
      have e0 : a'.eval (.tmp 35) = .bool false := is_tq (hin 32 35 (by kernel_rfl) (by kernel_rfl)) rfl
      exact wp_move (.tmp 35) rfl _ e0 ⟨_, rfl, tq_is _ _ _ _ rfl, Kept.refl _ _, fun _ _ _ _ _ => trivial⟩
    | 34, ho, hsk =>
      cases hsk
    | 35, ho, hsk =>
      cases hsk
    | 36, ho, hsk =>
      cases hsk
    | 37, ho, hsk =>
      obtain rfl := Option.some.inj ho
      have e0 : a'.eval (.tmp 36) = .bool false := is_tq (hin 33 36 (by kernel_rfl) (by kernel_rfl)) rfl
      exact o_pickN (.tmp 36) (.tmp 39) rfl e0 ⟨_, rfl, tq_is _ _ _ _ rfl, Kept.refl _ _, fun _ _ _ _ _ => trivial⟩
    | 38, ho, hsk =>
      obtain rfl := Option.some.inj ho
      have e0 : a'.eval (.tmp 40) = .bool false := is_tq (hin 37 40 (by kernel_rfl) (by kernel_rfl)) rfl
      exact wp_move (.tmp 40) rfl _ e0 ⟨_, rfl, tq_is _ _ _ _ rfl, Kept.refl _ _, fun _ _ _ _ _ => trivial⟩
    | 39, ho, hsk =>
      cases hsk
    | 40, ho, hsk =>
      cases hsk
    | 41, ho, hsk =>
      cases hsk
    | 42, ho, hsk =>
      obtain rfl := Option.some.inj ho
      have e0 : a'.eval (.tmp 41) = .bool false := is_tq (hin 38 41 (by kernel_rfl) (by kernel_rfl)) rfl
      exact o_pickN (.tmp 41) (.tmp 44) rfl e0 ⟨_, rfl, tq_is _ _ _ _ rfl, Kept.refl _ _, fun _ _ _ _ _ => trivial⟩
    | 43, ho, hsk =>
      obtain rfl := Option.some.inj ho
      have e0 : a'.eval (.tmp 45) = .bool false := is_tq (hin 42 45 (by kernel_rfl) (by kernel_rfl)) rfl
      exact wp_move (.tmp 45) rfl _ e0 ⟨_, rfl, tq_is _ _ _ _ rfl, Kept.refl _ _, fun _ _ _ _ _ => trivial⟩
    | 44, ho, hsk =>
      cases hsk
    | 45, ho, hsk =>
      cases hsk
    | 46, ho, hsk =>
      cases hsk
    | 47, ho, hsk =>
      obtain rfl := Option.some.inj ho
      have e0 : a'.eval (.tmp 46) = .bool false := is_tq (hin 43 46 (by kernel_rfl) (by kernel_rfl)) rfl
      exact o_pickN (.tmp 46) (.tmp 49) rfl e0 ⟨_, rfl, tq_is _ _ _ _ rfl, Kept.refl _ _, fun _ _ _ _ _ => trivial⟩
    | 48, ho, hsk =>
      obtain rfl := Option.some.inj ho
      have e0 : a'.eval (.tmp 50) = .bool false := is_tq (hin 47 50 (by kernel_rfl) (by kernel_rfl)) rfl
      exact wp_assignV (.tmp 50) rfl _ e0 ⟨_, rfl, tq_is _ _ _ _ rfl, Kept.refl _ _, fun _ _ _ _ _ => trivial⟩
  intro w9 hk9
  replace hk9 : Kept [] V1 w9 := ⟨hk9.os, hk9.tape, hk9.output, hk9.size, hk9.block⟩
  simp only [valsQ, List.map_cons, List.map_nil, Option.getD_some, Option.getD_none, List.take_succ_cons, List.take_zero, putAll, Act.put, List.setIfInBounds_toArray, List.set_cons_succ, List.set_cons_zero]
  go_wp2_with fail
  go_ret
  exact ⟨rfl, (unhide HK).trans hk9⟩
set_option maxHeartbeats 4000000 in
theorem rmay_5 (J : Ar.Job) (w : World) (c0 : decide ((2 : Int) ≤ J.n) = true) (c1 : decide (J.n ≤ 8) = true) (c2 : decide ((1 : Int) ≤ J.p) = true) (c3 : decide (J.p ≤ 16) = true) (c4 : decide ((1 : Int) ≤ J.f) = true) (c5 : decide (J.f ≤ 16) = false) : Calls Tryd.prog 8 #[aggV (Ar.jobC J)] w fun e w' => e = .returned (.bool false) ∧ Kept [] w w' := by
  go_enter Tryd.func8, Tryd.ntmps8
  go_wp2_with (
    first
    | (refine wpBoxV (by rfl) (.tmp 0) (by rfl) (Ar.jobC J) (by kernel_rfl) ?_
       intro V1 b1 e1 B1 K1
       have HB := hide B1
       have HK := hide K1
       clear e1 B1 K1
       refine Stp.go ?_))
  constructor
  go_upto_region 1 with fail
  refine wp_text_tq 49 rfl (by kernel_rfl) [some (.pointer (some ⟨b1, 0, none⟩)), some (.int .i64 J.n), some (.bool true), some (.bool true), some (.pointer (some ⟨b1, 0, none⟩)), some (.int .i64 J.n), some (.bool true), some (.bool true), some (.bool true), some (.pointer (some ⟨b1, 1, none⟩)), some (.int .i64 J.p), some (.bool true), some (.bool true), some (.bool true), some (.pointer (some ⟨b1, 1, none⟩)), some (.int .i64 J.p), some (.bool true), some (.bool true), some (.bool true), some (.pointer (some ⟨b1, 2, none⟩)), some (.int .i64 J.f), some (.bool true), some (.bool true), some (.bool true), some (.pointer (some ⟨b1, 2, none⟩)), some (.int .i64 J.f), some (.bool false), some (.bool false), some (.bool false), none, none, none, some (.bool false), some (.bool false), none, none, none, some (.bool false), some (.bool false), none, none, none, some (.bool false), some (.bool false), none, none, none, some (.bool false), some (.bool false)] rfl (by kernel_rfl) (by kernel_rfl) ?_ ?_
  · intro i o' hi hsk ho a' w2 hout hin hk2
    replace hk2 : Kept [] V1 w2 := ⟨hk2.os, hk2.tape, hk2.output, hk2.size, hk2.block⟩
    match i, ho, hsk with
    | 0, ho, hsk =>
      obtain rfl := Option.some.inj ho
      exact o_fld23_0 (.tmp 1) rfl b1 ((hout 1 (by kernel_rfl)).trans rfl) ⟨_, rfl, tq_is _ _ _ _ rfl, Kept.refl _ _, fun _ _ _ _ _ => trivial⟩
    | 1, ho, hsk =>
      obtain rfl := Option.some.inj ho
      have e0 : a'.eval (.tmp 3) = .pointer (some ⟨b1, 0, none⟩) := is_tq (hin 0 3 (by kernel_rfl) (by kernel_rfl)) rfl
      exact q_load3 (.tmp 3) rfl _ _ e0 (fits_cell ((unhide HB).kept hk2 (by simp)) 0 _ rfl) ⟨_, rfl, tq_is _ _ _ _ rfl, Kept.refl _ _, fun _ _ _ _ _ => trivial⟩
    | 2, ho, hsk =>
      obtain rfl := Option.some.inj ho
      have e0 : a'.eval (.tmp 4) = .int .i64 J.n := is_tq (hin 1 4 (by kernel_rfl) (by kernel_rfl)) rfl
      exact o_geqc3 (.tmp 4) 2 rfl _ _ c0 e0 ⟨_, rfl, tq_is _ _ _ _ rfl, Kept.refl _ _, fun _ _ _ _ _ => trivial⟩
    | 3, ho, hsk =>
      obtain rfl := Option.some.inj ho
      have e0 : a'.eval (.tmp 5) = .bool true := is_tq (hin 2 5 (by kernel_rfl) (by kernel_rfl)) rfl
      exact wp_move (.tmp 5) rfl _ e0 ⟨_, rfl, tq_is _ _ _ _ rfl, Kept.refl _ _, fun _ _ _ _ _ => trivial⟩
    | 4, ho, hsk =>
      obtain rfl := Option.some.inj ho
      exact o_fld23_0 (.tmp 1) rfl b1 ((hout 1 (by kernel_rfl)).trans rfl) ⟨_, rfl, tq_is _ _ _ _ rfl, Kept.refl _ _, fun _ _ _ _ _ => trivial⟩
    | 5, ho, hsk =>
      obtain rfl := Option.some.inj ho
      have e0 : a'.eval (.tmp 7) = .pointer (some ⟨b1, 0, none⟩) := is_tq (hin 4 7 (by kernel_rfl) (by kernel_rfl)) rfl
      exact q_load3 (.tmp 7) rfl _ _ e0 (fits_cell ((unhide HB).kept hk2 (by simp)) 0 _ rfl) ⟨_, rfl, tq_is _ _ _ _ rfl, Kept.refl _ _, fun _ _ _ _ _ => trivial⟩
    | 6, ho, hsk =>
      obtain rfl := Option.some.inj ho
      have e0 : a'.eval (.tmp 8) = .int .i64 J.n := is_tq (hin 5 8 (by kernel_rfl) (by kernel_rfl)) rfl
      exact o_leqc3 (.tmp 8) 8 rfl _ _ c1 e0 ⟨_, rfl, tq_is _ _ _ _ rfl, Kept.refl _ _, fun _ _ _ _ _ => trivial⟩
    | 7, ho, hsk =>
      obtain rfl := Option.some.inj ho
      have e0 : a'.eval (.tmp 6) = .bool true := is_tq (hin 3 6 (by kernel_rfl) (by kernel_rfl)) rfl
      have e1 : a'.eval (.tmp 9) = .bool true := is_tq (hin 6 9 (by kernel_rfl) (by kernel_rfl)) rfl
      exact o_pick (.tmp 6) (.tmp 9) rfl _ e0 e1 ⟨_, rfl, tq_is _ _ _ _ rfl, Kept.refl _ _, fun _ _ _ _ _ => trivial⟩
    | 8, ho, hsk =>
      obtain rfl := Option.some.inj ho
      have e0 : a'.eval (.tmp 10) = .bool true := is_tq (hin 7 10 (by kernel_rfl) (by kernel_rfl)) rfl
      exact wp_move (.tmp 10) rfl _ e0 ⟨_, rfl, tq_is _ _ _ _ rfl, Kept.refl _ _, fun _ _ _ _ _ => trivial⟩
    | 9, ho, hsk =>
      obtain rfl := Option.some.inj ho
      exact o_fld23_1 (.tmp 1) rfl b1 ((hout 1 (by kernel_rfl)).trans rfl) ⟨_, rfl, tq_is _ _ _ _ rfl, Kept.refl _ _, fun _ _ _ _ _ => trivial⟩
    | 10, ho, hsk =>
      obtain rfl := Option.some.inj ho
      have e0 : a'.eval (.tmp 12) = .pointer (some ⟨b1, 1, none⟩) := is_tq (hin 9 12 (by kernel_rfl) (by kernel_rfl)) rfl
      exact q_load3 (.tmp 12) rfl _ _ e0 (fits_cell ((unhide HB).kept hk2 (by simp)) 1 _ rfl) ⟨_, rfl, tq_is _ _ _ _ rfl, Kept.refl _ _, fun _ _ _ _ _ => trivial⟩
    | 11, ho, hsk =>
      obtain rfl := Option.some.inj ho
      have e0 : a'.eval (.tmp 13) = .int .i64 J.p := is_tq (hin 10 13 (by kernel_rfl) (by kernel_rfl)) rfl
      exact o_geqc3 (.tmp 13) 1 rfl _ _ c2 e0 ⟨_, rfl, tq_is _ _ _ _ rfl, Kept.refl _ _, fun _ _ _ _ _ => trivial⟩
    | 12, ho, hsk =>
      obtain rfl := Option.some.inj ho
      have e0 : a'.eval (.tmp 11) = .bool true := is_tq (hin 8 11 (by kernel_rfl) (by kernel_rfl)) rfl
      have e1 : a'.eval (.tmp 14) = .bool true := is_tq (hin 11 14 (by kernel_rfl) (by kernel_rfl)) rfl
      exact o_pick (.tmp 11) (.tmp 14) rfl _ e0 e1 ⟨_, rfl, tq_is _ _ _ _ rfl, Kept.refl _ _, fun _ _ _ _ _ => trivial⟩
    | 13, ho, hsk =>
      obtain rfl := Option.some.inj ho
      have e0 : a'.eval (.tmp 15) = .bool true := is_tq (hin 12 15 (by kernel_rfl) (by kernel_rfl)) rfl
      exact wp_move (.tmp 15) rfl _ e0 ⟨_, rfl, tq_is _ _ _ _ rfl, Kept.refl _ _, fun _ _ _ _ _ => trivial⟩
    | 14, ho, hsk =>
      obtain rfl := Option.some.inj ho
      exact o_fld23_1 (.tmp 1) rfl b1 ((hout 1 (by kernel_rfl)).trans rfl) ⟨_, rfl, tq_is _ _ _ _ rfl, Kept.refl _ _, fun _ _ _ _ _ => trivial⟩
    | 15, ho, hsk =>
      obtain rfl := Option.some.inj ho
      have e0 : a'.eval (.tmp 17) = .pointer (some ⟨b1, 1, none⟩) := is_tq (hin 14 17 (by kernel_rfl) (by kernel_rfl)) rfl
      exact q_load3 (.tmp 17) rfl _ _ e0 (fits_cell ((unhide HB).kept hk2 (by simp)) 1 _ rfl) ⟨_, rfl, tq_is _ _ _ _ rfl, Kept.refl _ _, fun _ _ _ _ _ => trivial⟩
    | 16, ho, hsk =>
      obtain rfl := Option.some.inj ho
      have e0 : a'.eval (.tmp 18) = .int .i64 J.p := is_tq (hin 15 18 (by kernel_rfl) (by kernel_rfl)) rfl
      exact o_leqc3 (.tmp 18) 16 rfl _ _ c3 e0 ⟨_, rfl, tq_is _ _ _ _ rfl, Kept.refl _ _, fun _ _ _ _ _ => trivial⟩
    | 17, ho, hsk =>
      obtain rfl := Option.some.inj ho
      have e0 : a'.eval (.tmp 16) = .bool true := is_tq (hin 13 16 (by kernel_rfl) (by kernel_rfl)) rfl
      have e1 : a'.eval (.tmp 19) = .bool true := is_tq (hin 16 19 (by kernel_rfl) (by kernel_rfl)) rfl
      exact o_pick (.tmp 16) (.tmp 19) rfl _ e0 e1 ⟨_, rfl, tq_is _ _ _ _ rfl, Kept.refl _ _, fun _ _ _ _ _ => trivial⟩
    | 18, ho, hsk =>
      obtain rfl := Option.some.inj ho
      have e0 : a'.eval (.tmp 20) = .bool true := is_tq (hin 17 20 (by kernel_rfl) (by kernel_rfl)) rfl
      exact wp_move (.tmp 20) rfl _ e0 ⟨_, rfl, tq_is _ _ _ _ rfl, Kept.refl _ _, fun _ _ _ _ _ => trivial⟩
    | 19, ho, hsk =>
      obtain rfl := Option.some.inj ho
      exact o_fld23_2 (.tmp 1) rfl b1 ((hout 1 (by kernel_rfl)).trans rfl) ⟨_, rfl, tq_is _ _ _ _ rfl, Kept.refl _ _, fun _ _ _ _ _ => trivial⟩
    | 20, ho, hsk =>
      obtain rfl := Option.some.inj ho
      have e0 : a'.eval (.tmp 22) = .pointer (some ⟨b1, 2, none⟩) := is_tq (hin 19 22 (by kernel_rfl) (by kernel_rfl)) rfl
      exact q_load3 (.tmp 22) rfl _ _ e0 (fits_cell ((unhide HB).kept hk2 (by simp)) 2 _ rfl) ⟨_, rfl, tq_is _ _ _ _ rfl, Kept.refl _ _, fun _ _ _ _ _ => trivial⟩
    | 21, ho, hsk =>
      obtain rfl := Option.some.inj ho
      have e0 : a'.eval (.tmp 23) = .int .i64 J.f := is_tq (hin 20 23 (by kernel_rfl) (by kernel_rfl)) rfl
      exact o_geqc3 (.tmp 23) 1 rfl _ _ c4 e0 ⟨_, rfl, tq_is _ _ _ _ rfl, Kept.refl _ _, fun _ _ _ _ _ => trivial⟩
    | 22, ho, hsk =>
      obtain rfl := Option.some.inj ho
      have e0 : a'.eval (.tmp 21) = .bool true := is_tq (hin 18 21 (by kernel_rfl) (by kernel_rfl)) rfl
      have e1 : a'.eval (.tmp 24) = .bool true := is_tq (hin 21 24 (by kernel_rfl) (by kernel_rfl)) rfl
      exact o_pick (.tmp 21) (.tmp 24) rfl _ e0 e1 ⟨_, rfl, tq_is _ _ _ _ rfl, Kept.refl _ _, fun _ _ _ _ _ => trivial⟩
    | 23, ho, hsk =>
      obtain rfl := Option.some.inj ho
      have e0 : a'.eval (.tmp 25) = .bool true := is_tq (hin 22 25 (by kernel_rfl) (by kernel_rfl)) rfl
      exact wp_move (.tmp 25) rfl _ e0 ⟨_, rfl, tq_is _ _ _ _ rfl, Kept.refl _ _, fun _ _ _ _ _ => trivial⟩
    | 24, ho, hsk =>
      obtain rfl := Option.some.inj ho
      exact o_fld23_2 (.tmp 1) rfl b1 ((hout 1 (by kernel_rfl)).trans rfl) ⟨_, rfl, tq_is _ _ _ _ rfl, Kept.refl _ _, fun _ _ _ _ _ => trivial⟩
    | 25, ho, hsk =>
      obtain rfl := Option.some.inj ho
      have e0 : a'.eval (.tmp 27) = .pointer (some ⟨b1, 2, none⟩) := is_tq (hin 24 27 (by kernel_rfl) (by kernel_rfl)) rfl
      exact q_load3 (.tmp 27) rfl _ _ e0 (fits_cell ((unhide HB).kept hk2 (by simp)) 2 _ rfl) ⟨_, rfl, tq_is _ _ _ _ rfl, Kept.refl _ _, fun _ _ _ _ _ => trivial⟩
    | 26, ho, hsk =>
      obtain rfl := Option.some.inj ho
      have e0 : a'.eval (.tmp 28) = .int .i64 J.f := is_tq (hin 25 28 (by kernel_rfl) (by kernel_rfl)) rfl
      exact o_leqc3 (.tmp 28) 16 rfl _ _ c5 e0 ⟨_, rfl, tq_is _ _ _ _ rfl, Kept.refl _ _, fun _ _ _ _ _ => trivial⟩
    | 27, ho, hsk =>
      obtain rfl := Option.some.inj ho
      have e0 : a'.eval (.tmp 26) = .bool true := is_tq (hin 23 26 (by kernel_rfl) (by kernel_rfl)) rfl
      have e1 : a'.eval (.tmp 29) = .bool false := is_tq (hin 26 29 (by kernel_rfl) (by kernel_rfl)) rfl
      exact o_pick (.tmp 26) (.tmp 29) rfl _ e0 e1 ⟨_, rfl, tq_is _ _ _ _ rfl, Kept.refl _ _, fun _ _ _ _ _ => trivial⟩
    | 28, ho, hsk =>
      obtain rfl := Option.some.inj ho
      have e0 : a'.eval (.tmp 30) = .bool false := is_tq (hin 27 30 (by kernel_rfl) (by kernel_rfl)) rfl
      exact wp_move (.tmp 30) rfl _ e0 ⟨_, rfl, tq_is _ _ _ _ rfl, Kept.refl _ _, fun _ _ _ _ _ => trivial⟩
    | 29, ho, hsk =>
      cases hsk
    | 30, ho, hsk =>
      cases hsk
    | 31, ho, hsk =>
      cases hsk
    | 32, ho, hsk =>
      obtain rfl := Option.some.inj ho
      have e0 : a'.eval (.tmp 31) = .bool false := is_tq (hin 28 31 (by kernel_rfl) (by kernel_rfl)) rfl
      exact o_pickN (.tmp 31) (.tmp 34) rfl e0 ⟨_, rfl, tq_is _ _ _ _ rfl, Kept.refl _ _, fun _ _ _ _ _ => trivial⟩
    | 33, ho, hsk =>
      obtain rfl := Option.some.inj ho
      have e0 : a'.eval (.tmp 35) = .bool false := is_tq (hin 32 35 (by kernel_rfl) (by kernel_rfl)) rfl
      exact wp_move (.tmp 35) rfl _ e0 ⟨_, rfl, tq_is _ _ _ _ rfl, Kept.refl _ _, fun _ _ _ _ _ => trivial⟩
    | 34, ho, hsk =>
      cases hsk
    | 35, ho, hsk =>
      cases hsk
    | 36, ho, hsk =>
      cases hsk
    | 37, ho, hsk =>
      obtain rfl := Option.some.inj ho
      have e0 : a'.eval (.tmp 36) = .bool false := is_tq (hin 33 36 (by kernel_rfl) (by kernel_rfl)) rfl
      exact o_pickN (.tmp 36) (.tmp 39) rfl e0 ⟨_, rfl, tq_is _ _ _ _ rfl, Kept.refl _ _, fun _ _ _ _ _ => trivial⟩
    | 38, ho, hsk =>
      obtain rfl := Option.some.inj ho
      have e0 : a'.eval (.tmp 40) = .bool false := is_tq (hin 37 40 (by kernel_rfl) (by kernel_rfl)) rfl
      exact wp_move (.tmp 40) rfl _ e0 ⟨_, rfl, tq_is _ _ _ _ rfl, Kept.refl _ _, fun _ _ _ _ _ => trivial⟩
    | 39, ho, hsk =>
      cases hsk
    | 40, ho, hsk =>
      cases hsk
    | 41, ho, hsk =>
      cases hsk
    | 42, ho, hsk =>
      obtain rfl := Option.some.inj ho
      have e0 : a'.eval (.tmp 41) = .bool false := is_tq (hin 38 41 (by kernel_rfl) (by kernel_rfl)) rfl
      exact o_pickN (.tmp 41) (.tmp 44) rfl e0 ⟨_, rfl, tq_is _ _ _ _ rfl, Kept.refl _ _, fun _ _ _ _ _ => trivial⟩
    | 43, ho, hsk =>
      obtain rfl := Option.some.inj ho
      have e0 : a'.eval (.tmp 45) = .bool false := is_tq (hin 42 45 (by kernel_rfl) (by kernel_rfl)) rfl
      exact wp_move (.tmp 45) rfl _ e0 ⟨_, rfl, tq_is _ _ _ _ rfl, Kept.refl _ _, fun _ _ _ _ _ => trivial⟩
    | 44, ho, hsk =>
      cases hsk
    | 45, ho, hsk =>
      cases hsk
    | 46, ho, hsk =>
      cases hsk
    | 47, ho, hsk =>
      obtain rfl := Option.some.inj ho
      have e0 : a'.eval (.tmp 46) = .bool false := is_tq (hin 43 46 (by kernel_rfl) (by kernel_rfl)) rfl
      exact o_pickN (.tmp 46) (.tmp 49) rfl e0 ⟨_, rfl, tq_is _ _ _ _ rfl, Kept.refl _ _, fun _ _ _ _ _ => trivial⟩
    | 48, ho, hsk =>
      obtain rfl := Option.some.inj ho
      have e0 : a'.eval (.tmp 50) = .bool false := is_tq (hin 47 50 (by kernel_rfl) (by kernel_rfl)) rfl
      exact wp_assignV (.tmp 50) rfl _ e0 ⟨_, rfl, tq_is _ _ _ _ rfl, Kept.refl _ _, fun _ _ _ _ _ => trivial⟩
  intro w9 hk9
  replace hk9 : Kept [] V1 w9 := ⟨hk9.os, hk9.tape, hk9.output, hk9.size, hk9.block⟩
  simp only [valsQ, List.map_cons, List.map_nil, Option.getD_some, Option.getD_none, List.take_succ_cons, List.take_zero, putAll, Act.put, List.setIfInBounds_toArray, List.set_cons_succ, List.set_cons_zero]
  go_wp2_with fail
  go_ret
  exact ⟨rfl, (unhide HK).trans hk9⟩
set_option maxHeartbeats 4000000 in
theorem rmay_6 (J : Ar.Job) (w : World) (c0 : decide ((2 : Int) ≤ J.n) = true) (c1 : decide (J.n ≤ 8) = true) (c2 : decide ((1 : Int) ≤ J.p) = true) (c3 : decide (J.p ≤ 16) = true) (c4 : decide ((1 : Int) ≤ J.f) = true) (c5 : decide (J.f ≤ 16) = true) (c6 : decide ((2 : Int) ≤ J.l) = false) : Calls Tryd.prog 8 #[aggV (Ar.jobC J)] w fun e w' => e = .returned (.bool false) ∧ Kept [] w w' := by
  go_enter Tryd.func8, Tryd.ntmps8
  go_wp2_with (
    first
    | (refine wpBoxV (by rfl) (.tmp 0) (by rfl) (Ar.jobC J) (by kernel_rfl) ?_
       intro V1 b1 e1 B1 K1
       have HB := hide B1
       have HK := hide K1
       clear e1 B1 K1
       refine Stp.go ?_))
  constructor
  go_upto_region 1 with fail
  refine wp_text_tq 49 rfl (by kernel_rfl) [some (.pointer (some ⟨b1, 0, none⟩)), some (.int .i64 J.n), some (.bool true), some (.bool true), some (.pointer (some ⟨b1, 0, none⟩)), some (.int .i64 J.n), some (.bool true), some (.bool true), some (.bool true), some (.pointer (some ⟨b1, 1, none⟩)), some (.int .i64 J.p), some (.bool true), some (.bool true), some (.bool true), some (.pointer (some ⟨b1, 1, none⟩)), some (.int .i64 J.p), some (.bool true), some (.bool true), some (.bool true), some (.pointer (some ⟨b1, 2, none⟩)), some (.int .i64 J.f), some (.bool true), some (.bool true), some (.bool true), some (.pointer (some ⟨b1, 2, none⟩)), some (.int .i64 J.f), some (.bool true), some (.bool true), some (.bool true), some (.pointer (some ⟨b1, 3, none⟩)), some (.int .i64 J.l), some (.bool false), some (.bool false), some (.bool false), none, none, none, some (.bool false), some (.bool false), none, none, none, some (.bool false), some (.bool false), none, none, none, some (.bool false), some (.bool false)] rfl (by kernel_rfl) (by kernel_rfl) ?_ ?_
  · intro i o' hi hsk ho a' w2 hout hin hk2
    replace hk2 : Kept [] V1 w2 := ⟨hk2.os, hk2.tape, hk2.output, hk2.size, hk2.block⟩
    match i, ho, hsk with
    | 0, ho, hsk =>
      obtain rfl := Option.some.inj ho
      exact o_fld23_0 (.tmp 1) rfl b1 ((hout 1 (by kernel_rfl)).trans rfl) ⟨_, rfl, tq_is _ _ _ _ rfl, Kept.refl _ _, fun _ _ _ _ _ => trivial⟩
    | 1, ho, hsk =>
      obtain rfl := Option.some.inj ho
      have e0 : a'.eval (.tmp 3) = .pointer (some ⟨b1, 0, none⟩) := is_tq (hin 0 3 (by kernel_rfl) (by kernel_rfl)) rfl
      exact q_load3 (.tmp 3) rfl _ _ e0 (fits_cell ((unhide HB).kept hk2 (by simp)) 0 _ rfl) ⟨_, rfl, tq_is _ _ _ _ rfl, Kept.refl _ _, fun _ _ _ _ _ => trivial⟩
    | 2, ho, hsk =>
      obtain rfl := Option.some.inj ho
      have e0 : a'.eval (.tmp 4) = .int .i64 J.n := is_tq (hin 1 4 (by kernel_rfl) (by kernel_rfl)) rfl
      exact o_geqc3 (.tmp 4) 2 rfl _ _ c0 e0 ⟨_, rfl, tq_is _ _ _ _ rfl, Kept.refl _ _, fun _ _ _ _ _ => trivial⟩
    | 3, ho, hsk =>
      obtain rfl := Option.some.inj ho
      have e0 : a'.eval (.tmp 5) = .bool true := is_tq (hin 2 5 (by kernel_rfl) (by kernel_rfl)) rfl
      exact wp_move (.tmp 5) rfl _ e0 ⟨_, rfl, tq_is _ _ _ _ rfl, Kept.refl _ _, fun _ _ _ _ _ => trivial⟩
    | 4, ho, hsk =>
      obtain rfl := Option.some.inj ho
      exact o_fld23_0 (.tmp 1) rfl b1 ((hout 1 (by kernel_rfl)).trans rfl) ⟨_, rfl, tq_is _ _ _ _ rfl, Kept.refl _ _, fun _ _ _ _ _ => trivial⟩
    | 5, ho, hsk =>
      obtain rfl := Option.some.inj ho
      have e0 : a'.eval (.tmp 7) = .pointer (some ⟨b1, 0, none⟩) := is_tq (hin 4 7 (by kernel_rfl) (by kernel_rfl)) rfl
      exact q_load3 (.tmp 7) rfl _ _ e0 (fits_cell ((unhide HB).kept hk2 (by simp)) 0 _ rfl) ⟨_, rfl, tq_is _ _ _ _ rfl, Kept.refl _ _, fun _ _ _ _ _ => trivial⟩
    | 6, ho, hsk =>
      obtain rfl := Option.some.inj ho
      have e0 : a'.eval (.tmp 8) = .int .i64 J.n := is_tq (hin 5 8 (by kernel_rfl) (by kernel_rfl)) rfl
      exact o_leqc3 (.tmp 8) 8 rfl _ _ c1 e0 ⟨_, rfl, tq_is _ _ _ _ rfl, Kept.refl _ _, fun _ _ _ _ _ => trivial⟩
    | 7, ho, hsk =>
      obtain rfl := Option.some.inj ho
      have e0 : a'.eval (.tmp 6) = .bool true := is_tq (hin 3 6 (by kernel_rfl) (by kernel_rfl)) rfl
      have e1 : a'.eval (.tmp 9) = .bool true := is_tq (hin 6 9 (by kernel_rfl) (by kernel_rfl)) rfl
      exact o_pick (.tmp 6) (.tmp 9) rfl _ e0 e1 ⟨_, rfl, tq_is _ _ _ _ rfl, Kept.refl _ _, fun _ _ _ _ _ => trivial⟩
    | 8, ho, hsk =>
      obtain rfl := Option.some.inj ho
      have e0 : a'.eval (.tmp 10) = .bool true := is_tq (hin 7 10 (by kernel_rfl) (by kernel_rfl)) rfl
      exact wp_move (.tmp 10) rfl _ e0 ⟨_, rfl, tq_is _ _ _ _ rfl, Kept.refl _ _, fun _ _ _ _ _ => trivial⟩
    | 9, ho, hsk =>
      obtain rfl := Option.some.inj ho
      exact o_fld23_1 (.tmp 1) rfl b1 ((hout 1 (by kernel_rfl)).trans rfl) ⟨_, rfl, tq_is _ _ _ _ rfl, Kept.refl _ _, fun _ _ _ _ _ => trivial⟩
    | 10, ho, hsk =>
      obtain rfl := Option.some.inj ho
      have e0 : a'.eval (.tmp 12) = .pointer (some ⟨b1, 1, none⟩) := is_tq (hin 9 12 (by kernel_rfl) (by kernel_rfl)) rfl
      exact q_load3 (.tmp 12) rfl _ _ e0 (fits_cell ((unhide HB).kept hk2 (by simp)) 1 _ rfl) ⟨_, rfl, tq_is _ _ _ _ rfl, Kept.refl _ _, fun _ _ _ _ _ => trivial⟩
    | 11, ho, hsk =>
      obtain rfl := Option.some.inj ho
      have e0 : a'.eval (.tmp 13) = .int .i64 J.p := is_tq (hin 10 13 (by kernel_rfl) (by kernel_rfl)) rfl
      exact o_geqc3 (.tmp 13) 1 rfl _ _ c2 e0 ⟨_, rfl, tq_is _ _ _ _ rfl, Kept.refl _ _, fun _ _ _ _ _ => trivial⟩
    | 12, ho, hsk =>
      obtain rfl := Option.some.inj ho
      have e0 : a'.eval (.tmp 11) = .bool true := is_tq (hin 8 11 (by kernel_rfl) (by kernel_rfl)) rfl
      have e1 : a'.eval (.tmp 14) = .bool true := is_tq (hin 11 14 (by kernel_rfl) (by kernel_rfl)) rfl
      exact o_pick (.tmp 11) (.tmp 14) rfl _ e0 e1 ⟨_, rfl, tq_is _ _ _ _ rfl, Kept.refl _ _, fun _ _ _ _ _ => trivial⟩
    | 13, ho, hsk =>
      obtain rfl := Option.some.inj ho
      have e0 : a'.eval (.tmp 15) = .bool true := is_tq (hin 12 15 (by kernel_rfl) (by kernel_rfl)) rfl
      exact wp_move (.tmp 15) rfl _ e0 ⟨_, rfl, tq_is _ _ _ _ rfl, Kept.refl _ _, fun _ _ _ _ _ => trivial⟩
    | 14, ho, hsk =>
      obtain rfl := Option.some.inj ho
      exact o_fld23_1 (.tmp 1) rfl b1 ((hout 1 (by kernel_rfl)).trans rfl) ⟨_, rfl, tq_is _ _ _ _ rfl, Kept.refl _ _, fun _ _ _ _ _ => trivial⟩
    | 15, ho, hsk =>
      obtain rfl := Option.some.inj ho
      have e0 : a'.eval (.tmp 17) = .pointer (some ⟨b1, 1, none⟩) := is_tq (hin 14 17 (by kernel_rfl) (by kernel_rfl)) rfl
      exact q_load3 (.tmp 17) rfl _ _ e0 (fits_cell ((unhide HB).kept hk2 (by simp)) 1 _ rfl) ⟨_, rfl, tq_is _ _ _ _ rfl, Kept.refl _ _, fun _ _ _ _ _ => trivial⟩
    | 16, ho, hsk =>
      obtain rfl := Option.some.inj ho
      have e0 : a'.eval (.tmp 18) = .int .i64 J.p := is_tq (hin 15 18 (by kernel_rfl) (by kernel_rfl)) rfl
      exact o_leqc3 (.tmp 18) 16 rfl _ _ c3 e0 ⟨_, rfl, tq_is _ _ _ _ rfl, Kept.refl _ _, fun _ _ _ _ _ => trivial⟩
    | 17, ho, hsk =>
      obtain rfl := Option.some.inj ho
      have e0 : a'.eval (.tmp 16) = .bool true := is_tq (hin 13 16 (by kernel_rfl) (by kernel_rfl)) rfl
      have e1 : a'.eval (.tmp 19) = .bool true := is_tq (hin 16 19 (by kernel_rfl) (by kernel_rfl)) rfl
      exact o_pick (.tmp 16) (.tmp 19) rfl _ e0 e1 ⟨_, rfl, tq_is _ _ _ _ rfl, Kept.refl _ _, fun _ _ _ _ _ => trivial⟩
    | 18, ho, hsk =>
      obtain rfl := Option.some.inj ho
      have e0 : a'.eval (.tmp 20) = .bool true := is_tq (hin 17 20 (by kernel_rfl) (by kernel_rfl)) rfl
      exact wp_move (.tmp 20) rfl _ e0 ⟨_, rfl, tq_is _ _ _ _ rfl, Kept.refl _ _, fun _ _ _ _ _ => trivial⟩
    | 19, ho, hsk =>
      obtain rfl := Option.some.inj ho
      exact o_fld23_2 (.tmp 1) rfl b1 ((hout 1 (by kernel_rfl)).trans rfl) ⟨_, rfl, tq_is _ _ _ _ rfl, Kept.refl _ _, fun _ _ _ _ _ => trivial⟩
    | 20, ho, hsk =>
      obtain rfl := Option.some.inj ho
      have e0 : a'.eval (.tmp 22) = .pointer (some ⟨b1, 2, none⟩) := is_tq (hin 19 22 (by kernel_rfl) (by kernel_rfl)) rfl
      exact q_load3 (.tmp 22) rfl _ _ e0 (fits_cell ((unhide HB).kept hk2 (by simp)) 2 _ rfl) ⟨_, rfl, tq_is _ _ _ _ rfl, Kept.refl _ _, fun _ _ _ _ _ => trivial⟩
    | 21, ho, hsk =>
      obtain rfl := Option.some.inj ho
      have e0 : a'.eval (.tmp 23) = .int .i64 J.f := is_tq (hin 20 23 (by kernel_rfl) (by kernel_rfl)) rfl
      exact o_geqc3 (.tmp 23) 1 rfl _ _ c4 e0 ⟨_, rfl, tq_is _ _ _ _ rfl, Kept.refl _ _, fun _ _ _ _ _ => trivial⟩
    | 22, ho, hsk =>
      obtain rfl := Option.some.inj ho
      have e0 : a'.eval (.tmp 21) = .bool true := is_tq (hin 18 21 (by kernel_rfl) (by kernel_rfl)) rfl
      have e1 : a'.eval (.tmp 24) = .bool true := is_tq (hin 21 24 (by kernel_rfl) (by kernel_rfl)) rfl
      exact o_pick (.tmp 21) (.tmp 24) rfl _ e0 e1 ⟨_, rfl, tq_is _ _ _ _ rfl, Kept.refl _ _, fun _ _ _ _ _ => trivial⟩
    | 23, ho, hsk =>
      obtain rfl := Option.some.inj ho
      have e0 : a'.eval (.tmp 25) = .bool true := is_tq (hin 22 25 (by kernel_rfl) (by kernel_rfl)) rfl
      exact wp_move (.tmp 25) rfl _ e0 ⟨_, rfl, tq_is _ _ _ _ rfl, Kept.refl _ _, fun _ _ _ _ _ => trivial⟩
    | 24, ho, hsk =>
      obtain rfl := Option.some.inj ho
      exact o_fld23_2 (.tmp 1) rfl b1 ((hout 1 (by kernel_rfl)).trans rfl) ⟨_, rfl, tq_is _ _ _ _ rfl, Kept.refl _ _, fun _ _ _ _ _ => trivial⟩
    | 25, ho, hsk =>
      obtain rfl := Option.some.inj ho
      have e0 : a'.eval (.tmp 27) = .pointer (some ⟨b1, 2, none⟩) := is_tq (hin 24 27 (by kernel_rfl) (by kernel_rfl)) rfl
      exact q_load3 (.tmp 27) rfl _ _ e0 (fits_cell ((unhide HB).kept hk2 (by simp)) 2 _ rfl) ⟨_, rfl, tq_is _ _ _ _ rfl, Kept.refl _ _, fun _ _ _ _ _ => trivial⟩
    | 26, ho, hsk =>
      obtain rfl := Option.some.inj ho
      have e0 : a'.eval (.tmp 28) = .int .i64 J.f := is_tq (hin 25 28 (by kernel_rfl) (by kernel_rfl)) rfl
      exact o_leqc3 (.tmp 28) 16 rfl _ _ c5 e0 ⟨_, rfl, tq_is _ _ _ _ rfl, Kept.refl _ _, fun _ _ _ _ _ => trivial⟩
    | 27, ho, hsk =>
      obtain rfl := Option.some.inj ho
      have e0 : a'.eval (.tmp 26) = .bool true := is_tq (hin 23 26 (by kernel_rfl) (by kernel_rfl)) rfl
      have e1 : a'.eval (.tmp 29) = .bool true := is_tq (hin 26 29 (by kernel_rfl) (by kernel_rfl)) rfl
      exact o_pick (.tmp 26) (.tmp 29) rfl _ e0 e1 ⟨_, rfl, tq_is _ _ _ _ rfl, Kept.refl _ _, fun _ _ _ _ _ => trivial⟩
    | 28, ho, hsk =>
      obtain rfl := Option.some.inj ho
      have e0 : a'.eval (.tmp 30) = .bool true := is_tq (hin 27 30 (by kernel_rfl) (by kernel_rfl)) rfl
      exact wp_move (.tmp 30) rfl _ e0 ⟨_, rfl, tq_is _ _ _ _ rfl, Kept.refl _ _, fun _ _ _ _ _ => trivial⟩
    | 29, ho, hsk =>
      obtain rfl := Option.some.inj ho
      exact o_fld23_3 (.tmp 1) rfl b1 ((hout 1 (by kernel_rfl)).trans rfl) ⟨_, rfl, tq_is _ _ _ _ rfl, Kept.refl _ _, fun _ _ _ _ _ => trivial⟩
    | 30, ho, hsk =>
      obtain rfl := Option.some.inj ho
      have e0 : a'.eval (.tmp 32) = .pointer (some ⟨b1, 3, none⟩) := is_tq (hin 29 32 (by kernel_rfl) (by kernel_rfl)) rfl
      exact q_load3 (.tmp 32) rfl _ _ e0 (fits_cell ((unhide HB).kept hk2 (by simp)) 3 _ rfl) ⟨_, rfl, tq_is _ _ _ _ rfl, Kept.refl _ _, fun _ _ _ _ _ => trivial⟩
    | 31, ho, hsk =>
      obtain rfl := Option.some.inj ho
      have e0 : a'.eval (.tmp 33) = .int .i64 J.l := is_tq (hin 30 33 (by kernel_rfl) (by kernel_rfl)) rfl
      exact o_geqc3 (.tmp 33) 2 rfl _ _ c6 e0 ⟨_, rfl, tq_is _ _ _ _ rfl, Kept.refl _ _, fun _ _ _ _ _ => trivial⟩
    | 32, ho, hsk =>
      obtain rfl := Option.some.inj ho
      have e0 : a'.eval (.tmp 31) = .bool true := is_tq (hin 28 31 (by kernel_rfl) (by kernel_rfl)) rfl
      have e1 : a'.eval (.tmp 34) = .bool false := is_tq (hin 31 34 (by kernel_rfl) (by kernel_rfl)) rfl
      exact o_pick (.tmp 31) (.tmp 34) rfl _ e0 e1 ⟨_, rfl, tq_is _ _ _ _ rfl, Kept.refl _ _, fun _ _ _ _ _ => trivial⟩
    | 33, ho, hsk =>
      obtain rfl := Option.some.inj ho
      have e0 : a'.eval (.tmp 35) = .bool false := is_tq (hin 32 35 (by kernel_rfl) (by kernel_rfl)) rfl
      exact wp_move (.tmp 35) rfl _ e0 ⟨_, rfl, tq_is _ _ _ _ rfl, Kept.refl _ _, fun _ _ _ _ _ => trivial⟩
    | 34, ho, hsk =>
      cases hsk
    | 35, ho, hsk =>
      cases hsk
    | 36, ho, hsk =>
      cases hsk
    | 37, ho, hsk =>
      obtain rfl := Option.some.inj ho
      have e0 : a'.eval (.tmp 36) = .bool false := is_tq (hin 33 36 (by kernel_rfl) (by kernel_rfl)) rfl
      exact o_pickN (.tmp 36) (.tmp 39) rfl e0 ⟨_, rfl, tq_is _ _ _ _ rfl, Kept.refl _ _, fun _ _ _ _ _ => trivial⟩
    | 38, ho, hsk =>
      obtain rfl := Option.some.inj ho
      have e0 : a'.eval (.tmp 40) = .bool false := is_tq (hin 37 40 (by kernel_rfl) (by kernel_rfl)) rfl
      exact wp_move (.tmp 40) rfl _ e0 ⟨_, rfl, tq_is _ _ _ _ rfl, Kept.refl _ _, fun _ _ _ _ _ => trivial⟩
    | 39, ho, hsk =>
      cases hsk
    | 40, ho, hsk =>
      cases hsk
    | 41, ho, hsk =>
      cases hsk
    | 42, ho, hsk =>
      obtain rfl := Option.some.inj ho
      have e0 : a'.eval (.tmp 41) = .bool false := is_tq (hin 38 41 (by kernel_rfl) (by kernel_rfl)) rfl
      exact o_pickN (.tmp 41) (.tmp 44) rfl e0 ⟨_, rfl, tq_is _ _ _ _ rfl, Kept.refl _ _, fun _ _ _ _ _ => trivial⟩
    | 43, ho, hsk =>
      obtain rfl := Option.some.inj ho
      have e0 : a'.eval (.tmp 45) = .bool false := is_tq (hin 42 45 (by kernel_rfl) (by kernel_rfl)) rfl
      exact wp_move (.tmp 45) rfl _ e0 ⟨_, rfl, tq_is _ _ _ _ rfl, Kept.refl _ _, fun _ _ _ _ _ => trivial⟩
    | 44, ho, hsk =>
      cases hsk
    | 45, ho, hsk =>
      cases hsk
    | 46, ho, hsk =>
      cases hsk
    | 47, ho, hsk =>
      obtain rfl := Option.some.inj ho
      have e0 : a'.eval (.tmp 46) = .bool false := is_tq (hin 43 46 (by kernel_rfl) (by kernel_rfl)) rfl
      exact o_pickN (.tmp 46) (.tmp 49) rfl e0 ⟨_, rfl, tq_is _ _ _ _ rfl, Kept.refl _ _, fun _ _ _ _ _ => trivial⟩
    | 48, ho, hsk =>
      obtain rfl := Option.some.inj ho
      have e0 : a'.eval (.tmp 50) = .bool false := is_tq (hin 47 50 (by kernel_rfl) (by kernel_rfl)) rfl
      exact wp_assignV (.tmp 50) rfl _ e0 ⟨_, rfl, tq_is _ _ _ _ rfl, Kept.refl _ _, fun _ _ _ _ _ => trivial⟩
  intro w9 hk9
  replace hk9 : Kept [] V1 w9 := ⟨hk9.os, hk9.tape, hk9.output, hk9.size, hk9.block⟩
  simp only [valsQ, List.map_cons, List.map_nil, Option.getD_some, Option.getD_none, List.take_succ_cons, List.take_zero, putAll, Act.put, List.setIfInBounds_toArray, List.set_cons_succ, List.set_cons_zero]
  go_wp2_with fail
  go_ret
  exact ⟨rfl, (unhide HK).trans hk9⟩
set_option maxHeartbeats 4000000 in
theorem rmay_7 (J : Ar.Job) (w : World) (c0 : decide ((2 : Int) ≤ J.n) = true) (c1 : decide (J.n ≤ 8) = true) (c2 : decide ((1 : Int) ≤ J.p) = true) (c3 : decide (J.p ≤ 16) = true) (c4 : decide ((1 : Int) ≤ J.f) = true) (c5 : decide (J.f ≤ 16) = true) (c6 : decide ((2 : Int) ≤ J.l) = true) (c7 : decide (J.l ≤ 64) = false) : Calls Tryd.prog 8 #[aggV (Ar.jobC J)] w fun e w' => e = .returned (.bool false) ∧ Kept [] w w' := by
  go_enter Tryd.func8, Tryd.ntmps8
  go_wp2_with (
    first
    | (refine wpBoxV (by rfl) (.tmp 0) (by rfl) (Ar.jobC J) (by kernel_rfl) ?_
       intro V1 b1 e1 B1 K1
       have HB := hide B1
       have HK := hide K1
       clear e1 B1 K1
       refine Stp.go ?_))
  constructor
  go_upto_region 1 with fail
  refine wp_text_tq 49 rfl (by kernel_rfl) [some (.pointer (some ⟨b1, 0, none⟩)), some (.int .i64 J.n), some (.bool true), some (.bool true), some (.pointer (some ⟨b1, 0, none⟩)), some (.int .i64 J.n), some (.bool true), some (.bool true), some (.bool true), some (.pointer (some ⟨b1, 1, none⟩)), some (.int .i64 J.p), some (.bool true), some (.bool true), some (.bool true), some (.pointer (some ⟨b1, 1, none⟩)), some (.int .i64 J.p), some (.bool true), some (.bool true), some (.bool true), some (.pointer (some ⟨b1, 2, none⟩)), some (.int .i64 J.f), some (.bool true), some (.bool true), some (.bool true), some (.pointer (some ⟨b1, 2, none⟩)), some (.int .i64 J.f), some (.bool true), some (.bool true), some (.bool true), some (.pointer (some ⟨b1, 3, none⟩)), some (.int .i64 J.l), some (.bool true), some (.bool true), some (.bool true), some (.pointer (some ⟨b1, 3, none⟩)), some (.int .i64 J.l), some (.bool false), some (.bool false), some (.bool false), none, none, none, some (.bool false), some (.bool false), none, none, none, some (.bool false), some (.bool false)] rfl (by kernel_rfl) (by kernel_rfl) ?_ ?_
  · intro i o' hi hsk ho a' w2 hout hin hk2
    replace hk2 : Kept [] V1 w2 := ⟨hk2.os, hk2.tape, hk2.output, hk2.size, hk2.block⟩
    match i, ho, hsk with
    | 0, ho, hsk =>
      obtain rfl := Option.some.inj ho
      exact o_fld23_0 (.tmp 1) rfl b1 ((hout 1 (by kernel_rfl)).trans rfl) ⟨_, rfl, tq_is _ _ _ _ rfl, Kept.refl _ _, fun _ _ _ _ _ => trivial⟩
    | 1, ho, hsk =>
      obtain rfl := Option.some.inj ho
      have e0 : a'.eval (.tmp 3) = .pointer (some ⟨b1, 0, none⟩) := is_tq (hin 0 3 (by kernel_rfl) (by kernel_rfl)) rfl
      exact q_load3 (.tmp 3) rfl _ _ e0 (fits_cell ((unhide HB).kept hk2 (by simp)) 0 _ rfl) ⟨_, rfl, tq_is _ _ _ _ rfl, Kept.refl _ _, fun _ _ _ _ _ => trivial⟩
    | 2, ho, hsk =>
      obtain rfl := Option.some.inj ho
      have e0 : a'.eval (.tmp 4) = .int .i64 J.n := is_tq (hin 1 4 (by kernel_rfl) (by kernel_rfl)) rfl
      exact o_geqc3 (.tmp 4) 2 rfl _ _ c0 e0 ⟨_, rfl, tq_is _ _ _ _ rfl, Kept.refl _ _, fun _ _ _ _ _ => trivial⟩
    | 3, ho, hsk =>
      obtain rfl := Option.some.inj ho
      have e0 : a'.eval (.tmp 5) = .bool true := is_tq (hin 2 5 (by kernel_rfl) (by kernel_rfl)) rfl
      exact wp_move (.tmp 5) rfl _ e0 ⟨_, rfl, tq_is _ _ _ _ rfl, Kept.refl _ _, fun _ _ _ _ _ => trivial⟩
    | 4, ho, hsk =>
      obtain rfl := Option.some.inj ho
      exact o_fld23_0 (.tmp 1) rfl b1 ((hout 1 (by kernel_rfl)).trans rfl) ⟨_, rfl, tq_is _ _ _ _ rfl, Kept.refl _ _, fun _ _ _ _ _ => trivial⟩
    | 5, ho, hsk =>
      obtain rfl := Option.some.inj ho
      have e0 : a'.eval (.tmp 7) = .pointer (some ⟨b1, 0, none⟩) := is_tq (hin 4 7 (by kernel_rfl) (by kernel_rfl)) rfl
      exact q_load3 (.tmp 7) rfl _ _ e0 (fits_cell ((unhide HB).kept hk2 (by simp)) 0 _ rfl) ⟨_, rfl, tq_is _ _ _ _ rfl, Kept.refl _ _, fun _ _ _ _ _ => trivial⟩
    | 6, ho, hsk =>
      obtain rfl := Option.some.inj ho
      have e0 : a'.eval (.tmp 8) = .int .i64 J.n := is_tq (hin 5 8 (by kernel_rfl) (by kernel_rfl)) rfl
      exact o_leqc3 (.tmp 8) 8 rfl _ _ c1 e0 ⟨_, rfl, tq_is _ _ _ _ rfl, Kept.refl _ _, fun _ _ _ _ _ => trivial⟩
    | 7, ho, hsk =>
      obtain rfl := Option.some.inj ho
      have e0 : a'.eval (.tmp 6) = .bool true := is_tq (hin 3 6 (by kernel_rfl) (by kernel_rfl)) rfl
      have e1 : a'.eval (.tmp 9) = .bool true := is_tq (hin 6 9 (by kernel_rfl) (by kernel_rfl)) rfl
      exact o_pick (.tmp 6) (.tmp 9) rfl _ e0 e1 ⟨_, rfl, tq_is _ _ _ _ rfl, Kept.refl _ _, fun _ _ _ _ _ => trivial⟩
    | 8, ho, hsk =>
      obtain rfl := Option.some.inj ho
      have e0 : a'.eval (.tmp 10) = .bool true := is_tq (hin 7 10 (by kernel_rfl) (by kernel_rfl)) rfl
      exact wp_move (.tmp 10) rfl _ e0 ⟨_, rfl, tq_is _ _ _ _ rfl, Kept.refl _ _, fun _ _ _ _ _ => trivial⟩
    | 9, ho, hsk =>
      obtain rfl := Option.some.inj ho
      exact o_fld23_1 (.tmp 1) rfl b1 ((hout 1 (by kernel_rfl)).trans rfl) ⟨_, rfl, tq_is _ _ _ _ rfl, Kept.refl _ _, fun _ _ _ _ _ => trivial⟩
    | 10, ho, hsk =>
      obtain rfl := Option.some.inj ho
      have e0 : a'.eval (.tmp 12) = .pointer (some ⟨b1, 1, none⟩) := is_tq (hin 9 12 (by kernel_rfl) (by kernel_rfl)) rfl
      exact q_load3 (.tmp 12) rfl _ _ e0 (fits_cell ((unhide HB).kept hk2 (by simp)) 1 _ rfl) ⟨_, rfl, tq_is _ _ _ _ rfl, Kept.refl _ _, fun _ _ _ _ _ => trivial⟩
    | 11, ho, hsk =>
      obtain rfl := Option.some.inj ho
      have e0 : a'.eval (.tmp 13) = .int .i64 J.p := is_tq (hin 10 13 (by kernel_rfl) (by kernel_rfl)) rfl
      exact o_geqc3 (.tmp 13) 1 rfl _ _ c2 e0 ⟨_, rfl, tq_is _ _ _ _ rfl, Kept.refl _ _, fun _ _ _ _ _ => trivial⟩
    | 12, ho, hsk =>
      obtain rfl := Option.some.inj ho
      have e0 : a'.eval (.tmp 11) = .bool true := is_tq (hin 8 11 (by kernel_rfl) (by kernel_rfl)) rfl
      have e1 : a'.eval (.tmp 14) = .bool true := is_tq (hin 11 14 (by kernel_rfl) (by kernel_rfl)) rfl
      exact o_pick (.tmp 11) (.tmp 14) rfl _ e0 e1 ⟨_, rfl, tq_is _ _ _ _ rfl, Kept.refl _ _, fun _ _ _ _ _ => trivial⟩
    | 13, ho, hsk =>
      obtain rfl := Option.some.inj ho
      have e0 : a'.eval (.tmp 15) = .bool true := is_tq (hin 12 15 (by kernel_rfl) (by kernel_rfl)) rfl
      exact wp_move (.tmp 15) rfl _ e0 ⟨_, rfl, tq_is _ _ _ _ rfl, Kept.refl _ _, fun _ _ _ _ _ => trivial⟩
    | 14, ho, hsk =>
      obtain rfl := Option.some.inj ho
      exact o_fld23_1 (.tmp 1) rfl b1 ((hout 1 (by kernel_rfl)).trans rfl) ⟨_, rfl, tq_is _ _ _ _ rfl, Kept.refl _ _, fun _ _ _ _ _ => trivial⟩
    | 15, ho, hsk =>
      obtain rfl := Option.some.inj ho
      have e0 : a'.eval (.tmp 17) = .pointer (some ⟨b1, 1, none⟩) := is_tq (hin 14 17 (by kernel_rfl) (by kernel_rfl)) rfl
      exact q_load3 (.tmp 17) rfl _ _ e0 (fits_cell ((unhide HB).kept hk2 (by simp)) 1 _ rfl) ⟨_, rfl, tq_is _ _ _ _ rfl, Kept.refl _ _, fun _ _ _ _ _ => trivial⟩
    | 16, ho, hsk =>
      obtain rfl := Option.some.inj ho
      have e0 : a'.eval (.tmp 18) = .int .i64 J.p := is_tq (hin 15 18 (by kernel_rfl) (by kernel_rfl)) rfl
      exact o_leqc3 (.tmp 18) 16 rfl _ _ c3 e0 ⟨_, rfl, tq_is _ _ _ _ rfl, Kept.refl _ _, fun _ _ _ _ _ => trivial⟩
    | 17, ho, hsk =>
      obtain rfl := Option.some.inj ho
      have e0 : a'.eval (.tmp 16) = .bool true := is_tq (hin 13 16 (by kernel_rfl) (by kernel_rfl)) rfl
      have e1 : a'.eval (.tmp 19) = .bool true := is_tq (hin 16 19 (by kernel_rfl) (by kernel_rfl)) rfl
      exact o_pick (.tmp 16) (.tmp 19) rfl _ e0 e1 ⟨_, rfl, tq_is _ _ _ _ rfl, Kept.refl _ _, fun _ _ _ _ _ => trivial⟩
    | 18, ho, hsk =>
      obtain rfl := Option.some.inj ho
      have e0 : a'.eval (.tmp 20) = .bool true := is_tq (hin 17 20 (by kernel_rfl) (by kernel_rfl)) rfl
      exact wp_move (.tmp 20) rfl _ e0 ⟨_, rfl, tq_is _ _ _ _ rfl, Kept.refl _ _, fun _ _ _ _ _ => trivial⟩
    | 19, ho, hsk =>
      obtain rfl := Option.some.inj ho
      exact o_fld23_2 (.tmp 1) rfl b1 ((hout 1 (by kernel_rfl)).trans rfl) ⟨_, rfl, tq_is _ _ _ _ rfl, Kept.refl _ _, fun _ _ _ _ _ => trivial⟩
    | 20, ho, hsk =>
      obtain rfl := Option.some.inj ho
      have e0 : a'.eval (.tmp 22) = .pointer (some ⟨b1, 2, none⟩) := is_tq (hin 19 22 (by kernel_rfl) (by kernel_rfl)) rfl
      exact q_load3 (.tmp 22) rfl _ _ e0 (fits_cell ((unhide HB).kept hk2 (by simp)) 2 _ rfl) ⟨_, rfl, tq_is _ _ _ _ rfl, Kept.refl _ _, fun _ _ _ _ _ => trivial⟩
    | 21, ho, hsk =>
      obtain rfl := Option.some.inj ho
      have e0 : a'.eval (.tmp 23) = .int .i64 J.f := is_tq (hin 20 23 (by kernel_rfl) (by kernel_rfl)) rfl
      exact o_geqc3 (.tmp 23) 1 rfl _ _ c4 e0 ⟨_, rfl, tq_is _ _ _ _ rfl, Kept.refl _ _, fun _ _ _ _ _ => trivial⟩
    | 22, ho, hsk =>
      obtain rfl := Option.some.inj ho
      have e0 : a'.eval (.tmp 21) = .bool true := is_tq (hin 18 21 (by kernel_rfl) (by kernel_rfl)) rfl
      have e1 : a'.eval (.tmp 24) = .bool true := is_tq (hin 21 24 (by kernel_rfl) (by kernel_rfl)) rfl
      exact o_pick (.tmp 21) (.tmp 24) rfl _ e0 e1 ⟨_, rfl, tq_is _ _ _ _ rfl, Kept.refl _ _, fun _ _ _ _ _ => trivial⟩
    | 23, ho, hsk =>
      obtain rfl := Option.some.inj ho
      have e0 : a'.eval (.tmp 25) = .bool true := is_tq (hin 22 25 (by kernel_rfl) (by kernel_rfl)) rfl
      exact wp_move (.tmp 25) rfl _ e0 ⟨_, rfl, tq_is _ _ _ _ rfl, Kept.refl _ _, fun _ _ _ _ _ => trivial⟩
    | 24, ho, hsk =>
      obtain rfl := Option.some.inj ho
      exact o_fld23_2 (.tmp 1) rfl b1 ((hout 1 (by kernel_rfl)).trans rfl) ⟨_, rfl, tq_is _ _ _ _ rfl, Kept.refl _ _, fun _ _ _ _ _ => trivial⟩
    | 25, ho, hsk =>
      obtain rfl := Option.some.inj ho
      have e0 : a'.eval (.tmp 27) = .pointer (some ⟨b1, 2, none⟩) := is_tq (hin 24 27 (by kernel_rfl) (by kernel_rfl)) rfl
      exact q_load3 (.tmp 27) rfl _ _ e0 (fits_cell ((unhide HB).kept hk2 (by simp)) 2 _ rfl) ⟨_, rfl, tq_is _ _ _ _ rfl, Kept.refl _ _, fun _ _ _ _ _ => trivial⟩
    | 26, ho, hsk =>
      obtain rfl := Option.some.inj ho
      have e0 : a'.eval (.tmp 28) = .int .i64 J.f := is_tq (hin 25 28 (by kernel_rfl) (by kernel_rfl)) rfl
      exact o_leqc3 (.tmp 28) 16 rfl _ _ c5 e0 ⟨_, rfl, tq_is _ _ _ _ rfl, Kept.refl _ _, fun _ _ _ _ _ => trivial⟩
    | 27, ho, hsk =>
      obtain rfl := Option.some.inj ho
      have e0 : a'.eval (.tmp 26) = .bool true := is_tq (hin 23 26 (by kernel_rfl) (by kernel_rfl)) rfl
      have e1 : a'.eval (.tmp 29) = .bool true := is_tq (hin 26 29 (by kernel_rfl) (by kernel_rfl)) rfl
      exact o_pick (.tmp 26) (.tmp 29) rfl _ e0 e1 ⟨_, rfl, tq_is _ _ _ _ rfl, Kept.refl _ _, fun _ _ _ _ _ => trivial⟩
    | 28, ho, hsk =>
      obtain rfl := Option.some.inj ho
      have e0 : a'.eval (.tmp 30) = .bool true := is_tq (hin 27 30 (by kernel_rfl) (by kernel_rfl)) rfl
      exact wp_move (.tmp 30) rfl _ e0 ⟨_, rfl, tq_is _ _ _ _ rfl, Kept.refl _ _, fun _ _ _ _ _ => trivial⟩
    | 29, ho, hsk =>
      obtain rfl := Option.some.inj ho
      exact o_fld23_3 (.tmp 1) rfl b1 ((hout 1 (by kernel_rfl)).trans rfl) ⟨_, rfl, tq_is _ _ _ _ rfl, Kept.refl _ _, fun _ _ _ _ _ => trivial⟩
    | 30, ho, hsk =>
      obtain rfl := Option.some.inj ho
      have e0 : a'.eval (.tmp 32) = .pointer (some ⟨b1, 3, none⟩) := is_tq (hin 29 32 (by kernel_rfl) (by kernel_rfl)) rfl
      exact q_load3 (.tmp 32) rfl _ _ e0 (fits_cell ((unhide HB).kept hk2 (by simp)) 3 _ rfl) ⟨_, rfl, tq_is _ _ _ _ rfl, Kept.refl _ _, fun _ _ _ _ _ => trivial⟩
    | 31, ho, hsk =>
      obtain rfl := Option.some.inj ho
      have e0 : a'.eval (.tmp 33) = .int .i64 J.l := is_tq (hin 30 33 (by kernel_rfl) (by kernel_rfl)) rfl
      exact o_geqc3 (.tmp 33) 2 rfl _ _ c6 e0 ⟨_, rfl, tq_is _ _ _ _ rfl, Kept.refl _ _, fun _ _ _ _ _ => trivial⟩
    | 32, ho, hsk =>
      obtain rfl := Option.some.inj ho
      have e0 : a'.eval (.tmp 31) = .bool true := is_tq (hin 28 31 (by kernel_rfl) (by kernel_rfl)) rfl
      have e1 : a'.eval (.tmp 34) = .bool true := is_tq (hin 31 34 (by kernel_rfl) (by kernel_rfl)) rfl
      exact o_pick (.tmp 31) (.tmp 34) rfl _ e0 e1 ⟨_, rfl, tq_is _ _ _ _ rfl, Kept.refl _ _, fun _ _ _ _ _ => trivial⟩
    | 33, ho, hsk =>
      obtain rfl := Option.some.inj ho
      have e0 : a'.eval (.tmp 35) = .bool true := is_tq (hin 32 35 (by kernel_rfl) (by kernel_rfl)) rfl
      exact wp_move (.tmp 35) rfl _ e0 ⟨_, rfl, tq_is _ _ _ _ rfl, Kept.refl _ _, fun _ _ _ _ _ => trivial⟩
    | 34, ho, hsk =>
      obtain rfl := Option.some.inj ho
      exact o_fld23_3 (.tmp 1) rfl b1 ((hout 1 (by kernel_rfl)).trans rfl) ⟨_, rfl, tq_is _ _ _ _ rfl, Kept.refl _ _, fun _ _ _ _ _ => trivial⟩
    | 35, ho, hsk =>
      obtain rfl := Option.some.inj ho
      have e0 : a'.eval (.tmp 37) = .pointer (some ⟨b1, 3, none⟩) := is_tq (hin 34 37 (by kernel_rfl) (by kernel_rfl)) rfl
      exact q_load3 (.tmp 37) rfl _ _ e0 (fits_cell ((unhide HB).kept hk2 (by simp)) 3 _ rfl) ⟨_, rfl, tq_is _ _ _ _ rfl, Kept.refl _ _, fun _ _ _ _ _ => trivial⟩
    | 36, ho, hsk =>
      obtain rfl := Option.some.inj ho
      have e0 : a'.eval (.tmp 38) = .int .i64 J.l := is_tq (hin 35 38 (by kernel_rfl) (by kernel_rfl)) rfl
      exact o_leqc3 (.tmp 38) 64 rfl _ _ c7 e0 ⟨_, rfl, tq_is _ _ _ _ rfl, Kept.refl _ _, fun _ _ _ _ _ => trivial⟩
    | 37, ho, hsk =>
      obtain rfl := Option.some.inj ho
      have e0 : a'.eval (.tmp 36) = .bool true := is_tq (hin 33 36 (by kernel_rfl) (by kernel_rfl)) rfl
      have e1 : a'.eval (.tmp 39) = .bool false := is_tq (hin 36 39 (by kernel_rfl) (by kernel_rfl)) rfl
      exact o_pick (.tmp 36) (.tmp 39) rfl _ e0 e1 ⟨_, rfl, tq_is _ _ _ _ rfl, Kept.refl _ _, fun _ _ _ _ _ => trivial⟩
    | 38, ho, hsk =>
      obtain rfl := Option.some.inj ho
      have e0 : a'.eval (.tmp 40) = .bool false := is_tq (hin 37 40 (by kernel_rfl) (by kernel_rfl)) rfl
      exact wp_move (.tmp 40) rfl _ e0 ⟨_, rfl, tq_is _ _ _ _ rfl, Kept.refl _ _, fun _ _ _ _ _ => trivial⟩
    | 39, ho, hsk =>
      cases hsk
    | 40, ho, hsk =>
      cases hsk
    | 41, ho, hsk =>
      cases hsk
    | 42, ho, hsk =>
      obtain rfl := Option.some.inj ho
      have e0 : a'.eval (.tmp 41) = .bool false := is_tq (hin 38 41 (by kernel_rfl) (by kernel_rfl)) rfl
      exact o_pickN (.tmp 41) (.tmp 44) rfl e0 ⟨_, rfl, tq_is _ _ _ _ rfl, Kept.refl _ _, fun _ _ _ _ _ => trivial⟩
    | 43, ho, hsk =>
      obtain rfl := Option.some.inj ho
      have e0 : a'.eval (.tmp 45) = .bool false := is_tq (hin 42 45 (by kernel_rfl) (by kernel_rfl)) rfl
      exact wp_move (.tmp 45) rfl _ e0 ⟨_, rfl, tq_is _ _ _ _ rfl, Kept.refl _ _, fun _ _ _ _ _ => trivial⟩
    | 44, ho, hsk =>
      cases hsk
    | 45, ho, hsk =>
      cases hsk
    | 46, ho, hsk =>
      cases hsk
    | 47, ho, hsk =>
      obtain rfl := Option.some.inj ho
      have e0 : a'.eval (.tmp 46) = .bool false := is_tq (hin 43 46 (by kernel_rfl) (by kernel_rfl)) rfl
      exact o_pickN (.tmp 46) (.tmp 49) rfl e0 ⟨_, rfl, tq_is _ _ _ _ rfl, Kept.refl _ _, fun _ _ _ _ _ => trivial⟩
    | 48, ho, hsk =>
      obtain rfl := Option.some.inj ho
      have e0 : a'.eval (.tmp 50) = .bool false := is_tq (hin 47 50 (by kernel_rfl) (by kernel_rfl)) rfl
      exact wp_assignV (.tmp 50) rfl _ e0 ⟨_, rfl, tq_is _ _ _ _ rfl, Kept.refl _ _, fun _ _ _ _ _ => trivial⟩
  intro w9 hk9
  replace hk9 : Kept [] V1 w9 := ⟨hk9.os, hk9.tape, hk9.output, hk9.size, hk9.block⟩
  simp only [valsQ, List.map_cons, List.map_nil, Option.getD_some, Option.getD_none, List.take_succ_cons, List.take_zero, putAll, Act.put, List.setIfInBounds_toArray, List.set_cons_succ, List.set_cons_zero]
  go_wp2_with fail
  go_ret
  exact ⟨rfl, (unhide HK).trans hk9⟩
set_option maxHeartbeats 4000000 in
theorem rmay_8 (J : Ar.Job) (w : World) (c0 : decide ((2 : Int) ≤ J.n) = true) (c1 : decide (J.n ≤ 8) = true) (c2 : decide ((1 : Int) ≤ J.p) = true) (c3 : decide (J.p ≤ 16) = true) (c4 : decide ((1 : Int) ≤ J.f) = true) (c5 : decide (J.f ≤ 16) = true) (c6 : decide ((2 : Int) ≤ J.l) = true) (c7 : decide (J.l ≤ 64) = true) (c8 : decide ((2 : Int) ≤ J.t) = false) : Calls Tryd.prog 8 #[aggV (Ar.jobC J)] w fun e w' => e = .returned (.bool false) ∧ Kept [] w w' := by
  go_enter Tryd.func8, Tryd.ntmps8
  go_wp2_with (
    first
    | (refine wpBoxV (by rfl) (.tmp 0) (by rfl) (Ar.jobC J) (by kernel_rfl) ?_
       intro V1 b1 e1 B1 K1
       have HB := hide B1
       have HK := hide K1
       clear e1 B1 K1
       refine Stp.go ?_))
  constructor
  go_upto_region 1 with fail
  refine wp_text_tq 49 rfl (by kernel_rfl) [some (.pointer (some ⟨b1, 0, none⟩)), some (.int .i64 J.n), some (.bool true), some (.bool true), some (.pointer (some ⟨b1, 0, none⟩)), some (.int .i64 J.n), some (.bool true), some (.bool true), some (.bool true), some (.pointer (some ⟨b1, 1, none⟩)), some (.int .i64 J.p), some (.bool true), some (.bool true), some (.bool true), some (.pointer (some ⟨b1, 1, none⟩)), some (.int .i64 J.p), some (.bool true), some (.bool true), some (.bool true), some (.pointer (some ⟨b1, 2, none⟩)), some (.int .i64 J.f), some (.bool true), some (.bool true), some (.bool true), some (.pointer (some ⟨b1, 2, none⟩)), some (.int .i64 J.f), some (.bool true), some (.bool true), some (.bool true), some (.pointer (some ⟨b1, 3, none⟩)), some (.int .i64 J.l), some (.bool true), some (.bool true), some (.bool true), some (.pointer (some ⟨b1, 3, none⟩)), some (.int .i64 J.l), some (.bool true), some (.bool true), some (.bool true), some (.pointer (some ⟨b1, 4, none⟩)), some (.int .i64 J.t), some (.bool false), some (.bool false), some (.bool false), none, none, none, some (.bool false), some (.bool false)] rfl (by kernel_rfl) (by kernel_rfl) ?_ ?_
  · intro i o' hi hsk ho a' w2 hout hin hk2
    replace hk2 : Kept [] V1 w2 := ⟨hk2.os, hk2.tape, hk2.output, hk2.size, hk2.block⟩
    match i, ho, hsk with
    | 0, ho, hsk =>
      obtain rfl := Option.some.inj ho
      exact o_fld23_0 (.tmp 1) rfl b1 ((hout 1 (by kernel_rfl)).trans rfl) ⟨_, rfl, tq_is _ _ _ _ rfl, Kept.refl _ _, fun _ _ _ _ _ => trivial⟩
    | 1, ho, hsk =>
      obtain rfl := Option.some.inj ho
      have e0 : a'.eval (.tmp 3) = .pointer (some ⟨b1, 0, none⟩) := is_tq (hin 0 3 (by kernel_rfl) (by kernel_rfl)) rfl
      exact q_load3 (.tmp 3) rfl _ _ e0 (fits_cell ((unhide HB).kept hk2 (by simp)) 0 _ rfl) ⟨_, rfl, tq_is _ _ _ _ rfl, Kept.refl _ _, fun _ _ _ _ _ => trivial⟩
    | 2, ho, hsk =>
      obtain rfl := Option.some.inj ho
      have e0 : a'.eval (.tmp 4) = .int .i64 J.n := is_tq (hin 1 4 (by kernel_rfl) (by kernel_rfl)) rfl
      exact o_geqc3 (.tmp 4) 2 rfl _ _ c0 e0 ⟨_, rfl, tq_is _ _ _ _ rfl, Kept.refl _ _, fun _ _ _ _ _ => trivial⟩
    | 3, ho, hsk =>
      obtain rfl := Option.some.inj ho
      have e0 : a'.eval (.tmp 5) = .bool true := is_tq (hin 2 5 (by kernel_rfl) (by kernel_rfl)) rfl
      exact wp_move (.tmp 5) rfl _ e0 ⟨_, rfl, tq_is _ _ _ _ rfl, Kept.refl _ _, fun _ _ _ _ _ => trivial⟩
    | 4, ho, hsk =>
      obtain rfl := Option.some.inj ho
      exact o_fld23_0 (.tmp 1) rfl b1 ((hout 1 (by kernel_rfl)).trans rfl) ⟨_, rfl, tq_is _ _ _ _ rfl, Kept.refl _ _, fun _ _ _ _ _ => trivial⟩
    | 5, ho, hsk =>
      obtain rfl := Option.some.inj ho
      have e0 : a'.eval (.tmp 7) = .pointer (some ⟨b1, 0, none⟩) := is_tq (hin 4 7 (by kernel_rfl) (by kernel_rfl)) rfl
      exact q_load3 (.tmp 7) rfl _ _ e0 (fits_cell ((unhide HB).kept hk2 (by simp)) 0 _ rfl) ⟨_, rfl, tq_is _ _ _ _ rfl, Kept.refl _ _, fun _ _ _ _ _ => trivial⟩
    | 6, ho, hsk =>
      obtain rfl := Option.some.inj ho
      have e0 : a'.eval (.tmp 8) = .int .i64 J.n := is_tq (hin 5 8 (by kernel_rfl) (by kernel_rfl)) rfl
      exact o_leqc3 (.tmp 8) 8 rfl _ _ c1 e0 ⟨_, rfl, tq_is _ _ _ _ rfl, Kept.refl _ _, fun _ _ _ _ _ => trivial⟩
    | 7, ho, hsk =>
      obtain rfl := Option.some.inj ho
      have e0 : a'.eval (.tmp 6) = .bool true := is_tq (hin 3 6 (by kernel_rfl) (by kernel_rfl)) rfl
      have e1 : a'.eval (.tmp 9) = .bool true := is_tq (hin 6 9 (by kernel_rfl) (by kernel_rfl)) rfl
      exact o_pick (.tmp 6) (.tmp 9) rfl _ e0 e1 ⟨_, rfl, tq_is _ _ _ _ rfl, Kept.refl _ _, fun _ _ _ _ _ => trivial⟩
    | 8, ho, hsk =>
      obtain rfl := Option.some.inj ho
      have e0 : a'.eval (.tmp 10) = .bool true := is_tq (hin 7 10 (by kernel_rfl) (by kernel_rfl)) rfl
      exact wp_move (.tmp 10) rfl _ e0 ⟨_, rfl, tq_is _ _ _ _ rfl, Kept.refl _ _, fun _ _ _ _ _ => trivial⟩
    | 9, ho, hsk =>
      obtain rfl := Option.some.inj ho
      exact o_fld23_1 (.tmp 1) rfl b1 ((hout 1 (by kernel_rfl)).trans rfl) ⟨_, rfl, tq_is _ _ _ _ rfl, Kept.refl _ _, fun _ _ _ _ _ => trivial⟩
    | 10, ho, hsk =>
      obtain rfl := Option.some.inj ho
      have e0 : a'.eval (.tmp 12) = .pointer (some ⟨b1, 1, none⟩) := is_tq (hin 9 12 (by kernel_rfl) (by kernel_rfl)) rfl
      exact q_load3 (.tmp 12) rfl _ _ e0 (fits_cell ((unhide HB).kept hk2 (by simp)) 1 _ rfl) ⟨_, rfl, tq_is _ _ _ _ rfl, Kept.refl _ _, fun _ _ _ _ _ => trivial⟩
    | 11, ho, hsk =>
      obtain rfl := Option.some.inj ho
      have e0 : a'.eval (.tmp 13) = .int .i64 J.p := is_tq (hin 10 13 (by kernel_rfl) (by kernel_rfl)) rfl
      exact o_geqc3 (.tmp 13) 1 rfl _ _ c2 e0 ⟨_, rfl, tq_is _ _ _ _ rfl, Kept.refl _ _, fun _ _ _ _ _ => trivial⟩
    | 12, ho, hsk =>
      obtain rfl := Option.some.inj ho
      have e0 : a'.eval (.tmp 11) = .bool true := is_tq (hin 8 11 (by kernel_rfl) (by kernel_rfl)) rfl
      have e1 : a'.eval (.tmp 14) = .bool true := is_tq (hin 11 14 (by kernel_rfl) (by kernel_rfl)) rfl
      exact o_pick (.tmp 11) (.tmp 14) rfl _ e0 e1 ⟨_, rfl, tq_is _ _ _ _ rfl, Kept.refl _ _, fun _ _ _ _ _ => trivial⟩
    | 13, ho, hsk =>
      obtain rfl := Option.some.inj ho
      have e0 : a'.eval (.tmp 15) = .bool true := is_tq (hin 12 15 (by kernel_rfl) (by kernel_rfl)) rfl
      exact wp_move (.tmp 15) rfl _ e0 ⟨_, rfl, tq_is _ _ _ _ rfl, Kept.refl _ _, fun _ _ _ _ _ => trivial⟩
    | 14, ho, hsk =>
      obtain rfl := Option.some.inj ho
      exact o_fld23_1 (.tmp 1) rfl b1 ((hout 1 (by kernel_rfl)).trans rfl) ⟨_, rfl, tq_is _ _ _ _ rfl, Kept.refl _ _, fun _ _ _ _ _ => trivial⟩
    | 15, ho, hsk =>
      obtain rfl := Option.some.inj ho
      have e0 : a'.eval (.tmp 17) = .pointer (some ⟨b1, 1, none⟩) := is_tq (hin 14 17 (by kernel_rfl) (by kernel_rfl)) rfl
      exact q_load3 (.tmp 17) rfl _ _ e0 (fits_cell ((unhide HB).kept hk2 (by simp)) 1 _ rfl) ⟨_, rfl, tq_is _ _ _ _ rfl, Kept.refl _ _, fun _ _ _ _ _ => trivial⟩
    | 16, ho, hsk =>
      obtain rfl := Option.some.inj ho
      have e0 : a'.eval (.tmp 18) = .int .i64 J.p := is_tq (hin 15 18 (by kernel_rfl) (by kernel_rfl)) rfl
      exact o_leqc3 (.tmp 18) 16 rfl _ _ c3 e0 ⟨_, rfl, tq_is _ _ _ _ rfl, Kept.refl _ _, fun _ _ _ _ _ => trivial⟩
    | 17, ho, hsk =>
      obtain rfl := Option.some.inj ho
      have e0 : a'.eval (.tmp 16) = .bool true := is_tq (hin 13 16 (by kernel_rfl) (by kernel_rfl)) rfl
      have e1 : a'.eval (.tmp 19) = .bool true := is_tq (hin 16 19 (by kernel_rfl) (by kernel_rfl)) rfl
      exact o_pick (.tmp 16) (.tmp 19) rfl _ e0 e1 ⟨_, rfl, tq_is _ _ _ _ rfl, Kept.refl _ _, fun _ _ _ _ _ => trivial⟩
    | 18, ho, hsk =>
      obtain rfl := Option.some.inj ho
      have e0 : a'.eval (.tmp 20) = .bool true := is_tq (hin 17 20 (by kernel_rfl) (by kernel_rfl)) rfl
      exact wp_move (.tmp 20) rfl _ e0 ⟨_, rfl, tq_is _ _ _ _ rfl, Kept.refl _ _, fun _ _ _ _ _ => trivial⟩
    | 19, ho, hsk =>
      obtain rfl := Option.some.inj ho
      exact o_fld23_2 (.tmp 1) rfl b1 ((hout 1 (by kernel_rfl)).trans rfl) ⟨_, rfl, tq_is _ _ _ _ rfl, Kept.refl _ _, fun _ _ _ _ _ => trivial⟩
    | 20, ho, hsk =>
      obtain rfl := Option.some.inj ho
      have e0 : a'.eval (.tmp 22) = .pointer (some ⟨b1, 2, none⟩) := is_tq (hin 19 22 (by kernel_rfl) (by kernel_rfl)) rfl
      exact q_load3 (.tmp 22) rfl _ _ e0 (fits_cell ((unhide HB).kept hk2 (by simp)) 2 _ rfl) ⟨_, rfl, tq_is _ _ _ _ rfl, Kept.refl _ _, fun _ _ _ _ _ => trivial⟩
    | 21, ho, hsk =>
      obtain rfl := Option.some.inj ho
      have e0 : a'.eval (.tmp 23) = .int .i64 J.f := is_tq (hin 20 23 (by kernel_rfl) (by kernel_rfl)) rfl
      exact o_geqc3 (.tmp 23) 1 rfl _ _ c4 e0 ⟨_, rfl, tq_is _ _ _ _ rfl, Kept.refl _ _, fun _ _ _ _ _ => trivial⟩
    | 22, ho, hsk =>
      obtain rfl := Option.some.inj ho
      have e0 : a'.eval (.tmp 21) = .bool true := is_tq (hin 18 21 (by kernel_rfl) (by kernel_rfl)) rfl
      have e1 : a'.eval (.tmp 24) = .bool true := is_tq (hin 21 24 (by kernel_rfl) (by kernel_rfl)) rfl
      exact o_pick (.tmp 21) (.tmp 24) rfl _ e0 e1 ⟨_, rfl, tq_is _ _ _ _ rfl, Kept.refl _ _, fun _ _ _ _ _ => trivial⟩
    | 23, ho, hsk =>
      obtain rfl := Option.some.inj ho
      have e0 : a'.eval (.tmp 25) = .bool true := is_tq (hin 22 25 (by kernel_rfl) (by kernel_rfl)) rfl
      exact wp_move (.tmp 25) rfl _ e0 ⟨_, rfl, tq_is _ _ _ _ rfl, Kept.refl _ _, fun _ _ _ _ _ => trivial⟩
    | 24, ho, hsk =>
      obtain rfl := Option.some.inj ho
      exact o_fld23_2 (.tmp 1) rfl b1 ((hout 1 (by kernel_rfl)).trans rfl) ⟨_, rfl, tq_is _ _ _ _ rfl, Kept.refl _ _, fun _ _ _ _ _ => trivial⟩
    | 25, ho, hsk =>
      obtain rfl := Option.some.inj ho
      have e0 : a'.eval (.tmp 27) = .pointer (some ⟨b1, 2, none⟩) := is_tq (hin 24 27 (by kernel_rfl) (by kernel_rfl)) rfl
      exact q_load3 (.tmp 27) rfl _ _ e0 (fits_cell ((unhide HB).kept hk2 (by simp)) 2 _ rfl) ⟨_, rfl, tq_is _ _ _ _ rfl, Kept.refl _ _, fun _ _ _ _ _ => trivial⟩
    | 26, ho, hsk =>
      obtain rfl := Option.some.inj ho
      have e0 : a'.eval (.tmp 28) = .int .i64 J.f := is_tq (hin 25 28 (by kernel_rfl) (by kernel_rfl)) rfl
      exact o_leqc3 (.tmp 28) 16 rfl _ _ c5 e0 ⟨_, rfl, tq_is _ _ _ _ rfl, Kept.refl _ _, fun _ _ _ _ _ => trivial⟩
    | 27, ho, hsk =>
      obtain rfl := Option.some.inj ho
      have e0 : a'.eval (.tmp 26) = .bool true := is_tq (hin 23 26 (by kernel_rfl) (by kernel_rfl)) rfl
      have e1 : a'.eval (.tmp 29) = .bool true := is_tq (hin 26 29 (by kernel_rfl) (by kernel_rfl)) rfl
      exact o_pick (.tmp 26) (.tmp 29) rfl _ e0 e1 ⟨_, rfl, tq_is _ _ _ _ rfl, Kept.refl _ _, fun _ _ _ _ _ => trivial⟩
    | 28, ho, hsk =>
      obtain rfl := Option.some.inj ho
      have e0 : a'.eval (.tmp 30) = .bool true := is_tq (hin 27 30 (by kernel_rfl) (by kernel_rfl)) rfl
      exact wp_move (.tmp 30) rfl _ e0 ⟨_, rfl, tq_is _ _ _ _ rfl, Kept.refl _ _, fun _ _ _ _ _ => trivial⟩
    | 29, ho, hsk =>
      obtain rfl := Option.some.inj ho
      exact o_fld23_3 (.tmp 1) rfl b1 ((hout 1 (by kernel_rfl)).trans rfl) ⟨_, rfl, tq_is _ _ _ _ rfl, Kept.refl _ _, fun _ _ _ _ _ => trivial⟩
    | 30, ho, hsk =>
      obtain rfl := Option.some.inj ho
      have e0 : a'.eval (.tmp 32) = .pointer (some ⟨b1, 3, none⟩) := is_tq (hin 29 32 (by kernel_rfl) (by kernel_rfl)) rfl
      exact q_load3 (.tmp 32) rfl _ _ e0 (fits_cell ((unhide HB).kept hk2 (by simp)) 3 _ rfl) ⟨_, rfl, tq_is _ _ _ _ rfl, Kept.refl _ _, fun _ _ _ _ _ => trivial⟩
    | 31, ho, hsk =>
      obtain rfl := Option.some.inj ho
      have e0 : a'.eval (.tmp 33) = .int .i64 J.l := is_tq (hin 30 33 (by kernel_rfl) (by kernel_rfl)) rfl
      exact o_geqc3 (.tmp 33) 2 rfl _ _ c6 e0 ⟨_, rfl, tq_is _ _ _ _ rfl, Kept.refl _ _, fun _ _ _ _ _ => trivial⟩
    | 32, ho, hsk =>
      obtain rfl := Option.some.inj ho
      have e0 : a'.eval (.tmp 31) = .bool true := is_tq (hin 28 31 (by kernel_rfl) (by kernel_rfl)) rfl
      have e1 : a'.eval (.tmp 34) = .bool true := is_tq (hin 31 34 (by kernel_rfl) (by kernel_rfl)) rfl
      exact o_pick (.tmp 31) (.tmp 34) rfl _ e0 e1 ⟨_, rfl, tq_is _ _ _ _ rfl, Kept.refl _ _, fun _ _ _ _ _ => trivial⟩
    | 33, ho, hsk =>
      obtain rfl := Option.some.inj ho
      have e0 : a'.eval (.tmp 35) = .bool true := is_tq (hin 32 35 (by kernel_rfl) (by kernel_rfl)) rfl
      exact wp_move (.tmp 35) rfl _ e0 ⟨_, rfl, tq_is _ _ _ _ rfl, Kept.refl _ _, fun _ _ _ _ _ => trivial⟩
    | 34, ho, hsk =>
      obtain rfl := Option.some.inj ho
      exact o_fld23_3 (.tmp 1) rfl b1 ((hout 1 (by kernel_rfl)).trans rfl) ⟨_, rfl, tq_is _ _ _ _ rfl, Kept.refl _ _, fun _ _ _ _ _ => trivial⟩
    | 35, ho, hsk =>
      obtain rfl := Option.some.inj ho
      have e0 : a'.eval (.tmp 37) = .pointer (some ⟨b1, 3, none⟩) := is_tq (hin 34 37 (by kernel_rfl) (by kernel_rfl)) rfl
      exact q_load3 (.tmp 37) rfl _ _ e0 (fits_cell ((unhide HB).kept hk2 (by simp)) 3 _ rfl) ⟨_, rfl, tq_is _ _ _ _ rfl, Kept.refl _ _, fun _ _ _ _ _ => trivial⟩
    | 36, ho, hsk =>
      obtain rfl := Option.some.inj ho
      have e0 : a'.eval (.tmp 38) = .int .i64 J.l := is_tq (hin 35 38 (by kernel_rfl) (by kernel_rfl)) rfl
      exact o_leqc3 (.tmp 38) 64 rfl _ _ c7 e0 ⟨_, rfl, tq_is _ _ _ _ rfl, Kept.refl _ _, fun _ _ _ _ _ => trivial⟩
    | 37, ho, hsk =>
      obtain rfl := Option.some.inj ho
      have e0 : a'.eval (.tmp 36) = .bool true := is_tq (hin 33 36 (by kernel_rfl) (by kernel_rfl)) rfl
      have e1 : a'.eval (.tmp 39) = .bool true := is_tq (hin 36 39 (by kernel_rfl) (by kernel_rfl)) rfl
      exact o_pick (.tmp 36) (.tmp 39) rfl _ e0 e1 ⟨_, rfl, tq_is _ _ _ _ rfl, Kept.refl _ _, fun _ _ _ _ _ => trivial⟩
    | 38, ho, hsk =>
      obtain rfl := Option.some.inj ho
      have e0 : a'.eval (.tmp 40) = .bool true := is_tq (hin 37 40 (by kernel_rfl) (by kernel_rfl)) rfl
      exact wp_move (.tmp 40) rfl _ e0 ⟨_, rfl, tq_is _ _ _ _ rfl, Kept.refl _ _, fun _ _ _ _ _ => trivial⟩
    | 39, ho, hsk =>
      obtain rfl := Option.some.inj ho
      exact o_fld23_4 (.tmp 1) rfl b1 ((hout 1 (by kernel_rfl)).trans rfl) ⟨_, rfl, tq_is _ _ _ _ rfl, Kept.refl _ _, fun _ _ _ _ _ => trivial⟩
    | 40, ho, hsk =>
      obtain rfl := Option.some.inj ho
      have e0 : a'.eval (.tmp 42) = .pointer (some ⟨b1, 4, none⟩) := is_tq (hin 39 42 (by kernel_rfl) (by kernel_rfl)) rfl
      exact q_load3 (.tmp 42) rfl _ _ e0 (fits_cell ((unhide HB).kept hk2 (by simp)) 4 _ rfl) ⟨_, rfl, tq_is _ _ _ _ rfl, Kept.refl _ _, fun _ _ _ _ _ => trivial⟩
    | 41, ho, hsk =>
      obtain rfl := Option.some.inj ho
      have e0 : a'.eval (.tmp 43) = .int .i64 J.t := is_tq (hin 40 43 (by kernel_rfl) (by kernel_rfl)) rfl
      exact o_geqc3 (.tmp 43) 2 rfl _ _ c8 e0 ⟨_, rfl, tq_is _ _ _ _ rfl, Kept.refl _ _, fun _ _ _ _ _ => trivial⟩
    | 42, ho, hsk =>
      obtain rfl := Option.some.inj ho
      have e0 : a'.eval (.tmp 41) = .bool true := is_tq (hin 38 41 (by kernel_rfl) (by kernel_rfl)) rfl
      have e1 : a'.eval (.tmp 44) = .bool false := is_tq (hin 41 44 (by kernel_rfl) (by kernel_rfl)) rfl
      exact o_pick (.tmp 41) (.tmp 44) rfl _ e0 e1 ⟨_, rfl, tq_is _ _ _ _ rfl, Kept.refl _ _, fun _ _ _ _ _ => trivial⟩
    | 43, ho, hsk =>
      obtain rfl := Option.some.inj ho
      have e0 : a'.eval (.tmp 45) = .bool false := is_tq (hin 42 45 (by kernel_rfl) (by kernel_rfl)) rfl
      exact wp_move (.tmp 45) rfl _ e0 ⟨_, rfl, tq_is _ _ _ _ rfl, Kept.refl _ _, fun _ _ _ _ _ => trivial⟩
    | 44, ho, hsk =>
      cases hsk
    | 45, ho, hsk =>
      cases hsk
    | 46, ho, hsk =>
      cases hsk
    | 47, ho, hsk =>
      obtain rfl := Option.some.inj ho
      have e0 : a'.eval (.tmp 46) = .bool false := is_tq (hin 43 46 (by kernel_rfl) (by kernel_rfl)) rfl
      exact o_pickN (.tmp 46) (.tmp 49) rfl e0 ⟨_, rfl, tq_is _ _ _ _ rfl, Kept.refl _ _, fun _ _ _ _ _ => trivial⟩
    | 48, ho, hsk =>
      obtain rfl := Option.some.inj ho
      have e0 : a'.eval (.tmp 50) = .bool false := is_tq (hin 47 50 (by kernel_rfl) (by kernel_rfl)) rfl
      exact wp_assignV (.tmp 50) rfl _ e0 ⟨_, rfl, tq_is _ _ _ _ rfl, Kept.refl _ _, fun _ _ _ _ _ => trivial⟩
  intro w9 hk9
  replace hk9 : Kept [] V1 w9 := ⟨hk9.os, hk9.tape, hk9.output, hk9.size, hk9.block⟩
  simp only [valsQ, List.map_cons, List.map_nil, Option.getD_some, Option.getD_none, List.take_succ_cons, List.take_zero, putAll, Act.put, List.setIfInBounds_toArray, List.set_cons_succ, List.set_cons_zero]
  go_wp2_with fail
  go_ret
  exact ⟨rfl, (unhide HK).trans hk9⟩
set_option maxHeartbeats 4000000 in
theorem rmay_9 (J : Ar.Job) (w : World) (c0 : decide ((2 : Int) ≤ J.n) = true) (c1 : decide (J.n ≤ 8) = true) (c2 : decide ((1 : Int) ≤ J.p) = true) (c3 : decide (J.p ≤ 16) = true) (c4 : decide ((1 : Int) ≤ J.f) = true) (c5 : decide (J.f ≤ 16) = true) (c6 : decide ((2 : Int) ≤ J.l) = true) (c7 : decide (J.l ≤ 64) = true) (c8 : decide ((2 : Int) ≤ J.t) = true) (c9 : decide (J.t ≤ 100) = false) : Calls Tryd.prog 8 #[aggV (Ar.jobC J)] w fun e w' => e = .returned (.bool false) ∧ Kept [] w w' := by
  go_enter Tryd.func8, Tryd.ntmps8
  go_wp2_with (
    first
    | (refine wpBoxV (by rfl) (.tmp 0) (by rfl) (Ar.jobC J) (by kernel_rfl) ?_
       intro V1 b1 e1 B1 K1
       have HB := hide B1
       have HK := hide K1
       clear e1 B1 K1
       refine Stp.go ?_))
  constructor
  go_upto_region 1 with fail
  refine wp_text_tq 49 rfl (by kernel_rfl) [some (.pointer (some ⟨b1, 0, none⟩)), some (.int .i64 J.n), some (.bool true), some (.bool true), some (.pointer (some ⟨b1, 0, none⟩)), some (.int .i64 J.n), some (.bool true), some (.bool true), some (.bool true), some (.pointer (some ⟨b1, 1, none⟩)), some (.int .i64 J.p), some (.bool true), some (.bool true), some (.bool true), some (.pointer (some ⟨b1, 1, none⟩)), some (.int .i64 J.p), some (.bool true), some (.bool true), some (.bool true), some (.pointer (some ⟨b1, 2, none⟩)), some (.int .i64 J.f), some (.bool true), some (.bool true), some (.bool true), some (.pointer (some ⟨b1, 2, none⟩)), some (.int .i64 J.f), some (.bool true), some (.bool true), some (.bool true), some (.pointer (some ⟨b1, 3, none⟩)), some (.int .i64 J.l), some (.bool true), some (.bool true), some (.bool true), some (.pointer (some ⟨b1, 3, none⟩)), some (.int .i64 J.l), some (.bool true), some (.bool true), some (.bool true), some (.pointer (some ⟨b1, 4, none⟩)), some (.int .i64 J.t), some (.bool true), some (.bool true), some (.bool true), some (.pointer (some ⟨b1, 4, none⟩)), some (.int .i64 J.t), some (.bool false), some (.bool false), some (.bool false)] rfl (by kernel_rfl) (by kernel_rfl) ?_ ?_
  · intro i o' hi hsk ho a' w2 hout hin hk2
    replace hk2 : Kept [] V1 w2 := ⟨hk2.os, hk2.tape, hk2.output, hk2.size, hk2.block⟩
    match i, ho, hsk with
    | 0, ho, hsk =>
      obtain rfl := Option.some.inj ho
      exact o_fld23_0 (.tmp 1) rfl b1 ((hout 1 (by kernel_rfl)).trans rfl) ⟨_, rfl, tq_is _ _ _ _ rfl, Kept.refl _ _, fun _ _ _ _ _ => trivial⟩
    | 1, ho, hsk =>
      obtain rfl := Option.some.inj ho
      have e0 : a'.eval (.tmp 3) = .pointer (some ⟨b1, 0, none⟩) := is_tq (hin 0 3 (by kernel_rfl) (by kernel_rfl)) rfl
      exact q_load3 (.tmp 3) rfl _ _ e0 (fits_cell ((unhide HB).kept hk2 (by simp)) 0 _ rfl) ⟨_, rfl, tq_is _ _ _ _ rfl, Kept.refl _ _, fun _ _ _ _ _ => trivial⟩
    | 2, ho, hsk =>
      obtain rfl := Option.some.inj ho
      have e0 : a'.eval (.tmp 4) = .int .i64 J.n := is_tq (hin 1 4 (by kernel_rfl) (by kernel_rfl)) rfl
      exact o_geqc3 (.tmp 4) 2 rfl _ _ c0 e0 ⟨_, rfl, tq_is _ _ _ _ rfl, Kept.refl _ _, fun _ _ _ _ _ => trivial⟩
    | 3, ho, hsk =>
      obtain rfl := Option.some.inj ho
      have e0 : a'.eval (.tmp 5) = .bool true := is_tq (hin 2 5 (by kernel_rfl) (by kernel_rfl)) rfl
      exact wp_move (.tmp 5) rfl _ e0 ⟨_, rfl, tq_is _ _ _ _ rfl, Kept.refl _ _, fun _ _ _ _ _ => trivial⟩
    | 4, ho, hsk =>
      obtain rfl := Option.some.inj ho
      exact o_fld23_0 (.tmp 1) rfl b1 ((hout 1 (by kernel_rfl)).trans rfl) ⟨_, rfl, tq_is _ _ _ _ rfl, Kept.refl _ _, fun _ _ _ _ _ => trivial⟩
    | 5, ho, hsk =>
      obtain rfl := Option.some.inj ho
      have e0 : a'.eval (.tmp 7) = .pointer (some ⟨b1, 0, none⟩) := is_tq (hin 4 7 (by kernel_rfl) (by kernel_rfl)) rfl
      exact q_load3 (.tmp 7) rfl _ _ e0 (fits_cell ((unhide HB).kept hk2 (by simp)) 0 _ rfl) ⟨_, rfl, tq_is _ _ _ _ rfl, Kept.refl _ _, fun _ _ _ _ _ => trivial⟩
    | 6, ho, hsk =>
      obtain rfl := Option.some.inj ho
      have e0 : a'.eval (.tmp 8) = .int .i64 J.n := is_tq (hin 5 8 (by kernel_rfl) (by kernel_rfl)) rfl
      exact o_leqc3 (.tmp 8) 8 rfl _ _ c1 e0 ⟨_, rfl, tq_is _ _ _ _ rfl, Kept.refl _ _, fun _ _ _ _ _ => trivial⟩
    | 7, ho, hsk =>
      obtain rfl := Option.some.inj ho
      have e0 : a'.eval (.tmp 6) = .bool true := is_tq (hin 3 6 (by kernel_rfl) (by kernel_rfl)) rfl
      have e1 : a'.eval (.tmp 9) = .bool true := is_tq (hin 6 9 (by kernel_rfl) (by kernel_rfl)) rfl
      exact o_pick (.tmp 6) (.tmp 9) rfl _ e0 e1 ⟨_, rfl, tq_is _ _ _ _ rfl, Kept.refl _ _, fun _ _ _ _ _ => trivial⟩
    | 8, ho, hsk =>
      obtain rfl := Option.some.inj ho
      have e0 : a'.eval (.tmp 10) = .bool true := is_tq (hin 7 10 (by kernel_rfl) (by kernel_rfl)) rfl
      exact wp_move (.tmp 10) rfl _ e0 ⟨_, rfl, tq_is _ _ _ _ rfl, Kept.refl _ _, fun _ _ _ _ _ => trivial⟩
    | 9, ho, hsk =>
      obtain rfl := Option.some.inj ho
      exact o_fld23_1 (.tmp 1) rfl b1 ((hout 1 (by kernel_rfl)).trans rfl) ⟨_, rfl, tq_is _ _ _ _ rfl, Kept.refl _ _, fun _ _ _ _ _ => trivial⟩
    | 10, ho, hsk =>
      obtain rfl := Option.some.inj ho
      have e0 : a'.eval (.tmp 12) = .pointer (some ⟨b1, 1, none⟩) := is_tq (hin 9 12 (by kernel_rfl) (by kernel_rfl)) rfl
      exact q_load3 (.tmp 12) rfl _ _ e0 (fits_cell ((unhide HB).kept hk2 (by simp)) 1 _ rfl) ⟨_, rfl, tq_is _ _ _ _ rfl, Kept.refl _ _, fun _ _ _ _ _ => trivial⟩
    | 11, ho, hsk =>
      obtain rfl := Option.some.inj ho
      have e0 : a'.eval (.tmp 13) = .int .i64 J.p := is_tq (hin 10 13 (by kernel_rfl) (by kernel_rfl)) rfl
      exact o_geqc3 (.tmp 13) 1 rfl _ _ c2 e0 ⟨_, rfl, tq_is _ _ _ _ rfl, Kept.refl _ _, fun _ _ _ _ _ => trivial⟩
    | 12, ho, hsk =>
      obtain rfl := Option.some.inj ho
      have e0 : a'.eval (.tmp 11) = .bool true := is_tq (hin 8 11 (by kernel_rfl) (by kernel_rfl)) rfl
      have e1 : a'.eval (.tmp 14) = .bool true := is_tq (hin 11 14 (by kernel_rfl) (by kernel_rfl)) rfl
      exact o_pick (.tmp 11) (.tmp 14) rfl _ e0 e1 ⟨_, rfl, tq_is _ _ _ _ rfl, Kept.refl _ _, fun _ _ _ _ _ => trivial⟩
    | 13, ho, hsk =>
      obtain rfl := Option.some.inj ho
      have e0 : a'.eval (.tmp 15) = .bool true := is_tq (hin 12 15 (by kernel_rfl) (by kernel_rfl)) rfl
      exact wp_move (.tmp 15) rfl _ e0 ⟨_, rfl, tq_is _ _ _ _ rfl, Kept.refl _ _, fun _ _ _ _ _ => trivial⟩
    | 14, ho, hsk =>
      obtain rfl := Option.some.inj ho
      exact o_fld23_1 (.tmp 1) rfl b1 ((hout 1 (by kernel_rfl)).trans rfl) ⟨_, rfl, tq_is _ _ _ _ rfl, Kept.refl _ _, fun _ _ _ _ _ => trivial⟩
    | 15, ho, hsk =>
      obtain rfl := Option.some.inj ho
      have e0 : a'.eval (.tmp 17) = .pointer (some ⟨b1, 1, none⟩) := is_tq (hin 14 17 (by kernel_rfl) (by kernel_rfl)) rfl
      exact q_load3 (.tmp 17) rfl _ _ e0 (fits_cell ((unhide HB).kept hk2 (by simp)) 1 _ rfl) ⟨_, rfl, tq_is _ _ _ _ rfl, Kept.refl _ _, fun _ _ _ _ _ => trivial⟩
    | 16, ho, hsk =>
      obtain rfl := Option.some.inj ho
      have e0 : a'.eval (.tmp 18) = .int .i64 J.p := is_tq (hin 15 18 (by kernel_rfl) (by kernel_rfl)) rfl
      exact o_leqc3 (.tmp 18) 16 rfl _ _ c3 e0 ⟨_, rfl, tq_is _ _ _ _ rfl, Kept.refl _ _, fun _ _ _ _ _ => trivial⟩
    | 17, ho, hsk =>
      obtain rfl := Option.some.inj ho
      have e0 : a'.eval (.tmp 16) = .bool true := is_tq (hin 13 16 (by kernel_rfl) (by kernel_rfl)) rfl
      have e1 : a'.eval (.tmp 19) = .bool true := is_tq (hin 16 19 (by kernel_rfl) (by kernel_rfl)) rfl
      exact o_pick (.tmp 16) (.tmp 19) rfl _ e0 e1 ⟨_, rfl, tq_is _ _ _ _ rfl, Kept.refl _ _, fun _ _ _ _ _ => trivial⟩
    | 18, ho, hsk =>
      obtain rfl := Option.some.inj ho
      have e0 : a'.eval (.tmp 20) = .bool true := is_tq (hin 17 20 (by kernel_rfl) (by kernel_rfl)) rfl
      exact wp_move (.tmp 20) rfl _ e0 ⟨_, rfl, tq_is _ _ _ _ rfl, Kept.refl _ _, fun _ _ _ _ _ => trivial⟩
    | 19, ho, hsk =>
      obtain rfl := Option.some.inj ho
      exact o_fld23_2 (.tmp 1) rfl b1 ((hout 1 (by kernel_rfl)).trans rfl) ⟨_, rfl, tq_is _ _ _ _ rfl, Kept.refl _ _, fun _ _ _ _ _ => trivial⟩
    | 20, ho, hsk =>
      obtain rfl := Option.some.inj ho
      have e0 : a'.eval (.tmp 22) = .pointer (some ⟨b1, 2, none⟩) := is_tq (hin 19 22 (by kernel_rfl) (by kernel_rfl)) rfl
      exact q_load3 (.tmp 22) rfl _ _ e0 (fits_cell ((unhide HB).kept hk2 (by simp)) 2 _ rfl) ⟨_, rfl, tq_is _ _ _ _ rfl, Kept.refl _ _, fun _ _ _ _ _ => trivial⟩
    | 21, ho, hsk =>
      obtain rfl := Option.some.inj ho
      have e0 : a'.eval (.tmp 23) = .int .i64 J.f := is_tq (hin 20 23 (by kernel_rfl) (by kernel_rfl)) rfl
      exact o_geqc3 (.tmp 23) 1 rfl _ _ c4 e0 ⟨_, rfl, tq_is _ _ _ _ rfl, Kept.refl _ _, fun _ _ _ _ _ => trivial⟩
    | 22, ho, hsk =>
      obtain rfl := Option.some.inj ho
      have e0 : a'.eval (.tmp 21) = .bool true := is_tq (hin 18 21 (by kernel_rfl) (by kernel_rfl)) rfl
      have e1 : a'.eval (.tmp 24) = .bool true := is_tq (hin 21 24 (by kernel_rfl) (by kernel_rfl)) rfl
      exact o_pick (.tmp 21) (.tmp 24) rfl _ e0 e1 ⟨_, rfl, tq_is _ _ _ _ rfl, Kept.refl _ _, fun _ _ _ _ _ => trivial⟩
    | 23, ho, hsk =>
      obtain rfl := Option.some.inj ho
      have e0 : a'.eval (.tmp 25) = .bool true := is_tq (hin 22 25 (by kernel_rfl) (by kernel_rfl)) rfl
      exact wp_move (.tmp 25) rfl _ e0 ⟨_, rfl, tq_is _ _ _ _ rfl, Kept.refl _ _, fun _ _ _ _ _ => trivial⟩
    | 24, ho, hsk =>
      obtain rfl := Option.some.inj ho
      exact o_fld23_2 (.tmp 1) rfl b1 ((hout 1 (by kernel_rfl)).trans rfl) ⟨_, rfl, tq_is _ _ _ _ rfl, Kept.refl _ _, fun _ _ _ _ _ => trivial⟩
    | 25, ho, hsk =>
      obtain rfl := Option.some.inj ho
      have e0 : a'.eval (.tmp 27) = .pointer (some ⟨b1, 2, none⟩) := is_tq (hin 24 27 (by kernel_rfl) (by kernel_rfl)) rfl
      exact q_load3 (.tmp 27) rfl _ _ e0 (fits_cell ((unhide HB).kept hk2 (by simp)) 2 _ rfl) ⟨_, rfl, tq_is _ _ _ _ rfl, Kept.refl _ _, fun _ _ _ _ _ => trivial⟩
    | 26, ho, hsk =>
      obtain rfl := Option.some.inj ho
      have e0 : a'.eval (.tmp 28) = .int .i64 J.f := is_tq (hin 25 28 (by kernel_rfl) (by kernel_rfl)) rfl
      exact o_leqc3 (.tmp 28) 16 rfl _ _ c5 e0 ⟨_, rfl, tq_is _ _ _ _ rfl, Kept.refl _ _, fun _ _ _ _ _ => trivial⟩
    | 27, ho, hsk =>
      obtain rfl := Option.some.inj ho
      have e0 : a'.eval (.tmp 26) = .bool true := is_tq (hin 23 26 (by kernel_rfl) (by kernel_rfl)) rfl
      have e1 : a'.eval (.tmp 29) = .bool true := is_tq (hin 26 29 (by kernel_rfl) (by kernel_rfl)) rfl
      exact o_pick (.tmp 26) (.tmp 29) rfl _ e0 e1 ⟨_, rfl, tq_is _ _ _ _ rfl, Kept.refl _ _, fun _ _ _ _ _ => trivial⟩
    | 28, ho, hsk =>
      obtain rfl := Option.some.inj ho
      have e0 : a'.eval (.tmp 30) = .bool true := is_tq (hin 27 30 (by kernel_rfl) (by kernel_rfl)) rfl
      exact wp_move (.tmp 30) rfl _ e0 ⟨_, rfl, tq_is _ _ _ _ rfl, Kept.refl _ _, fun _ _ _ _ _ => trivial⟩
    | 29, ho, hsk =>
      obtain rfl := Option.some.inj ho
      exact o_fld23_3 (.tmp 1) rfl b1 ((hout 1 (by kernel_rfl)).trans rfl) ⟨_, rfl, tq_is _ _ _ _ rfl, Kept.refl _ _, fun _ _ _ _ _ => trivial⟩
    | 30, ho, hsk =>
      obtain rfl := Option.some.inj ho
      have e0 : a'.eval (.tmp 32) = .pointer (some ⟨b1, 3, none⟩) := is_tq (hin 29 32 (by kernel_rfl) (by kernel_rfl)) rfl
      exact q_load3 (.tmp 32) rfl _ _ e0 (fits_cell ((unhide HB).kept hk2 (by simp)) 3 _ rfl) ⟨_, rfl, tq_is _ _ _ _ rfl, Kept.refl _ _, fun _ _ _ _ _ => trivial⟩
    | 31, ho, hsk =>
      obtain rfl := Option.some.inj ho
      have e0 : a'.eval (.tmp 33) = .int .i64 J.l := is_tq (hin 30 33 (by kernel_rfl) (by kernel_rfl)) rfl
      exact o_geqc3 (.tmp 33) 2 rfl _ _ c6 e0 ⟨_, rfl, tq_is _ _ _ _ rfl, Kept.refl _ _, fun _ _ _ _ _ => trivial⟩
    | 32, ho, hsk =>
      obtain rfl := Option.some.inj ho
      have e0 : a'.eval (.tmp 31) = .bool true := is_tq (hin 28 31 (by kernel_rfl) (by kernel_rfl)) rfl
      have e1 : a'.eval (.tmp 34) = .bool true := is_tq (hin 31 34 (by kernel_rfl) (by kernel_rfl)) rfl
      exact o_pick (.tmp 31) (.tmp 34) rfl _ e0 e1 ⟨_, rfl, tq_is _ _ _ _ rfl, Kept.refl _ _, fun _ _ _ _ _ => trivial⟩
    | 33, ho, hsk =>
      obtain rfl := Option.some.inj ho
      have e0 : a'.eval (.tmp 35) = .bool true := is_tq (hin 32 35 (by kernel_rfl) (by kernel_rfl)) rfl
      exact wp_move (.tmp 35) rfl _ e0 ⟨_, rfl, tq_is _ _ _ _ rfl, Kept.refl _ _, fun _ _ _ _ _ => trivial⟩
    | 34, ho, hsk =>
      obtain rfl := Option.some.inj ho
      exact o_fld23_3 (.tmp 1) rfl b1 ((hout 1 (by kernel_rfl)).trans rfl) ⟨_, rfl, tq_is _ _ _ _ rfl, Kept.refl _ _, fun _ _ _ _ _ => trivial⟩
    | 35, ho, hsk =>
      obtain rfl := Option.some.inj ho
      have e0 : a'.eval (.tmp 37) = .pointer (some ⟨b1, 3, none⟩) := is_tq (hin 34 37 (by kernel_rfl) (by kernel_rfl)) rfl
      exact q_load3 (.tmp 37) rfl _ _ e0 (fits_cell ((unhide HB).kept hk2 (by simp)) 3 _ rfl) ⟨_, rfl, tq_is _ _ _ _ rfl, Kept.refl _ _, fun _ _ _ _ _ => trivial⟩
    | 36, ho, hsk =>
      obtain rfl := Option.some.inj ho
      have e0 : a'.eval (.tmp 38) = .int .i64 J.l := is_tq (hin 35 38 (by kernel_rfl) (by kernel_rfl)) rfl
      exact o_leqc3 (.tmp 38) 64 rfl _ _ c7 e0 ⟨_, rfl, tq_is _ _ _ _ rfl, Kept.refl _ _, fun _ _ _ _ _ => trivial⟩
    | 37, ho, hsk =>
      obtain rfl := Option.some.inj ho
      have e0 : a'.eval (.tmp 36) = .bool true := is_tq (hin 33 36 (by kernel_rfl) (by kernel_rfl)) rfl
      have e1 : a'.eval (.tmp 39) = .bool true := is_tq (hin 36 39 (by kernel_rfl) (by kernel_rfl)) rfl
      exact o_pick (.tmp 36) (.tmp 39) rfl _ e0 e1 ⟨_, rfl, tq_is _ _ _ _ rfl, Kept.refl _ _, fun _ _ _ _ _ => trivial⟩
    | 38, ho, hsk =>
      obtain rfl := Option.some.inj ho
      have e0 : a'.eval (.tmp 40) = .bool true := is_tq (hin 37 40 (by kernel_rfl) (by kernel_rfl)) rfl
      exact wp_move (.tmp 40) rfl _ e0 ⟨_, rfl, tq_is _ _ _ _ rfl, Kept.refl _ _, fun _ _ _ _ _ => trivial⟩
    | 39, ho, hsk =>
      obtain rfl := Option.some.inj ho
      exact o_fld23_4 (.tmp 1) rfl b1 ((hout 1 (by kernel_rfl)).trans rfl) ⟨_, rfl, tq_is _ _ _ _ rfl, Kept.refl _ _, fun _ _ _ _ _ => trivial⟩
    | 40, ho, hsk =>
      obtain rfl := Option.some.inj ho
      have e0 : a'.eval (.tmp 42) = .pointer (some ⟨b1, 4, none⟩) := is_tq (hin 39 42 (by kernel_rfl) (by kernel_rfl)) rfl
      exact q_load3 (.tmp 42) rfl _ _ e0 (fits_cell ((unhide HB).kept hk2 (by simp)) 4 _ rfl) ⟨_, rfl, tq_is _ _ _ _ rfl, Kept.refl _ _, fun _ _ _ _ _ => trivial⟩
    | 41, ho, hsk =>
      obtain rfl := Option.some.inj ho
      have e0 : a'.eval (.tmp 43) = .int .i64 J.t := is_tq (hin 40 43 (by kernel_rfl) (by kernel_rfl)) rfl
      exact o_geqc3 (.tmp 43) 2 rfl _ _ c8 e0 ⟨_, rfl, tq_is _ _ _ _ rfl, Kept.refl _ _, fun _ _ _ _ _ => trivial⟩
    | 42, ho, hsk =>
      obtain rfl := Option.some.inj ho
      have e0 : a'.eval (.tmp 41) = .bool true := is_tq (hin 38 41 (by kernel_rfl) (by kernel_rfl)) rfl
      have e1 : a'.eval (.tmp 44) = .bool true := is_tq (hin 41 44 (by kernel_rfl) (by kernel_rfl)) rfl
      exact o_pick (.tmp 41) (.tmp 44) rfl _ e0 e1 ⟨_, rfl, tq_is _ _ _ _ rfl, Kept.refl _ _, fun _ _ _ _ _ => trivial⟩
    | 43, ho, hsk =>
      obtain rfl := Option.some.inj ho
      have e0 : a'.eval (.tmp 45) = .bool true := is_tq (hin 42 45 (by kernel_rfl) (by kernel_rfl)) rfl
      exact wp_move (.tmp 45) rfl _ e0 ⟨_, rfl, tq_is _ _ _ _ rfl, Kept.refl _ _, fun _ _ _ _ _ => trivial⟩
    | 44, ho, hsk =>
      obtain rfl := Option.some.inj ho
      exact o_fld23_4 (.tmp 1) rfl b1 ((hout 1 (by kernel_rfl)).trans rfl) ⟨_, rfl, tq_is _ _ _ _ rfl, Kept.refl _ _, fun _ _ _ _ _ => trivial⟩
    | 45, ho, hsk =>
      obtain rfl := Option.some.inj ho
      have e0 : a'.eval (.tmp 47) = .pointer (some ⟨b1, 4, none⟩) := is_tq (hin 44 47 (by kernel_rfl) (by kernel_rfl)) rfl
      exact q_load3 (.tmp 47) rfl _ _ e0 (fits_cell ((unhide HB).kept hk2 (by simp)) 4 _ rfl) ⟨_, rfl, tq_is _ _ _ _ rfl, Kept.refl _ _, fun _ _ _ _ _ => trivial⟩
    | 46, ho, hsk =>
      obtain rfl := Option.some.inj ho
      have e0 : a'.eval (.tmp 48) = .int .i64 J.t := is_tq (hin 45 48 (by kernel_rfl) (by kernel_rfl)) rfl
      exact o_leqc3 (.tmp 48) 100 rfl _ _ c9 e0 ⟨_, rfl, tq_is _ _ _ _ rfl, Kept.refl _ _, fun _ _ _ _ _ => trivial⟩
    | 47, ho, hsk =>
      obtain rfl := Option.some.inj ho
      have e0 : a'.eval (.tmp 46) = .bool true := is_tq (hin 43 46 (by kernel_rfl) (by kernel_rfl)) rfl
      have e1 : a'.eval (.tmp 49) = .bool false := is_tq (hin 46 49 (by kernel_rfl) (by kernel_rfl)) rfl
      exact o_pick (.tmp 46) (.tmp 49) rfl _ e0 e1 ⟨_, rfl, tq_is _ _ _ _ rfl, Kept.refl _ _, fun _ _ _ _ _ => trivial⟩
    | 48, ho, hsk =>
      obtain rfl := Option.some.inj ho
      have e0 : a'.eval (.tmp 50) = .bool false := is_tq (hin 47 50 (by kernel_rfl) (by kernel_rfl)) rfl
      exact wp_assignV (.tmp 50) rfl _ e0 ⟨_, rfl, tq_is _ _ _ _ rfl, Kept.refl _ _, fun _ _ _ _ _ => trivial⟩
  intro w9 hk9
  replace hk9 : Kept [] V1 w9 := ⟨hk9.os, hk9.tape, hk9.output, hk9.size, hk9.block⟩
  simp only [valsQ, List.map_cons, List.map_nil, Option.getD_some, List.take_succ_cons, List.take_zero, putAll, Act.put, List.setIfInBounds_toArray, List.set_cons_succ, List.set_cons_zero]
  go_wp2_with fail
  go_ret
  exact ⟨rfl, (unhide HK).trans hk9⟩
set_option maxHeartbeats 4000000 in
theorem rmay_10 (J : Ar.Job) (w : World) (c0 : decide ((2 : Int) ≤ J.n) = true) (c1 : decide (J.n ≤ 8) = true) (c2 : decide ((1 : Int) ≤ J.p) = true) (c3 : decide (J.p ≤ 16) = true) (c4 : decide ((1 : Int) ≤ J.f) = true) (c5 : decide (J.f ≤ 16) = true) (c6 : decide ((2 : Int) ≤ J.l) = true) (c7 : decide (J.l ≤ 64) = true) (c8 : decide ((2 : Int) ≤ J.t) = true) (c9 : decide (J.t ≤ 100) = true) : Calls Tryd.prog 8 #[aggV (Ar.jobC J)] w fun e w' => e = .returned (.bool true) ∧ Kept [] w w' := by
  go_enter Tryd.func8, Tryd.ntmps8
  go_wp2_with (
    first
    | (refine wpBoxV (by rfl) (.tmp 0) (by rfl) (Ar.jobC J) (by kernel_rfl) ?_
       intro V1 b1 e1 B1 K1
       have HB := hide B1
       have HK := hide K1
       clear e1 B1 K1
       refine Stp.go ?_))
  constructor
  go_upto_region 1 with fail
  refine wp_text_tq 49 rfl (by kernel_rfl) [some (.pointer (some ⟨b1, 0, none⟩)), some (.int .i64 J.n), some (.bool true), some (.bool true), some (.pointer (some ⟨b1, 0, none⟩)), some (.int .i64 J.n), some (.bool true), some (.bool true), some (.bool true), some (.pointer (some ⟨b1, 1, none⟩)), some (.int .i64 J.p), some (.bool true), some (.bool true), some (.bool true), some (.pointer (some ⟨b1, 1, none⟩)), some (.int .i64 J.p), some (.bool true), some (.bool true), some (.bool true), some (.pointer (some ⟨b1, 2, none⟩)), some (.int .i64 J.f), some (.bool true), some (.bool true), some (.bool true), some (.pointer (some ⟨b1, 2, none⟩)), some (.int .i64 J.f), some (.bool true), some (.bool true), some (.bool true), some (.pointer (some ⟨b1, 3, none⟩)), some (.int .i64 J.l), some (.bool true), some (.bool true), some (.bool true), some (.pointer (some ⟨b1, 3, none⟩)), some (.int .i64 J.l), some (.bool true), some (.bool true), some (.bool true), some (.pointer (some ⟨b1, 4, none⟩)), some (.int .i64 J.t), some (.bool true), some (.bool true), some (.bool true), some (.pointer (some ⟨b1, 4, none⟩)), some (.int .i64 J.t), some (.bool true), some (.bool true), some (.bool true)] rfl (by kernel_rfl) (by kernel_rfl) ?_ ?_
  · intro i o' hi hsk ho a' w2 hout hin hk2
    replace hk2 : Kept [] V1 w2 := ⟨hk2.os, hk2.tape, hk2.output, hk2.size, hk2.block⟩
    match i, ho, hsk with
    | 0, ho, hsk =>
      obtain rfl := Option.some.inj ho
      exact o_fld23_0 (.tmp 1) rfl b1 ((hout 1 (by kernel_rfl)).trans rfl) ⟨_, rfl, tq_is _ _ _ _ rfl, Kept.refl _ _, fun _ _ _ _ _ => trivial⟩
    | 1, ho, hsk =>
      obtain rfl := Option.some.inj ho
      have e0 : a'.eval (.tmp 3) = .pointer (some ⟨b1, 0, none⟩) := is_tq (hin 0 3 (by kernel_rfl) (by kernel_rfl)) rfl
      exact q_load3 (.tmp 3) rfl _ _ e0 (fits_cell ((unhide HB).kept hk2 (by simp)) 0 _ rfl) ⟨_, rfl, tq_is _ _ _ _ rfl, Kept.refl _ _, fun _ _ _ _ _ => trivial⟩
    | 2, ho, hsk =>
      obtain rfl := Option.some.inj ho
      have e0 : a'.eval (.tmp 4) = .int .i64 J.n := is_tq (hin 1 4 (by kernel_rfl) (by kernel_rfl)) rfl
      exact o_geqc3 (.tmp 4) 2 rfl _ _ c0 e0 ⟨_, rfl, tq_is _ _ _ _ rfl, Kept.refl _ _, fun _ _ _ _ _ => trivial⟩
    | 3, ho, hsk =>
      obtain rfl := Option.some.inj ho
      have e0 : a'.eval (.tmp 5) = .bool true := is_tq (hin 2 5 (by kernel_rfl) (by kernel_rfl)) rfl
      exact wp_move (.tmp 5) rfl _ e0 ⟨_, rfl, tq_is _ _ _ _ rfl, Kept.refl _ _, fun _ _ _ _ _ => trivial⟩
    | 4, ho, hsk =>
      obtain rfl := Option.some.inj ho
      exact o_fld23_0 (.tmp 1) rfl b1 ((hout 1 (by kernel_rfl)).trans rfl) ⟨_, rfl, tq_is _ _ _ _ rfl, Kept.refl _ _, fun _ _ _ _ _ => trivial⟩
    | 5, ho, hsk =>
      obtain rfl := Option.some.inj ho
      have e0 : a'.eval (.tmp 7) = .pointer (some ⟨b1, 0, none⟩) := is_tq (hin 4 7 (by kernel_rfl) (by kernel_rfl)) rfl
      exact q_load3 (.tmp 7) rfl _ _ e0 (fits_cell ((unhide HB).kept hk2 (by simp)) 0 _ rfl) ⟨_, rfl, tq_is _ _ _ _ rfl, Kept.refl _ _, fun _ _ _ _ _ => trivial⟩
    | 6, ho, hsk =>
      obtain rfl := Option.some.inj ho
      have e0 : a'.eval (.tmp 8) = .int .i64 J.n := is_tq (hin 5 8 (by kernel_rfl) (by kernel_rfl)) rfl
      exact o_leqc3 (.tmp 8) 8 rfl _ _ c1 e0 ⟨_, rfl, tq_is _ _ _ _ rfl, Kept.refl _ _, fun _ _ _ _ _ => trivial⟩
    | 7, ho, hsk =>
      obtain rfl := Option.some.inj ho
      have e0 : a'.eval (.tmp 6) = .bool true := is_tq (hin 3 6 (by kernel_rfl) (by kernel_rfl)) rfl
      have e1 : a'.eval (.tmp 9) = .bool true := is_tq (hin 6 9 (by kernel_rfl) (by kernel_rfl)) rfl
      exact o_pick (.tmp 6) (.tmp 9) rfl _ e0 e1 ⟨_, rfl, tq_is _ _ _ _ rfl, Kept.refl _ _, fun _ _ _ _ _ => trivial⟩
    | 8, ho, hsk =>
      obtain rfl := Option.some.inj ho
      have e0 : a'.eval (.tmp 10) = .bool true := is_tq (hin 7 10 (by kernel_rfl) (by kernel_rfl)) rfl
      exact wp_move (.tmp 10) rfl _ e0 ⟨_, rfl, tq_is _ _ _ _ rfl, Kept.refl _ _, fun _ _ _ _ _ => trivial⟩
    | 9, ho, hsk =>
      obtain rfl := Option.some.inj ho
      exact o_fld23_1 (.tmp 1) rfl b1 ((hout 1 (by kernel_rfl)).trans rfl) ⟨_, rfl, tq_is _ _ _ _ rfl, Kept.refl _ _, fun _ _ _ _ _ => trivial⟩
    | 10, ho, hsk =>
      obtain rfl := Option.some.inj ho
      have e0 : a'.eval (.tmp 12) = .pointer (some ⟨b1, 1, none⟩) := is_tq (hin 9 12 (by kernel_rfl) (by kernel_rfl)) rfl
      exact q_load3 (.tmp 12) rfl _ _ e0 (fits_cell ((unhide HB).kept hk2 (by simp)) 1 _ rfl) ⟨_, rfl, tq_is _ _ _ _ rfl, Kept.refl _ _, fun _ _ _ _ _ => trivial⟩
    | 11, ho, hsk =>
      obtain rfl := Option.some.inj ho
      have e0 : a'.eval (.tmp 13) = .int .i64 J.p := is_tq (hin 10 13 (by kernel_rfl) (by kernel_rfl)) rfl
      exact o_geqc3 (.tmp 13) 1 rfl _ _ c2 e0 ⟨_, rfl, tq_is _ _ _ _ rfl, Kept.refl _ _, fun _ _ _ _ _ => trivial⟩
    | 12, ho, hsk =>
      obtain rfl := Option.some.inj ho
      have e0 : a'.eval (.tmp 11) = .bool true := is_tq (hin 8 11 (by kernel_rfl) (by kernel_rfl)) rfl
      have e1 : a'.eval (.tmp 14) = .bool true := is_tq (hin 11 14 (by kernel_rfl) (by kernel_rfl)) rfl
      exact o_pick (.tmp 11) (.tmp 14) rfl _ e0 e1 ⟨_, rfl, tq_is _ _ _ _ rfl, Kept.refl _ _, fun _ _ _ _ _ => trivial⟩
    | 13, ho, hsk =>
      obtain rfl := Option.some.inj ho
      have e0 : a'.eval (.tmp 15) = .bool true := is_tq (hin 12 15 (by kernel_rfl) (by kernel_rfl)) rfl
      exact wp_move (.tmp 15) rfl _ e0 ⟨_, rfl, tq_is _ _ _ _ rfl, Kept.refl _ _, fun _ _ _ _ _ => trivial⟩
    | 14, ho, hsk =>
      obtain rfl := Option.some.inj ho
      exact o_fld23_1 (.tmp 1) rfl b1 ((hout 1 (by kernel_rfl)).trans rfl) ⟨_, rfl, tq_is _ _ _ _ rfl, Kept.refl _ _, fun _ _ _ _ _ => trivial⟩
    | 15, ho, hsk =>
      obtain rfl := Option.some.inj ho
      have e0 : a'.eval (.tmp 17) = .pointer (some ⟨b1, 1, none⟩) := is_tq (hin 14 17 (by kernel_rfl) (by kernel_rfl)) rfl
      exact q_load3 (.tmp 17) rfl _ _ e0 (fits_cell ((unhide HB).kept hk2 (by simp)) 1 _ rfl) ⟨_, rfl, tq_is _ _ _ _ rfl, Kept.refl _ _, fun _ _ _ _ _ => trivial⟩
    | 16, ho, hsk =>
      obtain rfl := Option.some.inj ho
      have e0 : a'.eval (.tmp 18) = .int .i64 J.p := is_tq (hin 15 18 (by kernel_rfl) (by kernel_rfl)) rfl
      exact o_leqc3 (.tmp 18) 16 rfl _ _ c3 e0 ⟨_, rfl, tq_is _ _ _ _ rfl, Kept.refl _ _, fun _ _ _ _ _ => trivial⟩
    | 17, ho, hsk =>
      obtain rfl := Option.some.inj ho
      have e0 : a'.eval (.tmp 16) = .bool true := is_tq (hin 13 16 (by kernel_rfl) (by kernel_rfl)) rfl
      have e1 : a'.eval (.tmp 19) = .bool true := is_tq (hin 16 19 (by kernel_rfl) (by kernel_rfl)) rfl
      exact o_pick (.tmp 16) (.tmp 19) rfl _ e0 e1 ⟨_, rfl, tq_is _ _ _ _ rfl, Kept.refl _ _, fun _ _ _ _ _ => trivial⟩
    | 18, ho, hsk =>
      obtain rfl := Option.some.inj ho
      have e0 : a'.eval (.tmp 20) = .bool true := is_tq (hin 17 20 (by kernel_rfl) (by kernel_rfl)) rfl
      exact wp_move (.tmp 20) rfl _ e0 ⟨_, rfl, tq_is _ _ _ _ rfl, Kept.refl _ _, fun _ _ _ _ _ => trivial⟩
    | 19, ho, hsk =>
      obtain rfl := Option.some.inj ho
      exact o_fld23_2 (.tmp 1) rfl b1 ((hout 1 (by kernel_rfl)).trans rfl) ⟨_, rfl, tq_is _ _ _ _ rfl, Kept.refl _ _, fun _ _ _ _ _ => trivial⟩
    | 20, ho, hsk =>
      obtain rfl := Option.some.inj ho
      have e0 : a'.eval (.tmp 22) = .pointer (some ⟨b1, 2, none⟩) := is_tq (hin 19 22 (by kernel_rfl) (by kernel_rfl)) rfl
      exact q_load3 (.tmp 22) rfl _ _ e0 (fits_cell ((unhide HB).kept hk2 (by simp)) 2 _ rfl) ⟨_, rfl, tq_is _ _ _ _ rfl, Kept.refl _ _, fun _ _ _ _ _ => trivial⟩
    | 21, ho, hsk =>
      obtain rfl := Option.some.inj ho
      have e0 : a'.eval (.tmp 23) = .int .i64 J.f := is_tq (hin 20 23 (by kernel_rfl) (by kernel_rfl)) rfl
      exact o_geqc3 (.tmp 23) 1 rfl _ _ c4 e0 ⟨_, rfl, tq_is _ _ _ _ rfl, Kept.refl _ _, fun _ _ _ _ _ => trivial⟩
    | 22, ho, hsk =>
      obtain rfl := Option.some.inj ho
      have e0 : a'.eval (.tmp 21) = .bool true := is_tq (hin 18 21 (by kernel_rfl) (by kernel_rfl)) rfl
      have e1 : a'.eval (.tmp 24) = .bool true := is_tq (hin 21 24 (by kernel_rfl) (by kernel_rfl)) rfl
      exact o_pick (.tmp 21) (.tmp 24) rfl _ e0 e1 ⟨_, rfl, tq_is _ _ _ _ rfl, Kept.refl _ _, fun _ _ _ _ _ => trivial⟩
    | 23, ho, hsk =>
      obtain rfl := Option.some.inj ho
      have e0 : a'.eval (.tmp 25) = .bool true := is_tq (hin 22 25 (by kernel_rfl) (by kernel_rfl)) rfl
      exact wp_move (.tmp 25) rfl _ e0 ⟨_, rfl, tq_is _ _ _ _ rfl, Kept.refl _ _, fun _ _ _ _ _ => trivial⟩
    | 24, ho, hsk =>
      obtain rfl := Option.some.inj ho
      exact o_fld23_2 (.tmp 1) rfl b1 ((hout 1 (by kernel_rfl)).trans rfl) ⟨_, rfl, tq_is _ _ _ _ rfl, Kept.refl _ _, fun _ _ _ _ _ => trivial⟩
    | 25, ho, hsk =>
      obtain rfl := Option.some.inj ho
      have e0 : a'.eval (.tmp 27) = .pointer (some ⟨b1, 2, none⟩) := is_tq (hin 24 27 (by kernel_rfl) (by kernel_rfl)) rfl
      exact q_load3 (.tmp 27) rfl _ _ e0 (fits_cell ((unhide HB).kept hk2 (by simp)) 2 _ rfl) ⟨_, rfl, tq_is _ _ _ _ rfl, Kept.refl _ _, fun _ _ _ _ _ => trivial⟩
    | 26, ho, hsk =>
      obtain rfl := Option.some.inj ho
      have e0 : a'.eval (.tmp 28) = .int .i64 J.f := is_tq (hin 25 28 (by kernel_rfl) (by kernel_rfl)) rfl
      exact o_leqc3 (.tmp 28) 16 rfl _ _ c5 e0 ⟨_, rfl, tq_is _ _ _ _ rfl, Kept.refl _ _, fun _ _ _ _ _ => trivial⟩
    | 27, ho, hsk =>
      obtain rfl := Option.some.inj ho
      have e0 : a'.eval (.tmp 26) = .bool true := is_tq (hin 23 26 (by kernel_rfl) (by kernel_rfl)) rfl
      have e1 : a'.eval (.tmp 29) = .bool true := is_tq (hin 26 29 (by kernel_rfl) (by kernel_rfl)) rfl
      exact o_pick (.tmp 26) (.tmp 29) rfl _ e0 e1 ⟨_, rfl, tq_is _ _ _ _ rfl, Kept.refl _ _, fun _ _ _ _ _ => trivial⟩
    | 28, ho, hsk =>
      obtain rfl := Option.some.inj ho
      have e0 : a'.eval (.tmp 30) = .bool true := is_tq (hin 27 30 (by kernel_rfl) (by kernel_rfl)) rfl
      exact wp_move (.tmp 30) rfl _ e0 ⟨_, rfl, tq_is _ _ _ _ rfl, Kept.refl _ _, fun _ _ _ _ _ => trivial⟩
    | 29, ho, hsk =>
      obtain rfl := Option.some.inj ho
      exact o_fld23_3 (.tmp 1) rfl b1 ((hout 1 (by kernel_rfl)).trans rfl) ⟨_, rfl, tq_is _ _ _ _ rfl, Kept.refl _ _, fun _ _ _ _ _ => trivial⟩
    | 30, ho, hsk =>
      obtain rfl := Option.some.inj ho
      have e0 : a'.eval (.tmp 32) = .pointer (some ⟨b1, 3, none⟩) := is_tq (hin 29 32 (by kernel_rfl) (by kernel_rfl)) rfl
      exact q_load3 (.tmp 32) rfl _ _ e0 (fits_cell ((unhide HB).kept hk2 (by simp)) 3 _ rfl) ⟨_, rfl, tq_is _ _ _ _ rfl, Kept.refl _ _, fun _ _ _ _ _ => trivial⟩
    | 31, ho, hsk =>
      obtain rfl := Option.some.inj ho
      have e0 : a'.eval (.tmp 33) = .int .i64 J.l := is_tq (hin 30 33 (by kernel_rfl) (by kernel_rfl)) rfl
      exact o_geqc3 (.tmp 33) 2 rfl _ _ c6 e0 ⟨_, rfl, tq_is _ _ _ _ rfl, Kept.refl _ _, fun _ _ _ _ _ => trivial⟩
    | 32, ho, hsk =>
      obtain rfl := Option.some.inj ho
      have e0 : a'.eval (.tmp 31) = .bool true := is_tq (hin 28 31 (by kernel_rfl) (by kernel_rfl)) rfl
      have e1 : a'.eval (.tmp 34) = .bool true := is_tq (hin 31 34 (by kernel_rfl) (by kernel_rfl)) rfl
      exact o_pick (.tmp 31) (.tmp 34) rfl _ e0 e1 ⟨_, rfl, tq_is _ _ _ _ rfl, Kept.refl _ _, fun _ _ _ _ _ => trivial⟩
    | 33, ho, hsk =>
      obtain rfl := Option.some.inj ho
      have e0 : a'.eval (.tmp 35) = .bool true := is_tq (hin 32 35 (by kernel_rfl) (by kernel_rfl)) rfl
      exact wp_move (.tmp 35) rfl _ e0 ⟨_, rfl, tq_is _ _ _ _ rfl, Kept.refl _ _, fun _ _ _ _ _ => trivial⟩
    | 34, ho, hsk =>
      obtain rfl := Option.some.inj ho
      exact o_fld23_3 (.tmp 1) rfl b1 ((hout 1 (by kernel_rfl)).trans rfl) ⟨_, rfl, tq_is _ _ _ _ rfl, Kept.refl _ _, fun _ _ _ _ _ => trivial⟩
    | 35, ho, hsk =>
      obtain rfl := Option.some.inj ho
      have e0 : a'.eval (.tmp 37) = .pointer (some ⟨b1, 3, none⟩) := is_tq (hin 34 37 (by kernel_rfl) (by kernel_rfl)) rfl
      exact q_load3 (.tmp 37) rfl _ _ e0 (fits_cell ((unhide HB).kept hk2 (by simp)) 3 _ rfl) ⟨_, rfl, tq_is _ _ _ _ rfl, Kept.refl _ _, fun _ _ _ _ _ => trivial⟩
    | 36, ho, hsk =>
      obtain rfl := Option.some.inj ho
      have e0 : a'.eval (.tmp 38) = .int .i64 J.l := is_tq (hin 35 38 (by kernel_rfl) (by kernel_rfl)) rfl
      exact o_leqc3 (.tmp 38) 64 rfl _ _ c7 e0 ⟨_, rfl, tq_is _ _ _ _ rfl, Kept.refl _ _, fun _ _ _ _ _ => trivial⟩
    | 37, ho, hsk =>
      obtain rfl := Option.some.inj ho
      have e0 : a'.eval (.tmp 36) = .bool true := is_tq (hin 33 36 (by kernel_rfl) (by kernel_rfl)) rfl
      have e1 : a'.eval (.tmp 39) = .bool true := is_tq (hin 36 39 (by kernel_rfl) (by kernel_rfl)) rfl
      exact o_pick (.tmp 36) (.tmp 39) rfl _ e0 e1 ⟨_, rfl, tq_is _ _ _ _ rfl, Kept.refl _ _, fun _ _ _ _ _ => trivial⟩
    | 38, ho, hsk =>
      obtain rfl := Option.some.inj ho
      have e0 : a'.eval (.tmp 40) = .bool true := is_tq (hin 37 40 (by kernel_rfl) (by kernel_rfl)) rfl
      exact wp_move (.tmp 40) rfl _ e0 ⟨_, rfl, tq_is _ _ _ _ rfl, Kept.refl _ _, fun _ _ _ _ _ => trivial⟩
    | 39, ho, hsk =>
      obtain rfl := Option.some.inj ho
      exact o_fld23_4 (.tmp 1) rfl b1 ((hout 1 (by kernel_rfl)).trans rfl) ⟨_, rfl, tq_is _ _ _ _ rfl, Kept.refl _ _, fun _ _ _ _ _ => trivial⟩
    | 40, ho, hsk =>
      obtain rfl := Option.some.inj ho
      have e0 : a'.eval (.tmp 42) = .pointer (some ⟨b1, 4, none⟩) := is_tq (hin 39 42 (by kernel_rfl) (by kernel_rfl)) rfl
      exact q_load3 (.tmp 42) rfl _ _ e0 (fits_cell ((unhide HB).kept hk2 (by simp)) 4 _ rfl) ⟨_, rfl, tq_is _ _ _ _ rfl, Kept.refl _ _, fun _ _ _ _ _ => trivial⟩
    | 41, ho, hsk =>
      obtain rfl := Option.some.inj ho
      have e0 : a'.eval (.tmp 43) = .int .i64 J.t := is_tq (hin 40 43 (by kernel_rfl) (by kernel_rfl)) rfl
      exact o_geqc3 (.tmp 43) 2 rfl _ _ c8 e0 ⟨_, rfl, tq_is _ _ _ _ rfl, Kept.refl _ _, fun _ _ _ _ _ => trivial⟩
    | 42, ho, hsk =>
      obtain rfl := Option.some.inj ho
      have e0 : a'.eval (.tmp 41) = .bool true := is_tq (hin 38 41 (by kernel_rfl) (by kernel_rfl)) rfl
      have e1 : a'.eval (.tmp 44) = .bool true := is_tq (hin 41 44 (by kernel_rfl) (by kernel_rfl)) rfl
      exact o_pick (.tmp 41) (.tmp 44) rfl _ e0 e1 ⟨_, rfl, tq_is _ _ _ _ rfl, Kept.refl _ _, fun _ _ _ _ _ => trivial⟩
    | 43, ho, hsk =>
      obtain rfl := Option.some.inj ho
      have e0 : a'.eval (.tmp 45) = .bool true := is_tq (hin 42 45 (by kernel_rfl) (by kernel_rfl)) rfl
      exact wp_move (.tmp 45) rfl _ e0 ⟨_, rfl, tq_is _ _ _ _ rfl, Kept.refl _ _, fun _ _ _ _ _ => trivial⟩
    | 44, ho, hsk =>
      obtain rfl := Option.some.inj ho
      exact o_fld23_4 (.tmp 1) rfl b1 ((hout 1 (by kernel_rfl)).trans rfl) ⟨_, rfl, tq_is _ _ _ _ rfl, Kept.refl _ _, fun _ _ _ _ _ => trivial⟩
    | 45, ho, hsk =>
      obtain rfl := Option.some.inj ho
      have e0 : a'.eval (.tmp 47) = .pointer (some ⟨b1, 4, none⟩) := is_tq (hin 44 47 (by kernel_rfl) (by kernel_rfl)) rfl
      exact q_load3 (.tmp 47) rfl _ _ e0 (fits_cell ((unhide HB).kept hk2 (by simp)) 4 _ rfl) ⟨_, rfl, tq_is _ _ _ _ rfl, Kept.refl _ _, fun _ _ _ _ _ => trivial⟩
    | 46, ho, hsk =>
      obtain rfl := Option.some.inj ho
      have e0 : a'.eval (.tmp 48) = .int .i64 J.t := is_tq (hin 45 48 (by kernel_rfl) (by kernel_rfl)) rfl
      exact o_leqc3 (.tmp 48) 100 rfl _ _ c9 e0 ⟨_, rfl, tq_is _ _ _ _ rfl, Kept.refl _ _, fun _ _ _ _ _ => trivial⟩
    | 47, ho, hsk =>
      obtain rfl := Option.some.inj ho
      have e0 : a'.eval (.tmp 46) = .bool true := is_tq (hin 43 46 (by kernel_rfl) (by kernel_rfl)) rfl
      have e1 : a'.eval (.tmp 49) = .bool true := is_tq (hin 46 49 (by kernel_rfl) (by kernel_rfl)) rfl
      exact o_pick (.tmp 46) (.tmp 49) rfl _ e0 e1 ⟨_, rfl, tq_is _ _ _ _ rfl, Kept.refl _ _, fun _ _ _ _ _ => trivial⟩
    | 48, ho, hsk =>
      obtain rfl := Option.some.inj ho
      have e0 : a'.eval (.tmp 50) = .bool true := is_tq (hin 47 50 (by kernel_rfl) (by kernel_rfl)) rfl
      exact wp_assignV (.tmp 50) rfl _ e0 ⟨_, rfl, tq_is _ _ _ _ rfl, Kept.refl _ _, fun _ _ _ _ _ => trivial⟩
  intro w9 hk9
  replace hk9 : Kept [] V1 w9 := ⟨hk9.os, hk9.tape, hk9.output, hk9.size, hk9.block⟩
  simp only [valsQ, List.map_cons, List.map_nil, Option.getD_some, List.take_succ_cons, List.take_zero, putAll, Act.put, List.setIfInBounds_toArray, List.set_cons_succ, List.set_cons_zero]
  go_wp2_with fail
  go_ret
  exact ⟨rfl, (unhide HK).trans hk9⟩
theorem rmay8 (J : Ar.Job) (w : World) : Calls Tryd.prog 8 #[aggV (Ar.jobC J)] w fun e w' => e = .returned (.bool J.may) ∧ Kept [] w w' := by
  by_cases c0 : (2 : Int) ≤ J.n
  · skip
    by_cases c1 : J.n ≤ 8
    · skip
      by_cases c2 : (1 : Int) ≤ J.p
      · skip
        by_cases c3 : J.p ≤ 16
        · skip
          by_cases c4 : (1 : Int) ≤ J.f
          · skip
            by_cases c5 : J.f ≤ 16
            · skip
              by_cases c6 : (2 : Int) ≤ J.l
              · skip
                by_cases c7 : J.l ≤ 64
                · skip
                  by_cases c8 : (2 : Int) ≤ J.t
                  · skip
                    by_cases c9 : J.t ≤ 100
                    · skip
                      have e : J.may = true := by unfold Ar.Job.may; exact decide_eq_true (by omega)
                      rw [e]
                      exact rmay_10 J w (decide_eq_true c0) (decide_eq_true c1) (decide_eq_true c2) (decide_eq_true c3) (decide_eq_true c4) (decide_eq_true c5) (decide_eq_true c6) (decide_eq_true c7) (decide_eq_true c8) (decide_eq_true c9)
                    · have e : J.may = false := by unfold Ar.Job.may; exact decide_eq_false (by omega)
                      rw [e]
                      exact rmay_9 J w (decide_eq_true c0) (decide_eq_true c1) (decide_eq_true c2) (decide_eq_true c3) (decide_eq_true c4) (decide_eq_true c5) (decide_eq_true c6) (decide_eq_true c7) (decide_eq_true c8) (decide_eq_false c9)
                  · have e : J.may = false := by unfold Ar.Job.may; exact decide_eq_false (by omega)
                    rw [e]
                    exact rmay_8 J w (decide_eq_true c0) (decide_eq_true c1) (decide_eq_true c2) (decide_eq_true c3) (decide_eq_true c4) (decide_eq_true c5) (decide_eq_true c6) (decide_eq_true c7) (decide_eq_false c8)
                · have e : J.may = false := by unfold Ar.Job.may; exact decide_eq_false (by omega)
                  rw [e]
                  exact rmay_7 J w (decide_eq_true c0) (decide_eq_true c1) (decide_eq_true c2) (decide_eq_true c3) (decide_eq_true c4) (decide_eq_true c5) (decide_eq_true c6) (decide_eq_false c7)
              · have e : J.may = false := by unfold Ar.Job.may; exact decide_eq_false (by omega)
                rw [e]
                exact rmay_6 J w (decide_eq_true c0) (decide_eq_true c1) (decide_eq_true c2) (decide_eq_true c3) (decide_eq_true c4) (decide_eq_true c5) (decide_eq_false c6)
            · have e : J.may = false := by unfold Ar.Job.may; exact decide_eq_false (by omega)
              rw [e]
              exact rmay_5 J w (decide_eq_true c0) (decide_eq_true c1) (decide_eq_true c2) (decide_eq_true c3) (decide_eq_true c4) (decide_eq_false c5)
          · have e : J.may = false := by unfold Ar.Job.may; exact decide_eq_false (by omega)
            rw [e]
            exact rmay_4 J w (decide_eq_true c0) (decide_eq_true c1) (decide_eq_true c2) (decide_eq_true c3) (decide_eq_false c4)
        · have e : J.may = false := by unfold Ar.Job.may; exact decide_eq_false (by omega)
          rw [e]
          exact rmay_3 J w (decide_eq_true c0) (decide_eq_true c1) (decide_eq_true c2) (decide_eq_false c3)
      · have e : J.may = false := by unfold Ar.Job.may; exact decide_eq_false (by omega)
        rw [e]
        exact rmay_2 J w (decide_eq_true c0) (decide_eq_true c1) (decide_eq_false c2)
    · have e : J.may = false := by unfold Ar.Job.may; exact decide_eq_false (by omega)
      rw [e]
      exact rmay_1 J w (decide_eq_true c0) (decide_eq_false c1)
  · have e : J.may = false := by unfold Ar.Job.may; exact decide_eq_false (by omega)
    rw [e]
    exact rmay_0 J w  (decide_eq_false c0)

end Go.Proofs.YtmeajhdhiebkdaaDoor

/-
  How the arguments of redo's laws are opened: a job, a version, versions, steps.
-/
namespace Go.Proofs.YtmeajhdhiebkdaaDoor
set_option maxRecDepth 100000
open Go.ChangeShapes Go.WideShapes Go.ChangeAt Go.RowKit Go.Joins Go.Deep

theorem array5 {α : Type} {cs : Array α} (h : cs.size = 5) : ∃ c0 c1 c2 c3 c4, cs = #[c0, c1, c2, c3, c4] := by
  obtain ⟨l⟩ := cs
  match l, h with
  | [c0, c1, c2, c3, c4], _ => exact ⟨c0, c1, c2, c3, c4, rfl⟩
section
variable {H : Type} {enc : TypeId × Value → H} {P : Program} {w : World} {base : Nat} {spare : TypeId → Bool} {held : Bool}
theorem trod_struct5 {t : TypeId} {f0 f1 f2 f3 f4 : Field} {fuel : Nat} {cs : List Value} {x : DataW H × List MemPlace} (ht : P.underlying t = some (.struct #[f0, f1, f2, f3, f4])) (h : DataW.trod enc P w base spare held fuel t cs = some x) :
    ∃ y0 y1 y2 y3 y4 n, DataW.trod enc P w base spare held n f0.type ((cs.drop f0.offset).take (P.cellsOf f0.type)) = some y0 ∧
      DataW.trod enc P w base spare held n f1.type ((cs.drop f1.offset).take (P.cellsOf f1.type)) = some y1 ∧ DataW.trod enc P w base spare held n f2.type ((cs.drop f2.offset).take (P.cellsOf f2.type)) = some y2 ∧
      DataW.trod enc P w base spare held n f3.type ((cs.drop f3.offset).take (P.cellsOf f3.type)) = some y3 ∧ DataW.trod enc P w base spare held n f4.type ((cs.drop f4.offset).take (P.cellsOf f4.type)) = some y4 := by
  obtain ⟨xs, n, _, rfl, hl, hlen, hf⟩ := DataW.trod_struct ht h
  match xs, hlen with
  | [y0, y1, y2, y3, y4], _ => exact ⟨y0, y1, y2, y3, y4, n, by simpa using hf 0 f0 rfl, by simpa using hf 1 f1 rfl, by simpa using hf 2 f2 rfl, by simpa using hf 3 f3 rfl, by simpa using hf 4 f4 rfl⟩
theorem open_agg5 {r : Reach} {b0 : Nat} {t : TypeId} {f0 f1 f2 f3 f4 : Field} {v : Value} {d : DataW H} {p : List MemPlace} (hs : P.underlying t = some (.struct #[f0, f1, f2, f3, f4])) (hone : oneCellFields P #[f0, f1, f2, f3, f4] = true) (hC : P.cellsOf t = 5)
    (hv : Value.okWide P w r b0 t v) (h : DataW.Trod enc P w base spare held t v d p) :
    ∃ (v0 v1 v2 v3 v4 : Value) (y0 y1 y2 y3 y4 : DataW H × List MemPlace) (n : Nat), v = .agg #[v0, v1, v2, v3, v4] ∧
      DataW.trod enc P w base spare held n f0.type [v0] = some y0 ∧ DataW.trod enc P w base spare held n f1.type [v1] = some y1 ∧ DataW.trod enc P w base spare held n f2.type [v2] = some y2 ∧ DataW.trod enc P w base spare held n f3.type [v3] = some y3 ∧ DataW.trod enc P w base spare held n f4.type [v4] = some y4 := by
  obtain ⟨cs, rfl, hsz⟩ := okWide_struct hs hv
  obtain ⟨c0, c1, c2, c3, c4, rfl⟩ := array5 (hsz.trans hC)
  obtain ⟨fuel, hf⟩ := h
  obtain ⟨y0, y1, y2, y3, y4, n, h0, h1, h2, h3, h4⟩ := trod_struct5 hs hf
  obtain ⟨o0, k0⟩ := hone_of hone 0 f0 rfl
  obtain ⟨o1, k1⟩ := hone_of hone 1 f1 rfl
  obtain ⟨o2, k2⟩ := hone_of hone 2 f2 rfl
  obtain ⟨o3, k3⟩ := hone_of hone 3 f3 rfl
  obtain ⟨o4, k4⟩ := hone_of hone 4 f4 rfl
  exact ⟨c0, c1, c2, c3, c4, y0, y1, y2, y3, y4, n, rfl, by simpa [Value.cells, o0, k0] using h0, by simpa [Value.cells, o1, k1] using h1, by simpa [Value.cells, o2, k2] using h2, by simpa [Value.cells, o3, k3] using h3, by simpa [Value.cells, o4, k4] using h4⟩
end

set_option maxRecDepth 100000 in
theorem job_open {H : Type} {enc : TypeId × Value → H} {W : World} {b0 : Nat} {r : Reach} {v : Value} {d : DataW H} {p : List MemPlace}
    (hv : Value.okWide Tryd.prog W r b0 23 v) (h : DataW.Trod enc Tryd.prog W 0 (fun _ => true) true 23 v d p) : ∃ j : Ar.Job, v = aggV (Ar.jobC j) := by
  obtain ⟨v0, v1, v2, v3, v4, y0, y1, y2, y3, y4, k, rfl, h0, h1, h2, h3, h4⟩ := open_agg5 Tryd.underlying23 (by kernel_rfl) (by kernel_rfl) hv h
  obtain ⟨a, e0, _, _⟩ := DataW.trod_int Tryd.underlying3 h0
  obtain ⟨b, e1, _, _⟩ := DataW.trod_int Tryd.underlying3 h1
  obtain ⟨c, e2, _, _⟩ := DataW.trod_int Tryd.underlying3 h2
  obtain ⟨d, e3, _, _⟩ := DataW.trod_int Tryd.underlying3 h3
  obtain ⟨e, e4, _, _⟩ := DataW.trod_int Tryd.underlying3 h4
  simp only [List.cons.injEq, and_true] at e0 e1 e2 e3 e4
  subst e0 e1 e2 e3 e4
  exact ⟨⟨a, b, c, d, e⟩, rfl⟩
/-- An array of bytes that came in. -/
theorem byts_open {H : Type} {enc : TypeId × Value → H} {W : World} {fuel T n : Nat} {cs : List Value} {x : DataW H × List MemPlace} (ht : Tryd.prog.underlying T = some (.array n 5)) (hc : Tryd.prog.cellsOf T = n)
    (h : DataW.trod enc Tryd.prog W 0 (fun _ => true) true fuel T cs = some x) : ∃ s, cs = u8s s ∧ Rc.Byts n s := by
  obtain ⟨xs, m, _, ex, hl, hlen, hel⟩ := DataW.trod_array ht h
  rw [hc] at hl
  have h1 : ∀ i, i < n → ∃ z : Int, cs[i]? = some (.int .u8 z) ∧ 0 ≤ z ∧ z < 256 := by
    intro i hi
    have hE := hel i hi
    rw [Dv.Tryd.cells5, Nat.mul_one, List.getElem?_eq_getElem (by omega)] at hE
    obtain ⟨z, e1, e2, hw⟩ := DataW.trod_int Tryd.underlying5 hE
    have hb := bounds_u8 hw
    refine ⟨z, ?_, hb.1, by omega⟩
    have h0 : ((cs.drop i).take 1)[0]? = some (.int .u8 z) := by rw [e1]; rfl
    simpa using h0
  refine ⟨cs.map (fun v => match v with | .int _ x => x | _ => 0), ?_, by simpa using hl, ?_⟩
  · apply List.ext_getElem?
    intro i
    by_cases hi : i < n
    · obtain ⟨z, hz, _⟩ := h1 i hi
      simp [u8s, hz]
    · rw [List.getElem?_eq_none (by omega), List.getElem?_eq_none (by simp [u8s]; omega)]
  · intro y hy
    obtain ⟨v, hv, rfl⟩ := List.mem_map.1 hy
    obtain ⟨i, hi⟩ := List.mem_iff_getElem?.1 hv
    obtain ⟨z, hz, hz1, hz2⟩ := h1 i (by have := (List.getElem?_eq_some_iff.1 hi).1; omega)
    rw [hz] at hi
    cases hi
    exact ⟨hz1, hz2⟩

theorem spot_none {w : World} {a : Addr} {v : Value} (h : w.cell? a = some v) : a = ⟨a.block, a.off, none⟩ := by
  have : a.spot = none := by
    unfold World.cell? at h
    split at h
    · cases hs : a.spot with
      | none => rfl
      | some s => simp [hs] at h
    · cases h
  cases a; simp_all
/-- The elements of a slice that came in, by their cells. -/
def RowS {α : Type} (C : α → List Value) (m : Nat) (W : World) (ao : Option Addr) (l : List α) : Prop := ∀ i x, l[i]? = some x → ∃ b o, ao = some ⟨b, o, none⟩ ∧ ∀ c u, (C x)[c]? = some u → W.cell? ⟨b, o + i * m + c, none⟩ = some u
theorem RowS.kept {α : Type} {C : α → List Value} {m : Nat} {W W' : World} {ao : Option Addr} {l : List α} (h : RowS C m W ao l) (hk : Kept [] W W') : RowS C m W' ao l := by
  intro i x hx
  obtain ⟨b, o, e, h1⟩ := h i x hx
  exact ⟨b, o, e, fun c u hu => hk.cell (h1 c u hu) (by simp)⟩
set_option maxRecDepth 100000 in
theorem rows_open {α : Type} [Inhabited α] (C : α → List Value) (Ok : α → Prop) (m T E : Nat) (hT : Tryd.prog.underlying T = some (.slice E)) (hE : Tryd.prog.cellsOf E = m) (h0 : ∀ x, Ok x → ∃ u, (C x)[0]? = some u) {H : Type} {enc : TypeId × Value → H} {W : World} (hcells : ∀ (fuel : Nat) (cs : List Value) (x : DataW H × List MemPlace), DataW.trod enc Tryd.prog W 0 (fun _ => true) true fuel E cs = some x → ∃ q, cs = C q ∧ Ok q) {fuel : Nat} {v : Value} {x : DataW H × List MemPlace}
    (h : DataW.trod enc Tryd.prog W 0 (fun _ => true) true fuel T [v] = some x) :
    ∃ (ao : Option Addr) (c : Nat) (l : List α), v = .slice ao l.length c ∧ (ao = none → l = [] ∧ c = 0) ∧ RowS C m W ao l ∧ (∀ r ∈ l, Ok r) := by
  rcases open_slice hT h with ⟨hcs, hx⟩ | ⟨a, len, cap, m', n, D, Pl, hcs, _, hl, _, hm, hx, hel⟩
  · cases hcs
    exact ⟨none, 0, [], rfl, fun _ => ⟨rfl, rfl⟩, fun i x hx => (by simp at hx), fun x hx => (by cases hx)⟩
  · cases hcs
    simp only [if_true] at hm
    have hch : ∀ i, i < len → ∃ q : α, (∀ c u, (C q)[c]? = some u → W.cell? (a.add (i * m + c)) = some u) ∧ Ok q := by
      intro i hi
      obtain ⟨cs', h1, h2⟩ := hel i (by omega)
      rw [hE] at h1
      obtain ⟨_, hlen, hcell⟩ := World.cells?_some h1
      obtain ⟨q, rfl, hq⟩ := hcells _ _ _ h2
      refine ⟨q, ?_, hq⟩
      intro c u hu
      have hc : c < m := by have := (List.getElem?_eq_some_iff.1 hu).1; omega
      have := hcell c hc
      rw [add_add] at this
      rw [this]
      exact hu
    obtain ⟨X, hX⟩ := choose_lt hch
    refine ⟨some a, cap, (List.range len).map X, by simp, (fun h => by cases h), ?_, ?_⟩
    · intro i x hi
      have hil : i < len := by have := (List.getElem?_eq_some_iff.1 hi).1; simpa using this
      obtain rfl : X i = x := by simpa [hil] using hi
      obtain ⟨u0, hu0⟩ := h0 _ (hX 0 (by omega)).2
      have h0 := (hX 0 (by omega)).1 0 u0 hu0
      rw [Nat.zero_mul] at h0
      have ha := spot_none (show W.cell? a = some _ from h0)
      refine ⟨a.block, a.off, by rw [← ha], fun c u hu => ?_⟩
      have := (hX i hil).1 c u hu
      rw [ha, Addr.add_lit, ← Nat.add_assoc] at this
      exact this
    · intro x hx
      simp only [List.mem_map, List.mem_range] at hx
      obtain ⟨i, hi, rfl⟩ := hx
      exact (hX i hi).2
theorem fieldsV : ∃ f0 f1, Tryd.prog.underlying 28 = some (.struct #[f0, f1]) ∧ f0.type = 2 ∧ f0.offset = 0 ∧ f1.type = 26 ∧ f1.offset = 1 := by
  exact ⟨_, _, Tryd.underlying28, rfl, rfl, rfl, rfl⟩
/-- A version as plain data. -/
structure Ve where
  ps : Int
  bd : List Int
def Ve.C (v : Ve) : List Value := verC v.ps v.bd
structure Ve.Ok (v : Ve) : Prop where
  bd : Rc.Byts 96 v.bd
  ps : -9223372036854775808 ≤ v.ps ∧ v.ps ≤ 9223372036854775807
instance : Inhabited Ve := ⟨⟨0, Rc.zs 96⟩⟩
set_option maxRecDepth 100000 in
/-- A version that came in. -/
theorem ver_cells {H : Type} {enc : TypeId × Value → H} {W : World} (fuel : Nat) (cs : List Value) (x : DataW H × List MemPlace) (h : DataW.trod enc Tryd.prog W 0 (fun _ => true) true fuel 28 cs = some x) : ∃ v : Ve, cs = v.C ∧ v.Ok := by
  obtain ⟨f0, f1, hu, t0, o0, t1, o1⟩ := fieldsV
  obtain ⟨y0, y1, m, _, hl, h0, h1⟩ := trod_struct2 hu h
  have c2 : Tryd.prog.cellsOf 2 = 1 := by kernel_rfl
  have c26 : Tryd.prog.cellsOf 26 = 96 := by kernel_rfl
  have c28 : Tryd.prog.cellsOf 28 = 97 := by kernel_rfl
  rw [t0, o0, c2] at h0
  rw [t1, o1, c26] at h1
  rw [c28] at hl
  obtain ⟨n, e0, _, hw⟩ := DataW.trod_int Tryd.underlying2 h0
  obtain ⟨s, e1, hs⟩ := byts_open Tryd.underlying26 c26 h1
  refine ⟨⟨n, s⟩, ?_, hs, bounds_i64 hw⟩
  have e : cs = cs.take 1 ++ (cs.drop 1).take 96 := by
    rw [List.take_of_length_le (l := cs.drop 1) (by rw [List.length_drop]; omega), List.take_append_drop]
  rw [e, e1]
  have e2 : cs.take 1 = [.int .i64 n] := by simpa [Value.cells] using e0
  rw [e2]
  rfl
theorem ver_open {H : Type} {enc : TypeId × Value → H} {W : World} {r : Reach} {b0 : Nat} {v : Value} {d : DataW H} {p : List MemPlace} (hv : Value.okWide Tryd.prog W r b0 28 v) (h : DataW.Trod enc Tryd.prog W 0 (fun _ => true) true 28 v d p) :
    ∃ q : Ve, v = aggV q.C ∧ q.Ok := by
  obtain ⟨f0, f1, hu, _⟩ := fieldsV
  obtain ⟨cs, rfl, hsz⟩ := okWide_struct hu hv
  obtain ⟨fuel, hf⟩ := h
  obtain ⟨q, e, hs⟩ := ver_cells _ _ _ hf
  refine ⟨q, ?_, hs⟩
  have : cs.toList = q.C := e
  show Value.agg cs = .agg q.C.toArray
  rw [← this]
set_option maxRecDepth 100000 in
/-- Versions that came in. -/
theorem vers_open {H : Type} {enc : TypeId × Value → H} {W : World} {fuel : Nat} {v : Value} {x : DataW H × List MemPlace} (h : DataW.trod enc Tryd.prog W 0 (fun _ => true) true fuel 24 [v] = some x) :
    ∃ (ao : Option Addr) (c : Nat) (l : List Ve), v = .slice ao l.length c ∧ (ao = none → l = [] ∧ c = 0) ∧ RowS Ve.C 97 W ao l ∧ (∀ r ∈ l, r.Ok) :=
  rows_open Ve.C Ve.Ok 97 24 28 Tryd.underlying24 (by kernel_rfl) (fun x _ => ⟨_, rfl⟩) ver_cells h
/-- A step as plain data. -/
structure St where
  kd : Int
  pg : Int
  ps : Int
  bd : List Int
  n : Int
def St.C (s : St) : List Value := .int .i64 s.kd :: .int .i64 s.pg :: .int .i64 s.ps :: (u8s s.bd ++ [.int .i64 s.n])
structure St.Ok (s : St) : Prop where
  bd : Rc.Byts 96 s.bd
  kd : -9223372036854775808 ≤ s.kd ∧ s.kd ≤ 9223372036854775807
  pg : -9223372036854775808 ≤ s.pg ∧ s.pg ≤ 9223372036854775807
  n : -9223372036854775808 ≤ s.n ∧ s.n ≤ 9223372036854775807
instance : Inhabited St := ⟨⟨0, 0, 0, Rc.zs 96, 0⟩⟩

end Go.Proofs.YtmeajhdhiebkdaaDoor

/-
  Single operations of redo's laws.
-/
namespace Go.Proofs.YtmeajhdhiebkdaaDoor
set_option maxRecDepth 100000
open Go.RowKit

section
variable {o : Oper} {a : Act} {w : World} {K : Act → World → Prop} {Q : Exit → Act → World → Prop}
theorem o_eqlc34 (x : Operand) (c : Int) (ho : o.op = .binOp .eql 34 x (.const (.int .i64 c)) 34) (m : Int) (r : Bool) (hr : decide (m = c) = r) (hx : a.eval x = .int .i64 m) (h : K (a.put o.dst (.bool r)) w) : o.wp Tryd.prog a w K Q := by
  have hb : (m == c) = r := by rw [← hr]; rfl
  unfold Oper.wp execOp
  simp only [ho, hx]
  simp [go_sem, hb]
  exact h
theorem o_neqc34 (x : Operand) (c : Int) (ho : o.op = .binOp .neq 34 x (.const (.int .i64 c)) 34) (m : Int) (r : Bool) (hr : decide (m = c) = r) (hx : a.eval x = .int .i64 m) (h : K (a.put o.dst (.bool (!r))) w) : o.wp Tryd.prog a w K Q := by
  have hb : (m != c) = !r := by rw [← hr]; rfl
  unfold Oper.wp execOp
  simp only [ho, hx]
  simp [go_sem, hb]
  exact h
theorem o_eqlt2 (x y : Operand) (ho : o.op = .binOp .eql 2 x y 2) (m n : Int) (r : Bool) (hr : decide (m = n) = r) (hx : a.eval x = .int .i64 m) (hy : a.eval y = .int .i64 n) (h : K (a.put o.dst (.bool r)) w) : o.wp Tryd.prog a w K Q := by
  have hb : (m == n) = r := by rw [← hr]; rfl
  unfold Oper.wp execOp
  simp only [ho, hx, hy]
  simp [go_sem, hb]
  exact h
theorem o_neqt2 (x y : Operand) (ho : o.op = .binOp .neq 2 x y 2) (m n : Int) (r : Bool) (hr : decide (m = n) = r) (hx : a.eval x = .int .i64 m) (hy : a.eval y = .int .i64 n) (h : K (a.put o.dst (.bool (!r))) w) : o.wp Tryd.prog a w K Q := by
  have hb : (m != n) = !r := by rw [← hr]; rfl
  unfold Oper.wp execOp
  simp only [ho, hx, hy]
  simp [go_sem, hb]
  exact h
theorem o_eqlt3 (x y : Operand) (ho : o.op = .binOp .eql 3 x y 3) (m n : Int) (r : Bool) (hr : decide (m = n) = r) (hx : a.eval x = .int .i64 m) (hy : a.eval y = .int .i64 n) (h : K (a.put o.dst (.bool r)) w) : o.wp Tryd.prog a w K Q := by
  have hb : (m == n) = r := by rw [← hr]; rfl
  unfold Oper.wp execOp
  simp only [ho, hx, hy]
  simp [go_sem, hb]
  exact h
theorem o_neqt3 (x y : Operand) (ho : o.op = .binOp .neq 3 x y 3) (m n : Int) (r : Bool) (hr : decide (m = n) = r) (hx : a.eval x = .int .i64 m) (hy : a.eval y = .int .i64 n) (h : K (a.put o.dst (.bool (!r))) w) : o.wp Tryd.prog a w K Q := by
  have hb : (m != n) = !r := by rw [← hr]; rfl
  unfold Oper.wp execOp
  simp only [ho, hx, hy]
  simp [go_sem, hb]
  exact h
theorem o_gtrt3 (x y : Operand) (ho : o.op = .binOp .gtr 3 x y 3) (m n : Int) (r : Bool) (hr : decide (n < m) = r) (hx : a.eval x = .int .i64 m) (hy : a.eval y = .int .i64 n) (h : K (a.put o.dst (.bool r)) w) : o.wp Tryd.prog a w K Q := by
  unfold Oper.wp execOp
  simp only [ho, hx, hy]
  simp [go_sem, hr]
  exact h
theorem o_lsst3 (x y : Operand) (ho : o.op = .binOp .lss 3 x y 3) (m n : Int) (r : Bool) (hr : decide (m < n) = r) (hx : a.eval x = .int .i64 m) (hy : a.eval y = .int .i64 n) (h : K (a.put o.dst (.bool r)) w) : o.wp Tryd.prog a w K Q := by
  unfold Oper.wp execOp
  simp only [ho, hx, hy]
  simp [go_sem, hr]
  exact h
theorem o_addt3 (x y : Operand) (ho : o.op = .binOp .add 3 x y 3) (m n r : Int) (hr : m + n = r) (hb : -9223372036854775808 ≤ r ∧ r ≤ 9223372036854775807) (hx : a.eval x = .int .i64 m) (hy : a.eval y = .int .i64 n) (h : K (a.put o.dst (.int .i64 r)) w) : o.wp Tryd.prog a w K Q := by
  have hw : IntKind.i64.wrap r = r := by rw [IntKind.wrap_i64]; omega
  unfold Oper.wp execOp
  simp only [ho, hx, hy]
  simp [go_sem, hr, hw]
  exact h
theorem o_addk3 (x : Operand) (c : Int) (ho : o.op = .binOp .add 3 x (.const (.int .i64 c)) 3) (m r : Int) (hr : m + c = r) (hb : -9223372036854775808 ≤ r ∧ r ≤ 9223372036854775807) (hx : a.eval x = .int .i64 m) (h : K (a.put o.dst (.int .i64 r)) w) : o.wp Tryd.prog a w K Q := by
  have hw : IntKind.i64.wrap r = r := by rw [IntKind.wrap_i64]; omega
  unfold Oper.wp execOp
  have hc : a.eval (.const (.int .i64 c)) = .int .i64 c := rfl
  simp only [ho, hx, hc]
  simp [go_sem, hr, hw]
  exact h
theorem o_half3 (x : Operand) (ho : o.op = .binOp .quo 3 x (.const (.int .i64 2)) 3) (n : Nat) (hb : n ≤ 1000) (hx : a.eval x = .int .i64 (n : Int)) (h : K (a.put o.dst (.int .i64 ((n / 2 : Nat) : Int))) w) : o.wp Tryd.prog a w K Q := by
  have hw : IntKind.i64.wrap ((n : Int) / 2) = (n : Int) / 2 := by rw [IntKind.wrap_i64]; omega
  have ht : (n : Int).tdiv 2 = (n : Int) / 2 := Int.tdiv_eq_ediv_of_nonneg (by omega)
  unfold Oper.wp execOp
  have hc : a.eval (.const (.int .i64 2)) = .int .i64 2 := rfl
  simp only [ho, hx, hc]
  simp [go_sem, ht, hw]
  exact h
theorem o_min3 (x y : Operand) (ho : o.op = .call { callee := .builtin .min, args := #[x, y], argTypes := #[3, 3] }) (m n r : Int) (hr : min m n = r) (hx : a.eval x = .int .i64 m) (hy : a.eval y = .int .i64 n) (h : K (a.put o.dst (.int .i64 r)) w) : o.wp Tryd.prog a w K Q := by
  unfold Oper.wp execOp
  simp only [ho, resolve, invoke, builtin, Sem.run_bind, Sem.run_pure, Result.andThen_ok, List.map_toArray, List.map_cons, List.map_nil, hx, hy]
  by_cases hc : n < m
  · have e : r = n := by rw [← hr]; omega
    subst e
    simp [go_sem, hc]
    exact h
  · have e : r = m := by rw [← hr]; omega
    subst e
    simp [go_sem, hc]
    exact h
theorem o_idx24 (x y : Operand) (ho : o.op = .indexAddr 24 x y) (g off m c k : Nat) (hk : k < m) (hx : a.eval x = .slice (some ⟨g, off, none⟩) m c) (hy : a.eval y = .int .i64 k) (h : K (a.put o.dst (.pointer (some ⟨g, off + k * 97, none⟩))) w) : o.wp Tryd.prog a w K Q := by
  unfold Oper.wp execOp
  simp only [ho, hx, hy]
  simp [go_sem, hk, Addr.add_lit]
  exact h
theorem o_fldo45_5 (x : Operand) (ho : o.op = .fieldAddr 45 x 5) (b i : Nat) (hx : a.eval x = .pointer (some ⟨b, i, none⟩)) (h : K (a.put o.dst (.pointer (some ⟨b, i + 5, none⟩))) w) : o.wp Tryd.prog a w K Q := by
  unfold Oper.wp execOp
  simp only [ho, hx]
  simp [go_sem, Addr.add_lit]
  exact h
theorem o_fldo45_1 (x : Operand) (ho : o.op = .fieldAddr 45 x 1) (b i : Nat) (hx : a.eval x = .pointer (some ⟨b, i, none⟩)) (h : K (a.put o.dst (.pointer (some ⟨b, i + 1, none⟩))) w) : o.wp Tryd.prog a w K Q := by
  unfold Oper.wp execOp
  simp only [ho, hx]
  simp [go_sem, Addr.add_lit]
  exact h
theorem o_fldo28_0 (x : Operand) (ho : o.op = .fieldAddr 28 x 0) (b i : Nat) (hx : a.eval x = .pointer (some ⟨b, i, none⟩)) (h : K (a.put o.dst (.pointer (some ⟨b, i + 0, none⟩))) w) : o.wp Tryd.prog a w K Q := by
  unfold Oper.wp execOp
  simp only [ho, hx]
  simp [go_sem, Addr.add_lit]
  exact h
theorem o_fldo28_1 (x : Operand) (ho : o.op = .fieldAddr 28 x 1) (b i : Nat) (hx : a.eval x = .pointer (some ⟨b, i, none⟩)) (h : K (a.put o.dst (.pointer (some ⟨b, i + 1, none⟩))) w) : o.wp Tryd.prog a w K Q := by
  unfold Oper.wp execOp
  simp only [ho, hx]
  simp [go_sem, Addr.add_lit]
  exact h
end
theorem run_bldT (w : World) (c e : Int) (bd : List Int) (h : bd.length = 96) : (Instr.build 45 #[(0, .int .i64 1), (1, .int .i64 1), (2, .int .i64 c), (4, .int .i64 e), (5, aggV (u8s bd))]).run Tryd.prog w = .ok (aggV (Rc.recC ⟨1, 1, c, 0, e, bd⟩)) w := by
  have hl : (u8s bd).length = 96 := by rw [u8s_len, h]
  have hz : ((((Tryd.zeroCells45.setIfInBounds 0 (Value.int .i64 1)).setIfInBounds 1 (Value.int .i64 1)).setIfInBounds 2 (Value.int .i64 c)).setIfInBounds 4 (Value.int .i64 e)) = ([Value.int .i64 1, .int .i64 1, .int .i64 c, .int .i64 0, .int .i64 e] ++ [] ++ List.replicate 96 (Value.int .u8 0)).toArray := by kernel_rfl
  have hf := fold_set [Value.int .i64 1, .int .i64 1, .int .i64 c, .int .i64 0, .int .i64 e] (u8s bd) (List.replicate 96 (Value.int .u8 0)) 0 [] (by rw [hl, List.length_replicate]) rfl
  unfold Instr.build
  simp [go_sem, run_underlying Tryd.underlying45, aggV]
  rw [hz]
  rw [if_neg (by rw [hl]; omega)]
  simp only [List.length_cons, List.length_nil, Nat.zero_add, Nat.reduceAdd] at hf
  rw [hf]
  rfl
section
variable {o : Oper} {a : Act} {w : World} {K : Act → World → Prop} {Q : Exit → Act → World → Prop}
theorem o_bldT (x2 x4 x5 : Operand) (ho : o.op = .build 45 #[(0, .const (.int .i64 1)), (1, .const (.int .i64 1)), (2, x2), (4, x4), (5, x5)]) (n ps : Int) (bd : List Int) (hb : bd.length = 96) (h2 : a.eval x2 = .int .i64 n) (h4 : a.eval x4 = .int .i64 ps) (h5 : a.eval x5 = aggV (u8s bd)) (h : K (a.put o.dst (aggV (Rc.recC ⟨1, 1, n, 0, ps, bd⟩))) w) : o.wp Tryd.prog a w K Q := by
  have hc : a.eval (.const (.int .i64 1)) = .int .i64 1 := rfl
  unfold Oper.wp execOp
  simp only [ho, List.map_toArray, List.map_cons, List.map_nil, hc, h2, h4, h5, Sem.run_bind, run_bldT w _ _ _ hb, Result.andThen_ok]
  exact h
end

end Go.Proofs.YtmeajhdhiebkdaaDoor

/-
  The calls of RedoTorn.
-/
namespace Go.Proofs.YtmeajhdhiebkdaaDoor
set_option maxRecDepth 100000
open Go.RowKit

theorem kt_app {J : Ar.Job} {w0 W : World} {l b g : Nat} {D : Dv.Dev} {L : Lo} {u : Value} {S : List Rc.Rec} (x : Ve) (hx : x.Ok) (h : Kb w0 W l b g D L u S) (ht : Tn J D L) : Calls Tryd.prog 16 #[P0 l, .int .i64 0, aggV x.C] W fun e w' => ∃ (n c : Int) (L' : Lo), e = .returned (.tuple #[.int .i64 n, .int .i64 c]) ∧ Kb w0 w' l b g D L' u S ∧ Tn J D L' ∧ ((¬ c = 0 ∧ L' = L) ∨ (c = 0 ∧ L'.R = L.R ++ [⟨1, 1, n, 0, x.ps, x.bd⟩] ∧ L'.fl = L.fl)) := by
  refine (kb_app 0 x.ps x.bd hx.bd h).mono ?_
  rintro e w' ⟨rfl, h1⟩
  refine ⟨_, _, _, rfl, h1, ht.app x.ps x.bd hx.bd, ?_⟩
  rcases ht.ends x.ps x.bd with ⟨e1, e2⟩ | ⟨e1, n, e2, e3, e4, e5⟩
  · exact .inl ⟨e2, e1⟩
  · exact .inr ⟨e1, by rw [e2]; exact e3, e4⟩
theorem kt_open {w0 W : World} {l b g : Nat} {D : Dv.Dev} {L : Lo} {u : Value} {S : List Rc.Rec} {J : Ar.Job} {st : Int} {R : List Rc.Rec} (hF : Rc.First w0) (hl : lookR D J 1 true = (st, R, 0)) (h : Kb w0 W l b g D L u S) : Calls Tryd.prog 11 #[P0 b, aggV (Ar.jobC J), .int .i64 1, .int .i64 2] W fun e w' => ∃ l2, e = .returned (.tuple #[P0 l2, .int .i64 0]) ∧ Kb w0 w' l b g D L u S ∧ Ka w0 w' l2 b g D (openL J 1 2 st R) := by
  have h9 := open_yes b g D J 1 2 W h.ka.kd.dev (h.ka.first hF)
  rw [show decide ((1 : Int) ≤ 2 ∧ (2 : Int) ≤ 2147483647) = true from rfl, hl] at h9
  refine (h9 rfl).mono ?_
  rintro e w' ⟨l2, rv, rfl, h1, hk, h2, h3⟩
  have := h.k.size
  exact ⟨l2, rfl, h.step hk, ⟨rv, h1, fun k e => by have := h3 k e; omega⟩, h.k.trans hk, by omega, h.gb, h.gg⟩
theorem kt_read {w0 W : World} {l b g : Nat} {D : Dv.Dev} {L : Lo} {J : Ar.Job} {st : Int} {R : List Rc.Rec} (hF : Rc.First w0) (hl : lookR D J 1 true = (st, R, 0)) (h : Ka w0 W l b g D L) : Calls Tryd.prog 20 #[P0 b, aggV (Ar.jobC J), .int .i64 1] W fun e w' => ∃ (ro : Option Addr) (rc m : Nat), e = .returned (.tuple #[.int .i64 st, .slice ro m rc, .int .i64 0]) ∧ R.length = m ∧ OwnO w' (.slice ro m rc) m (cellsR R) ∧ Kept [] W w' := by
  have h9 := read20 b g D J 1 W h.kd.dev (h.first hF)
  rw [hl] at h9
  refine h9.mono ?_
  rintro e w' ⟨v, rfl, h1, _, h2⟩
  obtain ⟨ro, rc, rfl, _, _⟩ := h1.sl
  exact ⟨ro, rc, _, rfl, rfl, h1, h2⟩
theorem kt_new {J : Ar.Job} (hm : J.may = true) {w0 W : World} (hk : Kept [] w0 W) : Calls Tryd.prog 10 #[aggV (Ar.jobC J)] W fun e w' => ∃ b g, e = .returned (P0 b) ∧ Kd w0 w' b g (eJ J) := kd_new J hm w0 W hk
theorem kt_open1 {J : Ar.Job} {nd : Int} (hm : J.may = true) (hn : 0 ≤ nd ∧ nd < J.n) {w0 W : World} {b g : Nat} (hF : Rc.First w0) (hd : Kd w0 W b g (eJ J)) : Calls Tryd.prog 11 #[P0 b, aggV (Ar.jobC J), .int .i64 nd, .int .i64 1] W fun e w' => ∃ l, e = .returned (.tuple #[P0 l, .int .i64 0]) ∧ Ka w0 w' l b g (eJ J) (openL J nd 1 1 []) :=
  kd_open hF J nd 1 1 [] (by omega) (hol0J hm hn).1.look hd
theorem tn0 {J : Ar.Job} (hm : J.may = true) : Tn J (eJ J) (openL J 1 1 1 []) := by
  have hm' := hm
  simp only [Ar.Job.may, decide_eq_true_eq] at hm'
  obtain ⟨h1, h2⟩ := hol0J (nd := 1) hm (by omega)
  exact ⟨h1, h2, rfl, rfl, rfl⟩
/-- The element of a slice of versions. -/
theorem ve_at {W : World} {ao : Option Addr} {l : List Ve} (h : RowS Ve.C 97 W ao l) {k : Nat} {x : Ve} (hx : l[k]? = some x) : ∃ b o, ao = some ⟨b, o, none⟩ ∧ W.rangeAt b (o + k * 97) x.C := by
  obtain ⟨b, o, e, h1⟩ := h k x hx
  exact ⟨b, o, e, fun j u hj => h1 j u hj⟩
theorem ve_len {x : Ve} (h : x.Ok) : x.C.length = 97 := by
  show (verC x.ps x.bd).length = 97
  simp [verC, u8s_len, h.bd.len]
theorem ve_bd {W : World} {b o : Nat} {x : Ve} (h : W.rangeAt b o x.C) : W.rangeAt b (o + 1) (u8s x.bd) := fun j u hj => by
  have h9 := h (j + 1) u (by show (verC x.ps x.bd)[j + 1]? = some u; exact hj)
  rw [show o + 1 + j = o + (j + 1) by omega]
  exact h9
theorem ve_ps {W : World} {b o : Nat} {x : Ve} (h : W.rangeAt b o x.C) : W.cell? ⟨b, o, none⟩ = some (.int .i64 x.ps) := by
  have h9 := h 0 (.int .i64 x.ps) rfl
  exact h9
theorem range_kept {W W' : World} {b o : Nat} {xs : List Value} (h : W.rangeAt b o xs) (hk : Kept [] W W') : W'.rangeAt b o xs := fun j u hj => hk.cell (h j u hj) (by simp)
/-- What the region of an append to a row keeps. -/
@[reducible] def Sap (V : World) (ib ia : Nat) (u : Value) (n : Nat) (xs : List Value) (r : Rc.Rec) (d : Nat → Bool) (vs : Nat → Value) (W : World) : Prop :=
  (d ia = false → Kept [] V W ∧ (d ib = true → ∃ p, vs ib = .slice (some ⟨p, 0, none⟩) 1 1 ∧ Blk W p 45 (Rc.recC r))) ∧
  (d ia = true → OwnO W (vs ia) (n + 1) (xs ++ Rc.recC r) ∧ Kept u.ownBlock.toList V W ∧ ∀ k, (vs ia).ownBlock = some k → u.ownBlock = some k ∨ V.heap.size ≤ k)
theorem Sap.loc {V : World} {ib ia : Nat} {u : Value} {n : Nat} {xs : List Value} {r : Rc.Rec} : ∀ d d' vs vs' W, (∀ i ∈ [ib, ia], d i = d' i ∧ vs i = vs' i) → Sap V ib ia u n xs r d vs W → Sap V ib ia u n xs r d' vs' W := by
  intro d d' vs vs' W H h
  have e0 := H ib (by simp)
  have e1 := H ia (by simp)
  unfold Sap at h ⊢
  rw [← e0.1, ← e0.2, ← e1.1, ← e1.2]
  exact h
section
variable {o : Oper} {a : Act} {w : World} {K : Act → World → Prop} {Q : Exit → Act → World → Prop}
theorem o_eqlA (T r : Nat) (hG : Tryd.prog.eqGuardType Tryd.prog.depth T = false) (x y : Operand) (ho : o.op = .binOp .eql T x y r) (vs us : List Value) (hx : a.eval x = aggV vs) (hy : a.eval y = aggV us) (c : Bool)
    (he : (Op.equal T (aggV vs) (aggV us)).run Tryd.prog w = .ok c w) (h : K (a.put o.dst (.bool c)) w) : o.wp Tryd.prog a w K Q := by
  unfold Oper.wp execOp
  simp only [aggV] at he hx hy
  have hg : (eqGuard .eql T x y (.agg vs.toArray) (.agg us.toArray)).run Tryd.prog w = .ok () w := by simp [eqGuard, Sem.run_bind, hG]
  have hb : (binOp BinOp.eql T (.agg vs.toArray) (.agg us.toArray)).run Tryd.prog w = .ok (.bool c) w := by simp only [binOp, Sem.run_bind, he, Result.andThen_ok, Sem.run_pure]
  simp only [ho, hx, hy, Sem.run_bind, hg, hb, Result.andThen_ok]
  exact h
theorem o_neqA (T r : Nat) (hG : Tryd.prog.eqGuardType Tryd.prog.depth T = false) (x y : Operand) (ho : o.op = .binOp .neq T x y r) (vs us : List Value) (hx : a.eval x = aggV vs) (hy : a.eval y = aggV us) (c : Bool)
    (he : (Op.equal T (aggV vs) (aggV us)).run Tryd.prog w = .ok c w) (h : K (a.put o.dst (.bool (!c))) w) : o.wp Tryd.prog a w K Q := by
  unfold Oper.wp execOp
  simp only [aggV] at he hx hy
  have hg : (eqGuard .neq T x y (.agg vs.toArray) (.agg us.toArray)).run Tryd.prog w = .ok () w := by simp [eqGuard, Sem.run_bind, hG]
  have hb : (binOp BinOp.neq T (.agg vs.toArray) (.agg us.toArray)).run Tryd.prog w = .ok (.bool (!c)) w := by simp only [binOp, Sem.run_bind, he, Result.andThen_ok, Sem.run_pure]
  simp only [ho, hx, hy, Sem.run_bind, hg, hb, Result.andThen_ok]
  exact h
theorem o_neqR (x y : Operand) (ho : o.op = .binOp .neq 45 x y 45) (r q : Rc.Rec) (hr : r.bd.length = 96) (hq : q.bd.length = 96) (c : Bool) (hc : Rc.recEq r q = c) (hx : a.eval x = aggV (Rc.recC r)) (hy : a.eval y = aggV (Rc.recC q)) (h : K (a.put o.dst (.bool (!c))) w) : o.wp Tryd.prog a w K Q :=
  o_neqA 45 45 Rc.guard25 x y ho _ _ hx hy c ((Rc.equal25 w r q hr hq).trans (by rw [hc])) h
end
theorem kt_flush {w0 W : World} {l b g : Nat} {D D' : Dv.Dev} {M : Lo} {q : Nat} {c : Int} (hf : M.flush D = (D', q, c)) (h : Ka w0 W l b g D M) : Calls Tryd.prog 13 #[P0 l] W fun e w' => e = .returned (.int .i64 c) ∧ Ka w0 w' l b g D' (M.atF q) := by
  have h9 := ka_flush h
  rw [hf] at h9
  exact h9

end Go.Proofs.YtmeajhdhiebkdaaDoor
