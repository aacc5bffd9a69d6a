/-
  nothing.
-/
import Derived.Test.YthidiolgngkffaaPu
namespace Go.Proofs.Ythidiolgngkffaa
set_option maxRecDepth 100000
open Go.RowKit

theorem cg19 (vs : Array Value) (w : World) : (callFunc 19 vs).run Try.prog w = .ok (.enter 19 vs) w := by kernel_rfl
theorem cg20 (vs : Array Value) (w : World) : (callFunc 20 vs).run Try.prog w = .ok (.enter 20 vs) w := by kernel_rfl
theorem cg21 (vs : Array Value) (w : World) : (callFunc 21 vs).run Try.prog w = .ok (.enter 21 vs) w := by kernel_rfl
theorem cg22 (vs : Array Value) (w : World) : (callFunc 22 vs).run Try.prog w = .ok (.enter 22 vs) w := by kernel_rfl
theorem cg23 (vs : Array Value) (w : World) : (callFunc 23 vs).run Try.prog w = .ok (.enter 23 vs) w := by kernel_rfl
theorem cg28 (vs : Array Value) (w : World) : (callFunc 28 vs).run Try.prog w = .ok (.enter 28 vs) w := by kernel_rfl
theorem cg29 (vs : Array Value) (w : World) : (callFunc 29 vs).run Try.prog w = .ok (.enter 29 vs) w := by kernel_rfl
theorem cg30 (vs : Array Value) (w : World) : (callFunc 30 vs).run Try.prog w = .ok (.enter 30 vs) w := by kernel_rfl
theorem cg33 (vs : Array Value) (w : World) : (callFunc 33 vs).run Try.prog w = .ok (.enter 33 vs) w := by kernel_rfl
theorem cg34 (vs : Array Value) (w : World) : (callFunc 34 vs).run Try.prog w = .ok (.enter 34 vs) w := by kernel_rfl
theorem cg35 (vs : Array Value) (w : World) : (callFunc 35 vs).run Try.prog w = .ok (.enter 35 vs) w := by kernel_rfl
theorem cg36 (vs : Array Value) (w : World) : (callFunc 36 vs).run Try.prog w = .ok (.enter 36 vs) w := by kernel_rfl
theorem cg37 (vs : Array Value) (w : World) : (callFunc 37 vs).run Try.prog w = .ok (.enter 37 vs) w := by kernel_rfl
theorem cg38 (vs : Array Value) (w : World) : (callFunc 38 vs).run Try.prog w = .ok (.enter 38 vs) w := by kernel_rfl
theorem cg15 (vs : Array Value) (w : World) : (callFunc 15 vs).run Try.prog w = .ok (.enter 15 vs) w := by kernel_rfl
theorem cg16 (vs : Array Value) (w : World) : (callFunc 16 vs).run Try.prog w = .ok (.enter 16 vs) w := by kernel_rfl
theorem cg17 (vs : Array Value) (w : World) : (callFunc 17 vs).run Try.prog w = .ok (.enter 17 vs) w := by kernel_rfl
theorem cg18 (vs : Array Value) (w : World) : (callFunc 18 vs).run Try.prog w = .ok (.enter 18 vs) w := by kernel_rfl
theorem cg8 (vs : Array Value) (w : World) : (callFunc 8 vs).run Try.prog w = .ok (.enter 8 vs) w := by kernel_rfl
theorem cg9 (vs : Array Value) (w : World) : (callFunc 9 vs).run Try.prog w = .ok (.enter 9 vs) w := by kernel_rfl
theorem cg31 (vs : Array Value) (w : World) : (callFunc 31 vs).run Try.prog w = .ok (.enter 31 vs) w := by kernel_rfl
theorem cg32 (vs : Array Value) (w : World) : (callFunc 32 vs).run Try.prog w = .ok (.enter 32 vs) w := by kernel_rfl

section
variable {o : Oper} {a : Act} {w : World} {K : Act → World → Prop} {Q : Exit → Act → World → Prop}
theorem o_eqlP (x : Operand) (ho : o.op = .binOp .eql 40 x (.const (.pointer none)) 40) (hx : a.eval x = .pointer none) (h : K (a.put o.dst (.bool true)) w) : o.wp Try.prog a w K Q := by
  unfold Oper.wp execOp
  simp only [ho, hx]
  simp [go_sem, Act.eval]
  exact h
end
set_option maxHeartbeats 4000000 in
theorem nothing23 (p : Value) (w : World) (h : ∀ W, Kept [] w W → Calls Try.prog 39 #[p] W fun e w' => e = .returned (.bool true) ∧ w' = W) : Calls Try.prog 23 #[p] w fun e w' => e = .returned (.bool true) ∧ Kept [] w w' := by
  have H39 := hide h
  have HL : ∀ W, Kept [] w W → Hid (Calls Try.prog 21 #[p, .int .i64 0, aggV le0.C] W fun e w' => e = .returned (.tuple #[.bool false, .int .i64 1]) ∧ Kept [] W w') := fun W hW => hide (look_no p 0 le0 W (fun V hV => h V (hW.trans hV)))
  have HS : ∀ W, Kept [] w W → Hid (Calls Try.prog 30 #[p, .int .i64 0] W fun e w' => e = .returned (.tuple #[aggV le0.C, .bool false]) ∧ Kept [] W w') := fun W hW => hide (said_no p 0 W (fun V hV => has_no p 0 V (h V (hW.trans hV))))
  clear h
  go_enter Try.func23, Try.ntmps23
  have M : Hid (Mm [] w w []) := hide Mm.init
  go_wp2_with (
    first
    | (refine wpBuildZ (T := 23) le0.C build23 rfl rfl ?_
       refine Stp.go ?_))
  constructor
  go_wp2_with (
    first
    | (go_at_call 21
       refine (unhide (HL _ (unhide M).kept)).mono ?_
       rintro e W1 ⟨rfl, K1⟩
       replace M : Hid (Mm [] w W1 []) := hide ((unhide M).step K1)
       clear K1
       refine Stp.go ?_))
  constructor
  go_wp2_with (
    first
    | (go_at_call 30
       refine (unhide (HS _ (unhide M).kept)).mono ?_
       rintro e W2 ⟨rfl, K2⟩
       replace M : Hid (Mm [] w W2 []) := hide ((unhide M).step K2)
       clear K2
       refine Stp.go ?_))
  constructor
  go_wp2_with (
    first
    | (refine wpNew row23 (le0.C) rfl zero23 5 rfl rfl rfl (.tmp 16) rfl rfl rfl (le0.C) rfl (leC_one _) (by kernel_rfl) (by kernel_rfl) ?_
       intro W3 b3 e3 B3 K3
       replace M : Hid (Mm [] w W3 [(b3, 23, le0.C)]) := hide ((unhide M).new e3 B3 K3)
       clear e3 B3 K3
       refine Stp.go ?_))
  constructor
  go_upto_region 3 with fail
  refine wp_text_tq 45 rfl (by kernel_rfl) [some (.int .i64 1), some (.int .i64 1), some (.bool true), some (.bool true), some (p), some (.int .i64 1), some (.int .i64 1), some (.bool true), some (.bool true), some (.bool true), some (p), some (.int .i64 1), some (.int .i64 1), some (.bool true), some (.bool true), some (.bool true), some (aggV le0.C), some (aggV le0.C), some (.bool true), some (.bool true), some (.bool true), some (.bool false), some (.bool true), some (.bool true), some (.bool true), some (p), some (.int .i64 0), some (.bool true), some (.bool true), some (.bool true), some (p), some (.slice none 0 0), some (.int .i64 0), some (.bool true), some (.bool true), some (.bool true), some (p), some (.pointer none), some (.bool true), some (.bool true), some (.bool true), some (p), some (.bool true), some (.bool true), some (.bool true)] rfl (by kernel_rfl) (by kernel_rfl) ?_ ?_
  · intro i o' hi hsk ho a' w2 hout hin hk2
    replace hk2 : Kept [] W3 w2 := ⟨hk2.os, hk2.tape, hk2.output, hk2.size, hk2.block⟩
    match i, ho, hsk with
    | 0, ho, hsk =>
      obtain rfl := Option.some.inj ho
      exact wp_move (.tmp 4) rfl _ ((hout 4 (by kernel_rfl)).trans rfl) ⟨_, rfl, tq_is _ _ _ _ rfl, Kept.refl _ _, fun _ _ _ _ _ => trivial⟩
    | 1, ho, hsk =>
      obtain rfl := Option.some.inj ho
      have e0 : a'.eval (.tmp 18) = .int .i64 1 := is_tq (hin 0 18 (by kernel_rfl) (by kernel_rfl)) rfl
      refine wp_callF 11 _ _ rfl #[.int .i64 1] (by simp [e0]) (cg11 _ _) ((num11 _ _).mono ?_)
      rintro e w3 ⟨rfl, rfl⟩
      exact ⟨_, rfl, _, rfl, tq_is _ _ _ _ rfl, Kept.refl _ _, fun _ _ _ _ _ => trivial⟩
    | 2, ho, hsk =>
      obtain rfl := Option.some.inj ho
      have e0 : a'.eval (.tmp 19) = .int .i64 1 := is_tq (hin 1 19 (by kernel_rfl) (by kernel_rfl)) rfl
      exact o_eql3 (.tmp 19) 1 rfl _ true (by simp) e0 ⟨_, rfl, tq_is _ _ _ _ rfl, Kept.refl _ _, fun _ _ _ _ _ => trivial⟩
    | 3, ho, hsk =>
      obtain rfl := Option.some.inj ho
      have e0 : a'.eval (.tmp 20) = .bool true := is_tq (hin 2 20 (by kernel_rfl) (by kernel_rfl)) rfl
      exact wp_move (.tmp 20) rfl _ e0 ⟨_, rfl, tq_is _ _ _ _ rfl, Kept.refl _ _, fun _ _ _ _ _ => trivial⟩
    | 4, ho, hsk =>
      obtain rfl := Option.some.inj ho
      exact wp_move (.tmp 0) rfl _ ((hout 0 (by kernel_rfl)).trans rfl) ⟨_, rfl, tq_is _ _ _ _ rfl, Kept.refl _ _, fun _ _ _ _ _ => trivial⟩
    | 5, ho, hsk =>
      obtain rfl := Option.some.inj ho
      have e0 : a'.eval (.tmp 22) = p := is_tq (hin 4 22 (by kernel_rfl) (by kernel_rfl)) rfl
      refine wp_callF 29 _ _ rfl #[p, .int .i64 0] (by simp [e0]; rfl) (cg29 _ _) ((forget_no p 0 _ (unhide H39 _ ((unhide M).kept.trans hk2))).mono ?_)
      rintro e w3 ⟨rfl, rfl⟩
      exact ⟨_, rfl, _, rfl, tq_is _ _ _ _ rfl, Kept.refl _ _, fun _ _ _ _ _ => trivial⟩
    | 6, ho, hsk =>
      obtain rfl := Option.some.inj ho
      have e0 : a'.eval (.tmp 23) = .int .i64 1 := is_tq (hin 5 23 (by kernel_rfl) (by kernel_rfl)) rfl
      refine wp_callF 11 _ _ rfl #[.int .i64 1] (by simp [e0]) (cg11 _ _) ((num11 _ _).mono ?_)
      rintro e w3 ⟨rfl, rfl⟩
      exact ⟨_, rfl, _, rfl, tq_is _ _ _ _ rfl, Kept.refl _ _, fun _ _ _ _ _ => trivial⟩
    | 7, ho, hsk =>
      obtain rfl := Option.some.inj ho
      have e0 : a'.eval (.tmp 24) = .int .i64 1 := is_tq (hin 6 24 (by kernel_rfl) (by kernel_rfl)) rfl
      exact o_eql3 (.tmp 24) 1 rfl _ true (by simp) e0 ⟨_, rfl, tq_is _ _ _ _ rfl, Kept.refl _ _, fun _ _ _ _ _ => trivial⟩
    | 8, ho, hsk =>
      obtain rfl := Option.some.inj ho
      have e0 : a'.eval (.tmp 21) = .bool true := is_tq (hin 3 21 (by kernel_rfl) (by kernel_rfl)) rfl
      have e1 : a'.eval (.tmp 25) = .bool true := is_tq (hin 7 25 (by kernel_rfl) (by kernel_rfl)) rfl
      exact o_pick (.tmp 21) (.tmp 25) rfl _ e0 e1 ⟨_, rfl, tq_is _ _ _ _ rfl, Kept.refl _ _, fun _ _ _ _ _ => trivial⟩
    | 9, ho, hsk =>
      obtain rfl := Option.some.inj ho
      have e0 : a'.eval (.tmp 26) = .bool true := is_tq (hin 8 26 (by kernel_rfl) (by kernel_rfl)) rfl
      exact wp_move (.tmp 26) rfl _ e0 ⟨_, rfl, tq_is _ _ _ _ rfl, Kept.refl _ _, fun _ _ _ _ _ => trivial⟩
    | 10, ho, hsk =>
      obtain rfl := Option.some.inj ho
      exact wp_move (.tmp 0) rfl _ ((hout 0 (by kernel_rfl)).trans rfl) ⟨_, rfl, tq_is _ _ _ _ rfl, Kept.refl _ _, fun _ _ _ _ _ => trivial⟩
    | 11, ho, hsk =>
      obtain rfl := Option.some.inj ho
      have e0 : a'.eval (.tmp 28) = p := is_tq (hin 10 28 (by kernel_rfl) (by kernel_rfl)) rfl
      refine wp_callF 33 _ _ rfl #[p] (by simp [e0]) (cg33 _ _) ((clear_no p _ (unhide H39 _ ((unhide M).kept.trans hk2))).mono ?_)
      rintro e w3 ⟨rfl, rfl⟩
      exact ⟨_, rfl, _, rfl, tq_is _ _ _ _ rfl, Kept.refl _ _, fun _ _ _ _ _ => trivial⟩
    | 12, ho, hsk =>
      obtain rfl := Option.some.inj ho
      have e0 : a'.eval (.tmp 29) = .int .i64 1 := is_tq (hin 11 29 (by kernel_rfl) (by kernel_rfl)) rfl
      refine wp_callF 11 _ _ rfl #[.int .i64 1] (by simp [e0]) (cg11 _ _) ((num11 _ _).mono ?_)
      rintro e w3 ⟨rfl, rfl⟩
      exact ⟨_, rfl, _, rfl, tq_is _ _ _ _ rfl, Kept.refl _ _, fun _ _ _ _ _ => trivial⟩
    | 13, ho, hsk =>
      obtain rfl := Option.some.inj ho
      have e0 : a'.eval (.tmp 30) = .int .i64 1 := is_tq (hin 12 30 (by kernel_rfl) (by kernel_rfl)) rfl
      exact o_eql3 (.tmp 30) 1 rfl _ true (by simp) e0 ⟨_, rfl, tq_is _ _ _ _ rfl, Kept.refl _ _, fun _ _ _ _ _ => trivial⟩
    | 14, ho, hsk =>
      obtain rfl := Option.some.inj ho
      have e0 : a'.eval (.tmp 27) = .bool true := is_tq (hin 9 27 (by kernel_rfl) (by kernel_rfl)) rfl
      have e1 : a'.eval (.tmp 31) = .bool true := is_tq (hin 13 31 (by kernel_rfl) (by kernel_rfl)) rfl
      exact o_pick (.tmp 27) (.tmp 31) rfl _ e0 e1 ⟨_, rfl, tq_is _ _ _ _ rfl, Kept.refl _ _, fun _ _ _ _ _ => trivial⟩
    | 15, ho, hsk =>
      obtain rfl := Option.some.inj ho
      have e0 : a'.eval (.tmp 32) = .bool true := is_tq (hin 14 32 (by kernel_rfl) (by kernel_rfl)) rfl
      exact wp_move (.tmp 32) rfl _ e0 ⟨_, rfl, tq_is _ _ _ _ rfl, Kept.refl _ _, fun _ _ _ _ _ => trivial⟩
    | 16, ho, hsk =>
      obtain rfl := Option.some.inj ho
      exact wp_loadA row23 (.tmp 5) rfl b3 0 ((hout 5 (by kernel_rfl)).trans rfl) (le0.C) rfl (((unhide M).step hk2).at 0 _ rfl).range ⟨_, rfl, tq_is _ _ _ _ rfl, Kept.refl _ _, fun _ _ _ _ _ => trivial⟩
    | 17, ho, hsk =>
      obtain rfl := Option.some.inj ho
      exact o_bldZ23 rfl ⟨_, rfl, tq_is _ _ _ _ rfl, Kept.refl _ _, fun _ _ _ _ _ => trivial⟩
    | 18, ho, hsk =>
      obtain rfl := Option.some.inj ho
      have e0 : a'.eval (.tmp 34) = aggV le0.C := is_tq (hin 16 34 (by kernel_rfl) (by kernel_rfl)) rfl
      have e1 : a'.eval (.tmp 35) = aggV le0.C := is_tq (hin 17 35 (by kernel_rfl) (by kernel_rfl)) rfl
      exact o_eqlA 23 23 guard23 (.tmp 34) (.tmp 35) rfl le0.C le0.C e0 e1 true ((eqL23 _ _ _).trans (by simp)) ⟨_, rfl, tq_is _ _ _ _ rfl, Kept.refl _ _, fun _ _ _ _ _ => trivial⟩
    | 19, ho, hsk =>
      obtain rfl := Option.some.inj ho
      have e0 : a'.eval (.tmp 33) = .bool true := is_tq (hin 15 33 (by kernel_rfl) (by kernel_rfl)) rfl
      have e1 : a'.eval (.tmp 36) = .bool true := is_tq (hin 18 36 (by kernel_rfl) (by kernel_rfl)) rfl
      exact o_pick (.tmp 33) (.tmp 36) rfl _ e0 e1 ⟨_, rfl, tq_is _ _ _ _ rfl, Kept.refl _ _, fun _ _ _ _ _ => trivial⟩
    | 20, ho, hsk =>
      obtain rfl := Option.some.inj ho
      have e0 : a'.eval (.tmp 37) = .bool true := is_tq (hin 19 37 (by kernel_rfl) (by kernel_rfl)) rfl
      exact wp_move (.tmp 37) rfl _ e0 ⟨_, rfl, tq_is _ _ _ _ rfl, Kept.refl _ _, fun _ _ _ _ _ => trivial⟩
    | 21, ho, hsk =>
      obtain rfl := Option.some.inj ho
      exact wp_move (.tmp 6) rfl _ ((hout 6 (by kernel_rfl)).trans rfl) ⟨_, rfl, tq_is _ _ _ _ rfl, Kept.refl _ _, fun _ _ _ _ _ => trivial⟩
    | 22, ho, hsk =>
      obtain rfl := Option.some.inj ho
      have e0 : a'.eval (.tmp 39) = .bool false := is_tq (hin 21 39 (by kernel_rfl) (by kernel_rfl)) rfl
      exact o_not (.tmp 39) rfl false e0 ⟨_, rfl, tq_is _ _ _ _ rfl, Kept.refl _ _, fun _ _ _ _ _ => trivial⟩
    | 23, ho, hsk =>
      obtain rfl := Option.some.inj ho
      have e0 : a'.eval (.tmp 38) = .bool true := is_tq (hin 20 38 (by kernel_rfl) (by kernel_rfl)) rfl
      have e1 : a'.eval (.tmp 40) = .bool true := is_tq (hin 22 40 (by kernel_rfl) (by kernel_rfl)) rfl
      exact o_pick (.tmp 38) (.tmp 40) rfl _ e0 e1 ⟨_, rfl, tq_is _ _ _ _ rfl, Kept.refl _ _, fun _ _ _ _ _ => trivial⟩
    | 24, ho, hsk =>
      obtain rfl := Option.some.inj ho
      have e0 : a'.eval (.tmp 41) = .bool true := is_tq (hin 23 41 (by kernel_rfl) (by kernel_rfl)) rfl
      exact wp_move (.tmp 41) rfl _ e0 ⟨_, rfl, tq_is _ _ _ _ rfl, Kept.refl _ _, fun _ _ _ _ _ => trivial⟩
    | 25, ho, hsk =>
      obtain rfl := Option.some.inj ho
      exact wp_move (.tmp 0) rfl _ ((hout 0 (by kernel_rfl)).trans rfl) ⟨_, rfl, tq_is _ _ _ _ rfl, Kept.refl _ _, fun _ _ _ _ _ => trivial⟩
    | 26, ho, hsk =>
      obtain rfl := Option.some.inj ho
      have e0 : a'.eval (.tmp 43) = p := is_tq (hin 25 43 (by kernel_rfl) (by kernel_rfl)) rfl
      refine wp_callF 22 _ _ rfl #[p, .int .i64 0] (by simp [e0]; rfl) (cg22 _ _) ((age_no p 0 _ (has_no p 0 _ (unhide H39 _ ((unhide M).kept.trans hk2)))).mono ?_)
      rintro e w3 ⟨rfl, rfl⟩
      exact ⟨_, rfl, _, rfl, tq_is _ _ _ _ rfl, Kept.refl _ _, fun _ _ _ _ _ => trivial⟩
    | 27, ho, hsk =>
      obtain rfl := Option.some.inj ho
      have e0 : a'.eval (.tmp 44) = .int .i64 0 := is_tq (hin 26 44 (by kernel_rfl) (by kernel_rfl)) rfl
      exact o_eql3 (.tmp 44) 0 rfl _ true (by simp) e0 ⟨_, rfl, tq_is _ _ _ _ rfl, Kept.refl _ _, fun _ _ _ _ _ => trivial⟩
    | 28, ho, hsk =>
      obtain rfl := Option.some.inj ho
      have e0 : a'.eval (.tmp 42) = .bool true := is_tq (hin 24 42 (by kernel_rfl) (by kernel_rfl)) rfl
      have e1 : a'.eval (.tmp 45) = .bool true := is_tq (hin 27 45 (by kernel_rfl) (by kernel_rfl)) rfl
      exact o_pick (.tmp 42) (.tmp 45) rfl _ e0 e1 ⟨_, rfl, tq_is _ _ _ _ rfl, Kept.refl _ _, fun _ _ _ _ _ => trivial⟩
    | 29, ho, hsk =>
      obtain rfl := Option.some.inj ho
      have e0 : a'.eval (.tmp 46) = .bool true := is_tq (hin 28 46 (by kernel_rfl) (by kernel_rfl)) rfl
      exact wp_move (.tmp 46) rfl _ e0 ⟨_, rfl, tq_is _ _ _ _ rfl, Kept.refl _ _, fun _ _ _ _ _ => trivial⟩
    | 30, ho, hsk =>
      obtain rfl := Option.some.inj ho
      exact wp_move (.tmp 0) rfl _ ((hout 0 (by kernel_rfl)).trans rfl) ⟨_, rfl, tq_is _ _ _ _ rfl, Kept.refl _ _, fun _ _ _ _ _ => trivial⟩
    | 31, ho, hsk =>
      obtain rfl := Option.some.inj ho
      have e0 : a'.eval (.tmp 48) = p := is_tq (hin 30 48 (by kernel_rfl) (by kernel_rfl)) rfl
      refine wp_callF 28 _ _ rfl #[p] (by simp [e0]) (cg28 _ _) ((sus_no p _ (fun W hW => unhide H39 W (((unhide M).kept.trans hk2).trans hW))).mono ?_)
      rintro e w3 ⟨rfl, hk3⟩
      exact ⟨_, rfl, _, rfl, tq_is _ _ _ _ rfl, hk3, fun _ _ _ _ _ => trivial⟩
    | 32, ho, hsk =>
      obtain rfl := Option.some.inj ho
      have e0 : a'.eval (.tmp 49) = .slice none 0 0 := is_tq (hin 31 49 (by kernel_rfl) (by kernel_rfl)) rfl
      exact o_len70 (.tmp 49) rfl none 0 0 e0 ⟨_, rfl, tq_is _ _ _ _ rfl, Kept.refl _ _, fun _ _ _ _ _ => trivial⟩
    | 33, ho, hsk =>
      obtain rfl := Option.some.inj ho
      have e0 : a'.eval (.tmp 50) = .int .i64 0 := is_tq (hin 32 50 (by kernel_rfl) (by kernel_rfl)) rfl
      exact o_eql3 (.tmp 50) 0 rfl _ true (by simp) e0 ⟨_, rfl, tq_is _ _ _ _ rfl, Kept.refl _ _, fun _ _ _ _ _ => trivial⟩
    | 34, ho, hsk =>
      obtain rfl := Option.some.inj ho
      have e0 : a'.eval (.tmp 47) = .bool true := is_tq (hin 29 47 (by kernel_rfl) (by kernel_rfl)) rfl
      have e1 : a'.eval (.tmp 51) = .bool true := is_tq (hin 33 51 (by kernel_rfl) (by kernel_rfl)) rfl
      exact o_pick (.tmp 47) (.tmp 51) rfl _ e0 e1 ⟨_, rfl, tq_is _ _ _ _ rfl, Kept.refl _ _, fun _ _ _ _ _ => trivial⟩
    | 35, ho, hsk =>
      obtain rfl := Option.some.inj ho
      have e0 : a'.eval (.tmp 52) = .bool true := is_tq (hin 34 52 (by kernel_rfl) (by kernel_rfl)) rfl
      exact wp_move (.tmp 52) rfl _ e0 ⟨_, rfl, tq_is _ _ _ _ rfl, Kept.refl _ _, fun _ _ _ _ _ => trivial⟩
    | 36, ho, hsk =>
      obtain rfl := Option.some.inj ho
      exact wp_move (.tmp 0) rfl _ ((hout 0 (by kernel_rfl)).trans rfl) ⟨_, rfl, tq_is _ _ _ _ rfl, Kept.refl _ _, fun _ _ _ _ _ => trivial⟩
    | 37, ho, hsk =>
      obtain rfl := Option.some.inj ho
      have e0 : a'.eval (.tmp 54) = p := is_tq (hin 36 54 (by kernel_rfl) (by kernel_rfl)) rfl
      refine wp_callF 35 _ _ rfl #[p] (by simp [e0]) (cg35 _ _) ((copy_no p _ (unhide H39 _ ((unhide M).kept.trans hk2))).mono ?_)
      rintro e w3 ⟨rfl, rfl⟩
      exact ⟨_, rfl, _, rfl, tq_is _ _ _ _ rfl, Kept.refl _ _, fun _ _ _ _ _ => trivial⟩
    | 38, ho, hsk =>
      obtain rfl := Option.some.inj ho
      have e0 : a'.eval (.tmp 55) = .pointer none := is_tq (hin 37 55 (by kernel_rfl) (by kernel_rfl)) rfl
      exact o_eqlP (.tmp 55) rfl e0 ⟨_, rfl, tq_is _ _ _ _ rfl, Kept.refl _ _, fun _ _ _ _ _ => trivial⟩
    | 39, ho, hsk =>
      obtain rfl := Option.some.inj ho
      have e0 : a'.eval (.tmp 53) = .bool true := is_tq (hin 35 53 (by kernel_rfl) (by kernel_rfl)) rfl
      have e1 : a'.eval (.tmp 56) = .bool true := is_tq (hin 38 56 (by kernel_rfl) (by kernel_rfl)) rfl
      exact o_pick (.tmp 53) (.tmp 56) rfl _ e0 e1 ⟨_, rfl, tq_is _ _ _ _ rfl, Kept.refl _ _, fun _ _ _ _ _ => trivial⟩
    | 40, ho, hsk =>
      obtain rfl := Option.some.inj ho
      have e0 : a'.eval (.tmp 57) = .bool true := is_tq (hin 39 57 (by kernel_rfl) (by kernel_rfl)) rfl
      exact wp_move (.tmp 57) rfl _ e0 ⟨_, rfl, tq_is _ _ _ _ rfl, Kept.refl _ _, fun _ _ _ _ _ => trivial⟩
    | 41, ho, hsk =>
      obtain rfl := Option.some.inj ho
      exact wp_move (.tmp 0) rfl _ ((hout 0 (by kernel_rfl)).trans rfl) ⟨_, rfl, tq_is _ _ _ _ rfl, Kept.refl _ _, fun _ _ _ _ _ => trivial⟩
    | 42, ho, hsk =>
      obtain rfl := Option.some.inj ho
      have e0 : a'.eval (.tmp 59) = p := is_tq (hin 41 59 (by kernel_rfl) (by kernel_rfl)) rfl
      refine wp_callF 19 _ _ rfl #[p, .pointer none] (by simp [e0]; rfl) (cg19 _ _) ((same_nn p _ _ (unhide H39 _ ((unhide M).kept.trans hk2)) (none_nil _)).mono ?_)
      rintro e w3 ⟨rfl, rfl⟩
      exact ⟨_, rfl, _, rfl, tq_is _ _ _ _ rfl, Kept.refl _ _, fun _ _ _ _ _ => trivial⟩
    | 43, ho, hsk =>
      obtain rfl := Option.some.inj ho
      have e0 : a'.eval (.tmp 58) = .bool true := is_tq (hin 40 58 (by kernel_rfl) (by kernel_rfl)) rfl
      have e1 : a'.eval (.tmp 60) = .bool true := is_tq (hin 42 60 (by kernel_rfl) (by kernel_rfl)) rfl
      exact o_pick (.tmp 58) (.tmp 60) rfl _ e0 e1 ⟨_, rfl, tq_is _ _ _ _ rfl, Kept.refl _ _, fun _ _ _ _ _ => trivial⟩
    | 44, ho, hsk =>
      obtain rfl := Option.some.inj ho
      have e0 : a'.eval (.tmp 61) = .bool true := is_tq (hin 43 61 (by kernel_rfl) (by kernel_rfl)) rfl
      exact wp_assignV (.tmp 61) rfl _ e0 ⟨_, rfl, tq_is _ _ _ _ rfl, Kept.refl _ _, fun _ _ _ _ _ => trivial⟩
  intro w9 hk9
  replace hk9 : Kept [] W3 w9 := ⟨hk9.os, hk9.tape, hk9.output, hk9.size, hk9.block⟩
  simp only [valsQ, List.map_cons, List.map_nil, Option.getD_some, List.take_succ_cons, List.take_zero, putAll, Act.put, List.setIfInBounds_toArray, List.set_cons_succ, List.set_cons_zero]
  go_wp2_with fail
  go_ret
  exact ⟨rfl, (unhide M).kept.trans hk9⟩

end Go.Proofs.Ythidiolgngkffaa
