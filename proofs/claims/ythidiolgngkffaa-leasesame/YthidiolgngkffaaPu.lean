/-
  LeasePuts.
-/
import Derived.Test.YthidiolgngkffaaKn
namespace Go.Proofs.Ythidiolgngkffaa
set_option maxRecDepth 100000
open Go.RowKit


theorem cg13 (vs : Array Value) (w : World) : (callFunc 13 vs).run Try.prog w = .ok (.enter 13 vs) w := by kernel_rfl
section
variable {o : Oper} {a : Act} {w : World} {K : Act → World → Prop} {Q : Exit → Act → World → Prop}
theorem o_bldZ25 (ho : o.op = .build 25 #[]) (h : K (a.put o.dst (aggV (u8s (zs 64)))) w) : o.wp Try.prog a w K Q := by
  unfold Oper.wp execOp
  simp only [ho, Array.map_empty, Sem.run_bind, build25, Result.andThen_ok]
  exact h
theorem o_neqII (x y : Operand) (ho : o.op = .binOp .neq 3 x y 3) (m : Int) (hx : a.eval x = .int .i64 m) (hy : a.eval y = .int .i64 m) (h : K (a.put o.dst (.bool false)) w) : o.wp Try.prog a w K Q := by
  unfold Oper.wp execOp
  simp only [ho, hx, hy]
  simp [go_sem]
  exact h
end
set_option maxHeartbeats 4000000 in
theorem puts_n (lx gx : Le) (s : List Int) (ge : Int) (w : World) (hs : s.length = 64)
    (h8 : ∀ W, Calls Try.prog 8 #[aggV lx.C] W fun e w' => e = .returned (.tuple #[aggV (u8s (zs 64)), .int .i64 2]) ∧ Kept [] W w')
    (h9 : ∀ W, Calls Try.prog 9 #[aggV (u8s s)] W fun e w' => e = .returned (.tuple #[aggV gx.C, .int .i64 ge]) ∧ Kept [] W w')
    (h10 : ∀ W, Calls Try.prog 10 #[aggV (u8s s)] W fun e w' => e = .returned (.tuple #[aggV gx.C, .int .i64 ge]) ∧ Kept [] W w')
    (h12 : ∀ W, Calls Try.prog 12 #[aggV lx.C] W fun e w' => e = .returned (.bool false) ∧ Kept [] W w') : Calls Try.prog 3 #[aggV lx.C, aggV (u8s s)] w fun e w' => e = .returned (.bool true) ∧ Kept [] w w' := by
  have H8 := hide h8
  have H9 := hide h9
  have H10 := hide h10
  have H12 := hide h12
  clear h8 h9 h10 h12
  go_enter Try.func3, Try.ntmps3
  have M : Hid (Mm [] w w []) := hide Mm.init
  go_wp2_with (
    first
    | (refine wpBoxV rfl (.tmp 0) rfl (lx.C) rfl ?_
       intro W1 b1 e1 B1 K1
       replace M : Hid (Mm [] w W1 [(b1, 23, lx.C)]) := hide ((unhide M).new e1 B1 K1)
       clear e1 B1 K1
       refine Stp.go ?_))
  constructor
  go_wp2_with (
    first
    | (refine wpBoxV rfl (.tmp 1) rfl (u8s s) rfl ?_
       intro W2 b2 e2 B2 K2
       replace M : Hid (Mm [] w W2 [(b1, 23, lx.C), (b2, 25, u8s s)]) := hide ((unhide M).new e2 B2 K2)
       clear e2 B2 K2
       refine Stp.go ?_))
  constructor
  go_wp2_with (
    first
    | (refine wpLoadA row23 rfl (.tmp 2) rfl b1 0 rfl (lx.C) rfl ((unhide M).at 0 _ rfl).range ?_
       refine Stp.go ?_))
  constructor
  go_wp2_with (
    first
    | (go_at_call 8
       refine (unhide H8 _).mono ?_
       rintro e W3 ⟨rfl, K3⟩
       replace M : Hid (Mm [] w W3 [(b1, 23, lx.C), (b2, 25, u8s s)]) := hide ((unhide M).step K3)
       clear K3
       refine Stp.go ?_))
  constructor
  go_wp2_with (
    first
    | (refine wpNew row25 (u8s (zs 64)) (zl 64) zero25 5 rfl rfl rfl (.tmp 16) rfl rfl rfl (u8s (zs 64)) (zl 64) (u8s_one _) (by kernel_rfl) (by kernel_rfl) ?_
       intro W4 b4 e4 B4 K4
       replace M : Hid (Mm [] w W4 [(b1, 23, lx.C), (b2, 25, u8s s), (b4, 25, u8s (zs 64))]) := hide ((unhide M).new e4 B4 K4)
       clear e4 B4 K4
       refine Stp.go ?_))
  constructor
  go_wp2_with (
    first
    | (refine wpLoadA row25 rfl (.tmp 3) rfl b2 0 rfl (u8s s) (by rw [u8s_len]; exact hs) ((unhide M).at 1 _ rfl).range ?_
       refine Stp.go ?_))
  constructor
  go_wp2_with (
    first
    | (go_at_call 9
       refine (unhide H9 _).mono ?_
       rintro e W5 ⟨rfl, K5⟩
       replace M : Hid (Mm [] w W5 [(b1, 23, lx.C), (b2, 25, u8s s), (b4, 25, u8s (zs 64))]) := hide ((unhide M).step K5)
       clear K5
       refine Stp.go ?_))
  constructor
  go_wp2_with (
    first
    | (refine wpNew row23 (le0.C) rfl zero23 7 rfl rfl rfl (.tmp 21) rfl rfl rfl (gx.C) rfl (leC_one _) (by kernel_rfl) (by kernel_rfl) ?_
       intro W6 b6 e6 B6 K6
       replace M : Hid (Mm [] w W6 [(b1, 23, lx.C), (b2, 25, u8s s), (b4, 25, u8s (zs 64)), (b6, 23, gx.C)]) := hide ((unhide M).new e6 B6 K6)
       clear e6 B6 K6
       refine Stp.go ?_))
  constructor
  go_wp2_with (
    first
    | (refine wpLoadA row25 rfl (.tmp 3) rfl b2 0 rfl (u8s s) (by rw [u8s_len]; exact hs) ((unhide M).at 1 _ rfl).range ?_
       refine Stp.go ?_))
  constructor
  go_wp2_with (
    first
    | (go_at_call 10
       refine (unhide H10 _).mono ?_
       rintro e W7 ⟨rfl, K7⟩
       replace M : Hid (Mm [] w W7 [(b1, 23, lx.C), (b2, 25, u8s s), (b4, 25, u8s (zs 64)), (b6, 23, gx.C)]) := hide ((unhide M).step K7)
       clear K7
       refine Stp.go ?_))
  constructor
  go_wp2_with (
    first
    | (refine wpNew row23 (le0.C) rfl zero23 9 rfl rfl rfl (.tmp 26) rfl rfl rfl (gx.C) rfl (leC_one _) (by kernel_rfl) (by kernel_rfl) ?_
       intro W8 b8 e8 B8 K8
       replace M : Hid (Mm [] w W8 [(b1, 23, lx.C), (b2, 25, u8s s), (b4, 25, u8s (zs 64)), (b6, 23, gx.C), (b8, 23, gx.C)]) := hide ((unhide M).new e8 B8 K8)
       clear e8 B8 K8
       refine Stp.go ?_))
  constructor
  go_upto_region 4 with fail
  refine wp_text_tq 9 rfl (by kernel_rfl) [some (aggV gx.C), some (aggV gx.C), some (.bool false), some (.bool false), some (.int .i64 ge), some (.int .i64 ge), some (.int .i64 ge), some (.bool false), some (.bool false)] rfl (by kernel_rfl) (by kernel_rfl) ?_ ?_
  · intro i o' hi hsk ho a' w2 hout hin hk2
    replace hk2 : Kept [] W8 w2 := ⟨hk2.os, hk2.tape, hk2.output, hk2.size, hk2.block⟩
    match i, ho, hsk with
    | 0, ho, hsk =>
      obtain rfl := Option.some.inj ho
      exact wp_loadA row23 (.tmp 7) rfl b6 0 ((hout 7 (by kernel_rfl)).trans rfl) (gx.C) rfl (((unhide M).step hk2).at 3 _ rfl).range ⟨_, rfl, tq_is _ _ _ _ rfl, Kept.refl _ _, fun _ _ _ _ _ => trivial⟩
    | 1, ho, hsk =>
      obtain rfl := Option.some.inj ho
      exact wp_loadA row23 (.tmp 9) rfl b8 0 ((hout 9 (by kernel_rfl)).trans rfl) (gx.C) rfl (((unhide M).step hk2).at 4 _ rfl).range ⟨_, rfl, tq_is _ _ _ _ rfl, Kept.refl _ _, fun _ _ _ _ _ => trivial⟩
    | 2, ho, hsk =>
      obtain rfl := Option.some.inj ho
      have e0 : a'.eval (.tmp 28) = aggV gx.C := is_tq (hin 0 28 (by kernel_rfl) (by kernel_rfl)) rfl
      have e1 : a'.eval (.tmp 29) = aggV gx.C := is_tq (hin 1 29 (by kernel_rfl) (by kernel_rfl)) rfl
      exact o_neqA 23 23 guard23 (.tmp 28) (.tmp 29) rfl gx.C gx.C e0 e1 true ((eqL23 _ _ _).trans (by simp)) ⟨_, rfl, tq_is _ _ _ _ rfl, Kept.refl _ _, fun _ _ _ _ _ => trivial⟩
    | 3, ho, hsk =>
      obtain rfl := Option.some.inj ho
      have e0 : a'.eval (.tmp 30) = .bool false := is_tq (hin 2 30 (by kernel_rfl) (by kernel_rfl)) rfl
      exact wp_move (.tmp 30) rfl _ e0 ⟨_, rfl, tq_is _ _ _ _ rfl, Kept.refl _ _, fun _ _ _ _ _ => trivial⟩
    | 4, ho, hsk =>
      obtain rfl := Option.some.inj ho
      exact wp_move (.tmp 8) rfl _ ((hout 8 (by kernel_rfl)).trans rfl) ⟨_, rfl, tq_is _ _ _ _ rfl, Kept.refl _ _, fun _ _ _ _ _ => trivial⟩
    | 5, ho, hsk =>
      obtain rfl := Option.some.inj ho
      have e0 : a'.eval (.tmp 32) = .int .i64 ge := is_tq (hin 4 32 (by kernel_rfl) (by kernel_rfl)) rfl
      refine wp_callF 11 _ _ rfl #[.int .i64 ge] (by simp [e0]) (cg11 _ _) ((num11 _ _).mono ?_)
      rintro e w3 ⟨rfl, rfl⟩
      exact ⟨_, rfl, _, rfl, tq_is _ _ _ _ rfl, Kept.refl _ _, fun _ _ _ _ _ => trivial⟩
    | 6, ho, hsk =>
      obtain rfl := Option.some.inj ho
      exact wp_move (.tmp 10) rfl _ ((hout 10 (by kernel_rfl)).trans rfl) ⟨_, rfl, tq_is _ _ _ _ rfl, Kept.refl _ _, fun _ _ _ _ _ => trivial⟩
    | 7, ho, hsk =>
      obtain rfl := Option.some.inj ho
      have e0 : a'.eval (.tmp 33) = .int .i64 ge := is_tq (hin 5 33 (by kernel_rfl) (by kernel_rfl)) rfl
      have e1 : a'.eval (.tmp 34) = .int .i64 ge := is_tq (hin 6 34 (by kernel_rfl) (by kernel_rfl)) rfl
      exact o_neqII (.tmp 33) (.tmp 34) rfl ge e0 e1 ⟨_, rfl, tq_is _ _ _ _ rfl, Kept.refl _ _, fun _ _ _ _ _ => trivial⟩
    | 8, ho, hsk =>
      obtain rfl := Option.some.inj ho
      have e0 : a'.eval (.tmp 31) = .bool false := is_tq (hin 3 31 (by kernel_rfl) (by kernel_rfl)) rfl
      have e1 : a'.eval (.tmp 35) = .bool false := is_tq (hin 7 35 (by kernel_rfl) (by kernel_rfl)) rfl
      exact o_pickOr0 (.tmp 31) (.tmp 35) rfl _ e0 e1 ⟨_, rfl, tq_is _ _ _ _ rfl, Kept.refl _ _, fun _ _ _ _ _ => trivial⟩
  intro w9 hk9
  replace hk9 : Kept [] W8 w9 := ⟨hk9.os, hk9.tape, hk9.output, hk9.size, hk9.block⟩
  simp only [valsQ, List.map_cons, List.map_nil, Option.getD_some, List.take_succ_cons, List.take_zero, putAll, Act.put, List.setIfInBounds_toArray, List.set_cons_succ, List.set_cons_zero]
  replace M : Hid (Mm [] w w9 [(b1, 23, lx.C), (b2, 25, u8s s), (b4, 25, u8s (zs 64)), (b6, 23, gx.C), (b8, 23, gx.C)]) := hide ((unhide M).step hk9)
  clear hk9
  go_wp2_with (
    first
    | (refine wpLoadA row23 rfl (.tmp 2) rfl b1 0 rfl (lx.C) rfl ((unhide M).at 0 _ rfl).range ?_
       refine Stp.go ?_))
  constructor
  go_wp2_with (
    first
    | (go_at_call 12
       refine (unhide H12 _).mono ?_
       rintro e W41 ⟨rfl, K41⟩
       replace M : Hid (Mm [] w W41 [(b1, 23, lx.C), (b2, 25, u8s s), (b4, 25, u8s (zs 64)), (b6, 23, gx.C), (b8, 23, gx.C)]) := hide ((unhide M).step K41)
       clear K41
       refine Stp.go ?_))
  constructor
  go_upto_region 7 with fail
  refine wp_text_tq 12 rfl (by kernel_rfl) [some (aggV (u8s (zs 64))), some (aggV (u8s (zs 64))), some (.bool true), some (.bool true), some (.int .i64 2), some (.int .i64 2), some (.bool true), some (.bool true), some (.bool true), some (.bool true), some (.bool true), some (.bool true)] rfl (by kernel_rfl) (by kernel_rfl) ?_ ?_
  · intro i o' hi hsk ho a' w2 hout hin hk2
    replace hk2 : Kept [] W41 w2 := ⟨hk2.os, hk2.tape, hk2.output, hk2.size, hk2.block⟩
    match i, ho, hsk with
    | 0, ho, hsk =>
      obtain rfl := Option.some.inj ho
      exact wp_loadA row25 (.tmp 5) rfl b4 0 ((hout 5 (by kernel_rfl)).trans rfl) (u8s (zs 64)) (zl 64) (((unhide M).step hk2).at 2 _ rfl).range ⟨_, rfl, tq_is _ _ _ _ rfl, Kept.refl _ _, fun _ _ _ _ _ => trivial⟩
    | 1, ho, hsk =>
      obtain rfl := Option.some.inj ho
      exact o_bldZ25 rfl ⟨_, rfl, tq_is _ _ _ _ rfl, Kept.refl _ _, fun _ _ _ _ _ => trivial⟩
    | 2, ho, hsk =>
      obtain rfl := Option.some.inj ho
      have e0 : a'.eval (.tmp 40) = aggV (u8s (zs 64)) := is_tq (hin 0 40 (by kernel_rfl) (by kernel_rfl)) rfl
      have e1 : a'.eval (.tmp 41) = aggV (u8s (zs 64)) := is_tq (hin 1 41 (by kernel_rfl) (by kernel_rfl)) rfl
      exact o_eqlA 25 25 guard25 (.tmp 40) (.tmp 41) rfl (u8s (zs 64)) (u8s (zs 64)) e0 e1 true ((equal25 _ _ _ (by simp [zs]) (by simp [zs])).trans (by simp)) ⟨_, rfl, tq_is _ _ _ _ rfl, Kept.refl _ _, fun _ _ _ _ _ => trivial⟩
    | 3, ho, hsk =>
      obtain rfl := Option.some.inj ho
      have e0 : a'.eval (.tmp 42) = .bool true := is_tq (hin 2 42 (by kernel_rfl) (by kernel_rfl)) rfl
      exact wp_move (.tmp 42) rfl _ e0 ⟨_, rfl, tq_is _ _ _ _ rfl, Kept.refl _ _, fun _ _ _ _ _ => trivial⟩
    | 4, ho, hsk =>
      obtain rfl := Option.some.inj ho
      exact wp_move (.tmp 6) rfl _ ((hout 6 (by kernel_rfl)).trans rfl) ⟨_, rfl, tq_is _ _ _ _ rfl, Kept.refl _ _, fun _ _ _ _ _ => trivial⟩
    | 5, ho, hsk =>
      obtain rfl := Option.some.inj ho
      have e0 : a'.eval (.tmp 44) = .int .i64 2 := is_tq (hin 4 44 (by kernel_rfl) (by kernel_rfl)) rfl
      refine wp_callF 11 _ _ rfl #[.int .i64 2] (by simp [e0]) (cg11 _ _) ((num11 _ _).mono ?_)
      rintro e w3 ⟨rfl, rfl⟩
      exact ⟨_, rfl, _, rfl, tq_is _ _ _ _ rfl, Kept.refl _ _, fun _ _ _ _ _ => trivial⟩
    | 6, ho, hsk =>
      obtain rfl := Option.some.inj ho
      have e0 : a'.eval (.tmp 45) = .int .i64 2 := is_tq (hin 5 45 (by kernel_rfl) (by kernel_rfl)) rfl
      exact o_eql3 (.tmp 45) 2 rfl _ true (by simp) e0 ⟨_, rfl, tq_is _ _ _ _ rfl, Kept.refl _ _, fun _ _ _ _ _ => trivial⟩
    | 7, ho, hsk =>
      obtain rfl := Option.some.inj ho
      have e0 : a'.eval (.tmp 43) = .bool true := is_tq (hin 3 43 (by kernel_rfl) (by kernel_rfl)) rfl
      have e1 : a'.eval (.tmp 46) = .bool true := is_tq (hin 6 46 (by kernel_rfl) (by kernel_rfl)) rfl
      exact o_pick (.tmp 43) (.tmp 46) rfl _ e0 e1 ⟨_, rfl, tq_is _ _ _ _ rfl, Kept.refl _ _, fun _ _ _ _ _ => trivial⟩
    | 8, ho, hsk =>
      obtain rfl := Option.some.inj ho
      have e0 : a'.eval (.tmp 47) = .bool true := is_tq (hin 7 47 (by kernel_rfl) (by kernel_rfl)) rfl
      exact wp_move (.tmp 47) rfl _ e0 ⟨_, rfl, tq_is _ _ _ _ rfl, Kept.refl _ _, fun _ _ _ _ _ => trivial⟩
    | 9, ho, hsk =>
      obtain rfl := Option.some.inj ho
      refine wp_callF 13 _ _ rfl #[] (by simp) (cg13 _ _) ((known13 _).mono ?_)
      rintro e w3 ⟨rfl, hk3⟩
      exact ⟨_, rfl, _, rfl, tq_is _ _ _ _ rfl, hk3, fun _ _ _ _ _ => trivial⟩
    | 10, ho, hsk =>
      obtain rfl := Option.some.inj ho
      have e0 : a'.eval (.tmp 48) = .bool true := is_tq (hin 8 48 (by kernel_rfl) (by kernel_rfl)) rfl
      have e1 : a'.eval (.tmp 49) = .bool true := is_tq (hin 9 49 (by kernel_rfl) (by kernel_rfl)) rfl
      exact o_pick (.tmp 48) (.tmp 49) rfl _ e0 e1 ⟨_, rfl, tq_is _ _ _ _ rfl, Kept.refl _ _, fun _ _ _ _ _ => trivial⟩
    | 11, ho, hsk =>
      obtain rfl := Option.some.inj ho
      have e0 : a'.eval (.tmp 50) = .bool true := is_tq (hin 10 50 (by kernel_rfl) (by kernel_rfl)) rfl
      exact wp_assignV (.tmp 50) rfl _ e0 ⟨_, rfl, tq_is _ _ _ _ rfl, Kept.refl _ _, fun _ _ _ _ _ => trivial⟩
  intro w8 hk8
  replace hk8 : Kept [] W41 w8 := ⟨hk8.os, hk8.tape, hk8.output, hk8.size, hk8.block⟩
  simp only [valsQ, List.map_cons, List.map_nil, Option.getD_some, List.take_succ_cons, List.take_zero, putAll, Act.put, List.setIfInBounds_toArray, List.set_cons_succ, List.set_cons_zero]
  go_wp2_with fail
  go_ret
  exact ⟨rfl, (unhide M).kept.trans hk8⟩
set_option maxHeartbeats 4000000 in
theorem puts_y (lx gx : Le) (s q : List Int) (ge : Int) (w : World) (hs : s.length = 64) (hq : q.length = 64)
    (h8 : ∀ W, Calls Try.prog 8 #[aggV lx.C] W fun e w' => e = .returned (.tuple #[aggV (u8s q), .int .i64 0]) ∧ Kept [] W w')
    (h9 : ∀ W, Calls Try.prog 9 #[aggV (u8s s)] W fun e w' => e = .returned (.tuple #[aggV gx.C, .int .i64 ge]) ∧ Kept [] W w')
    (h10 : ∀ W, Calls Try.prog 10 #[aggV (u8s s)] W fun e w' => e = .returned (.tuple #[aggV gx.C, .int .i64 ge]) ∧ Kept [] W w')
    (h12 : ∀ W, Calls Try.prog 12 #[aggV lx.C] W fun e w' => e = .returned (.bool true) ∧ Kept [] W w')
    (h9b : ∀ W, Calls Try.prog 9 #[aggV (u8s q)] W fun e w' => e = .returned (.tuple #[aggV lx.C, .int .i64 0]) ∧ Kept [] W w')
    (h14 : ∀ W, Calls Try.prog 14 #[aggV lx.C] W fun e w' => e = .returned (aggV (u8s q)) ∧ Kept [] W w') : Calls Try.prog 3 #[aggV lx.C, aggV (u8s s)] w fun e w' => e = .returned (.bool true) ∧ Kept [] w w' := by
  have H8 := hide h8
  have H9 := hide h9
  have H10 := hide h10
  have H12 := hide h12
  have H9b := hide h9b
  have H14 := hide h14
  clear h8 h9 h10 h12 h9b h14
  go_enter Try.func3, Try.ntmps3
  have M : Hid (Mm [] w w []) := hide Mm.init
  go_wp2_with (
    first
    | (refine wpBoxV rfl (.tmp 0) rfl (lx.C) rfl ?_
       intro W1 b1 e1 B1 K1
       replace M : Hid (Mm [] w W1 [(b1, 23, lx.C)]) := hide ((unhide M).new e1 B1 K1)
       clear e1 B1 K1
       refine Stp.go ?_))
  constructor
  go_wp2_with (
    first
    | (refine wpBoxV rfl (.tmp 1) rfl (u8s s) rfl ?_
       intro W2 b2 e2 B2 K2
       replace M : Hid (Mm [] w W2 [(b1, 23, lx.C), (b2, 25, u8s s)]) := hide ((unhide M).new e2 B2 K2)
       clear e2 B2 K2
       refine Stp.go ?_))
  constructor
  go_wp2_with (
    first
    | (refine wpLoadA row23 rfl (.tmp 2) rfl b1 0 rfl (lx.C) rfl ((unhide M).at 0 _ rfl).range ?_
       refine Stp.go ?_))
  constructor
  go_wp2_with (
    first
    | (go_at_call 8
       refine (unhide H8 _).mono ?_
       rintro e W3 ⟨rfl, K3⟩
       replace M : Hid (Mm [] w W3 [(b1, 23, lx.C), (b2, 25, u8s s)]) := hide ((unhide M).step K3)
       clear K3
       refine Stp.go ?_))
  constructor
  go_wp2_with (
    first
    | (refine wpNew row25 (u8s (zs 64)) (zl 64) zero25 5 rfl rfl rfl (.tmp 16) rfl rfl rfl (u8s q) (by rw [u8s_len]; exact hq) (u8s_one _) (by kernel_rfl) (by kernel_rfl) ?_
       intro W4 b4 e4 B4 K4
       replace M : Hid (Mm [] w W4 [(b1, 23, lx.C), (b2, 25, u8s s), (b4, 25, u8s q)]) := hide ((unhide M).new e4 B4 K4)
       clear e4 B4 K4
       refine Stp.go ?_))
  constructor
  go_wp2_with (
    first
    | (refine wpLoadA row25 rfl (.tmp 3) rfl b2 0 rfl (u8s s) (by rw [u8s_len]; exact hs) ((unhide M).at 1 _ rfl).range ?_
       refine Stp.go ?_))
  constructor
  go_wp2_with (
    first
    | (go_at_call 9
       refine (unhide H9 _).mono ?_
       rintro e W5 ⟨rfl, K5⟩
       replace M : Hid (Mm [] w W5 [(b1, 23, lx.C), (b2, 25, u8s s), (b4, 25, u8s q)]) := hide ((unhide M).step K5)
       clear K5
       refine Stp.go ?_))
  constructor
  go_wp2_with (
    first
    | (refine wpNew row23 (le0.C) rfl zero23 7 rfl rfl rfl (.tmp 21) rfl rfl rfl (gx.C) rfl (leC_one _) (by kernel_rfl) (by kernel_rfl) ?_
       intro W6 b6 e6 B6 K6
       replace M : Hid (Mm [] w W6 [(b1, 23, lx.C), (b2, 25, u8s s), (b4, 25, u8s q), (b6, 23, gx.C)]) := hide ((unhide M).new e6 B6 K6)
       clear e6 B6 K6
       refine Stp.go ?_))
  constructor
  go_wp2_with (
    first
    | (refine wpLoadA row25 rfl (.tmp 3) rfl b2 0 rfl (u8s s) (by rw [u8s_len]; exact hs) ((unhide M).at 1 _ rfl).range ?_
       refine Stp.go ?_))
  constructor
  go_wp2_with (
    first
    | (go_at_call 10
       refine (unhide H10 _).mono ?_
       rintro e W7 ⟨rfl, K7⟩
       replace M : Hid (Mm [] w W7 [(b1, 23, lx.C), (b2, 25, u8s s), (b4, 25, u8s q), (b6, 23, gx.C)]) := hide ((unhide M).step K7)
       clear K7
       refine Stp.go ?_))
  constructor
  go_wp2_with (
    first
    | (refine wpNew row23 (le0.C) rfl zero23 9 rfl rfl rfl (.tmp 26) rfl rfl rfl (gx.C) rfl (leC_one _) (by kernel_rfl) (by kernel_rfl) ?_
       intro W8 b8 e8 B8 K8
       replace M : Hid (Mm [] w W8 [(b1, 23, lx.C), (b2, 25, u8s s), (b4, 25, u8s q), (b6, 23, gx.C), (b8, 23, gx.C)]) := hide ((unhide M).new e8 B8 K8)
       clear e8 B8 K8
       refine Stp.go ?_))
  constructor
  go_upto_region 4 with fail
  refine wp_text_tq 9 rfl (by kernel_rfl) [some (aggV gx.C), some (aggV gx.C), some (.bool false), some (.bool false), some (.int .i64 ge), some (.int .i64 ge), some (.int .i64 ge), some (.bool false), some (.bool false)] rfl (by kernel_rfl) (by kernel_rfl) ?_ ?_
  · intro i o' hi hsk ho a' w2 hout hin hk2
    replace hk2 : Kept [] W8 w2 := ⟨hk2.os, hk2.tape, hk2.output, hk2.size, hk2.block⟩
    match i, ho, hsk with
    | 0, ho, hsk =>
      obtain rfl := Option.some.inj ho
      exact wp_loadA row23 (.tmp 7) rfl b6 0 ((hout 7 (by kernel_rfl)).trans rfl) (gx.C) rfl (((unhide M).step hk2).at 3 _ rfl).range ⟨_, rfl, tq_is _ _ _ _ rfl, Kept.refl _ _, fun _ _ _ _ _ => trivial⟩
    | 1, ho, hsk =>
      obtain rfl := Option.some.inj ho
      exact wp_loadA row23 (.tmp 9) rfl b8 0 ((hout 9 (by kernel_rfl)).trans rfl) (gx.C) rfl (((unhide M).step hk2).at 4 _ rfl).range ⟨_, rfl, tq_is _ _ _ _ rfl, Kept.refl _ _, fun _ _ _ _ _ => trivial⟩
    | 2, ho, hsk =>
      obtain rfl := Option.some.inj ho
      have e0 : a'.eval (.tmp 28) = aggV gx.C := is_tq (hin 0 28 (by kernel_rfl) (by kernel_rfl)) rfl
      have e1 : a'.eval (.tmp 29) = aggV gx.C := is_tq (hin 1 29 (by kernel_rfl) (by kernel_rfl)) rfl
      exact o_neqA 23 23 guard23 (.tmp 28) (.tmp 29) rfl gx.C gx.C e0 e1 true ((eqL23 _ _ _).trans (by simp)) ⟨_, rfl, tq_is _ _ _ _ rfl, Kept.refl _ _, fun _ _ _ _ _ => trivial⟩
    | 3, ho, hsk =>
      obtain rfl := Option.some.inj ho
      have e0 : a'.eval (.tmp 30) = .bool false := is_tq (hin 2 30 (by kernel_rfl) (by kernel_rfl)) rfl
      exact wp_move (.tmp 30) rfl _ e0 ⟨_, rfl, tq_is _ _ _ _ rfl, Kept.refl _ _, fun _ _ _ _ _ => trivial⟩
    | 4, ho, hsk =>
      obtain rfl := Option.some.inj ho
      exact wp_move (.tmp 8) rfl _ ((hout 8 (by kernel_rfl)).trans rfl) ⟨_, rfl, tq_is _ _ _ _ rfl, Kept.refl _ _, fun _ _ _ _ _ => trivial⟩
    | 5, ho, hsk =>
      obtain rfl := Option.some.inj ho
      have e0 : a'.eval (.tmp 32) = .int .i64 ge := is_tq (hin 4 32 (by kernel_rfl) (by kernel_rfl)) rfl
      refine wp_callF 11 _ _ rfl #[.int .i64 ge] (by simp [e0]) (cg11 _ _) ((num11 _ _).mono ?_)
      rintro e w3 ⟨rfl, rfl⟩
      exact ⟨_, rfl, _, rfl, tq_is _ _ _ _ rfl, Kept.refl _ _, fun _ _ _ _ _ => trivial⟩
    | 6, ho, hsk =>
      obtain rfl := Option.some.inj ho
      exact wp_move (.tmp 10) rfl _ ((hout 10 (by kernel_rfl)).trans rfl) ⟨_, rfl, tq_is _ _ _ _ rfl, Kept.refl _ _, fun _ _ _ _ _ => trivial⟩
    | 7, ho, hsk =>
      obtain rfl := Option.some.inj ho
      have e0 : a'.eval (.tmp 33) = .int .i64 ge := is_tq (hin 5 33 (by kernel_rfl) (by kernel_rfl)) rfl
      have e1 : a'.eval (.tmp 34) = .int .i64 ge := is_tq (hin 6 34 (by kernel_rfl) (by kernel_rfl)) rfl
      exact o_neqII (.tmp 33) (.tmp 34) rfl ge e0 e1 ⟨_, rfl, tq_is _ _ _ _ rfl, Kept.refl _ _, fun _ _ _ _ _ => trivial⟩
    | 8, ho, hsk =>
      obtain rfl := Option.some.inj ho
      have e0 : a'.eval (.tmp 31) = .bool false := is_tq (hin 3 31 (by kernel_rfl) (by kernel_rfl)) rfl
      have e1 : a'.eval (.tmp 35) = .bool false := is_tq (hin 7 35 (by kernel_rfl) (by kernel_rfl)) rfl
      exact o_pickOr0 (.tmp 31) (.tmp 35) rfl _ e0 e1 ⟨_, rfl, tq_is _ _ _ _ rfl, Kept.refl _ _, fun _ _ _ _ _ => trivial⟩
  intro w9 hk9
  replace hk9 : Kept [] W8 w9 := ⟨hk9.os, hk9.tape, hk9.output, hk9.size, hk9.block⟩
  simp only [valsQ, List.map_cons, List.map_nil, Option.getD_some, List.take_succ_cons, List.take_zero, putAll, Act.put, List.setIfInBounds_toArray, List.set_cons_succ, List.set_cons_zero]
  replace M : Hid (Mm [] w w9 [(b1, 23, lx.C), (b2, 25, u8s s), (b4, 25, u8s q), (b6, 23, gx.C), (b8, 23, gx.C)]) := hide ((unhide M).step hk9)
  clear hk9
  go_wp2_with (
    first
    | (refine wpLoadA row23 rfl (.tmp 2) rfl b1 0 rfl (lx.C) rfl ((unhide M).at 0 _ rfl).range ?_
       refine Stp.go ?_))
  constructor
  go_wp2_with (
    first
    | (go_at_call 12
       refine (unhide H12 _).mono ?_
       rintro e W41 ⟨rfl, K41⟩
       replace M : Hid (Mm [] w W41 [(b1, 23, lx.C), (b2, 25, u8s s), (b4, 25, u8s q), (b6, 23, gx.C), (b8, 23, gx.C)]) := hide ((unhide M).step K41)
       clear K41
       refine Stp.go ?_))
  constructor
  go_wp2_with (
    first
    | (refine wpLoadA row25 rfl (.tmp 5) rfl b4 0 rfl (u8s q) (by rw [u8s_len]; exact hq) ((unhide M).at 2 _ rfl).range ?_
       refine Stp.go ?_))
  constructor
  go_wp2_with (
    first
    | (go_at_call 9
       refine (unhide H9b _).mono ?_
       rintro e W42 ⟨rfl, K42⟩
       replace M : Hid (Mm [] w W42 [(b1, 23, lx.C), (b2, 25, u8s s), (b4, 25, u8s q), (b6, 23, gx.C), (b8, 23, gx.C)]) := hide ((unhide M).step K42)
       clear K42
       refine Stp.go ?_))
  constructor
  go_wp2_with (
    first
    | (refine wpNew row23 (le0.C) rfl zero23 11 rfl rfl rfl (.tmp 54) rfl rfl rfl (lx.C) rfl (leC_one _) (by kernel_rfl) (by kernel_rfl) ?_
       intro W43 b43 e43 B43 K43
       replace M : Hid (Mm [] w W43 [(b1, 23, lx.C), (b2, 25, u8s s), (b4, 25, u8s q), (b6, 23, gx.C), (b8, 23, gx.C), (b43, 23, lx.C)]) := hide ((unhide M).new e43 B43 K43)
       clear e43 B43 K43
       refine Stp.go ?_))
  constructor
  go_wp2_with fail
  refine wp_region_any mixed (wpAny_tq 21 rfl (by kernel_rfl) [some (aggV (u8s q)), some (aggV lx.C), some (aggV (u8s q)), some (.bool true), some (.bool true), some (.int .i64 0), some (.int .i64 0), some (.int .i64 0), some (.int .i64 0), some (.int .i64 0), some (.bool true), some (.bool true), some (.bool true), some (aggV lx.C), some (aggV lx.C), some (.bool true), some (.bool true), some (.bool true), some (.bool true), some (.bool true), some (.bool true)] rfl (by kernel_rfl) (by kernel_rfl) ?_ ?_)
  · intro i o' hi hsk ho a' w2 hout hin hk2
    replace hk2 : Kept [] W43 w2 := ⟨hk2.os, hk2.tape, hk2.output, hk2.size, hk2.block⟩
    match i, ho, hsk with
    | 0, ho, hsk =>
      obtain rfl := Option.some.inj ho
      exact wp_loadA row25 (.tmp 5) rfl b4 0 ((hout 5 (by kernel_rfl)).trans rfl) (u8s q) (by rw [u8s_len]; exact hq) (((unhide M).step hk2).at 2 _ rfl).range ⟨_, rfl, tq_is _ _ _ _ rfl, Kept.refl _ _, fun _ _ _ _ _ => trivial⟩
    | 1, ho, hsk =>
      obtain rfl := Option.some.inj ho
      exact wp_loadA row23 (.tmp 2) rfl b1 0 ((hout 2 (by kernel_rfl)).trans rfl) (lx.C) rfl (((unhide M).step hk2).at 0 _ rfl).range ⟨_, rfl, tq_is _ _ _ _ rfl, Kept.refl _ _, fun _ _ _ _ _ => trivial⟩
    | 2, ho, hsk =>
      obtain rfl := Option.some.inj ho
      have e0 : a'.eval (.tmp 57) = aggV lx.C := is_tq (hin 1 57 (by kernel_rfl) (by kernel_rfl)) rfl
      refine wp_callF 14 _ _ rfl #[aggV lx.C] (by simp [e0]) (cg14 _ _) ((unhide H14 _).mono ?_)
      rintro e w3 ⟨rfl, hk3⟩
      exact ⟨_, rfl, _, rfl, tq_is _ _ _ _ rfl, hk3, fun _ _ _ _ _ => trivial⟩
    | 3, ho, hsk =>
      obtain rfl := Option.some.inj ho
      have e0 : a'.eval (.tmp 56) = aggV (u8s q) := is_tq (hin 0 56 (by kernel_rfl) (by kernel_rfl)) rfl
      have e1 : a'.eval (.tmp 58) = aggV (u8s q) := is_tq (hin 2 58 (by kernel_rfl) (by kernel_rfl)) rfl
      exact o_eqlA 25 25 guard25 (.tmp 56) (.tmp 58) rfl (u8s q) (u8s q) e0 e1 true ((equal25 _ _ _ hq hq).trans (by simp)) ⟨_, rfl, tq_is _ _ _ _ rfl, Kept.refl _ _, fun _ _ _ _ _ => trivial⟩
    | 4, ho, hsk =>
      obtain rfl := Option.some.inj ho
      have e0 : a'.eval (.tmp 59) = .bool true := is_tq (hin 3 59 (by kernel_rfl) (by kernel_rfl)) rfl
      exact wp_move (.tmp 59) rfl _ e0 ⟨_, rfl, tq_is _ _ _ _ rfl, Kept.refl _ _, fun _ _ _ _ _ => trivial⟩
    | 5, ho, hsk =>
      obtain rfl := Option.some.inj ho
      exact wp_move (.tmp 6) rfl _ ((hout 6 (by kernel_rfl)).trans rfl) ⟨_, rfl, tq_is _ _ _ _ rfl, Kept.refl _ _, fun _ _ _ _ _ => trivial⟩
    | 6, ho, hsk =>
      obtain rfl := Option.some.inj ho
      have e0 : a'.eval (.tmp 61) = .int .i64 0 := is_tq (hin 5 61 (by kernel_rfl) (by kernel_rfl)) rfl
      refine wp_callF 11 _ _ rfl #[.int .i64 0] (by simp [e0]) (cg11 _ _) ((num11 _ _).mono ?_)
      rintro e w3 ⟨rfl, rfl⟩
      exact ⟨_, rfl, _, rfl, tq_is _ _ _ _ rfl, Kept.refl _ _, fun _ _ _ _ _ => trivial⟩
    | 7, ho, hsk =>
      obtain rfl := Option.some.inj ho
      exact wp_move (.tmp 12) rfl _ ((hout 12 (by kernel_rfl)).trans rfl) ⟨_, rfl, tq_is _ _ _ _ rfl, Kept.refl _ _, fun _ _ _ _ _ => trivial⟩
    | 8, ho, hsk =>
      obtain rfl := Option.some.inj ho
      have e0 : a'.eval (.tmp 63) = .int .i64 0 := is_tq (hin 7 63 (by kernel_rfl) (by kernel_rfl)) rfl
      refine wp_callF 11 _ _ rfl #[.int .i64 0] (by simp [e0]) (cg11 _ _) ((num11 _ _).mono ?_)
      rintro e w3 ⟨rfl, rfl⟩
      exact ⟨_, rfl, _, rfl, tq_is _ _ _ _ rfl, Kept.refl _ _, fun _ _ _ _ _ => trivial⟩
    | 9, ho, hsk =>
      obtain rfl := Option.some.inj ho
      have e0 : a'.eval (.tmp 62) = .int .i64 0 := is_tq (hin 6 62 (by kernel_rfl) (by kernel_rfl)) rfl
      have e1 : a'.eval (.tmp 64) = .int .i64 0 := is_tq (hin 8 64 (by kernel_rfl) (by kernel_rfl)) rfl
      exact o_add3 (.tmp 62) (.tmp 64) rfl 0 0 (by omega) e0 e1 ⟨_, rfl, tq_is _ _ _ _ rfl, Kept.refl _ _, fun _ _ _ _ _ => trivial⟩
    | 10, ho, hsk =>
      obtain rfl := Option.some.inj ho
      have e0 : a'.eval (.tmp 65) = .int .i64 0 := is_tq (hin 9 65 (by kernel_rfl) (by kernel_rfl)) rfl
      exact o_eql3 (.tmp 65) 0 rfl _ true (by simp) e0 ⟨_, rfl, tq_is _ _ _ _ rfl, Kept.refl _ _, fun _ _ _ _ _ => trivial⟩
    | 11, ho, hsk =>
      obtain rfl := Option.some.inj ho
      have e0 : a'.eval (.tmp 60) = .bool true := is_tq (hin 4 60 (by kernel_rfl) (by kernel_rfl)) rfl
      have e1 : a'.eval (.tmp 66) = .bool true := is_tq (hin 10 66 (by kernel_rfl) (by kernel_rfl)) rfl
      exact o_pick (.tmp 60) (.tmp 66) rfl _ e0 e1 ⟨_, rfl, tq_is _ _ _ _ rfl, Kept.refl _ _, fun _ _ _ _ _ => trivial⟩
    | 12, ho, hsk =>
      obtain rfl := Option.some.inj ho
      have e0 : a'.eval (.tmp 67) = .bool true := is_tq (hin 11 67 (by kernel_rfl) (by kernel_rfl)) rfl
      exact wp_move (.tmp 67) rfl _ e0 ⟨_, rfl, tq_is _ _ _ _ rfl, Kept.refl _ _, fun _ _ _ _ _ => trivial⟩
    | 13, ho, hsk =>
      obtain rfl := Option.some.inj ho
      exact wp_loadA row23 (.tmp 11) rfl b43 0 ((hout 11 (by kernel_rfl)).trans rfl) (lx.C) rfl (((unhide M).step hk2).at 5 _ rfl).range ⟨_, rfl, tq_is _ _ _ _ rfl, Kept.refl _ _, fun _ _ _ _ _ => trivial⟩
    | 14, ho, hsk =>
      obtain rfl := Option.some.inj ho
      exact wp_loadA row23 (.tmp 2) rfl b1 0 ((hout 2 (by kernel_rfl)).trans rfl) (lx.C) rfl (((unhide M).step hk2).at 0 _ rfl).range ⟨_, rfl, tq_is _ _ _ _ rfl, Kept.refl _ _, fun _ _ _ _ _ => trivial⟩
    | 15, ho, hsk =>
      obtain rfl := Option.some.inj ho
      have e0 : a'.eval (.tmp 69) = aggV lx.C := is_tq (hin 13 69 (by kernel_rfl) (by kernel_rfl)) rfl
      have e1 : a'.eval (.tmp 70) = aggV lx.C := is_tq (hin 14 70 (by kernel_rfl) (by kernel_rfl)) rfl
      exact o_eqlA 23 23 guard23 (.tmp 69) (.tmp 70) rfl lx.C lx.C e0 e1 true ((eqL23 _ _ _).trans (by simp)) ⟨_, rfl, tq_is _ _ _ _ rfl, Kept.refl _ _, fun _ _ _ _ _ => trivial⟩
    | 16, ho, hsk =>
      obtain rfl := Option.some.inj ho
      have e0 : a'.eval (.tmp 68) = .bool true := is_tq (hin 12 68 (by kernel_rfl) (by kernel_rfl)) rfl
      have e1 : a'.eval (.tmp 71) = .bool true := is_tq (hin 15 71 (by kernel_rfl) (by kernel_rfl)) rfl
      exact o_pick (.tmp 68) (.tmp 71) rfl _ e0 e1 ⟨_, rfl, tq_is _ _ _ _ rfl, Kept.refl _ _, fun _ _ _ _ _ => trivial⟩
    | 17, ho, hsk =>
      obtain rfl := Option.some.inj ho
      have e0 : a'.eval (.tmp 72) = .bool true := is_tq (hin 16 72 (by kernel_rfl) (by kernel_rfl)) rfl
      exact wp_move (.tmp 72) rfl _ e0 ⟨_, rfl, tq_is _ _ _ _ rfl, Kept.refl _ _, fun _ _ _ _ _ => trivial⟩
    | 18, ho, hsk =>
      obtain rfl := Option.some.inj ho
      refine wp_callF 13 _ _ rfl #[] (by simp) (cg13 _ _) ((known13 _).mono ?_)
      rintro e w3 ⟨rfl, hk3⟩
      exact ⟨_, rfl, _, rfl, tq_is _ _ _ _ rfl, hk3, fun _ _ _ _ _ => trivial⟩
    | 19, ho, hsk =>
      obtain rfl := Option.some.inj ho
      have e0 : a'.eval (.tmp 73) = .bool true := is_tq (hin 17 73 (by kernel_rfl) (by kernel_rfl)) rfl
      have e1 : a'.eval (.tmp 74) = .bool true := is_tq (hin 18 74 (by kernel_rfl) (by kernel_rfl)) rfl
      exact o_pick (.tmp 73) (.tmp 74) rfl _ e0 e1 ⟨_, rfl, tq_is _ _ _ _ rfl, Kept.refl _ _, fun _ _ _ _ _ => trivial⟩
    | 20, ho, hsk =>
      obtain rfl := Option.some.inj ho
      have e0 : a'.eval (.tmp 75) = .bool true := is_tq (hin 19 75 (by kernel_rfl) (by kernel_rfl)) rfl
      exact wp_assignV (.tmp 75) rfl _ e0 ⟨_, rfl, tq_is _ _ _ _ rfl, Kept.refl _ _, fun _ _ _ _ _ => trivial⟩
  intro w8 hk8
  replace hk8 : Kept [] W43 w8 := ⟨hk8.os, hk8.tape, hk8.output, hk8.size, hk8.block⟩
  simp only [valsQ, List.map_cons, List.map_nil, Option.getD_some, List.take_succ_cons, List.take_zero, putAll, Act.put, List.setIfInBounds_toArray, List.set_cons_succ, List.set_cons_zero]
  refine wpAny_done (by kernel_rfl) ?_ _
  go_wp2_with fail
  go_ret
  exact ⟨rfl, (unhide M).kept.trans hk8⟩
theorem puts3 (lx : Le) (s : List Int) (w : World) (hs : Byts 64 s) : Calls Try.prog 3 #[aggV lx.C, aggV (u8s s)] w fun e w' => e = .returned (.bool true) ∧ Kept [] w w' := by
  cases hm : lx.may with
  | false =>
    refine puts_n lx (getL s).1 s (getL s).2 w hs.len ?_ (fun W => get9 s W hs) (fun W => rget10 s W hs) ?_
    · intro W; have := put8 lx W; rw [show putL lx = (zs 64, 2) by unfold putL; rw [if_pos hm]] at this; exact this
    · intro W; have := rmay12 lx W; rw [hm] at this; exact this
  | true =>
    have h1 : (putL lx).2 = 0 := by unfold putL; rw [if_neg (by rw [hm]; simp)]; split <;> rfl
    refine puts_y lx (getL s).1 s (putL lx).1 (getL s).2 w hs.len (putL_len lx) ?_ (fun W => get9 s W hs) (fun W => rget10 s W hs) ?_ ?_ (fun W => rput14 lx W hm)
    · intro W; have := put8 lx W; rw [h1] at this; exact this
    · intro W; have := rmay12 lx W; rw [hm] at this; exact this
    · intro W; have := get9 (putL lx).1 W (put_byts lx); rw [get_put hm] at this; exact this

end Go.Proofs.Ythidiolgngkffaa
