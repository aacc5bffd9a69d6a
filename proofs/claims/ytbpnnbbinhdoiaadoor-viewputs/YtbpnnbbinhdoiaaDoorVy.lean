/-
  ViewPuts.
-/
import Derived.Test.YtbpnnbbinhdoiaaDoorPg
import Derived.Test.YtbpnnbbinhdoiaaDoorVt
import Derived.Test.YtbpnnbbinhdoiaaDoorVp
namespace Go.Proofs.YtbpnnbbinhdoiaaDoor
set_option maxRecDepth 100000
open Go.RowKit


theorem cg12b (vs : Array Value) (w : World) : (callFunc 12 vs).run Tryd.prog w = .ok (.enter 12 vs) w := by kernel_rfl
theorem getV_len (s : List Int) : (getV s).1.ms.length = 8 := by
  unfold getV
  split
  · rfl
  · split
    · simp [viewV]
    · rfl
section
variable {o : Oper} {a : Act} {w : World} {K : Act → World → Prop} {Q : Exit → Act → World → Prop}
theorem o_bldZ28 (ho : o.op = .build 28 #[]) (h : K (a.put o.dst (aggV (u8s (zs 64)))) w) : o.wp Tryd.prog a w K Q := by
  unfold Oper.wp execOp
  simp only [ho, Array.map_empty, Sem.run_bind, build28, Result.andThen_ok]
  exact h
end
set_option maxHeartbeats 8000000 in
theorem puts_no (v G : Vw) (s : List Int) (ge : Int) (w : World) (hF : First w) (hv : v.ms.length = 8) (hG : G.ms.length = 8) (hs : s.length = 64) 
    (k1 : ∀ W, First W → Calls Tryd.prog 8 #[aggV (vwC v)] W fun e w' => e = .returned (.tuple #[aggV (u8s (zs 64)), .int .i64 2]) ∧ Kept [] W w')
    (k2 : ∀ W, First W → Calls Tryd.prog 9 #[aggV (u8s s)] W fun e w' => e = .returned (two (G, ge)) ∧ Kept [] W w')
    (k3 : ∀ W, First W → Calls Tryd.prog 10 #[aggV (u8s s)] W fun e w' => e = .returned (two (G, ge)) ∧ Kept [] W w')
    (k4 : ∀ W, First W → Calls Tryd.prog 12 #[aggV (vwC v)] W fun e w' => e = .returned (.bool false) ∧ Kept [] W w')
    (k5 : ∀ W, First W → Calls Tryd.prog 13 #[aggV (vwC v)] W fun e w' => e = .returned (.bool false) ∧ Kept [] W w') : Calls Tryd.prog 3 #[aggV (vwC v), aggV (u8s s)] w fun e w' => e = .returned (.bool true) ∧ Kept [] w w' := by
  have Hk1 := hide k1
  have Hk2 := hide k2
  have Hk3 := hide k3
  have Hk4 := hide k4
  have Hk5 := hide k5
  clear k1 k2 k3 k4 k5
  go_enter Tryd.func3, Tryd.ntmps3
  have M : Hid (Mm w w []) := hide (Mm.init hF)
  go_wp2_with (
    first
    | (refine wpBoxV rfl (.tmp 0) rfl (vwC v) rfl ?_
       intro W1 b1 e1 B1 K1
       replace M : Hid (Mm w W1 [(b1, 26, vwC v)]) := hide ((unhide M).new e1 B1 K1)
       clear e1 B1 K1
       refine Stp.go ?_))
  constructor
  go_wp2_with (
    first
    | (refine wpBoxV rfl (.tmp 1) rfl (u8s s) rfl ?_
       intro W2 b2 e2 B2 K2
       replace M : Hid (Mm w W2 [(b1, 26, vwC v), (b2, 28, u8s s)]) := hide ((unhide M).new e2 B2 K2)
       clear e2 B2 K2
       refine Stp.go ?_))
  constructor
  go_wp2_with (
    first
    | (refine wpLoadA row26 rfl (.tmp 2) rfl b1 0 rfl (vwC v) (vwC_len hv) ((unhide M).at 0 _ rfl).range ?_
       refine Stp.go ?_))
  constructor
  go_wp2_with (
    first
    | (go_at_call 8
       refine (unhide Hk1 _ (unhide M).first).mono ?_
       rintro e W3 ⟨rfl, K3⟩
       replace M : Hid (Mm w W3 [(b1, 26, vwC v), (b2, 28, u8s s)]) := hide ((unhide M).step K3)
       clear K3
       refine Stp.go ?_))
  constructor
  go_wp2_with (
    first
    | (refine wpNew row28 (u8s (zs 64)) (zl 64) zero28 5 rfl rfl rfl (.tmp 16) rfl rfl rfl (u8s (zs 64)) (zl 64) (u8s_one _) (by kernel_rfl) (by kernel_rfl) ?_
       intro W4 b4 e4 B4 K4
       replace M : Hid (Mm w W4 [(b1, 26, vwC v), (b2, 28, u8s s), (b4, 28, u8s (zs 64))]) := hide ((unhide M).new e4 B4 K4)
       clear e4 B4 K4
       refine Stp.go ?_))
  constructor
  go_wp2_with (
    first
    | (refine wpLoadA row28 rfl (.tmp 3) rfl b2 0 rfl (u8s s) (by rw [u8s_len]; exact hs) ((unhide M).at 1 _ rfl).range ?_
       refine Stp.go ?_))
  constructor
  go_wp2_with (
    first
    | (go_at_call 9
       refine (unhide Hk2 _ (unhide M).first).mono ?_
       rintro e W5 ⟨rfl, K5⟩
       replace M : Hid (Mm w W5 [(b1, 26, vwC v), (b2, 28, u8s s), (b4, 28, u8s (zs 64))]) := hide ((unhide M).step K5)
       clear K5
       refine Stp.go ?_))
  constructor
  go_wp2_with (
    first
    | (refine wpNew row26 (vwC zv) rfl zero26 7 rfl rfl rfl (.tmp 21) rfl rfl rfl (vwC G) (vwC_len hG) (vwC_one _) (by kernel_rfl) (by kernel_rfl) ?_
       intro W6 b6 e6 B6 K6
       replace M : Hid (Mm w W6 [(b1, 26, vwC v), (b2, 28, u8s s), (b4, 28, u8s (zs 64)), (b6, 26, vwC G)]) := hide ((unhide M).new e6 B6 K6)
       clear e6 B6 K6
       refine Stp.go ?_))
  constructor
  go_wp2_with (
    first
    | (refine wpLoadA row28 rfl (.tmp 3) rfl b2 0 rfl (u8s s) (by rw [u8s_len]; exact hs) ((unhide M).at 1 _ rfl).range ?_
       refine Stp.go ?_))
  constructor
  go_wp2_with (
    first
    | (go_at_call 10
       refine (unhide Hk3 _ (unhide M).first).mono ?_
       rintro e W7 ⟨rfl, K7⟩
       replace M : Hid (Mm w W7 [(b1, 26, vwC v), (b2, 28, u8s s), (b4, 28, u8s (zs 64)), (b6, 26, vwC G)]) := hide ((unhide M).step K7)
       clear K7
       refine Stp.go ?_))
  constructor
  go_wp2_with (
    first
    | (refine wpNew row26 (vwC zv) rfl zero26 9 rfl rfl rfl (.tmp 26) rfl rfl rfl (vwC G) (vwC_len hG) (vwC_one _) (by kernel_rfl) (by kernel_rfl) ?_
       intro W8 b8 e8 B8 K8
       replace M : Hid (Mm w W8 [(b1, 26, vwC v), (b2, 28, u8s s), (b4, 28, u8s (zs 64)), (b6, 26, vwC G), (b8, 26, vwC G)]) := hide ((unhide M).new e8 B8 K8)
       clear e8 B8 K8
       refine Stp.go ?_))
  constructor
  go_wp2_with fail
  refine wp_region_any mixed (wpAny_tq 16 rfl (by kernel_rfl) [some (aggV (vwC G)), some (aggV (vwC G)), some (.bool false), some (.bool false), some (.int .i64 ge), some (.int .i64 ge), some (.int .i64 ge), some (.bool false), some (.bool false), some (.bool false), some (aggV (vwC v)), some (.bool false), some (aggV (vwC v)), some (.bool false), some (.bool false), some (.bool false)] rfl (by kernel_rfl) (by kernel_rfl) ?_ ?_)
  · intro i o' hi hsk ho a' w2 hout hin hk2
    replace hk2 : Kept [] W8 w2 := ⟨hk2.os, hk2.tape, hk2.output, hk2.size, hk2.block⟩
    match i, ho, hsk with
    | 0, ho, hsk =>
      obtain rfl := Option.some.inj ho
      exact wp_loadA row26 (.tmp 7) rfl b6 0 ((hout 7 (by kernel_rfl)).trans rfl) (vwC G) (vwC_len hG) (((unhide M).step hk2).at 3 _ rfl).range ⟨_, rfl, tq_is _ _ _ _ rfl, Kept.refl _ _, fun _ _ _ _ _ => trivial⟩
    | 1, ho, hsk =>
      obtain rfl := Option.some.inj ho
      exact wp_loadA row26 (.tmp 9) rfl b8 0 ((hout 9 (by kernel_rfl)).trans rfl) (vwC G) (vwC_len hG) (((unhide M).step hk2).at 4 _ rfl).range ⟨_, rfl, tq_is _ _ _ _ rfl, Kept.refl _ _, fun _ _ _ _ _ => trivial⟩
    | 2, ho, hsk =>
      obtain rfl := Option.some.inj ho
      have e0 : a'.eval (.tmp 28) = aggV (vwC G) := is_tq (hin 0 28 (by kernel_rfl) (by kernel_rfl)) rfl
      have e1 : a'.eval (.tmp 29) = aggV (vwC G) := is_tq (hin 1 29 (by kernel_rfl) (by kernel_rfl)) rfl
      exact o_neqA 26 26 guard26 (.tmp 28) (.tmp 29) rfl (vwC G) (vwC G) e0 e1 true ((equal26 _ G G hG hG).trans (by simp)) ⟨_, rfl, tq_is _ _ _ _ rfl, Kept.refl _ _, fun _ _ _ _ _ => trivial⟩
    | 3, ho, hsk =>
      obtain rfl := Option.some.inj ho
      have e0 : a'.eval (.tmp 30) = .bool false := is_tq (hin 2 30 (by kernel_rfl) (by kernel_rfl)) rfl
      exact wp_move (.tmp 30) rfl _ e0 ⟨_, rfl, tq_is _ _ _ _ rfl, Kept.refl _ _, fun _ _ _ _ _ => trivial⟩
    | 4, ho, hsk =>
      obtain rfl := Option.some.inj ho
      exact wp_move (.tmp 8) rfl _ ((hout 8 (by kernel_rfl)).trans rfl) ⟨_, rfl, tq_is _ _ _ _ rfl, Kept.refl _ _, fun _ _ _ _ _ => trivial⟩
    | 5, ho, hsk =>
      obtain rfl := Option.some.inj ho
      have e0 : a'.eval (.tmp 32) = .int .i64 ge := is_tq (hin 4 32 (by kernel_rfl) (by kernel_rfl)) rfl
      refine wp_callF 11 _ _ rfl #[.int .i64 ge] (by simp [e0]) (cg11 _ _) ((num11 _ _).mono ?_)
      rintro e w3 ⟨rfl, rfl⟩
      exact ⟨_, rfl, _, rfl, tq_is _ _ _ _ rfl, Kept.refl _ _, fun _ _ _ _ _ => trivial⟩
    | 6, ho, hsk =>
      obtain rfl := Option.some.inj ho
      exact wp_move (.tmp 10) rfl _ ((hout 10 (by kernel_rfl)).trans rfl) ⟨_, rfl, tq_is _ _ _ _ rfl, Kept.refl _ _, fun _ _ _ _ _ => trivial⟩
    | 7, ho, hsk =>
      obtain rfl := Option.some.inj ho
      have e0 : a'.eval (.tmp 33) = .int .i64 ge := is_tq (hin 5 33 (by kernel_rfl) (by kernel_rfl)) rfl
      have e1 : a'.eval (.tmp 34) = .int .i64 ge := is_tq (hin 6 34 (by kernel_rfl) (by kernel_rfl)) rfl
      exact o_neqI (.tmp 33) (.tmp 34) rfl ge e0 e1 ⟨_, rfl, tq_is _ _ _ _ rfl, Kept.refl _ _, fun _ _ _ _ _ => trivial⟩
    | 8, ho, hsk =>
      obtain rfl := Option.some.inj ho
      have e0 : a'.eval (.tmp 31) = .bool false := is_tq (hin 3 31 (by kernel_rfl) (by kernel_rfl)) rfl
      have e1 : a'.eval (.tmp 35) = .bool false := is_tq (hin 7 35 (by kernel_rfl) (by kernel_rfl)) rfl
      exact o_pickOr0 (.tmp 31) (.tmp 35) rfl _ e0 e1 ⟨_, rfl, tq_is _ _ _ _ rfl, Kept.refl _ _, fun _ _ _ _ _ => trivial⟩
    | 9, ho, hsk =>
      obtain rfl := Option.some.inj ho
      have e0 : a'.eval (.tmp 36) = .bool false := is_tq (hin 8 36 (by kernel_rfl) (by kernel_rfl)) rfl
      exact wp_move (.tmp 36) rfl _ e0 ⟨_, rfl, tq_is _ _ _ _ rfl, Kept.refl _ _, fun _ _ _ _ _ => trivial⟩
    | 10, ho, hsk =>
      obtain rfl := Option.some.inj ho
      exact wp_loadA row26 (.tmp 2) rfl b1 0 ((hout 2 (by kernel_rfl)).trans rfl) (vwC v) (vwC_len hv) (((unhide M).step hk2).at 0 _ rfl).range ⟨_, rfl, tq_is _ _ _ _ rfl, Kept.refl _ _, fun _ _ _ _ _ => trivial⟩
    | 11, ho, hsk =>
      obtain rfl := Option.some.inj ho
      have e0 : a'.eval (.tmp 38) = aggV (vwC v) := is_tq (hin 10 38 (by kernel_rfl) (by kernel_rfl)) rfl
      refine wp_callF 12 _ _ rfl #[aggV (vwC v)] (by simp [e0]) (cg12 _ _) ((unhide Hk4 _ ((unhide M).step hk2).first).mono ?_)
      rintro e w3 ⟨rfl, hk3⟩
      exact ⟨_, rfl, _, rfl, tq_is _ _ _ _ rfl, hk3, fun _ _ _ _ _ => trivial⟩
    | 12, ho, hsk =>
      obtain rfl := Option.some.inj ho
      exact wp_loadA row26 (.tmp 2) rfl b1 0 ((hout 2 (by kernel_rfl)).trans rfl) (vwC v) (vwC_len hv) (((unhide M).step hk2).at 0 _ rfl).range ⟨_, rfl, tq_is _ _ _ _ rfl, Kept.refl _ _, fun _ _ _ _ _ => trivial⟩
    | 13, ho, hsk =>
      obtain rfl := Option.some.inj ho
      have e0 : a'.eval (.tmp 40) = aggV (vwC v) := is_tq (hin 12 40 (by kernel_rfl) (by kernel_rfl)) rfl
      refine wp_callF 13 _ _ rfl #[aggV (vwC v)] (by simp [e0]) (cg13 _ _) ((unhide Hk5 _ ((unhide M).step hk2).first).mono ?_)
      rintro e w3 ⟨rfl, hk3⟩
      exact ⟨_, rfl, _, rfl, tq_is _ _ _ _ rfl, hk3, fun _ _ _ _ _ => trivial⟩
    | 14, ho, hsk =>
      obtain rfl := Option.some.inj ho
      have e0 : a'.eval (.tmp 39) = .bool false := is_tq (hin 11 39 (by kernel_rfl) (by kernel_rfl)) rfl
      have e1 : a'.eval (.tmp 41) = .bool false := is_tq (hin 13 41 (by kernel_rfl) (by kernel_rfl)) rfl
      exact o_neq4 (.tmp 39) (.tmp 41) rfl _ e0 e1 ⟨_, rfl, tq_is _ _ _ _ rfl, Kept.refl _ _, fun _ _ _ _ _ => trivial⟩
    | 15, ho, hsk =>
      obtain rfl := Option.some.inj ho
      have e0 : a'.eval (.tmp 37) = .bool false := is_tq (hin 9 37 (by kernel_rfl) (by kernel_rfl)) rfl
      have e1 : a'.eval (.tmp 42) = .bool false := is_tq (hin 14 42 (by kernel_rfl) (by kernel_rfl)) rfl
      exact o_pickOr0 (.tmp 37) (.tmp 42) rfl _ e0 e1 ⟨_, rfl, tq_is _ _ _ _ rfl, Kept.refl _ _, fun _ _ _ _ _ => trivial⟩
  intro w9 hk9
  replace hk9 : Kept [] W8 w9 := ⟨hk9.os, hk9.tape, hk9.output, hk9.size, hk9.block⟩
  simp only [valsQ, List.map_cons, List.map_nil, Option.getD_some, List.take_succ_cons, List.take_zero, putAll, Act.put, List.setIfInBounds_toArray, List.set_cons_succ, List.set_cons_zero]
  refine wpAny_done (by kernel_rfl) ?_ _
  replace M : Hid (Mm w w9 [(b1, 26, vwC v), (b2, 28, u8s s), (b4, 28, u8s (zs 64)), (b6, 26, vwC G), (b8, 26, vwC G)]) := hide ((unhide M).step hk9)
  clear hk9
  go_wp2_with (
    first
    | (refine wpLoadA row26 rfl (.tmp 2) rfl b1 0 rfl (vwC v) (vwC_len hv) ((unhide M).at 0 _ rfl).range ?_
       refine Stp.go ?_))
  constructor
  go_wp2_with (
    first
    | (go_at_call 13
       refine (unhide Hk5 _ (unhide M).first).mono ?_
       rintro e W51 ⟨rfl, K51⟩
       replace M : Hid (Mm w W51 [(b1, 26, vwC v), (b2, 28, u8s s), (b4, 28, u8s (zs 64)), (b6, 26, vwC G), (b8, 26, vwC G)]) := hide ((unhide M).step K51)
       clear K51
       refine Stp.go ?_))
  constructor
  go_upto_region 7 with fail
  refine wp_text_tq 12 rfl (by kernel_rfl) [some (aggV (u8s (zs 64))), some (aggV (u8s (zs 64))), some (.bool true), some (.bool true), some (.int .i64 2), some (.int .i64 2), some (.bool true), some (.bool true), some (.bool true), some (.bool true), some (.bool true), some (.bool true)] rfl (by kernel_rfl) (by kernel_rfl) ?_ ?_
  · intro i o' hi hsk ho a' w2 hout hin hk2
    replace hk2 : Kept [] W51 w2 := ⟨hk2.os, hk2.tape, hk2.output, hk2.size, hk2.block⟩
    match i, ho, hsk with
    | 0, ho, hsk =>
      obtain rfl := Option.some.inj ho
      exact wp_loadA row28 (.tmp 5) rfl b4 0 ((hout 5 (by kernel_rfl)).trans rfl) (u8s (zs 64)) (zl 64) (((unhide M).step hk2).at 2 _ rfl).range ⟨_, rfl, tq_is _ _ _ _ rfl, Kept.refl _ _, fun _ _ _ _ _ => trivial⟩
    | 1, ho, hsk =>
      obtain rfl := Option.some.inj ho
      exact o_bldZ28 rfl ⟨_, rfl, tq_is _ _ _ _ rfl, Kept.refl _ _, fun _ _ _ _ _ => trivial⟩
    | 2, ho, hsk =>
      obtain rfl := Option.some.inj ho
      have e0 : a'.eval (.tmp 47) = aggV (u8s (zs 64)) := is_tq (hin 0 47 (by kernel_rfl) (by kernel_rfl)) rfl
      have e1 : a'.eval (.tmp 48) = aggV (u8s (zs 64)) := is_tq (hin 1 48 (by kernel_rfl) (by kernel_rfl)) rfl
      exact o_eqlA 28 28 guard28 (.tmp 47) (.tmp 48) rfl (u8s (zs 64)) (u8s (zs 64)) e0 e1 true ((equal28 _ (zs 64) (zs 64) (by simp [zs]) (by simp [zs])).trans (by simp)) ⟨_, rfl, tq_is _ _ _ _ rfl, Kept.refl _ _, fun _ _ _ _ _ => trivial⟩
    | 3, ho, hsk =>
      obtain rfl := Option.some.inj ho
      have e0 : a'.eval (.tmp 49) = .bool true := is_tq (hin 2 49 (by kernel_rfl) (by kernel_rfl)) rfl
      exact wp_move (.tmp 49) rfl _ e0 ⟨_, rfl, tq_is _ _ _ _ rfl, Kept.refl _ _, fun _ _ _ _ _ => trivial⟩
    | 4, ho, hsk =>
      obtain rfl := Option.some.inj ho
      exact wp_move (.tmp 6) rfl _ ((hout 6 (by kernel_rfl)).trans rfl) ⟨_, rfl, tq_is _ _ _ _ rfl, Kept.refl _ _, fun _ _ _ _ _ => trivial⟩
    | 5, ho, hsk =>
      obtain rfl := Option.some.inj ho
      have e0 : a'.eval (.tmp 51) = .int .i64 2 := is_tq (hin 4 51 (by kernel_rfl) (by kernel_rfl)) rfl
      refine wp_callF 11 _ _ rfl #[.int .i64 2] (by simp [e0]) (cg11 _ _) ((num11 _ _).mono ?_)
      rintro e w3 ⟨rfl, rfl⟩
      exact ⟨_, rfl, _, rfl, tq_is _ _ _ _ rfl, Kept.refl _ _, fun _ _ _ _ _ => trivial⟩
    | 6, ho, hsk =>
      obtain rfl := Option.some.inj ho
      have e0 : a'.eval (.tmp 52) = .int .i64 2 := is_tq (hin 5 52 (by kernel_rfl) (by kernel_rfl)) rfl
      exact o_eql3 (.tmp 52) 2 rfl _ true (by simp) e0 ⟨_, rfl, tq_is _ _ _ _ rfl, Kept.refl _ _, fun _ _ _ _ _ => trivial⟩
    | 7, ho, hsk =>
      obtain rfl := Option.some.inj ho
      have e0 : a'.eval (.tmp 50) = .bool true := is_tq (hin 3 50 (by kernel_rfl) (by kernel_rfl)) rfl
      have e1 : a'.eval (.tmp 53) = .bool true := is_tq (hin 6 53 (by kernel_rfl) (by kernel_rfl)) rfl
      exact o_pick (.tmp 50) (.tmp 53) rfl _ e0 e1 ⟨_, rfl, tq_is _ _ _ _ rfl, Kept.refl _ _, fun _ _ _ _ _ => trivial⟩
    | 8, ho, hsk =>
      obtain rfl := Option.some.inj ho
      have e0 : a'.eval (.tmp 54) = .bool true := is_tq (hin 7 54 (by kernel_rfl) (by kernel_rfl)) rfl
      exact wp_move (.tmp 54) rfl _ e0 ⟨_, rfl, tq_is _ _ _ _ rfl, Kept.refl _ _, fun _ _ _ _ _ => trivial⟩
    | 9, ho, hsk =>
      obtain rfl := Option.some.inj ho
      refine wp_callF 14 _ _ rfl #[] (by simp) (cg14 _ _) ((known14 _ ((unhide M).step hk2).first).mono ?_)
      rintro e w3 ⟨rfl, hk3⟩
      exact ⟨_, rfl, _, rfl, tq_is _ _ _ _ rfl, hk3, fun _ _ _ _ _ => trivial⟩
    | 10, ho, hsk =>
      obtain rfl := Option.some.inj ho
      have e0 : a'.eval (.tmp 55) = .bool true := is_tq (hin 8 55 (by kernel_rfl) (by kernel_rfl)) rfl
      have e1 : a'.eval (.tmp 56) = .bool true := is_tq (hin 9 56 (by kernel_rfl) (by kernel_rfl)) rfl
      exact o_pick (.tmp 55) (.tmp 56) rfl _ e0 e1 ⟨_, rfl, tq_is _ _ _ _ rfl, Kept.refl _ _, fun _ _ _ _ _ => trivial⟩
    | 11, ho, hsk =>
      obtain rfl := Option.some.inj ho
      have e0 : a'.eval (.tmp 57) = .bool true := is_tq (hin 10 57 (by kernel_rfl) (by kernel_rfl)) rfl
      exact wp_assignV (.tmp 57) rfl _ e0 ⟨_, rfl, tq_is _ _ _ _ rfl, Kept.refl _ _, fun _ _ _ _ _ => trivial⟩
  intro w8 hk8
  replace hk8 : Kept [] W51 w8 := ⟨hk8.os, hk8.tape, hk8.output, hk8.size, hk8.block⟩
  simp only [valsQ, List.map_cons, List.map_nil, Option.getD_some, List.take_succ_cons, List.take_zero, putAll, Act.put, List.setIfInBounds_toArray, List.set_cons_succ, List.set_cons_zero]
  go_wp2_with fail
  go_ret
  exact ⟨rfl, (unhide M).kept.trans hk8⟩
set_option maxHeartbeats 8000000 in
theorem puts_yes (v G : Vw) (s P : List Int) (ge : Int) (w : World) (hF : First w) (hv : v.ms.length = 8) (hG : G.ms.length = 8) (hs : s.length = 64) (hP : P.length = 64)
    (k1 : ∀ W, First W → Calls Tryd.prog 8 #[aggV (vwC v)] W fun e w' => e = .returned (.tuple #[aggV (u8s P), .int .i64 0]) ∧ Kept [] W w')
    (k2 : ∀ W, First W → Calls Tryd.prog 9 #[aggV (u8s s)] W fun e w' => e = .returned (two (G, ge)) ∧ Kept [] W w')
    (k3 : ∀ W, First W → Calls Tryd.prog 10 #[aggV (u8s s)] W fun e w' => e = .returned (two (G, ge)) ∧ Kept [] W w')
    (k4 : ∀ W, First W → Calls Tryd.prog 12 #[aggV (vwC v)] W fun e w' => e = .returned (.bool true) ∧ Kept [] W w')
    (k5 : ∀ W, First W → Calls Tryd.prog 13 #[aggV (vwC v)] W fun e w' => e = .returned (.bool true) ∧ Kept [] W w')
    (k6 : ∀ W, First W → Calls Tryd.prog 9 #[aggV (u8s P)] W fun e w' => e = .returned (two (v, 0)) ∧ Kept [] W w')
    (k7 : ∀ W, First W → Calls Tryd.prog 15 #[aggV (vwC v)] W fun e w' => e = .returned (aggV (u8s P)) ∧ Kept [] W w') : Calls Tryd.prog 3 #[aggV (vwC v), aggV (u8s s)] w fun e w' => e = .returned (.bool true) ∧ Kept [] w w' := by
  have Hk1 := hide k1
  have Hk2 := hide k2
  have Hk3 := hide k3
  have Hk4 := hide k4
  have Hk5 := hide k5
  have Hk6 := hide k6
  have Hk7 := hide k7
  clear k1 k2 k3 k4 k5 k6 k7
  go_enter Tryd.func3, Tryd.ntmps3
  have M : Hid (Mm w w []) := hide (Mm.init hF)
  go_wp2_with (
    first
    | (refine wpBoxV rfl (.tmp 0) rfl (vwC v) rfl ?_
       intro W1 b1 e1 B1 K1
       replace M : Hid (Mm w W1 [(b1, 26, vwC v)]) := hide ((unhide M).new e1 B1 K1)
       clear e1 B1 K1
       refine Stp.go ?_))
  constructor
  go_wp2_with (
    first
    | (refine wpBoxV rfl (.tmp 1) rfl (u8s s) rfl ?_
       intro W2 b2 e2 B2 K2
       replace M : Hid (Mm w W2 [(b1, 26, vwC v), (b2, 28, u8s s)]) := hide ((unhide M).new e2 B2 K2)
       clear e2 B2 K2
       refine Stp.go ?_))
  constructor
  go_wp2_with (
    first
    | (refine wpLoadA row26 rfl (.tmp 2) rfl b1 0 rfl (vwC v) (vwC_len hv) ((unhide M).at 0 _ rfl).range ?_
       refine Stp.go ?_))
  constructor
  go_wp2_with (
    first
    | (go_at_call 8
       refine (unhide Hk1 _ (unhide M).first).mono ?_
       rintro e W3 ⟨rfl, K3⟩
       replace M : Hid (Mm w W3 [(b1, 26, vwC v), (b2, 28, u8s s)]) := hide ((unhide M).step K3)
       clear K3
       refine Stp.go ?_))
  constructor
  go_wp2_with (
    first
    | (refine wpNew row28 (u8s (zs 64)) (zl 64) zero28 5 rfl rfl rfl (.tmp 16) rfl rfl rfl (u8s P) (by rw [u8s_len]; exact hP) (u8s_one _) (by kernel_rfl) (by kernel_rfl) ?_
       intro W4 b4 e4 B4 K4
       replace M : Hid (Mm w W4 [(b1, 26, vwC v), (b2, 28, u8s s), (b4, 28, u8s P)]) := hide ((unhide M).new e4 B4 K4)
       clear e4 B4 K4
       refine Stp.go ?_))
  constructor
  go_wp2_with (
    first
    | (refine wpLoadA row28 rfl (.tmp 3) rfl b2 0 rfl (u8s s) (by rw [u8s_len]; exact hs) ((unhide M).at 1 _ rfl).range ?_
       refine Stp.go ?_))
  constructor
  go_wp2_with (
    first
    | (go_at_call 9
       refine (unhide Hk2 _ (unhide M).first).mono ?_
       rintro e W5 ⟨rfl, K5⟩
       replace M : Hid (Mm w W5 [(b1, 26, vwC v), (b2, 28, u8s s), (b4, 28, u8s P)]) := hide ((unhide M).step K5)
       clear K5
       refine Stp.go ?_))
  constructor
  go_wp2_with (
    first
    | (refine wpNew row26 (vwC zv) rfl zero26 7 rfl rfl rfl (.tmp 21) rfl rfl rfl (vwC G) (vwC_len hG) (vwC_one _) (by kernel_rfl) (by kernel_rfl) ?_
       intro W6 b6 e6 B6 K6
       replace M : Hid (Mm w W6 [(b1, 26, vwC v), (b2, 28, u8s s), (b4, 28, u8s P), (b6, 26, vwC G)]) := hide ((unhide M).new e6 B6 K6)
       clear e6 B6 K6
       refine Stp.go ?_))
  constructor
  go_wp2_with (
    first
    | (refine wpLoadA row28 rfl (.tmp 3) rfl b2 0 rfl (u8s s) (by rw [u8s_len]; exact hs) ((unhide M).at 1 _ rfl).range ?_
       refine Stp.go ?_))
  constructor
  go_wp2_with (
    first
    | (go_at_call 10
       refine (unhide Hk3 _ (unhide M).first).mono ?_
       rintro e W7 ⟨rfl, K7⟩
       replace M : Hid (Mm w W7 [(b1, 26, vwC v), (b2, 28, u8s s), (b4, 28, u8s P), (b6, 26, vwC G)]) := hide ((unhide M).step K7)
       clear K7
       refine Stp.go ?_))
  constructor
  go_wp2_with (
    first
    | (refine wpNew row26 (vwC zv) rfl zero26 9 rfl rfl rfl (.tmp 26) rfl rfl rfl (vwC G) (vwC_len hG) (vwC_one _) (by kernel_rfl) (by kernel_rfl) ?_
       intro W8 b8 e8 B8 K8
       replace M : Hid (Mm w W8 [(b1, 26, vwC v), (b2, 28, u8s s), (b4, 28, u8s P), (b6, 26, vwC G), (b8, 26, vwC G)]) := hide ((unhide M).new e8 B8 K8)
       clear e8 B8 K8
       refine Stp.go ?_))
  constructor
  go_wp2_with fail
  refine wp_region_any mixed (wpAny_tq 16 rfl (by kernel_rfl) [some (aggV (vwC G)), some (aggV (vwC G)), some (.bool false), some (.bool false), some (.int .i64 ge), some (.int .i64 ge), some (.int .i64 ge), some (.bool false), some (.bool false), some (.bool false), some (aggV (vwC v)), some (.bool true), some (aggV (vwC v)), some (.bool true), some (.bool false), some (.bool false)] rfl (by kernel_rfl) (by kernel_rfl) ?_ ?_)
  · intro i o' hi hsk ho a' w2 hout hin hk2
    replace hk2 : Kept [] W8 w2 := ⟨hk2.os, hk2.tape, hk2.output, hk2.size, hk2.block⟩
    match i, ho, hsk with
    | 0, ho, hsk =>
      obtain rfl := Option.some.inj ho
      exact wp_loadA row26 (.tmp 7) rfl b6 0 ((hout 7 (by kernel_rfl)).trans rfl) (vwC G) (vwC_len hG) (((unhide M).step hk2).at 3 _ rfl).range ⟨_, rfl, tq_is _ _ _ _ rfl, Kept.refl _ _, fun _ _ _ _ _ => trivial⟩
    | 1, ho, hsk =>
      obtain rfl := Option.some.inj ho
      exact wp_loadA row26 (.tmp 9) rfl b8 0 ((hout 9 (by kernel_rfl)).trans rfl) (vwC G) (vwC_len hG) (((unhide M).step hk2).at 4 _ rfl).range ⟨_, rfl, tq_is _ _ _ _ rfl, Kept.refl _ _, fun _ _ _ _ _ => trivial⟩
    | 2, ho, hsk =>
      obtain rfl := Option.some.inj ho
      have e0 : a'.eval (.tmp 28) = aggV (vwC G) := is_tq (hin 0 28 (by kernel_rfl) (by kernel_rfl)) rfl
      have e1 : a'.eval (.tmp 29) = aggV (vwC G) := is_tq (hin 1 29 (by kernel_rfl) (by kernel_rfl)) rfl
      exact o_neqA 26 26 guard26 (.tmp 28) (.tmp 29) rfl (vwC G) (vwC G) e0 e1 true ((equal26 _ G G hG hG).trans (by simp)) ⟨_, rfl, tq_is _ _ _ _ rfl, Kept.refl _ _, fun _ _ _ _ _ => trivial⟩
    | 3, ho, hsk =>
      obtain rfl := Option.some.inj ho
      have e0 : a'.eval (.tmp 30) = .bool false := is_tq (hin 2 30 (by kernel_rfl) (by kernel_rfl)) rfl
      exact wp_move (.tmp 30) rfl _ e0 ⟨_, rfl, tq_is _ _ _ _ rfl, Kept.refl _ _, fun _ _ _ _ _ => trivial⟩
    | 4, ho, hsk =>
      obtain rfl := Option.some.inj ho
      exact wp_move (.tmp 8) rfl _ ((hout 8 (by kernel_rfl)).trans rfl) ⟨_, rfl, tq_is _ _ _ _ rfl, Kept.refl _ _, fun _ _ _ _ _ => trivial⟩
    | 5, ho, hsk =>
      obtain rfl := Option.some.inj ho
      have e0 : a'.eval (.tmp 32) = .int .i64 ge := is_tq (hin 4 32 (by kernel_rfl) (by kernel_rfl)) rfl
      refine wp_callF 11 _ _ rfl #[.int .i64 ge] (by simp [e0]) (cg11 _ _) ((num11 _ _).mono ?_)
      rintro e w3 ⟨rfl, rfl⟩
      exact ⟨_, rfl, _, rfl, tq_is _ _ _ _ rfl, Kept.refl _ _, fun _ _ _ _ _ => trivial⟩
    | 6, ho, hsk =>
      obtain rfl := Option.some.inj ho
      exact wp_move (.tmp 10) rfl _ ((hout 10 (by kernel_rfl)).trans rfl) ⟨_, rfl, tq_is _ _ _ _ rfl, Kept.refl _ _, fun _ _ _ _ _ => trivial⟩
    | 7, ho, hsk =>
      obtain rfl := Option.some.inj ho
      have e0 : a'.eval (.tmp 33) = .int .i64 ge := is_tq (hin 5 33 (by kernel_rfl) (by kernel_rfl)) rfl
      have e1 : a'.eval (.tmp 34) = .int .i64 ge := is_tq (hin 6 34 (by kernel_rfl) (by kernel_rfl)) rfl
      exact o_neqI (.tmp 33) (.tmp 34) rfl ge e0 e1 ⟨_, rfl, tq_is _ _ _ _ rfl, Kept.refl _ _, fun _ _ _ _ _ => trivial⟩
    | 8, ho, hsk =>
      obtain rfl := Option.some.inj ho
      have e0 : a'.eval (.tmp 31) = .bool false := is_tq (hin 3 31 (by kernel_rfl) (by kernel_rfl)) rfl
      have e1 : a'.eval (.tmp 35) = .bool false := is_tq (hin 7 35 (by kernel_rfl) (by kernel_rfl)) rfl
      exact o_pickOr0 (.tmp 31) (.tmp 35) rfl _ e0 e1 ⟨_, rfl, tq_is _ _ _ _ rfl, Kept.refl _ _, fun _ _ _ _ _ => trivial⟩
    | 9, ho, hsk =>
      obtain rfl := Option.some.inj ho
      have e0 : a'.eval (.tmp 36) = .bool false := is_tq (hin 8 36 (by kernel_rfl) (by kernel_rfl)) rfl
      exact wp_move (.tmp 36) rfl _ e0 ⟨_, rfl, tq_is _ _ _ _ rfl, Kept.refl _ _, fun _ _ _ _ _ => trivial⟩
    | 10, ho, hsk =>
      obtain rfl := Option.some.inj ho
      exact wp_loadA row26 (.tmp 2) rfl b1 0 ((hout 2 (by kernel_rfl)).trans rfl) (vwC v) (vwC_len hv) (((unhide M).step hk2).at 0 _ rfl).range ⟨_, rfl, tq_is _ _ _ _ rfl, Kept.refl _ _, fun _ _ _ _ _ => trivial⟩
    | 11, ho, hsk =>
      obtain rfl := Option.some.inj ho
      have e0 : a'.eval (.tmp 38) = aggV (vwC v) := is_tq (hin 10 38 (by kernel_rfl) (by kernel_rfl)) rfl
      refine wp_callF 12 _ _ rfl #[aggV (vwC v)] (by simp [e0]) (cg12 _ _) ((unhide Hk4 _ ((unhide M).step hk2).first).mono ?_)
      rintro e w3 ⟨rfl, hk3⟩
      exact ⟨_, rfl, _, rfl, tq_is _ _ _ _ rfl, hk3, fun _ _ _ _ _ => trivial⟩
    | 12, ho, hsk =>
      obtain rfl := Option.some.inj ho
      exact wp_loadA row26 (.tmp 2) rfl b1 0 ((hout 2 (by kernel_rfl)).trans rfl) (vwC v) (vwC_len hv) (((unhide M).step hk2).at 0 _ rfl).range ⟨_, rfl, tq_is _ _ _ _ rfl, Kept.refl _ _, fun _ _ _ _ _ => trivial⟩
    | 13, ho, hsk =>
      obtain rfl := Option.some.inj ho
      have e0 : a'.eval (.tmp 40) = aggV (vwC v) := is_tq (hin 12 40 (by kernel_rfl) (by kernel_rfl)) rfl
      refine wp_callF 13 _ _ rfl #[aggV (vwC v)] (by simp [e0]) (cg13 _ _) ((unhide Hk5 _ ((unhide M).step hk2).first).mono ?_)
      rintro e w3 ⟨rfl, hk3⟩
      exact ⟨_, rfl, _, rfl, tq_is _ _ _ _ rfl, hk3, fun _ _ _ _ _ => trivial⟩
    | 14, ho, hsk =>
      obtain rfl := Option.some.inj ho
      have e0 : a'.eval (.tmp 39) = .bool true := is_tq (hin 11 39 (by kernel_rfl) (by kernel_rfl)) rfl
      have e1 : a'.eval (.tmp 41) = .bool true := is_tq (hin 13 41 (by kernel_rfl) (by kernel_rfl)) rfl
      exact o_neq4 (.tmp 39) (.tmp 41) rfl _ e0 e1 ⟨_, rfl, tq_is _ _ _ _ rfl, Kept.refl _ _, fun _ _ _ _ _ => trivial⟩
    | 15, ho, hsk =>
      obtain rfl := Option.some.inj ho
      have e0 : a'.eval (.tmp 37) = .bool false := is_tq (hin 9 37 (by kernel_rfl) (by kernel_rfl)) rfl
      have e1 : a'.eval (.tmp 42) = .bool false := is_tq (hin 14 42 (by kernel_rfl) (by kernel_rfl)) rfl
      exact o_pickOr0 (.tmp 37) (.tmp 42) rfl _ e0 e1 ⟨_, rfl, tq_is _ _ _ _ rfl, Kept.refl _ _, fun _ _ _ _ _ => trivial⟩
  intro w9 hk9
  replace hk9 : Kept [] W8 w9 := ⟨hk9.os, hk9.tape, hk9.output, hk9.size, hk9.block⟩
  simp only [valsQ, List.map_cons, List.map_nil, Option.getD_some, List.take_succ_cons, List.take_zero, putAll, Act.put, List.setIfInBounds_toArray, List.set_cons_succ, List.set_cons_zero]
  refine wpAny_done (by kernel_rfl) ?_ _
  replace M : Hid (Mm w w9 [(b1, 26, vwC v), (b2, 28, u8s s), (b4, 28, u8s P), (b6, 26, vwC G), (b8, 26, vwC G)]) := hide ((unhide M).step hk9)
  clear hk9
  go_wp2_with (
    first
    | (refine wpLoadA row26 rfl (.tmp 2) rfl b1 0 rfl (vwC v) (vwC_len hv) ((unhide M).at 0 _ rfl).range ?_
       refine Stp.go ?_))
  constructor
  go_wp2_with (
    first
    | (go_at_call 13
       refine (unhide Hk5 _ (unhide M).first).mono ?_
       rintro e W51 ⟨rfl, K51⟩
       replace M : Hid (Mm w W51 [(b1, 26, vwC v), (b2, 28, u8s s), (b4, 28, u8s P), (b6, 26, vwC G), (b8, 26, vwC G)]) := hide ((unhide M).step K51)
       clear K51
       refine Stp.go ?_))
  constructor
  go_wp2_with (
    first
    | (refine wpLoadA row28 rfl (.tmp 5) rfl b4 0 rfl (u8s P) (by rw [u8s_len]; exact hP) ((unhide M).at 2 _ rfl).range ?_
       refine Stp.go ?_))
  constructor
  go_wp2_with (
    first
    | (go_at_call 9
       refine (unhide Hk6 _ (unhide M).first).mono ?_
       rintro e W52 ⟨rfl, K52⟩
       replace M : Hid (Mm w W52 [(b1, 26, vwC v), (b2, 28, u8s s), (b4, 28, u8s P), (b6, 26, vwC G), (b8, 26, vwC G)]) := hide ((unhide M).step K52)
       clear K52
       refine Stp.go ?_))
  constructor
  go_wp2_with (
    first
    | (refine wpNew row26 (vwC zv) rfl zero26 11 rfl rfl rfl (.tmp 61) rfl rfl rfl (vwC v) (vwC_len hv) (vwC_one _) (by kernel_rfl) (by kernel_rfl) ?_
       intro W53 b53 e53 B53 K53
       replace M : Hid (Mm w W53 [(b1, 26, vwC v), (b2, 28, u8s s), (b4, 28, u8s P), (b6, 26, vwC G), (b8, 26, vwC G), (b53, 26, vwC v)]) := hide ((unhide M).new e53 B53 K53)
       clear e53 B53 K53
       refine Stp.go ?_))
  constructor
  go_wp2_with fail
  refine wp_region_any mixed (wpAny_tq 21 rfl (by kernel_rfl) [some (aggV (u8s P)), some (aggV (vwC v)), some (aggV (u8s P)), some (.bool true), some (.bool true), some (.int .i64 0), some (.int .i64 0), some (.int .i64 0), some (.int .i64 0), some (.int .i64 0), some (.bool true), some (.bool true), some (.bool true), some (aggV (vwC v)), some (aggV (vwC v)), some (.bool true), some (.bool true), some (.bool true), some (.bool true), some (.bool true), some (.bool true)] rfl (by kernel_rfl) (by kernel_rfl) ?_ ?_)
  · intro i o' hi hsk ho a' w2 hout hin hk2
    replace hk2 : Kept [] W53 w2 := ⟨hk2.os, hk2.tape, hk2.output, hk2.size, hk2.block⟩
    match i, ho, hsk with
    | 0, ho, hsk =>
      obtain rfl := Option.some.inj ho
      exact wp_loadA row28 (.tmp 5) rfl b4 0 ((hout 5 (by kernel_rfl)).trans rfl) (u8s P) (by rw [u8s_len]; exact hP) (((unhide M).step hk2).at 2 _ rfl).range ⟨_, rfl, tq_is _ _ _ _ rfl, Kept.refl _ _, fun _ _ _ _ _ => trivial⟩
    | 1, ho, hsk =>
      obtain rfl := Option.some.inj ho
      exact wp_loadA row26 (.tmp 2) rfl b1 0 ((hout 2 (by kernel_rfl)).trans rfl) (vwC v) (vwC_len hv) (((unhide M).step hk2).at 0 _ rfl).range ⟨_, rfl, tq_is _ _ _ _ rfl, Kept.refl _ _, fun _ _ _ _ _ => trivial⟩
    | 2, ho, hsk =>
      obtain rfl := Option.some.inj ho
      have e0 : a'.eval (.tmp 64) = aggV (vwC v) := is_tq (hin 1 64 (by kernel_rfl) (by kernel_rfl)) rfl
      refine wp_callF 15 _ _ rfl #[aggV (vwC v)] (by simp [e0]) (cg15 _ _) ((unhide Hk7 _ ((unhide M).step hk2).first).mono ?_)
      rintro e w3 ⟨rfl, hk3⟩
      exact ⟨_, rfl, _, rfl, tq_is _ _ _ _ rfl, hk3, fun _ _ _ _ _ => trivial⟩
    | 3, ho, hsk =>
      obtain rfl := Option.some.inj ho
      have e0 : a'.eval (.tmp 63) = aggV (u8s P) := is_tq (hin 0 63 (by kernel_rfl) (by kernel_rfl)) rfl
      have e1 : a'.eval (.tmp 65) = aggV (u8s P) := is_tq (hin 2 65 (by kernel_rfl) (by kernel_rfl)) rfl
      exact o_eqlA 28 28 guard28 (.tmp 63) (.tmp 65) rfl (u8s P) (u8s P) e0 e1 true ((equal28 _ P P hP hP).trans (by simp)) ⟨_, rfl, tq_is _ _ _ _ rfl, Kept.refl _ _, fun _ _ _ _ _ => trivial⟩
    | 4, ho, hsk =>
      obtain rfl := Option.some.inj ho
      have e0 : a'.eval (.tmp 66) = .bool true := is_tq (hin 3 66 (by kernel_rfl) (by kernel_rfl)) rfl
      exact wp_move (.tmp 66) rfl _ e0 ⟨_, rfl, tq_is _ _ _ _ rfl, Kept.refl _ _, fun _ _ _ _ _ => trivial⟩
    | 5, ho, hsk =>
      obtain rfl := Option.some.inj ho
      exact wp_move (.tmp 6) rfl _ ((hout 6 (by kernel_rfl)).trans rfl) ⟨_, rfl, tq_is _ _ _ _ rfl, Kept.refl _ _, fun _ _ _ _ _ => trivial⟩
    | 6, ho, hsk =>
      obtain rfl := Option.some.inj ho
      have e0 : a'.eval (.tmp 68) = .int .i64 0 := is_tq (hin 5 68 (by kernel_rfl) (by kernel_rfl)) rfl
      refine wp_callF 11 _ _ rfl #[.int .i64 0] (by simp [e0]) (cg11 _ _) ((num11 _ _).mono ?_)
      rintro e w3 ⟨rfl, rfl⟩
      exact ⟨_, rfl, _, rfl, tq_is _ _ _ _ rfl, Kept.refl _ _, fun _ _ _ _ _ => trivial⟩
    | 7, ho, hsk =>
      obtain rfl := Option.some.inj ho
      exact wp_move (.tmp 12) rfl _ ((hout 12 (by kernel_rfl)).trans rfl) ⟨_, rfl, tq_is _ _ _ _ rfl, Kept.refl _ _, fun _ _ _ _ _ => trivial⟩
    | 8, ho, hsk =>
      obtain rfl := Option.some.inj ho
      have e0 : a'.eval (.tmp 70) = .int .i64 0 := is_tq (hin 7 70 (by kernel_rfl) (by kernel_rfl)) rfl
      refine wp_callF 11 _ _ rfl #[.int .i64 0] (by simp [e0]) (cg11 _ _) ((num11 _ _).mono ?_)
      rintro e w3 ⟨rfl, rfl⟩
      exact ⟨_, rfl, _, rfl, tq_is _ _ _ _ rfl, Kept.refl _ _, fun _ _ _ _ _ => trivial⟩
    | 9, ho, hsk =>
      obtain rfl := Option.some.inj ho
      have e0 : a'.eval (.tmp 69) = .int .i64 0 := is_tq (hin 6 69 (by kernel_rfl) (by kernel_rfl)) rfl
      have e1 : a'.eval (.tmp 71) = .int .i64 0 := is_tq (hin 8 71 (by kernel_rfl) (by kernel_rfl)) rfl
      exact o_add3 (.tmp 69) (.tmp 71) rfl 0 0 (by omega) e0 e1 ⟨_, rfl, tq_is _ _ _ _ rfl, Kept.refl _ _, fun _ _ _ _ _ => trivial⟩
    | 10, ho, hsk =>
      obtain rfl := Option.some.inj ho
      have e0 : a'.eval (.tmp 72) = .int .i64 0 := is_tq (hin 9 72 (by kernel_rfl) (by kernel_rfl)) rfl
      exact o_eql3 (.tmp 72) 0 rfl _ true (by simp) e0 ⟨_, rfl, tq_is _ _ _ _ rfl, Kept.refl _ _, fun _ _ _ _ _ => trivial⟩
    | 11, ho, hsk =>
      obtain rfl := Option.some.inj ho
      have e0 : a'.eval (.tmp 67) = .bool true := is_tq (hin 4 67 (by kernel_rfl) (by kernel_rfl)) rfl
      have e1 : a'.eval (.tmp 73) = .bool true := is_tq (hin 10 73 (by kernel_rfl) (by kernel_rfl)) rfl
      exact o_pick (.tmp 67) (.tmp 73) rfl _ e0 e1 ⟨_, rfl, tq_is _ _ _ _ rfl, Kept.refl _ _, fun _ _ _ _ _ => trivial⟩
    | 12, ho, hsk =>
      obtain rfl := Option.some.inj ho
      have e0 : a'.eval (.tmp 74) = .bool true := is_tq (hin 11 74 (by kernel_rfl) (by kernel_rfl)) rfl
      exact wp_move (.tmp 74) rfl _ e0 ⟨_, rfl, tq_is _ _ _ _ rfl, Kept.refl _ _, fun _ _ _ _ _ => trivial⟩
    | 13, ho, hsk =>
      obtain rfl := Option.some.inj ho
      exact wp_loadA row26 (.tmp 11) rfl b53 0 ((hout 11 (by kernel_rfl)).trans rfl) (vwC v) (vwC_len hv) (((unhide M).step hk2).at 5 _ rfl).range ⟨_, rfl, tq_is _ _ _ _ rfl, Kept.refl _ _, fun _ _ _ _ _ => trivial⟩
    | 14, ho, hsk =>
      obtain rfl := Option.some.inj ho
      exact wp_loadA row26 (.tmp 2) rfl b1 0 ((hout 2 (by kernel_rfl)).trans rfl) (vwC v) (vwC_len hv) (((unhide M).step hk2).at 0 _ rfl).range ⟨_, rfl, tq_is _ _ _ _ rfl, Kept.refl _ _, fun _ _ _ _ _ => trivial⟩
    | 15, ho, hsk =>
      obtain rfl := Option.some.inj ho
      have e0 : a'.eval (.tmp 76) = aggV (vwC v) := is_tq (hin 13 76 (by kernel_rfl) (by kernel_rfl)) rfl
      have e1 : a'.eval (.tmp 77) = aggV (vwC v) := is_tq (hin 14 77 (by kernel_rfl) (by kernel_rfl)) rfl
      exact o_eqlA 26 26 guard26 (.tmp 76) (.tmp 77) rfl (vwC v) (vwC v) e0 e1 true ((equal26 _ v v hv hv).trans (by simp)) ⟨_, rfl, tq_is _ _ _ _ rfl, Kept.refl _ _, fun _ _ _ _ _ => trivial⟩
    | 16, ho, hsk =>
      obtain rfl := Option.some.inj ho
      have e0 : a'.eval (.tmp 75) = .bool true := is_tq (hin 12 75 (by kernel_rfl) (by kernel_rfl)) rfl
      have e1 : a'.eval (.tmp 78) = .bool true := is_tq (hin 15 78 (by kernel_rfl) (by kernel_rfl)) rfl
      exact o_pick (.tmp 75) (.tmp 78) rfl _ e0 e1 ⟨_, rfl, tq_is _ _ _ _ rfl, Kept.refl _ _, fun _ _ _ _ _ => trivial⟩
    | 17, ho, hsk =>
      obtain rfl := Option.some.inj ho
      have e0 : a'.eval (.tmp 79) = .bool true := is_tq (hin 16 79 (by kernel_rfl) (by kernel_rfl)) rfl
      exact wp_move (.tmp 79) rfl _ e0 ⟨_, rfl, tq_is _ _ _ _ rfl, Kept.refl _ _, fun _ _ _ _ _ => trivial⟩
    | 18, ho, hsk =>
      obtain rfl := Option.some.inj ho
      refine wp_callF 14 _ _ rfl #[] (by simp) (cg14 _ _) ((known14 _ ((unhide M).step hk2).first).mono ?_)
      rintro e w3 ⟨rfl, hk3⟩
      exact ⟨_, rfl, _, rfl, tq_is _ _ _ _ rfl, hk3, fun _ _ _ _ _ => trivial⟩
    | 19, ho, hsk =>
      obtain rfl := Option.some.inj ho
      have e0 : a'.eval (.tmp 80) = .bool true := is_tq (hin 17 80 (by kernel_rfl) (by kernel_rfl)) rfl
      have e1 : a'.eval (.tmp 81) = .bool true := is_tq (hin 18 81 (by kernel_rfl) (by kernel_rfl)) rfl
      exact o_pick (.tmp 80) (.tmp 81) rfl _ e0 e1 ⟨_, rfl, tq_is _ _ _ _ rfl, Kept.refl _ _, fun _ _ _ _ _ => trivial⟩
    | 20, ho, hsk =>
      obtain rfl := Option.some.inj ho
      have e0 : a'.eval (.tmp 82) = .bool true := is_tq (hin 19 82 (by kernel_rfl) (by kernel_rfl)) rfl
      exact wp_assignV (.tmp 82) rfl _ e0 ⟨_, rfl, tq_is _ _ _ _ rfl, Kept.refl _ _, fun _ _ _ _ _ => trivial⟩
  intro w8 hk8
  replace hk8 : Kept [] W53 w8 := ⟨hk8.os, hk8.tape, hk8.output, hk8.size, hk8.block⟩
  simp only [valsQ, List.map_cons, List.map_nil, Option.getD_some, List.take_succ_cons, List.take_zero, putAll, Act.put, List.setIfInBounds_toArray, List.set_cons_succ, List.set_cons_zero]
  refine wpAny_done (by kernel_rfl) ?_ _
  go_wp2_with fail
  go_ret
  exact ⟨rfl, (unhide M).kept.trans hk8⟩
theorem puts3 (v : Vw) (s : List Int) (w : World) (hF : First w) (hok : v.Ok) (hs : Byts 64 s) : Calls Tryd.prog 3 #[aggV (vwC v), aggV (u8s s)] w fun e w' => e = .returned (.bool true) ∧ Kept [] w w' := by
  cases hm : v.may with
  | false =>
    have hp : putV v = (zs 64, 2) := by unfold putV; rw [if_pos hm]
    exact puts_no v (getV s).1 s (getV s).2 w hF hok.len (getV_len s) hs.len (fun W hW => by have := put8 v W hW hok; rw [hp] at this; exact this) (fun W hW => get9 s W hW hs) (fun W hW => rget10 s W hW hs) (fun W hW => by have := may12 v W hW hok.len; rw [hm] at this; exact this) (fun W hW => by have := rmay13 v W hW hok.len; rw [hm] at this; exact this)
  | true =>
    have hp : (putV v).2 = 0 := by unfold putV; rw [if_neg (by rw [hm]; simp)]; split <;> rfl
    exact puts_yes v (getV s).1 s (putV v).1 (getV s).2 w hF hok.len (getV_len s) hs.len (putV_len v hok.len) (fun W hW => by have := put8 v W hW hok; rw [hp] at this; exact this) (fun W hW => get9 s W hW hs) (fun W hW => rget10 s W hW hs) (fun W hW => by have := may12 v W hW hok.len; rw [hm] at this; exact this) (fun W hW => by have := rmay13 v W hW hok.len; rw [hm] at this; exact this) (fun W hW => by have := get9 (putV v).1 W hW (put_byts hok); rw [get_put hm hok] at this; exact this) (fun W hW => rput15 v W hW hok hm)

end Go.Proofs.YtbpnnbbinhdoiaaDoor
