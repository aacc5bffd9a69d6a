/-
  known: the chapter's rows.
-/
import Derived.Test.YtbpnnbbinhdoiaaDoorVq
import Derived.Test.YtbpnnbbinhdoiaaDoorVo
import Derived.Test.YtbpnnbbinhdoiaaDoorVf
namespace Go.Proofs.YtbpnnbbinhdoiaaDoor
set_option maxRecDepth 100000
open Go.RowKit


theorem cg11 (vs : Array Value) (w : World) : (callFunc 11 vs).run Tryd.prog w = .ok (.enter 11 vs) w := by kernel_rfl
theorem cg25 (vs : Array Value) (w : World) : (callFunc 25 vs).run Tryd.prog w = .ok (.enter 25 vs) w := by kernel_rfl
theorem cg26 (vs : Array Value) (w : World) : (callFunc 26 vs).run Tryd.prog w = .ok (.enter 26 vs) w := by kernel_rfl
section
variable {o : Oper} {a : Act} {w : World} {K : Act → World → Prop} {Q : Exit → Act → World → Prop}
theorem o_fld26_0 (x : Operand) (ho : o.op = .fieldAddr 26 x 0) (b : Nat) (hx : a.eval x = P0 b) (h : K (a.put o.dst (.pointer (some ⟨b, 0, none⟩))) w) : o.wp Tryd.prog a w K Q := by
  unfold Oper.wp execOp
  simp only [ho, hx]
  simp [go_sem]
  exact h
theorem o_fld26_2 (x : Operand) (ho : o.op = .fieldAddr 26 x 2) (b : Nat) (hx : a.eval x = P0 b) (h : K (a.put o.dst (.pointer (some ⟨b, 2, none⟩))) w) : o.wp Tryd.prog a w K Q := by
  unfold Oper.wp execOp
  simp only [ho, hx]
  simp [go_sem]
  exact h
theorem q_load3 (x : Operand) (ho : o.op = .load 3 x) (p : Addr) (v : Value) (hx : a.eval x = .pointer (some p)) (hc : w.cell? p = some v) (h : K (a.put o.dst v) w) : o.wp Tryd.prog a w K Q := by
  unfold Oper.wp execOp
  simp only [ho, hx]
  simp [go_sem, hc]
  exact h
theorem o_eql2 (x : Operand) (c : Int) (ho : o.op = .binOp .eql 2 x (.const (.int .i64 c)) 2) (m : Int) (r : Bool) (hr : decide (m = c) = r) (hx : a.eval x = .int .i64 m) (h : K (a.put o.dst (.bool r)) w) : o.wp Tryd.prog a w K Q := by
  subst hr
  unfold Oper.wp execOp
  simp only [ho, hx]
  simp [go_sem, Act.eval]
  have e : (m == c) = decide (m = c) := by rw [Bool.eq_iff_iff]; simp
  rw [e]
  exact h
end
set_option maxHeartbeats 8000000 in
theorem known_gen (A B C D : Vw) (w : World) (hF : First w) (hA : A.ms.length = 8) (hB : B.ms.length = 8) (hC : C.ms.length = 8) (hD : D.ms.length = 8) (an : A.nu = 1) (bn : B.nu = 2) (bf : B.fd = 0) (df : D.fd = 2)
    (k1 : ∀ W, First W → Calls Tryd.prog 9 #[aggV (u8s (zs 64))] W fun e w' => e = .returned (two (fv, 0)) ∧ Kept [] W w')
    (k2 : ∀ W, First W → Calls Tryd.prog 16 #[aggV (vwC fv), .int .i64 2, .int .i64 1] W fun e w' => e = .returned (two (A, 0)) ∧ Kept [] W w')
    (k3 : ∀ W, First W → Calls Tryd.prog 16 #[aggV (vwC A), .int .i64 0, .int .i64 3] W fun e w' => e = .returned (two (B, 0)) ∧ Kept [] W w')
    (k4 : ∀ W, First W → Calls Tryd.prog 23 #[aggV (vwC B), .int .i64 0] W fun e w' => e = .returned (.tuple #[.int .i64 0, .bool true]) ∧ Kept [] W w')
    (k5 : ∀ W, First W → Calls Tryd.prog 23 #[aggV (vwC B), .int .i64 1] W fun e w' => e = .returned (.tuple #[.int .i64 2, .bool true]) ∧ Kept [] W w')
    (k6 : ∀ W, First W → Calls Tryd.prog 23 #[aggV (vwC B), .int .i64 5] W fun e w' => e = .returned (.tuple #[.int .i64 2, .bool true]) ∧ Kept [] W w')
    (k7 : ∀ W, First W → Calls Tryd.prog 16 #[aggV (vwC B), .int .i64 0, .int .i64 3] W fun e w' => e = .returned (two (zv, 7)) ∧ Kept [] W w')
    (k8 : ∀ W, First W → Calls Tryd.prog 16 #[aggV (vwC B), .int .i64 0, .int .i64 4] W fun e w' => e = .returned (two (C, 0)) ∧ Kept [] W w')
    (k9 : ∀ W, First W → Calls Tryd.prog 18 #[aggV (vwC B), .int .i64 2, .int .i64 0] W fun e w' => e = .returned (two (D, 0)) ∧ Kept [] W w')
    (k10 : ∀ W, First W → Calls Tryd.prog 18 #[aggV (vwC B), .int .i64 2, .int .i64 2] W fun e w' => e = .returned (two (zv, 2)) ∧ Kept [] W w')
    (k11 : ∀ W, First W → Calls Tryd.prog 18 #[aggV (vwC B), .int .i64 2, .int .i64 1] W fun e w' => e = .returned (two (zv, 6)) ∧ Kept [] W w')
    (k12 : ∀ W, First W → Calls Tryd.prog 8 #[aggV (vwC zv)] W fun e w' => e = .returned (.tuple #[aggV (u8s (zs 64)), .int .i64 2]) ∧ Kept [] W w')
    (k13 : ∀ W, First W → Calls Tryd.prog 26 #[aggV (vwC B)] W fun e w' => e = .returned (.int .i64 2) ∧ Kept [] W w')
    (k14 : ∀ W, First W → Calls Tryd.prog 25 #[aggV (vwC C), .int .i64 0, .int .i64 3] W fun e w' => e = .returned (.bool false) ∧ Kept [] W w')
    (k15 : ∀ W, First W → Calls Tryd.prog 25 #[aggV (vwC C), .int .i64 0, .int .i64 4] W fun e w' => e = .returned (.bool true) ∧ Kept [] W w')
    (k16 : ∀ W, First W → Calls Tryd.prog 26 #[aggV (vwC D)] W fun e w' => e = .returned (.int .i64 1) ∧ Kept [] W w') : Calls Tryd.prog 14 #[] w fun e w' => e = .returned (.bool true) ∧ Kept [] w w' := by
  have Hk1 := hide k1
  have Hk2 := hide k2
  have Hk3 := hide k3
  have Hk4 := hide k4
  have Hk5 := hide k5
  have Hk6 := hide k6
  have Hk7 := hide k7
  have Hk8 := hide k8
  have Hk9 := hide k9
  have Hk10 := hide k10
  have Hk11 := hide k11
  have Hk12 := hide k12
  have Hk13 := hide k13
  have Hk14 := hide k14
  have Hk15 := hide k15
  have Hk16 := hide k16
  have HAN := hide an
  have HBN := hide bn
  have HBF := hide bf
  have HDF := hide df
  clear an bn bf df k1 k2 k3 k4 k5 k6 k7 k8 k9 k10 k11 k12 k13 k14 k15 k16
  go_enter Tryd.func14, Tryd.ntmps14
  have M : Hid (Mm w w []) := hide (Mm.init hF)
  go_wp2_with (
    first
    | (refine wpBuildZ (T := 28) (u8s (zs 64)) build28 rfl rfl ?_
       refine Stp.go ?_))
  constructor
  go_wp2_with (
    first
    | (go_at_call 9
       refine (unhide Hk1 _ (unhide M).first).mono ?_
       rintro e W1 ⟨rfl, K1⟩
       replace M : Hid (Mm w W1 []) := hide ((unhide M).step K1)
       clear K1
       refine Stp.go ?_))
  constructor
  go_wp2_with (
    first
    | (refine wpNew row26 (vwC zv) rfl zero26 1 rfl rfl rfl (.tmp 28) rfl rfl rfl (vwC fv) rfl (vwC_one _) (by kernel_rfl) (by kernel_rfl) ?_
       intro W2 b2 e2 B2 K2
       replace M : Hid (Mm w W2 [(b2, 26, vwC fv)]) := hide ((unhide M).new e2 B2 K2)
       clear e2 B2 K2
       refine Stp.go ?_))
  constructor
  go_wp2_with (
    first
    | (refine wpLoadA row26 rfl (.tmp 1) rfl b2 0 rfl (vwC fv) rfl ((unhide M).at 0 _ rfl).range ?_
       refine Stp.go ?_))
  constructor
  go_wp2_with (
    first
    | (go_at_call 16
       refine (unhide Hk2 _ (unhide M).first).mono ?_
       rintro e W3 ⟨rfl, K3⟩
       replace M : Hid (Mm w W3 [(b2, 26, vwC fv)]) := hide ((unhide M).step K3)
       clear K3
       refine Stp.go ?_))
  constructor
  go_wp2_with (
    first
    | (refine wpNew row26 (vwC zv) rfl zero26 3 rfl rfl rfl (.tmp 33) rfl rfl rfl (vwC A) (vwC_len hA) (vwC_one _) (by kernel_rfl) (by kernel_rfl) ?_
       intro W4 b4 e4 B4 K4
       replace M : Hid (Mm w W4 [(b2, 26, vwC fv), (b4, 26, vwC A)]) := hide ((unhide M).new e4 B4 K4)
       clear e4 B4 K4
       refine Stp.go ?_))
  constructor
  go_wp2_with (
    first
    | (refine wpLoadA row26 rfl (.tmp 3) rfl b4 0 rfl (vwC A) (vwC_len hA) ((unhide M).at 1 _ rfl).range ?_
       refine Stp.go ?_))
  constructor
  go_wp2_with (
    first
    | (go_at_call 16
       refine (unhide Hk3 _ (unhide M).first).mono ?_
       rintro e W5 ⟨rfl, K5⟩
       replace M : Hid (Mm w W5 [(b2, 26, vwC fv), (b4, 26, vwC A)]) := hide ((unhide M).step K5)
       clear K5
       refine Stp.go ?_))
  constructor
  go_wp2_with (
    first
    | (refine wpNew row26 (vwC zv) rfl zero26 5 rfl rfl rfl (.tmp 38) rfl rfl rfl (vwC B) (vwC_len hB) (vwC_one _) (by kernel_rfl) (by kernel_rfl) ?_
       intro W6 b6 e6 B6 K6
       replace M : Hid (Mm w W6 [(b2, 26, vwC fv), (b4, 26, vwC A), (b6, 26, vwC B)]) := hide ((unhide M).new e6 B6 K6)
       clear e6 B6 K6
       refine Stp.go ?_))
  constructor
  go_wp2_with (
    first
    | (refine wpLoadA row26 rfl (.tmp 5) rfl b6 0 rfl (vwC B) (vwC_len hB) ((unhide M).at 2 _ rfl).range ?_
       refine Stp.go ?_))
  constructor
  go_wp2_with (
    first
    | (go_at_call 23
       refine (unhide Hk4 _ (unhide M).first).mono ?_
       rintro e W7 ⟨rfl, K7⟩
       replace M : Hid (Mm w W7 [(b2, 26, vwC fv), (b4, 26, vwC A), (b6, 26, vwC B)]) := hide ((unhide M).step K7)
       clear K7
       refine Stp.go ?_))
  constructor
  go_wp2_with (
    first
    | (refine wpLoadA row26 rfl (.tmp 5) rfl b6 0 rfl (vwC B) (vwC_len hB) ((unhide M).at 2 _ rfl).range ?_
       refine Stp.go ?_))
  constructor
  go_wp2_with (
    first
    | (go_at_call 23
       refine (unhide Hk5 _ (unhide M).first).mono ?_
       rintro e W8 ⟨rfl, K8⟩
       replace M : Hid (Mm w W8 [(b2, 26, vwC fv), (b4, 26, vwC A), (b6, 26, vwC B)]) := hide ((unhide M).step K8)
       clear K8
       refine Stp.go ?_))
  constructor
  go_wp2_with (
    first
    | (refine wpLoadA row26 rfl (.tmp 5) rfl b6 0 rfl (vwC B) (vwC_len hB) ((unhide M).at 2 _ rfl).range ?_
       refine Stp.go ?_))
  constructor
  go_wp2_with (
    first
    | (go_at_call 23
       refine (unhide Hk6 _ (unhide M).first).mono ?_
       rintro e W9 ⟨rfl, K9⟩
       replace M : Hid (Mm w W9 [(b2, 26, vwC fv), (b4, 26, vwC A), (b6, 26, vwC B)]) := hide ((unhide M).step K9)
       clear K9
       refine Stp.go ?_))
  constructor
  go_wp2_with (
    first
    | (refine wpLoadA row26 rfl (.tmp 5) rfl b6 0 rfl (vwC B) (vwC_len hB) ((unhide M).at 2 _ rfl).range ?_
       refine Stp.go ?_))
  constructor
  go_wp2_with (
    first
    | (go_at_call 16
       refine (unhide Hk7 _ (unhide M).first).mono ?_
       rintro e W10 ⟨rfl, K10⟩
       replace M : Hid (Mm w W10 [(b2, 26, vwC fv), (b4, 26, vwC A), (b6, 26, vwC B)]) := hide ((unhide M).step K10)
       clear K10
       refine Stp.go ?_))
  constructor
  go_wp2_with (
    first
    | (refine wpNew row26 (vwC zv) rfl zero26 13 rfl rfl rfl (.tmp 58) rfl rfl rfl (vwC zv) rfl (vwC_one _) (by kernel_rfl) (by kernel_rfl) ?_
       intro W11 b11 e11 B11 K11
       replace M : Hid (Mm w W11 [(b2, 26, vwC fv), (b4, 26, vwC A), (b6, 26, vwC B), (b11, 26, vwC zv)]) := hide ((unhide M).new e11 B11 K11)
       clear e11 B11 K11
       refine Stp.go ?_))
  constructor
  go_wp2_with (
    first
    | (refine wpLoadA row26 rfl (.tmp 5) rfl b6 0 rfl (vwC B) (vwC_len hB) ((unhide M).at 2 _ rfl).range ?_
       refine Stp.go ?_))
  constructor
  go_wp2_with (
    first
    | (go_at_call 16
       refine (unhide Hk8 _ (unhide M).first).mono ?_
       rintro e W12 ⟨rfl, K12⟩
       replace M : Hid (Mm w W12 [(b2, 26, vwC fv), (b4, 26, vwC A), (b6, 26, vwC B), (b11, 26, vwC zv)]) := hide ((unhide M).step K12)
       clear K12
       refine Stp.go ?_))
  constructor
  go_wp2_with (
    first
    | (refine wpNew row26 (vwC zv) rfl zero26 15 rfl rfl rfl (.tmp 63) rfl rfl rfl (vwC C) (vwC_len hC) (vwC_one _) (by kernel_rfl) (by kernel_rfl) ?_
       intro W13 b13 e13 B13 K13
       replace M : Hid (Mm w W13 [(b2, 26, vwC fv), (b4, 26, vwC A), (b6, 26, vwC B), (b11, 26, vwC zv), (b13, 26, vwC C)]) := hide ((unhide M).new e13 B13 K13)
       clear e13 B13 K13
       refine Stp.go ?_))
  constructor
  go_wp2_with (
    first
    | (refine wpLoadA row26 rfl (.tmp 5) rfl b6 0 rfl (vwC B) (vwC_len hB) ((unhide M).at 2 _ rfl).range ?_
       refine Stp.go ?_))
  constructor
  go_wp2_with (
    first
    | (go_at_call 18
       refine (unhide Hk9 _ (unhide M).first).mono ?_
       rintro e W14 ⟨rfl, K14⟩
       replace M : Hid (Mm w W14 [(b2, 26, vwC fv), (b4, 26, vwC A), (b6, 26, vwC B), (b11, 26, vwC zv), (b13, 26, vwC C)]) := hide ((unhide M).step K14)
       clear K14
       refine Stp.go ?_))
  constructor
  go_wp2_with (
    first
    | (refine wpNew row26 (vwC zv) rfl zero26 17 rfl rfl rfl (.tmp 68) rfl rfl rfl (vwC D) (vwC_len hD) (vwC_one _) (by kernel_rfl) (by kernel_rfl) ?_
       intro W15 b15 e15 B15 K15
       replace M : Hid (Mm w W15 [(b2, 26, vwC fv), (b4, 26, vwC A), (b6, 26, vwC B), (b11, 26, vwC zv), (b13, 26, vwC C), (b15, 26, vwC D)]) := hide ((unhide M).new e15 B15 K15)
       clear e15 B15 K15
       refine Stp.go ?_))
  constructor
  go_wp2_with (
    first
    | (refine wpLoadA row26 rfl (.tmp 5) rfl b6 0 rfl (vwC B) (vwC_len hB) ((unhide M).at 2 _ rfl).range ?_
       refine Stp.go ?_))
  constructor
  go_wp2_with (
    first
    | (go_at_call 18
       refine (unhide Hk10 _ (unhide M).first).mono ?_
       rintro e W16 ⟨rfl, K16⟩
       replace M : Hid (Mm w W16 [(b2, 26, vwC fv), (b4, 26, vwC A), (b6, 26, vwC B), (b11, 26, vwC zv), (b13, 26, vwC C), (b15, 26, vwC D)]) := hide ((unhide M).step K16)
       clear K16
       refine Stp.go ?_))
  constructor
  go_wp2_with (
    first
    | (refine wpNew row26 (vwC zv) rfl zero26 19 rfl rfl rfl (.tmp 73) rfl rfl rfl (vwC zv) rfl (vwC_one _) (by kernel_rfl) (by kernel_rfl) ?_
       intro W17 b17 e17 B17 K17
       replace M : Hid (Mm w W17 [(b2, 26, vwC fv), (b4, 26, vwC A), (b6, 26, vwC B), (b11, 26, vwC zv), (b13, 26, vwC C), (b15, 26, vwC D), (b17, 26, vwC zv)]) := hide ((unhide M).new e17 B17 K17)
       clear e17 B17 K17
       refine Stp.go ?_))
  constructor
  go_wp2_with (
    first
    | (refine wpLoadA row26 rfl (.tmp 5) rfl b6 0 rfl (vwC B) (vwC_len hB) ((unhide M).at 2 _ rfl).range ?_
       refine Stp.go ?_))
  constructor
  go_wp2_with (
    first
    | (go_at_call 18
       refine (unhide Hk11 _ (unhide M).first).mono ?_
       rintro e W18 ⟨rfl, K18⟩
       replace M : Hid (Mm w W18 [(b2, 26, vwC fv), (b4, 26, vwC A), (b6, 26, vwC B), (b11, 26, vwC zv), (b13, 26, vwC C), (b15, 26, vwC D), (b17, 26, vwC zv)]) := hide ((unhide M).step K18)
       clear K18
       refine Stp.go ?_))
  constructor
  go_wp2_with (
    first
    | (refine wpNew row26 (vwC zv) rfl zero26 21 rfl rfl rfl (.tmp 78) rfl rfl rfl (vwC zv) rfl (vwC_one _) (by kernel_rfl) (by kernel_rfl) ?_
       intro W19 b19 e19 B19 K19
       replace M : Hid (Mm w W19 [(b2, 26, vwC fv), (b4, 26, vwC A), (b6, 26, vwC B), (b11, 26, vwC zv), (b13, 26, vwC C), (b15, 26, vwC D), (b17, 26, vwC zv), (b19, 26, vwC zv)]) := hide ((unhide M).new e19 B19 K19)
       clear e19 B19 K19
       refine Stp.go ?_))
  constructor
  go_wp2_with (
    first
    | (refine wpBuildZ (T := 26) (vwC zv) build26 rfl rfl ?_
       refine Stp.go ?_))
  constructor
  go_wp2_with (
    first
    | (go_at_call 8
       refine (unhide Hk12 _ (unhide M).first).mono ?_
       rintro e W20 ⟨rfl, K20⟩
       replace M : Hid (Mm w W20 [(b2, 26, vwC fv), (b4, 26, vwC A), (b6, 26, vwC B), (b11, 26, vwC zv), (b13, 26, vwC C), (b15, 26, vwC D), (b17, 26, vwC zv), (b19, 26, vwC zv)]) := hide ((unhide M).step K20)
       clear K20
       refine Stp.go ?_))
  constructor
  go_wp2_with (
    first
    | (refine wpNew row28 (u8s (zs 64)) (zl 64) zero28 23 rfl rfl rfl (.tmp 83) rfl rfl rfl (u8s (zs 64)) (zl 64) (u8s_one _) (by kernel_rfl) (by kernel_rfl) ?_
       intro W21 b21 e21 B21 K21
       replace M : Hid (Mm w W21 [(b2, 26, vwC fv), (b4, 26, vwC A), (b6, 26, vwC B), (b11, 26, vwC zv), (b13, 26, vwC C), (b15, 26, vwC D), (b17, 26, vwC zv), (b19, 26, vwC zv), (b21, 28, u8s (zs 64))]) := hide ((unhide M).new e21 B21 K21)
       clear e21 B21 K21
       refine Stp.go ?_))
  constructor
  go_wp2_with fail
  simp only [List.append_eq, List.cons_append, List.nil_append]
  refine wp_region_any mixed (wpAny_tq 92 rfl (by kernel_rfl) [some (.int .i64 0), some (.int .i64 0), some (.int .i64 0), some (.int .i64 0), some (.int .i64 0), some (.int .i64 0), some (.int .i64 0), some (.int .i64 0), some (.int .i64 0), some (.int .i64 0), some (.int .i64 0), some (.int .i64 0), some (.int .i64 0), some (.int .i64 0), some (.bool true), some (.bool true), some (aggV (vwC fv)), some (aggV (vwC fv)), some (.bool true), some (.bool true), some (.bool true), some (.pointer (some ⟨b4, 0, none⟩)), some (.int .i64 1), some (.bool true), some (.bool true), some (.bool true), some (.pointer (some ⟨b6, 0, none⟩)), some (.int .i64 2), some (.bool true), some (.bool true), some (.bool true), some (.pointer (some ⟨b6, 2, none⟩)), some (.int .i64 0), some (.bool true), some (.bool true), some (.bool true), some (aggV (vwC B)), some (.int .i64 2), some (.bool true), some (.bool true), some (.bool true), some (.int .i64 0), some (.bool true), some (.bool true), some (.bool true), some (.int .i64 2), some (.bool true), some (.bool true), some (.bool true), some (.int .i64 2), some (.bool true), some (.bool true), some (.bool true), some (.int .i64 7), some (.int .i64 7), some (.bool true), some (.bool true), some (.bool true), some (aggV (vwC C)), some (.bool false), some (.bool true), some (.bool true), some (.bool true), some (aggV (vwC C)), some (.bool true), some (.bool true), some (.bool true), some (.pointer (some ⟨b15, 2, none⟩)), some (.int .i64 2), some (.bool true), some (.bool true), some (.bool true), some (aggV (vwC D)), some (.int .i64 1), some (.bool true), some (.bool true), some (.bool true), some (.int .i64 2), some (.int .i64 2), some (.bool true), some (.bool true), some (.bool true), some (.int .i64 6), some (.int .i64 6), some (.bool true), some (.bool true), some (.bool true), some (.int .i64 2), some (.int .i64 2), some (.bool true), some (.bool true), some (.bool true)] rfl (by kernel_rfl) (by kernel_rfl) ?_ ?_)
  · intro i o' hi hsk ho a' w2 hout hin hk2
    replace hk2 : Kept [] W21 w2 := ⟨hk2.os, hk2.tape, hk2.output, hk2.size, hk2.block⟩
    match i, ho, hsk with
    | 0, ho, hsk =>
      obtain rfl := Option.some.inj ho
      exact wp_move (.tmp 2) rfl _ ((hout 2 (by kernel_rfl)).trans rfl) ⟨_, rfl, tq_is _ _ _ _ rfl, Kept.refl _ _, fun _ _ _ _ _ => trivial⟩
    | 1, ho, hsk =>
      obtain rfl := Option.some.inj ho
      have e0 : a'.eval (.tmp 85) = .int .i64 0 := is_tq (hin 0 85 (by kernel_rfl) (by kernel_rfl)) rfl
      refine wp_callF 11 _ _ rfl #[.int .i64 0] (by simp [e0]) (cg11 _ _) ((num11 _ _).mono ?_)
      rintro e w3 ⟨rfl, rfl⟩
      exact ⟨_, rfl, _, rfl, tq_is _ _ _ _ rfl, Kept.refl _ _, fun _ _ _ _ _ => trivial⟩
    | 2, ho, hsk =>
      obtain rfl := Option.some.inj ho
      exact wp_move (.tmp 4) rfl _ ((hout 4 (by kernel_rfl)).trans rfl) ⟨_, rfl, tq_is _ _ _ _ rfl, Kept.refl _ _, fun _ _ _ _ _ => trivial⟩
    | 3, ho, hsk =>
      obtain rfl := Option.some.inj ho
      have e0 : a'.eval (.tmp 87) = .int .i64 0 := is_tq (hin 2 87 (by kernel_rfl) (by kernel_rfl)) rfl
      refine wp_callF 11 _ _ rfl #[.int .i64 0] (by simp [e0]) (cg11 _ _) ((num11 _ _).mono ?_)
      rintro e w3 ⟨rfl, rfl⟩
      exact ⟨_, rfl, _, rfl, tq_is _ _ _ _ rfl, Kept.refl _ _, fun _ _ _ _ _ => trivial⟩
    | 4, ho, hsk =>
      obtain rfl := Option.some.inj ho
      have e0 : a'.eval (.tmp 86) = .int .i64 0 := is_tq (hin 1 86 (by kernel_rfl) (by kernel_rfl)) rfl
      have e1 : a'.eval (.tmp 88) = .int .i64 0 := is_tq (hin 3 88 (by kernel_rfl) (by kernel_rfl)) rfl
      exact o_add3 (.tmp 86) (.tmp 88) rfl 0 0 (by omega) e0 e1 ⟨_, rfl, tq_is _ _ _ _ rfl, Kept.refl _ _, fun _ _ _ _ _ => trivial⟩
    | 5, ho, hsk =>
      obtain rfl := Option.some.inj ho
      exact wp_move (.tmp 6) rfl _ ((hout 6 (by kernel_rfl)).trans rfl) ⟨_, rfl, tq_is _ _ _ _ rfl, Kept.refl _ _, fun _ _ _ _ _ => trivial⟩
    | 6, ho, hsk =>
      obtain rfl := Option.some.inj ho
      have e0 : a'.eval (.tmp 90) = .int .i64 0 := is_tq (hin 5 90 (by kernel_rfl) (by kernel_rfl)) rfl
      refine wp_callF 11 _ _ rfl #[.int .i64 0] (by simp [e0]) (cg11 _ _) ((num11 _ _).mono ?_)
      rintro e w3 ⟨rfl, rfl⟩
      exact ⟨_, rfl, _, rfl, tq_is _ _ _ _ rfl, Kept.refl _ _, fun _ _ _ _ _ => trivial⟩
    | 7, ho, hsk =>
      obtain rfl := Option.some.inj ho
      have e0 : a'.eval (.tmp 89) = .int .i64 0 := is_tq (hin 4 89 (by kernel_rfl) (by kernel_rfl)) rfl
      have e1 : a'.eval (.tmp 91) = .int .i64 0 := is_tq (hin 6 91 (by kernel_rfl) (by kernel_rfl)) rfl
      exact o_add3 (.tmp 89) (.tmp 91) rfl 0 0 (by omega) e0 e1 ⟨_, rfl, tq_is _ _ _ _ rfl, Kept.refl _ _, fun _ _ _ _ _ => trivial⟩
    | 8, ho, hsk =>
      obtain rfl := Option.some.inj ho
      exact wp_move (.tmp 16) rfl _ ((hout 16 (by kernel_rfl)).trans rfl) ⟨_, rfl, tq_is _ _ _ _ rfl, Kept.refl _ _, fun _ _ _ _ _ => trivial⟩
    | 9, ho, hsk =>
      obtain rfl := Option.some.inj ho
      have e0 : a'.eval (.tmp 93) = .int .i64 0 := is_tq (hin 8 93 (by kernel_rfl) (by kernel_rfl)) rfl
      refine wp_callF 11 _ _ rfl #[.int .i64 0] (by simp [e0]) (cg11 _ _) ((num11 _ _).mono ?_)
      rintro e w3 ⟨rfl, rfl⟩
      exact ⟨_, rfl, _, rfl, tq_is _ _ _ _ rfl, Kept.refl _ _, fun _ _ _ _ _ => trivial⟩
    | 10, ho, hsk =>
      obtain rfl := Option.some.inj ho
      have e0 : a'.eval (.tmp 92) = .int .i64 0 := is_tq (hin 7 92 (by kernel_rfl) (by kernel_rfl)) rfl
      have e1 : a'.eval (.tmp 94) = .int .i64 0 := is_tq (hin 9 94 (by kernel_rfl) (by kernel_rfl)) rfl
      exact o_add3 (.tmp 92) (.tmp 94) rfl 0 0 (by omega) e0 e1 ⟨_, rfl, tq_is _ _ _ _ rfl, Kept.refl _ _, fun _ _ _ _ _ => trivial⟩
    | 11, ho, hsk =>
      obtain rfl := Option.some.inj ho
      exact wp_move (.tmp 18) rfl _ ((hout 18 (by kernel_rfl)).trans rfl) ⟨_, rfl, tq_is _ _ _ _ rfl, Kept.refl _ _, fun _ _ _ _ _ => trivial⟩
    | 12, ho, hsk =>
      obtain rfl := Option.some.inj ho
      have e0 : a'.eval (.tmp 96) = .int .i64 0 := is_tq (hin 11 96 (by kernel_rfl) (by kernel_rfl)) rfl
      refine wp_callF 11 _ _ rfl #[.int .i64 0] (by simp [e0]) (cg11 _ _) ((num11 _ _).mono ?_)
      rintro e w3 ⟨rfl, rfl⟩
      exact ⟨_, rfl, _, rfl, tq_is _ _ _ _ rfl, Kept.refl _ _, fun _ _ _ _ _ => trivial⟩
    | 13, ho, hsk =>
      obtain rfl := Option.some.inj ho
      have e0 : a'.eval (.tmp 95) = .int .i64 0 := is_tq (hin 10 95 (by kernel_rfl) (by kernel_rfl)) rfl
      have e1 : a'.eval (.tmp 97) = .int .i64 0 := is_tq (hin 12 97 (by kernel_rfl) (by kernel_rfl)) rfl
      exact o_add3 (.tmp 95) (.tmp 97) rfl 0 0 (by omega) e0 e1 ⟨_, rfl, tq_is _ _ _ _ rfl, Kept.refl _ _, fun _ _ _ _ _ => trivial⟩
    | 14, ho, hsk =>
      obtain rfl := Option.some.inj ho
      have e0 : a'.eval (.tmp 98) = .int .i64 0 := is_tq (hin 13 98 (by kernel_rfl) (by kernel_rfl)) rfl
      exact o_eql3 (.tmp 98) 0 rfl _ true (by simp) e0 ⟨_, rfl, tq_is _ _ _ _ rfl, Kept.refl _ _, fun _ _ _ _ _ => trivial⟩
    | 15, ho, hsk =>
      obtain rfl := Option.some.inj ho
      have e0 : a'.eval (.tmp 99) = .bool true := is_tq (hin 14 99 (by kernel_rfl) (by kernel_rfl)) rfl
      exact wp_move (.tmp 99) rfl _ e0 ⟨_, rfl, tq_is _ _ _ _ rfl, Kept.refl _ _, fun _ _ _ _ _ => trivial⟩
    | 16, ho, hsk =>
      obtain rfl := Option.some.inj ho
      exact wp_loadA row26 (.tmp 1) rfl b2 0 ((hout 1 (by kernel_rfl)).trans rfl) (vwC fv) rfl (((unhide M).step hk2).at 0 _ rfl).range ⟨_, rfl, tq_is _ _ _ _ rfl, Kept.refl _ _, fun _ _ _ _ _ => trivial⟩
    | 17, ho, hsk =>
      obtain rfl := Option.some.inj ho
      refine wp_callF 31 _ _ rfl #[] (by simp) (cg31 _ _) ((first31 _).mono ?_)
      rintro e w3 ⟨rfl, hk3⟩
      exact ⟨_, rfl, _, rfl, tq_is _ _ _ _ rfl, hk3, fun _ _ _ _ _ => trivial⟩
    | 18, ho, hsk =>
      obtain rfl := Option.some.inj ho
      have e0 : a'.eval (.tmp 101) = aggV (vwC fv) := is_tq (hin 16 101 (by kernel_rfl) (by kernel_rfl)) rfl
      have e1 : a'.eval (.tmp 102) = aggV (vwC fv) := is_tq (hin 17 102 (by kernel_rfl) (by kernel_rfl)) rfl
      exact o_eqlA 26 26 guard26 (.tmp 101) (.tmp 102) rfl (vwC fv) (vwC fv) e0 e1 true ((equal26 _ fv fv rfl rfl).trans (by simp)) ⟨_, rfl, tq_is _ _ _ _ rfl, Kept.refl _ _, fun _ _ _ _ _ => trivial⟩
    | 19, ho, hsk =>
      obtain rfl := Option.some.inj ho
      have e0 : a'.eval (.tmp 100) = .bool true := is_tq (hin 15 100 (by kernel_rfl) (by kernel_rfl)) rfl
      have e1 : a'.eval (.tmp 103) = .bool true := is_tq (hin 18 103 (by kernel_rfl) (by kernel_rfl)) rfl
      exact o_pick (.tmp 100) (.tmp 103) rfl _ e0 e1 ⟨_, rfl, tq_is _ _ _ _ rfl, Kept.refl _ _, fun _ _ _ _ _ => trivial⟩
    | 20, ho, hsk =>
      obtain rfl := Option.some.inj ho
      have e0 : a'.eval (.tmp 104) = .bool true := is_tq (hin 19 104 (by kernel_rfl) (by kernel_rfl)) rfl
      exact wp_move (.tmp 104) rfl _ e0 ⟨_, rfl, tq_is _ _ _ _ rfl, Kept.refl _ _, fun _ _ _ _ _ => trivial⟩
    | 21, ho, hsk =>
      obtain rfl := Option.some.inj ho
      exact o_fld26_0 (.tmp 3) rfl b4 ((hout 3 (by kernel_rfl)).trans rfl) ⟨_, rfl, tq_is _ _ _ _ rfl, Kept.refl _ _, fun _ _ _ _ _ => trivial⟩
    | 22, ho, hsk =>
      obtain rfl := Option.some.inj ho
      have e0 : a'.eval (.tmp 106) = .pointer (some ⟨b4, 0, none⟩) := is_tq (hin 21 106 (by kernel_rfl) (by kernel_rfl)) rfl
      exact o_load2 (.tmp 106) rfl _ _ e0 (by have h9 := fits_cell (((unhide M).step hk2).at 1 _ rfl) 0 _ rfl; rw [unhide HAN] at h9; exact h9) ⟨_, rfl, tq_is _ _ _ _ rfl, Kept.refl _ _, fun _ _ _ _ _ => trivial⟩
    | 23, ho, hsk =>
      obtain rfl := Option.some.inj ho
      have e0 : a'.eval (.tmp 107) = .int .i64 1 := is_tq (hin 22 107 (by kernel_rfl) (by kernel_rfl)) rfl
      exact o_eql2 (.tmp 107) 1 rfl _ true (by simp) e0 ⟨_, rfl, tq_is _ _ _ _ rfl, Kept.refl _ _, fun _ _ _ _ _ => trivial⟩
    | 24, ho, hsk =>
      obtain rfl := Option.some.inj ho
      have e0 : a'.eval (.tmp 105) = .bool true := is_tq (hin 20 105 (by kernel_rfl) (by kernel_rfl)) rfl
      have e1 : a'.eval (.tmp 108) = .bool true := is_tq (hin 23 108 (by kernel_rfl) (by kernel_rfl)) rfl
      exact o_pick (.tmp 105) (.tmp 108) rfl _ e0 e1 ⟨_, rfl, tq_is _ _ _ _ rfl, Kept.refl _ _, fun _ _ _ _ _ => trivial⟩
    | 25, ho, hsk =>
      obtain rfl := Option.some.inj ho
      have e0 : a'.eval (.tmp 109) = .bool true := is_tq (hin 24 109 (by kernel_rfl) (by kernel_rfl)) rfl
      exact wp_move (.tmp 109) rfl _ e0 ⟨_, rfl, tq_is _ _ _ _ rfl, Kept.refl _ _, fun _ _ _ _ _ => trivial⟩
    | 26, ho, hsk =>
      obtain rfl := Option.some.inj ho
      exact o_fld26_0 (.tmp 5) rfl b6 ((hout 5 (by kernel_rfl)).trans rfl) ⟨_, rfl, tq_is _ _ _ _ rfl, Kept.refl _ _, fun _ _ _ _ _ => trivial⟩
    | 27, ho, hsk =>
      obtain rfl := Option.some.inj ho
      have e0 : a'.eval (.tmp 111) = .pointer (some ⟨b6, 0, none⟩) := is_tq (hin 26 111 (by kernel_rfl) (by kernel_rfl)) rfl
      exact o_load2 (.tmp 111) rfl _ _ e0 (by have h9 := fits_cell (((unhide M).step hk2).at 2 _ rfl) 0 _ rfl; rw [unhide HBN] at h9; exact h9) ⟨_, rfl, tq_is _ _ _ _ rfl, Kept.refl _ _, fun _ _ _ _ _ => trivial⟩
    | 28, ho, hsk =>
      obtain rfl := Option.some.inj ho
      have e0 : a'.eval (.tmp 112) = .int .i64 2 := is_tq (hin 27 112 (by kernel_rfl) (by kernel_rfl)) rfl
      exact o_eql2 (.tmp 112) 2 rfl _ true (by simp) e0 ⟨_, rfl, tq_is _ _ _ _ rfl, Kept.refl _ _, fun _ _ _ _ _ => trivial⟩
    | 29, ho, hsk =>
      obtain rfl := Option.some.inj ho
      have e0 : a'.eval (.tmp 110) = .bool true := is_tq (hin 25 110 (by kernel_rfl) (by kernel_rfl)) rfl
      have e1 : a'.eval (.tmp 113) = .bool true := is_tq (hin 28 113 (by kernel_rfl) (by kernel_rfl)) rfl
      exact o_pick (.tmp 110) (.tmp 113) rfl _ e0 e1 ⟨_, rfl, tq_is _ _ _ _ rfl, Kept.refl _ _, fun _ _ _ _ _ => trivial⟩
    | 30, ho, hsk =>
      obtain rfl := Option.some.inj ho
      have e0 : a'.eval (.tmp 114) = .bool true := is_tq (hin 29 114 (by kernel_rfl) (by kernel_rfl)) rfl
      exact wp_move (.tmp 114) rfl _ e0 ⟨_, rfl, tq_is _ _ _ _ rfl, Kept.refl _ _, fun _ _ _ _ _ => trivial⟩
    | 31, ho, hsk =>
      obtain rfl := Option.some.inj ho
      exact o_fld26_2 (.tmp 5) rfl b6 ((hout 5 (by kernel_rfl)).trans rfl) ⟨_, rfl, tq_is _ _ _ _ rfl, Kept.refl _ _, fun _ _ _ _ _ => trivial⟩
    | 32, ho, hsk =>
      obtain rfl := Option.some.inj ho
      have e0 : a'.eval (.tmp 116) = .pointer (some ⟨b6, 2, none⟩) := is_tq (hin 31 116 (by kernel_rfl) (by kernel_rfl)) rfl
      exact q_load3 (.tmp 116) rfl _ _ e0 (by have h9 := fits_cell (((unhide M).step hk2).at 2 _ rfl) 2 _ rfl; rw [unhide HBF] at h9; exact h9) ⟨_, rfl, tq_is _ _ _ _ rfl, Kept.refl _ _, fun _ _ _ _ _ => trivial⟩
    | 33, ho, hsk =>
      obtain rfl := Option.some.inj ho
      have e0 : a'.eval (.tmp 117) = .int .i64 0 := is_tq (hin 32 117 (by kernel_rfl) (by kernel_rfl)) rfl
      exact o_eql3 (.tmp 117) 0 rfl _ true (by simp) e0 ⟨_, rfl, tq_is _ _ _ _ rfl, Kept.refl _ _, fun _ _ _ _ _ => trivial⟩
    | 34, ho, hsk =>
      obtain rfl := Option.some.inj ho
      have e0 : a'.eval (.tmp 115) = .bool true := is_tq (hin 30 115 (by kernel_rfl) (by kernel_rfl)) rfl
      have e1 : a'.eval (.tmp 118) = .bool true := is_tq (hin 33 118 (by kernel_rfl) (by kernel_rfl)) rfl
      exact o_pick (.tmp 115) (.tmp 118) rfl _ e0 e1 ⟨_, rfl, tq_is _ _ _ _ rfl, Kept.refl _ _, fun _ _ _ _ _ => trivial⟩
    | 35, ho, hsk =>
      obtain rfl := Option.some.inj ho
      have e0 : a'.eval (.tmp 119) = .bool true := is_tq (hin 34 119 (by kernel_rfl) (by kernel_rfl)) rfl
      exact wp_move (.tmp 119) rfl _ e0 ⟨_, rfl, tq_is _ _ _ _ rfl, Kept.refl _ _, fun _ _ _ _ _ => trivial⟩
    | 36, ho, hsk =>
      obtain rfl := Option.some.inj ho
      exact wp_loadA row26 (.tmp 5) rfl b6 0 ((hout 5 (by kernel_rfl)).trans rfl) (vwC B) (vwC_len hB) (((unhide M).step hk2).at 2 _ rfl).range ⟨_, rfl, tq_is _ _ _ _ rfl, Kept.refl _ _, fun _ _ _ _ _ => trivial⟩
    | 37, ho, hsk =>
      obtain rfl := Option.some.inj ho
      have e0 : a'.eval (.tmp 121) = aggV (vwC B) := is_tq (hin 36 121 (by kernel_rfl) (by kernel_rfl)) rfl
      refine wp_callF 26 _ _ rfl #[aggV (vwC B)] (by simp [e0]) (cg26 _ _) ((unhide Hk13 _ ((unhide M).step hk2).first).mono ?_)
      rintro e w3 ⟨rfl, hk3⟩
      exact ⟨_, rfl, _, rfl, tq_is _ _ _ _ rfl, hk3, fun _ _ _ _ _ => trivial⟩
    | 38, ho, hsk =>
      obtain rfl := Option.some.inj ho
      have e0 : a'.eval (.tmp 122) = .int .i64 2 := is_tq (hin 37 122 (by kernel_rfl) (by kernel_rfl)) rfl
      exact o_eql3 (.tmp 122) 2 rfl _ true (by simp) e0 ⟨_, rfl, tq_is _ _ _ _ rfl, Kept.refl _ _, fun _ _ _ _ _ => trivial⟩
    | 39, ho, hsk =>
      obtain rfl := Option.some.inj ho
      have e0 : a'.eval (.tmp 120) = .bool true := is_tq (hin 35 120 (by kernel_rfl) (by kernel_rfl)) rfl
      have e1 : a'.eval (.tmp 123) = .bool true := is_tq (hin 38 123 (by kernel_rfl) (by kernel_rfl)) rfl
      exact o_pick (.tmp 120) (.tmp 123) rfl _ e0 e1 ⟨_, rfl, tq_is _ _ _ _ rfl, Kept.refl _ _, fun _ _ _ _ _ => trivial⟩
    | 40, ho, hsk =>
      obtain rfl := Option.some.inj ho
      have e0 : a'.eval (.tmp 124) = .bool true := is_tq (hin 39 124 (by kernel_rfl) (by kernel_rfl)) rfl
      exact wp_move (.tmp 124) rfl _ e0 ⟨_, rfl, tq_is _ _ _ _ rfl, Kept.refl _ _, fun _ _ _ _ _ => trivial⟩
    | 41, ho, hsk =>
      obtain rfl := Option.some.inj ho
      exact wp_move (.tmp 7) rfl _ ((hout 7 (by kernel_rfl)).trans rfl) ⟨_, rfl, tq_is _ _ _ _ rfl, Kept.refl _ _, fun _ _ _ _ _ => trivial⟩
    | 42, ho, hsk =>
      obtain rfl := Option.some.inj ho
      have e0 : a'.eval (.tmp 126) = .int .i64 0 := is_tq (hin 41 126 (by kernel_rfl) (by kernel_rfl)) rfl
      exact o_eql3 (.tmp 126) 0 rfl _ true (by simp) e0 ⟨_, rfl, tq_is _ _ _ _ rfl, Kept.refl _ _, fun _ _ _ _ _ => trivial⟩
    | 43, ho, hsk =>
      obtain rfl := Option.some.inj ho
      have e0 : a'.eval (.tmp 125) = .bool true := is_tq (hin 40 125 (by kernel_rfl) (by kernel_rfl)) rfl
      have e1 : a'.eval (.tmp 127) = .bool true := is_tq (hin 42 127 (by kernel_rfl) (by kernel_rfl)) rfl
      exact o_pick (.tmp 125) (.tmp 127) rfl _ e0 e1 ⟨_, rfl, tq_is _ _ _ _ rfl, Kept.refl _ _, fun _ _ _ _ _ => trivial⟩
    | 44, ho, hsk =>
      obtain rfl := Option.some.inj ho
      have e0 : a'.eval (.tmp 128) = .bool true := is_tq (hin 43 128 (by kernel_rfl) (by kernel_rfl)) rfl
      exact wp_move (.tmp 128) rfl _ e0 ⟨_, rfl, tq_is _ _ _ _ rfl, Kept.refl _ _, fun _ _ _ _ _ => trivial⟩
    | 45, ho, hsk =>
      obtain rfl := Option.some.inj ho
      exact wp_move (.tmp 9) rfl _ ((hout 9 (by kernel_rfl)).trans rfl) ⟨_, rfl, tq_is _ _ _ _ rfl, Kept.refl _ _, fun _ _ _ _ _ => trivial⟩
    | 46, ho, hsk =>
      obtain rfl := Option.some.inj ho
      have e0 : a'.eval (.tmp 130) = .int .i64 2 := is_tq (hin 45 130 (by kernel_rfl) (by kernel_rfl)) rfl
      exact o_eql3 (.tmp 130) 2 rfl _ true (by simp) e0 ⟨_, rfl, tq_is _ _ _ _ rfl, Kept.refl _ _, fun _ _ _ _ _ => trivial⟩
    | 47, ho, hsk =>
      obtain rfl := Option.some.inj ho
      have e0 : a'.eval (.tmp 129) = .bool true := is_tq (hin 44 129 (by kernel_rfl) (by kernel_rfl)) rfl
      have e1 : a'.eval (.tmp 131) = .bool true := is_tq (hin 46 131 (by kernel_rfl) (by kernel_rfl)) rfl
      exact o_pick (.tmp 129) (.tmp 131) rfl _ e0 e1 ⟨_, rfl, tq_is _ _ _ _ rfl, Kept.refl _ _, fun _ _ _ _ _ => trivial⟩
    | 48, ho, hsk =>
      obtain rfl := Option.some.inj ho
      have e0 : a'.eval (.tmp 132) = .bool true := is_tq (hin 47 132 (by kernel_rfl) (by kernel_rfl)) rfl
      exact wp_move (.tmp 132) rfl _ e0 ⟨_, rfl, tq_is _ _ _ _ rfl, Kept.refl _ _, fun _ _ _ _ _ => trivial⟩
    | 49, ho, hsk =>
      obtain rfl := Option.some.inj ho
      exact wp_move (.tmp 11) rfl _ ((hout 11 (by kernel_rfl)).trans rfl) ⟨_, rfl, tq_is _ _ _ _ rfl, Kept.refl _ _, fun _ _ _ _ _ => trivial⟩
    | 50, ho, hsk =>
      obtain rfl := Option.some.inj ho
      have e0 : a'.eval (.tmp 134) = .int .i64 2 := is_tq (hin 49 134 (by kernel_rfl) (by kernel_rfl)) rfl
      exact o_eql3 (.tmp 134) 2 rfl _ true (by simp) e0 ⟨_, rfl, tq_is _ _ _ _ rfl, Kept.refl _ _, fun _ _ _ _ _ => trivial⟩
    | 51, ho, hsk =>
      obtain rfl := Option.some.inj ho
      have e0 : a'.eval (.tmp 133) = .bool true := is_tq (hin 48 133 (by kernel_rfl) (by kernel_rfl)) rfl
      have e1 : a'.eval (.tmp 135) = .bool true := is_tq (hin 50 135 (by kernel_rfl) (by kernel_rfl)) rfl
      exact o_pick (.tmp 133) (.tmp 135) rfl _ e0 e1 ⟨_, rfl, tq_is _ _ _ _ rfl, Kept.refl _ _, fun _ _ _ _ _ => trivial⟩
    | 52, ho, hsk =>
      obtain rfl := Option.some.inj ho
      have e0 : a'.eval (.tmp 136) = .bool true := is_tq (hin 51 136 (by kernel_rfl) (by kernel_rfl)) rfl
      exact wp_move (.tmp 136) rfl _ e0 ⟨_, rfl, tq_is _ _ _ _ rfl, Kept.refl _ _, fun _ _ _ _ _ => trivial⟩
    | 53, ho, hsk =>
      obtain rfl := Option.some.inj ho
      exact wp_move (.tmp 14) rfl _ ((hout 14 (by kernel_rfl)).trans rfl) ⟨_, rfl, tq_is _ _ _ _ rfl, Kept.refl _ _, fun _ _ _ _ _ => trivial⟩
    | 54, ho, hsk =>
      obtain rfl := Option.some.inj ho
      have e0 : a'.eval (.tmp 138) = .int .i64 7 := is_tq (hin 53 138 (by kernel_rfl) (by kernel_rfl)) rfl
      refine wp_callF 11 _ _ rfl #[.int .i64 7] (by simp [e0]) (cg11 _ _) ((num11 _ _).mono ?_)
      rintro e w3 ⟨rfl, rfl⟩
      exact ⟨_, rfl, _, rfl, tq_is _ _ _ _ rfl, Kept.refl _ _, fun _ _ _ _ _ => trivial⟩
    | 55, ho, hsk =>
      obtain rfl := Option.some.inj ho
      have e0 : a'.eval (.tmp 139) = .int .i64 7 := is_tq (hin 54 139 (by kernel_rfl) (by kernel_rfl)) rfl
      exact o_eql3 (.tmp 139) 7 rfl _ true (by simp) e0 ⟨_, rfl, tq_is _ _ _ _ rfl, Kept.refl _ _, fun _ _ _ _ _ => trivial⟩
    | 56, ho, hsk =>
      obtain rfl := Option.some.inj ho
      have e0 : a'.eval (.tmp 137) = .bool true := is_tq (hin 52 137 (by kernel_rfl) (by kernel_rfl)) rfl
      have e1 : a'.eval (.tmp 140) = .bool true := is_tq (hin 55 140 (by kernel_rfl) (by kernel_rfl)) rfl
      exact o_pick (.tmp 137) (.tmp 140) rfl _ e0 e1 ⟨_, rfl, tq_is _ _ _ _ rfl, Kept.refl _ _, fun _ _ _ _ _ => trivial⟩
    | 57, ho, hsk =>
      obtain rfl := Option.some.inj ho
      have e0 : a'.eval (.tmp 141) = .bool true := is_tq (hin 56 141 (by kernel_rfl) (by kernel_rfl)) rfl
      exact wp_move (.tmp 141) rfl _ e0 ⟨_, rfl, tq_is _ _ _ _ rfl, Kept.refl _ _, fun _ _ _ _ _ => trivial⟩
    | 58, ho, hsk =>
      obtain rfl := Option.some.inj ho
      exact wp_loadA row26 (.tmp 15) rfl b13 0 ((hout 15 (by kernel_rfl)).trans rfl) (vwC C) (vwC_len hC) (((unhide M).step hk2).at 4 _ rfl).range ⟨_, rfl, tq_is _ _ _ _ rfl, Kept.refl _ _, fun _ _ _ _ _ => trivial⟩
    | 59, ho, hsk =>
      obtain rfl := Option.some.inj ho
      have e0 : a'.eval (.tmp 143) = aggV (vwC C) := is_tq (hin 58 143 (by kernel_rfl) (by kernel_rfl)) rfl
      refine wp_callF 25 _ _ rfl #[aggV (vwC C), .int .i64 0, .int .i64 3] (by simp [e0]; exact ⟨rfl, rfl⟩) (cg25 _ _) ((unhide Hk14 _ ((unhide M).step hk2).first).mono ?_)
      rintro e w3 ⟨rfl, hk3⟩
      exact ⟨_, rfl, _, rfl, tq_is _ _ _ _ rfl, hk3, fun _ _ _ _ _ => trivial⟩
    | 60, ho, hsk =>
      obtain rfl := Option.some.inj ho
      have e0 : a'.eval (.tmp 144) = .bool false := is_tq (hin 59 144 (by kernel_rfl) (by kernel_rfl)) rfl
      exact o_not (.tmp 144) rfl false e0 ⟨_, rfl, tq_is _ _ _ _ rfl, Kept.refl _ _, fun _ _ _ _ _ => trivial⟩
    | 61, ho, hsk =>
      obtain rfl := Option.some.inj ho
      have e0 : a'.eval (.tmp 142) = .bool true := is_tq (hin 57 142 (by kernel_rfl) (by kernel_rfl)) rfl
      have e1 : a'.eval (.tmp 145) = .bool true := is_tq (hin 60 145 (by kernel_rfl) (by kernel_rfl)) rfl
      exact o_pick (.tmp 142) (.tmp 145) rfl _ e0 e1 ⟨_, rfl, tq_is _ _ _ _ rfl, Kept.refl _ _, fun _ _ _ _ _ => trivial⟩
    | 62, ho, hsk =>
      obtain rfl := Option.some.inj ho
      have e0 : a'.eval (.tmp 146) = .bool true := is_tq (hin 61 146 (by kernel_rfl) (by kernel_rfl)) rfl
      exact wp_move (.tmp 146) rfl _ e0 ⟨_, rfl, tq_is _ _ _ _ rfl, Kept.refl _ _, fun _ _ _ _ _ => trivial⟩
    | 63, ho, hsk =>
      obtain rfl := Option.some.inj ho
      exact wp_loadA row26 (.tmp 15) rfl b13 0 ((hout 15 (by kernel_rfl)).trans rfl) (vwC C) (vwC_len hC) (((unhide M).step hk2).at 4 _ rfl).range ⟨_, rfl, tq_is _ _ _ _ rfl, Kept.refl _ _, fun _ _ _ _ _ => trivial⟩
    | 64, ho, hsk =>
      obtain rfl := Option.some.inj ho
      have e0 : a'.eval (.tmp 148) = aggV (vwC C) := is_tq (hin 63 148 (by kernel_rfl) (by kernel_rfl)) rfl
      refine wp_callF 25 _ _ rfl #[aggV (vwC C), .int .i64 0, .int .i64 4] (by simp [e0]; exact ⟨rfl, rfl⟩) (cg25 _ _) ((unhide Hk15 _ ((unhide M).step hk2).first).mono ?_)
      rintro e w3 ⟨rfl, hk3⟩
      exact ⟨_, rfl, _, rfl, tq_is _ _ _ _ rfl, hk3, fun _ _ _ _ _ => trivial⟩
    | 65, ho, hsk =>
      obtain rfl := Option.some.inj ho
      have e0 : a'.eval (.tmp 147) = .bool true := is_tq (hin 62 147 (by kernel_rfl) (by kernel_rfl)) rfl
      have e1 : a'.eval (.tmp 149) = .bool true := is_tq (hin 64 149 (by kernel_rfl) (by kernel_rfl)) rfl
      exact o_pick (.tmp 147) (.tmp 149) rfl _ e0 e1 ⟨_, rfl, tq_is _ _ _ _ rfl, Kept.refl _ _, fun _ _ _ _ _ => trivial⟩
    | 66, ho, hsk =>
      obtain rfl := Option.some.inj ho
      have e0 : a'.eval (.tmp 150) = .bool true := is_tq (hin 65 150 (by kernel_rfl) (by kernel_rfl)) rfl
      exact wp_move (.tmp 150) rfl _ e0 ⟨_, rfl, tq_is _ _ _ _ rfl, Kept.refl _ _, fun _ _ _ _ _ => trivial⟩
    | 67, ho, hsk =>
      obtain rfl := Option.some.inj ho
      exact o_fld26_2 (.tmp 17) rfl b15 ((hout 17 (by kernel_rfl)).trans rfl) ⟨_, rfl, tq_is _ _ _ _ rfl, Kept.refl _ _, fun _ _ _ _ _ => trivial⟩
    | 68, ho, hsk =>
      obtain rfl := Option.some.inj ho
      have e0 : a'.eval (.tmp 152) = .pointer (some ⟨b15, 2, none⟩) := is_tq (hin 67 152 (by kernel_rfl) (by kernel_rfl)) rfl
      exact q_load3 (.tmp 152) rfl _ _ e0 (by have h9 := fits_cell (((unhide M).step hk2).at 5 _ rfl) 2 _ rfl; rw [unhide HDF] at h9; exact h9) ⟨_, rfl, tq_is _ _ _ _ rfl, Kept.refl _ _, fun _ _ _ _ _ => trivial⟩
    | 69, ho, hsk =>
      obtain rfl := Option.some.inj ho
      have e0 : a'.eval (.tmp 153) = .int .i64 2 := is_tq (hin 68 153 (by kernel_rfl) (by kernel_rfl)) rfl
      exact o_eql3 (.tmp 153) 2 rfl _ true (by simp) e0 ⟨_, rfl, tq_is _ _ _ _ rfl, Kept.refl _ _, fun _ _ _ _ _ => trivial⟩
    | 70, ho, hsk =>
      obtain rfl := Option.some.inj ho
      have e0 : a'.eval (.tmp 151) = .bool true := is_tq (hin 66 151 (by kernel_rfl) (by kernel_rfl)) rfl
      have e1 : a'.eval (.tmp 154) = .bool true := is_tq (hin 69 154 (by kernel_rfl) (by kernel_rfl)) rfl
      exact o_pick (.tmp 151) (.tmp 154) rfl _ e0 e1 ⟨_, rfl, tq_is _ _ _ _ rfl, Kept.refl _ _, fun _ _ _ _ _ => trivial⟩
    | 71, ho, hsk =>
      obtain rfl := Option.some.inj ho
      have e0 : a'.eval (.tmp 155) = .bool true := is_tq (hin 70 155 (by kernel_rfl) (by kernel_rfl)) rfl
      exact wp_move (.tmp 155) rfl _ e0 ⟨_, rfl, tq_is _ _ _ _ rfl, Kept.refl _ _, fun _ _ _ _ _ => trivial⟩
    | 72, ho, hsk =>
      obtain rfl := Option.some.inj ho
      exact wp_loadA row26 (.tmp 17) rfl b15 0 ((hout 17 (by kernel_rfl)).trans rfl) (vwC D) (vwC_len hD) (((unhide M).step hk2).at 5 _ rfl).range ⟨_, rfl, tq_is _ _ _ _ rfl, Kept.refl _ _, fun _ _ _ _ _ => trivial⟩
    | 73, ho, hsk =>
      obtain rfl := Option.some.inj ho
      have e0 : a'.eval (.tmp 157) = aggV (vwC D) := is_tq (hin 72 157 (by kernel_rfl) (by kernel_rfl)) rfl
      refine wp_callF 26 _ _ rfl #[aggV (vwC D)] (by simp [e0]) (cg26 _ _) ((unhide Hk16 _ ((unhide M).step hk2).first).mono ?_)
      rintro e w3 ⟨rfl, hk3⟩
      exact ⟨_, rfl, _, rfl, tq_is _ _ _ _ rfl, hk3, fun _ _ _ _ _ => trivial⟩
    | 74, ho, hsk =>
      obtain rfl := Option.some.inj ho
      have e0 : a'.eval (.tmp 158) = .int .i64 1 := is_tq (hin 73 158 (by kernel_rfl) (by kernel_rfl)) rfl
      exact o_eql3 (.tmp 158) 1 rfl _ true (by simp) e0 ⟨_, rfl, tq_is _ _ _ _ rfl, Kept.refl _ _, fun _ _ _ _ _ => trivial⟩
    | 75, ho, hsk =>
      obtain rfl := Option.some.inj ho
      have e0 : a'.eval (.tmp 156) = .bool true := is_tq (hin 71 156 (by kernel_rfl) (by kernel_rfl)) rfl
      have e1 : a'.eval (.tmp 159) = .bool true := is_tq (hin 74 159 (by kernel_rfl) (by kernel_rfl)) rfl
      exact o_pick (.tmp 156) (.tmp 159) rfl _ e0 e1 ⟨_, rfl, tq_is _ _ _ _ rfl, Kept.refl _ _, fun _ _ _ _ _ => trivial⟩
    | 76, ho, hsk =>
      obtain rfl := Option.some.inj ho
      have e0 : a'.eval (.tmp 160) = .bool true := is_tq (hin 75 160 (by kernel_rfl) (by kernel_rfl)) rfl
      exact wp_move (.tmp 160) rfl _ e0 ⟨_, rfl, tq_is _ _ _ _ rfl, Kept.refl _ _, fun _ _ _ _ _ => trivial⟩
    | 77, ho, hsk =>
      obtain rfl := Option.some.inj ho
      exact wp_move (.tmp 20) rfl _ ((hout 20 (by kernel_rfl)).trans rfl) ⟨_, rfl, tq_is _ _ _ _ rfl, Kept.refl _ _, fun _ _ _ _ _ => trivial⟩
    | 78, ho, hsk =>
      obtain rfl := Option.some.inj ho
      have e0 : a'.eval (.tmp 162) = .int .i64 2 := is_tq (hin 77 162 (by kernel_rfl) (by kernel_rfl)) rfl
      refine wp_callF 11 _ _ rfl #[.int .i64 2] (by simp [e0]) (cg11 _ _) ((num11 _ _).mono ?_)
      rintro e w3 ⟨rfl, rfl⟩
      exact ⟨_, rfl, _, rfl, tq_is _ _ _ _ rfl, Kept.refl _ _, fun _ _ _ _ _ => trivial⟩
    | 79, ho, hsk =>
      obtain rfl := Option.some.inj ho
      have e0 : a'.eval (.tmp 163) = .int .i64 2 := is_tq (hin 78 163 (by kernel_rfl) (by kernel_rfl)) rfl
      exact o_eql3 (.tmp 163) 2 rfl _ true (by simp) e0 ⟨_, rfl, tq_is _ _ _ _ rfl, Kept.refl _ _, fun _ _ _ _ _ => trivial⟩
    | 80, ho, hsk =>
      obtain rfl := Option.some.inj ho
      have e0 : a'.eval (.tmp 161) = .bool true := is_tq (hin 76 161 (by kernel_rfl) (by kernel_rfl)) rfl
      have e1 : a'.eval (.tmp 164) = .bool true := is_tq (hin 79 164 (by kernel_rfl) (by kernel_rfl)) rfl
      exact o_pick (.tmp 161) (.tmp 164) rfl _ e0 e1 ⟨_, rfl, tq_is _ _ _ _ rfl, Kept.refl _ _, fun _ _ _ _ _ => trivial⟩
    | 81, ho, hsk =>
      obtain rfl := Option.some.inj ho
      have e0 : a'.eval (.tmp 165) = .bool true := is_tq (hin 80 165 (by kernel_rfl) (by kernel_rfl)) rfl
      exact wp_move (.tmp 165) rfl _ e0 ⟨_, rfl, tq_is _ _ _ _ rfl, Kept.refl _ _, fun _ _ _ _ _ => trivial⟩
    | 82, ho, hsk =>
      obtain rfl := Option.some.inj ho
      exact wp_move (.tmp 22) rfl _ ((hout 22 (by kernel_rfl)).trans rfl) ⟨_, rfl, tq_is _ _ _ _ rfl, Kept.refl _ _, fun _ _ _ _ _ => trivial⟩
    | 83, ho, hsk =>
      obtain rfl := Option.some.inj ho
      have e0 : a'.eval (.tmp 167) = .int .i64 6 := is_tq (hin 82 167 (by kernel_rfl) (by kernel_rfl)) rfl
      refine wp_callF 11 _ _ rfl #[.int .i64 6] (by simp [e0]) (cg11 _ _) ((num11 _ _).mono ?_)
      rintro e w3 ⟨rfl, rfl⟩
      exact ⟨_, rfl, _, rfl, tq_is _ _ _ _ rfl, Kept.refl _ _, fun _ _ _ _ _ => trivial⟩
    | 84, ho, hsk =>
      obtain rfl := Option.some.inj ho
      have e0 : a'.eval (.tmp 168) = .int .i64 6 := is_tq (hin 83 168 (by kernel_rfl) (by kernel_rfl)) rfl
      exact o_eql3 (.tmp 168) 6 rfl _ true (by simp) e0 ⟨_, rfl, tq_is _ _ _ _ rfl, Kept.refl _ _, fun _ _ _ _ _ => trivial⟩
    | 85, ho, hsk =>
      obtain rfl := Option.some.inj ho
      have e0 : a'.eval (.tmp 166) = .bool true := is_tq (hin 81 166 (by kernel_rfl) (by kernel_rfl)) rfl
      have e1 : a'.eval (.tmp 169) = .bool true := is_tq (hin 84 169 (by kernel_rfl) (by kernel_rfl)) rfl
      exact o_pick (.tmp 166) (.tmp 169) rfl _ e0 e1 ⟨_, rfl, tq_is _ _ _ _ rfl, Kept.refl _ _, fun _ _ _ _ _ => trivial⟩
    | 86, ho, hsk =>
      obtain rfl := Option.some.inj ho
      have e0 : a'.eval (.tmp 170) = .bool true := is_tq (hin 85 170 (by kernel_rfl) (by kernel_rfl)) rfl
      exact wp_move (.tmp 170) rfl _ e0 ⟨_, rfl, tq_is _ _ _ _ rfl, Kept.refl _ _, fun _ _ _ _ _ => trivial⟩
    | 87, ho, hsk =>
      obtain rfl := Option.some.inj ho
      exact wp_move (.tmp 24) rfl _ ((hout 24 (by kernel_rfl)).trans rfl) ⟨_, rfl, tq_is _ _ _ _ rfl, Kept.refl _ _, fun _ _ _ _ _ => trivial⟩
    | 88, ho, hsk =>
      obtain rfl := Option.some.inj ho
      have e0 : a'.eval (.tmp 172) = .int .i64 2 := is_tq (hin 87 172 (by kernel_rfl) (by kernel_rfl)) rfl
      refine wp_callF 11 _ _ rfl #[.int .i64 2] (by simp [e0]) (cg11 _ _) ((num11 _ _).mono ?_)
      rintro e w3 ⟨rfl, rfl⟩
      exact ⟨_, rfl, _, rfl, tq_is _ _ _ _ rfl, Kept.refl _ _, fun _ _ _ _ _ => trivial⟩
    | 89, ho, hsk =>
      obtain rfl := Option.some.inj ho
      have e0 : a'.eval (.tmp 173) = .int .i64 2 := is_tq (hin 88 173 (by kernel_rfl) (by kernel_rfl)) rfl
      exact o_eql3 (.tmp 173) 2 rfl _ true (by simp) e0 ⟨_, rfl, tq_is _ _ _ _ rfl, Kept.refl _ _, fun _ _ _ _ _ => trivial⟩
    | 90, ho, hsk =>
      obtain rfl := Option.some.inj ho
      have e0 : a'.eval (.tmp 171) = .bool true := is_tq (hin 86 171 (by kernel_rfl) (by kernel_rfl)) rfl
      have e1 : a'.eval (.tmp 174) = .bool true := is_tq (hin 89 174 (by kernel_rfl) (by kernel_rfl)) rfl
      exact o_pick (.tmp 171) (.tmp 174) rfl _ e0 e1 ⟨_, rfl, tq_is _ _ _ _ rfl, Kept.refl _ _, fun _ _ _ _ _ => trivial⟩
    | 91, ho, hsk =>
      obtain rfl := Option.some.inj ho
      have e0 : a'.eval (.tmp 175) = .bool true := is_tq (hin 90 175 (by kernel_rfl) (by kernel_rfl)) rfl
      exact wp_assignV (.tmp 175) rfl _ e0 ⟨_, rfl, tq_is _ _ _ _ rfl, Kept.refl _ _, fun _ _ _ _ _ => trivial⟩
  intro w9 hk9
  replace hk9 : Kept [] W21 w9 := ⟨hk9.os, hk9.tape, hk9.output, hk9.size, hk9.block⟩
  simp only [valsQ, List.map_cons, List.map_nil, Option.getD_some, List.take_succ_cons, List.take_zero, putAll, Act.put, List.setIfInBounds_toArray, List.set_cons_succ, List.set_cons_zero]
  refine wpAny_done (by kernel_rfl) ?_ _
  go_wp2_with fail
  go_ret
  exact ⟨rfl, (unhide M).kept.trans hk9⟩

def kA : Vw := ⟨1, false, 2, [(false, 0), (false, 0), (true, 1), (false, 0), (false, 0), (false, 0), (false, 0), (false, 0)]⟩
def kB : Vw := ⟨2, false, 0, [(true, 3), (false, 0), (true, 1), (false, 0), (false, 0), (false, 0), (false, 0), (false, 0)]⟩
def kC : Vw := ⟨3, false, 0, [(true, 4), (false, 0), (true, 1), (false, 0), (false, 0), (false, 0), (false, 0), (false, 0)]⟩
def kD : Vw := ⟨3, false, 2, [(false, 0), (false, 0), (true, 1), (false, 0), (false, 0), (false, 0), (false, 0), (false, 0)]⟩
def okB (v : Vw) : Bool := decide (-9223372036854775808 ≤ v.nu ∧ v.nu ≤ 9223372036854775807) && (decide (-9223372036854775808 ≤ v.fd ∧ v.fd ≤ 9223372036854775807) && (decide (v.ms.length = 8) && v.ms.all (fun m => decide (-9223372036854775808 ≤ m.2 ∧ m.2 ≤ 9223372036854775807))))
theorem okB_ok {v : Vw} (h : okB v = true) : v.Ok := by
  simp only [okB, Bool.and_eq_true, decide_eq_true_eq, List.all_eq_true] at h
  exact ⟨h.1, h.2.1, h.2.2.1, h.2.2.2⟩
theorem known14 (w : World) (hF : First w) : Calls Tryd.prog 14 #[] w fun e w' => e = .returned (.bool true) ∧ Kept [] w w' := by
  refine known_gen kA kB kC kD w hF rfl rfl rfl rfl rfl rfl rfl rfl ?_ ?_ ?_ ?_ ?_ ?_ ?_ ?_ ?_ ?_ ?_ ?_ ?_ ?_ ?_ ?_
  · exact fun W hW => get_zero W hW
  · exact fun W hW => by have := join16 fv 2 1 W hW fv_ok; rw [show joinV fv 2 1 = (kA, 0) by decide] at this; exact this
  · exact fun W hW => by have := join16 kA 0 3 W hW (okB_ok (by decide)); rw [show joinV kA 0 3 = (kB, 0) by decide] at this; exact this
  · exact fun W hW => by have := master23 kB 0 W hW rfl ⟨by decide, by decide⟩; rw [show kB.master 0 = (0, true) by decide] at this; exact this
  · exact fun W hW => by have := master23 kB 1 W hW rfl ⟨by decide, by decide⟩; rw [show kB.master 1 = (2, true) by decide] at this; exact this
  · exact fun W hW => by have := master23 kB 5 W hW rfl ⟨by decide, by decide⟩; rw [show kB.master 5 = (2, true) by decide] at this; exact this
  · exact fun W hW => by have := join16 kB 0 3 W hW (okB_ok (by decide)); rw [show joinV kB 0 3 = (zv, 7) by decide] at this; exact this
  · exact fun W hW => by have := join16 kB 0 4 W hW (okB_ok (by decide)); rw [show joinV kB 0 4 = (kC, 0) by decide] at this; exact this
  · exact fun W hW => by have := out18 kB 2 0 W hW (okB_ok (by decide)); rw [show outV kB 2 0 = (kD, 0) by decide] at this; exact this
  · exact fun W hW => by have := out18 kB 2 2 W hW (okB_ok (by decide)); rw [show outV kB 2 2 = (zv, 2) by decide] at this; exact this
  · exact fun W hW => by have := out18 kB 2 1 W hW (okB_ok (by decide)); rw [show outV kB 2 1 = (zv, 6) by decide] at this; exact this
  · exact fun W hW => put_zero W hW
  · exact fun W hW => by have := count26 kB W hW rfl; rw [show kB.list.length = 2 by decide] at this; exact this
  · exact fun W hW => by have := is25 kC 0 3 W hW rfl; rw [show kC.is 0 3 = false by decide] at this; exact this
  · exact fun W hW => by have := is25 kC 0 4 W hW rfl; rw [show kC.is 0 4 = true by decide] at this; exact this
  · exact fun W hW => by have := count26 kD W hW rfl; rw [show kD.list.length = 1 by decide] at this; exact this

end Go.Proofs.YtbpnnbbinhdoiaaDoor
