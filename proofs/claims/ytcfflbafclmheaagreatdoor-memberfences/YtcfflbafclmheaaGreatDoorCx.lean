/-
  The document's Join and Open.
-/
import Derived.Test.YtcfflbafclmheaaGreatDoorCw

/-
  The document's Ready and All.
-/
namespace Go.Proofs.YtcfflbafclmheaaGreatDoor
set_option maxRecDepth 100000
set_option linter.unusedSimpArgs false
open Go.RowKit
open Le (Mm wpStoreM wpStoreM1)


section
variable {o : Oper} {a : Act} {w : World} {K : Act → World → Prop} {Q : Exit → Act → World → Prop}
theorem o_fldL (x : Operand) (i : Nat) (hi : i < 3) (ho : o.op = .fieldAddr 73 x i) (b : Nat) (hx : a.eval x = P0 b) (h : K (a.put o.dst (.pointer (some ⟨b, i, none⟩))) w) : o.wp Tryz.prog a w K Q := by
  unfold Oper.wp execOp
  simp only [ho, hx]
  rcases (show i = 0 ∨ i = 1 ∨ i = 2 by omega) with rfl | rfl | rfl <;> (simp [go_sem]; exact h)
theorem o_fldM1 (x : Operand) (ho : o.op = .fieldAddr 26 x 1) (b i : Nat) (hx : a.eval x = .pointer (some ⟨b, i, none⟩)) (h : K (a.put o.dst (.pointer (some ⟨b, i + 1, none⟩))) w) : o.wp Tryz.prog a w K Q := by
  unfold Oper.wp execOp
  simp only [ho, hx]
  simp [go_sem]
  exact h
theorem o_eql2 (x y : Operand) (ho : o.op = .binOp .eql 2 x y 2) (m n : Int) (r : Bool) (hr : decide (m = n) = r) (hx : a.eval x = .int .i64 m) (hy : a.eval y = .int .i64 n) (h : K (a.put o.dst (.bool r)) w) : o.wp Tryz.prog a w K Q := by
  subst hr
  unfold Oper.wp execOp
  simp only [ho, hx, hy]
  simp [go_sem]
  have e : (m == n) = decide (m = n) := by rw [Bool.eq_iff_iff]; simp
  rw [e]
  exact h
theorem o_geq2 (x y : Operand) (ho : o.op = .binOp .geq 2 x y 2) (m n : Int) (r : Bool) (hr : decide (n ≤ m) = r) (hx : a.eval x = .int .i64 m) (hy : a.eval y = .int .i64 n) (h : K (a.put o.dst (.bool r)) w) : o.wp Tryz.prog a w K Q := by
  subst hr
  unfold Oper.wp execOp
  simp only [ho, hx, hy]
  simp [go_sem]
  exact h
theorem o_pickAF (c x : Operand) (ho : o.op = .pick c x (.const (.bool false))) (hc : a.eval c = .bool false) (h : K (a.put o.dst (.bool false)) w) : o.wp Tryz.prog a w K Q := by
  unfold Oper.wp execOp
  simp only [ho, hc]
  simp [go_sem, Act.eval]
  exact h
theorem o_pickAT (c x : Operand) (ho : o.op = .pick c x (.const (.bool false))) (r : Bool) (hc : a.eval c = .bool true) (hx : a.eval x = .bool r) (h : K (a.put o.dst (.bool r)) w) : o.wp Tryz.prog a w K Q := by
  unfold Oper.wp execOp
  simp only [ho, hc, hx]
  simp [go_sem]
  exact h
end
/-- Is a member of a view ready? -/
def rready (D : Dv.Dev) (J : Ar.Job) (v : Vi.Vw) (n : Int) : Bool := decide ((rlease D J n).2 = 0) && (decide ((rlease D J n).1.ep = (v.mem n).2) && decide (v.nu ≤ (rlease D J n).1.re))
set_option maxHeartbeats 4000000 in
theorem rready_x (r : Nat) (J : Ar.Job) (v : Vi.Vw) (k : Nat) (w : World) (l : Le.Le) (e : Int) (hL : ∀ W, Kept [] w W → Calls Tryz.prog 42 #[P0 r, aggV (Ar.jobC J), .int .i64 k] W fun x w' => x = .returned (.tuple #[aggV (Le.Le.C l), .int .i64 e]) ∧ Kept [] W w')  (he : decide (e = 0) = false) : Calls Tryz.prog 51 #[P0 r, aggV (Ar.jobC J), aggV (Vi.vwC v), .int .i64 k] w fun x w' => x = .returned (.bool false) ∧ Kept [] w w' := by
  have PL := hide hL
  have HE := hide he
  clear hL he
  go_enter Tryz.func51, Tryz.ntmps51
  have M : Hid (Mm [] w w []) := hide Mm.init
  go_wp2_with (
    first
    | (refine wpBoxV rfl (.tmp 1) rfl (Ar.jobC J) rfl ?_
       intro W1 b1 e1 B1 K1
       replace M : Hid (Mm [] w W1 [(b1, 23, Ar.jobC J)]) := hide ((unhide M).new e1 B1 K1)
       clear e1 B1 K1
       refine Stp.go ?_))
  constructor
  go_wp2_with (
    first
    | (refine wpBoxV rfl (.tmp 2) rfl (Vi.vwC v) rfl ?_
       intro W2 b2 e2 B2 K2
       replace M : Hid (Mm [] w W2 [(b1, 23, Ar.jobC J), (b2, 29, Vi.vwC v)]) := hide ((unhide M).new e2 B2 K2)
       clear e2 B2 K2
       refine Stp.go ?_))
  constructor
  go_wp2_with (
    first
    | (refine wpLoadA jrow rfl (.tmp 5) rfl b1 0 rfl (Ar.jobC J) rfl ((unhide M).at 0 _ rfl).range ?_
       refine Stp.go ?_))
  constructor
  go_wp2_with (
    first
    | (go_at_call 42
       refine (unhide PL _ (unhide M).kept).mono ?_
       rintro e W3 ⟨rfl, K3⟩
       replace M : Hid (Mm [] w W3 [(b1, 23, Ar.jobC J), (b2, 29, Vi.vwC v)]) := hide ((unhide M).step K3)
       clear K3
       refine Stp.go ?_))
  constructor
  go_wp2_with (
    first
    | (refine wpNew Le.row23 (Le.Le.C Le.le0) rfl Le.zero23 9 rfl rfl rfl (.tmp 16) rfl rfl rfl (Le.Le.C l) rfl (Le.leC_one _) (by kernel_rfl) (by kernel_rfl) ?_
       intro W4 b4 e4 B4 K4
       replace M : Hid (Mm [] w W4 [(b1, 23, Ar.jobC J), (b2, 29, Vi.vwC v), (b4, 73, Le.Le.C l)]) := hide ((unhide M).new e4 B4 K4)
       clear e4 B4 K4
       refine Stp.go ?_))
  constructor
  go_wp2_with fail
  refine wp_region_any mixed (wpAny_tq 20 rfl (by kernel_rfl) [some (.int .i64 e), some (.bool false), some (.bool false), none, none, none, none, none, none, none, none, some (.bool false), some (.bool false), none, none, none, none, none, some (.bool false), some (.bool false)] rfl (by kernel_rfl) (by kernel_rfl) ?_ ?_)
  · intro i o' hi hsk ho a' w2 hout hin hk2
    replace hk2 : Kept [] W4 w2 := ⟨hk2.os, hk2.tape, hk2.output, hk2.size, hk2.block⟩
    match i, ho, hsk with
    | 0, ho, hsk =>
      obtain rfl := Option.some.inj ho
      exact wp_move (.tmp 10) rfl _ ((hout 10 (by kernel_rfl)).trans rfl) ⟨_, rfl, tq_is _ _ _ _ rfl, Kept.refl _ _, fun _ _ _ _ _ => trivial⟩
    | 1, ho, hsk =>
      obtain rfl := Option.some.inj ho
      have e0 : a'.eval (.tmp 18) = .int .i64 e := is_tq (hin 0 18 (by kernel_rfl) (by kernel_rfl)) rfl
      exact o_eql3 (.tmp 18) 0 rfl e false (unhide HE) e0 ⟨_, rfl, tq_is _ _ _ _ rfl, Kept.refl _ _, fun _ _ _ _ _ => trivial⟩
    | 2, ho, hsk =>
      obtain rfl := Option.some.inj ho
      have e0 : a'.eval (.tmp 19) = .bool false := is_tq (hin 1 19 (by kernel_rfl) (by kernel_rfl)) rfl
      exact wp_move (.tmp 19) rfl _ e0 ⟨_, rfl, tq_is _ _ _ _ rfl, Kept.refl _ _, fun _ _ _ _ _ => trivial⟩
    | 3, ho, hsk =>
      cases hsk
    | 4, ho, hsk =>
      cases hsk
    | 5, ho, hsk =>
      cases hsk
    | 6, ho, hsk =>
      cases hsk
    | 7, ho, hsk =>
      cases hsk
    | 8, ho, hsk =>
      cases hsk
    | 9, ho, hsk =>
      cases hsk
    | 10, ho, hsk =>
      cases hsk
    | 11, ho, hsk =>
      obtain rfl := Option.some.inj ho
      have e0 : a'.eval (.tmp 20) = .bool false := is_tq (hin 2 20 (by kernel_rfl) (by kernel_rfl)) rfl
      exact o_pickAF (.tmp 20) (.tmp 28) rfl e0 ⟨_, rfl, tq_is _ _ _ _ rfl, Kept.refl _ _, fun _ _ _ _ _ => trivial⟩
    | 12, ho, hsk =>
      obtain rfl := Option.some.inj ho
      have e0 : a'.eval (.tmp 29) = .bool false := is_tq (hin 11 29 (by kernel_rfl) (by kernel_rfl)) rfl
      exact wp_move (.tmp 29) rfl _ e0 ⟨_, rfl, tq_is _ _ _ _ rfl, Kept.refl _ _, fun _ _ _ _ _ => trivial⟩
    | 13, ho, hsk =>
      cases hsk
    | 14, ho, hsk =>
      cases hsk
    | 15, ho, hsk =>
      cases hsk
    | 16, ho, hsk =>
      cases hsk
    | 17, ho, hsk =>
      cases hsk
    | 18, ho, hsk =>
      obtain rfl := Option.some.inj ho
      have e0 : a'.eval (.tmp 30) = .bool false := is_tq (hin 12 30 (by kernel_rfl) (by kernel_rfl)) rfl
      exact o_pickAF (.tmp 30) (.tmp 35) rfl e0 ⟨_, rfl, tq_is _ _ _ _ rfl, Kept.refl _ _, fun _ _ _ _ _ => trivial⟩
    | 19, ho, hsk =>
      obtain rfl := Option.some.inj ho
      have e0 : a'.eval (.tmp 36) = .bool false := is_tq (hin 18 36 (by kernel_rfl) (by kernel_rfl)) rfl
      exact wp_assignV (.tmp 36) rfl _ e0 ⟨_, rfl, tq_is _ _ _ _ rfl, Kept.refl _ _, fun _ _ _ _ _ => trivial⟩
  intro w9 hk9
  replace hk9 : Kept [] W4 w9 := ⟨hk9.os, hk9.tape, hk9.output, hk9.size, hk9.block⟩
  simp only [valsQ, List.map_cons, List.map_nil, Option.getD_some, Option.getD_none, List.take_succ_cons, List.take_zero, putAll, Act.put, List.setIfInBounds_toArray, List.set_cons_succ, List.set_cons_zero]
  refine wpAny_done (by kernel_rfl) ?_ _
  replace M : Hid (Mm [] w w9 [(b1, 23, Ar.jobC J), (b2, 29, Vi.vwC v), (b4, 73, Le.Le.C l)]) := hide ((unhide M).step hk9)
  clear hk9
  go_wp2_with fail
  go_ret
  exact ⟨rfl, (unhide M).kept⟩
set_option maxHeartbeats 4000000 in
theorem rready_y (r : Nat) (J : Ar.Job) (v : Vi.Vw) (k : Nat) (w : World) (hk8 : k < 8) (l : Le.Le) (e : Int) (hL : ∀ W, Kept [] w W → Calls Tryz.prog 42 #[P0 r, aggV (Ar.jobC J), .int .i64 k] W fun x w' => x = .returned (.tuple #[aggV (Le.Le.C l), .int .i64 e]) ∧ Kept [] W w') (me : Int) (hc1 : (Vi.vwC v)[3 + k * 2 + 1]? = some (.int .i64 me)) (he : decide (e = 0) = true) (hp : decide (l.ep = me) = false) : Calls Tryz.prog 51 #[P0 r, aggV (Ar.jobC J), aggV (Vi.vwC v), .int .i64 k] w fun x w' => x = .returned (.bool false) ∧ Kept [] w w' := by
  have PL := hide hL
  have HK8 := hide hk8
  have HE := hide he
  have HC1 := hide hc1
  have HP := hide hp
  clear hc1 hp
  clear hL he hk8
  go_enter Tryz.func51, Tryz.ntmps51
  have M : Hid (Mm [] w w []) := hide Mm.init
  go_wp2_with (
    first
    | (refine wpBoxV rfl (.tmp 1) rfl (Ar.jobC J) rfl ?_
       intro W1 b1 e1 B1 K1
       replace M : Hid (Mm [] w W1 [(b1, 23, Ar.jobC J)]) := hide ((unhide M).new e1 B1 K1)
       clear e1 B1 K1
       refine Stp.go ?_))
  constructor
  go_wp2_with (
    first
    | (refine wpBoxV rfl (.tmp 2) rfl (Vi.vwC v) rfl ?_
       intro W2 b2 e2 B2 K2
       replace M : Hid (Mm [] w W2 [(b1, 23, Ar.jobC J), (b2, 29, Vi.vwC v)]) := hide ((unhide M).new e2 B2 K2)
       clear e2 B2 K2
       refine Stp.go ?_))
  constructor
  go_wp2_with (
    first
    | (refine wpLoadA jrow rfl (.tmp 5) rfl b1 0 rfl (Ar.jobC J) rfl ((unhide M).at 0 _ rfl).range ?_
       refine Stp.go ?_))
  constructor
  go_wp2_with (
    first
    | (go_at_call 42
       refine (unhide PL _ (unhide M).kept).mono ?_
       rintro e W3 ⟨rfl, K3⟩
       replace M : Hid (Mm [] w W3 [(b1, 23, Ar.jobC J), (b2, 29, Vi.vwC v)]) := hide ((unhide M).step K3)
       clear K3
       refine Stp.go ?_))
  constructor
  go_wp2_with (
    first
    | (refine wpNew Le.row23 (Le.Le.C Le.le0) rfl Le.zero23 9 rfl rfl rfl (.tmp 16) rfl rfl rfl (Le.Le.C l) rfl (Le.leC_one _) (by kernel_rfl) (by kernel_rfl) ?_
       intro W4 b4 e4 B4 K4
       replace M : Hid (Mm [] w W4 [(b1, 23, Ar.jobC J), (b2, 29, Vi.vwC v), (b4, 73, Le.Le.C l)]) := hide ((unhide M).new e4 B4 K4)
       clear e4 B4 K4
       refine Stp.go ?_))
  constructor
  go_wp2_with fail
  refine wp_region_any mixed (wpAny_tq 20 rfl (by kernel_rfl) [some (.int .i64 e), some (.bool true), some (.bool true), some (.pointer (some ⟨b4, 0, none⟩)), some (.int .i64 l.ep), some (.int .i64 k), some (.pointer (some ⟨b2, 3, none⟩)), some (.pointer (some ⟨b2, 3 + k * 2, none⟩)), some (.pointer (some ⟨b2, 3 + k * 2 + 1, none⟩)), some (.int .i64 me), some (.bool false), some (.bool false), some (.bool false), none, none, none, none, none, some (.bool false), some (.bool false)] rfl (by kernel_rfl) (by kernel_rfl) ?_ ?_)
  · intro i o' hi hsk ho a' w2 hout hin hk2
    replace hk2 : Kept [] W4 w2 := ⟨hk2.os, hk2.tape, hk2.output, hk2.size, hk2.block⟩
    match i, ho, hsk with
    | 0, ho, hsk =>
      obtain rfl := Option.some.inj ho
      exact wp_move (.tmp 10) rfl _ ((hout 10 (by kernel_rfl)).trans rfl) ⟨_, rfl, tq_is _ _ _ _ rfl, Kept.refl _ _, fun _ _ _ _ _ => trivial⟩
    | 1, ho, hsk =>
      obtain rfl := Option.some.inj ho
      have e0 : a'.eval (.tmp 18) = .int .i64 e := is_tq (hin 0 18 (by kernel_rfl) (by kernel_rfl)) rfl
      exact o_eql3 (.tmp 18) 0 rfl e true (unhide HE) e0 ⟨_, rfl, tq_is _ _ _ _ rfl, Kept.refl _ _, fun _ _ _ _ _ => trivial⟩
    | 2, ho, hsk =>
      obtain rfl := Option.some.inj ho
      have e0 : a'.eval (.tmp 19) = .bool true := is_tq (hin 1 19 (by kernel_rfl) (by kernel_rfl)) rfl
      exact wp_move (.tmp 19) rfl _ e0 ⟨_, rfl, tq_is _ _ _ _ rfl, Kept.refl _ _, fun _ _ _ _ _ => trivial⟩
    | 3, ho, hsk =>
      obtain rfl := Option.some.inj ho
      exact o_fldL (.tmp 9) 0 (by omega) rfl b4 ((hout 9 (by kernel_rfl)).trans rfl) ⟨_, rfl, tq_is _ _ _ _ rfl, Kept.refl _ _, fun _ _ _ _ _ => trivial⟩
    | 4, ho, hsk =>
      obtain rfl := Option.some.inj ho
      have e0 : a'.eval (.tmp 21) = .pointer (some ⟨b4, 0, none⟩) := is_tq (hin 3 21 (by kernel_rfl) (by kernel_rfl)) rfl
      exact o_load2 (.tmp 21) rfl _ _ e0 (fits_cell (((unhide M).step hk2).at 2 _ rfl) 0 _ rfl) ⟨_, rfl, tq_is _ _ _ _ rfl, Kept.refl _ _, fun _ _ _ _ _ => trivial⟩
    | 5, ho, hsk =>
      obtain rfl := Option.some.inj ho
      exact wp_move (.tmp 3) rfl _ ((hout 3 (by kernel_rfl)).trans rfl) ⟨_, rfl, tq_is _ _ _ _ rfl, Kept.refl _ _, fun _ _ _ _ _ => trivial⟩
    | 6, ho, hsk =>
      obtain rfl := Option.some.inj ho
      exact Vi.o_fld26_3 (.tmp 6) rfl b2 ((hout 6 (by kernel_rfl)).trans rfl) ⟨_, rfl, tq_is _ _ _ _ rfl, Kept.refl _ _, fun _ _ _ _ _ => trivial⟩
    | 7, ho, hsk =>
      obtain rfl := Option.some.inj ho
      have e0 : a'.eval (.tmp 24) = .pointer (some ⟨b2, 3, none⟩) := is_tq (hin 6 24 (by kernel_rfl) (by kernel_rfl)) rfl
      have e1 : a'.eval (.tmp 23) = .int .i64 k := is_tq (hin 5 23 (by kernel_rfl) (by kernel_rfl)) rfl
      exact Vi.o_idx24 (.tmp 24) (.tmp 23) rfl b2 k (unhide HK8) e0 e1 ⟨_, rfl, tq_is _ _ _ _ rfl, Kept.refl _ _, fun _ _ _ _ _ => trivial⟩
    | 8, ho, hsk =>
      obtain rfl := Option.some.inj ho
      have e0 : a'.eval (.tmp 25) = .pointer (some ⟨b2, 3 + k * 2, none⟩) := is_tq (hin 7 25 (by kernel_rfl) (by kernel_rfl)) rfl
      exact o_fldM1 (.tmp 25) rfl b2 (3 + k * 2) e0 ⟨_, rfl, tq_is _ _ _ _ rfl, Kept.refl _ _, fun _ _ _ _ _ => trivial⟩
    | 9, ho, hsk =>
      obtain rfl := Option.some.inj ho
      have e0 : a'.eval (.tmp 26) = .pointer (some ⟨b2, 3 + k * 2 + 1, none⟩) := is_tq (hin 8 26 (by kernel_rfl) (by kernel_rfl)) rfl
      exact o_load2 (.tmp 26) rfl _ _ e0 (fits_cell (((unhide M).step hk2).at 1 _ rfl) _ _ (unhide HC1)) ⟨_, rfl, tq_is _ _ _ _ rfl, Kept.refl _ _, fun _ _ _ _ _ => trivial⟩
    | 10, ho, hsk =>
      obtain rfl := Option.some.inj ho
      have e0 : a'.eval (.tmp 22) = .int .i64 l.ep := is_tq (hin 4 22 (by kernel_rfl) (by kernel_rfl)) rfl
      have e1 : a'.eval (.tmp 27) = .int .i64 me := is_tq (hin 9 27 (by kernel_rfl) (by kernel_rfl)) rfl
      exact o_eql2 (.tmp 22) (.tmp 27) rfl _ _ false (unhide HP) e0 e1 ⟨_, rfl, tq_is _ _ _ _ rfl, Kept.refl _ _, fun _ _ _ _ _ => trivial⟩
    | 11, ho, hsk =>
      obtain rfl := Option.some.inj ho
      have e0 : a'.eval (.tmp 20) = .bool true := is_tq (hin 2 20 (by kernel_rfl) (by kernel_rfl)) rfl
      have e1 : a'.eval (.tmp 28) = .bool false := is_tq (hin 10 28 (by kernel_rfl) (by kernel_rfl)) rfl
      exact o_pickAT (.tmp 20) (.tmp 28) rfl false e0 e1 ⟨_, rfl, tq_is _ _ _ _ rfl, Kept.refl _ _, fun _ _ _ _ _ => trivial⟩
    | 12, ho, hsk =>
      obtain rfl := Option.some.inj ho
      have e0 : a'.eval (.tmp 29) = .bool false := is_tq (hin 11 29 (by kernel_rfl) (by kernel_rfl)) rfl
      exact wp_move (.tmp 29) rfl _ e0 ⟨_, rfl, tq_is _ _ _ _ rfl, Kept.refl _ _, fun _ _ _ _ _ => trivial⟩
    | 13, ho, hsk =>
      cases hsk
    | 14, ho, hsk =>
      cases hsk
    | 15, ho, hsk =>
      cases hsk
    | 16, ho, hsk =>
      cases hsk
    | 17, ho, hsk =>
      cases hsk
    | 18, ho, hsk =>
      obtain rfl := Option.some.inj ho
      have e0 : a'.eval (.tmp 30) = .bool false := is_tq (hin 12 30 (by kernel_rfl) (by kernel_rfl)) rfl
      exact o_pickAF (.tmp 30) (.tmp 35) rfl e0 ⟨_, rfl, tq_is _ _ _ _ rfl, Kept.refl _ _, fun _ _ _ _ _ => trivial⟩
    | 19, ho, hsk =>
      obtain rfl := Option.some.inj ho
      have e0 : a'.eval (.tmp 36) = .bool false := is_tq (hin 18 36 (by kernel_rfl) (by kernel_rfl)) rfl
      exact wp_assignV (.tmp 36) rfl _ e0 ⟨_, rfl, tq_is _ _ _ _ rfl, Kept.refl _ _, fun _ _ _ _ _ => trivial⟩
  intro w9 hk9
  replace hk9 : Kept [] W4 w9 := ⟨hk9.os, hk9.tape, hk9.output, hk9.size, hk9.block⟩
  simp only [valsQ, List.map_cons, List.map_nil, Option.getD_some, Option.getD_none, List.take_succ_cons, List.take_zero, putAll, Act.put, List.setIfInBounds_toArray, List.set_cons_succ, List.set_cons_zero]
  refine wpAny_done (by kernel_rfl) ?_ _
  replace M : Hid (Mm [] w w9 [(b1, 23, Ar.jobC J), (b2, 29, Vi.vwC v), (b4, 73, Le.Le.C l)]) := hide ((unhide M).step hk9)
  clear hk9
  go_wp2_with fail
  go_ret
  exact ⟨rfl, (unhide M).kept⟩
set_option maxHeartbeats 4000000 in
theorem rready_z (r : Nat) (J : Ar.Job) (v : Vi.Vw) (k : Nat) (w : World) (hk8 : k < 8) (l : Le.Le) (e : Int) (hL : ∀ W, Kept [] w W → Calls Tryz.prog 42 #[P0 r, aggV (Ar.jobC J), .int .i64 k] W fun x w' => x = .returned (.tuple #[aggV (Le.Le.C l), .int .i64 e]) ∧ Kept [] W w') (me : Int) (hc1 : (Vi.vwC v)[3 + k * 2 + 1]? = some (.int .i64 me)) (he : decide (e = 0) = true) (hp : decide (l.ep = me) = true) (bb : Bool) (hbb : decide (v.nu ≤ l.re) = bb) : Calls Tryz.prog 51 #[P0 r, aggV (Ar.jobC J), aggV (Vi.vwC v), .int .i64 k] w fun x w' => x = .returned (.bool bb) ∧ Kept [] w w' := by
  have PL := hide hL
  have HK8 := hide hk8
  have HE := hide he
  have HC1 := hide hc1
  have HP := hide hp
  clear hc1 hp
  have HBB := hide hbb
  clear hbb
  clear hL he hk8
  go_enter Tryz.func51, Tryz.ntmps51
  have M : Hid (Mm [] w w []) := hide Mm.init
  go_wp2_with (
    first
    | (refine wpBoxV rfl (.tmp 1) rfl (Ar.jobC J) rfl ?_
       intro W1 b1 e1 B1 K1
       replace M : Hid (Mm [] w W1 [(b1, 23, Ar.jobC J)]) := hide ((unhide M).new e1 B1 K1)
       clear e1 B1 K1
       refine Stp.go ?_))
  constructor
  go_wp2_with (
    first
    | (refine wpBoxV rfl (.tmp 2) rfl (Vi.vwC v) rfl ?_
       intro W2 b2 e2 B2 K2
       replace M : Hid (Mm [] w W2 [(b1, 23, Ar.jobC J), (b2, 29, Vi.vwC v)]) := hide ((unhide M).new e2 B2 K2)
       clear e2 B2 K2
       refine Stp.go ?_))
  constructor
  go_wp2_with (
    first
    | (refine wpLoadA jrow rfl (.tmp 5) rfl b1 0 rfl (Ar.jobC J) rfl ((unhide M).at 0 _ rfl).range ?_
       refine Stp.go ?_))
  constructor
  go_wp2_with (
    first
    | (go_at_call 42
       refine (unhide PL _ (unhide M).kept).mono ?_
       rintro e W3 ⟨rfl, K3⟩
       replace M : Hid (Mm [] w W3 [(b1, 23, Ar.jobC J), (b2, 29, Vi.vwC v)]) := hide ((unhide M).step K3)
       clear K3
       refine Stp.go ?_))
  constructor
  go_wp2_with (
    first
    | (refine wpNew Le.row23 (Le.Le.C Le.le0) rfl Le.zero23 9 rfl rfl rfl (.tmp 16) rfl rfl rfl (Le.Le.C l) rfl (Le.leC_one _) (by kernel_rfl) (by kernel_rfl) ?_
       intro W4 b4 e4 B4 K4
       replace M : Hid (Mm [] w W4 [(b1, 23, Ar.jobC J), (b2, 29, Vi.vwC v), (b4, 73, Le.Le.C l)]) := hide ((unhide M).new e4 B4 K4)
       clear e4 B4 K4
       refine Stp.go ?_))
  constructor
  go_wp2_with fail
  refine wp_region_any mixed (wpAny_tq 20 rfl (by kernel_rfl) [some (.int .i64 e), some (.bool true), some (.bool true), some (.pointer (some ⟨b4, 0, none⟩)), some (.int .i64 l.ep), some (.int .i64 k), some (.pointer (some ⟨b2, 3, none⟩)), some (.pointer (some ⟨b2, 3 + k * 2, none⟩)), some (.pointer (some ⟨b2, 3 + k * 2 + 1, none⟩)), some (.int .i64 me), some (.bool true), some (.bool true), some (.bool true), some (.pointer (some ⟨b4, 2, none⟩)), some (.int .i64 l.re), some (.pointer (some ⟨b2, 0, none⟩)), some (.int .i64 v.nu), some (.bool bb), some (.bool bb), some (.bool bb)] rfl (by kernel_rfl) (by kernel_rfl) ?_ ?_)
  · intro i o' hi hsk ho a' w2 hout hin hk2
    replace hk2 : Kept [] W4 w2 := ⟨hk2.os, hk2.tape, hk2.output, hk2.size, hk2.block⟩
    match i, ho, hsk with
    | 0, ho, hsk =>
      obtain rfl := Option.some.inj ho
      exact wp_move (.tmp 10) rfl _ ((hout 10 (by kernel_rfl)).trans rfl) ⟨_, rfl, tq_is _ _ _ _ rfl, Kept.refl _ _, fun _ _ _ _ _ => trivial⟩
    | 1, ho, hsk =>
      obtain rfl := Option.some.inj ho
      have e0 : a'.eval (.tmp 18) = .int .i64 e := is_tq (hin 0 18 (by kernel_rfl) (by kernel_rfl)) rfl
      exact o_eql3 (.tmp 18) 0 rfl e true (unhide HE) e0 ⟨_, rfl, tq_is _ _ _ _ rfl, Kept.refl _ _, fun _ _ _ _ _ => trivial⟩
    | 2, ho, hsk =>
      obtain rfl := Option.some.inj ho
      have e0 : a'.eval (.tmp 19) = .bool true := is_tq (hin 1 19 (by kernel_rfl) (by kernel_rfl)) rfl
      exact wp_move (.tmp 19) rfl _ e0 ⟨_, rfl, tq_is _ _ _ _ rfl, Kept.refl _ _, fun _ _ _ _ _ => trivial⟩
    | 3, ho, hsk =>
      obtain rfl := Option.some.inj ho
      exact o_fldL (.tmp 9) 0 (by omega) rfl b4 ((hout 9 (by kernel_rfl)).trans rfl) ⟨_, rfl, tq_is _ _ _ _ rfl, Kept.refl _ _, fun _ _ _ _ _ => trivial⟩
    | 4, ho, hsk =>
      obtain rfl := Option.some.inj ho
      have e0 : a'.eval (.tmp 21) = .pointer (some ⟨b4, 0, none⟩) := is_tq (hin 3 21 (by kernel_rfl) (by kernel_rfl)) rfl
      exact o_load2 (.tmp 21) rfl _ _ e0 (fits_cell (((unhide M).step hk2).at 2 _ rfl) 0 _ rfl) ⟨_, rfl, tq_is _ _ _ _ rfl, Kept.refl _ _, fun _ _ _ _ _ => trivial⟩
    | 5, ho, hsk =>
      obtain rfl := Option.some.inj ho
      exact wp_move (.tmp 3) rfl _ ((hout 3 (by kernel_rfl)).trans rfl) ⟨_, rfl, tq_is _ _ _ _ rfl, Kept.refl _ _, fun _ _ _ _ _ => trivial⟩
    | 6, ho, hsk =>
      obtain rfl := Option.some.inj ho
      exact Vi.o_fld26_3 (.tmp 6) rfl b2 ((hout 6 (by kernel_rfl)).trans rfl) ⟨_, rfl, tq_is _ _ _ _ rfl, Kept.refl _ _, fun _ _ _ _ _ => trivial⟩
    | 7, ho, hsk =>
      obtain rfl := Option.some.inj ho
      have e0 : a'.eval (.tmp 24) = .pointer (some ⟨b2, 3, none⟩) := is_tq (hin 6 24 (by kernel_rfl) (by kernel_rfl)) rfl
      have e1 : a'.eval (.tmp 23) = .int .i64 k := is_tq (hin 5 23 (by kernel_rfl) (by kernel_rfl)) rfl
      exact Vi.o_idx24 (.tmp 24) (.tmp 23) rfl b2 k (unhide HK8) e0 e1 ⟨_, rfl, tq_is _ _ _ _ rfl, Kept.refl _ _, fun _ _ _ _ _ => trivial⟩
    | 8, ho, hsk =>
      obtain rfl := Option.some.inj ho
      have e0 : a'.eval (.tmp 25) = .pointer (some ⟨b2, 3 + k * 2, none⟩) := is_tq (hin 7 25 (by kernel_rfl) (by kernel_rfl)) rfl
      exact o_fldM1 (.tmp 25) rfl b2 (3 + k * 2) e0 ⟨_, rfl, tq_is _ _ _ _ rfl, Kept.refl _ _, fun _ _ _ _ _ => trivial⟩
    | 9, ho, hsk =>
      obtain rfl := Option.some.inj ho
      have e0 : a'.eval (.tmp 26) = .pointer (some ⟨b2, 3 + k * 2 + 1, none⟩) := is_tq (hin 8 26 (by kernel_rfl) (by kernel_rfl)) rfl
      exact o_load2 (.tmp 26) rfl _ _ e0 (fits_cell (((unhide M).step hk2).at 1 _ rfl) _ _ (unhide HC1)) ⟨_, rfl, tq_is _ _ _ _ rfl, Kept.refl _ _, fun _ _ _ _ _ => trivial⟩
    | 10, ho, hsk =>
      obtain rfl := Option.some.inj ho
      have e0 : a'.eval (.tmp 22) = .int .i64 l.ep := is_tq (hin 4 22 (by kernel_rfl) (by kernel_rfl)) rfl
      have e1 : a'.eval (.tmp 27) = .int .i64 me := is_tq (hin 9 27 (by kernel_rfl) (by kernel_rfl)) rfl
      exact o_eql2 (.tmp 22) (.tmp 27) rfl _ _ true (unhide HP) e0 e1 ⟨_, rfl, tq_is _ _ _ _ rfl, Kept.refl _ _, fun _ _ _ _ _ => trivial⟩
    | 11, ho, hsk =>
      obtain rfl := Option.some.inj ho
      have e0 : a'.eval (.tmp 20) = .bool true := is_tq (hin 2 20 (by kernel_rfl) (by kernel_rfl)) rfl
      have e1 : a'.eval (.tmp 28) = .bool true := is_tq (hin 10 28 (by kernel_rfl) (by kernel_rfl)) rfl
      exact o_pickAT (.tmp 20) (.tmp 28) rfl true e0 e1 ⟨_, rfl, tq_is _ _ _ _ rfl, Kept.refl _ _, fun _ _ _ _ _ => trivial⟩
    | 12, ho, hsk =>
      obtain rfl := Option.some.inj ho
      have e0 : a'.eval (.tmp 29) = .bool true := is_tq (hin 11 29 (by kernel_rfl) (by kernel_rfl)) rfl
      exact wp_move (.tmp 29) rfl _ e0 ⟨_, rfl, tq_is _ _ _ _ rfl, Kept.refl _ _, fun _ _ _ _ _ => trivial⟩
    | 13, ho, hsk =>
      obtain rfl := Option.some.inj ho
      exact o_fldL (.tmp 9) 2 (by omega) rfl b4 ((hout 9 (by kernel_rfl)).trans rfl) ⟨_, rfl, tq_is _ _ _ _ rfl, Kept.refl _ _, fun _ _ _ _ _ => trivial⟩
    | 14, ho, hsk =>
      obtain rfl := Option.some.inj ho
      have e0 : a'.eval (.tmp 31) = .pointer (some ⟨b4, 2, none⟩) := is_tq (hin 13 31 (by kernel_rfl) (by kernel_rfl)) rfl
      exact o_load2 (.tmp 31) rfl _ _ e0 (fits_cell (((unhide M).step hk2).at 2 _ rfl) 2 _ rfl) ⟨_, rfl, tq_is _ _ _ _ rfl, Kept.refl _ _, fun _ _ _ _ _ => trivial⟩
    | 15, ho, hsk =>
      obtain rfl := Option.some.inj ho
      exact Vi.o_fld26a (.tmp 6) rfl b2 ((hout 6 (by kernel_rfl)).trans rfl) ⟨_, rfl, tq_is _ _ _ _ rfl, Kept.refl _ _, fun _ _ _ _ _ => trivial⟩
    | 16, ho, hsk =>
      obtain rfl := Option.some.inj ho
      have e0 : a'.eval (.tmp 33) = .pointer (some ⟨b2, 0, none⟩) := is_tq (hin 15 33 (by kernel_rfl) (by kernel_rfl)) rfl
      exact o_load2 (.tmp 33) rfl _ _ e0 (fits_cell (((unhide M).step hk2).at 1 _ rfl) 0 _ rfl) ⟨_, rfl, tq_is _ _ _ _ rfl, Kept.refl _ _, fun _ _ _ _ _ => trivial⟩
    | 17, ho, hsk =>
      obtain rfl := Option.some.inj ho
      have e0 : a'.eval (.tmp 32) = .int .i64 l.re := is_tq (hin 14 32 (by kernel_rfl) (by kernel_rfl)) rfl
      have e1 : a'.eval (.tmp 34) = .int .i64 v.nu := is_tq (hin 16 34 (by kernel_rfl) (by kernel_rfl)) rfl
      exact o_geq2 (.tmp 32) (.tmp 34) rfl _ _ bb (unhide HBB) e0 e1 ⟨_, rfl, tq_is _ _ _ _ rfl, Kept.refl _ _, fun _ _ _ _ _ => trivial⟩
    | 18, ho, hsk =>
      obtain rfl := Option.some.inj ho
      have e0 : a'.eval (.tmp 30) = .bool true := is_tq (hin 12 30 (by kernel_rfl) (by kernel_rfl)) rfl
      have e1 : a'.eval (.tmp 35) = .bool bb := is_tq (hin 17 35 (by kernel_rfl) (by kernel_rfl)) rfl
      exact o_pickAT (.tmp 30) (.tmp 35) rfl bb e0 e1 ⟨_, rfl, tq_is _ _ _ _ rfl, Kept.refl _ _, fun _ _ _ _ _ => trivial⟩
    | 19, ho, hsk =>
      obtain rfl := Option.some.inj ho
      have e0 : a'.eval (.tmp 36) = .bool bb := is_tq (hin 18 36 (by kernel_rfl) (by kernel_rfl)) rfl
      exact wp_assignV (.tmp 36) rfl _ e0 ⟨_, rfl, tq_is _ _ _ _ rfl, Kept.refl _ _, fun _ _ _ _ _ => trivial⟩
  intro w9 hk9
  replace hk9 : Kept [] W4 w9 := ⟨hk9.os, hk9.tape, hk9.output, hk9.size, hk9.block⟩
  simp only [valsQ, List.map_cons, List.map_nil, Option.getD_some, List.take_succ_cons, List.take_zero, putAll, Act.put, List.setIfInBounds_toArray, List.set_cons_succ, List.set_cons_zero]
  refine wpAny_done (by kernel_rfl) ?_ _
  replace M : Hid (Mm [] w w9 [(b1, 23, Ar.jobC J), (b2, 29, Vi.vwC v), (b4, 73, Le.Le.C l)]) := hide ((unhide M).step hk9)
  clear hk9
  go_wp2_with fail
  go_ret
  exact ⟨rfl, (unhide M).kept⟩
theorem rready51 (r sg eg : Nat) (D : Dv.Dev) (J : Ar.Job) (v : Vi.Vw) (k : Nat) (w : World) (h : Dv.Rv w r sg eg D) (hJ : J.n ≤ 8) (hv : v.ms.length = 8) (hk : k < 8) : Calls Tryz.prog 51 #[P0 r, aggV (Ar.jobC J), aggV (Vi.vwC v), .int .i64 k] w fun x w' => x = .returned (.bool (rready D J v k)) ∧ Kept [] w w' := by
  have hL := fun W (hk : Kept [] w W) => rlease42 r sg eg D J k W (h.kept hk (by simp) (by simp) (by simp)) hJ
  unfold rready
  obtain ⟨m, hm⟩ : ∃ m, v.ms[k]? = some m := ⟨_, List.getElem?_eq_getElem (by omega)⟩
  have hmm : v.mem (k : Int) = m := by unfold Vi.Vw.mem; rw [Int.toNat_natCast, List.getD_eq_getElem?_getD, hm]; rfl
  have hc := (Vi.vwC_at hm).2
  rw [Nat.mul_comm] at hc
  rw [hmm]
  by_cases he : (rlease D J k).2 = 0
  · rw [decide_eq_true he, Bool.true_and]
    by_cases hp : (rlease D J k).1.ep = m.2
    · rw [decide_eq_true hp, Bool.true_and]
      exact rready_z r J v k w hk _ _ hL m.2 hc (decide_eq_true he) (decide_eq_true hp) _ rfl
    · rw [decide_eq_false hp, Bool.false_and]
      exact rready_y r J v k w hk _ _ hL m.2 hc (decide_eq_true he) (decide_eq_false hp)
  · rw [decide_eq_false he, Bool.false_and]
    exact rready_x r J v k w _ _ hL (decide_eq_false he)
/-- The members' numbers, rising. -/
def rin (v : Vi.Vw) (j : Nat) : List Nat := (List.range j).filter (fun i => (v.mem (i : Int)).1)
theorem rin_succ (v : Vi.Vw) (j : Nat) : rin v (j + 1) = rin v j ++ (if (v.mem (j : Int)).1 then [j] else []) := by
  unfold rin
  rw [List.range_succ, List.filter_append]
  simp only [List.filter_cons, List.filter_nil]
theorem rin_len (v : Vi.Vw) (j : Nat) : (rin v j).length ≤ j := by
  unfold rin
  exact Nat.le_trans (List.length_filter_le _ _) (by simp)
/-- All: are there members, and all of them ready? -/
def rall (D : Dv.Dev) (J : Ar.Job) (v : Vi.Vw) : Bool := decide (0 < (rin v 8).length) && (rin v 8).all (fun i => rready D J v i)
set_option maxHeartbeats 4000000 in
theorem rall52 (r sg eg : Nat) (D : Dv.Dev) (J : Ar.Job) (v : Vi.Vw) (w : World) (h : Dv.Rv w r sg eg D) (hJ : J.n ≤ 8) (hv : v.ms.length = 8) : Calls Tryz.prog 52 #[P0 r, aggV (Ar.jobC J), aggV (Vi.vwC v)] w fun x w' => x = .returned (.bool (rall D J v)) ∧ Kept [] w w' := by
  have PL := hide (fun k (hk : k < 8) W (hk2 : Kept [] w W) => rready51 r sg eg D J v k W (h.kept hk2 (by simp) (by simp) (by simp)) hJ hv hk)
  have HVL : Hid ((Vi.vwC v).length = 19) := Vi.vwC_len hv
  have HV8 := hide hv
  obtain ⟨RB, hRB⟩ : ∃ RB, RB = rall D J v := ⟨_, rfl⟩
  have HRB := hide hRB
  rw [← hRB]
  clear h hJ hRB hv
  go_enter Tryz.func52, Tryz.ntmps52
  have M : Hid (Mm [] w w []) := hide Mm.init
  go_wp2_with (
    first
    | (refine wpBoxV rfl (.tmp 1) rfl (Ar.jobC J) rfl ?_
       intro W1 b1 e1 B1 K1
       replace M : Hid (Mm [] w W1 [(b1, 23, Ar.jobC J)]) := hide ((unhide M).new e1 B1 K1)
       clear e1 B1 K1
       refine Stp.go ?_))
  constructor
  go_wp2_with (
    first
    | (refine wpBoxV rfl (.tmp 2) rfl (Vi.vwC v) rfl ?_
       intro W2 b2 e2 B2 K2
       replace M : Hid (Mm [] w W2 [(b1, 23, Ar.jobC J), (b2, 29, Vi.vwC v)]) := hide ((unhide M).new e2 B2 K2)
       clear e2 B2 K2
       refine Stp.go ?_))
  constructor
  go_wp2_with fail
  go_loopw [7, 8] (fun xk xn wr => ∃ j : Nat, j ≤ 8 ∧ xk = .int .i64 ((rin v j).length : Nat) ∧ xn = .int .i64 j ∧ Hid ((rin v j).all (fun i => rready D J v i) = true) ∧ Hid (Mm [] w wr [(b1, 23, Ar.jobC J), (b2, 29, Vi.vwC v)])) (fun _ i _ => (8 - intOf i).toNat)
  case atStart => exact ⟨0, by omega, rfl, rfl, rfl, M⟩
  case round =>
    clear M
    obtain ⟨j, hj, rfl, rfl, HA, M⟩ := hrel
    have hln := rin_len v j
    by_cases hlt : j < 8
    · have hd : decide ((j : Int) < 8) = true := by simp; omega
      have hj8 : (j : Int) < 8 := by omega
      have HLT := hide hlt
      obtain ⟨m, hm2⟩ : ∃ m, v.ms[j]? = some m := ⟨_, List.getElem?_eq_getElem (by rw [unhide HV8]; omega)⟩
      have hmm : v.mem (j : Int) = m := by unfold Vi.Vw.mem; rw [Int.toNat_natCast, List.getD_eq_getElem?_getD, hm2]; rfl
      have HS := hide (rin_succ v j)
      rw [hmm] at HS
      obtain ⟨x0, x1⟩ := Vi.vwC_at hm2
      rw [Nat.mul_comm] at x0
      have hc0 := fits_cell ((unhide M).at 1 _ rfl) _ _ x0
      obtain ⟨mi, me⟩ := m
      clear x0 x1 hm2 hmm
      obtain ⟨c, hc⟩ : ∃ c, c = (rin v j).length := ⟨_, rfl⟩
      have HC := hide hc
      rw [← hc] at hln ⊢
      have hcI : (c : Int) ≤ 8 := by omega
      clear hc
      cases mi with
      | false =>
        have HS2 : Hid (rin v (j + 1) = rin v j) := by have h9 := unhide HS; simp at h9; exact h9
        go_wp2_with fail
        go_roundw
        case rel => exact ⟨j + 1, by omega, by rw [unhide HS2, unhide HC], by first | rfl | go_num, by rw [unhide HS2]; exact HA, M⟩
        case measure => simp [intOf]; omega
      | true =>
        have HS2 : Hid (rin v (j + 1) = rin v j ++ [j]) := by have h9 := unhide HS; simp at h9; exact h9
        obtain ⟨rb, hrb⟩ : ∃ rb, rb = rready D J v j := ⟨_, rfl⟩
        have PJ := hide (unhide PL j hlt)
        rw [← hrb] at PJ
        have HRJ := hide hrb
        clear hrb
        cases rb with
        | true =>
          go_wp2_with (
            first
            | (refine wpLoadA jrow rfl (.tmp 4) rfl b1 0 rfl (Ar.jobC J) rfl ((unhide M).at 0 _ rfl).range ?_
               refine Stp.go ?_))
          constructor
          go_wp2_with (
            first
            | (refine wpLoadA Vi.row26 rfl (.tmp 5) rfl b2 0 rfl (Vi.vwC v) (unhide HVL) ((unhide M).at 1 _ rfl).range ?_
               refine Stp.go ?_))
          constructor
          go_wp2_with (
            first
            | (go_at_call 51
               refine (unhide PJ _ (unhide M).kept).mono ?_
               rintro e W31 ⟨rfl, K31⟩
               replace M : Hid (Mm [] w W31 [(b1, 23, Ar.jobC J), (b2, 29, Vi.vwC v)]) := hide ((unhide M).step K31)
               clear K31
               refine Stp.go ?_))
          constructor
          go_wp2_with fail
          go_roundw
          case rel => exact ⟨j + 1, by omega, by rw [unhide HS2, unhide HC]; simp, by first | rfl | go_num, by rw [unhide HS2]; show _ = _; rw [List.all_append, unhide HA]; simp [← unhide HRJ], M⟩
          case measure => simp [intOf]; omega
        | false =>
          go_wp2_with (
            first
            | (refine wpLoadA jrow rfl (.tmp 4) rfl b1 0 rfl (Ar.jobC J) rfl ((unhide M).at 0 _ rfl).range ?_
               refine Stp.go ?_))
          constructor
          go_wp2_with (
            first
            | (refine wpLoadA Vi.row26 rfl (.tmp 5) rfl b2 0 rfl (Vi.vwC v) (unhide HVL) ((unhide M).at 1 _ rfl).range ?_
               refine Stp.go ?_))
          constructor
          go_wp2_with (
            first
            | (go_at_call 51
               refine (unhide PJ _ (unhide M).kept).mono ?_
               rintro e W31 ⟨rfl, K31⟩
               replace M : Hid (Mm [] w W31 [(b1, 23, Ar.jobC J), (b2, 29, Vi.vwC v)]) := hide ((unhide M).step K31)
               clear K31
               refine Stp.go ?_))
          constructor
          go_wp2_with fail
          go_ret
          refine ⟨?_, (unhide M).kept⟩
          have hF : rall D J v = false := by
            unfold rall
            rw [Bool.and_eq_false_iff]
            right
            rw [List.all_eq_false]
            refine ⟨j, ?_, by rw [← unhide HRJ]; simp⟩
            unfold rin
            rw [List.mem_filter]
            refine ⟨List.mem_range.2 (unhide HLT), ?_⟩
            have h9 : j ∈ rin v (j + 1) := by rw [unhide HS2]; simp
            unfold rin at h9
            exact (List.mem_filter.1 h9).2
          rw [unhide HRB, hF]; rfl
    · obtain rfl : j = 8 := by omega
      have HF : Hid (rall D J v = decide (0 < (rin v 8).length)) := by show _ = _; unfold rall; rw [unhide HA, Bool.and_true]
      obtain ⟨c, hc⟩ : ∃ c, c = (rin v 8).length := ⟨_, rfl⟩
      rw [← hc] at HF hln ⊢
      have hcI : (c : Int) ≤ 8 := by omega
      clear hc
      by_cases hc0 : 0 < c
      · have hd9 : decide ((0 : Int) < (c : Int)) = true := by simp; omega
        go_wp2_with fail
        go_ret
        exact ⟨by rw [unhide HRB, unhide HF, decide_eq_true hc0]; rfl, (unhide M).kept⟩
      · have hd9 : decide ((0 : Int) < (c : Int)) = false := by simp; omega
        go_wp2_with fail
        go_ret
        exact ⟨by rw [unhide HRB, unhide HF, decide_eq_false hc0]; rfl, (unhide M).kept⟩

end Go.Proofs.YtcfflbafclmheaaGreatDoor

/-
  The document's Join and Open.
-/
namespace Go.Proofs.YtcfflbafclmheaaGreatDoor
set_option maxRecDepth 100000
set_option linter.unusedSimpArgs false
open Go.RowKit
open Le (Mm wpStoreM wpStoreM1)


theorem getV_len (s : List Int) : (Vi.getV s).1.ms.length = 8 := by
  unfold Vi.getV
  split
  · rfl
  · split
    · simp [Vi.viewV]
    · rfl
theorem getV_may (s : List Int) (h : (Vi.getV s).2 = 0) : (Vi.getV s).1.may = true := by
  unfold Vi.getV at h ⊢
  split
  · rfl
  · rename_i hz
    rw [if_neg hz] at h
    split
    · rename_i hp
      cases hm : (Vi.viewV s).may with
      | true => rfl
      | false => unfold Vi.putV at hp; rw [if_pos hm] at hp; have h9 := congrArg Prod.snd hp; simp at h9
    · rename_i hp
      rw [if_neg hp] at h
      simp at h
theorem next_may {v : Vi.Vw} (hm : v.may = true) (hn : v.nu ≠ 4611686018427387904) (f n : Int) (m : Bool × Int) (hk : Vi.memOk m = true) (hf : Vi.isNo f = true) (hi : ((⟨v.nu + 1, false, f, v.ms.set n.toNat m⟩ : Vi.Vw).mem f).1 = true) : (⟨v.nu + 1, false, f, v.ms.set n.toNat m⟩ : Vi.Vw).may = true := by
  have h1 := Vi.may_nu hm
  have hall : v.ms.all Vi.memOk = true := by
    have h9 := hm
    unfold Vi.Vw.may at h9
    split at h9
    · have := of_decide_eq_true h9; rw [this]; rfl
    · simp only [Bool.and_eq_true] at h9; exact h9.2.2
  unfold Vi.Vw.may
  simp only
  rw [if_neg (by omega), decide_eq_true (by omega), Bool.true_and]
  unfold Vi.Vw.isIn
  rw [hf, Bool.true_and, hi, Bool.true_and, List.all_eq_true]
  intro x hx
  rcases List.mem_or_eq_of_mem_set hx with h2 | h2
  · exact List.all_eq_true.1 hall x h2
  · rw [h2]; exact hk
theorem nx_ok {v : Vi.Vw} (hv : v.Ok) (hm : v.may = true) (f n : Int) (m : Bool × Int) (hk : Vi.memOk m = true) (hf : Vi.isNo f = true) : (⟨v.nu + 1, false, f, v.ms.set n.toNat m⟩ : Vi.Vw).Ok := by
  have h1 := Vi.may_nu hm
  have h2 : 0 ≤ f ∧ f < 8 := of_decide_eq_true hf
  refine ⟨⟨by simp only; omega, by simp only; omega⟩, ⟨by simp only; omega, by simp only; omega⟩, by simp [hv.len], ?_⟩
  intro x hx
  rcases List.mem_or_eq_of_mem_set hx with h3 | h3
  · exact hv.ep x h3
  · rw [h3]
    unfold Vi.memOk Vi.isEp at hk
    split at hk <;> simp at hk <;> constructor <;> omega
theorem wpStoreMemP {ops : Array Oper} {rest : List Oper} {op : Oper} {a : Act} {w w0 : World} {Q : Exit → Act → World → Prop} {bs : List (Nat × Nat × List Value)} {r sg eg : Nat} {D : Dv.Dev} (hgd : op.guard = none) (x y : Operand) (ho : op.op = .store 26 x y) (hd : op.dst = none) (b n i : Nat) (v : Vi.Vw) (m : Bool × Int) (hx : a.eval x = .pointer (some ⟨b, 3 + n * 2, none⟩)) (hy : a.eval y = aggV (Vi.memC m)) (hM : Ph r sg eg D w0 w bs) (hi : bs[i]? = some (b, 29, Vi.vwC v)) (hn : n < 8) (hv : v.ms.length = 8)
    (h : ∀ W, Ph r sg eg D w0 W (bs.set i (b, 29, Vi.vwC ⟨v.nu, v.op, v.fd, v.ms.set n m⟩)) → wpList Tryz.prog ops Q rest a W) : wpList Tryz.prog ops Q (op :: rest) a w :=
  wpList_plain hgd fun K hK => by
    refine Vi.o_stMem x y ho hd b n v m hx hy (hM.at i _ hi) hn hv (fun W hB hk => ?_)
    rw [hd]
    exact hK _ _ (h W (hM.upd (hM.mm.mut i hi hk hB) (set_fst i hi)))
theorem build26p (w : World) (o : Bool) (e : Int) : (Instr.build 26 #[(0, .bool o), (1, .int .i64 e)]).run Tryz.prog w = .ok (aggV (Vi.memC (o, e))) w := by kernel_rfl
theorem res38 (w : World) (z : Nat) (vs : List Value) (b : Bool) (e : Int) (tmps : Array Value) (h4 : tmps[8]?.getD undef = P0 z) (h5 : tmps[9]?.getD undef = .bool b) (h6 : tmps[10]?.getD undef = .int .i64 e) (hl : vs.length = 19) (hb : Blk w z 29 vs) : (results Tryz.f38 tmps).run Tryz.prog w = .ok (.tuple #[aggV vs, .bool b, .int .i64 e]) w := by
  have := loadV Vi.row26 hl hb
  simp [results, Tryz.results38, h4, h5, h6, this, asAddr]
theorem res41 (w : World) (z : Nat) (vs : List Value) (b : Bool) (e : Int) (tmps : Array Value) (h4 : tmps[8]?.getD undef = P0 z) (h5 : tmps[9]?.getD undef = .bool b) (h6 : tmps[10]?.getD undef = .int .i64 e) (hl : vs.length = 19) (hb : Blk w z 29 vs) : (results Tryz.f41 tmps).run Tryz.prog w = .ok (.tuple #[aggV vs, .bool b, .int .i64 e]) w := by
  have := loadV Vi.row26 hl hb
  simp [results, Tryz.results41, h4, h5, h6, this, asAddr]
set_option maxHeartbeats 8000000 in
theorem rjoin_1 (r sg eg : Nat) (D : Dv.Dev) (J : Ar.Job) (ep : Int) (w : World) (h : Dv.Rv w r sg eg D) (n e1 : Int) (PW : Hid (∀ W, Dv.Rv W r sg eg D → Calls Tryz.prog 96 #[P0 r, aggV (Ar.jobC J), .int .i64 n, .int .i64 ep] W fun e w' => e = .returned (.int .i64 e1) ∧ Kept [] W w')) (he : ¬ e1 = 0) : Calls Tryz.prog 38 #[P0 r, aggV (Ar.jobC J), .int .i64 n, .int .i64 ep] w fun x w' => x = .returned (.tuple #[aggV (Vi.vwC Vi.zv), .bool false, .int .i64 e1]) ∧ Dv.Rv w' r sg eg D ∧ Kept [r, sg, eg] w w' := by
  have M : Hid (Ph r sg eg D w w []) := hide (Ph.init h)
  clear h
  go_enter Tryz.func38, Tryz.ntmps38
  go_wp2_with (
    first
    | (refine wpBoxV rfl (.tmp 1) rfl (Ar.jobC J) rfl ?_
       intro W1 b1 e1 B1 K1
       replace M : Hid (Ph r sg eg D w W1 [(b1, 23, Ar.jobC J)]) := hide ((unhide M).new e1 B1 K1)
       clear e1 B1 K1
       refine Stp.go ?_))
  constructor
  go_wp2_with (
    first
    | (refine wpAllocW (Vi.vwC Vi.zv) Vi.zero26 8 rfl rfl rfl ?_
       intro W2 b2 e2 B2 K2
       replace M : Hid (Ph r sg eg D w W2 [(b1, 23, Ar.jobC J), (b2, 29, Vi.vwC Vi.zv)]) := hide ((unhide M).new e2 B2 K2)
       clear e2 B2 K2
       refine Stp.go ?_))
  constructor
  go_wp2_with (
    first
    | (refine wpLoadA jrow rfl (.tmp 5) rfl b1 0 rfl (Ar.jobC J) rfl ((unhide M).at 0 _ rfl).range ?_
       refine Stp.go ?_))
  constructor
  go_wp2_with (
    first
    | (go_at_call 96
       refine (unhide PW _ (unhide M).rv).mono ?_
       rintro e W3 ⟨rfl, K3⟩
       replace M : Hid (Ph r sg eg D w W3 [(b1, 23, Ar.jobC J), (b2, 29, Vi.vwC Vi.zv)]) := hide ((unhide M).step K3)
       clear K3
       refine Stp.go ?_))
  constructor
  go_wp2_with (
    first
    | (refine wpBuildZ (Vi.vwC Vi.zv) Vi.build26 rfl rfl ?_
       refine Stp.go ?_))
  constructor
  go_wp2_with (
    first
    | (refine wpStoreP Vi.row26 rfl (.tmp 8) (.tmp 21) rfl rfl b2 1 (Vi.vwC Vi.zv) rfl rfl rfl (Vi.vwC_one _) (unhide M) rfl rfl ?_
       intro W4 N4
       replace M : Hid (Ph r sg eg D w W4 [(b1, 23, Ar.jobC J), (b2, 29, Vi.vwC Vi.zv)]) := hide N4
       clear N4
       refine Stp.go ?_))
  constructor
  go_wp2_with fail
  refine bodyPost_ret (res38 _ b2 (Vi.vwC Vi.zv) false e1 _ rfl rfl rfl rfl ((unhide M).at 1 _ rfl)) rfl ?_
  exact ⟨rfl, (unhide M).rv, (unhide M).kept⟩
set_option maxHeartbeats 8000000 in
theorem rjoin_2 (r sg eg : Nat) (D : Dv.Dev) (J : Ar.Job) (ep : Int) (w : World) (h : Dv.Rv w r sg eg D) (n e2 : Int) (v : Vi.Vw) (PW : Hid (∀ W, Dv.Rv W r sg eg D → Calls Tryz.prog 96 #[P0 r, aggV (Ar.jobC J), .int .i64 n, .int .i64 ep] W fun e w' => e = .returned (.int .i64 0) ∧ Kept [] W w')) (PV : Hid (∀ W, Dv.Rv W r sg eg D → Calls Tryz.prog 14 #[P0 r, aggV (Ar.jobC J)] W fun x w' => x = .returned (.tuple #[aggV (Vi.vwC v), .int .i64 e2]) ∧ Kept [] W w')) (HVL : Hid ((Vi.vwC v).length = 19)) (he : ¬ e2 = 0) : Calls Tryz.prog 38 #[P0 r, aggV (Ar.jobC J), .int .i64 n, .int .i64 ep] w fun x w' => x = .returned (.tuple #[aggV (Vi.vwC Vi.zv), .bool false, .int .i64 e2]) ∧ Dv.Rv w' r sg eg D ∧ Kept [r, sg, eg] w w' := by
  have M : Hid (Ph r sg eg D w w []) := hide (Ph.init h)
  clear h
  go_enter Tryz.func38, Tryz.ntmps38
  go_wp2_with (
    first
    | (refine wpBoxV rfl (.tmp 1) rfl (Ar.jobC J) rfl ?_
       intro W1 b1 e1 B1 K1
       replace M : Hid (Ph r sg eg D w W1 [(b1, 23, Ar.jobC J)]) := hide ((unhide M).new e1 B1 K1)
       clear e1 B1 K1
       refine Stp.go ?_))
  constructor
  go_wp2_with (
    first
    | (refine wpAllocW (Vi.vwC Vi.zv) Vi.zero26 8 rfl rfl rfl ?_
       intro W2 b2 e2 B2 K2
       replace M : Hid (Ph r sg eg D w W2 [(b1, 23, Ar.jobC J), (b2, 29, Vi.vwC Vi.zv)]) := hide ((unhide M).new e2 B2 K2)
       clear e2 B2 K2
       refine Stp.go ?_))
  constructor
  go_wp2_with (
    first
    | (refine wpLoadA jrow rfl (.tmp 5) rfl b1 0 rfl (Ar.jobC J) rfl ((unhide M).at 0 _ rfl).range ?_
       refine Stp.go ?_))
  constructor
  go_wp2_with (
    first
    | (go_at_call 96
       refine (unhide PW _ (unhide M).rv).mono ?_
       rintro e W3 ⟨rfl, K3⟩
       replace M : Hid (Ph r sg eg D w W3 [(b1, 23, Ar.jobC J), (b2, 29, Vi.vwC Vi.zv)]) := hide ((unhide M).step K3)
       clear K3
       refine Stp.go ?_))
  constructor
  go_wp2_with (
    first
    | (refine wpLoadA jrow rfl (.tmp 5) rfl b1 0 rfl (Ar.jobC J) rfl ((unhide M).at 0 _ rfl).range ?_
       refine Stp.go ?_))
  constructor
  go_wp2_with (
    first
    | (go_at_call 14
       refine (unhide PV _ (unhide M).rv).mono ?_
       rintro e W4 ⟨rfl, K4⟩
       replace M : Hid (Ph r sg eg D w W4 [(b1, 23, Ar.jobC J), (b2, 29, Vi.vwC Vi.zv)]) := hide ((unhide M).step K4)
       clear K4
       refine Stp.go ?_))
  constructor
  go_wp2_with (
    first
    | (refine wpNew Vi.row26 (Vi.vwC Vi.zv) rfl Vi.zero26 12 rfl rfl rfl (.tmp 27) rfl rfl rfl (Vi.vwC v) (unhide HVL) (Vi.vwC_one _) (by kernel_rfl) (by kernel_rfl) ?_
       intro W5 b5 e5 B5 K5
       replace M : Hid (Ph r sg eg D w W5 [(b1, 23, Ar.jobC J), (b2, 29, Vi.vwC Vi.zv), (b5, 29, Vi.vwC v)]) := hide ((unhide M).new e5 B5 K5)
       clear e5 B5 K5
       refine Stp.go ?_))
  constructor
  go_wp2_with (
    first
    | (refine wpBuildZ (Vi.vwC Vi.zv) Vi.build26 rfl rfl ?_
       refine Stp.go ?_))
  constructor
  go_wp2_with (
    first
    | (refine wpStoreP Vi.row26 rfl (.tmp 8) (.tmp 31) rfl rfl b2 1 (Vi.vwC Vi.zv) rfl rfl rfl (Vi.vwC_one _) (unhide M) rfl rfl ?_
       intro W6 N6
       replace M : Hid (Ph r sg eg D w W6 [(b1, 23, Ar.jobC J), (b2, 29, Vi.vwC Vi.zv), (b5, 29, Vi.vwC v)]) := hide N6
       clear N6
       refine Stp.go ?_))
  constructor
  go_wp2_with fail
  refine bodyPost_ret (res38 _ b2 (Vi.vwC Vi.zv) false e2 _ rfl rfl rfl rfl ((unhide M).at 1 _ rfl)) rfl ?_
  exact ⟨rfl, (unhide M).rv, (unhide M).kept⟩
set_option maxHeartbeats 8000000 in
theorem rjoin_3 (r sg eg : Nat) (D : Dv.Dev) (J : Ar.Job) (ep : Int) (w : World) (h : Dv.Rv w r sg eg D) (k : Nat) (v : Vi.Vw) (PW : Hid (∀ W, Dv.Rv W r sg eg D → Calls Tryz.prog 96 #[P0 r, aggV (Ar.jobC J), .int .i64 k, .int .i64 ep] W fun e w' => e = .returned (.int .i64 0) ∧ Kept [] W w')) (PV : Hid (∀ W, Dv.Rv W r sg eg D → Calls Tryz.prog 14 #[P0 r, aggV (Ar.jobC J)] W fun x w' => x = .returned (.tuple #[aggV (Vi.vwC v), .int .i64 0]) ∧ Kept [] W w')) (HVL : Hid ((Vi.vwC v).length = 19)) (mi : Bool) (me : Int) (X0 : Hid ((Vi.vwC v)[3 + k * 2]? = some (.bool mi))) (X1 : Hid ((Vi.vwC v)[3 + k * 2 + 1]? = some (.int .i64 me))) (hk8 : (k : Int) < 8) (hmi : mi = true) (hme : decide (ep ≤ me) = true) : Calls Tryz.prog 38 #[P0 r, aggV (Ar.jobC J), .int .i64 k, .int .i64 ep] w fun x w' => x = .returned (.tuple #[aggV (Vi.vwC v), .bool false, .int .i64 0]) ∧ Dv.Rv w' r sg eg D ∧ Kept [r, sg, eg] w w' := by
  have M : Hid (Ph r sg eg D w w []) := hide (Ph.init h)
  clear h
  subst hmi
  go_enter Tryz.func38, Tryz.ntmps38
  go_wp2_with (
    first
    | (refine wpBoxV rfl (.tmp 1) rfl (Ar.jobC J) rfl ?_
       intro W1 b1 e1 B1 K1
       replace M : Hid (Ph r sg eg D w W1 [(b1, 23, Ar.jobC J)]) := hide ((unhide M).new e1 B1 K1)
       clear e1 B1 K1
       refine Stp.go ?_))
  constructor
  go_wp2_with (
    first
    | (refine wpAllocW (Vi.vwC Vi.zv) Vi.zero26 8 rfl rfl rfl ?_
       intro W2 b2 e2 B2 K2
       replace M : Hid (Ph r sg eg D w W2 [(b1, 23, Ar.jobC J), (b2, 29, Vi.vwC Vi.zv)]) := hide ((unhide M).new e2 B2 K2)
       clear e2 B2 K2
       refine Stp.go ?_))
  constructor
  go_wp2_with (
    first
    | (refine wpLoadA jrow rfl (.tmp 5) rfl b1 0 rfl (Ar.jobC J) rfl ((unhide M).at 0 _ rfl).range ?_
       refine Stp.go ?_))
  constructor
  go_wp2_with (
    first
    | (go_at_call 96
       refine (unhide PW _ (unhide M).rv).mono ?_
       rintro e W3 ⟨rfl, K3⟩
       replace M : Hid (Ph r sg eg D w W3 [(b1, 23, Ar.jobC J), (b2, 29, Vi.vwC Vi.zv)]) := hide ((unhide M).step K3)
       clear K3
       refine Stp.go ?_))
  constructor
  go_wp2_with (
    first
    | (refine wpLoadA jrow rfl (.tmp 5) rfl b1 0 rfl (Ar.jobC J) rfl ((unhide M).at 0 _ rfl).range ?_
       refine Stp.go ?_))
  constructor
  go_wp2_with (
    first
    | (go_at_call 14
       refine (unhide PV _ (unhide M).rv).mono ?_
       rintro e W4 ⟨rfl, K4⟩
       replace M : Hid (Ph r sg eg D w W4 [(b1, 23, Ar.jobC J), (b2, 29, Vi.vwC Vi.zv)]) := hide ((unhide M).step K4)
       clear K4
       refine Stp.go ?_))
  constructor
  go_wp2_with (
    first
    | (refine wpNew Vi.row26 (Vi.vwC Vi.zv) rfl Vi.zero26 12 rfl rfl rfl (.tmp 27) rfl rfl rfl (Vi.vwC v) (unhide HVL) (Vi.vwC_one _) (by kernel_rfl) (by kernel_rfl) ?_
       intro W5 b5 e5 B5 K5
       replace M : Hid (Ph r sg eg D w W5 [(b1, 23, Ar.jobC J), (b2, 29, Vi.vwC Vi.zv), (b5, 29, Vi.vwC v)]) := hide ((unhide M).new e5 B5 K5)
       clear e5 B5 K5
       have c0 := fits_cell ((unhide M).at 2 _ rfl) 0 (.int .i64 v.nu) rfl
       have c1 := fits_cell ((unhide M).at 2 _ rfl) _ _ (unhide X0)
       have c2 := fits_cell ((unhide M).at 2 _ rfl) _ _ (unhide X1)
       refine Stp.go ?_))
  constructor
  go_wp2_with (
    first
    | (refine wpLoadA Vi.row26 rfl (.tmp 12) rfl b5 0 rfl (Vi.vwC v) (unhide HVL) ((unhide M).at 2 _ rfl).range ?_
       refine Stp.go ?_))
  constructor
  go_wp2_with (
    first
    | (refine wpStoreP Vi.row26 rfl (.tmp 8) (.tmp 47) rfl rfl b2 1 (Vi.vwC v) rfl rfl (unhide HVL) (Vi.vwC_one _) (unhide M) rfl rfl ?_
       intro W6 N6
       replace M : Hid (Ph r sg eg D w W6 [(b1, 23, Ar.jobC J), (b2, 29, Vi.vwC v), (b5, 29, Vi.vwC v)]) := hide N6
       clear N6
       refine Stp.go ?_))
  constructor
  go_wp2_with fail
  refine bodyPost_ret (res38 _ b2 (Vi.vwC v) false 0 _ rfl rfl rfl (unhide HVL) ((unhide M).at 1 _ rfl)) rfl ?_
  exact ⟨rfl, (unhide M).rv, (unhide M).kept⟩
set_option maxHeartbeats 8000000 in
theorem rjoin_4a (r sg eg : Nat) (D : Dv.Dev) (J : Ar.Job) (ep : Int) (w : World) (h : Dv.Rv w r sg eg D) (k : Nat) (v : Vi.Vw) (PW : Hid (∀ W, Dv.Rv W r sg eg D → Calls Tryz.prog 96 #[P0 r, aggV (Ar.jobC J), .int .i64 k, .int .i64 ep] W fun e w' => e = .returned (.int .i64 0) ∧ Kept [] W w')) (PV : Hid (∀ W, Dv.Rv W r sg eg D → Calls Tryz.prog 14 #[P0 r, aggV (Ar.jobC J)] W fun x w' => x = .returned (.tuple #[aggV (Vi.vwC v), .int .i64 0]) ∧ Kept [] W w')) (HVL : Hid ((Vi.vwC v).length = 19)) (mi : Bool) (me : Int) (X0 : Hid ((Vi.vwC v)[3 + k * 2]? = some (.bool mi))) (X1 : Hid ((Vi.vwC v)[3 + k * 2 + 1]? = some (.int .i64 me))) (hk8 : (k : Int) < 8) (hmi : mi = false) (HNU : Hid (v.nu = 4611686018427387904)) : Calls Tryz.prog 38 #[P0 r, aggV (Ar.jobC J), .int .i64 k, .int .i64 ep] w fun x w' => x = .returned (.tuple #[aggV (Vi.vwC Vi.zv), .bool false, .int .i64 5]) ∧ Dv.Rv w' r sg eg D ∧ Kept [r, sg, eg] w w' := by
  have M : Hid (Ph r sg eg D w w []) := hide (Ph.init h)
  clear h
  subst hmi
  go_enter Tryz.func38, Tryz.ntmps38
  go_wp2_with (
    first
    | (refine wpBoxV rfl (.tmp 1) rfl (Ar.jobC J) rfl ?_
       intro W1 b1 e1 B1 K1
       replace M : Hid (Ph r sg eg D w W1 [(b1, 23, Ar.jobC J)]) := hide ((unhide M).new e1 B1 K1)
       clear e1 B1 K1
       refine Stp.go ?_))
  constructor
  go_wp2_with (
    first
    | (refine wpAllocW (Vi.vwC Vi.zv) Vi.zero26 8 rfl rfl rfl ?_
       intro W2 b2 e2 B2 K2
       replace M : Hid (Ph r sg eg D w W2 [(b1, 23, Ar.jobC J), (b2, 29, Vi.vwC Vi.zv)]) := hide ((unhide M).new e2 B2 K2)
       clear e2 B2 K2
       refine Stp.go ?_))
  constructor
  go_wp2_with (
    first
    | (refine wpLoadA jrow rfl (.tmp 5) rfl b1 0 rfl (Ar.jobC J) rfl ((unhide M).at 0 _ rfl).range ?_
       refine Stp.go ?_))
  constructor
  go_wp2_with (
    first
    | (go_at_call 96
       refine (unhide PW _ (unhide M).rv).mono ?_
       rintro e W3 ⟨rfl, K3⟩
       replace M : Hid (Ph r sg eg D w W3 [(b1, 23, Ar.jobC J), (b2, 29, Vi.vwC Vi.zv)]) := hide ((unhide M).step K3)
       clear K3
       refine Stp.go ?_))
  constructor
  go_wp2_with (
    first
    | (refine wpLoadA jrow rfl (.tmp 5) rfl b1 0 rfl (Ar.jobC J) rfl ((unhide M).at 0 _ rfl).range ?_
       refine Stp.go ?_))
  constructor
  go_wp2_with (
    first
    | (go_at_call 14
       refine (unhide PV _ (unhide M).rv).mono ?_
       rintro e W4 ⟨rfl, K4⟩
       replace M : Hid (Ph r sg eg D w W4 [(b1, 23, Ar.jobC J), (b2, 29, Vi.vwC Vi.zv)]) := hide ((unhide M).step K4)
       clear K4
       refine Stp.go ?_))
  constructor
  go_wp2_with (
    first
    | (refine wpNew Vi.row26 (Vi.vwC Vi.zv) rfl Vi.zero26 12 rfl rfl rfl (.tmp 27) rfl rfl rfl (Vi.vwC v) (unhide HVL) (Vi.vwC_one _) (by kernel_rfl) (by kernel_rfl) ?_
       intro W5 b5 e5 B5 K5
       replace M : Hid (Ph r sg eg D w W5 [(b1, 23, Ar.jobC J), (b2, 29, Vi.vwC Vi.zv), (b5, 29, Vi.vwC v)]) := hide ((unhide M).new e5 B5 K5)
       clear e5 B5 K5
       have c0 := fits_cell ((unhide M).at 2 _ rfl) 0 (.int .i64 v.nu) rfl
       have c1 := fits_cell ((unhide M).at 2 _ rfl) _ _ (unhide X0)
       have c2 := fits_cell ((unhide M).at 2 _ rfl) _ _ (unhide X1)
       rw [unhide HNU] at c0
       refine Stp.go ?_))
  constructor
  go_wp2_with (
    first
    | (refine wpBuildZ (Vi.vwC Vi.zv) Vi.build26 rfl rfl ?_
       refine Stp.go ?_))
  constructor
  go_wp2_with (
    first
    | (refine wpStoreP Vi.row26 rfl (.tmp 8) (.tmp 51) rfl rfl b2 1 (Vi.vwC Vi.zv) rfl rfl rfl (Vi.vwC_one _) (unhide M) rfl rfl ?_
       intro W6 N6
       replace M : Hid (Ph r sg eg D w W6 [(b1, 23, Ar.jobC J), (b2, 29, Vi.vwC Vi.zv), (b5, 29, Vi.vwC v)]) := hide N6
       clear N6
       refine Stp.go ?_))
  constructor
  go_wp2_with fail
  refine bodyPost_ret (res38 _ b2 (Vi.vwC Vi.zv) false 5 _ rfl rfl rfl rfl ((unhide M).at 1 _ rfl)) rfl ?_
  exact ⟨rfl, (unhide M).rv, (unhide M).kept⟩
set_option maxHeartbeats 8000000 in
theorem rjoin_5a (r sg eg : Nat) (D : Dv.Dev) (J : Ar.Job) (ep : Int) (w : World) (h : Dv.Rv w r sg eg D) (k : Nat) (v u y : Vi.Vw) (yb : Bool) (ye : Int) (D2 : Dv.Dev) (PW : Hid (∀ W, Dv.Rv W r sg eg D → Calls Tryz.prog 96 #[P0 r, aggV (Ar.jobC J), .int .i64 k, .int .i64 ep] W fun e w' => e = .returned (.int .i64 0) ∧ Kept [] W w')) (PV : Hid (∀ W, Dv.Rv W r sg eg D → Calls Tryz.prog 14 #[P0 r, aggV (Ar.jobC J)] W fun x w' => x = .returned (.tuple #[aggV (Vi.vwC v), .int .i64 0]) ∧ Kept [] W w')) (HVL : Hid ((Vi.vwC v).length = 19)) (PS : Hid (∀ W, Dv.Rv W r sg eg D → Calls Tryz.prog 97 #[P0 r, aggV (Ar.jobC J), .int .i64 k, .int .i64 ep, aggV (Vi.vwC v), aggV (Vi.vwC u)] W fun x w' => x = .returned (.tuple #[aggV (Vi.vwC y), .bool yb, .int .i64 ye]) ∧ Dv.Rv w' r sg eg D2 ∧ Kept [r, sg, eg] W w')) (HYL : Hid ((Vi.vwC y).length = 19)) (mi : Bool) (me : Int) (X0 : Hid ((Vi.vwC v)[3 + k * 2]? = some (.bool mi))) (X1 : Hid ((Vi.vwC v)[3 + k * 2 + 1]? = some (.int .i64 me))) (hk8 : (k : Int) < 8) (hmi : mi = false) (hnu : decide (v.nu = 4611686018427387904) = false) (hnr : 0 ≤ v.nu ∧ v.nu ≤ 4611686018427387904) (HK8 : Hid (k < 8)) (HL8 : Hid (v.ms.length = 8)) (HU : Hid ((⟨v.nu + 1, false, (k : Int), v.ms.set k (true, ep)⟩ : Vi.Vw) = u)) (HUL : Hid ((Vi.vwC u).length = 19)) : Calls Tryz.prog 38 #[P0 r, aggV (Ar.jobC J), .int .i64 k, .int .i64 ep] w fun x w' => x = .returned (.tuple #[aggV (Vi.vwC y), .bool yb, .int .i64 ye]) ∧ Dv.Rv w' r sg eg D2 ∧ Kept [r, sg, eg] w w' := by
  have M : Hid (Ph r sg eg D w w []) := hide (Ph.init h)
  clear h
  subst hmi
  obtain ⟨hn0, hn1⟩ := hnr
  have hnu2 : ¬ v.nu = 4611686018427387904 := of_decide_eq_false hnu
  go_enter Tryz.func38, Tryz.ntmps38
  go_wp2_with (
    first
    | (refine wpBoxV rfl (.tmp 1) rfl (Ar.jobC J) rfl ?_
       intro W1 b1 e1 B1 K1
       replace M : Hid (Ph r sg eg D w W1 [(b1, 23, Ar.jobC J)]) := hide ((unhide M).new e1 B1 K1)
       clear e1 B1 K1
       refine Stp.go ?_))
  constructor
  go_wp2_with (
    first
    | (refine wpAllocW (Vi.vwC Vi.zv) Vi.zero26 8 rfl rfl rfl ?_
       intro W2 b2 e2 B2 K2
       replace M : Hid (Ph r sg eg D w W2 [(b1, 23, Ar.jobC J), (b2, 29, Vi.vwC Vi.zv)]) := hide ((unhide M).new e2 B2 K2)
       clear e2 B2 K2
       refine Stp.go ?_))
  constructor
  go_wp2_with (
    first
    | (refine wpLoadA jrow rfl (.tmp 5) rfl b1 0 rfl (Ar.jobC J) rfl ((unhide M).at 0 _ rfl).range ?_
       refine Stp.go ?_))
  constructor
  go_wp2_with (
    first
    | (go_at_call 96
       refine (unhide PW _ (unhide M).rv).mono ?_
       rintro e W3 ⟨rfl, K3⟩
       replace M : Hid (Ph r sg eg D w W3 [(b1, 23, Ar.jobC J), (b2, 29, Vi.vwC Vi.zv)]) := hide ((unhide M).step K3)
       clear K3
       refine Stp.go ?_))
  constructor
  go_wp2_with (
    first
    | (refine wpLoadA jrow rfl (.tmp 5) rfl b1 0 rfl (Ar.jobC J) rfl ((unhide M).at 0 _ rfl).range ?_
       refine Stp.go ?_))
  constructor
  go_wp2_with (
    first
    | (go_at_call 14
       refine (unhide PV _ (unhide M).rv).mono ?_
       rintro e W4 ⟨rfl, K4⟩
       replace M : Hid (Ph r sg eg D w W4 [(b1, 23, Ar.jobC J), (b2, 29, Vi.vwC Vi.zv)]) := hide ((unhide M).step K4)
       clear K4
       refine Stp.go ?_))
  constructor
  go_wp2_with (
    first
    | (refine wpNew Vi.row26 (Vi.vwC Vi.zv) rfl Vi.zero26 12 rfl rfl rfl (.tmp 27) rfl rfl rfl (Vi.vwC v) (unhide HVL) (Vi.vwC_one _) (by kernel_rfl) (by kernel_rfl) ?_
       intro W5 b5 e5 B5 K5
       replace M : Hid (Ph r sg eg D w W5 [(b1, 23, Ar.jobC J), (b2, 29, Vi.vwC Vi.zv), (b5, 29, Vi.vwC v)]) := hide ((unhide M).new e5 B5 K5)
       clear e5 B5 K5
       have c0 := fits_cell ((unhide M).at 2 _ rfl) 0 (.int .i64 v.nu) rfl
       have c1 := fits_cell ((unhide M).at 2 _ rfl) _ _ (unhide X0)
       have c2 := fits_cell ((unhide M).at 2 _ rfl) _ _ (unhide X1)
       refine Stp.go ?_))
  constructor
  go_wp2_with (
    first
    | (refine wpLoadA Vi.row26 rfl (.tmp 12) rfl b5 0 rfl (Vi.vwC v) (unhide HVL) ((unhide M).at 2 _ rfl).range ?_
       refine Stp.go ?_))
  constructor
  go_wp2_with (
    first
    | (refine wpNew Vi.row26 (Vi.vwC Vi.zv) rfl Vi.zero26 13 rfl rfl rfl (.tmp 52) rfl rfl rfl (Vi.vwC v) (unhide HVL) (Vi.vwC_one _) (by kernel_rfl) (by kernel_rfl) ?_
       intro W6 b6 e6 B6 K6
       replace M : Hid (Ph r sg eg D w W6 [(b1, 23, Ar.jobC J), (b2, 29, Vi.vwC Vi.zv), (b5, 29, Vi.vwC v), (b6, 29, Vi.vwC v)]) := hide ((unhide M).new e6 B6 K6)
       clear e6 B6 K6
       clear c0 c1 c2
       have c0 := fits_cell ((unhide M).at 2 _ rfl) 0 (.int .i64 v.nu) rfl
       refine Stp.go ?_))
  constructor
  go_wp2_with (
    first
    | (refine wpStoreP1 Le.size2 rfl (.tmp 56) (.tmp 55) rfl rfl b6 0 3 (.int .i64 (v.nu + 1)) ⟨rfl, rfl⟩ rfl rfl (unhide M) rfl (by simp [Vi.vwC]) ?_
       intro W7 N7
       replace M : Hid (Ph r sg eg D w W7 [(b1, 23, Ar.jobC J), (b2, 29, Vi.vwC Vi.zv), (b5, 29, Vi.vwC v), (b6, 29, Vi.vwC ⟨v.nu + 1, v.op, v.fd, v.ms⟩)]) := hide N7
       clear N7
       clear c0
       refine Stp.go ?_))
  constructor
  go_wp2_with (
    first
    | (refine wpStoreP1 Le.size4 rfl (.tmp 57) (.const (.bool false)) rfl rfl b6 1 3 (.bool false) ⟨rfl, rfl⟩ rfl rfl (unhide M) rfl (by simp [Vi.vwC]) ?_
       intro W8 N8
       replace M : Hid (Ph r sg eg D w W8 [(b1, 23, Ar.jobC J), (b2, 29, Vi.vwC Vi.zv), (b5, 29, Vi.vwC v), (b6, 29, Vi.vwC ⟨v.nu + 1, false, v.fd, v.ms⟩)]) := hide N8
       clear N8
       refine Stp.go ?_))
  constructor
  go_wp2_with (
    first
    | (refine wpStoreP1 Le.size3 rfl (.tmp 59) (.tmp 58) rfl rfl b6 2 3 (.int .i64 k) ⟨rfl, rfl⟩ rfl rfl (unhide M) rfl (by simp [Vi.vwC]) ?_
       intro W9 N9
       replace M : Hid (Ph r sg eg D w W9 [(b1, 23, Ar.jobC J), (b2, 29, Vi.vwC Vi.zv), (b5, 29, Vi.vwC v), (b6, 29, Vi.vwC ⟨v.nu + 1, false, k, v.ms⟩)]) := hide N9
       clear N9
       refine Stp.go ?_))
  constructor
  go_wp2_with (
    first
    | (refine Ar.wpBuildP rfl #[(0, .const (.bool true)), (1, .tmp 61)] rfl #[(0, .bool true), (1, .int .i64 ep)] (by simp [Act.eval]) (Vi.memC (true, ep)) (build26p _ _ _) ?_
       refine Stp.go ?_))
  constructor
  go_wp2_with (
    first
    | (refine wpStoreMemP rfl (.tmp 64) (.tmp 62) rfl rfl b6 k 3 ⟨v.nu + 1, false, k, v.ms⟩ (true, ep) rfl rfl (unhide M) rfl (unhide HK8) (unhide HL8) ?_
       intro W10 N10
       replace M : Hid (Ph r sg eg D w W10 [(b1, 23, Ar.jobC J), (b2, 29, Vi.vwC Vi.zv), (b5, 29, Vi.vwC v), (b6, 29, Vi.vwC u)]) := by have h9 := N10; rw [show (⟨v.nu + 1, false, (k : Int), v.ms.set k (true, ep)⟩ : Vi.Vw) = u from unhide HU] at h9; exact h9
       clear N10
       refine Stp.go ?_))
  constructor
  go_wp2_with (
    first
    | (refine wpLoadA jrow rfl (.tmp 5) rfl b1 0 rfl (Ar.jobC J) rfl ((unhide M).at 0 _ rfl).range ?_
       refine Stp.go ?_))
  constructor
  go_wp2_with (
    first
    | (refine wpLoadA Vi.row26 rfl (.tmp 12) rfl b5 0 rfl (Vi.vwC v) (unhide HVL) ((unhide M).at 2 _ rfl).range ?_
       refine Stp.go ?_))
  constructor
  go_wp2_with (
    first
    | (refine wpLoadA Vi.row26 rfl (.tmp 13) rfl b6 0 rfl (Vi.vwC u) (unhide HUL) ((unhide M).at 3 _ rfl).range ?_
       refine Stp.go ?_))
  constructor
  go_wp2_with (
    first
    | (go_at_call 97
       refine (unhide PS _ (unhide M).rv).mono ?_
       rintro e W11 ⟨rfl, R11, K11⟩
       replace M : Hid (Ph r sg eg D2 w W11 [(b1, 23, Ar.jobC J), (b2, 29, Vi.vwC Vi.zv), (b5, 29, Vi.vwC v), (b6, 29, Vi.vwC u)]) := hide ((unhide M).dev K11 (by simp) R11)
       clear K11 R11
       refine Stp.go ?_))
  constructor
  go_wp2_with (
    first
    | (refine wpStoreP Vi.row26 rfl (.tmp 8) (.tmp 72) rfl rfl b2 1 (Vi.vwC y) rfl rfl (unhide HYL) (Vi.vwC_one _) (unhide M) rfl rfl ?_
       intro W12 N12
       replace M : Hid (Ph r sg eg D2 w W12 [(b1, 23, Ar.jobC J), (b2, 29, Vi.vwC y), (b5, 29, Vi.vwC v), (b6, 29, Vi.vwC u)]) := hide N12
       clear N12
       refine Stp.go ?_))
  constructor
  go_wp2_with fail
  refine bodyPost_ret (res38 _ b2 (Vi.vwC y) yb ye _ rfl rfl rfl (unhide HYL) ((unhide M).at 1 _ rfl)) rfl ?_
  exact ⟨rfl, (unhide M).rv, (unhide M).kept⟩
set_option maxHeartbeats 8000000 in
theorem rjoin_4b (r sg eg : Nat) (D : Dv.Dev) (J : Ar.Job) (ep : Int) (w : World) (h : Dv.Rv w r sg eg D) (k : Nat) (v : Vi.Vw) (PW : Hid (∀ W, Dv.Rv W r sg eg D → Calls Tryz.prog 96 #[P0 r, aggV (Ar.jobC J), .int .i64 k, .int .i64 ep] W fun e w' => e = .returned (.int .i64 0) ∧ Kept [] W w')) (PV : Hid (∀ W, Dv.Rv W r sg eg D → Calls Tryz.prog 14 #[P0 r, aggV (Ar.jobC J)] W fun x w' => x = .returned (.tuple #[aggV (Vi.vwC v), .int .i64 0]) ∧ Kept [] W w')) (HVL : Hid ((Vi.vwC v).length = 19)) (mi : Bool) (me : Int) (X0 : Hid ((Vi.vwC v)[3 + k * 2]? = some (.bool mi))) (X1 : Hid ((Vi.vwC v)[3 + k * 2 + 1]? = some (.int .i64 me))) (hk8 : (k : Int) < 8) (hmi : mi = true) (hme : decide (ep ≤ me) = false) (HNU : Hid (v.nu = 4611686018427387904)) : Calls Tryz.prog 38 #[P0 r, aggV (Ar.jobC J), .int .i64 k, .int .i64 ep] w fun x w' => x = .returned (.tuple #[aggV (Vi.vwC Vi.zv), .bool false, .int .i64 5]) ∧ Dv.Rv w' r sg eg D ∧ Kept [r, sg, eg] w w' := by
  have M : Hid (Ph r sg eg D w w []) := hide (Ph.init h)
  clear h
  subst hmi
  go_enter Tryz.func38, Tryz.ntmps38
  go_wp2_with (
    first
    | (refine wpBoxV rfl (.tmp 1) rfl (Ar.jobC J) rfl ?_
       intro W1 b1 e1 B1 K1
       replace M : Hid (Ph r sg eg D w W1 [(b1, 23, Ar.jobC J)]) := hide ((unhide M).new e1 B1 K1)
       clear e1 B1 K1
       refine Stp.go ?_))
  constructor
  go_wp2_with (
    first
    | (refine wpAllocW (Vi.vwC Vi.zv) Vi.zero26 8 rfl rfl rfl ?_
       intro W2 b2 e2 B2 K2
       replace M : Hid (Ph r sg eg D w W2 [(b1, 23, Ar.jobC J), (b2, 29, Vi.vwC Vi.zv)]) := hide ((unhide M).new e2 B2 K2)
       clear e2 B2 K2
       refine Stp.go ?_))
  constructor
  go_wp2_with (
    first
    | (refine wpLoadA jrow rfl (.tmp 5) rfl b1 0 rfl (Ar.jobC J) rfl ((unhide M).at 0 _ rfl).range ?_
       refine Stp.go ?_))
  constructor
  go_wp2_with (
    first
    | (go_at_call 96
       refine (unhide PW _ (unhide M).rv).mono ?_
       rintro e W3 ⟨rfl, K3⟩
       replace M : Hid (Ph r sg eg D w W3 [(b1, 23, Ar.jobC J), (b2, 29, Vi.vwC Vi.zv)]) := hide ((unhide M).step K3)
       clear K3
       refine Stp.go ?_))
  constructor
  go_wp2_with (
    first
    | (refine wpLoadA jrow rfl (.tmp 5) rfl b1 0 rfl (Ar.jobC J) rfl ((unhide M).at 0 _ rfl).range ?_
       refine Stp.go ?_))
  constructor
  go_wp2_with (
    first
    | (go_at_call 14
       refine (unhide PV _ (unhide M).rv).mono ?_
       rintro e W4 ⟨rfl, K4⟩
       replace M : Hid (Ph r sg eg D w W4 [(b1, 23, Ar.jobC J), (b2, 29, Vi.vwC Vi.zv)]) := hide ((unhide M).step K4)
       clear K4
       refine Stp.go ?_))
  constructor
  go_wp2_with (
    first
    | (refine wpNew Vi.row26 (Vi.vwC Vi.zv) rfl Vi.zero26 12 rfl rfl rfl (.tmp 27) rfl rfl rfl (Vi.vwC v) (unhide HVL) (Vi.vwC_one _) (by kernel_rfl) (by kernel_rfl) ?_
       intro W5 b5 e5 B5 K5
       replace M : Hid (Ph r sg eg D w W5 [(b1, 23, Ar.jobC J), (b2, 29, Vi.vwC Vi.zv), (b5, 29, Vi.vwC v)]) := hide ((unhide M).new e5 B5 K5)
       clear e5 B5 K5
       have c0 := fits_cell ((unhide M).at 2 _ rfl) 0 (.int .i64 v.nu) rfl
       have c1 := fits_cell ((unhide M).at 2 _ rfl) _ _ (unhide X0)
       have c2 := fits_cell ((unhide M).at 2 _ rfl) _ _ (unhide X1)
       rw [unhide HNU] at c0
       refine Stp.go ?_))
  constructor
  go_wp2_with (
    first
    | (refine wpBuildZ (Vi.vwC Vi.zv) Vi.build26 rfl rfl ?_
       refine Stp.go ?_))
  constructor
  go_wp2_with (
    first
    | (refine wpStoreP Vi.row26 rfl (.tmp 8) (.tmp 51) rfl rfl b2 1 (Vi.vwC Vi.zv) rfl rfl rfl (Vi.vwC_one _) (unhide M) rfl rfl ?_
       intro W6 N6
       replace M : Hid (Ph r sg eg D w W6 [(b1, 23, Ar.jobC J), (b2, 29, Vi.vwC Vi.zv), (b5, 29, Vi.vwC v)]) := hide N6
       clear N6
       refine Stp.go ?_))
  constructor
  go_wp2_with fail
  refine bodyPost_ret (res38 _ b2 (Vi.vwC Vi.zv) false 5 _ rfl rfl rfl rfl ((unhide M).at 1 _ rfl)) rfl ?_
  exact ⟨rfl, (unhide M).rv, (unhide M).kept⟩
set_option maxHeartbeats 8000000 in
theorem rjoin_5b (r sg eg : Nat) (D : Dv.Dev) (J : Ar.Job) (ep : Int) (w : World) (h : Dv.Rv w r sg eg D) (k : Nat) (v u y : Vi.Vw) (yb : Bool) (ye : Int) (D2 : Dv.Dev) (PW : Hid (∀ W, Dv.Rv W r sg eg D → Calls Tryz.prog 96 #[P0 r, aggV (Ar.jobC J), .int .i64 k, .int .i64 ep] W fun e w' => e = .returned (.int .i64 0) ∧ Kept [] W w')) (PV : Hid (∀ W, Dv.Rv W r sg eg D → Calls Tryz.prog 14 #[P0 r, aggV (Ar.jobC J)] W fun x w' => x = .returned (.tuple #[aggV (Vi.vwC v), .int .i64 0]) ∧ Kept [] W w')) (HVL : Hid ((Vi.vwC v).length = 19)) (PS : Hid (∀ W, Dv.Rv W r sg eg D → Calls Tryz.prog 97 #[P0 r, aggV (Ar.jobC J), .int .i64 k, .int .i64 ep, aggV (Vi.vwC v), aggV (Vi.vwC u)] W fun x w' => x = .returned (.tuple #[aggV (Vi.vwC y), .bool yb, .int .i64 ye]) ∧ Dv.Rv w' r sg eg D2 ∧ Kept [r, sg, eg] W w')) (HYL : Hid ((Vi.vwC y).length = 19)) (mi : Bool) (me : Int) (X0 : Hid ((Vi.vwC v)[3 + k * 2]? = some (.bool mi))) (X1 : Hid ((Vi.vwC v)[3 + k * 2 + 1]? = some (.int .i64 me))) (hk8 : (k : Int) < 8) (hmi : mi = true) (hme : decide (ep ≤ me) = false) (hnu : decide (v.nu = 4611686018427387904) = false) (hnr : 0 ≤ v.nu ∧ v.nu ≤ 4611686018427387904) (HK8 : Hid (k < 8)) (HL8 : Hid (v.ms.length = 8)) (HU : Hid ((⟨v.nu + 1, false, (k : Int), v.ms.set k (true, ep)⟩ : Vi.Vw) = u)) (HUL : Hid ((Vi.vwC u).length = 19)) : Calls Tryz.prog 38 #[P0 r, aggV (Ar.jobC J), .int .i64 k, .int .i64 ep] w fun x w' => x = .returned (.tuple #[aggV (Vi.vwC y), .bool yb, .int .i64 ye]) ∧ Dv.Rv w' r sg eg D2 ∧ Kept [r, sg, eg] w w' := by
  have M : Hid (Ph r sg eg D w w []) := hide (Ph.init h)
  clear h
  subst hmi
  obtain ⟨hn0, hn1⟩ := hnr
  have hnu2 : ¬ v.nu = 4611686018427387904 := of_decide_eq_false hnu
  go_enter Tryz.func38, Tryz.ntmps38
  go_wp2_with (
    first
    | (refine wpBoxV rfl (.tmp 1) rfl (Ar.jobC J) rfl ?_
       intro W1 b1 e1 B1 K1
       replace M : Hid (Ph r sg eg D w W1 [(b1, 23, Ar.jobC J)]) := hide ((unhide M).new e1 B1 K1)
       clear e1 B1 K1
       refine Stp.go ?_))
  constructor
  go_wp2_with (
    first
    | (refine wpAllocW (Vi.vwC Vi.zv) Vi.zero26 8 rfl rfl rfl ?_
       intro W2 b2 e2 B2 K2
       replace M : Hid (Ph r sg eg D w W2 [(b1, 23, Ar.jobC J), (b2, 29, Vi.vwC Vi.zv)]) := hide ((unhide M).new e2 B2 K2)
       clear e2 B2 K2
       refine Stp.go ?_))
  constructor
  go_wp2_with (
    first
    | (refine wpLoadA jrow rfl (.tmp 5) rfl b1 0 rfl (Ar.jobC J) rfl ((unhide M).at 0 _ rfl).range ?_
       refine Stp.go ?_))
  constructor
  go_wp2_with (
    first
    | (go_at_call 96
       refine (unhide PW _ (unhide M).rv).mono ?_
       rintro e W3 ⟨rfl, K3⟩
       replace M : Hid (Ph r sg eg D w W3 [(b1, 23, Ar.jobC J), (b2, 29, Vi.vwC Vi.zv)]) := hide ((unhide M).step K3)
       clear K3
       refine Stp.go ?_))
  constructor
  go_wp2_with (
    first
    | (refine wpLoadA jrow rfl (.tmp 5) rfl b1 0 rfl (Ar.jobC J) rfl ((unhide M).at 0 _ rfl).range ?_
       refine Stp.go ?_))
  constructor
  go_wp2_with (
    first
    | (go_at_call 14
       refine (unhide PV _ (unhide M).rv).mono ?_
       rintro e W4 ⟨rfl, K4⟩
       replace M : Hid (Ph r sg eg D w W4 [(b1, 23, Ar.jobC J), (b2, 29, Vi.vwC Vi.zv)]) := hide ((unhide M).step K4)
       clear K4
       refine Stp.go ?_))
  constructor
  go_wp2_with (
    first
    | (refine wpNew Vi.row26 (Vi.vwC Vi.zv) rfl Vi.zero26 12 rfl rfl rfl (.tmp 27) rfl rfl rfl (Vi.vwC v) (unhide HVL) (Vi.vwC_one _) (by kernel_rfl) (by kernel_rfl) ?_
       intro W5 b5 e5 B5 K5
       replace M : Hid (Ph r sg eg D w W5 [(b1, 23, Ar.jobC J), (b2, 29, Vi.vwC Vi.zv), (b5, 29, Vi.vwC v)]) := hide ((unhide M).new e5 B5 K5)
       clear e5 B5 K5
       have c0 := fits_cell ((unhide M).at 2 _ rfl) 0 (.int .i64 v.nu) rfl
       have c1 := fits_cell ((unhide M).at 2 _ rfl) _ _ (unhide X0)
       have c2 := fits_cell ((unhide M).at 2 _ rfl) _ _ (unhide X1)
       refine Stp.go ?_))
  constructor
  go_wp2_with (
    first
    | (refine wpLoadA Vi.row26 rfl (.tmp 12) rfl b5 0 rfl (Vi.vwC v) (unhide HVL) ((unhide M).at 2 _ rfl).range ?_
       refine Stp.go ?_))
  constructor
  go_wp2_with (
    first
    | (refine wpNew Vi.row26 (Vi.vwC Vi.zv) rfl Vi.zero26 13 rfl rfl rfl (.tmp 52) rfl rfl rfl (Vi.vwC v) (unhide HVL) (Vi.vwC_one _) (by kernel_rfl) (by kernel_rfl) ?_
       intro W6 b6 e6 B6 K6
       replace M : Hid (Ph r sg eg D w W6 [(b1, 23, Ar.jobC J), (b2, 29, Vi.vwC Vi.zv), (b5, 29, Vi.vwC v), (b6, 29, Vi.vwC v)]) := hide ((unhide M).new e6 B6 K6)
       clear e6 B6 K6
       clear c0 c1 c2
       have c0 := fits_cell ((unhide M).at 2 _ rfl) 0 (.int .i64 v.nu) rfl
       refine Stp.go ?_))
  constructor
  go_wp2_with (
    first
    | (refine wpStoreP1 Le.size2 rfl (.tmp 56) (.tmp 55) rfl rfl b6 0 3 (.int .i64 (v.nu + 1)) ⟨rfl, rfl⟩ rfl rfl (unhide M) rfl (by simp [Vi.vwC]) ?_
       intro W7 N7
       replace M : Hid (Ph r sg eg D w W7 [(b1, 23, Ar.jobC J), (b2, 29, Vi.vwC Vi.zv), (b5, 29, Vi.vwC v), (b6, 29, Vi.vwC ⟨v.nu + 1, v.op, v.fd, v.ms⟩)]) := hide N7
       clear N7
       clear c0
       refine Stp.go ?_))
  constructor
  go_wp2_with (
    first
    | (refine wpStoreP1 Le.size4 rfl (.tmp 57) (.const (.bool false)) rfl rfl b6 1 3 (.bool false) ⟨rfl, rfl⟩ rfl rfl (unhide M) rfl (by simp [Vi.vwC]) ?_
       intro W8 N8
       replace M : Hid (Ph r sg eg D w W8 [(b1, 23, Ar.jobC J), (b2, 29, Vi.vwC Vi.zv), (b5, 29, Vi.vwC v), (b6, 29, Vi.vwC ⟨v.nu + 1, false, v.fd, v.ms⟩)]) := hide N8
       clear N8
       refine Stp.go ?_))
  constructor
  go_wp2_with (
    first
    | (refine wpStoreP1 Le.size3 rfl (.tmp 59) (.tmp 58) rfl rfl b6 2 3 (.int .i64 k) ⟨rfl, rfl⟩ rfl rfl (unhide M) rfl (by simp [Vi.vwC]) ?_
       intro W9 N9
       replace M : Hid (Ph r sg eg D w W9 [(b1, 23, Ar.jobC J), (b2, 29, Vi.vwC Vi.zv), (b5, 29, Vi.vwC v), (b6, 29, Vi.vwC ⟨v.nu + 1, false, k, v.ms⟩)]) := hide N9
       clear N9
       refine Stp.go ?_))
  constructor
  go_wp2_with (
    first
    | (refine Ar.wpBuildP rfl #[(0, .const (.bool true)), (1, .tmp 61)] rfl #[(0, .bool true), (1, .int .i64 ep)] (by simp [Act.eval]) (Vi.memC (true, ep)) (build26p _ _ _) ?_
       refine Stp.go ?_))
  constructor
  go_wp2_with (
    first
    | (refine wpStoreMemP rfl (.tmp 64) (.tmp 62) rfl rfl b6 k 3 ⟨v.nu + 1, false, k, v.ms⟩ (true, ep) rfl rfl (unhide M) rfl (unhide HK8) (unhide HL8) ?_
       intro W10 N10
       replace M : Hid (Ph r sg eg D w W10 [(b1, 23, Ar.jobC J), (b2, 29, Vi.vwC Vi.zv), (b5, 29, Vi.vwC v), (b6, 29, Vi.vwC u)]) := by have h9 := N10; rw [show (⟨v.nu + 1, false, (k : Int), v.ms.set k (true, ep)⟩ : Vi.Vw) = u from unhide HU] at h9; exact h9
       clear N10
       refine Stp.go ?_))
  constructor
  go_wp2_with (
    first
    | (refine wpLoadA jrow rfl (.tmp 5) rfl b1 0 rfl (Ar.jobC J) rfl ((unhide M).at 0 _ rfl).range ?_
       refine Stp.go ?_))
  constructor
  go_wp2_with (
    first
    | (refine wpLoadA Vi.row26 rfl (.tmp 12) rfl b5 0 rfl (Vi.vwC v) (unhide HVL) ((unhide M).at 2 _ rfl).range ?_
       refine Stp.go ?_))
  constructor
  go_wp2_with (
    first
    | (refine wpLoadA Vi.row26 rfl (.tmp 13) rfl b6 0 rfl (Vi.vwC u) (unhide HUL) ((unhide M).at 3 _ rfl).range ?_
       refine Stp.go ?_))
  constructor
  go_wp2_with (
    first
    | (go_at_call 97
       refine (unhide PS _ (unhide M).rv).mono ?_
       rintro e W11 ⟨rfl, R11, K11⟩
       replace M : Hid (Ph r sg eg D2 w W11 [(b1, 23, Ar.jobC J), (b2, 29, Vi.vwC Vi.zv), (b5, 29, Vi.vwC v), (b6, 29, Vi.vwC u)]) := hide ((unhide M).dev K11 (by simp) R11)
       clear K11 R11
       refine Stp.go ?_))
  constructor
  go_wp2_with (
    first
    | (refine wpStoreP Vi.row26 rfl (.tmp 8) (.tmp 72) rfl rfl b2 1 (Vi.vwC y) rfl rfl (unhide HYL) (Vi.vwC_one _) (unhide M) rfl rfl ?_
       intro W12 N12
       replace M : Hid (Ph r sg eg D2 w W12 [(b1, 23, Ar.jobC J), (b2, 29, Vi.vwC y), (b5, 29, Vi.vwC v), (b6, 29, Vi.vwC u)]) := hide N12
       clear N12
       refine Stp.go ?_))
  constructor
  go_wp2_with fail
  refine bodyPost_ret (res38 _ b2 (Vi.vwC y) yb ye _ rfl rfl rfl (unhide HYL) ((unhide M).at 1 _ rfl)) rfl ?_
  exact ⟨rfl, (unhide M).rv, (unhide M).kept⟩

/-- Join, as the document has it. -/
def rjoin (D : Dv.Dev) (J : Ar.Job) (n ep : Int) : (Vi.Vw × Bool) × Int × Dv.Dev :=
  if rwho D J n ep ≠ 0 then ((Vi.zv, false), rwho D J n ep, D) else if (oV D).2 ≠ 0 then ((Vi.zv, false), (oV D).2, D)
  else if ((oV D).1.mem n).1 = true ∧ ep ≤ ((oV D).1.mem n).2 then (((oV D).1, false), 0, D)
  else if (oV D).1.nu = 4611686018427387904 then ((Vi.zv, false), 5, D)
  else mswap D n ep (oV D).1 ⟨(oV D).1.nu + 1, false, n, (oV D).1.ms.set n.toNat (true, ep)⟩
theorem rwho_0 {D : Dv.Dev} {J : Ar.Job} {n ep : Int} (h : rwho D J n ep = 0) : 0 ≤ n ∧ n < J.n ∧ 1 ≤ ep ∧ ep = (D.epoch n).1 := by
  unfold rwho at h
  split at h
  · simp at h
  · split at h
    · simp at h
    · split at h
      · simp at h
      · omega
theorem epoch_le {D : Dv.Dev} (h : D.Ok) (n : Int) : 0 ≤ (D.epoch n).1 ∧ (D.epoch n).1 ≤ 2147483647 := by
  unfold Dv.Dev.epoch
  split
  · show 0 ≤ D.ep n ∧ D.ep n ≤ 2147483647
    unfold Dv.Dev.ep
    rw [List.getD_eq_getElem?_getD]
    cases hq : D.E[n.toNat]? with
    | none => simp
    | some e => exact h.e0 e (List.mem_of_getElem? hq)
  · simp
theorem rjoin38 (r sg eg : Nat) (D : Dv.Dev) (J : Ar.Job) (n ep : Int) (w : World) (h : Dv.Rv w r sg eg D) (hJ : J.n ≤ 8) : Calls Tryz.prog 38 #[P0 r, aggV (Ar.jobC J), .int .i64 n, .int .i64 ep] w fun x w' => x = .returned (.tuple #[aggV (Vi.vwC (rjoin D J n ep).1.1), .bool (rjoin D J n ep).1.2, .int .i64 (rjoin D J n ep).2.1]) ∧ Dv.Rv w' r sg eg (rjoin D J n ep).2.2 ∧ Kept [r, sg, eg] w w' := by
  have PW := fun W (h0 : Dv.Rv W r sg eg D) => who96 r sg eg D J n ep W h0
  have PV := fun W (h0 : Dv.Rv W r sg eg D) => rview14 r sg eg D J W h0
  have hok := oV_okD h.ok
  unfold rjoin
  by_cases h1 : rwho D J n ep = 0
  · rw [if_neg (fun q => q h1)]
    obtain ⟨g0, g1, g2, g3⟩ := rwho_0 h1
    rw [h1] at PW
    by_cases h2 : (oV D).2 = 0
    · rw [if_neg (fun q => q h2)]
      have hmay := getV_may _ h2
      rw [h2] at PV
      replace hmay : (oV D).1.may = true := hmay
      obtain ⟨v, hv⟩ : ∃ v, v = (oV D).1 := ⟨_, rfl⟩
      rw [← hv] at PV hok hmay ⊢
      obtain ⟨k, rfl⟩ : ∃ k : Nat, n = (k : Int) := ⟨n.toNat, by omega⟩
      have hk8 : k < 8 := by omega
      obtain ⟨m, hm⟩ : ∃ m, v.ms[k]? = some m := ⟨_, List.getElem?_eq_getElem (by rw [hok.len]; exact hk8)⟩
      have hmm : v.mem (k : Int) = m := by unfold Vi.Vw.mem; rw [Int.toNat_natCast, List.getD_eq_getElem?_getD, hm]; rfl
      obtain ⟨x0, x1⟩ := Vi.vwC_at hm
      rw [Nat.mul_comm] at x0 x1
      have HVL := Vi.vwC_len hok.len
      rw [hmm, Int.toNat_natCast]
      have hep := epoch_le h.ok (k : Int)
      have hcell : ∀ b : Bool, m.1 = b → decide (ep ≤ m.2) = decide (ep ≤ m.2) := fun _ _ => rfl
      by_cases h3 : m.1 = true ∧ ep ≤ m.2
      · rw [if_pos h3]
        exact rjoin_3 r sg eg D J ep w h k v PW PV HVL m.1 m.2 x0 x1 (by omega) h3.1 (decide_eq_true h3.2)
      · rw [if_neg h3]
        by_cases h4 : v.nu = 4611686018427387904
        · rw [if_pos h4]
          cases hm1 : m.1 with
          | false => exact rjoin_4a r sg eg D J ep w h k v PW PV HVL m.1 m.2 x0 x1 (by omega) hm1 h4
          | true => exact rjoin_4b r sg eg D J ep w h k v PW PV HVL m.1 m.2 x0 x1 (by omega) hm1 (decide_eq_false (fun q => h3 ⟨hm1, q⟩)) h4
        · rw [if_neg h4]
          have hkk : Vi.memOk (true, ep) = true := by unfold Vi.memOk Vi.isEp; simp; omega
          have hno : Vi.isNo (k : Int) = true := decide_eq_true (by omega)
          have hum := next_may hmay h4 (k : Int) (k : Int) (true, ep) hkk hno (by unfold Vi.Vw.mem; simp only [Int.toNat_natCast]; rw [List.getD_eq_getElem?_getD, List.getElem?_set_self (by rw [hok.len]; exact hk8)]; rfl)
          have huo := nx_ok hok hmay (k : Int) (k : Int) (true, ep) hkk hno
          rw [Int.toNat_natCast] at hum huo
          have PS := fun W (h0 : Dv.Rv W r sg eg D) => rswap97 r sg eg D J (k : Int) ep v _ W h0 hok huo hmay hum
          have HYL := Vi.vwC_len (mswap_len D (k : Int) ep v _ huo.len)
          have HUL := Vi.vwC_len huo.len
          cases hm1 : m.1 with
          | false => exact rjoin_5a r sg eg D J ep w h k v _ _ _ _ _ PW PV HVL PS HYL m.1 m.2 x0 x1 (by omega) hm1 (decide_eq_false h4) (Vi.may_nu hmay) hk8 hok.len rfl HUL
          | true => exact rjoin_5b r sg eg D J ep w h k v _ _ _ _ _ PW PV HVL PS HYL m.1 m.2 x0 x1 (by omega) hm1 (decide_eq_false (fun q => h3 ⟨hm1, q⟩)) (decide_eq_false h4) (Vi.may_nu hmay) hk8 hok.len rfl HUL
    · rw [if_pos h2]
      exact rjoin_2 r sg eg D J ep w h n _ _ PW PV (Vi.vwC_len hok.len) h2
  · rw [if_pos h1]
    exact rjoin_1 r sg eg D J ep w h n _ PW h1

end Go.Proofs.YtcfflbafclmheaaGreatDoor
