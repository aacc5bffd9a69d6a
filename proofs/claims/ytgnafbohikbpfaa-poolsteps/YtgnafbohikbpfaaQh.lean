/-
  New pools, lengths, copies.
-/
import Derived.Test.YtgnafbohikbpfaaQg
namespace Go.Proofs.Ytgnafbohikbpfaa
set_option maxRecDepth 100000
set_option linter.unusedSimpArgs false
open Go.RowKit


variable {w W W' : World} {b mb : Nat} {P Q : Po} {L : List En} {pg : Int} {i : Nat}
section
variable {ops : Array Oper} {rest : List Oper} {op o : Oper} {a : Act} {w : World} {K : Act → World → Prop} {Q : Exit → Act → World → Prop}
theorem o_ext0 (x : Operand) (ho : o.op = .extract x 0) (u v : Value) (hx : a.eval x = .tuple #[u, v]) (h : K (a.put o.dst u) w) : o.wp Try.prog a w K Q := by
  unfold Oper.wp execOp
  simp only [ho, hx]
  simp [go_sem]
  exact h
theorem o_ext1 (x : Operand) (ho : o.op = .extract x 1) (u v : Value) (hx : a.eval x = .tuple #[u, v]) (h : K (a.put o.dst v) w) : o.wp Try.prog a w K Q := by
  unfold Oper.wp execOp
  simp only [ho, hx]
  simp [go_sem]
  exact h
theorem o_lookU (m x : Operand) (ho : o.op = .lookup 68 m x true) (mb : Nat) (L : List En) (k u : Int) (f : Bool) (hu : lookV k L = u) (hf : (placeOf k L 0).isSome = f) (hm : a.eval m = .map (some mb)) (hx : a.eval x = .int .i64 k) (hM : MapAt w mb L)
    (h : K (a.put o.dst (.tuple #[.int .i64 u, .bool f])) w) : o.wp Try.prog a w K Q := by
  subst hu hf
  exact o_look m x ho mb L k hm hx hM h
theorem o_len68 (x : Operand) (ho : o.op = .call { callee := .builtin .len, args := #[x], argTypes := #[68] }) (mb : Nat) (L : List En) (hx : a.eval x = .map (some mb)) (hM : MapAt w mb L) (h : K (a.put o.dst (.int .i64 (L.length : Int))) w) : o.wp Try.prog a w K Q := by
  obtain ⟨es, c, h1, h2, _⟩ := hM
  have hl : es.size = L.length := by have := congrArg List.length h2; simpa [ents] using this
  have hr : (Builtin.len_ #[68] o.type #[.map (some mb)]).run Try.prog w = .ok (.int .i64 (L.length : Int)) w := by
    unfold Builtin.len_
    simp [Sem.run_bind, run_underlying map68, get_map h1, goInt, hl]
  unfold Oper.wp execOp
  simp only [ho, resolve, invoke, builtin, Sem.run_bind, Sem.run_pure, Result.andThen_ok, List.map_toArray, List.map_cons, List.map_nil, hx, hr]
  exact h
theorem wpLen68 (hgd : op.guard = none) (x : Operand) (ho : op.op = .call { callee := .builtin .len, args := #[x], argTypes := #[68] }) (mb : Nat) (L : List En) (hx : a.eval x = .map (some mb)) (hM : MapAt w mb L) (h : wpList Try.prog ops Q rest (a.put op.dst (.int .i64 (L.length : Int))) w) : wpList Try.prog ops Q (op :: rest) a w :=
  wpList_plain hgd fun _ hK => o_len68 x ho mb L hx hM (hK _ _ h)
theorem o_len71 (x : Operand) (ho : o.op = .call { callee := .builtin .len, args := #[x], argTypes := #[71] }) (ao : Option Addr) (m c : Nat) (hx : a.eval x = .slice ao m c) (h : K (a.put o.dst (.int .i64 m)) w) : o.wp Try.prog a w K Q := by
  have hr : (Builtin.len_ #[71] o.type #[.slice ao m c]).run Try.prog w = .ok (.int .i64 m) w := by
    unfold Builtin.len_
    simp [Sem.run_bind, run_underlying Try.underlying71, goInt]
  unfold Oper.wp execOp
  simp only [ho, resolve, invoke, builtin, Sem.run_bind, Sem.run_pure, Result.andThen_ok, List.map_toArray, List.map_cons, List.map_nil, hx, hr]
  exact h
theorem c_sub3 (x y : Operand) (ho : o.op = .binOp .sub 3 x y 3) (m n : Int) (hm : -1000000000 ≤ m - n ∧ m - n ≤ 1000000000) (hx : a.eval x = .int .i64 m) (hy : a.eval y = .int .i64 n) (h : K (a.put o.dst (.int .i64 (m - n))) w) : o.wp Try.prog a w K Q := by
  unfold Oper.wp execOp
  simp only [ho, hx, hy]
  have e : IntKind.i64.wrap (m - n) = m - n := by rw [IntKind.wrap_i64]; omega
  simp [go_sem, e]
  exact h
theorem c_rem3 (x y : Operand) (ho : o.op = .binOp .rem 3 x y 3) (m n r : Int) (hr : r = m % n) (hm : 0 ≤ m ∧ m ≤ 9223372036854775807) (hn : 1 ≤ n ∧ n ≤ 1000) (hx : a.eval x = .int .i64 m) (hy : a.eval y = .int .i64 n) (h : K (a.put o.dst (.int .i64 r)) w) : o.wp Try.prog a w K Q := by
  subst hr
  have h1 := Int.emod_nonneg m (b := n) (by omega)
  have h2 := Int.emod_lt_of_pos m (b := n) (by omega)
  have ht : Int.tmod m n = m % n := Int.tmod_eq_emod_of_nonneg hm.1
  have hn0 : ¬ n = 0 := by omega
  unfold Oper.wp execOp
  simp only [ho, hx, hy]
  simp [go_sem, hn0, ht]
  exact h
theorem wpBox70 (hgd : op.guard = none) (x : Operand) (ho : op.op = .box 70 x) (vs : List Value) (hx : a.eval x = aggV vs)
    (h : ∀ W b, b = w.heap.size → Blk W b 70 vs → Kept [] w W → wpList Try.prog ops Q rest (a.put op.dst (P0 b)) W) : wpList Try.prog ops Q (op :: rest) a w := wpBoxV hgd x ho vs hx h
theorem wpMk68 (hgd : op.guard = none) (ho : op.op = .makeMap 68 none)
    (h : ∀ W mb, mb = w.heap.size → MapAt W mb [] → Kept [] w W → wpList Try.prog ops Q rest (a.put op.dst (.map (some mb))) W) : wpList Try.prog ops Q (op :: rest) a w :=
  wpList_plain hgd fun _ hK => by
    have hmk : Sem.run Try.prog (Instr.makeMap 68 none) w = .ok (.map (some w.heap.size)) (w.alloc (.map #[] 0)) := by kernel_rfl
    unfold Oper.wp execOp
    simp only [ho, Option.map_none, Sem.run_bind, hmk, Result.andThen_ok]
    exact hK _ _ (h _ _ rfl ⟨#[], 0, heap_alloc_new w _, rfl, MapKept.stamped_empty _⟩ ((Kept.refl _ _).alloc _))
theorem wpBld70 (hgd : op.guard = none) (x y : Operand) (ho : op.op = .build 70 #[(1, x), (3, y)]) (m mb : Nat) (hx : a.eval x = .int .i64 (m : Int)) (hy : a.eval y = .map (some mb)) (h : wpList Try.prog ops Q rest (a.put op.dst (aggV (Po.C ⟨m, 0, z16⟩ (.map (some mb))))) w) : wpList Try.prog ops Q (op :: rest) a w :=
  wpList_plain hgd fun _ hK => wp_buildP #[(1, x), (3, y)] ho #[(1, .int .i64 (m : Int)), (3, .map (some mb))] (by simp [hx, hy]) (Po.C ⟨m, 0, z16⟩ (.map (some mb))) (build70 w m mb) (hK _ _ h)
end
/-- A new pool. -/
def po0 (m : Nat) : Po := ⟨m, 0, z16⟩
theorem po0_ok {m : Nat} (h : 1 ≤ m ∧ m ≤ 16) : (po0 m).Ok := ⟨h, by show 0 < m; omega, fun _ _ => rfl, fun _ hb => absurd rfl hb.2, fun _ _ hb => absurd rfl hb.2, fun _ _ => rfl, fun _ hb => absurd rfl hb.2⟩
theorem cnt0 : ∀ n, cntB z16 n = 0
  | 0 => rfl
  | n + 1 => by rw [cntB, cnt0 n]; rfl
theorem po0_wh (m : Nat) : Wh (po0 m) [] := ⟨(fun _ h => by cases h), (fun _ hb => absurd rfl hb.2), List.Pairwise.nil, (cnt0 m).symm⟩
theorem new7_no (n : Int) (w : World) (h : ¬ (1 ≤ n ∧ n ≤ 16)) : Calls Try.prog 7 #[.int .i64 n] w fun e w' => e = .returned (.tuple #[.pointer none, .int .i64 2]) ∧ w' = w := by
  by_cases h1 : n < 1
  · have a1 : decide (n < 1) = true := decide_eq_true h1
    clear h
    go_enter Try.func7, Try.ntmps7
    go_wp2_with fail
    go_ret2
    exact ⟨rfl, rfl⟩
  · have a1 : decide (n < 1) = false := decide_eq_false h1
    have h2 : n > 16 := by omega
    have a2 : decide (n > 16) = true := decide_eq_true h2
    have a3 : decide (16 < n) = true := decide_eq_true h2
    clear h
    go_enter Try.func7, Try.ntmps7
    go_wp2_with fail
    go_ret2
    exact ⟨rfl, rfl⟩
theorem new7_yes (m : Nat) (w : World) (h : 1 ≤ m ∧ m ≤ 16) : Calls Try.prog 7 #[.int .i64 (m : Int)] w fun e w' => ∃ b mb, e = .returned (.tuple #[P0 b, .int .i64 0]) ∧ w.heap.size ≤ b ∧ w.heap.size ≤ mb ∧ Pg w' b mb (po0 m) [] ∧ Kept [] w w' := by
  have a1 : decide ((m : Int) < 1) = false := decide_eq_false (by omega)
  have a2 : decide ((m : Int) > 16) = false := decide_eq_false (by omega)
  have a3 : decide ((16 : Int) < (m : Int)) = false := decide_eq_false (by omega)
  have HM := hide h
  clear h
  go_enter Try.func7, Try.ntmps7
  go_wp2_with (
    first
    | (refine wpMk68 rfl rfl ?_
       intro W1 mb e1 hm1 K1
       have HMB : Hid (w.heap.size ≤ mb) := by show _ ≤ _; omega
       have HMP := hide hm1
       have HK := hide K1
       clear e1 hm1 K1
       refine Stp.go ?_))
  constructor
  go_wp2_with (
    first
    | (refine wpBld70 rfl (.tmp 10) (.tmp 11) rfl m mb rfl rfl ?_
       obtain ⟨c1, hc1⟩ : ∃ c, c = Po.C ⟨m, 0, z16⟩ (.map (some mb)) := ⟨_, rfl⟩
       rw [← hc1]
       have HC := hide hc1
       clear hc1
       refine Stp.go ?_))
  constructor
  go_wp2_with (
    first
    | (refine wpBox70 rfl (.tmp 12) rfl c1 rfl ?_
       intro W2 b2 e2 B2 K2
       have HB2 : Hid (w.heap.size ≤ b2) := by have := (unhide HK).size; show _ ≤ _; omega
       have HBL := hide B2
       replace HMP := hide ((unhide HMP).kept K2 (by simp))
       replace HK := hide ((unhide HK).trans K2)
       clear e2 B2 K2
       refine Stp.go ?_))
  constructor
  go_wp2_with fail
  go_ret2
  exact ⟨b2, mb, rfl, unhide HB2, unhide HMB, ⟨by have h9 := unhide HBL; rw [unhide HC] at h9; exact h9, unhide HMP, po0_ok (unhide HM), po0_wh m⟩, unhide HK⟩
theorem len24 (h : Pg w b mb P L) : Calls Try.prog 24 #[P0 b] w fun e w' => e = .returned (.int .i64 (cntB P.S P.m : Int)) ∧ w' = w := by
  have P41 := hide (none41 w h)
  have cw := h.cw
  have HM := hide h.map
  rw [← h.wh.ln]
  clear h
  go_enter Try.func24, Try.ntmps24
  go_wp2_with (
    first
    | (go_at_call 41
       refine (unhide P41).mono ?_
       rintro e W9 ⟨rfl, q9⟩
       replace q9 := q9.symm
       subst q9
       clear P41
       refine Stp.go ?_))
  constructor
  go_wp2_with (
    first
    | (refine wpLd68 rfl (.tmp 7) rfl ⟨b, 1666, none⟩ (.map (some mb)) rfl cw ?_
       refine Stp.go ?_))
  constructor
  go_wp2_with (
    first
    | (refine wpLen68 rfl (.tmp 8) rfl mb L rfl (unhide HM) ?_
       refine Stp.go ?_))
  constructor
  go_wp2_with fail
  go_ret
  exact ⟨rfl, rfl⟩
theorem len24_z (v : Value) (h : Nil w v) : Calls Try.prog 24 #[v] w fun e w' => e = .returned (.int .i64 0) ∧ w' = w := by
  have P41 := hide (none41_z w v h)
  clear h
  go_enter Try.func24, Try.ntmps24
  go_wp2_with (
    first
    | (go_at_call 41
       refine (unhide P41).mono ?_
       rintro e W9 ⟨rfl, q9⟩
       replace q9 := q9.symm
       subst q9
       clear P41
       refine Stp.go ?_))
  constructor
  go_wp2_with fail
  go_ret
  exact ⟨rfl, rfl⟩
theorem room27 (h : Pg w b mb P L) : Calls Try.prog 27 #[P0 b] w fun e w' => e = .returned (.int .i64 ((P.m : Int) - (cntB P.S P.m : Int))) ∧ Kept [] w w' := by
  have P41 := hide (none41 w h)
  have HCW := hide h.cw
  have HCM := hide h.cm
  have HM := hide h.map
  have HLE : Hid (L.length ≤ 16 ∧ P.m ≤ 16) := by have h1 := h.wh.ln; have h2 := cntB_le P.S P.m; have h3 := h.ok.m; show _ ∧ _; omega
  rw [← h.wh.ln]
  clear h
  go_enter Try.func27, Try.ntmps27
  go_wp2_with (
    first
    | (go_at_call 41
       refine (unhide P41).mono ?_
       rintro e W9 ⟨rfl, q9⟩
       replace q9 := q9.symm
       subst q9
       clear P41
       refine Stp.go ?_))
  constructor
  go_wp2_with fail
  refine wp_region_any mixed (wpAny_tq 11 rfl (by kernel_rfl) [some (P0 b), some (P0 b), some (.pointer (some ⟨b, 1664, none⟩)), some (.int .i64 P.m), some (P0 b), some (P0 b), some (.pointer (some ⟨b, 1666, none⟩)), some (.map (some mb)), some (.int .i64 L.length), some (.int .i64 ((P.m : Int) - (L.length : Int))), some (.int .i64 ((P.m : Int) - (L.length : Int)))] rfl (by kernel_rfl) (by kernel_rfl) ?_ ?_)
  · intro i o' hi hsk ho a' w2 hout hin hk2
    replace hk2 : Kept [] w w2 := ⟨hk2.os, hk2.tape, hk2.output, hk2.size, hk2.block⟩
    match i, ho, hsk with
    | 0, ho, hsk =>
      obtain rfl := Option.some.inj ho
      exact wp_move (.tmp 0) rfl _ ((hout 0 (by kernel_rfl)).trans rfl) ⟨_, rfl, tq_is _ _ _ _ rfl, Kept.refl _ _, fun _ _ _ _ _ => trivial⟩
    | 1, ho, hsk =>
      obtain rfl := Option.some.inj ho
      have e0 : a'.eval (.tmp 5) = P0 b := is_tq (hin 0 5 (by kernel_rfl) (by kernel_rfl)) rfl
      exact o_nil (.tmp 5) rfl _ e0 ⟨_, rfl, tq_is _ _ _ _ rfl, Kept.refl _ _, fun _ _ _ _ _ => trivial⟩
    | 2, ho, hsk =>
      obtain rfl := Option.some.inj ho
      have e0 : a'.eval (.tmp 6) = P0 b := is_tq (hin 1 6 (by kernel_rfl) (by kernel_rfl)) rfl
      exact o_fld70_1 (.tmp 6) rfl b (0) (1664) rfl e0 ⟨_, rfl, tq_is _ _ _ _ rfl, Kept.refl _ _, fun _ _ _ _ _ => trivial⟩
    | 3, ho, hsk =>
      obtain rfl := Option.some.inj ho
      have e0 : a'.eval (.tmp 7) = .pointer (some ⟨b, 1664, none⟩) := is_tq (hin 2 7 (by kernel_rfl) (by kernel_rfl)) rfl
      exact o_load3 (.tmp 7) rfl _ _ e0 (hk2.cell (unhide HCM) (by simp)) ⟨_, rfl, tq_is _ _ _ _ rfl, Kept.refl _ _, fun _ _ _ _ _ => trivial⟩
    | 4, ho, hsk =>
      obtain rfl := Option.some.inj ho
      exact wp_move (.tmp 0) rfl _ ((hout 0 (by kernel_rfl)).trans rfl) ⟨_, rfl, tq_is _ _ _ _ rfl, Kept.refl _ _, fun _ _ _ _ _ => trivial⟩
    | 5, ho, hsk =>
      obtain rfl := Option.some.inj ho
      have e0 : a'.eval (.tmp 9) = P0 b := is_tq (hin 4 9 (by kernel_rfl) (by kernel_rfl)) rfl
      exact o_nil (.tmp 9) rfl _ e0 ⟨_, rfl, tq_is _ _ _ _ rfl, Kept.refl _ _, fun _ _ _ _ _ => trivial⟩
    | 6, ho, hsk =>
      obtain rfl := Option.some.inj ho
      have e0 : a'.eval (.tmp 10) = P0 b := is_tq (hin 5 10 (by kernel_rfl) (by kernel_rfl)) rfl
      exact o_fld70_3 (.tmp 10) rfl b (0) (1666) rfl e0 ⟨_, rfl, tq_is _ _ _ _ rfl, Kept.refl _ _, fun _ _ _ _ _ => trivial⟩
    | 7, ho, hsk =>
      obtain rfl := Option.some.inj ho
      have e0 : a'.eval (.tmp 11) = .pointer (some ⟨b, 1666, none⟩) := is_tq (hin 6 11 (by kernel_rfl) (by kernel_rfl)) rfl
      exact o_load68 (.tmp 11) rfl _ _ e0 (hk2.cell (unhide HCW) (by simp)) ⟨_, rfl, tq_is _ _ _ _ rfl, Kept.refl _ _, fun _ _ _ _ _ => trivial⟩
    | 8, ho, hsk =>
      obtain rfl := Option.some.inj ho
      have e0 : a'.eval (.tmp 12) = .map (some mb) := is_tq (hin 7 12 (by kernel_rfl) (by kernel_rfl)) rfl
      exact o_len68 (.tmp 12) rfl mb L e0 ((unhide HM).kept hk2 (by simp)) ⟨_, rfl, tq_is _ _ _ _ rfl, Kept.refl _ _, fun _ _ _ _ _ => trivial⟩
    | 9, ho, hsk =>
      obtain rfl := Option.some.inj ho
      have e0 : a'.eval (.tmp 8) = .int .i64 P.m := is_tq (hin 3 8 (by kernel_rfl) (by kernel_rfl)) rfl
      have e1 : a'.eval (.tmp 13) = .int .i64 L.length := is_tq (hin 8 13 (by kernel_rfl) (by kernel_rfl)) rfl
      exact c_sub3 (.tmp 8) (.tmp 13) rfl _ _ (by have := unhide HLE; omega) e0 e1 ⟨_, rfl, tq_is _ _ _ _ rfl, Kept.refl _ _, fun _ _ _ _ _ => trivial⟩
    | 10, ho, hsk =>
      obtain rfl := Option.some.inj ho
      have e0 : a'.eval (.tmp 14) = .int .i64 ((P.m : Int) - (L.length : Int)) := is_tq (hin 9 14 (by kernel_rfl) (by kernel_rfl)) rfl
      exact wp_assignV (.tmp 14) rfl _ e0 ⟨_, rfl, tq_is _ _ _ _ rfl, Kept.refl _ _, fun _ _ _ _ _ => trivial⟩
  intro w9 hk9
  replace hk9 : Kept [] w w9 := ⟨hk9.os, hk9.tape, hk9.output, hk9.size, hk9.block⟩
  simp only [valsQ, List.map_cons, List.map_nil, Option.getD_some, List.take_succ_cons, List.take_zero, putAll, Act.put, List.setIfInBounds_toArray, List.set_cons_succ, List.set_cons_zero]
  refine wpAny_done (by kernel_rfl) ?_ _
  go_wp2_with fail
  go_ret
  exact ⟨rfl, hk9⟩
theorem room27_z (v : Value) (h : Nil w v) : Calls Try.prog 27 #[v] w fun e w' => e = .returned (.int .i64 0) ∧ w' = w := by
  have P41 := hide (none41_z w v h)
  clear h
  go_enter Try.func27, Try.ntmps27
  go_wp2_with (
    first
    | (go_at_call 41
       refine (unhide P41).mono ?_
       rintro e W9 ⟨rfl, q9⟩
       replace q9 := q9.symm
       subst q9
       clear P41
       refine Stp.go ?_))
  constructor
  go_wp2_with fail
  go_ret
  exact ⟨rfl, rfl⟩

end Go.Proofs.Ytgnafbohikbpfaa
