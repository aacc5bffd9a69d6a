/-
  Single operations of SessionOrder; its regions' states.
-/
import Derived.Test.YthbgnpbkdeofcaaOa
namespace Go.Proofs.Ythbgnpbkdeofcaa
set_option maxRecDepth 100000
open Go.RowKit


section
variable {o : Oper} {a : Act} {w : World} {K : Act → World → Prop} {Q : Exit → Act → World → Prop}
theorem o_st40 (x y : Operand) (ho : o.op = .store 40 x y) (_ : o.dst = none) (b i TT : Nat) (us : List Value) (v : Value) (hx : a.eval x = .pointer (some ⟨b, i, none⟩)) (hy : a.eval y = v) (hv : ∃ ao m c, v = .slice ao m c) (hB : Blk w b TT us) (hi : i < us.length)
    (h : ∀ W, Blk W b TT (us.set i v) → Kept [b] w W → K (a.put o.dst undef) W) : o.wp Try.prog a w K Q := by
  obtain ⟨ao, m, c, rfl⟩ := hv
  have hst : (storeVar 40 ⟨b, i, none⟩ (.slice ao m c)).run Try.prog w = .ok () (w.setCell ⟨b, i, none⟩ (.slice ao m c)) := by
    have hc := hB.cell i
    rw [List.getElem?_eq_getElem hi] at hc
    have hf := hB.frozen i
    simp [storeVar, go_sem, hc, hf]
  have := h _ (hB.set (i := i) (.slice ao m c)) ((Kept.refl _ _).setCell (by simp) _)
  unfold Oper.wp execOp
  simp only [ho, hx, hy, Instr.storeAt, Instr.sureAddr, Sem.run_bind, Sem.run_pure, Result.andThen_ok, hst]
  exact this
theorem o_load40 (x : Operand) (ho : o.op = .load 40 x) (p : Addr) (v : Value) (hx : a.eval x = .pointer (some p)) (hc : w.cell? p = some v) (h : K (a.put o.dst v) w) : o.wp Try.prog a w K Q := by
  unfold Oper.wp execOp
  simp only [ho, hx]
  simp [go_sem, hc]
  exact h
theorem o_slTo (x y : Operand) (ho : o.op = .slice 40 x none (some y) none) (g m c n : Nat) (hn : n ≤ c) (hx : a.eval x = .slice (some ⟨g, 0, none⟩) m c) (hy : a.eval y = .int .i64 n) (h : K (a.put o.dst (.slice (some ⟨g, 0, none⟩) n c)) w) : o.wp Try.prog a w K Q := by
  unfold Oper.wp execOp
  simp only [ho, hx, hy, Option.map_none, Option.map_some]
  simp [go_sem, hn]
  exact h
theorem o_slFrom (x y : Operand) (ho : o.op = .slice 40 x (some y) none none) (g m c n : Nat) (hm : m ≤ c) (hn : n ≤ m) (hx : a.eval x = .slice (some ⟨g, 0, none⟩) m c) (hy : a.eval y = .int .i64 n) (h : ∀ off, (n < m → off = n * 6) → K (a.put o.dst (.slice (some ⟨g, off, none⟩) (m - n) (c - n))) w) : o.wp Try.prog a w K Q := by
  unfold Oper.wp execOp
  simp only [ho, hx, hy, Option.map_none, Option.map_some]
  by_cases e : c = n
  · subst e
    obtain rfl : m = c := by omega
    have := h 0 (fun h => absurd h (by omega))
    simp [go_sem]
    simp at this
    exact this
  · have := h (n * 6) (fun _ => rfl)
    simp [go_sem, e, hn, Addr.add_lit]
    exact this
theorem o_add1 (x : Operand) (ho : o.op = .binOp .add 3 x (.const (.int .i64 1)) 3) (n : Nat) (hn : n < 1000000) (hx : a.eval x = .int .i64 n) (h : K (a.put o.dst (.int .i64 ((n + 1 : Nat) : Int))) w) : o.wp Try.prog a w K Q := by
  have hw : IntKind.i64.wrap ((n : Int) + 1) = (n : Int) + 1 := by rw [IntKind.wrap_i64]; omega
  have e : ((n + 1 : Nat) : Int) = (n : Int) + 1 := by omega
  rw [e] at h
  unfold Oper.wp execOp
  simp only [ho, hx]
  simp [go_sem, Act.eval, hw]
  exact h
theorem o_geqc (x : Operand) (c : Int) (ho : o.op = .binOp .geq 3 x (.const (.int .i64 c)) 3) (m : Int) (r : Bool) (hr : decide (c ≤ m) = r) (hx : a.eval x = .int .i64 m) (h : K (a.put o.dst (.bool r)) w) : o.wp Try.prog a w K Q := by
  subst hr
  unfold Oper.wp execOp
  simp only [ho, hx]
  simp [go_sem, Act.eval]
  exact h
theorem o_leqc (x : Operand) (c : Int) (ho : o.op = .binOp .leq 3 x (.const (.int .i64 c)) 3) (m : Int) (r : Bool) (hr : decide (m ≤ c) = r) (hx : a.eval x = .int .i64 m) (h : K (a.put o.dst (.bool r)) w) : o.wp Try.prog a w K Q := by
  subst hr
  unfold Oper.wp execOp
  simp only [ho, hx]
  simp [go_sem, Act.eval]
  exact h
end
/-- A row of datagrams as the source of an append. -/
theorem Dl.src {W : World} {B : Nat} {v : Value} {L : List (Dg × Value)} (h : Dl W B v L) : ∃ ao c, v = .slice ao L.length c ∧ L.length ≤ c ∧ (ao = none → L.length = 0 ∧ c = 0) ∧ (∀ ad, ao = some ad → ∃ g, ad = ⟨g, 0, none⟩ ∧ ∀ j u, (cellsD L)[j]? = some u → W.cell? ⟨g, j, none⟩ = some u) := by
  rcases h.row.2 with ⟨h1, h2⟩ | ⟨g, cap, cur, h1, _, h3, _, _, h6, h7⟩
  · exact ⟨none, 0, by rw [h1, h2], by omega, fun _ => ⟨h2, rfl⟩, fun ad e => by cases e⟩
  · refine ⟨some ⟨g, 0, none⟩, cap, h1, by omega, (fun e => by cases e), fun ad e => ?_⟩
    cases e
    refine ⟨g, rfl, fun j u hj => ?_⟩
    have hjl := (List.getElem?_eq_some_iff.1 hj).1
    rw [cellsD_len] at hjl
    rw [cell_of_block h3, ← Array.getElem?_toList]
    rw [← h7, List.getElem?_take_of_lt (by omega)] at hj
    exact hj
theorem cellsD_ones {W : World} {L : List (Dg × Value)} (hb : ∀ p ∈ L, Bod W p.2 p.1.bs) : ∀ u ∈ cellsD L, u.oneCell' = true := by
  intro u hu
  unfold cellsD at hu
  obtain ⟨p, hp, hu⟩ := List.mem_flatMap.1 hu
  exact DgC_one (hb p hp).one u hu
/-- What a region 'on = append(on, s.Fresh()...)' keeps. -/
@[reducible] def S15 (V : World) (B b z : Nat) (v : Value) (ws : List Value) (P : Ps) (Fr : List Dg) (onv : Value) (D : List (Dg × Value)) (C : Value → List Value) (d : Nat → Bool) (vs : Nat → Value) (W : World) : Prop :=
  (d 12 = false → (d 11 = false → Kept [] V W) ∧ (d 11 = true → ∃ Lr, Dl W V.heap.size (vs 11) Lr ∧ Lr.map Prod.fst = Fr ∧ SR V b v ws W v ws P)) ∧
  (d 12 = true → ∃ Lr W1, Lr.map Prod.fst = Fr ∧ SR V b v ws W1 v ws P ∧ Dl W B (vs 12) (D ++ Lr) ∧ (d 15 = false → Blk W z 54 (C onv) ∧ Kept onv.ownBlock.toList W1 W) ∧ (d 15 = true → Blk W z 54 (C (vs 12)) ∧ Kept (z :: onv.ownBlock.toList) W1 W)) ∧
  (d 15 = true → d 12 = true)
theorem S15.loc {V : World} {B b z : Nat} {v : Value} {ws : List Value} {P : Ps} {Fr : List Dg} {onv : Value} {D : List (Dg × Value)} {C : Value → List Value} : ∀ d d' vs vs' W, (∀ i ∈ [11, 12, 15], d i = d' i ∧ vs i = vs' i) → S15 V B b z v ws P Fr onv D C d vs W → S15 V B b z v ws P Fr onv D C d' vs' W := by
  intro d d' vs vs' W H h
  have e0 := H 11 (by simp)
  have e1 := H 12 (by simp)
  have e2 := H 15 (by simp)
  unfold S15 at h ⊢
  rw [← e0.1, ← e0.2, ← e1.1, ← e1.2, ← e2.1]
  exact h
/-- One call that writes, at the operation k. -/
@[reducible] def SC (k : Nat) (V : World) (b : Nat) (v : Value) (ws : List Value) (P : Ps) (d : Nat → Bool) (_ : Nat → Value) (W : World) : Prop :=
  (d k = false → Kept [] V W) ∧ (d k = true → ∃ v' ws', SR V b v ws W v' ws' P)
theorem SC.loc {k : Nat} {V : World} {b : Nat} {v : Value} {ws : List Value} {P : Ps} : ∀ d d' vs vs' W, (∀ i ∈ [k], d i = d' i ∧ vs i = vs' i) → SC k V b v ws P d vs W → SC k V b v ws P d' vs' W := by
  intro d d' vs vs' W H h
  have e0 := H k (by simp)
  unfold SC at h ⊢
  rw [← e0.1]
  exact h
/-- A variable is made and filled (operations 8, 9). -/
@[reducible] def SV9 (V : World) (vC zC : List Value) (T : Nat) (d : Nat → Bool) (vs : Nat → Value) (W : World) : Prop :=
  Kept [] V W ∧ (d 8 = true → ∃ p, vs 8 = P0 p ∧ V.heap.size ≤ p ∧ (d 9 = false → Blk W p T zC) ∧ (d 9 = true → Blk W p T vC))
theorem SV9.loc {V : World} {vC zC : List Value} {T : Nat} : ∀ d d' vs vs' W, (∀ i ∈ [8, 9], d i = d' i ∧ vs i = vs' i) → SV9 V vC zC T d vs W → SV9 V vC zC T d' vs' W := by
  intro d d' vs vs' W H h
  have e0 := H 8 (by simp)
  have e1 := H 9 (by simp)
  unfold SV9 at h ⊢
  rw [← e0.1, ← e0.2, ← e1.1]
  exact h
/-- l = append(l, on[:n]...) : the new row at 8, laid at 9. -/
@[reducible] def S22 (V : World) (B : Nat) (R : List (Dg × Value)) (d : Nat → Bool) (vs : Nat → Value) (W : World) : Prop :=
  Kept [] V W ∧ (d 8 = true → Dl W B (vs 8) R ∧ ∀ k, (vs 8).ownBlock = some k → V.heap.size ≤ k) ∧ (d 9 = true → vs 9 = vs 8 ∧ d 8 = true)
theorem S22.loc {V : World} {B : Nat} {R : List (Dg × Value)} : ∀ d d' vs vs' W, (∀ i ∈ [8, 9], d i = d' i ∧ vs i = vs' i) → S22 V B R d vs W → S22 V B R d' vs' W := by
  intro d d' vs vs' W H h
  have e0 := H 8 (by simp)
  have e1 := H 9 (by simp)
  unfold S22 at h ⊢
  rw [← e0.1, ← e0.2, ← e1.1, ← e1.2]
  exact h
/-- on = append(l, on[n+1:]...): the rest at 9, the row at 10, laid at 13. -/
@[reducible] def S23 (V : World) (B z dg m c n : Nat) (lv : Value) (R : List (Dg × Value)) (onv : Value) (C : Value → List Value) (d : Nat → Bool) (vs : Nat → Value) (W : World) : Prop :=
  (d 10 = false → Kept [] V W ∧ (d 9 = true → ∃ off, vs 9 = .slice (some ⟨dg, off, none⟩) (m - (n + 1)) (c - (n + 1)) ∧ (n + 1 < m → off = (n + 1) * 6))) ∧ (d 10 = true → Dl W B (vs 10) R ∧ (d 13 = false → Blk W z 54 (C onv) ∧ Kept lv.ownBlock.toList V W) ∧ (d 13 = true → Blk W z 54 (C (vs 10)) ∧ Kept (z :: lv.ownBlock.toList) V W)) ∧ (d 13 = true → d 10 = true)
theorem S23.loc {V : World} {B z dg m c n : Nat} {lv : Value} {R : List (Dg × Value)} {onv : Value} {C : Value → List Value} : ∀ d d' vs vs' W, (∀ i ∈ [9, 10, 13], d i = d' i ∧ vs i = vs' i) → S23 V B z dg m c n lv R onv C d vs W → S23 V B z dg m c n lv R onv C d' vs' W := by
  intro d d' vs vs' W H h
  have e9 := H 9 (by simp)
  have e0 := H 10 (by simp)
  have e1 := H 13 (by simp)
  unfold S23 at h ⊢
  rw [← e0.1, ← e0.2, ← e1.1, ← e9.1, ← e9.2]
  exact h
theorem owns_ge {W : World} {base e size n : Nat} {v : Value} {xs : List Value} (h : W.ownsRow base e size v n xs) : ∀ k, v.ownBlock = some k → base ≤ k := by
  intro k hk
  rcases h.2 with ⟨rfl, _⟩ | ⟨g, cap, cur, rfl, h1, _⟩
  · cases hk
  · cases hk; exact h1
theorem Zt.mono {w W : World} {z : Nat} {vw : Int} {pt : Nat → Nat} {sv : Nat → Value} {sw : Nat → List Value} {sp : Nat → Ps} {onv : Value} {D : List (Dg × Value)} {st ou : Nat → Value} {L M : Nat → List (List Int)} {N N' : Nat} (h : Zt w W z vw pt sv sw sp onv D st ou L M N) (hN : N ≤ N') : Zt w W z vw pt sv sw sp onv D st ou L M N' := ⟨h.t, h.iv, fun i hi => by have := h.n i hi; omega, h.d⟩
theorem cells_take {D : List (Dg × Value)} {n j : Nat} {u : Value} (h : (cellsD (D.take n))[j]? = some u) : (cellsD D)[j]? = some u := by
  have e : cellsD D = cellsD (D.take n) ++ cellsD (D.drop n) := by rw [← cellsD_app, List.take_append_drop]
  rw [e, List.getElem?_append_left (List.getElem?_eq_some_iff.1 h).1]
  exact h
theorem cells_drop {D : List (Dg × Value)} {n j : Nat} {u : Value} (hn : n ≤ D.length) (h : (cellsD (D.drop n))[j]? = some u) : (cellsD D)[n * 6 + j]? = some u := by
  have e : cellsD D = cellsD (D.take n) ++ cellsD (D.drop n) := by rw [← cellsD_app, List.take_append_drop]
  have hl : (cellsD (D.take n)).length = n * 6 := by rw [cellsD_len, List.length_take]; omega
  rw [e, List.getElem?_append_right (by omega), hl, Nat.add_sub_cancel_left]
  exact h
theorem rb_slice {W : World} {v : Value} {L : List (List Int)} (h : Rb W v L) : ∃ ao c, v = .slice ao L.length c := by
  obtain ⟨ws, hb⟩ := h
  obtain ⟨ao, c, e, _⟩ := hb.row.sl
  exact ⟨ao, c, by rw [← hb.len]; exact e⟩

end Go.Proofs.Ythbgnpbkdeofcaa
