/-
  Tables with any number of operations that write; appends as single operations.
-/
import Derived.Test.YtpcggcicpojdoaaKna
import Derived.Maps.AppendAt
import Derived.Laws.AppendOwnNone
namespace Go.Proofs.Ytpcggcicpojdoaa
open Go.RowKit

section
variable {l : Array Bool} {vs : Nat → Value} {w : World} {j : Nat} {v : Value} {St : (Nat → Bool) → (Nat → Value) → World → Prop}
theorem keepG (sp : List Nat) (hloc : ∀ b b' vs vs' W, (∀ i ∈ sp, b i = b' i ∧ vs i = vs' i) → St b vs W → St b' vs' W) (hj : j < l.size) (hn : sp.all (fun i => i != j) = true) (h : St (fun i => l.getD i false) vs w) : St (fun i => (l.setIfInBounds j true).getD i false) (fun i => if i = j then v else vs i) w := by
  refine hloc _ _ _ _ _ (fun i hi => ?_) h
  have hne : i ≠ j := by
    have := (List.all_eq_true.1 hn) i hi
    simpa using this
  exact ⟨by rw [getD_setD hj, if_neg hne], by rw [if_neg hne]⟩
theorem nextG (hj : j < l.size) (h : St (fun i => if i = j then true else l.getD i false) (fun i => if i = j then v else vs i) w) : St (fun i => (l.setIfInBounds j true).getD i false) (fun i => if i = j then v else vs i) w := by
  have e : (fun i => (l.setIfInBounds j true).getD i false) = (fun i => if i = j then true else l.getD i false) := by
    funext i
    rw [getD_setD hj]
  rw [e]
  exact h
end
theorem Try.sl34 : Try.prog.underlying 34 = some (.slice 5) := by kernel_rfl
theorem Try.info5 : (Try.prog.info? 5).map (fun i => (i.zero, i.size, i.bytes)) = some (some (.int .u8 0), 1, 1) := by kernel_rfl
section
variable {o : Oper} {a : Act} {w : World} {K : Act → World → Prop} {Q : Exit → Act → World → Prop}
/-- An append to a row of one's own, as a single operation. -/
theorem o_appG {T e size by8 : Nat} {z : Value} (hT : Try.prog.underlying T = some (.slice e)) (hI : (Try.prog.info? e).map (fun i => (i.zero, i.size, i.bytes)) = some (some z, size, by8)) (hz : z.cells.size = size) (hs0 : 0 < size) (h8 : by8 ≤ 64) (s x : Operand) (ho : o.op = .call { callee := .builtin .append, args := #[s, x], argTypes := #[T, T] })
    (B : Nat) (v : Value) (k : Nat) (xs ys : List Value) (hs : a.eval s = v) (hown : w.ownsRow B e size v k xs) (ao : Option Addr) (m c : Nat) (hx : a.eval x = .slice ao m c) (hnil : ao = none → m = 0 ∧ c = 0) (hl : ys.length = m * size) (hys : ∀ ad, ao = some ad → ∀ j u, ys[j]? = some u → w.cell? (ad.add j) = some u) (hone : ∀ u ∈ ys, u.oneCell' = true) (hk : k + m ≤ 1000000) (hB : B ≤ w.heap.size)
    (h : ∀ v' w', w'.ownsRow B e size v' (k + m) (xs ++ ys) → w.grownBy w' v.ownBlock → (v'.ownBlock = v.ownBlock ∨ v'.ownBlock = some w.heap.size) → K (a.put o.dst v') w') : o.wp Try.prog a w K Q := by
  obtain ⟨i, hi, hz0, hz1, hz2⟩ := info_parts hI
  cases ao with
  | none =>
    obtain ⟨rfl, rfl⟩ := hnil rfl
    obtain rfl : ys = [] := List.length_eq_zero_iff.1 (by omega)
    have hr := run_append_owned_none (P := Try.prog) (w := w) B T o.type e i size hT hi v k xs hown
    unfold Oper.wp execOp
    simp only [ho, resolve, invoke, builtin, Sem.run_bind, Sem.run_pure, Result.andThen_ok, List.map_toArray, List.map_cons, List.map_nil, hs, hx, hr]
    exact h v w (by rw [List.append_nil]; exact hown) ⟨rfl, rfl, rfl, Nat.le_refl _, fun _ _ _ => rfl⟩ (.inl rfl)
  | some ad =>
    have hb8 : (k + m) * by8 ≤ 140737488355328 := by
      have : (k + m) * by8 ≤ 1000000 * 64 := Nat.mul_le_mul hk h8
      omega
    obtain ⟨v', w', hr, h2, h3, _, h5⟩ := run_append_own_at (P := Try.prog) w B T o.type e i z size by8 hT hi hz0 hz1 hz2 hz hs0 v k xs hown ad m c ys hl (hys ad rfl) hone (by simp [maxLen]; omega) hb8 hB
    unfold Oper.wp execOp
    simp only [ho, resolve, invoke, builtin, Sem.run_bind, Sem.run_pure, Result.andThen_ok, List.map_toArray, List.map_cons, List.map_nil, hs, hx, hr]
    exact h v' w' h2 h3 h5
theorem o_st43 (x y : Operand) (ho : o.op = .store 43 x y) (_ : o.dst = none) (b i TT : Nat) (us : List Value) (v : Value) (hx : a.eval x = .pointer (some ⟨b, i, none⟩)) (hy : a.eval y = v) (hv : ∃ ao m c, v = .slice ao m c) (hB : Blk w b TT us) (hi : i < us.length)
    (h : ∀ W, Blk W b TT (us.set i v) → Kept [b] w W → K (a.put o.dst undef) W) : o.wp Try.prog a w K Q := by
  obtain ⟨ao, m, c, rfl⟩ := hv
  have hst : (storeVar 43 ⟨b, i, none⟩ (.slice ao m c)).run Try.prog w = .ok () (w.setCell ⟨b, i, none⟩ (.slice ao m c)) := by
    have hc := hB.cell i
    rw [List.getElem?_eq_getElem hi] at hc
    have hf := hB.frozen i
    simp [storeVar, go_sem, hc, hf]
  have := h _ (hB.set (i := i) (.slice ao m c)) ((Kept.refl _ _).setCell (by simp) _)
  unfold Oper.wp execOp
  simp only [ho, hx, hy, Instr.storeAt, Instr.sureAddr, Sem.run_bind, Sem.run_pure, Result.andThen_ok, hst]
  exact this
theorem o_bsL (x : Operand) (ho : o.op = .buildSlice 43 1 #[(0, x)]) (c0 c1 c2 c3 : Value) (hx : a.eval x = aggV [c0, c1, c2, c3]) (h : K (a.put o.dst (.slice (some ⟨w.heap.size, 0, none⟩) 1 1)) (w.alloc (.cells [c0, c1, c2, c3].toArray 47))) : o.wp Try.prog a w K Q := by
  have hr : (Instr.buildSlice 43 1 #[(0, aggV [c0, c1, c2, c3])]).run Try.prog w = .ok (.slice (some ⟨w.heap.size, 0, none⟩) 1 1) (w.alloc (.cells [c0, c1, c2, c3].toArray 47)) := by kernel_rfl
  unfold Oper.wp execOp
  simp only [ho, List.map_toArray, List.map_cons, List.map_nil, hx, Sem.run_bind, hr, Result.andThen_ok]
  exact h
end
/-- The document's net stands in memory. -/
structure Rt (W : World) (r : Nat) (lv : Value) (R : Nn) : Prop where
  head : Blk W r 60 [.int .i64 R.nodes, lv, .int .i64 R.last]
  row : W.ownsRow 0 47 4 lv R.L.length (cellsL R.L)
  body : ∀ l ∈ R.L, Bod W l.v l.bs
theorem Rt.kept {W W' : World} {r : Nat} {lv : Value} {R : Nn} {X : List Nat} (h : Rt W r lv R) (hk : Kept X W W') (hX : ∀ k ∈ X, ∀ cs T p, W.heap[k]? = some (Obj.cells cs T p) → T ≠ 60 ∧ T ≠ 47 ∧ T ≠ 5) : Rt W' r lv R := by
  refine ⟨h.head.kept hk (fun hm => (hX r hm _ _ _ h.head).1 rfl), owns_keptX h.row hk (fun k e hm => ?_), fun l hl => (h.body l hl).kept hk (fun k e hm => ?_)⟩
  · obtain ⟨cs, hc⟩ := owns_block h.row k e
    exact (hX k hm _ _ _ hc).2.1 rfl
  · obtain ⟨cs, hc⟩ := (h.body l hl).block k e
    exact (hX k hm _ _ _ hc).2.2 rfl
theorem Rt.kept0 {W W' : World} {r : Nat} {lv : Value} {R : Nn} (h : Rt W r lv R) (hk : Kept [] W W') : Rt W' r lv R := h.kept hk (fun k hm => by cases hm)
theorem Rt.sl {W : World} {r : Nat} {lv : Value} {R : Nn} (h : Rt W r lv R) : ∃ lo c, lv = .slice lo R.L.length c ∧ (lo = none → R.L.length = 0 ∧ c = 0) ∧ R.L.length ≤ c ∧ ∀ ad, lo = some ad → ∀ j u, (cellsL R.L)[j]? = some u → W.cell? (ad.add j) = some u := by
  have h1 := h.row.1
  rcases h.row.2 with ⟨e1, e2⟩ | ⟨g, cap, cur, e1, _, h3, h4, _, _, h7⟩
  · exact ⟨none, 0, by rw [e1, e2], fun _ => ⟨e2, rfl⟩, by omega, fun ad e => by cases e⟩
  · refine ⟨some ⟨g, 0, none⟩, cap, e1, (fun e => by cases e), h4, fun ad e j u hj => ?_⟩
    cases e
    rw [Addr.add_lit, Nat.zero_add, cell_of_block h3]
    have hlt : j < R.L.length * 4 := by have := (List.getElem?_eq_some_iff.1 hj).1; omega
    rw [← h7, List.getElem?_take_of_lt hlt] at hj
    rw [← hj, Array.getElem?_toList]
theorem cellsL_len (L : List Ltr) : (cellsL L).length = L.length * 4 := by
  induction L with
  | nil => rfl
  | cons x L ih =>
    have e : cellsL (x :: L) = x.C ++ cellsL L := by simp [cellsL]
    rw [e, List.length_append, ih, Ltr.lenC, List.length_cons]
    omega
theorem cellsL_ones {W : World} {L : List Ltr} (h : ∀ l ∈ L, Bod W l.v l.bs) : ∀ u ∈ cellsL L, u.oneCell' = true := by
  intro u hu
  unfold cellsL at hu
  rw [List.mem_flatten] at hu
  obtain ⟨cs, hcs, hu⟩ := hu
  obtain ⟨l, hl, rfl⟩ := List.mem_map.1 hcs
  exact D_one (l := l) (h l hl).one u hu
theorem rnew_no (n : Int) (w : World) (h : ¬(1 ≤ n ∧ n ≤ 8)) : Calls Try.prog 8 #[.int .i64 n] w fun e w' => e = .returned (.pointer none) ∧ w' = w := by
  by_cases h1 : n < 1
  · go_enter Try.func8, Try.ntmps8
    go_wp2
    go_ret
    exact ⟨rfl, rfl⟩
  · have h2 : 8 < n := by omega
    go_enter Try.func8, Try.ntmps8
    go_wp2
    go_ret
    exact ⟨rfl, rfl⟩
theorem rnew_yes (n : Int) (w : World) (h : 1 ≤ n ∧ n ≤ 8) : Calls Try.prog 8 #[.int .i64 n] w fun e w' => ∃ r, e = .returned (P0 r) ∧ w.heap.size ≤ r ∧ Rt w' r (.slice none 0 0) (newN n) ∧ Kept [] w w' := by
  have h1 := h.1
  have h2 := h.2
  go_enter Try.func8, Try.ntmps8
  go_wp2_with (
    first
    | (refine wpBuildP (by rfl) #[(0, .tmp 9)] (by rfl) #[(0, .int .i64 n)] (by kernel_rfl) [.int .i64 n, .slice none 0 0, .int .i64 0] (by kernel_rfl) ?_)
    | (refine wpBoxV (by rfl) (.tmp 10) (by rfl) [.int .i64 n, .slice none 0 0, .int .i64 0] (by kernel_rfl) ?_
       intro W2 b2 e2 B2 K2
       have HE := hide e2
       clear e2))
  go_ret
  exact ⟨b2, rfl, by rw [unhide HE]; exact Nat.le_refl _, ⟨B2, World.ownsRow_nil _ _ _ _, fun l hl => by cases hl⟩, K2⟩

end Go.Proofs.Ytpcggcicpojdoaa
