/-
  The walk of Bytes.
-/
import Derived.Test.YtffflafalffifaaCopy
import Derived.Laws.AppendOwn
namespace Go.Proofs.Ytffflafalffifaa
open Go.RowKit Go.Shelf
attribute [local go_sem] Oper.semAt_some

section
variable {ops : Array Oper} {o : Oper} {a : Act} {w : World} {K : Act → World → Prop} {Q : Exit → Act → World → Prop}
theorem wpOp_of {P : Program} {i : Nat} (ho : ops[i]? = some o) (hg : o.guard = none) (h : o.wp P a w K Q) : wpOp P ops Q i K a w := by
  unfold wpOp
  rw [ho]
  have hw : Region.wanted o (yielded ops a.tmps) = true := by simp [Region.wanted, hg]
  simp only [hw, if_true]
  exact .inl h
theorem wp_load42 (x : Operand) (ho : o.op = .load 42 x) (b : Nat) (v : Value) (hx : a.eval x = P0 b) (hc : w.cell? ⟨b, 0, none⟩ = some v) (h : K (a.put o.dst v) w) : o.wp Try.prog a w K Q := by
  unfold Oper.wp execOp
  simp only [ho, hx]
  simp [go_sem, hc]
  exact h
theorem wp_slice38 (x : Operand) (ho : o.op = .slice 38 x none none none) (b : Nat) (hx : a.eval x = P0 b) (h : K (a.put o.dst (.slice (some ⟨b, 0, none⟩) 64 64)) w) : o.wp Try.prog a w K Q := by
  unfold Oper.wp execOp
  simp only [ho, hx]
  simp [go_sem]
  exact h
theorem wp_store42 (x y : Operand) (ho : o.op = .store 42 x y) (b : Nat) (v : Value) (ao : Option Addr) (m c : Nat) (hx : a.eval x = P0 b) (hy : a.eval y = .slice ao m c) (hc : w.cell? ⟨b, 0, none⟩ = some v) (hf : w.frozen? ⟨b, 0, none⟩ = false) (h : K (a.put o.dst undef) (w.setCell ⟨b, 0, none⟩ (.slice ao m c))) : o.wp Try.prog a w K Q := by
  unfold Oper.wp execOp
  simp only [ho, hx, hy]
  simp [go_sem, hc, hf]
  exact h
end

/-- The bytes that came. -/
def flatR (pre : List Row) : List Int := (pre.map Row.s).flatten
theorem flatR_snoc (pre : List Row) (x : Row) : flatR (pre ++ [x]) = flatR pre ++ x.s := by simp [flatR]
theorem flatR_len (pre : List Row) : (flatR pre).length = pre.length * 64 := by
  unfold flatR
  have := flat_len (S := pre.map Row.s) (by intro s hs; obtain ⟨x, _, rfl⟩ := List.mem_map.1 hs; exact x.h)
  rw [this, List.length_map]

/-- What Bytes holds between two rounds. -/
def BI (w : World) (pre : List Row) (W : World) : Prop := ∃ v, W.heap[w.heap.size]? = some (.cells #[v] 42 (0, 0)) ∧ W.ownsRow w.heap.size 5 1 v (flatR pre).length (u8s (flatR pre)) ∧ v.ownBlock ≠ some w.heap.size ∧ Kept [] w W
/-- Where the loop's variable lies. -/
def BA (a0 : Nat → Act) (x : Row) (a' : Act) (W : World) : Prop := ∃ q, W.heap[q]? = some (.cells (u8s x.s).toArray 38 (0, 0)) ∧ a' = a0 q

theorem owns_turn {W W' : World} {row : Option Nat} {base n : Nat} {v : Value} {xs : List Value} (h : W.ownsRow base 5 1 v n xs) (hg : W.grownBy W' row) (hr : ∀ r, row = some r → ∃ o : Obj, W.heap[r]? = some o ∧ o.isCells = false) : W'.ownsRow base 5 1 v n xs := by
  refine ⟨h.1, ?_⟩
  rcases h.2 with h1 | ⟨g, cap, cur, e, h2, h3, h4⟩
  · exact .inl h1
  · exact .inr ⟨g, cap, cur, e, h2, cells_kept h3 hg hr, h4⟩
theorem BI.own {w : World} {B : Nat} (hB : w.heap.size ≤ B) : OwnFrom B (BI w) := by
  intro pre W W' row hs hg hr
  obtain ⟨v, h1, h2, h3, h4⟩ := hs
  exact ⟨v, cells_kept h1 hg (fun r e => (hr r e).2), owns_turn h2 hg (fun r e => (hr r e).2), h3, kept_kept (B := B) h4 hg hB (fun r e => (hr r e).1)⟩
theorem BI.quiet {w W W' : World} {pre : List Row} (h : BI w pre W) (hk : Kept [] W W') : BI w pre W' := by
  obtain ⟨v, h1, h2, h3, h4⟩ := h
  exact ⟨v, hk.heap h1 (by simp), h2.kept (grown_of_kept hk) (by cases v.ownBlock <;> simp), h3, h4.trans hk⟩

end Go.Proofs.Ytffflafalffifaa
