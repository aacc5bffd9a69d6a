/-
  Laws for the walk of AreaAll: variables of one cell, and what a round leaves.
-/
import Derived.Test.YtcfoebpbbmnleaaItera
import Derived.Test.YtcfoebpbbmnleaaKnown
namespace Go.Proofs.Ytcfoebpbbmnleaa
open Go.RowKit Go.Shelf
attribute [local go_sem] Oper.semAt_some

theorem zero3 (w : World) : (Instr.alloc 3 true (.tuple #[])).run Try.prog w = .ok (P0 w.heap.size) (w.alloc (.cells [Value.int .i64 0].toArray 3)) := by kernel_rfl
theorem zero4 (w : World) : (Instr.alloc 4 true (.tuple #[])).run Try.prog w = .ok (P0 w.heap.size) (w.alloc (.cells [Value.bool false].toArray 4)) := by kernel_rfl
theorem zero25 (w : World) : (Instr.alloc 25 true (.tuple #[])).run Try.prog w = .ok (P0 w.heap.size) (w.alloc (.cells [Value.slice none 0 0].toArray 25)) := by kernel_rfl
theorem run_box3 (n : Int) (w : World) : (Instr.box 3 (.int .i64 n)).run Try.prog w = .ok (P0 w.heap.size) (w.alloc (.cells [Value.int .i64 n].toArray 3)) := by kernel_rfl
theorem eq42 (q : Value) (W : World) : Sem.run Try.prog (binOp BinOp.eql 42 (.func (.func 27) #[] #[q]) .nilFunc) W = .ok (.bool false) W := by kernel_rfl
theorem st3 (w : World) (b : Nat) (u : Value) (n : Int) (h : Blk w b 3 [u]) : (storeVar 3 ⟨b, 0, none⟩ (.int .i64 n)).run Try.prog w = .ok () (w.setCell ⟨b, 0, none⟩ (.int .i64 n)) := by
  have hc := fits_cell h 0 u rfl
  have hf := h.frozen 0
  simp [storeVar, go_sem, hc, hf]
theorem st4 (w : World) (b : Nat) (u : Value) (n : Bool) (h : Blk w b 4 [u]) : (storeVar 4 ⟨b, 0, none⟩ (.bool n)).run Try.prog w = .ok () (w.setCell ⟨b, 0, none⟩ (.bool n)) := by
  have hc := fits_cell h 0 u rfl
  have hf := h.frozen 0
  simp [storeVar, go_sem, hc, hf]
theorem st25 (w : World) (b : Nat) (u : Value) (ao : Option Addr) (m c : Nat) (h : Blk w b 25 [u]) : (storeVar 25 ⟨b, 0, none⟩ (.slice ao m c)).run Try.prog w = .ok () (w.setCell ⟨b, 0, none⟩ (.slice ao m c)) := by
  have hc := fits_cell h 0 u rfl
  have hf := h.frozen 0
  simp [storeVar, go_sem, hc, hf]
theorem Blk.one {w : World} {b T : Nat} {u : Value} (h : Blk w b T [u]) (v : Value) : Blk (w.setCell ⟨b, 0, none⟩ v) b T [v] := h.set v
section
variable {F : Fence} {n : Nat} {ops : Array Oper} {rest : List Oper} {o o1 o2 : Oper} {a : Act} {w : World} {Q : Exit → Act → World → Prop}
theorem inBoxA {T : Nat} (hF : ∀ f, F.fn f) (hg : o.guard = none) (x : Operand) (ho : o.op = .box T x) (hsem : o.semAt F.round a.eval = execOp a.eval o) (vs : List Value) (hx : a.eval x = aggV vs)
    (h : ∀ W b, b = w.heap.size → Blk W b T vs → Kept [] w W → wpListIn F n Try.prog ops Q rest (a.put o.dst (P0 b)) W) : wpListIn F n Try.prog ops Q (o :: rest) a w := by
  refine wpListIn_want (by simp [Region.wanted, hg]) (wpIn_value (v := P0 w.heap.size) (w' := w.alloc (.cells vs.toArray T)) hF hsem ?_ (h _ _ rfl (Blk.new w T vs) ((Kept.refl _ _).alloc _)))
  unfold execOp
  simp only [ho, hx, Sem.run_bind, run_boxA, Result.andThen_ok]
  rfl
theorem inBox3 (hF : ∀ f, F.fn f) (hg : o.guard = none) (x : Operand) (ho : o.op = .box 3 x) (hsem : o.semAt F.round a.eval = execOp a.eval o) (k : Int) (hx : a.eval x = .int .i64 k)
    (h : ∀ W b, b = w.heap.size → Blk W b 3 [.int .i64 k] → Kept [] w W → wpListIn F n Try.prog ops Q rest (a.put o.dst (P0 b)) W) : wpListIn F n Try.prog ops Q (o :: rest) a w := by
  refine wpListIn_want (by simp [Region.wanted, hg]) (wpIn_value (v := P0 w.heap.size) (w' := w.alloc (.cells [Value.int .i64 k].toArray 3)) hF hsem ?_ (h _ _ rfl (Blk.new w 3 _) ((Kept.refl _ _).alloc _)))
  unfold execOp
  simp only [ho, hx, Sem.run_bind, run_box3, Result.andThen_ok]
  rfl
theorem inAlloc1 {T : Nat} (z : Value) (hr : ∀ w : World, (Instr.alloc T true (.tuple #[])).run Try.prog w = .ok (P0 w.heap.size) (w.alloc (.cells [z].toArray T))) (hF : ∀ f, F.fn f) (hg : o.guard = none) (ho : o.op = .alloc T) (hsem : o.semAt F.round a.eval = execOp a.eval o)
    (h : ∀ W b, b = w.heap.size → Blk W b T [z] → Kept [] w W → wpListIn F n Try.prog ops Q rest (a.put o.dst (P0 b)) W) : wpListIn F n Try.prog ops Q (o :: rest) a w := by
  refine wpListIn_want (by simp [Region.wanted, hg]) (wpIn_value (v := P0 w.heap.size) (w' := w.alloc (.cells [z].toArray T)) hF hsem ?_ (h _ _ rfl (Blk.new w T _) ((Kept.refl _ _).alloc _)))
  unfold execOp
  simp only [ho, Sem.run_bind, hr, Result.andThen_ok]
  rfl
theorem inVar {T : Nat} (z v : Value) (hr : ∀ w : World, (Instr.alloc T true (.tuple #[])).run Try.prog w = .ok (P0 w.heap.size) (w.alloc (.cells [z].toArray T))) (hst : ∀ (w : World) (b : Nat) (u : Value), Blk w b T [u] → (storeVar T ⟨b, 0, none⟩ v).run Try.prog w = .ok () (w.setCell ⟨b, 0, none⟩ v))
    (d : Nat) (hd : o1.dst = some d) (hF : ∀ f, F.fn f) (hg1 : o1.guard = none) (ho1 : o1.op = .alloc T) (hs1 : o1.semAt F.round a.eval = execOp a.eval o1) (y : Operand) (hg2 : o2.guard = none) (ho2 : o2.op = .store T (.tmp d) y) (hs2 : ∀ a : Act, o2.semAt F.round a.eval = execOp a.eval o2) (hd2 : o2.dst = none)
    (hx : (a.put (some d) (P0 w.heap.size)).eval (.tmp d) = P0 w.heap.size) (hy : (a.put (some d) (P0 w.heap.size)).eval y = v)
    (h : ∀ W b, b = w.heap.size → Blk W b T [v] → Kept [] w W → wpListIn F n Try.prog ops Q rest (a.put (some d) (P0 b)) W) : wpListIn F n Try.prog ops Q (o1 :: o2 :: rest) a w := by
  refine wpListIn_want (by simp [Region.wanted, hg1]) (wpIn_value (v := P0 w.heap.size) (w' := w.alloc (.cells [z].toArray T)) hF hs1 ?_ ?_)
  · unfold execOp
    simp only [ho1, Sem.run_bind, hr, Result.andThen_ok]
    rfl
  · rw [hd]
    have hb : Blk (w.alloc (.cells [z].toArray T)) w.heap.size T [z] := Blk.new w T [z]
    refine wpListIn_want (by simp [Region.wanted, hg2]) (wpIn_skip (w' := (w.alloc (.cells [z].toArray T)).setCell ⟨w.heap.size, 0, none⟩ v) hF (hs2 _) ?_ ?_)
    · unfold execOp
      simp only [ho2, hx, hy, Instr.storeAt, Instr.sureAddr, Sem.run_bind, Sem.run_pure, Result.andThen_ok, hst _ _ _ hb]
    · rw [hd2]
      exact h _ _ rfl (hb.one v) (((Kept.refl _ _).alloc _).setCell (p := ⟨w.heap.size, 0, none⟩) (by simp) _)
theorem inStore1 {T : Nat} (u v : Value) (hst : ∀ (w : World) (b : Nat) (u : Value), Blk w b T [u] → (storeVar T ⟨b, 0, none⟩ v).run Try.prog w = .ok () (w.setCell ⟨b, 0, none⟩ v)) (hF : ∀ f, F.fn f) (hg : o.guard = none) (x y : Operand) (ho : o.op = .store T x y) (hsem : o.semAt F.round a.eval = execOp a.eval o) (hd : o.dst = none)
    (b : Nat) (hx : a.eval x = P0 b) (hy : a.eval y = v) (hb : Blk w b T [u]) (h : ∀ W, Blk W b T [v] → W = w.setCell ⟨b, 0, none⟩ v → wpListIn F n Try.prog ops Q rest a W) : wpListIn F n Try.prog ops Q (o :: rest) a w := by
  refine wpListIn_want (by simp [Region.wanted, hg]) (wpIn_skip (w' := w.setCell ⟨b, 0, none⟩ v) hF hsem ?_ ?_)
  · unfold execOp
    simp only [ho, hx, hy, Instr.storeAt, Instr.sureAddr, Sem.run_bind, Sem.run_pure, Result.andThen_ok, hst _ _ _ hb]
  · rw [hd]
    exact h _ (hb.one v) rfl
end
theorem keepsFrom_of_kept {B : Nat} {W W' : World} (h : Kept [] W W') : KeepsFrom B W W' := (KeepsOthers.of_grownBy (grown_of_kept h) (fun _ _ e => by cases e)).from B

end Go.Proofs.Ytcfoebpbbmnleaa
