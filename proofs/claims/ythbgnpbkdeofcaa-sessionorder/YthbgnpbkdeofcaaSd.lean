/-
  Laws for single operations; what a session's calls keep.
-/
import Derived.Test.YthbgnpbkdeofcaaSc
namespace Go.Proofs.Ythbgnpbkdeofcaa
set_option maxRecDepth 100000
open Go.RowKit

section
variable {o : Oper} {a : Act} {w : World} {K : Act → World → Prop} {Q : Exit → Act → World → Prop}
theorem o_nil (x : Operand) (ho : o.op = .nilCheck x) (b : Nat) (hx : a.eval x = P0 b) (h : K (a.put o.dst (P0 b)) w) : o.wp Try.prog a w K Q := by
  unfold Oper.wp execOp
  simp only [ho, hx]
  simp [go_sem]
  exact h
theorem o_fld68_0 (x : Operand) (ho : o.op = .fieldAddr 68 x 0) (b : Nat) (hx : a.eval x = P0 b) (h : K (a.put o.dst (.pointer (some ⟨b, 0, none⟩))) w) : o.wp Try.prog a w K Q := by
  unfold Oper.wp execOp
  simp only [ho, hx]
  simp [go_sem]
  exact h
theorem o_fld68_1 (x : Operand) (ho : o.op = .fieldAddr 68 x 1) (b : Nat) (hx : a.eval x = P0 b) (h : K (a.put o.dst (.pointer (some ⟨b, 7, none⟩))) w) : o.wp Try.prog a w K Q := by
  unfold Oper.wp execOp
  simp only [ho, hx]
  simp [go_sem]
  exact h
theorem o_fld66_0 (x : Operand) (ho : o.op = .fieldAddr 66 x 0) (b : Nat) (hx : a.eval x = P0 b) (h : K (a.put o.dst (.pointer (some ⟨b, 0, none⟩))) w) : o.wp Try.prog a w K Q := by
  unfold Oper.wp execOp
  simp only [ho, hx]
  simp [go_sem]
  exact h
theorem o_fld66_1 (x : Operand) (ho : o.op = .fieldAddr 66 x 1) (b : Nat) (hx : a.eval x = P0 b) (h : K (a.put o.dst (.pointer (some ⟨b, 1, none⟩))) w) : o.wp Try.prog a w K Q := by
  unfold Oper.wp execOp
  simp only [ho, hx]
  simp [go_sem]
  exact h
theorem o_fld66_2 (x : Operand) (ho : o.op = .fieldAddr 66 x 2) (b : Nat) (hx : a.eval x = P0 b) (h : K (a.put o.dst (.pointer (some ⟨b, 2, none⟩))) w) : o.wp Try.prog a w K Q := by
  unfold Oper.wp execOp
  simp only [ho, hx]
  simp [go_sem]
  exact h
theorem o_fld66_3 (x : Operand) (ho : o.op = .fieldAddr 66 x 3) (b : Nat) (hx : a.eval x = P0 b) (h : K (a.put o.dst (.pointer (some ⟨b, 3, none⟩))) w) : o.wp Try.prog a w K Q := by
  unfold Oper.wp execOp
  simp only [ho, hx]
  simp [go_sem]
  exact h
theorem o_fld66_4 (x : Operand) (ho : o.op = .fieldAddr 66 x 4) (b : Nat) (hx : a.eval x = P0 b) (h : K (a.put o.dst (.pointer (some ⟨b, 4, none⟩))) w) : o.wp Try.prog a w K Q := by
  unfold Oper.wp execOp
  simp only [ho, hx]
  simp [go_sem]
  exact h
theorem o_fld66_5 (x : Operand) (ho : o.op = .fieldAddr 66 x 5) (b : Nat) (hx : a.eval x = P0 b) (h : K (a.put o.dst (.pointer (some ⟨b, 5, none⟩))) w) : o.wp Try.prog a w K Q := by
  unfold Oper.wp execOp
  simp only [ho, hx]
  simp [go_sem]
  exact h
theorem o_fld66_6 (x : Operand) (ho : o.op = .fieldAddr 66 x 6) (b : Nat) (hx : a.eval x = P0 b) (h : K (a.put o.dst (.pointer (some ⟨b, 6, none⟩))) w) : o.wp Try.prog a w K Q := by
  unfold Oper.wp execOp
  simp only [ho, hx]
  simp [go_sem]
  exact h
theorem o_fld32_0 (x : Operand) (ho : o.op = .fieldAddr 32 x 0) (b : Nat) (hx : a.eval x = P0 b) (h : K (a.put o.dst (.pointer (some ⟨b, 0, none⟩))) w) : o.wp Try.prog a w K Q := by
  unfold Oper.wp execOp
  simp only [ho, hx]
  simp [go_sem]
  exact h
theorem o_fld32_1 (x : Operand) (ho : o.op = .fieldAddr 32 x 1) (b : Nat) (hx : a.eval x = P0 b) (h : K (a.put o.dst (.pointer (some ⟨b, 1, none⟩))) w) : o.wp Try.prog a w K Q := by
  unfold Oper.wp execOp
  simp only [ho, hx]
  simp [go_sem]
  exact h
theorem o_fld32_2 (x : Operand) (ho : o.op = .fieldAddr 32 x 2) (b : Nat) (hx : a.eval x = P0 b) (h : K (a.put o.dst (.pointer (some ⟨b, 2, none⟩))) w) : o.wp Try.prog a w K Q := by
  unfold Oper.wp execOp
  simp only [ho, hx]
  simp [go_sem]
  exact h
theorem o_fld32_3 (x : Operand) (ho : o.op = .fieldAddr 32 x 3) (b : Nat) (hx : a.eval x = P0 b) (h : K (a.put o.dst (.pointer (some ⟨b, 3, none⟩))) w) : o.wp Try.prog a w K Q := by
  unfold Oper.wp execOp
  simp only [ho, hx]
  simp [go_sem]
  exact h
theorem o_fld32_4 (x : Operand) (ho : o.op = .fieldAddr 32 x 4) (b : Nat) (hx : a.eval x = P0 b) (h : K (a.put o.dst (.pointer (some ⟨b, 4, none⟩))) w) : o.wp Try.prog a w K Q := by
  unfold Oper.wp execOp
  simp only [ho, hx]
  simp [go_sem]
  exact h
theorem o_fld32_5 (x : Operand) (ho : o.op = .fieldAddr 32 x 5) (b : Nat) (hx : a.eval x = P0 b) (h : K (a.put o.dst (.pointer (some ⟨b, 5, none⟩))) w) : o.wp Try.prog a w K Q := by
  unfold Oper.wp execOp
  simp only [ho, hx]
  simp [go_sem]
  exact h
theorem o_fld32_6 (x : Operand) (ho : o.op = .fieldAddr 32 x 6) (b : Nat) (hx : a.eval x = P0 b) (h : K (a.put o.dst (.pointer (some ⟨b, 6, none⟩))) w) : o.wp Try.prog a w K Q := by
  unfold Oper.wp execOp
  simp only [ho, hx]
  simp [go_sem]
  exact h
theorem o_fld32_7 (x : Operand) (ho : o.op = .fieldAddr 32 x 7) (b : Nat) (hx : a.eval x = P0 b) (h : K (a.put o.dst (.pointer (some ⟨b, 7, none⟩))) w) : o.wp Try.prog a w K Q := by
  unfold Oper.wp execOp
  simp only [ho, hx]
  simp [go_sem]
  exact h
theorem o_fld35_0 (x : Operand) (ho : o.op = .fieldAddr 35 x 0) (b : Nat) (hx : a.eval x = P0 b) (h : K (a.put o.dst (.pointer (some ⟨b, 0, none⟩))) w) : o.wp Try.prog a w K Q := by
  unfold Oper.wp execOp
  simp only [ho, hx]
  simp [go_sem]
  exact h
theorem o_fld35_1 (x : Operand) (ho : o.op = .fieldAddr 35 x 1) (b : Nat) (hx : a.eval x = P0 b) (h : K (a.put o.dst (.pointer (some ⟨b, 1, none⟩))) w) : o.wp Try.prog a w K Q := by
  unfold Oper.wp execOp
  simp only [ho, hx]
  simp [go_sem]
  exact h
theorem o_fld35_2 (x : Operand) (ho : o.op = .fieldAddr 35 x 2) (b : Nat) (hx : a.eval x = P0 b) (h : K (a.put o.dst (.pointer (some ⟨b, 2, none⟩))) w) : o.wp Try.prog a w K Q := by
  unfold Oper.wp execOp
  simp only [ho, hx]
  simp [go_sem]
  exact h
theorem o_fld35_3 (x : Operand) (ho : o.op = .fieldAddr 35 x 3) (b : Nat) (hx : a.eval x = P0 b) (h : K (a.put o.dst (.pointer (some ⟨b, 3, none⟩))) w) : o.wp Try.prog a w K Q := by
  unfold Oper.wp execOp
  simp only [ho, hx]
  simp [go_sem]
  exact h
theorem o_fld35_4 (x : Operand) (ho : o.op = .fieldAddr 35 x 4) (b : Nat) (hx : a.eval x = P0 b) (h : K (a.put o.dst (.pointer (some ⟨b, 4, none⟩))) w) : o.wp Try.prog a w K Q := by
  unfold Oper.wp execOp
  simp only [ho, hx]
  simp [go_sem]
  exact h
theorem o_fld35_5 (x : Operand) (ho : o.op = .fieldAddr 35 x 5) (b : Nat) (hx : a.eval x = P0 b) (h : K (a.put o.dst (.pointer (some ⟨b, 5, none⟩))) w) : o.wp Try.prog a w K Q := by
  unfold Oper.wp execOp
  simp only [ho, hx]
  simp [go_sem]
  exact h
theorem o_fld37_0 (x : Operand) (ho : o.op = .fieldAddr 37 x 0) (b : Nat) (hx : a.eval x = P0 b) (h : K (a.put o.dst (.pointer (some ⟨b, 0, none⟩))) w) : o.wp Try.prog a w K Q := by
  unfold Oper.wp execOp
  simp only [ho, hx]
  simp [go_sem]
  exact h
theorem o_fld37_1 (x : Operand) (ho : o.op = .fieldAddr 37 x 1) (b : Nat) (hx : a.eval x = P0 b) (h : K (a.put o.dst (.pointer (some ⟨b, 1, none⟩))) w) : o.wp Try.prog a w K Q := by
  unfold Oper.wp execOp
  simp only [ho, hx]
  simp [go_sem]
  exact h
theorem o_fld37_2 (x : Operand) (ho : o.op = .fieldAddr 37 x 2) (b : Nat) (hx : a.eval x = P0 b) (h : K (a.put o.dst (.pointer (some ⟨b, 2, none⟩))) w) : o.wp Try.prog a w K Q := by
  unfold Oper.wp execOp
  simp only [ho, hx]
  simp [go_sem]
  exact h
theorem o_load3 (x : Operand) (ho : o.op = .load 3 x) (p : Addr) (v : Value) (hx : a.eval x = .pointer (some p)) (hc : w.cell? p = some v) (h : K (a.put o.dst v) w) : o.wp Try.prog a w K Q := by
  unfold Oper.wp execOp
  simp only [ho, hx]
  simp [go_sem, hc]
  exact h
theorem o_load4 (x : Operand) (ho : o.op = .load 4 x) (p : Addr) (v : Value) (hx : a.eval x = .pointer (some p)) (hc : w.cell? p = some v) (h : K (a.put o.dst v) w) : o.wp Try.prog a w K Q := by
  unfold Oper.wp execOp
  simp only [ho, hx]
  simp [go_sem, hc]
  exact h
theorem o_load23 (x : Operand) (ho : o.op = .load 23 x) (p : Addr) (v : Value) (hx : a.eval x = .pointer (some p)) (hc : w.cell? p = some v) (h : K (a.put o.dst v) w) : o.wp Try.prog a w K Q := by
  unfold Oper.wp execOp
  simp only [ho, hx]
  simp [go_sem, hc]
  exact h
theorem o_load30 (x : Operand) (ho : o.op = .load 30 x) (p : Addr) (v : Value) (hx : a.eval x = .pointer (some p)) (hc : w.cell? p = some v) (h : K (a.put o.dst v) w) : o.wp Try.prog a w K Q := by
  unfold Oper.wp execOp
  simp only [ho, hx]
  simp [go_sem, hc]
  exact h
theorem o_load33 (x : Operand) (ho : o.op = .load 33 x) (p : Addr) (v : Value) (hx : a.eval x = .pointer (some p)) (hc : w.cell? p = some v) (h : K (a.put o.dst v) w) : o.wp Try.prog a w K Q := by
  unfold Oper.wp execOp
  simp only [ho, hx]
  simp [go_sem, hc]
  exact h
theorem o_len30 (x : Operand) (ho : o.op = .call { callee := .builtin .len, args := #[x], argTypes := #[30] }) (ao : Option Addr) (m c : Nat) (hx : a.eval x = .slice ao m c) (h : K (a.put o.dst (.int .i64 m)) w) : o.wp Try.prog a w K Q := by
  have hr : (Builtin.len_ #[30] o.type #[.slice ao m c]).run Try.prog w = .ok (.int .i64 m) w := by simp [Builtin.len_, go_sem]
  unfold Oper.wp execOp
  simp only [ho, resolve, invoke, builtin, Sem.run_bind, Sem.run_pure, Result.andThen_ok, List.map_toArray, List.map_cons, List.map_nil, hx, hr]
  exact h
theorem o_len33 (x : Operand) (ho : o.op = .call { callee := .builtin .len, args := #[x], argTypes := #[33] }) (ao : Option Addr) (m c : Nat) (hx : a.eval x = .slice ao m c) (h : K (a.put o.dst (.int .i64 m)) w) : o.wp Try.prog a w K Q := by
  have hr : (Builtin.len_ #[33] o.type #[.slice ao m c]).run Try.prog w = .ok (.int .i64 m) w := by simp [Builtin.len_, go_sem]
  unfold Oper.wp execOp
  simp only [ho, resolve, invoke, builtin, Sem.run_bind, Sem.run_pure, Result.andThen_ok, List.map_toArray, List.map_cons, List.map_nil, hx, hr]
  exact h
theorem o_len40 (x : Operand) (ho : o.op = .call { callee := .builtin .len, args := #[x], argTypes := #[40] }) (ao : Option Addr) (m c : Nat) (hx : a.eval x = .slice ao m c) (h : K (a.put o.dst (.int .i64 m)) w) : o.wp Try.prog a w K Q := by
  have hr : (Builtin.len_ #[40] o.type #[.slice ao m c]).run Try.prog w = .ok (.int .i64 m) w := by simp [Builtin.len_, go_sem]
  unfold Oper.wp execOp
  simp only [ho, resolve, invoke, builtin, Sem.run_bind, Sem.run_pure, Result.andThen_ok, List.map_toArray, List.map_cons, List.map_nil, hx, hr]
  exact h
theorem o_st30 (x y : Operand) (ho : o.op = .store 30 x y) (_ : o.dst = none) (b i TT : Nat) (us : List Value) (v : Value) (hx : a.eval x = .pointer (some ⟨b, i, none⟩)) (hy : a.eval y = v) (hv : ∃ ao m c, v = .slice ao m c) (hB : Blk w b TT us) (hi : i < us.length)
    (h : ∀ W, Blk W b TT (us.set i v) → Kept [b] w W → K (a.put o.dst undef) W) : o.wp Try.prog a w K Q := by
  obtain ⟨ao, m, c, rfl⟩ := hv
  have hst : (storeVar 30 ⟨b, i, none⟩ (.slice ao m c)).run Try.prog w = .ok () (w.setCell ⟨b, i, none⟩ (.slice ao m c)) := by
    have hc := hB.cell i
    rw [List.getElem?_eq_getElem hi] at hc
    have hf := hB.frozen i
    simp [storeVar, go_sem, hc, hf]
  have := h _ (hB.set (i := i) (.slice ao m c)) ((Kept.refl _ _).setCell (by simp) _)
  unfold Oper.wp execOp
  simp only [ho, hx, hy, Instr.storeAt, Instr.sureAddr, Sem.run_bind, Sem.run_pure, Result.andThen_ok, hst]
  exact this
theorem o_st33 (x y : Operand) (ho : o.op = .store 33 x y) (_ : o.dst = none) (b i TT : Nat) (us : List Value) (v : Value) (hx : a.eval x = .pointer (some ⟨b, i, none⟩)) (hy : a.eval y = v) (hv : ∃ ao m c, v = .slice ao m c) (hB : Blk w b TT us) (hi : i < us.length)
    (h : ∀ W, Blk W b TT (us.set i v) → Kept [b] w W → K (a.put o.dst undef) W) : o.wp Try.prog a w K Q := by
  obtain ⟨ao, m, c, rfl⟩ := hv
  have hst : (storeVar 33 ⟨b, i, none⟩ (.slice ao m c)).run Try.prog w = .ok () (w.setCell ⟨b, i, none⟩ (.slice ao m c)) := by
    have hc := hB.cell i
    rw [List.getElem?_eq_getElem hi] at hc
    have hf := hB.frozen i
    simp [storeVar, go_sem, hc, hf]
  have := h _ (hB.set (i := i) (.slice ao m c)) ((Kept.refl _ _).setCell (by simp) _)
  unfold Oper.wp execOp
  simp only [ho, hx, hy, Instr.storeAt, Instr.sureAddr, Sem.run_bind, Sem.run_pure, Result.andThen_ok, hst]
  exact this
theorem o_st2 (x y : Operand) (ho : o.op = .store 2 x y) (_ : o.dst = none) (b i TT : Nat) (us : List Value) (v : Value) (hx : a.eval x = .pointer (some ⟨b, i, none⟩)) (hy : a.eval y = v) (hv : ∃ n, v = .int .i64 n) (hB : Blk w b TT us) (hi : i < us.length)
    (h : ∀ W, Blk W b TT (us.set i v) → Kept [b] w W → K (a.put o.dst undef) W) : o.wp Try.prog a w K Q := by
  obtain ⟨n, rfl⟩ := hv
  have hst : (storeVar 2 ⟨b, i, none⟩ (.int .i64 n)).run Try.prog w = .ok () (w.setCell ⟨b, i, none⟩ (.int .i64 n)) := by
    have hc := hB.cell i
    rw [List.getElem?_eq_getElem hi] at hc
    have hf := hB.frozen i
    simp [storeVar, go_sem, hc, hf]
  have := h _ (hB.set (i := i) (.int .i64 n)) ((Kept.refl _ _).setCell (by simp) _)
  unfold Oper.wp execOp
  simp only [ho, hx, hy, Instr.storeAt, Instr.sureAddr, Sem.run_bind, Sem.run_pure, Result.andThen_ok, hst]
  exact this
theorem o_st3 (x y : Operand) (ho : o.op = .store 3 x y) (_ : o.dst = none) (b i TT : Nat) (us : List Value) (v : Value) (hx : a.eval x = .pointer (some ⟨b, i, none⟩)) (hy : a.eval y = v) (hv : ∃ n, v = .int .i64 n) (hB : Blk w b TT us) (hi : i < us.length)
    (h : ∀ W, Blk W b TT (us.set i v) → Kept [b] w W → K (a.put o.dst undef) W) : o.wp Try.prog a w K Q := by
  obtain ⟨n, rfl⟩ := hv
  have hst : (storeVar 3 ⟨b, i, none⟩ (.int .i64 n)).run Try.prog w = .ok () (w.setCell ⟨b, i, none⟩ (.int .i64 n)) := by
    have hc := hB.cell i
    rw [List.getElem?_eq_getElem hi] at hc
    have hf := hB.frozen i
    simp [storeVar, go_sem, hc, hf]
  have := h _ (hB.set (i := i) (.int .i64 n)) ((Kept.refl _ _).setCell (by simp) _)
  unfold Oper.wp execOp
  simp only [ho, hx, hy, Instr.storeAt, Instr.sureAddr, Sem.run_bind, Sem.run_pure, Result.andThen_ok, hst]
  exact this
theorem o_st4 (x y : Operand) (ho : o.op = .store 4 x y) (_ : o.dst = none) (b i TT : Nat) (us : List Value) (v : Value) (hx : a.eval x = .pointer (some ⟨b, i, none⟩)) (hy : a.eval y = v) (hv : ∃ n, v = .bool n) (hB : Blk w b TT us) (hi : i < us.length)
    (h : ∀ W, Blk W b TT (us.set i v) → Kept [b] w W → K (a.put o.dst undef) W) : o.wp Try.prog a w K Q := by
  obtain ⟨n, rfl⟩ := hv
  have hst : (storeVar 4 ⟨b, i, none⟩ (.bool n)).run Try.prog w = .ok () (w.setCell ⟨b, i, none⟩ (.bool n)) := by
    have hc := hB.cell i
    rw [List.getElem?_eq_getElem hi] at hc
    have hf := hB.frozen i
    simp [storeVar, go_sem, hc, hf]
  have := h _ (hB.set (i := i) (.bool n)) ((Kept.refl _ _).setCell (by simp) _)
  unfold Oper.wp execOp
  simp only [ho, hx, hy, Instr.storeAt, Instr.sureAddr, Sem.run_bind, Sem.run_pure, Result.andThen_ok, hst]
  exact this
theorem o_max2 (x y : Operand) (ho : o.op = .call { callee := .builtin .max, args := #[x, y], argTypes := #[2, 2] }) (m n : Int) (hx : a.eval x = .int .i64 m) (hy : a.eval y = .int .i64 n) (h : K (a.put o.dst (.int .i64 (max m n))) w) : o.wp Try.prog a w K Q := by
  unfold Oper.wp execOp
  simp only [ho, resolve, invoke, builtin, Sem.run_bind, Sem.run_pure, Result.andThen_ok, List.map_toArray, List.map_cons, List.map_nil, hx, hy]
  have hr : (Builtin.max2 (.int .i64 m) (.int .i64 n)).run Try.prog w = .ok (.int .i64 (max m n)) w := by
    by_cases hlt : m ≤ n
    · rw [show max m n = n by omega]
      simp [Builtin.max2, go_sem]
      omega
    · rw [show max m n = m by omega]
      simp [Builtin.max2, go_sem]
      omega
  simp [go_sem, Builtin.max_, hr]
  exact h
theorem o_max3 (x y : Operand) (ho : o.op = .call { callee := .builtin .max, args := #[x, y], argTypes := #[3, 3] }) (m n : Int) (hx : a.eval x = .int .i64 m) (hy : a.eval y = .int .i64 n) (h : K (a.put o.dst (.int .i64 (max m n))) w) : o.wp Try.prog a w K Q := by
  unfold Oper.wp execOp
  simp only [ho, resolve, invoke, builtin, Sem.run_bind, Sem.run_pure, Result.andThen_ok, List.map_toArray, List.map_cons, List.map_nil, hx, hy]
  have hr : (Builtin.max2 (.int .i64 m) (.int .i64 n)).run Try.prog w = .ok (.int .i64 (max m n)) w := by
    by_cases hlt : m ≤ n
    · rw [show max m n = n by omega]
      simp [Builtin.max2, go_sem]
      omega
    · rw [show max m n = m by omega]
      simp [Builtin.max2, go_sem]
      omega
  simp [go_sem, Builtin.max_, hr]
  exact h
theorem o_add2 (x y : Operand) (ho : o.op = .binOp .add 2 x y 2) (m n : Int) (hm : -9223372036854775808 ≤ m + n ∧ m + n ≤ 9223372036854775807) (hx : a.eval x = .int .i64 m) (hy : a.eval y = .int .i64 n) (h : K (a.put o.dst (.int .i64 (m + n))) w) : o.wp Try.prog a w K Q := by
  have hw : IntKind.i64.wrap (m + n) = m + n := by rw [IntKind.wrap_i64]; omega
  unfold Oper.wp execOp
  simp only [ho, hx, hy]
  simp [go_sem, hw]
  exact h
theorem o_sub2 (x y : Operand) (ho : o.op = .binOp .sub 2 x y 2) (m n : Int) (hm : -9223372036854775808 ≤ m - n ∧ m - n ≤ 9223372036854775807) (hx : a.eval x = .int .i64 m) (hy : a.eval y = .int .i64 n) (h : K (a.put o.dst (.int .i64 (m - n))) w) : o.wp Try.prog a w K Q := by
  have hw : IntKind.i64.wrap (m - n) = m - n := by rw [IntKind.wrap_i64]; omega
  unfold Oper.wp execOp
  simp only [ho, hx, hy]
  simp [go_sem, hw]
  exact h
end
/-- What a call that writes a session leaves. -/
structure SR (w : World) (b : Nat) (v : Value) (ws : List Value) (w' : World) (v' : Value) (ws' : List Value) (P' : Ps) : Prop where
  sx : Sx w' b v' ws' P'
  kept : Kept (b :: v.ownBlock.toList) w w'
  own : ∀ k, v'.ownBlock = some k → v.ownBlock = some k ∨ w.heap.size ≤ k
  bods : ∀ u ∈ ws', ∀ k, u.ownBlock = some k → (∃ u0 ∈ ws, u0.ownBlock = some k) ∨ w.heap.size ≤ k
theorem SR.same {w w' : World} {b : Nat} {v : Value} {ws : List Value} {P : Ps} (h : Sx w b v ws P) (hk : Kept [] w w') : SR w b v ws w' v ws P :=
  ⟨h.kept0 hk, hk.mono (by simp), fun _ e => .inl e, fun u hu _ e => .inl ⟨u, hu, e⟩⟩
theorem SR.after {w w1 w' : World} {b : Nat} {v v' : Value} {ws ws' : List Value} {P' : Ps} (hk : Kept [] w w1) (h : SR w1 b v ws w' v' ws' P') : SR w b v ws w' v' ws' P' :=
  ⟨h.sx, (hk.mono (by simp)).trans h.kept, fun k e => (h.own k e).imp id (fun x => by have := hk.size; omega), fun u hu k e => (h.bods u hu k e).imp id (fun x => by have := hk.size; omega)⟩
theorem SR.more {w w1 w' : World} {b : Nat} {v v' : Value} {ws ws' : List Value} {P' : Ps} (h : SR w b v ws w1 v' ws' P') (hk : Kept [] w1 w') : SR w b v ws w' v' ws' P' :=
  ⟨h.sx.kept0 hk, h.kept.trans (hk.mono (by simp)), h.own, h.bods⟩
theorem SR.trans {w w1 w' : World} {b : Nat} {v v1 v' : Value} {ws ws1 ws' : List Value} {P1 P' : Ps} (h : SR w b v ws w1 v1 ws1 P1) (g : SR w1 b v1 ws1 w' v' ws' P') : SR w b v ws w' v' ws' P' := by
  have hs := h.kept.size
  refine ⟨g.sx, ?_, fun k e => ?_, fun u hu k e => ?_⟩
  · refine h.kept.fresh g.kept (fun i hi hl => ?_)
    rcases List.mem_cons.1 hi with rfl | hi
    · simp
    · rcases h.own i (by simpa using hi) with e | e
      · simp [e]
      · omega
  · rcases g.own k e with e1 | e1
    · exact h.own k e1
    · exact .inr (by omega)
  · rcases g.bods u hu k e with ⟨u0, hu0, e0⟩ | e1
    · exact h.bods u0 hu0 k e0
    · exact .inr (by omega)
theorem Sx.sl {W : World} {b : Nat} {v : Value} {ws : List Value} {P : Ps} (h : Sx W b v ws P) : ∃ ao c, v = .slice ao ws.length c ∧ ws.length ≤ c ∧ (ao = none → c = 0) := h.row.sl
theorem cf9 (vs : Array Value) (w : World) : (callFunc 9 vs).run Try.prog w = .ok (.enter 9 vs) w := by kernel_rfl
theorem cf10 (vs : Array Value) (w : World) : (callFunc 10 vs).run Try.prog w = .ok (.enter 10 vs) w := by kernel_rfl
theorem cf11 (vs : Array Value) (w : World) : (callFunc 11 vs).run Try.prog w = .ok (.enter 11 vs) w := by kernel_rfl
theorem cf12 (vs : Array Value) (w : World) : (callFunc 12 vs).run Try.prog w = .ok (.enter 12 vs) w := by kernel_rfl
theorem cf13 (vs : Array Value) (w : World) : (callFunc 13 vs).run Try.prog w = .ok (.enter 13 vs) w := by kernel_rfl
theorem cf14 (vs : Array Value) (w : World) : (callFunc 14 vs).run Try.prog w = .ok (.enter 14 vs) w := by kernel_rfl
theorem cf15 (vs : Array Value) (w : World) : (callFunc 15 vs).run Try.prog w = .ok (.enter 15 vs) w := by kernel_rfl
theorem cf16 (vs : Array Value) (w : World) : (callFunc 16 vs).run Try.prog w = .ok (.enter 16 vs) w := by kernel_rfl
theorem cf17 (vs : Array Value) (w : World) : (callFunc 17 vs).run Try.prog w = .ok (.enter 17 vs) w := by kernel_rfl
theorem cf18 (vs : Array Value) (w : World) : (callFunc 18 vs).run Try.prog w = .ok (.enter 18 vs) w := by kernel_rfl
theorem cf19 (vs : Array Value) (w : World) : (callFunc 19 vs).run Try.prog w = .ok (.enter 19 vs) w := by kernel_rfl
theorem cf20 (vs : Array Value) (w : World) : (callFunc 20 vs).run Try.prog w = .ok (.enter 20 vs) w := by kernel_rfl
theorem cf21 (vs : Array Value) (w : World) : (callFunc 21 vs).run Try.prog w = .ok (.enter 21 vs) w := by kernel_rfl
theorem cf22 (vs : Array Value) (w : World) : (callFunc 22 vs).run Try.prog w = .ok (.enter 22 vs) w := by kernel_rfl
theorem cf23 (vs : Array Value) (w : World) : (callFunc 23 vs).run Try.prog w = .ok (.enter 23 vs) w := by kernel_rfl
theorem cf24 (vs : Array Value) (w : World) : (callFunc 24 vs).run Try.prog w = .ok (.enter 24 vs) w := by kernel_rfl
theorem cf25 (vs : Array Value) (w : World) : (callFunc 25 vs).run Try.prog w = .ok (.enter 25 vs) w := by kernel_rfl
theorem cf26 (vs : Array Value) (w : World) : (callFunc 26 vs).run Try.prog w = .ok (.enter 26 vs) w := by kernel_rfl
theorem cf27 (vs : Array Value) (w : World) : (callFunc 27 vs).run Try.prog w = .ok (.enter 27 vs) w := by kernel_rfl
theorem cf28 (vs : Array Value) (w : World) : (callFunc 28 vs).run Try.prog w = .ok (.enter 28 vs) w := by kernel_rfl
theorem cf29 (vs : Array Value) (w : World) : (callFunc 29 vs).run Try.prog w = .ok (.enter 29 vs) w := by kernel_rfl
theorem cf30 (vs : Array Value) (w : World) : (callFunc 30 vs).run Try.prog w = .ok (.enter 30 vs) w := by kernel_rfl
theorem cf31 (vs : Array Value) (w : World) : (callFunc 31 vs).run Try.prog w = .ok (.enter 31 vs) w := by kernel_rfl
theorem cf32 (vs : Array Value) (w : World) : (callFunc 32 vs).run Try.prog w = .ok (.enter 32 vs) w := by kernel_rfl
theorem cf33 (vs : Array Value) (w : World) : (callFunc 33 vs).run Try.prog w = .ok (.enter 33 vs) w := by kernel_rfl
theorem cf34 (vs : Array Value) (w : World) : (callFunc 34 vs).run Try.prog w = .ok (.enter 34 vs) w := by kernel_rfl
theorem cf35 (vs : Array Value) (w : World) : (callFunc 35 vs).run Try.prog w = .ok (.enter 35 vs) w := by kernel_rfl
theorem cf36 (vs : Array Value) (w : World) : (callFunc 36 vs).run Try.prog w = .ok (.enter 36 vs) w := by kernel_rfl
theorem cf37 (vs : Array Value) (w : World) : (callFunc 37 vs).run Try.prog w = .ok (.enter 37 vs) w := by kernel_rfl
theorem cf38 (vs : Array Value) (w : World) : (callFunc 38 vs).run Try.prog w = .ok (.enter 38 vs) w := by kernel_rfl
theorem cf39 (vs : Array Value) (w : World) : (callFunc 39 vs).run Try.prog w = .ok (.enter 39 vs) w := by kernel_rfl
theorem cf40 (vs : Array Value) (w : World) : (callFunc 40 vs).run Try.prog w = .ok (.enter 40 vs) w := by kernel_rfl
theorem cf41 (vs : Array Value) (w : World) : (callFunc 41 vs).run Try.prog w = .ok (.enter 41 vs) w := by kernel_rfl
theorem cf42 (vs : Array Value) (w : World) : (callFunc 42 vs).run Try.prog w = .ok (.enter 42 vs) w := by kernel_rfl
theorem cf44 (vs : Array Value) (w : World) : (callFunc 44 vs).run Try.prog w = .ok (.enter 44 vs) w := by kernel_rfl

end Go.Proofs.Ythbgnpbkdeofcaa
