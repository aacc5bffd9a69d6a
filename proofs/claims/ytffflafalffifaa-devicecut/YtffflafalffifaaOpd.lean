/-
  Laws of single operations.
-/
import Derived.Test.YtffflafalffifaaKit
namespace Go.Proofs.Ytffflafalffifaa.K
open Go.RowKit

theorem row38 : Row 38 64 := ⟨_, Try.underlying38, rfl, by kernel_rfl⟩
theorem row63 : Row 63 8 := ⟨_, Try.underlying63, rfl, by kernel_rfl⟩
def i64s (l : List Int) : List Value := l.map (Value.int .i64)
theorem i64s_len (l : List Int) : (i64s l).length = l.length := by simp [i64s]
theorem guard63 : Try.prog.eqGuardType Try.prog.depth 63 = false := by kernel_rfl
theorem items_step (W : World) (d T n i o : Nat) (xs ys : Array Value) (is : List Nat) (a b : Value) (c e : Bool) (ho : i * n = o) (pa : (part T xs o).run Try.prog W = .ok a W) (pb : (part T ys o).run Try.prog W = .ok b W) (he : (Op.equalIn d T a b).run Try.prog W = .ok c W) (hf : (Op.eqItems d T n xs ys is).run Try.prog W = .ok e W) :
    (Op.eqItems d T n xs ys (i :: is)).run Try.prog W = .ok (c && e) W := by
  subst ho
  simp only [Op.eqItems, Sem.run_bind, pa, pb, he, Result.andThen_ok]
  cases c <;> simp [hf]
theorem equal63 (W : World) (E F : List Int) (hE : E.length = 8) (hF : F.length = 8) : (Op.equal 63 (aggV (i64s E)) (aggV (i64s F))).run Try.prog W = .ok (decide (E = F)) W := by
  obtain ⟨e0, e1, e2, e3, e4, e5, e6, e7, rfl⟩ := e_split hE
  obtain ⟨f0, f1, f2, f3, f4, f5, f6, f7, rfl⟩ := e_split hF
  have hi : ∃ i, Try.prog.info? 2 = some i ∧ i.size = 1 := by
    cases hq : Try.prog.info? 2 with
    | none => have := Try.one2; simp [hq] at this
    | some i => exact ⟨i, rfl, by have := Try.one2; simpa [hq] using this⟩
  obtain ⟨i, hi, hs⟩ := hi
  have h := run_equalIn_array (P := Try.prog) W 9999 (i64s [e0, e1, e2, e3, e4, e5, e6, e7]).toArray (i64s [f0, f1, f2, f3, f4, f5, f6, f7]).toArray Try.underlying63 hi
  rw [show Try.prog.cellsOf 2 = 1 by kernel_rfl] at h
  have st := fun k x y is e (hx : (i64s [e0, e1, e2, e3, e4, e5, e6, e7]).toArray[k]? = some (Value.int .i64 x)) (hy : (i64s [f0, f1, f2, f3, f4, f5, f6, f7]).toArray[k]? = some (Value.int .i64 y)) hf => items_step W 9999 2 1 k k (i64s [e0, e1, e2, e3, e4, e5, e6, e7]).toArray (i64s [f0, f1, f2, f3, f4, f5, f6, f7]).toArray is _ _ _ e (by omega) (part2 W _ _ _ hx) (part2 W _ _ _ hy) (eq2 W 9998 x y) hf
  have hh := st 0 e0 f0 [1, 2, 3, 4, 5, 6, 7] _ rfl rfl (st 1 e1 f1 [2, 3, 4, 5, 6, 7] _ rfl rfl (st 2 e2 f2 [3, 4, 5, 6, 7] _ rfl rfl (st 3 e3 f3 [4, 5, 6, 7] _ rfl rfl (st 4 e4 f4 [5, 6, 7] _ rfl rfl (st 5 e5 f5 [6, 7] _ rfl rfl (st 6 e6 f6 [7] _ rfl rfl (st 7 e7 f7 [] _ rfl rfl (items_nil ..))))))))
  refine Eq.trans (h.trans hh) ?_
  congr 1
  simp only [Bool.and_true, List.cons.injEq, and_true]
  rw [Bool.eq_iff_iff]
  simp [Bool.and_eq_true]
section
variable {o : Oper} {a : Act} {w : World} {K : Act → World → Prop} {Q : Exit → Act → World → Prop}
theorem o_nil (x : Operand) (ho : o.op = .nilCheck x) (p : Addr) (hx : a.eval x = .pointer (some p)) (h : K (a.put o.dst (.pointer (some p))) w) : o.wp Try.prog a w K Q := by
  unfold Oper.wp execOp
  simp only [ho, hx]
  simp [go_sem]
  exact h
theorem o_fld67_0 (x : Operand) (ho : o.op = .fieldAddr 67 x 0) (b : Nat) (hx : a.eval x = P0 b) (h : K (a.put o.dst (.pointer (some ⟨b, 0, none⟩))) w) : o.wp Try.prog a w K Q := by
  unfold Oper.wp execOp
  simp only [ho, hx]
  simp [go_sem]
  exact h
theorem o_fld67_1 (x : Operand) (ho : o.op = .fieldAddr 67 x 1) (b : Nat) (hx : a.eval x = P0 b) (h : K (a.put o.dst (.pointer (some ⟨b, 1, none⟩))) w) : o.wp Try.prog a w K Q := by
  unfold Oper.wp execOp
  simp only [ho, hx]
  simp [go_sem]
  exact h
theorem o_fld67_2 (x : Operand) (ho : o.op = .fieldAddr 67 x 2) (b : Nat) (hx : a.eval x = P0 b) (h : K (a.put o.dst (.pointer (some ⟨b, 2, none⟩))) w) : o.wp Try.prog a w K Q := by
  unfold Oper.wp execOp
  simp only [ho, hx]
  simp [go_sem]
  exact h
theorem o_fld67_3 (x : Operand) (ho : o.op = .fieldAddr 67 x 3) (b : Nat) (hx : a.eval x = P0 b) (h : K (a.put o.dst (.pointer (some ⟨b, 10, none⟩))) w) : o.wp Try.prog a w K Q := by
  unfold Oper.wp execOp
  simp only [ho, hx]
  simp [go_sem]
  exact h
theorem o_fld67_4 (x : Operand) (ho : o.op = .fieldAddr 67 x 4) (b : Nat) (hx : a.eval x = P0 b) (h : K (a.put o.dst (.pointer (some ⟨b, 11, none⟩))) w) : o.wp Try.prog a w K Q := by
  unfold Oper.wp execOp
  simp only [ho, hx]
  simp [go_sem]
  exact h
theorem o_fld51_0 (x : Operand) (ho : o.op = .fieldAddr 51 x 0) (b : Nat) (hx : a.eval x = P0 b) (h : K (a.put o.dst (.pointer (some ⟨b, 0, none⟩))) w) : o.wp Try.prog a w K Q := by
  unfold Oper.wp execOp
  simp only [ho, hx]
  simp [go_sem]
  exact h
theorem o_fld51_1 (x : Operand) (ho : o.op = .fieldAddr 51 x 1) (b : Nat) (hx : a.eval x = P0 b) (h : K (a.put o.dst (.pointer (some ⟨b, 1, none⟩))) w) : o.wp Try.prog a w K Q := by
  unfold Oper.wp execOp
  simp only [ho, hx]
  simp [go_sem]
  exact h
theorem o_fld51_2 (x : Operand) (ho : o.op = .fieldAddr 51 x 2) (b : Nat) (hx : a.eval x = P0 b) (h : K (a.put o.dst (.pointer (some ⟨b, 2, none⟩))) w) : o.wp Try.prog a w K Q := by
  unfold Oper.wp execOp
  simp only [ho, hx]
  simp [go_sem]
  exact h
theorem o_fld51_3 (x : Operand) (ho : o.op = .fieldAddr 51 x 3) (b : Nat) (hx : a.eval x = P0 b) (h : K (a.put o.dst (.pointer (some ⟨b, 3, none⟩))) w) : o.wp Try.prog a w K Q := by
  unfold Oper.wp execOp
  simp only [ho, hx]
  simp [go_sem]
  exact h
theorem o_fld51_4 (x : Operand) (ho : o.op = .fieldAddr 51 x 4) (b : Nat) (hx : a.eval x = P0 b) (h : K (a.put o.dst (.pointer (some ⟨b, 4, none⟩))) w) : o.wp Try.prog a w K Q := by
  unfold Oper.wp execOp
  simp only [ho, hx]
  simp [go_sem]
  exact h
theorem o_load3 (x : Operand) (ho : o.op = .load 3 x) (p : Addr) (v : Value) (hx : a.eval x = .pointer (some p)) (hc : w.cell? p = some v) (h : K (a.put o.dst (v)) w) : o.wp Try.prog a w K Q := by
  unfold Oper.wp execOp
  simp only [ho, hx]
  simp [go_sem, hc]
  exact h
theorem o_load36 (x : Operand) (ho : o.op = .load 36 x) (p : Addr) (v : Value) (hx : a.eval x = .pointer (some p)) (hc : w.cell? p = some v) (h : K (a.put o.dst (v)) w) : o.wp Try.prog a w K Q := by
  unfold Oper.wp execOp
  simp only [ho, hx]
  simp [go_sem, hc]
  exact h
theorem o_load43 (x : Operand) (ho : o.op = .load 43 x) (p : Addr) (v : Value) (hx : a.eval x = .pointer (some p)) (hc : w.cell? p = some v) (h : K (a.put o.dst (v)) w) : o.wp Try.prog a w K Q := by
  unfold Oper.wp execOp
  simp only [ho, hx]
  simp [go_sem, hc]
  exact h
theorem o_load28 (x : Operand) (ho : o.op = .load 28 x) (p : Addr) (v : Value) (hx : a.eval x = .pointer (some p)) (hc : w.cell? p = some v) (h : K (a.put o.dst (v)) w) : o.wp Try.prog a w K Q := by
  unfold Oper.wp execOp
  simp only [ho, hx]
  simp [go_sem, hc]
  exact h
theorem o_load24 (x : Operand) (ho : o.op = .load 24 x) (p : Addr) (v : Value) (hx : a.eval x = .pointer (some p)) (hc : w.cell? p = some v) (h : K (a.put o.dst (v)) w) : o.wp Try.prog a w K Q := by
  unfold Oper.wp execOp
  simp only [ho, hx]
  simp [go_sem, hc]
  exact h
theorem o_load4 (x : Operand) (ho : o.op = .load 4 x) (p : Addr) (v : Value) (hx : a.eval x = .pointer (some p)) (hc : w.cell? p = some v) (h : K (a.put o.dst (v)) w) : o.wp Try.prog a w K Q := by
  unfold Oper.wp execOp
  simp only [ho, hx]
  simp [go_sem, hc]
  exact h
theorem o_load42 (x : Operand) (ho : o.op = .load 42 x) (p : Addr) (v : Value) (hx : a.eval x = .pointer (some p)) (hc : w.cell? p = some v) (h : K (a.put o.dst (v)) w) : o.wp Try.prog a w K Q := by
  unfold Oper.wp execOp
  simp only [ho, hx]
  simp [go_sem, hc]
  exact h
theorem o_len36 (t : Nat) (ho : o.op = .call { callee := .builtin .len, args := #[.tmp t], argTypes := #[36] }) (ao : Option Addr) (m c : Nat) (hx : a.eval (.tmp t) = .slice ao m c) (h : K (a.put o.dst (.int .i64 m)) w) : o.wp Try.prog a w K Q := by
  have hr : (Builtin.len_ #[36] o.type #[.slice ao m c]).run Try.prog w = .ok (.int .i64 m) w := by simp [Builtin.len_, go_sem]
  have hx' : a.tmps[t]?.getD undef = .slice ao m c := by simpa [Act.eval] using hx
  unfold Oper.wp execOp
  simp only [ho]
  simp [resolve, invoke, builtin, go_sem, hx', hr]
  exact h
theorem o_len43 (t : Nat) (ho : o.op = .call { callee := .builtin .len, args := #[.tmp t], argTypes := #[43] }) (ao : Option Addr) (m c : Nat) (hx : a.eval (.tmp t) = .slice ao m c) (h : K (a.put o.dst (.int .i64 m)) w) : o.wp Try.prog a w K Q := by
  have hr : (Builtin.len_ #[43] o.type #[.slice ao m c]).run Try.prog w = .ok (.int .i64 m) w := by simp [Builtin.len_, go_sem]
  have hx' : a.tmps[t]?.getD undef = .slice ao m c := by simpa [Act.eval] using hx
  unfold Oper.wp execOp
  simp only [ho]
  simp [resolve, invoke, builtin, go_sem, hx', hr]
  exact h
theorem o_eql3v (x y : Operand) (ho : o.op = .binOp .eql 3 x y 3) (m n : Int) (r : Bool) (hr : decide (m = n) = r) (hx : a.eval x = .int .i64 m) (hy : a.eval y = .int .i64 n) (h : K (a.put o.dst (.bool r)) w) : o.wp Try.prog a w K Q := by
  subst hr
  unfold Oper.wp execOp
  simp only [ho, hx, hy]
  simp [go_sem]
  exact h
theorem o_leq3v (x y : Operand) (ho : o.op = .binOp .leq 3 x y 3) (m n : Int) (r : Bool) (hr : decide (m ≤ n) = r) (hx : a.eval x = .int .i64 m) (hy : a.eval y = .int .i64 n) (h : K (a.put o.dst (.bool r)) w) : o.wp Try.prog a w K Q := by
  subst hr
  unfold Oper.wp execOp
  simp only [ho, hx, hy]
  simp [go_sem]
  exact h
theorem o_leq2v (x y : Operand) (ho : o.op = .binOp .leq 2 x y 2) (m n : Int) (r : Bool) (hr : decide (m ≤ n) = r) (hx : a.eval x = .int .i64 m) (hy : a.eval y = .int .i64 n) (h : K (a.put o.dst (.bool r)) w) : o.wp Try.prog a w K Q := by
  subst hr
  unfold Oper.wp execOp
  simp only [ho, hx, hy]
  simp [go_sem]
  exact h
theorem o_geq3v (x y : Operand) (ho : o.op = .binOp .geq 3 x y 3) (m n : Int) (r : Bool) (hr : decide (n ≤ m) = r) (hx : a.eval x = .int .i64 m) (hy : a.eval y = .int .i64 n) (h : K (a.put o.dst (.bool r)) w) : o.wp Try.prog a w K Q := by
  subst hr
  unfold Oper.wp execOp
  simp only [ho, hx, hy]
  simp [go_sem]
  exact h
theorem o_lss3v (x y : Operand) (ho : o.op = .binOp .lss 3 x y 3) (m n : Int) (r : Bool) (hr : decide (m < n) = r) (hx : a.eval x = .int .i64 m) (hy : a.eval y = .int .i64 n) (h : K (a.put o.dst (.bool r)) w) : o.wp Try.prog a w K Q := by
  subst hr
  unfold Oper.wp execOp
  simp only [ho, hx, hy]
  simp [go_sem]
  exact h
theorem o_eql2v (x y : Operand) (ho : o.op = .binOp .eql 2 x y 2) (m n : Int) (r : Bool) (hr : decide (m = n) = r) (hx : a.eval x = .int .i64 m) (hy : a.eval y = .int .i64 n) (h : K (a.put o.dst (.bool r)) w) : o.wp Try.prog a w K Q := by
  subst hr
  unfold Oper.wp execOp
  simp only [ho, hx, hy]
  simp [go_sem]
  exact h
theorem o_geq2v (x y : Operand) (ho : o.op = .binOp .geq 2 x y 2) (m n : Int) (r : Bool) (hr : decide (n ≤ m) = r) (hx : a.eval x = .int .i64 m) (hy : a.eval y = .int .i64 n) (h : K (a.put o.dst (.bool r)) w) : o.wp Try.prog a w K Q := by
  subst hr
  unfold Oper.wp execOp
  simp only [ho, hx, hy]
  simp [go_sem]
  exact h
theorem o_neq3v (x y : Operand) (ho : o.op = .binOp .neq 3 x y 3) (m n : Int) (r : Bool) (hr : decide (m = n) = r) (hx : a.eval x = .int .i64 m) (hy : a.eval y = .int .i64 n) (h : K (a.put o.dst (.bool (!r))) w) : o.wp Try.prog a w K Q := by
  subst hr
  unfold Oper.wp execOp
  simp only [ho, hx, hy]
  simp [go_sem]
  exact h
theorem o_neq2v (x y : Operand) (ho : o.op = .binOp .neq 2 x y 2) (m n : Int) (r : Bool) (hr : decide (m = n) = r) (hx : a.eval x = .int .i64 m) (hy : a.eval y = .int .i64 n) (h : K (a.put o.dst (.bool (!r))) w) : o.wp Try.prog a w K Q := by
  subst hr
  unfold Oper.wp execOp
  simp only [ho, hx, hy]
  simp [go_sem]
  exact h
theorem o_neq4v (x y : Operand) (ho : o.op = .binOp .neq 4 x y 4) (m n r : Bool) (hr : (m == n) = r) (hx : a.eval x = .bool m) (hy : a.eval y = .bool n) (h : K (a.put o.dst (.bool (!r))) w) : o.wp Try.prog a w K Q := by
  subst hr
  unfold Oper.wp execOp
  simp only [ho, hx, hy]
  cases m <;> cases n <;> (simp [go_sem]; exact h)
theorem o_eqlA (T r : Nat) (hG : Try.prog.eqGuardType Try.prog.depth T = false) (x y : Operand) (ho : o.op = .binOp .eql T x y r) (vs us : List Value) (hx : a.eval x = aggV vs) (hy : a.eval y = aggV us) (c : Bool)
    (he : (Op.equal T (aggV vs) (aggV us)).run Try.prog w = .ok c w) (h : K (a.put o.dst (.bool c)) w) : o.wp Try.prog a w K Q := by
  unfold Oper.wp execOp
  simp only [aggV] at he hx hy
  have hg : (eqGuard .eql T x y (.agg vs.toArray) (.agg us.toArray)).run Try.prog w = .ok () w := by simp [eqGuard, Sem.run_bind, hG]
  have hb : (binOp BinOp.eql T (.agg vs.toArray) (.agg us.toArray)).run Try.prog w = .ok (.bool c) w := by simp only [binOp, Sem.run_bind, he, Result.andThen_ok, Sem.run_pure]
  simp only [ho, hx, hy, Sem.run_bind, hg, hb, Result.andThen_ok]
  exact h
theorem o_neqS (x y : Operand) (ho : o.op = .binOp .neq 38 x y 38) (s t : List Int) (hs : Sec s) (ht : Sec t) (r : Bool) (hr : decide (s = t) = r) (hx : a.eval x = secV s) (hy : a.eval y = secV t) (h : K (a.put o.dst (.bool (!r))) w) : o.wp Try.prog a w K Q := by
  unfold Oper.wp execOp
  simp only [ho, hx, hy, Sem.run_bind, guard_secs, neq_secs w s t hs ht, Result.andThen_ok, hr]
  exact h
end
theorem cg10 (vs : Array Value) (w : World) : (callFunc 10 vs).run Try.prog w = .ok (.enter 10 vs) w := by kernel_rfl
theorem cg13 (vs : Array Value) (w : World) : (callFunc 13 vs).run Try.prog w = .ok (.enter 13 vs) w := by kernel_rfl
theorem cg14 (vs : Array Value) (w : World) : (callFunc 14 vs).run Try.prog w = .ok (.enter 14 vs) w := by kernel_rfl
theorem cg17 (vs : Array Value) (w : World) : (callFunc 17 vs).run Try.prog w = .ok (.enter 17 vs) w := by kernel_rfl
theorem cg18 (vs : Array Value) (w : World) : (callFunc 18 vs).run Try.prog w = .ok (.enter 18 vs) w := by kernel_rfl
theorem cg19 (vs : Array Value) (w : World) : (callFunc 19 vs).run Try.prog w = .ok (.enter 19 vs) w := by kernel_rfl
theorem cg20 (vs : Array Value) (w : World) : (callFunc 20 vs).run Try.prog w = .ok (.enter 20 vs) w := by kernel_rfl
theorem cg21 (vs : Array Value) (w : World) : (callFunc 21 vs).run Try.prog w = .ok (.enter 21 vs) w := by kernel_rfl
theorem cg22 (vs : Array Value) (w : World) : (callFunc 22 vs).run Try.prog w = .ok (.enter 22 vs) w := by kernel_rfl
theorem cg26 (vs : Array Value) (w : World) : (callFunc 26 vs).run Try.prog w = .ok (.enter 26 vs) w := by kernel_rfl
theorem cg31 (vs : Array Value) (w : World) : (callFunc 31 vs).run Try.prog w = .ok (.enter 31 vs) w := by kernel_rfl
theorem cg32 (vs : Array Value) (w : World) : (callFunc 32 vs).run Try.prog w = .ok (.enter 32 vs) w := by kernel_rfl
theorem cg33 (vs : Array Value) (w : World) : (callFunc 33 vs).run Try.prog w = .ok (.enter 33 vs) w := by kernel_rfl
theorem cg34 (vs : Array Value) (w : World) : (callFunc 34 vs).run Try.prog w = .ok (.enter 34 vs) w := by kernel_rfl
theorem cg35 (vs : Array Value) (w : World) : (callFunc 35 vs).run Try.prog w = .ok (.enter 35 vs) w := by kernel_rfl
theorem cg36 (vs : Array Value) (w : World) : (callFunc 36 vs).run Try.prog w = .ok (.enter 36 vs) w := by kernel_rfl
theorem cg37 (vs : Array Value) (w : World) : (callFunc 37 vs).run Try.prog w = .ok (.enter 37 vs) w := by kernel_rfl
theorem cg38 (vs : Array Value) (w : World) : (callFunc 38 vs).run Try.prog w = .ok (.enter 38 vs) w := by kernel_rfl
theorem cg39 (vs : Array Value) (w : World) : (callFunc 39 vs).run Try.prog w = .ok (.enter 39 vs) w := by kernel_rfl
theorem cg40 (vs : Array Value) (w : World) : (callFunc 40 vs).run Try.prog w = .ok (.enter 40 vs) w := by kernel_rfl
theorem cg49 (vs : Array Value) (w : World) : (callFunc 49 vs).run Try.prog w = .ok (.enter 49 vs) w := by kernel_rfl
theorem cg48 (vs : Array Value) (w : World) : (callFunc 48 vs).run Try.prog w = .ok (.enter 48 vs) w := by kernel_rfl

end Go.Proofs.Ytffflafalffifaa.K
