/-
  Laws for single operations, for regions that draw their order.
-/
import Derived.Test.YtkpkiibahfdomaaDoorPut
import Derived.Test.YtkpkiibahfdomaaDoorPrefg
namespace Go.Proofs.YtkpkiibahfdomaaDoor
open Go.RowKit

/-- The guards of a region are what the table says. -/
def guardsOK (ops : Array Oper) (fs : List Fact) : Bool := ops.all (fun o => match o.guard with
  | none => true
  | some (i, b) => match fs[i]? with
    | some (.is (.bool c)) => c == b
    | _ => false)
theorem guards_spec {ops : Array Oper} {fs : List Fact} (h : guardsOK ops fs = true) : ∀ (j : Nat) (o : Oper) (i : Nat) (b : Bool), ops[j]? = some o → o.guard = some (i, b) → ∀ v w, tab fs i v w → v = .bool b := by
  intro j o i b ho hg v w hf
  have := (Array.all_eq_true_iff_forall_mem.1 h) o (Array.mem_of_getElem? ho)
  simp only [hg] at this
  unfold tab at hf
  cases hfi : fs[i]? with
  | none => rw [hfi] at this; simp at this
  | some f =>
    rw [hfi] at this hf
    cases f with
    | new T vs B => simp at this
    | is u =>
      cases u <;> first | (simp at this; done) | (have := (beq_iff_eq.1 this); subst this; exact hf)

section
variable {o : Oper} {a : Act} {w : World} {K : Act → World → Prop} {Q : Exit → Act → World → Prop}
theorem o_add3 (x y : Operand) (ho : o.op = .binOp .add 3 x y 3) (m n : Int) (hm : -1000000 ≤ m + n ∧ m + n ≤ 1000000) (hx : a.eval x = .int .i64 m) (hy : a.eval y = .int .i64 n) (h : K (a.put o.dst (.int .i64 (m + n))) w) : o.wp Tryd.prog a w K Q := by
  have hw : IntKind.i64.wrap (m + n) = m + n := by rw [IntKind.wrap_i64]; omega
  unfold Oper.wp execOp
  simp only [ho, hx, hy]
  simp [go_sem, hw]
  exact h
theorem o_eql3 (x : Operand) (c : Int) (ho : o.op = .binOp .eql 3 x (.const (.int .i64 c)) 3) (m : Int) (r : Bool) (hr : decide (m = c) = r) (hx : a.eval x = .int .i64 m) (h : K (a.put o.dst (.bool r)) w) : o.wp Tryd.prog a w K Q := by
  have hb : (m == c) = r := by rw [← hr]; rfl
  unfold Oper.wp execOp
  simp only [ho, hx]
  simp [go_sem, hb]
  exact h
theorem o_eql5 (x : Operand) (c : Int) (ho : o.op = .binOp .eql 5 x (.const (.int .u8 c)) 5) (m : Int) (r : Bool) (hr : decide (m = c) = r) (hx : a.eval x = .int .u8 m) (h : K (a.put o.dst (.bool r)) w) : o.wp Tryd.prog a w K Q := by
  have hb : (m == c) = r := by rw [← hr]; rfl
  unfold Oper.wp execOp
  simp only [ho, hx]
  simp [go_sem, hb]
  exact h
theorem o_pick (c x : Operand) (ho : o.op = .pick c x (.const (.bool false))) (r : Bool) (hc : a.eval c = .bool true) (hx : a.eval x = .bool r) (h : K (a.put o.dst (.bool r)) w) : o.wp Tryd.prog a w K Q := by
  unfold Oper.wp execOp
  simp only [ho, hc, hx]
  simp [go_sem]
  exact h
theorem o_not (x : Operand) (ho : o.op = .unOp .not 4 x) (r : Bool) (hx : a.eval x = .bool r) (h : K (a.put o.dst (.bool (!r))) w) : o.wp Tryd.prog a w K Q := by
  unfold Oper.wp execOp
  simp only [ho, hx]
  simp [go_sem]
  exact h
theorem o_idx30 (x : Operand) (k : Nat) (hk : k < 2) (ho : o.op = .indexAddr 30 x (.const (.int .i64 k))) (b : Nat) (hx : a.eval x = P0 b) (h : K (a.put o.dst (.pointer (some ⟨b, 64 * k, none⟩))) w) : o.wp Tryd.prog a w K Q := by
  unfold Oper.wp execOp
  simp only [ho, hx]
  rcases (show k = 0 ∨ k = 1 by omega) with rfl | rfl
  · exact h
  · exact h
theorem o_idx29 (x : Operand) (k : Nat) (hk : k < 64) (ho : o.op = .indexAddr 29 x (.const (.int .i64 k))) (b off : Nat) (hx : a.eval x = .pointer (some ⟨b, off, none⟩)) (h : K (a.put o.dst (.pointer (some ⟨b, off + k, none⟩))) w) : o.wp Tryd.prog a w K Q := by
  have h1 : ((k : Int) < 64) := by omega
  unfold Oper.wp execOp
  simp only [ho, hx]
  simp [go_sem, h1]
  exact h
theorem o_idx23 (x : Operand) (k : Nat) (hk : k < 96) (ho : o.op = .indexAddr 23 x (.const (.int .i64 k))) (b off : Nat) (hx : a.eval x = .pointer (some ⟨b, off, none⟩)) (h : K (a.put o.dst (.pointer (some ⟨b, off + k, none⟩))) w) : o.wp Tryd.prog a w K Q := by
  have h1 : ((k : Int) < 96) := by omega
  unfold Oper.wp execOp
  simp only [ho, hx]
  simp [go_sem, h1]
  exact h
theorem o_load5 (x : Operand) (ho : o.op = .load 5 x) (p : Addr) (v : Value) (hx : a.eval x = .pointer (some p)) (hc : w.cell? p = some v) (h : K (a.put o.dst v) w) : o.wp Tryd.prog a w K Q := by
  unfold Oper.wp execOp
  simp only [ho, hx]
  simp [go_sem, hc]
  exact h
theorem o_load2 (x : Operand) (ho : o.op = .load 2 x) (p : Addr) (v : Value) (hx : a.eval x = .pointer (some p)) (hc : w.cell? p = some v) (h : K (a.put o.dst v) w) : o.wp Tryd.prog a w K Q := by
  unfold Oper.wp execOp
  simp only [ho, hx]
  simp [go_sem, hc]
  exact h
theorem o_build {T : Nat} (vs : List Value) (hr : ∀ w : World, (Instr.build T #[]).run Tryd.prog w = .ok (aggV vs) w) (ho : o.op = .build T #[]) (h : K (a.put o.dst (aggV vs)) w) : o.wp Tryd.prog a w K Q := by
  unfold Oper.wp execOp
  simp only [ho, Array.map_empty, Sem.run_bind, hr, Result.andThen_ok]
  exact h
theorem o_eqlA (T r : Nat) (hG : Tryd.prog.eqGuardType Tryd.prog.depth T = false) (x y : Operand) (ho : o.op = .binOp .eql T x y r) (vs us : List Value) (hx : a.eval x = aggV vs) (hy : a.eval y = aggV us) (c : Bool)
    (he : (Op.equal T (aggV vs) (aggV us)).run Tryd.prog w = .ok c w) (h : K (a.put o.dst (.bool c)) w) : o.wp Tryd.prog a w K Q := by
  unfold Oper.wp execOp
  simp only [aggV] at he hx hy
  have hg : (eqGuard .eql T x y (.agg vs.toArray) (.agg us.toArray)).run Tryd.prog w = .ok () w := by simp [eqGuard, Sem.run_bind, hG]
  have hb : (binOp BinOp.eql T (.agg vs.toArray) (.agg us.toArray)).run Tryd.prog w = .ok (.bool c) w := by simp only [binOp, Sem.run_bind, he, Result.andThen_ok, Sem.run_pure]
  simp only [ho, hx, hy, Sem.run_bind, hg, hb, Result.andThen_ok]
  exact h
end

theorem cf8 (vs : Array Value) (w : World) : (callFunc 8 vs).run Tryd.prog w = .ok (.enter 8 vs) w := by kernel_rfl
theorem cf9 (vs : Array Value) (w : World) : (callFunc 9 vs).run Tryd.prog w = .ok (.enter 9 vs) w := by kernel_rfl
theorem cf11 (vs : Array Value) (w : World) : (callFunc 11 vs).run Tryd.prog w = .ok (.enter 11 vs) w := by kernel_rfl
theorem cf12 (vs : Array Value) (w : World) : (callFunc 12 vs).run Tryd.prog w = .ok (.enter 12 vs) w := by kernel_rfl
theorem cf15 (vs : Array Value) (w : World) : (callFunc 15 vs).run Tryd.prog w = .ok (.enter 15 vs) w := by kernel_rfl
theorem cf16 (vs : Array Value) (w : World) : (callFunc 16 vs).run Tryd.prog w = .ok (.enter 16 vs) w := by kernel_rfl
theorem cf18 (vs : Array Value) (w : World) : (callFunc 18 vs).run Tryd.prog w = .ok (.enter 18 vs) w := by kernel_rfl
theorem cf20 (vs : Array Value) (w : World) : (callFunc 20 vs).run Tryd.prog w = .ok (.enter 20 vs) w := by kernel_rfl
theorem cf23 (vs : Array Value) (w : World) : (callFunc 23 vs).run Tryd.prog w = .ok (.enter 23 vs) w := by kernel_rfl
theorem cf24 (vs : Array Value) (w : World) : (callFunc 24 vs).run Tryd.prog w = .ok (.enter 24 vs) w := by kernel_rfl
theorem cf31 (vs : Array Value) (w : World) : (callFunc 31 vs).run Tryd.prog w = .ok (.enter 31 vs) w := by kernel_rfl
/-- What each operation of such a region must show. -/
def opPost (fs : List Fact) (o : Oper) (a : Act) (w : World) (j n : Nat) (a' : Act) (w' : World) : Prop := ∃ v, a' = a.put o.dst v ∧ tab fs j v w' ∧ Kept [] w w' ∧ ∀ i u, i < n → i ≠ j → tab fs i u w → True
theorem post_of {fs : List Fact} {o : Oper} {a : Act} {w w' : World} {j n : Nat} {v : Value} (hv : tab fs j v w') (hk : Kept [] w w') : opPost fs o a w j n (a.put o.dst v) w' := ⟨v, rfl, hv, hk, fun _ _ _ _ _ => trivial⟩

end Go.Proofs.YtkpkiibahfdomaaDoor
