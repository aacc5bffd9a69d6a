/-
  Laws for single operations, for regions that draw their order.
-/
import Derived.Test.YtcfoebpbbmnleaaApm
import Derived.Test.YtcfoebpbbmnleaaPrefg
namespace Go.Proofs.Ytcfoebpbbmnleaa
open Go.RowKit

/-- The guards of a region are what the table says. -/
def guardsOK (ops : Array Oper) (fs : List Fact) : Bool := ops.all (fun o => match o.guard with
  | none => true
  | some (i, b) => match fs[i]? with
    | some (.is (.bool c)) => c == b
    | _ => false)
theorem guards_spec {ops : Array Oper} {fs : List Fact} (h : guardsOK ops fs = true) : ∀ (j : Nat) (o : Oper) (i : Nat) (b : Bool), ops[j]? = some o → o.guard = some (i, b) → ∀ v w, tab fs i v w → v = .bool b := by
  intro j o i b ho hg v w hf
  have := (Array.all_eq_true_iff_forall_mem.1 h) o (Array.mem_of_getElem? ho)
  simp only [hg] at this
  unfold tab at hf
  cases hfi : fs[i]? with
  | none => rw [hfi] at this; simp at this
  | some f =>
    rw [hfi] at this hf
    cases f with
    | new T vs B => simp at this
    | is u =>
      cases u <;> first | (simp at this; done) | (have := (beq_iff_eq.1 this); subst this; exact hf)
/-- Where all values are known, they are these. -/
theorem vs_is {us vs : List Value} {w : World} (h : ∀ (j : Nat) v, vs[j]? = some v → tab (us.map Fact.is) j v w) (hl : vs.length = us.length) : vs = us := by
  apply List.ext_getElem hl
  intro i h1 h2
  have := h i _ (List.getElem?_eq_getElem h1)
  unfold tab at this
  rw [List.getElem?_map, List.getElem?_eq_getElem h2] at this
  exact this
theorem tab_is (us : List Value) (j : Nat) (v : Value) (w : World) (hv : us[j]? = some v) : tab (us.map Fact.is) j v w := by
  unfold tab
  rw [List.getElem?_map, hv]
  rfl
theorem is_tab {us : List Value} {j : Nat} {v u : Value} {w : World} (h : tab (us.map Fact.is) j v w) (hv : us[j]? = some u) : v = u := by
  unfold tab at h
  rw [List.getElem?_map, hv] at h
  exact h

section
variable {o : Oper} {a : Act} {w : World} {K : Act → World → Prop} {Q : Exit → Act → World → Prop}
theorem o_sub2 (x y : Operand) (ho : o.op = .binOp .sub 2 x y 2) (m n : Int) (hm : I64 (m - n)) (hx : a.eval x = .int .i64 m) (hy : a.eval y = .int .i64 n) (h : K (a.put o.dst (.int .i64 (m - n))) w) : o.wp Try.prog a w K Q := by
  have hw : IntKind.i64.wrap (m - n) = m - n := by rw [IntKind.wrap_i64]; have := hm.1; have := hm.2; omega
  unfold Oper.wp execOp
  simp only [ho, hx, hy]
  simp [go_sem, hw]
  exact h
theorem o_rem2 (x y : Operand) (ho : o.op = .binOp .rem 2 x y 2) (m n r : Int) (hm : 0 ≤ m) (hn : 1 ≤ n) (hr : m % n = r) (hx : a.eval x = .int .i64 m) (hy : a.eval y = .int .i64 n) (h : K (a.put o.dst (.int .i64 r)) w) : o.wp Try.prog a w K Q := by
  have h0 : ¬ n = 0 := by omega
  have hd : m.tmod n = r := by rw [Int.tmod_eq_emod_of_nonneg hm]; exact hr
  unfold Oper.wp execOp
  simp only [ho, hx, hy]
  simp [go_sem, hd, h0]
  exact h
theorem o_neq3 (x y : Operand) (ho : o.op = .binOp .neq 3 x y 3) (m : Int) (hx : a.eval x = .int .i64 m) (hy : a.eval y = .int .i64 m) (h : K (a.put o.dst (.bool false)) w) : o.wp Try.prog a w K Q := by
  unfold Oper.wp execOp
  simp only [ho, hx, hy]
  simp [go_sem]
  exact h
theorem o_neq2 (x y : Operand) (ho : o.op = .binOp .neq 2 x y 2) (m : Int) (hx : a.eval x = .int .i64 m) (hy : a.eval y = .int .i64 m) (h : K (a.put o.dst (.bool false)) w) : o.wp Try.prog a w K Q := by
  unfold Oper.wp execOp
  simp only [ho, hx, hy]
  simp [go_sem]
  exact h
theorem o_neq35 (x y : Operand) (ho : o.op = .binOp .neq 35 x y 35) (m : Int) (hx : a.eval x = .int .i64 m) (hy : a.eval y = .int .i64 m) (h : K (a.put o.dst (.bool false)) w) : o.wp Try.prog a w K Q := by
  unfold Oper.wp execOp
  simp only [ho, hx, hy]
  simp [go_sem]
  exact h
theorem o_pickOr (c x : Operand) (ho : o.op = .pick c (.const (.bool true)) x) (r : Bool) (hc : a.eval c = .bool false) (hx : a.eval x = .bool r) (h : K (a.put o.dst (.bool r)) w) : o.wp Try.prog a w K Q := by
  unfold Oper.wp execOp
  simp only [ho, hc, hx]
  simp [go_sem]
  exact h
theorem o_moveV (x : Operand) (v : Value) (ho : o.op = .move x) (hx : a.eval x = v) (h : K (a.put o.dst v) w) : o.wp Try.prog a w K Q := by
  subst hx
  unfold Oper.wp execOp
  simp only [ho]
  exact h
theorem o_load2 (x : Operand) (ho : o.op = .load 2 x) (p : Addr) (v : Value) (hx : a.eval x = .pointer (some p)) (hc : w.cell? p = some v) (h : K (a.put o.dst v) w) : o.wp Try.prog a w K Q := by
  unfold Oper.wp execOp
  simp only [ho, hx]
  simp [go_sem, hc]
  exact h
theorem o_load35 (x : Operand) (ho : o.op = .load 35 x) (p : Addr) (v : Value) (hx : a.eval x = .pointer (some p)) (hc : w.cell? p = some v) (h : K (a.put o.dst v) w) : o.wp Try.prog a w K Q := by
  unfold Oper.wp execOp
  simp only [ho, hx]
  simp [go_sem, hc]
  exact h
theorem o_field37 (x : Operand) (k : Nat) (hk : k < 4) (ho : o.op = .fieldAddr 37 x k) (b : Nat) (hx : a.eval x = P0 b) (h : K (a.put o.dst (.pointer (some ⟨b, k, none⟩))) w) : o.wp Try.prog a w K Q := by
  unfold Oper.wp execOp
  simp only [ho, hx]
  rcases (show k = 0 ∨ k = 1 ∨ k = 2 ∨ k = 3 by omega) with rfl | rfl | rfl | rfl
  all_goals
    simp [go_sem]
    exact h
theorem o_field33 (x : Operand) (k : Nat) (hk : k < 4) (ho : o.op = .fieldAddr 33 x k) (b : Nat) (hx : a.eval x = P0 b) (h : K (a.put o.dst (.pointer (some ⟨b, k, none⟩))) w) : o.wp Try.prog a w K Q := by
  unfold Oper.wp execOp
  simp only [ho, hx]
  rcases (show k = 0 ∨ k = 1 ∨ k = 2 ∨ k = 3 by omega) with rfl | rfl | rfl | rfl
  all_goals
    simp [go_sem]
    exact h
theorem o_field23 (x : Operand) (ho : o.op = .fieldAddr 23 x 3) (b : Nat) (hx : a.eval x = P0 b) (h : K (a.put o.dst (.pointer (some ⟨b, 3, none⟩))) w) : o.wp Try.prog a w K Q := by
  unfold Oper.wp execOp
  simp only [ho, hx]
  simp [go_sem]
  exact h
end
theorem cf11 (vs : Array Value) (w : World) : (callFunc 11 vs).run Try.prog w = .ok (.enter 11 vs) w := by kernel_rfl

end Go.Proofs.Ytcfoebpbbmnleaa
