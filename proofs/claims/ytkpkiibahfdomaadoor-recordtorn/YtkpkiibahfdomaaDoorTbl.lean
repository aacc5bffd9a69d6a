/-
  Tables for regions whose guarded operations may be left out.
-/
import Derived.Test.YtkpkiibahfdomaaDoorPlainr
namespace Go.Proofs.YtkpkiibahfdomaaDoor
open Go.RowKit

/-- What is known of a value: it is this one; the operation is left out; a pointer to a new block that has these cells. -/
inductive Fc
  | is (v : Value)
  | no
  | new (T : Nat) (vs : List Value) (B : Nat)
def Fc.at (v : Value) (w : World) : Fc → Prop
  | .is u => v = u
  | .no => v = undef
  | .new T vs B => ∃ q, v = P0 q ∧ B ≤ q ∧ Blk w q T vs
def tc (fs : List Fc) (j : Nat) (v : Value) (w : World) : Prop := match fs[j]? with
  | some f => f.at v w
  | none => True
theorem tc_kept (fs : List Fc) : ∀ j v w w', tc fs j v w → Kept [] w w' → tc fs j v w' := by
  intro j v w w' h hk
  unfold tc at *
  cases hf : fs[j]? with
  | none => trivial
  | some f =>
    rw [hf] at h
    cases f with
    | is u => exact h
    | no => exact h
    | new T vs B =>
      obtain ⟨q, h1, h2, h3⟩ := h
      exact ⟨q, h1, h2, h3.kept hk (by simp)⟩
def skipOf (fs : List Fc) (j : Nat) : Bool := match fs[j]? with
  | some .no => true
  | _ => false
/-- The guards of a region are what the table says. -/
def guardsS (ops : Array Oper) (fs : List Fc) : Bool := (List.range ops.size).all (fun j => match ops[j]? with
  | none => false
  | some o => match o.guard with
    | none => !skipOf fs j
    | some (i, b) => match fs[i]? with
      | some (.is (.bool c)) => if c == b then !skipOf fs j else skipOf fs j
      | some .no => skipOf fs j
      | _ => false)
theorem guardsS_some {ops : Array Oper} {fs : List Fc} (h : guardsS ops fs = true) : ∀ (j : Nat) (o : Oper) (i : Nat) (b : Bool), ops[j]? = some o → o.guard = some (i, b) → (skipOf fs j = false ∧ ∀ v w, tc fs i v w → v = .bool b) ∨ (skipOf fs j = true ∧ ∀ v w, tc fs i v w → v ≠ .bool b) := by
  intro j o i b ho hg
  have := (List.all_eq_true.1 h) j (List.mem_range.2 (Array.getElem?_eq_some_iff.1 ho).1)
  simp only [ho, hg] at this
  unfold tc
  cases hfi : fs[i]? with
  | none => rw [hfi] at this; simp at this
  | some f =>
    rw [hfi] at this
    cases f with
    | new T vs B => simp at this
    | no =>
      refine .inr ⟨by simpa using this, fun v w hv => ?_⟩
      have : v = undef := hv
      rw [this]
      simp [undef]
    | is u =>
      cases u <;> first | (simp at this; done) | skip
      rename_i c
      by_cases hcb : c = b
      · subst hcb
        refine .inl ⟨by simpa using this, fun v w hv => hv⟩
      · refine .inr ⟨?_, fun v w hv => ?_⟩
        · have hne : (c == b) = false := beq_eq_false_iff_ne.2 hcb
          simpa [hne] using this
        · have hv' : v = .bool c := hv
          rw [hv']
          intro e
          exact hcb (by cases e; rfl)
theorem guardsS_none {ops : Array Oper} {fs : List Fc} (h : guardsS ops fs = true) : ∀ (j : Nat) (o : Oper), ops[j]? = some o → o.guard = none → skipOf fs j = false := by
  intro j o ho hg
  have := (List.all_eq_true.1 h) j (List.mem_range.2 (Array.getElem?_eq_some_iff.1 ho).1)
  simp only [ho, hg] at this
  simpa using this
theorem skip_undef {fs : List Fc} {j : Nat} (w : World) (h : skipOf fs j = true) : tc fs j undef w := by
  unfold skipOf at h
  unfold tc
  split at h
  · next hf => rw [hf]; rfl
  · cases h
/-- What each operation of such a region must show. -/
def opPc (fs : List Fc) (o : Oper) (a : Act) (w : World) (j n : Nat) (a' : Act) (w' : World) : Prop := ∃ v, a' = a.put o.dst v ∧ tc fs j v w' ∧ Kept [] w w' ∧ ∀ i u, i < n → i ≠ j → tc fs i u w → True
theorem postc {fs : List Fc} {o : Oper} {a : Act} {w w' : World} {j n : Nat} {v : Value} (hv : tc fs j v w') (hk : Kept [] w w') : opPc fs o a w j n (a.put o.dst v) w' := ⟨v, rfl, hv, hk, fun _ _ _ _ _ => trivial⟩

section
variable {o : Oper} {a : Act} {w : World} {K : Act → World → Prop} {Q : Exit → Act → World → Prop}
theorem o_conv53 (x : Operand) (ho : o.op = .convert 5 3 x) (c : Int) (hc : 0 ≤ c ∧ c < 256) (hx : a.eval x = .int .u8 c) (h : K (a.put o.dst (.int .i64 c)) w) : o.wp Tryd.prog a w K Q := by
  have hw : IntKind.i64.wrap c = c := by rw [IntKind.wrap_i64]; omega
  unfold Oper.wp execOp
  simp only [ho, hx]
  simp [go_sem, hw]
  exact h
theorem o_sub3 (x : Operand) (k : Int) (ho : o.op = .binOp .sub 3 x (.const (.int .i64 k)) 3) (c : Int) (hc : -1000000 ≤ c - k ∧ c - k ≤ 1000000) (hx : a.eval x = .int .i64 c) (h : K (a.put o.dst (.int .i64 (c - k))) w) : o.wp Tryd.prog a w K Q := by
  have hw : IntKind.i64.wrap (c - k) = c - k := by rw [IntKind.wrap_i64]; omega
  unfold Oper.wp execOp
  simp only [ho, hx]
  simp [go_sem, hw]
  exact h
theorem o_pickT (c x : Operand) (ho : o.op = .pick c (.const (.bool true)) x) (r s : Bool) (hc : a.eval c = .bool r) (hx : r = false → a.eval x = .bool s) (h : K (a.put o.dst (.bool (r || s))) w) (hs : r = true → s = false) : o.wp Tryd.prog a w K Q := by
  unfold Oper.wp execOp
  simp only [ho, hc]
  cases r with
  | true => rw [hs rfl] at h; simp [go_sem]; exact h
  | false => rw [hx rfl]; simp [go_sem]; exact h
theorem o_buildP {T : Nat} (parts : Array (Nat × Operand)) (ho : o.op = .build T parts) (ps : Array (Nat × Value)) (hp : (parts.map fun (i, x) => (i, a.eval x)) = ps) (vs : List Value) (hr : (Instr.build T ps).run Tryd.prog w = .ok (aggV vs) w) (h : K (a.put o.dst (aggV vs)) w) : o.wp Tryd.prog a w K Q := by
  subst hp
  unfold Oper.wp execOp
  simp only [ho, Sem.run_bind, hr, Result.andThen_ok]
  exact h
theorem o_neqA (T r : Nat) (hG : Tryd.prog.eqGuardType Tryd.prog.depth T = false) (x y : Operand) (ho : o.op = .binOp .neq T x y r) (vs us : List Value) (hx : a.eval x = aggV vs) (hy : a.eval y = aggV us) (c : Bool)
    (he : (Op.equal T (aggV vs) (aggV us)).run Tryd.prog w = .ok c w) (h : K (a.put o.dst (.bool (!c))) w) : o.wp Tryd.prog a w K Q := by
  unfold Oper.wp execOp
  simp only [aggV] at he hx hy
  have hg : (eqGuard .neq T x y (.agg vs.toArray) (.agg us.toArray)).run Tryd.prog w = .ok () w := by simp [eqGuard, Sem.run_bind, hG]
  have hb : (binOp BinOp.neq T (.agg vs.toArray) (.agg us.toArray)).run Tryd.prog w = .ok (.bool (!c)) w := by simp only [binOp, Sem.run_bind, he, Result.andThen_ok, Sem.run_pure]
  simp only [ho, hx, hy, Sem.run_bind, hg, hb, Result.andThen_ok]
  exact h
end

section
variable {o : Oper} {a : Act} {w : World} {K : Act → World → Prop} {Q : Exit → Act → World → Prop}
theorem wp_move (x : Operand) (ho : o.op = .move x) (v : Value) (hx : a.eval x = v) (h : K (a.put o.dst v) w) : o.wp Tryd.prog a w K Q := by
  subst hx
  unfold Oper.wp execOp
  simp only [ho]
  exact h
theorem wp_assignV (x : Operand) (ho : o.op = .assign x) (v : Value) (hx : a.eval x = v) (h : K (a.put o.dst v) w) : o.wp Tryd.prog a w K Q := by
  subst hx
  exact wp_assign x ho h
theorem o_gtr3 (x : Operand) (c : Int) (ho : o.op = .binOp .gtr 3 x (.const (.int .i64 c)) 3) (m : Int) (r : Bool) (hr : decide (c < m) = r) (hx : a.eval x = .int .i64 m) (h : K (a.put o.dst (.bool r)) w) : o.wp Tryd.prog a w K Q := by
  unfold Oper.wp execOp
  simp only [ho, hx]
  simp [go_sem, hr]
  exact h
theorem o_pickN (c x : Operand) (ho : o.op = .pick c x (.const (.bool false))) (hc : a.eval c = .bool false) (h : K (a.put o.dst (.bool false)) w) : o.wp Tryd.prog a w K Q := by
  unfold Oper.wp execOp
  simp only [ho, hc]
  simp [go_sem]
  exact h
end

end Go.Proofs.YtkpkiibahfdomaaDoor
