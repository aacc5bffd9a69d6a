/-
  Laws for single operations; what a watch in memory is.
-/
import Derived.Test.YthidiolgngkffaaLc
namespace Go.Proofs.Ythidiolgngkffaa
set_option maxRecDepth 100000
open Go.RowKit

theorem keepG {St : (Nat → Bool) → (Nat → Value) → World → Prop} {l : Array Bool} {vs : Nat → Value} {j : Nat} {v : Value} {w : World} (sp : List Nat) (hloc : ∀ b b' vs vs' W, (∀ i ∈ sp, b i = b' i ∧ vs i = vs' i) → St b vs W → St b' vs' W) (hj : j < l.size) (hn : sp.all (fun i => i != j) = true) (h : St (fun i => l.getD i false) vs w) : St (fun i => (l.setIfInBounds j true).getD i false) (fun i => if i = j then v else vs i) w := by
  refine hloc _ _ _ _ _ (fun i hi => ?_) h
  have hne : i ≠ j := by have := List.all_eq_true.1 hn i hi; simpa using this
  exact ⟨by rw [getD_setD hj]; simp [hne], by simp [hne]⟩
theorem nextG {St : (Nat → Bool) → (Nat → Value) → World → Prop} {l : Array Bool} {vs : Nat → Value} {j : Nat} {v : Value} {w : World} (hj : j < l.size) (h : St (fun i => if i = j then true else l.getD i false) (fun i => if i = j then v else vs i) w) : St (fun i => (l.setIfInBounds j true).getD i false) (fun i => if i = j then v else vs i) w := by
  have e : (fun i => (l.setIfInBounds j true).getD i false) = (fun i => if i = j then true else l.getD i false) := by
    funext i
    exact getD_setD hj false
  rw [e]
  exact h
theorem wpLoadG {ops : Array Oper} {rest : List Oper} {op : Oper} {a : Act} {w : World} {Q : Exit → Act → World → Prop} {T n : Nat} (hT : Row T n) (x : Operand) (ho : op.op = .load T x) (hw : Region.wanted op (yielded ops a.tmps) = true) (b off : Nat) (hx : a.eval x = .pointer (some ⟨b, off, none⟩)) (vs : List Value) (hl : vs.length = n) (hA : w.rangeAt b off vs)
    (h : wpList Try.prog ops Q rest (a.put op.dst (aggV vs)) w) : wpList Try.prog ops Q (op :: rest) a w :=
  BigFrame.wpList_want hw fun _ hK => wp_loadA hT x ho b off hx vs hl hA (hK _ _ h)
theorem o_eqlA (T r : Nat) (hG : Try.prog.eqGuardType Try.prog.depth T = false) {o : Oper} {a : Act} {w : World} {K : Act → World → Prop} {Q : Exit → Act → World → Prop} (x y : Operand) (ho : o.op = .binOp .eql T x y r) (vs us : List Value) (hx : a.eval x = aggV vs) (hy : a.eval y = aggV us) (c : Bool)
    (he : (Op.equal T (aggV vs) (aggV us)).run Try.prog w = .ok c w) (h : K (a.put o.dst (.bool c)) w) : o.wp Try.prog a w K Q := by
  unfold Oper.wp execOp
  simp only [aggV] at he hx hy
  have hg : (eqGuard .eql T x y (.agg vs.toArray) (.agg us.toArray)).run Try.prog w = .ok () w := by simp [eqGuard, Sem.run_bind, hG]
  have hb : (binOp BinOp.eql T (.agg vs.toArray) (.agg us.toArray)).run Try.prog w = .ok (.bool c) w := by simp only [binOp, Sem.run_bind, he, Result.andThen_ok, Sem.run_pure]
  simp only [ho, hx, hy, Sem.run_bind, hg, hb, Result.andThen_ok]
  exact h
theorem o_neqA (T r : Nat) (hG : Try.prog.eqGuardType Try.prog.depth T = false) {o : Oper} {a : Act} {w : World} {K : Act → World → Prop} {Q : Exit → Act → World → Prop} (x y : Operand) (ho : o.op = .binOp .neq T x y r) (vs us : List Value) (hx : a.eval x = aggV vs) (hy : a.eval y = aggV us) (c : Bool)
    (he : (Op.equal T (aggV vs) (aggV us)).run Try.prog w = .ok c w) (h : K (a.put o.dst (.bool (!c))) w) : o.wp Try.prog a w K Q := by
  unfold Oper.wp execOp
  simp only [aggV] at he hx hy
  have hg : (eqGuard .neq T x y (.agg vs.toArray) (.agg us.toArray)).run Try.prog w = .ok () w := by simp [eqGuard, Sem.run_bind, hG]
  have hb : (binOp BinOp.neq T (.agg vs.toArray) (.agg us.toArray)).run Try.prog w = .ok (.bool (!c)) w := by simp only [binOp, Sem.run_bind, he, Result.andThen_ok, Sem.run_pure]
  simp only [ho, hx, hy, Sem.run_bind, hg, hb, Result.andThen_ok]
  exact h

section
variable {o : Oper} {a : Act} {w : World} {K : Act → World → Prop} {Q : Exit → Act → World → Prop}
theorem o_nil (x : Operand) (ho : o.op = .nilCheck x) (p : Addr) (hx : a.eval x = .pointer (some p)) (h : K (a.put o.dst (.pointer (some p))) w) : o.wp Try.prog a w K Q := by
  unfold Oper.wp execOp
  simp only [ho, hx]
  simp [go_sem]
  exact h
theorem o_load3 (x : Operand) (ho : o.op = .load 3 x) (p : Addr) (v : Value) (hx : a.eval x = .pointer (some p)) (hc : w.cell? p = some v) (h : K (a.put o.dst v) w) : o.wp Try.prog a w K Q := by
  unfold Oper.wp execOp
  simp only [ho, hx]
  simp [go_sem, hc]
  exact h
theorem o_load4 (x : Operand) (ho : o.op = .load 4 x) (p : Addr) (v : Value) (hx : a.eval x = .pointer (some p)) (hc : w.cell? p = some v) (h : K (a.put o.dst v) w) : o.wp Try.prog a w K Q := by
  unfold Oper.wp execOp
  simp only [ho, hx]
  simp [go_sem, hc]
  exact h
theorem o_fld65_0 (x : Operand) (ho : o.op = .fieldAddr 65 x 0) (b i : Nat) (hx : a.eval x = .pointer (some ⟨b, i, none⟩)) (h : K (a.put o.dst (.pointer (some ⟨b, i, none⟩))) w) : o.wp Try.prog a w K Q := by
  unfold Oper.wp execOp
  simp only [ho, hx]
  simp [go_sem]
  exact h
theorem o_fld65_1 (x : Operand) (ho : o.op = .fieldAddr 65 x 1) (b i : Nat) (hx : a.eval x = .pointer (some ⟨b, i, none⟩)) (h : K (a.put o.dst (.pointer (some ⟨b, i + 1, none⟩))) w) : o.wp Try.prog a w K Q := by
  unfold Oper.wp execOp
  simp only [ho, hx]
  simp [go_sem]
  exact h
theorem o_fld65_2 (x : Operand) (ho : o.op = .fieldAddr 65 x 2) (b i : Nat) (hx : a.eval x = .pointer (some ⟨b, i, none⟩)) (h : K (a.put o.dst (.pointer (some ⟨b, i + 2, none⟩))) w) : o.wp Try.prog a w K Q := by
  unfold Oper.wp execOp
  simp only [ho, hx]
  simp [go_sem]
  exact h
theorem o_fld79_0 (x : Operand) (ho : o.op = .fieldAddr 79 x 0) (b i : Nat) (hx : a.eval x = .pointer (some ⟨b, i, none⟩)) (h : K (a.put o.dst (.pointer (some ⟨b, i, none⟩))) w) : o.wp Try.prog a w K Q := by
  unfold Oper.wp execOp
  simp only [ho, hx]
  simp [go_sem]
  exact h
theorem o_fld79_1 (x : Operand) (ho : o.op = .fieldAddr 79 x 1) (b i : Nat) (hx : a.eval x = .pointer (some ⟨b, i, none⟩)) (h : K (a.put o.dst (.pointer (some ⟨b, i + 1, none⟩))) w) : o.wp Try.prog a w K Q := by
  unfold Oper.wp execOp
  simp only [ho, hx]
  simp [go_sem]
  exact h
theorem o_fld79_2 (x : Operand) (ho : o.op = .fieldAddr 79 x 2) (b i : Nat) (hx : a.eval x = .pointer (some ⟨b, i, none⟩)) (h : K (a.put o.dst (.pointer (some ⟨b, i + 2, none⟩))) w) : o.wp Try.prog a w K Q := by
  unfold Oper.wp execOp
  simp only [ho, hx]
  simp [go_sem]
  exact h
theorem o_fld62_0 (x : Operand) (ho : o.op = .fieldAddr 62 x 0) (b i : Nat) (hx : a.eval x = .pointer (some ⟨b, i, none⟩)) (h : K (a.put o.dst (.pointer (some ⟨b, i, none⟩))) w) : o.wp Try.prog a w K Q := by
  unfold Oper.wp execOp
  simp only [ho, hx]
  simp [go_sem]
  exact h
theorem o_fld62_1 (x : Operand) (ho : o.op = .fieldAddr 62 x 1) (b i : Nat) (hx : a.eval x = .pointer (some ⟨b, i, none⟩)) (h : K (a.put o.dst (.pointer (some ⟨b, i + 1, none⟩))) w) : o.wp Try.prog a w K Q := by
  unfold Oper.wp execOp
  simp only [ho, hx]
  simp [go_sem]
  exact h
theorem o_fld62_2 (x : Operand) (ho : o.op = .fieldAddr 62 x 2) (b i : Nat) (hx : a.eval x = .pointer (some ⟨b, i, none⟩)) (h : K (a.put o.dst (.pointer (some ⟨b, i + 4, none⟩))) w) : o.wp Try.prog a w K Q := by
  unfold Oper.wp execOp
  simp only [ho, hx]
  simp [go_sem]
  exact h
theorem o_fld76_0 (x : Operand) (ho : o.op = .fieldAddr 76 x 0) (b i : Nat) (hx : a.eval x = .pointer (some ⟨b, i, none⟩)) (h : K (a.put o.dst (.pointer (some ⟨b, i, none⟩))) w) : o.wp Try.prog a w K Q := by
  unfold Oper.wp execOp
  simp only [ho, hx]
  simp [go_sem]
  exact h
theorem o_fld76_1 (x : Operand) (ho : o.op = .fieldAddr 76 x 1) (b i : Nat) (hx : a.eval x = .pointer (some ⟨b, i, none⟩)) (h : K (a.put o.dst (.pointer (some ⟨b, i + 1, none⟩))) w) : o.wp Try.prog a w K Q := by
  unfold Oper.wp execOp
  simp only [ho, hx]
  simp [go_sem]
  exact h
theorem o_fld76_2 (x : Operand) (ho : o.op = .fieldAddr 76 x 2) (b i : Nat) (hx : a.eval x = .pointer (some ⟨b, i, none⟩)) (h : K (a.put o.dst (.pointer (some ⟨b, i + 4, none⟩))) w) : o.wp Try.prog a w K Q := by
  unfold Oper.wp execOp
  simp only [ho, hx]
  simp [go_sem]
  exact h
theorem o_fld23_0 (x : Operand) (ho : o.op = .fieldAddr 23 x 0) (b i : Nat) (hx : a.eval x = .pointer (some ⟨b, i, none⟩)) (h : K (a.put o.dst (.pointer (some ⟨b, i, none⟩))) w) : o.wp Try.prog a w K Q := by
  unfold Oper.wp execOp
  simp only [ho, hx]
  simp [go_sem]
  exact h
theorem o_fld23_1 (x : Operand) (ho : o.op = .fieldAddr 23 x 1) (b i : Nat) (hx : a.eval x = .pointer (some ⟨b, i, none⟩)) (h : K (a.put o.dst (.pointer (some ⟨b, i + 1, none⟩))) w) : o.wp Try.prog a w K Q := by
  unfold Oper.wp execOp
  simp only [ho, hx]
  simp [go_sem]
  exact h
theorem o_fld23_2 (x : Operand) (ho : o.op = .fieldAddr 23 x 2) (b i : Nat) (hx : a.eval x = .pointer (some ⟨b, i, none⟩)) (h : K (a.put o.dst (.pointer (some ⟨b, i + 2, none⟩))) w) : o.wp Try.prog a w K Q := by
  unfold Oper.wp execOp
  simp only [ho, hx]
  simp [go_sem]
  exact h
theorem o_fld48_0 (x : Operand) (ho : o.op = .fieldAddr 48 x 0) (b i : Nat) (hx : a.eval x = .pointer (some ⟨b, i, none⟩)) (h : K (a.put o.dst (.pointer (some ⟨b, i, none⟩))) w) : o.wp Try.prog a w K Q := by
  unfold Oper.wp execOp
  simp only [ho, hx]
  simp [go_sem]
  exact h
theorem o_fld48_1 (x : Operand) (ho : o.op = .fieldAddr 48 x 1) (b i : Nat) (hx : a.eval x = .pointer (some ⟨b, i, none⟩)) (h : K (a.put o.dst (.pointer (some ⟨b, i + 1, none⟩))) w) : o.wp Try.prog a w K Q := by
  unfold Oper.wp execOp
  simp only [ho, hx]
  simp [go_sem]
  exact h
theorem o_fld48_2 (x : Operand) (ho : o.op = .fieldAddr 48 x 2) (b i : Nat) (hx : a.eval x = .pointer (some ⟨b, i, none⟩)) (h : K (a.put o.dst (.pointer (some ⟨b, i + 2, none⟩))) w) : o.wp Try.prog a w K Q := by
  unfold Oper.wp execOp
  simp only [ho, hx]
  simp [go_sem]
  exact h
theorem o_idx63 (x y : Operand) (ho : o.op = .indexAddr 63 x y) (b : Nat) (m : Int) (h0 : 0 ≤ m) (h8 : m < 8) (hx : a.eval x = .pointer (some ⟨b, 2, none⟩)) (hy : a.eval y = .int .i64 m) (h : K (a.put o.dst (.pointer (some ⟨b, 2 + m.toNat * 5, none⟩))) w) : o.wp Try.prog a w K Q := by
  unfold Oper.wp execOp
  simp only [ho, hx, hy]
  simp [go_sem, h0, h8]
  exact h
theorem o_idx77 (x y : Operand) (ho : o.op = .indexAddr 77 x y) (b : Nat) (m : Int) (h0 : 0 ≤ m) (h8 : m < 8) (hx : a.eval x = .pointer (some ⟨b, 2, none⟩)) (hy : a.eval y = .int .i64 m) (h : K (a.put o.dst (.pointer (some ⟨b, 2 + m.toNat * 5, none⟩))) w) : o.wp Try.prog a w K Q := by
  unfold Oper.wp execOp
  simp only [ho, hx, hy]
  simp [go_sem, h0, h8]
  exact h
theorem o_geq3 (x y : Operand) (ho : o.op = .binOp .geq 3 x y 3) (m n : Int) (r : Bool) (hr : decide (n ≤ m) = r) (hx : a.eval x = .int .i64 m) (hy : a.eval y = .int .i64 n) (h : K (a.put o.dst (.bool r)) w) : o.wp Try.prog a w K Q := by
  subst hr
  unfold Oper.wp execOp
  simp only [ho, hx, hy]
  simp [go_sem]
  exact h
end
/-- A block turns at the operation k of a region. -/
@[reducible] def SX {α : Type} (X : List Nat) (w : World) (mk : α → List (Nat × Nat × List Value)) (S0 S1 : α) (k : Nat) (d : Nat → Bool) (_ : Nat → Value) (W : World) : Prop :=
  ∃ S, Mm X w W (mk S) ∧ (d k = false → S = S0) ∧ (d k = true → S = S1)
theorem SX.loc {α : Type} {X : List Nat} {w : World} {mk : α → List (Nat × Nat × List Value)} {S0 S1 : α} {k : Nat} : ∀ d d' vs vs' W, (∀ i ∈ [k], d i = d' i ∧ vs i = vs' i) → SX X w mk S0 S1 k d vs W → SX X w mk S0 S1 k d' vs' W := by
  intro d d' vs vs' W H h
  have e0 := (H k (by simp)).1
  unfold SX at h ⊢
  rw [← e0]
  exact h
def Wt.put (v : Wt) (m : Int) (k : Lk) : Wt := ⟨v.n, v.p, v.ls.set m.toNat k⟩
/-- What a look makes of a node. -/
def Wt.see (v : Wt) (m : Int) (l : Le) : Lk := if (v.lk m).is = true ∧ (v.lk m).said = l then ⟨true, l, (v.lk m).age + 1⟩ else ⟨true, l, 0⟩
/-- What Look leaves and answers. -/
def Wt.look (v : Wt) (m : Int) (l : Le) : Wt × Bool × Int := if (v.has m && l.may) = false then (v, false, 2) else (v.put m (v.see m l), decide (v.p ≤ (v.see m l).age), 0)
def Wt.forget (v : Wt) (m : Int) : Wt × Int := if v.has m = false then (v, 2) else (v.put m lk0, 0)
def Wt.clear (v : Wt) : Wt := ⟨v.n, v.p, lk8⟩
/-- What there is of a node, none: nothing. -/
def Wt.of (v : Wt) (m : Int) : Lk := if v.has m then v.lk m else lk0
theorem put_ok {A : Int} {v : Wt} (h : v.Ok A) {m : Int} {k : Lk} (hk : 0 ≤ k.age ∧ k.age ≤ A) : (v.put m k).Ok A := by
  refine ⟨h.n, h.p, by simp [Wt.put, h.len], ?_⟩
  intro x hx
  simp only [Wt.put] at hx
  rcases List.mem_or_eq_of_mem_set hx with hx | rfl
  · exact h.age x hx
  · exact hk
theorem lk_age {A : Int} {v : Wt} (h : v.Ok A) (hA : 0 ≤ A) (m : Int) : 0 ≤ (v.lk m).age ∧ (v.lk m).age ≤ A := by
  unfold Wt.lk
  rw [List.getD_eq_getElem?_getD]
  cases hq : v.ls[m.toNat]? with
  | none => exact ⟨by decide, hA⟩
  | some k => exact h.age k (List.mem_of_getElem? hq)
theorem look_ok {A : Int} {v : Wt} (h : v.Ok A) (hA : 0 ≤ A) (m : Int) (l : Le) : (v.look m l).1.Ok (A + 1) := by
  have ha := lk_age h hA m
  unfold Wt.look
  split
  · exact h.mono (by omega)
  · refine put_ok (h.mono (by omega)) ?_
    unfold Wt.see
    split
    · simp; omega
    · simp; omega
theorem forget_ok {A : Int} {v : Wt} (h : v.Ok A) (hA : 0 ≤ A) (m : Int) : (v.forget m).1.Ok A := by
  unfold Wt.forget
  split
  · exact h
  · exact put_ok h ⟨by decide, hA⟩
theorem clear_ok {A : Int} {v : Wt} (h : v.Ok A) (hA : 0 ≤ A) : v.clear.Ok A := by
  refine ⟨h.n, h.p, rfl, ?_⟩
  intro k hk
  simp [Wt.clear, lk8] at hk
  subst hk
  exact ⟨by decide, hA⟩
theorem Blk.lk {A : Int} {w : World} {b T : Nat} {v : Wt} (h : Blk w b T v.C) (hv : v.Ok A) {m : Int} (hm : v.has m = true) : w.rangeAt b (2 + m.toNat * 5) (v.lk m).C := by
  refine h.rangeIn _ (fun j hj => ?_)
  exact wtC_at (lk_at hv hm) j (by simpa [Lk.C] using hj)
theorem Blk.age {A : Int} {w : World} {b T : Nat} {v : Wt} (h : Blk w b T v.C) (hv : v.Ok A) {m : Int} (hm : v.has m = true) : w.cell? ⟨b, 2 + m.toNat * 5 + 4, none⟩ = some (.int .i64 (v.lk m).age) :=
  fits_cell h _ _ (wtC_at (lk_at hv hm) 4 (by omega))
theorem Blk.setLk {w : World} {b T : Nat} {v : Wt} (h : Blk w b T v.C) (hv : v.ls.length = 8) {m : Int} (hm : m.toNat < 8) (k : Lk) : Blk (w.setCells b (2 + m.toNat * 5) k.C) b T (v.put m k).C := by
  have hn : m.toNat < v.ls.length := by omega
  have hc : (v.put m k).C = (.int .i64 v.n :: .int .i64 v.p :: lksC (v.ls.take m.toNat)) ++ k.C ++ lksC (v.ls.drop (m.toNat + 1)) := by
    simp only [Wt.put, Wt.C]
    rw [lksC_set _ _ hn]; simp
  have h' : v.C = (.int .i64 v.n :: .int .i64 v.p :: lksC (v.ls.take m.toNat)) ++ (v.ls[m.toNat]).C ++ lksC (v.ls.drop (m.toNat + 1)) := by
    simp only [Wt.C]
    rw [lksC_split _ _ hn]; simp
  rw [h'] at h
  rw [hc]
  exact h.part (by simp [lksC_len]; omega) rfl
theorem Blk.clear {w : World} {b T : Nat} {v : Wt} (h : Blk w b T v.C) (hv : v.ls.length = 8) : Blk (w.setCells b 2 (lksC lk8)) b T v.clear.C := by
  have hc : v.clear.C = [.int .i64 v.n, .int .i64 v.p] ++ lksC lk8 ++ [] := by simp [Wt.clear, Wt.C]
  have h' : v.C = [.int .i64 v.n, .int .i64 v.p] ++ lksC v.ls ++ [] := by simp [Wt.C]
  rw [h'] at h
  rw [hc]
  exact h.part rfl (by rw [lksC_len, lksC_len, hv]; rfl)
theorem has_lt {A : Int} {v : Wt} (h : v.Ok A) {m : Int} (hm : v.has m = true) : 0 ≤ m ∧ m < 8 := by
  have := h.n
  simp [Wt.has] at hm
  omega
section
variable {ops : Array Oper} {rest : List Oper} {op : Oper} {a : Act} {w w0 : World} {Q : Exit → Act → World → Prop} {bs : List (Nat × Nat × List Value)} {X : List Nat}
/-- A look is written. -/
theorem wpStoreLk {T U : Nat} (hT : Row T 5) (hgd : op.guard = none) (x y : Operand) (ho : op.op = .store T x y) (hd : op.dst = none) (b i : Nat) (m : Int) (v : Wt) (k : Lk) (hx : a.eval x = .pointer (some ⟨b, 2 + m.toNat * 5, none⟩)) (hy : a.eval y = aggV k.C) (hM : Mm X w0 w bs) (hi : bs[i]? = some (b, U, v.C)) (hn : m.toNat < 8) (hv : v.ls.length = 8)
    (h : ∀ W, Mm X w0 W (bs.set i (b, U, (v.put m k).C)) → wpList Try.prog ops Q rest a W) : wpList Try.prog ops Q (op :: rest) a w := by
  have hB := hM.at i _ hi
  refine wpStoreA hT hgd x y ho b (2 + m.toNat * 5) k.C hx hy rfl (lkC_one _) (hB.there (by simp [wtC_len hv]; omega)) ?_
  rw [hd]
  exact h _ (hM.mut i hi ((Kept.refl _ _).setCells _ _ (by simp)) (hB.setLk hv hn k))
theorem wpStoreClr {T U : Nat} (hT : Row T 40) (hgd : op.guard = none) (x y : Operand) (ho : op.op = .store T x y) (hd : op.dst = none) (b i : Nat) (v : Wt) (hx : a.eval x = .pointer (some ⟨b, 2, none⟩)) (hy : a.eval y = aggV (lksC lk8)) (hM : Mm X w0 w bs) (hi : bs[i]? = some (b, U, v.C)) (hv : v.ls.length = 8)
    (h : ∀ W, Mm X w0 W (bs.set i (b, U, v.clear.C)) → wpList Try.prog ops Q rest a W) : wpList Try.prog ops Q (op :: rest) a w := by
  have hB := hM.at i _ hi
  refine wpStoreA hT hgd x y ho b 2 (lksC lk8) hx hy rfl (lksC_one _) (hB.there (by simp [wtC_len hv])) ?_
  rw [hd]
  exact h _ (hM.mut i hi ((Kept.refl _ _).setCells _ _ (by simp)) (hB.clear hv))
end
section
variable {o : Oper} {a : Act} {w : World} {K : Act → World → Prop} {Q : Exit → Act → World → Prop}
theorem o_stLk {T U : Nat} (hT : Row T 5) (x y : Operand) (ho : o.op = .store T x y) (hd : o.dst = none) (b : Nat) (m : Int) (v : Wt) (k : Lk) (hx : a.eval x = .pointer (some ⟨b, 2 + m.toNat * 5, none⟩)) (hy : a.eval y = aggV k.C) (hB : Blk w b U v.C) (hn : m.toNat < 8) (hv : v.ls.length = 8)
    (h : ∀ W, Blk W b U (v.put m k).C → Kept [b] w W → K a W) : o.wp Try.prog a w K Q := by
  refine wp_storeN hT x y ho hd b (2 + m.toNat * 5) k.C hx hy rfl (lkC_one _) (hB.there (by simp [wtC_len hv]; omega)) ?_
  exact h _ (hB.setLk hv hn k) ((Kept.refl _ _).setCells _ _ (by simp))
end

end Go.Proofs.Ythidiolgngkffaa
