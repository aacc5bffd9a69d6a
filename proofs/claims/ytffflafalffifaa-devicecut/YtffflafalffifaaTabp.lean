/-
  Tables for regions whose values are known by what holds of them.
-/
import Derived.Test.YtffflafalffifaaTabr
import Derived.Test.YtffflafalffifaaStda
namespace Go.Proofs.Ytffflafalffifaa.K
open Go.RowKit

/-- What is known of an operation's value. -/
inductive Fp
  | is (u : Value)
  | no
  | pr (p : Value → World → Prop) (h : ∀ v w w', p v w → Kept [] w w' → p v w')
def Fp.at (v : Value) (w : World) : Fp → Prop
  | .is u => v = u
  | .no => v = undef
  | .pr p _ => p v w
def tp (us : List Fp) (j : Nat) (v : Value) (w : World) : Prop := match us[j]? with
  | some f => f.at v w
  | none => True
theorem tp_kept (us : List Fp) : ∀ j v w w', tp us j v w → Kept [] w w' → tp us j v w' := by
  intro j v w w' h hk
  unfold tp at h ⊢
  cases hf : us[j]? with
  | none => trivial
  | some f =>
    rw [hf] at h
    cases f with
    | is u => exact h
    | no => exact h
    | pr p hp => exact hp v w w' h hk
def skipP (us : List Fp) (j : Nat) : Bool := match us[j]? with
  | some .no => true
  | _ => false
def guardsP (ops : Array Oper) (us : List Fp) : Bool := (List.range ops.size).all (fun j => match ops[j]? with
  | none => false
  | some o => match o.guard with
    | none => !skipP us j
    | some (i, b) => match us[i]? with
      | some (.is (.bool c)) => if c == b then !skipP us j else skipP us j
      | some .no => skipP us j
      | _ => false)
theorem guardsP_some {ops : Array Oper} {us : List Fp} (h : guardsP ops us = true) : ∀ (j : Nat) (o : Oper) (i : Nat) (b : Bool), ops[j]? = some o → o.guard = some (i, b) → (skipP us j = false ∧ ∀ v w, tp us i v w → v = .bool b) ∨ (skipP us j = true ∧ ∀ v w, tp us i v w → v ≠ .bool b) := by
  intro j o i b ho hg
  have := (List.all_eq_true.1 h) j (List.mem_range.2 (Array.getElem?_eq_some_iff.1 ho).1)
  simp only [ho, hg] at this
  unfold tp
  cases hfi : us[i]? with
  | none => rw [hfi] at this; simp at this
  | some f =>
    rw [hfi] at this
    cases f with
    | no =>
      refine .inr ⟨by simpa using this, fun v w hv => ?_⟩
      have : v = undef := hv
      rw [this]
      simp [undef]
    | pr p hp => simp at this
    | is u =>
      cases u <;> first | (simp at this; done) | skip
      rename_i c
      by_cases hcb : c = b
      · subst hcb
        refine .inl ⟨by simpa using this, fun v w hv => hv⟩
      · refine .inr ⟨?_, fun v w hv => ?_⟩
        · have hne : (c == b) = false := beq_eq_false_iff_ne.2 hcb
          simpa [hne] using this
        · have hv' : v = .bool c := hv
          rw [hv']
          intro e
          exact hcb (by cases e; rfl)
theorem guardsP_none {ops : Array Oper} {us : List Fp} (h : guardsP ops us = true) : ∀ (j : Nat) (o : Oper), ops[j]? = some o → o.guard = none → skipP us j = false := by
  intro j o ho hg
  have := (List.all_eq_true.1 h) j (List.mem_range.2 (Array.getElem?_eq_some_iff.1 ho).1)
  simp only [ho, hg] at this
  simpa using this
theorem skipP_undef {us : List Fp} {j : Nat} (w : World) (h : skipP us j = true) : tp us j undef w := by
  unfold skipP at h
  unfold tp
  split at h
  · next hf => rw [hf]; rfl
  · cases h
theorem tp_is (us : List Fp) (j : Nat) (v : Value) (w : World) (hv : us[j]? = some (.is v)) : tp us j v w := by
  unfold tp; rw [hv]; rfl
theorem is_tp {us : List Fp} {j : Nat} {v u : Value} {w : World} (h : tp us j v w) (hv : us[j]? = some (.is u)) : v = u := by
  unfold tp at h; rw [hv] at h; exact h
theorem tp_pr (us : List Fp) (j : Nat) (v : Value) (w : World) (p : Value → World → Prop) (hp : ∀ v w w', p v w → Kept [] w w' → p v w') (hv : us[j]? = some (.pr p hp)) (h : p v w) : tp us j v w := by
  unfold tp; rw [hv]; exact h
theorem pr_tp {us : List Fp} {j : Nat} {v : Value} {w : World} {p : Value → World → Prop} {hp : ∀ v w w', p v w → Kept [] w w' → p v w'} (h : tp us j v w) (hv : us[j]? = some (.pr p hp)) : p v w := by
  unfold tp at h; rw [hv] at h; exact h
/-- The values of a table; x: those that are not told. -/
def valsP (x : Nat → Value) : Nat → List Fp → List Value
  | _, [] => []
  | i, .is u :: fs => u :: valsP x (i + 1) fs
  | i, .no :: fs => undef :: valsP x (i + 1) fs
  | i, .pr _ _ :: fs => x i :: valsP x (i + 1) fs
theorem valsP_at (x : Nat → Value) : ∀ (fs : List Fp) (k j : Nat) p hp, fs[j]? = some (.pr p hp) → (valsP x k fs)[j]? = some (x (k + j)) := by
  intro fs
  induction fs with
  | nil => intro k j p hp h; simp at h
  | cons f fs ih =>
    intro k j p hp h
    cases j with
    | zero =>
      simp at h
      subst h
      rfl
    | succ j =>
      have := ih (k + 1) j p hp (by simpa using h)
      rw [show k + 1 + j = k + (j + 1) by omega] at this
      cases f <;> exact this
theorem vs_tp (us : List Fp) (w : World) : ∀ (vs : List Value) (k : Nat) (fs : List Fp), (∀ (j : Nat) f, fs[j]? = some f → us[k + j]? = some f) → (∀ (j : Nat) v, vs[j]? = some v → tp us (k + j) v w) → vs.length = fs.length → ∃ x : Nat → Value, ∀ y : Nat → Value, (∀ i, k ≤ i → y i = x i) → vs = valsP y k fs := by
  intro vs
  induction vs with
  | nil =>
    intro k fs _ _ hl
    obtain rfl : fs = [] := List.length_eq_zero_iff.1 hl.symm
    exact ⟨fun _ => undef, fun _ _ => rfl⟩
  | cons v vs ih =>
    intro k fs hf hv hl
    cases fs with
    | nil => simp at hl
    | cons f fs =>
      obtain ⟨x, hx⟩ := ih (k + 1) fs (fun j g hg => by have := hf (j + 1) g (by simpa using hg); rwa [show k + (j + 1) = k + 1 + j by omega] at this) (fun j u hu => by have := hv (j + 1) u (by simpa using hu); rwa [show k + (j + 1) = k + 1 + j by omega] at this) (by simpa using hl)
      have h0 := hv 0 v rfl
      have f0 := hf 0 f rfl
      rw [Nat.add_zero] at h0 f0
      unfold tp at h0
      rw [f0] at h0
      refine ⟨fun i => if i = k then v else x i, fun y hy0 => ?_⟩
      have hy : ∀ i, k ≤ i → y i = if i = k then v else x i := hy0
      have hy' := hx y (fun i hi => by have := hy i (by omega); rwa [if_neg (by omega)] at this)
      cases f with
      | is u =>
        have h0 : v = u := h0
        subst h0
        rw [hy']; rfl
      | no =>
        have h0 : v = undef := h0
        subst h0
        rw [hy']; rfl
      | pr p hp =>
        have := hy k (Nat.le_refl _)
        rw [if_pos rfl] at this
        subst this
        show y k :: vs = y k :: valsP y (k + 1) fs
        rw [← hy']
/-- A region that draws its order, by its table. -/
theorem wpAny_tp {ops : Array Oper} {Q : Exit → Act → World → Prop} {a0 : Act} {w0 : World} (n : Nat) (hn : ops.size = n) (hok : prefG ops n = true) (us : List Fp) (hu : us.length = n) (hg : guardsP ops us = true)
    (hsl : ops.all (fun o => match o.dst with | none => true | some t => decide (t < a0.tmps.size)) = true)
    (hop : ∀ (j : Nat) (o : Oper), j < n → skipP us j = false → ops[j]? = some o → ∀ a w, (∀ t : Nat, (ops.toList.take n).all (fun p => p.dst != some t) = true → a.eval (.tmp t) = a0.eval (.tmp t)) →
      (∀ (i t : Nat), o.after.any (fun e => Region.binds .any e && e.on == i) = true → ops[i]?.bind (·.dst) = some t → tp us i (a.eval (.tmp t)) w) → Kept [] w0 w →
      o.wp Try.prog a w (fun a' w' => ∃ v, a' = a.put o.dst v ∧ tp us j v w' ∧ Kept [] w w' ∧ ∀ i u, i < n → i ≠ j → tp us i u w → True) Q)
    (hQ : ∀ x w, (∀ (j : Nat) p hp, us[j]? = some (.pr p hp) → p (x j) w) → Kept [] w0 w → wpAny Try.prog .any ops Q 0 (lists n (n + 0)) (putAll a0 (ops.toList.take n) (valsP x 0 us)) w) :
    wpAny Try.prog .any ops Q ops.size (Array.replicate ops.size false) a0 w0 := by
  refine wpAny_prefS n 0 (by omega) hok (tp us) (fun _ _ _ _ => True) (skipP us) (fun j o i b _ ho hg' => guardsP_some hg j o i b ho hg') (fun j o _ ho hg' => guardsP_none hg j o ho hg') (fun j w h => skipP_undef w h) (fun _ _ _ _ => trivial) (tp_kept us) hsl hop ?_
  intro vs w hlen hv _ hk
  obtain ⟨x, hx⟩ := vs_tp us w vs 0 us (fun j f h => by simpa using h) (fun j v h => by have := hv j v h; simpa using this) (by omega)
  have hx := hx x (fun _ _ => rfl)
  have hf : ∀ (j : Nat) p hp, us[j]? = some (.pr p hp) → p (x j) w := by
    intro j p hp hj
    have h1 := valsP_at x us 0 j p hp hj
    rw [Nat.zero_add, ← hx] at h1
    exact pr_tp (hv j _ h1) hj
  rw [hx]
  exact hQ x w hf hk
section
variable {o : Oper} {a : Act} {w : World} {K : Act → World → Prop} {Q : Exit → Act → World → Prop}
theorem o_ext (x : Operand) (k : Nat) (ho : o.op = .extract x k) (vs : Array Value) (v : Value) (hx : a.eval x = .tuple vs) (hv : vs[k]? = some v) (h : K (a.put o.dst v) w) : o.wp Try.prog a w K Q := by
  unfold Oper.wp execOp
  simp only [ho, hx]
  simp [go_sem, hv]
  exact h
theorem o_moveX (x : Operand) (ho : o.op = .move x) (h : K (a.put o.dst (a.eval x)) w) : o.wp Try.prog a w K Q := by
  unfold Oper.wp execOp
  simp only [ho]
  exact h
theorem o_assignX (x : Operand) (ho : o.op = .assign x) (h : K (a.put o.dst (a.eval x)) w) : o.wp Try.prog a w K Q := by
  unfold Oper.wp execOp
  simp only [ho]
  exact h
end

end Go.Proofs.Ytffflafalffifaa.K
