/-
  Tables for regions whose guarded operations may be left out.
-/
import Derived.Test.YtkpkiibahfdomaaDoorPrefs
namespace Go.Proofs.YtkpkiibahfdomaaDoor
open Go.RowKit

/-- What is known of each operation's value; none: the operation is left out. -/
def tq (us : List (Option Value)) (j : Nat) (v : Value) (_ : World) : Prop := match us[j]? with
  | some (some u) => v = u
  | some none => v = undef
  | none => True
theorem tq_kept (us : List (Option Value)) : ∀ j v w w', tq us j v w → Kept [] w w' → tq us j v w' := fun _ _ _ _ h _ => h
def skipQ (us : List (Option Value)) (j : Nat) : Bool := match us[j]? with
  | some none => true
  | _ => false
def guardsQ (ops : Array Oper) (us : List (Option Value)) : Bool := (List.range ops.size).all (fun j => match ops[j]? with
  | none => false
  | some o => match o.guard with
    | none => !skipQ us j
    | some (i, b) => match us[i]? with
      | some (some (.bool c)) => if c == b then !skipQ us j else skipQ us j
      | some none => skipQ us j
      | _ => false)
theorem guardsQ_some {ops : Array Oper} {us : List (Option Value)} (h : guardsQ ops us = true) : ∀ (j : Nat) (o : Oper) (i : Nat) (b : Bool), ops[j]? = some o → o.guard = some (i, b) → (skipQ us j = false ∧ ∀ v w, tq us i v w → v = .bool b) ∨ (skipQ us j = true ∧ ∀ v w, tq us i v w → v ≠ .bool b) := by
  intro j o i b ho hg
  have := (List.all_eq_true.1 h) j (List.mem_range.2 (Array.getElem?_eq_some_iff.1 ho).1)
  simp only [ho, hg] at this
  unfold tq
  cases hfi : us[i]? with
  | none => rw [hfi] at this; simp at this
  | some f =>
    rw [hfi] at this
    cases f with
    | none =>
      refine .inr ⟨by simpa using this, fun v w hv => ?_⟩
      have : v = undef := hv
      rw [this]
      simp [undef]
    | some u =>
      cases u <;> first | (simp at this; done) | skip
      rename_i c
      by_cases hcb : c = b
      · subst hcb
        refine .inl ⟨by simpa using this, fun v w hv => hv⟩
      · refine .inr ⟨?_, fun v w hv => ?_⟩
        · have hne : (c == b) = false := beq_eq_false_iff_ne.2 hcb
          simpa [hne] using this
        · have hv' : v = .bool c := hv
          rw [hv']
          intro e
          exact hcb (by cases e; rfl)
theorem guardsQ_none {ops : Array Oper} {us : List (Option Value)} (h : guardsQ ops us = true) : ∀ (j : Nat) (o : Oper), ops[j]? = some o → o.guard = none → skipQ us j = false := by
  intro j o ho hg
  have := (List.all_eq_true.1 h) j (List.mem_range.2 (Array.getElem?_eq_some_iff.1 ho).1)
  simp only [ho, hg] at this
  simpa using this
theorem skipQ_undef {us : List (Option Value)} {j : Nat} (w : World) (h : skipQ us j = true) : tq us j undef w := by
  unfold skipQ at h
  unfold tq
  split at h
  · next hf => rw [hf]
  · cases h
theorem tq_is (us : List (Option Value)) (j : Nat) (v : Value) (w : World) (hv : us[j]? = some (some v)) : tq us j v w := by
  unfold tq; rw [hv]
theorem is_tq {us : List (Option Value)} {j : Nat} {v u : Value} {w : World} (h : tq us j v w) (hv : us[j]? = some (some u)) : v = u := by
  unfold tq at h; rw [hv] at h; exact h
/-- The values of a table. -/
def valsQ (us : List (Option Value)) : List Value := us.map (fun o => o.getD undef)
theorem vs_tq {us : List (Option Value)} {vs : List Value} {w : World} (h : ∀ (j : Nat) v, vs[j]? = some v → tq us j v w) (hl : vs.length = us.length) : vs = valsQ us := by
  apply List.ext_getElem (by simp [valsQ, hl])
  intro i h1 h2
  have := h i _ (List.getElem?_eq_getElem h1)
  unfold tq at this
  rw [List.getElem?_eq_getElem (by omega)] at this
  simp only [valsQ, List.getElem_map]
  cases hq : us[i]'(by omega) with
  | none => rw [hq] at this; exact this
  | some u => rw [hq] at this; exact this

/-- A region that draws its order, by its table. -/
theorem wpAny_tq {ops : Array Oper} {Q : Exit → Act → World → Prop} {a0 : Act} {w0 : World} (n : Nat) (hn : ops.size = n) (hok : prefG ops n = true) (us : List (Option Value)) (hu : us.length = n) (hg : guardsQ ops us = true)
    (hsl : ops.all (fun o => match o.dst with | none => true | some t => decide (t < a0.tmps.size)) = true)
    (hop : ∀ (j : Nat) (o : Oper), j < n → skipQ us j = false → ops[j]? = some o → ∀ a w, (∀ t : Nat, (ops.toList.take n).all (fun p => p.dst != some t) = true → a.eval (.tmp t) = a0.eval (.tmp t)) →
      (∀ (i t : Nat), o.after.any (fun e => Region.binds .any e && e.on == i) = true → ops[i]?.bind (·.dst) = some t → tq us i (a.eval (.tmp t)) w) → Kept [] w0 w →
      o.wp Tryd.prog a w (fun a' w' => ∃ v, a' = a.put o.dst v ∧ tq us j v w' ∧ Kept [] w w' ∧ ∀ i u, i < n → i ≠ j → tq us i u w → True) Q)
    (hQ : ∀ w, Kept [] w0 w → wpAny Tryd.prog .any ops Q 0 (lists n (n + 0)) (putAll a0 (ops.toList.take n) (valsQ us)) w) :
    wpAny Tryd.prog .any ops Q ops.size (Array.replicate ops.size false) a0 w0 := by
  refine wpAny_prefS n 0 (by omega) hok (tq us) (fun _ _ _ _ => True) (skipQ us) (fun j o i b _ ho hg' => guardsQ_some hg j o i b ho hg') (fun j o _ ho hg' => guardsQ_none hg j o ho hg') (fun j w h => skipQ_undef w h) (fun _ _ _ _ => trivial) (tq_kept us) hsl hop ?_
  intro vs w hlen hv _ hk
  obtain rfl := vs_tq hv (by omega)
  exact hQ w hk

end Go.Proofs.YtkpkiibahfdomaaDoor
