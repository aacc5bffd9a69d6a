/-
  A region that keeps the text's order, by the same table as one that draws its order.
-/
import Derived.Test.YtkpkiibahfdomaaDoorPrefs
namespace Go.Proofs.YtkpkiibahfdomaaDoor
open Go.RowKit

theorem lists_set {k n : Nat} (h : k < n) : (lists k n).setIfInBounds k true = lists (k + 1) n := by
  apply Array.ext_getElem?
  intro j
  unfold lists
  simp only [List.setIfInBounds_toArray, List.getElem?_toArray]
  by_cases hjk : j = k
  · subst hjk
    rw [List.getElem?_set_self (by simp; omega), List.getElem?_append_left (by simp), List.getElem?_replicate_of_lt (by omega)]
  · rw [List.getElem?_set_ne (fun e => hjk e.symm)]
    by_cases h1 : j < k
    · rw [List.getElem?_append_left (by simpa using h1), List.getElem?_append_left (by simp; omega), List.getElem?_replicate_of_lt h1, List.getElem?_replicate_of_lt (by omega)]
    · rw [List.getElem?_append_right (by simp; omega), List.getElem?_append_right (by simp; omega)]
      simp only [List.length_replicate]
      by_cases h2 : j < n
      · rw [List.getElem?_replicate_of_lt (by omega), List.getElem?_replicate_of_lt (by omega)]
      · rw [List.getElem?_eq_none (by simp; omega), List.getElem?_eq_none (by simp; omega)]

theorem ops_of_any {P : Program} {ops : Array Oper} {Q : Exit → Act → World → Prop} {n : Nat} (hn : ops.size = n) (K : PrefG ops n) : ∀ (m k : Nat) (a : Act) (w : World), k + m = n → wpAny P .any ops Q m (lists k n) a w → wpOps P ops Q (List.range' k m) a w := by
  intro m
  induction m with
  | zero => intro k a w _ h; exact h.2
  | succ m ih =>
    intro k a w hk h
    have hks : k < ops.size := by omega
    have hmem : k ∈ Region.ready .any ops (lists k n) := by
      rw [mem_ready]
      refine ⟨by simp [lists, Array.getD]; omega, ops[k], Array.getElem?_eq_getElem hks, fun e he _ => ?_⟩
      have := K.back k _ (by omega) (Array.getElem?_eq_getElem hks) e he
      simp [lists, Array.getD, this]; omega
    have h1 := h.2 k hmem
    rw [lists_set (by omega)] at h1
    have e : List.range' k (m + 1) = k :: List.range' (k + 1) m := rfl
    rw [e, wpOps_cons]
    unfold wpOp at h1 ⊢
    rw [Array.getElem?_eq_getElem hks] at h1 ⊢
    simp only at h1 ⊢
    split
    · next hw =>
      rw [if_pos hw] at h1
      rcases h1 with h1 | h1
      · exact .inl (Oper.wp_mono (fun a w h => ih (k + 1) a w (by omega) h) h1)
      · exact .inr h1
    · next hw =>
      rw [if_neg hw] at h1
      exact ih (k + 1) _ w (by omega) h1

/-- A region that keeps the text's order. -/
theorem wp_region_text {id : Nat} {P : Program} {ops : Array Oper} {Q : Exit → Act → World → Prop} {a0 : Act} {w0 : World} (n : Nat) (hnr : ops.size = n) (hok : prefG ops n = true) (F : Nat → Value → World → Prop) (E : Nat → Nat → Value → Value → Prop)
    (skip : Nat → Bool) (hgd : ∀ (j : Nat) (o : Oper) (i : Nat) (b : Bool), j < n → ops[j]? = some o → o.guard = some (i, b) → (skip j = false ∧ ∀ v w, F i v w → v = .bool b) ∨ (skip j = true ∧ ∀ v w, F i v w → v ≠ .bool b))
    (hng : ∀ (j : Nat) (o : Oper), j < n → ops[j]? = some o → o.guard = none → skip j = false) (hun : ∀ j w, skip j = true → F j undef w) (hunE : ∀ i j u, skip j = true → E i j u undef)
    (hF : ∀ j v w w', F j v w → Kept [] w w' → F j v w') (hsl : ops.all (fun o => match o.dst with | none => true | some t => decide (t < a0.tmps.size)) = true)
    (hop : ∀ (j : Nat) (o : Oper), j < n → skip j = false → ops[j]? = some o → ∀ a w, (∀ t : Nat, (ops.toList.take n).all (fun p => p.dst != some t) = true → a.eval (.tmp t) = a0.eval (.tmp t)) →
      (∀ (i t : Nat), o.after.any (fun e => Region.binds .any e && e.on == i) = true → ops[i]?.bind (·.dst) = some t → F i (a.eval (.tmp t)) w) → Kept [] w0 w →
      o.wp P a w (fun a' w' => ∃ v, a' = a.put o.dst v ∧ F j v w' ∧ Kept [] w w' ∧ ∀ i u, i < n → i ≠ j → F i u w → E i j u v) Q)
    (hQ : ∀ (vs : List Value) w, vs.length = n → (∀ (j : Nat) v, vs[j]? = some v → F j v w) → Kept [] w0 w → Q .normal (putAll a0 (ops.toList.take n) vs) w) :
    (Code.region id ops false).wp P Q a0 w0 := by
  refine wp_region ?_
  rw [List.range_eq_range', hnr]
  have K := prefG_spec hok
  refine ops_of_any hnr K n 0 a0 w0 (by omega) ?_
  have := wpAny_prefS (P := P) (Q := Q) (a0 := a0) (w0 := w0) n 0 (by omega) hok F E skip hgd hng hun hunE hF hsl hop (fun vs w h1 h2 _ h4 => by
    refine ⟨?_, hQ vs w h1 h2 h4⟩
    apply List.eq_nil_iff_forall_not_mem.2
    intro j hj
    rw [mem_ready] at hj
    have h1 := hj.1
    obtain ⟨o, ho, _⟩ := hj.2
    have hjn : j < n := by rw [← hnr]; exact (Array.getElem?_eq_some_iff.1 ho).1
    simp [lists, Array.getD, hjn] at h1)
  have e : lists 0 n = Array.replicate n false := by simp [lists]
  rw [e]
  rw [hnr] at this
  exact this

end Go.Proofs.YtkpkiibahfdomaaDoor
