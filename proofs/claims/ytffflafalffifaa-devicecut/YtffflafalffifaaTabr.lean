/-
  Tables for regions in which slices of bytes are made.
-/
import Derived.Test.YtffflafalffifaaSam
namespace Go.Proofs.Ytffflafalffifaa.K
open Go.RowKit

/-- A slice that has these bytes. -/
def RowAt (w : World) (v : Value) (l : List Int) : Prop := ∃ ao c, v = .slice ao l.length c ∧ (l ≠ [] → ∃ h off, ao = some ⟨h, off, none⟩ ∧ w.rangeAt h off (u8s l))
theorem RowAt.kept {w w' : World} {v : Value} {l : List Int} (h : RowAt w v l) (hk : Kept [] w w') : RowAt w' v l := by
  obtain ⟨ao, c, e, hl⟩ := h
  refine ⟨ao, c, e, fun hne => ?_⟩
  obtain ⟨b, off, ea, hr⟩ := hl hne
  exact ⟨b, off, ea, fun j u hj => hk.cell (hr j u hj) (by simp)⟩
/-- What is known of an operation's value. -/
inductive Fr
  | is (u : Value)
  | no
  | row (l : List Int)
def Fr.at (v : Value) (w : World) : Fr → Prop
  | .is u => v = u
  | .no => v = undef
  | .row l => RowAt w v l
def tr (us : List Fr) (j : Nat) (v : Value) (w : World) : Prop := match us[j]? with
  | some f => f.at v w
  | none => True
theorem tr_kept (us : List Fr) : ∀ j v w w', tr us j v w → Kept [] w w' → tr us j v w' := by
  intro j v w w' h hk
  unfold tr at h ⊢
  cases hf : us[j]? with
  | none => trivial
  | some f =>
    rw [hf] at h
    cases f with
    | is u => exact h
    | no => exact h
    | row l => exact RowAt.kept h hk
def skipR (us : List Fr) (j : Nat) : Bool := match us[j]? with
  | some .no => true
  | _ => false
def guardsR (ops : Array Oper) (us : List Fr) : Bool := (List.range ops.size).all (fun j => match ops[j]? with
  | none => false
  | some o => match o.guard with
    | none => !skipR us j
    | some (i, b) => match us[i]? with
      | some (.is (.bool c)) => if c == b then !skipR us j else skipR us j
      | some .no => skipR us j
      | _ => false)
theorem guardsR_some {ops : Array Oper} {us : List Fr} (h : guardsR ops us = true) : ∀ (j : Nat) (o : Oper) (i : Nat) (b : Bool), ops[j]? = some o → o.guard = some (i, b) → (skipR us j = false ∧ ∀ v w, tr us i v w → v = .bool b) ∨ (skipR us j = true ∧ ∀ v w, tr us i v w → v ≠ .bool b) := by
  intro j o i b ho hg
  have := (List.all_eq_true.1 h) j (List.mem_range.2 (Array.getElem?_eq_some_iff.1 ho).1)
  simp only [ho, hg] at this
  unfold tr
  cases hfi : us[i]? with
  | none => rw [hfi] at this; simp at this
  | some f =>
    rw [hfi] at this
    cases f with
    | no =>
      refine .inr ⟨by simpa using this, fun v w hv => ?_⟩
      have : v = undef := hv
      rw [this]
      simp [undef]
    | row l => simp at this
    | is u =>
      cases u <;> first | (simp at this; done) | skip
      rename_i c
      by_cases hcb : c = b
      · subst hcb
        refine .inl ⟨by simpa using this, fun v w hv => hv⟩
      · refine .inr ⟨?_, fun v w hv => ?_⟩
        · have hne : (c == b) = false := beq_eq_false_iff_ne.2 hcb
          simpa [hne] using this
        · have hv' : v = .bool c := hv
          rw [hv']
          intro e
          exact hcb (by cases e; rfl)
theorem guardsR_none {ops : Array Oper} {us : List Fr} (h : guardsR ops us = true) : ∀ (j : Nat) (o : Oper), ops[j]? = some o → o.guard = none → skipR us j = false := by
  intro j o ho hg
  have := (List.all_eq_true.1 h) j (List.mem_range.2 (Array.getElem?_eq_some_iff.1 ho).1)
  simp only [ho, hg] at this
  simpa using this
theorem skipR_undef {us : List Fr} {j : Nat} (w : World) (h : skipR us j = true) : tr us j undef w := by
  unfold skipR at h
  unfold tr
  split at h
  · next hf => rw [hf]; rfl
  · cases h
theorem tr_is (us : List Fr) (j : Nat) (v : Value) (w : World) (hv : us[j]? = some (.is v)) : tr us j v w := by
  unfold tr; rw [hv]; rfl
theorem is_tr {us : List Fr} {j : Nat} {v u : Value} {w : World} (h : tr us j v w) (hv : us[j]? = some (.is u)) : v = u := by
  unfold tr at h; rw [hv] at h; exact h
theorem tr_row (us : List Fr) (j : Nat) (v : Value) (w : World) (l : List Int) (hv : us[j]? = some (.row l)) (h : RowAt w v l) : tr us j v w := by
  unfold tr; rw [hv]; exact h
theorem row_tr {us : List Fr} {j : Nat} {v : Value} {w : World} {l : List Int} (h : tr us j v w) (hv : us[j]? = some (.row l)) : RowAt w v l := by
  unfold tr at h; rw [hv] at h; exact h
/-- The values of a table; x: those that are not told. -/
def valsR (x : Nat → Value) : Nat → List Fr → List Value
  | _, [] => []
  | i, .is u :: fs => u :: valsR x (i + 1) fs
  | i, .no :: fs => undef :: valsR x (i + 1) fs
  | i, .row _ :: fs => x i :: valsR x (i + 1) fs
theorem vs_tr (us : List Fr) (w : World) : ∀ (vs : List Value) (k : Nat) (fs : List Fr), (∀ (j : Nat) f, fs[j]? = some f → us[k + j]? = some f) → (∀ (j : Nat) v, vs[j]? = some v → tr us (k + j) v w) → vs.length = fs.length → ∃ x : Nat → Value, ∀ y : Nat → Value, (∀ i, k ≤ i → y i = x i) → vs = valsR y k fs := by
  intro vs
  induction vs with
  | nil =>
    intro k fs _ _ hl
    obtain rfl : fs = [] := List.length_eq_zero_iff.1 hl.symm
    exact ⟨fun _ => undef, fun _ _ => rfl⟩
  | cons v vs ih =>
    intro k fs hf hv hl
    cases fs with
    | nil => simp at hl
    | cons f fs =>
      obtain ⟨x, hx⟩ := ih (k + 1) fs (fun j g hg => by have := hf (j + 1) g (by simpa using hg); rwa [show k + (j + 1) = k + 1 + j by omega] at this) (fun j u hu => by have := hv (j + 1) u (by simpa using hu); rwa [show k + (j + 1) = k + 1 + j by omega] at this) (by simpa using hl)
      have h0 := hv 0 v rfl
      have f0 := hf 0 f rfl
      rw [Nat.add_zero] at h0 f0
      unfold tr at h0
      rw [f0] at h0
      refine ⟨fun i => if i = k then v else x i, fun y hy0 => ?_⟩
      have hy : ∀ i, k ≤ i → y i = if i = k then v else x i := hy0
      have hy' := hx y (fun i hi => by have := hy i (by omega); rwa [if_neg (by omega)] at this)
      cases f with
      | is u =>
        have h0 : v = u := h0
        subst h0
        rw [hy']; rfl
      | no =>
        have h0 : v = undef := h0
        subst h0
        rw [hy']; rfl
      | row l =>
        have := hy k (Nat.le_refl _)
        rw [if_pos rfl] at this
        subst this
        show y k :: vs = y k :: valsR y (k + 1) fs
        rw [← hy']
/-- A region that draws its order, by its table. -/
theorem wpAny_tr {ops : Array Oper} {Q : Exit → Act → World → Prop} {a0 : Act} {w0 : World} (n : Nat) (hn : ops.size = n) (hok : prefG ops n = true) (us : List Fr) (hu : us.length = n) (hg : guardsR ops us = true)
    (hsl : ops.all (fun o => match o.dst with | none => true | some t => decide (t < a0.tmps.size)) = true)
    (hop : ∀ (j : Nat) (o : Oper), j < n → skipR us j = false → ops[j]? = some o → ∀ a w, (∀ t : Nat, (ops.toList.take n).all (fun p => p.dst != some t) = true → a.eval (.tmp t) = a0.eval (.tmp t)) →
      (∀ (i t : Nat), o.after.any (fun e => Region.binds .any e && e.on == i) = true → ops[i]?.bind (·.dst) = some t → tr us i (a.eval (.tmp t)) w) → Kept [] w0 w →
      o.wp Try.prog a w (fun a' w' => ∃ v, a' = a.put o.dst v ∧ tr us j v w' ∧ Kept [] w w' ∧ ∀ i u, i < n → i ≠ j → tr us i u w → True) Q)
    (hQ : ∀ x w, Kept [] w0 w → wpAny Try.prog .any ops Q 0 (lists n (n + 0)) (putAll a0 (ops.toList.take n) (valsR x 0 us)) w) :
    wpAny Try.prog .any ops Q ops.size (Array.replicate ops.size false) a0 w0 := by
  refine wpAny_prefS n 0 (by omega) hok (tr us) (fun _ _ _ _ => True) (skipR us) (fun j o i b _ ho hg' => guardsR_some hg j o i b ho hg') (fun j o _ ho hg' => guardsR_none hg j o ho hg') (fun j w h => skipR_undef w h) (fun _ _ _ _ => trivial) (tr_kept us) hsl hop ?_
  intro vs w hlen hv _ hk
  obtain ⟨x, hx⟩ := vs_tr us w vs 0 us (fun j f h => by simpa using h) (fun j v h => by have := hv j v h; simpa using this) (by omega)
  rw [hx x (fun _ _ => rfl)]
  exact hQ x w hk
/-- A region in the text's order, by its table. -/
theorem wp_text_tq {id : Nat} {ops : Array Oper} {Q : Exit → Act → World → Prop} {a0 : Act} {w0 : World} (n : Nat) (hn : ops.size = n) (hok : prefG ops n = true) (us : List (Option Value)) (hu : us.length = n) (hg : guardsQ ops us = true)
    (hsl : ops.all (fun o => match o.dst with | none => true | some t => decide (t < a0.tmps.size)) = true)
    (hop : ∀ (j : Nat) (o : Oper), j < n → skipQ us j = false → ops[j]? = some o → ∀ a w, (∀ t : Nat, (ops.toList.take n).all (fun p => p.dst != some t) = true → a.eval (.tmp t) = a0.eval (.tmp t)) →
      (∀ (i t : Nat), o.after.any (fun e => Region.binds .any e && e.on == i) = true → ops[i]?.bind (·.dst) = some t → tq us i (a.eval (.tmp t)) w) → Kept [] w0 w →
      o.wp Try.prog a w (fun a' w' => ∃ v, a' = a.put o.dst v ∧ tq us j v w' ∧ Kept [] w w' ∧ ∀ i u, i < n → i ≠ j → tq us i u w → True) Q)
    (hQ : ∀ w, Kept [] w0 w → Q .normal (putAll a0 (ops.toList.take n) (valsQ us)) w) : (Code.region id ops false).wp Try.prog Q a0 w0 := by
  refine wp_region_text n hn hok (tq us) (fun _ _ _ _ => True) (skipQ us) (fun j o i b _ ho hg' => guardsQ_some hg j o i b ho hg') (fun j o _ ho hg' => guardsQ_none hg j o ho hg') (fun j w h => skipQ_undef w h) (fun _ _ _ _ => trivial) (tq_kept us) hsl hop ?_
  intro vs w hlen hv hk
  obtain rfl := vs_tq hv (by omega)
  exact hQ w hk
/-- Bytes that were made, as a slice that has them. -/
theorem owns_rowAt {w : World} {base : Nat} {v : Value} {l : List Int} (h : w.ownsRow base 5 1 v l.length (u8s l)) : RowAt w v l := by
  rcases h.2 with ⟨h1, h2⟩ | ⟨g, cap, cur, h1, h2, h3, h4, h5, h6, h7⟩
  · exact ⟨none, 0, by rw [h1, h2], fun hne => absurd (List.length_eq_zero_iff.1 h2) hne⟩
  · refine ⟨_, cap, h1, fun _ => ⟨g, 0, rfl, fun k u hk => ?_⟩⟩
    rw [Nat.zero_add, cell_of_block h3, ← Array.getElem?_toList]
    rw [← h7, List.getElem?_take] at hk
    split at hk
    · exact hk
    · cases hk
theorem conv42 {w : World} {v : Value} {l : List Int} (h : RowAt w v l) : (convert 42 9 v).run Try.prog w = .ok (.string (strOfNums l)) w := by
  obtain ⟨ao, c, rfl, hl⟩ := h
  by_cases h0 : l = []
  · subst h0
    cases ao with
    | none => exact run_convert_bytes_nil (P := Try.prog) w 42 5 Try.underlying42 Try.underlying5 0 c 9 Try.underlying9
    | some a =>
      have hl := run_loadCells_list (P := Try.prog) w a [] (fun j v hj => by simp at hj)
      have := run_bytesToString (P := Try.prog) w a 0 c [] (by simpa using hl)
      rw [show ([] : List Int).length = 0 from rfl, run_convert_bytes_string w 42 9 5 _ 0 c Try.underlying42 Try.underlying5 Try.underlying9, this]
      rfl
  · obtain ⟨b, off, rfl, hr⟩ := hl h0
    refine run_convert_bytes_arg (P := Try.prog) w 42 5 Try.underlying42 Try.underlying5 b off l.length c l rfl ?_ 9 Try.underlying9
    intro i hi
    exact hr i (.int .u8 (l.getD i 0)) (by simp [u8s, List.getD, hi])
section
variable {o : Oper} {a : Act} {w : World} {K : Act → World → Prop} {Q : Exit → Act → World → Prop}
theorem o_conv42 (x : Operand) (ho : o.op = .convert 42 9 x) (l : List Int) (hx : RowAt w (a.eval x) l) (h : K (a.put o.dst (.string (strOfNums l))) w) : o.wp Try.prog a w K Q := by
  unfold Oper.wp execOp
  simp only [ho, Sem.run_bind, conv42 hx, Result.andThen_ok]
  exact h
theorem o_neq9s (x y : Operand) (ho : o.op = .binOp .neq 9 x y 9) (s : ByteArray) (hx : a.eval x = .string s) (hy : a.eval y = .string s) (h : K (a.put o.dst (.bool false)) w) : o.wp Try.prog a w K Q := by
  unfold Oper.wp execOp
  simp only [ho, hx, hy]
  simp [go_sem]
  exact h
end

end Go.Proofs.Ytffflafalffifaa.K
