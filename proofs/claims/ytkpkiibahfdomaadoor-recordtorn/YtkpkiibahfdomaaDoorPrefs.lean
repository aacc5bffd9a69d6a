/-
  The same as Prefg's theorem, where guarded operations may also be left out.
-/
import Derived.Test.YtkpkiibahfdomaaDoorOps
namespace Go.Proofs.YtkpkiibahfdomaaDoor
open Go.RowKit

def boolOf : Value → Option Bool
  | .bool c => some c
  | _ => none
theorem wanted_no {o : Oper} {ops : Array Oper} {tmps : Array Value} {k : Nat} {b : Bool} {v : Value} (hg : o.guard = some (k, b)) (hy : yielded ops tmps k = boolOf v) (h : v ≠ .bool b) : Region.wanted o (yielded ops tmps) = false := by
  have h2 : boolOf v ≠ some b := by
    intro e
    unfold boolOf at e
    split at e
    · exact h (by rw [Option.some.inj e])
    · cases e
  simp [Region.wanted, hg, hy]
  exact h2
theorem yielded_of {ops : Array Oper} {tmps : Array Value} {k t : Nat} {v : Value} (hk : k < ops.size) (ht : ops[k].dst = some t) (hv : tmps[t]? = some v) : yielded ops tmps k = boolOf v := by
  unfold yielded boolOf
  simp only [Array.getElem?_eq_getElem hk, Option.bind_some, ht, hv]
  cases v <;> rfl

section
variable {P : Program} {ops : Array Oper} {Q : Exit → Act → World → Prop}

/-- The theorem: F says what is known of each operation's value, E what of two values, the second of which came later. -/
theorem wpAny_prefS {a0 : Act} {w0 : World} (n r : Nat) (hnr : ops.size = n + r) (hok : prefG ops n = true) (F : Nat → Value → World → Prop) (E : Nat → Nat → Value → Value → Prop)
    (skip : Nat → Bool) (hgd : ∀ (j : Nat) (o : Oper) (i : Nat) (b : Bool), j < n → ops[j]? = some o → o.guard = some (i, b) → (skip j = false ∧ ∀ v w, F i v w → v = .bool b) ∨ (skip j = true ∧ ∀ v w, F i v w → v ≠ .bool b))
    (hng : ∀ (j : Nat) (o : Oper), j < n → ops[j]? = some o → o.guard = none → skip j = false) (hun : ∀ j w, skip j = true → F j undef w) (hunE : ∀ i j u, skip j = true → E i j u undef)
    (hF : ∀ j v w w', F j v w → Kept [] w w' → F j v w') (hsl : ops.all (fun o => match o.dst with | none => true | some t => decide (t < a0.tmps.size)) = true)
    (hop : ∀ (j : Nat) (o : Oper), j < n → skip j = false → ops[j]? = some o → ∀ a w, (∀ t : Nat, (ops.toList.take n).all (fun p => p.dst != some t) = true → a.eval (.tmp t) = a0.eval (.tmp t)) →
      (∀ (i t : Nat), o.after.any (fun e => Region.binds .any e && e.on == i) = true → ops[i]?.bind (·.dst) = some t → F i (a.eval (.tmp t)) w) → Kept [] w0 w →
      o.wp P a w (fun a' w' => ∃ v, a' = a.put o.dst v ∧ F j v w' ∧ Kept [] w w' ∧ ∀ i u, i < n → i ≠ j → F i u w → E i j u v) Q)
    (hQ : ∀ (vs : List Value) w, vs.length = n → (∀ (j : Nat) v, vs[j]? = some v → F j v w) → (∀ (i j : Nat) u v, i ≠ j → vs[i]? = some u → vs[j]? = some v → E i j u v ∨ E j i v u) → Kept [] w0 w → wpAny P .any ops Q r (lists n (n + r)) (putAll a0 (ops.toList.take n) vs) w) :
    wpAny P .any ops Q ops.size (Array.replicate ops.size false) a0 w0 := by
  have K := prefG_spec hok
  have hsl' : ∀ o ∈ ops, ∀ t, o.dst = some t → t < a0.tmps.size := by
    intro o ho t ht
    have := (Array.all_eq_true_iff_forall_mem.1 hsl) o ho
    rw [ht] at this
    simpa using this
  have hmemT : ∀ o, o ∈ ops.toList.take n ↔ ∃ j, j < n ∧ ops[j]? = some o := by
    intro o
    rw [List.mem_iff_getElem?]
    constructor
    · rintro ⟨j, hj⟩
      have hjn : j < n := by
        have := (List.getElem?_eq_some_iff.1 hj).1
        rw [List.length_take] at this
        omega
      rw [List.getElem?_take_of_lt hjn] at hj
      exact ⟨j, hjn, by simpa using hj⟩
    · rintro ⟨j, hjn, hj⟩
      exact ⟨j, by rw [List.getElem?_take_of_lt hjn]; simpa using hj⟩
  let I : Array Bool → Act → World → Prop := fun listed a w =>
    listed.size = ops.size ∧ a.defers = a0.defers ∧ a.tmps.size = a0.tmps.size ∧ (∀ t, (∀ p ∈ ops.toList.take n, p.dst ≠ some t) → a.tmps[t]? = a0.tmps[t]?) ∧
    (∀ (j : Nat) (o : Oper) (t : Nat), j < n → ops[j]? = some o → o.dst = some t → listed.getD j false = true → ∃ v, a.tmps[t]? = some v ∧ F j v w) ∧
    (∀ j, n ≤ j → listed.getD j false = false) ∧ (∀ (j : Nat) (o : Oper), j < n → ops[j]? = some o → listed.getD j false = true → ∀ e ∈ o.after, Region.binds .any e = true → listed.getD e.on false = true) ∧ (∀ (i j : Nat) (p o : Oper) (s t : Nat) (u v : Value), i < n → j < n → i ≠ j → ops[i]? = some p → ops[j]? = some o → p.dst = some s → o.dst = some t → listed.getD i false = true → listed.getD j false = true → a.tmps[s]? = some u → a.tmps[t]? = some v → E i j u v ∨ E j i v u) ∧ Kept [] w0 w
  have main : ∀ fuel listed a w, I listed a w → (listed.toList.filter (fun b => !b)).length = fuel → wpAny P .any ops Q fuel listed a w := by
    have hend : ∀ fuel listed a w, I listed a w → (listed.toList.filter (fun b => !b)).length = fuel → (∀ j, j < n → listed.getD j false = true) → wpAny P .any ops Q fuel listed a w := by
      intro fuel listed a w hI hfu hl
      obtain ⟨i1, i2, i3, i4, i5, i6, i7, i9, i8⟩ := hI
      have hlist : listed = lists n ops.size := by
        apply Array.ext_getElem?
        intro j
        by_cases hj : j < ops.size
        · have e : listed[j]? = some (listed.getD j false) := by simp [Array.getD, i1, hj]
          rw [e]
          unfold lists
          rw [List.getElem?_toArray]
          by_cases hjn : j < n
          · rw [hl j hjn, List.getElem?_append_left (by simpa using hjn), List.getElem?_replicate_of_lt hjn]
          · rw [i6 j (by omega), List.getElem?_append_right (by simp; omega), List.getElem?_replicate_of_lt (by simp; omega)]
        · rw [Array.getElem?_eq_none (by omega), Array.getElem?_eq_none (by have := K.le; simp [lists]; omega)]
      have hfuel : fuel = ops.size - n := by
        rw [← hfu, hlist]
        simp [lists, List.filter_append]
      have hval : ∀ (j : Nat), ∃ v, ∀ (o : Oper) (t : Nat), j < n → ops[j]? = some o → o.dst = some t → a.tmps[t]? = some v ∧ F j v w := by
        intro j
        by_cases hj : j < n
        · have hjs : j < ops.size := Nat.lt_of_lt_of_le hj K.le
          obtain ⟨t, ht⟩ := K.dst j ops[j] hj (Array.getElem?_eq_getElem hjs)
          obtain ⟨v, hv, hf⟩ := i5 j _ t hj (Array.getElem?_eq_getElem hjs) ht (hl j hj)
          refine ⟨v, fun o t' _ ho ht' => ?_⟩
          rw [Array.getElem?_eq_getElem hjs] at ho
          cases ho
          rw [ht] at ht'
          cases ht'
          exact ⟨hv, hf⟩
        · exact ⟨undef, fun o t hj' _ _ => absurd hj' hj⟩
      obtain ⟨f, hf⟩ := Classical.axiomOfChoice hval
      have hvs : ∀ (j : Nat) v, ((List.range n).map f)[j]? = some v → j < n ∧ v = f j := by
        intro j v hv
        rw [List.getElem?_map] at hv
        by_cases hj : j < n
        · rw [List.getElem?_range hj] at hv
          exact ⟨hj, by simpa using hv.symm⟩
        · rw [List.getElem?_eq_none (by simpa using hj)] at hv
          simp at hv
      have hQ' := hQ ((List.range n).map f) w (by simp) (fun j v hv => by
        obtain ⟨hj, rfl⟩ := hvs j v hv
        have hjs : j < ops.size := Nat.lt_of_lt_of_le hj K.le
        obtain ⟨t, ht⟩ := K.dst j ops[j] hj (Array.getElem?_eq_getElem hjs)
        exact (hf j _ t hj (Array.getElem?_eq_getElem hjs) ht).2) (fun i j u v hne hu hv => by
        obtain ⟨hi, rfl⟩ := hvs i u hu
        obtain ⟨hj, rfl⟩ := hvs j v hv
        have his : i < ops.size := Nat.lt_of_lt_of_le hi K.le
        have hjs : j < ops.size := Nat.lt_of_lt_of_le hj K.le
        obtain ⟨s, hs⟩ := K.dst i ops[i] hi (Array.getElem?_eq_getElem his)
        obtain ⟨t, ht⟩ := K.dst j ops[j] hj (Array.getElem?_eq_getElem hjs)
        exact i9 i j _ _ s t _ _ hi hj hne (Array.getElem?_eq_getElem his) (Array.getElem?_eq_getElem hjs) hs ht (hl i hi) (hl j hj) (hf i _ s hi (Array.getElem?_eq_getElem his) hs).1 (hf j _ t hj (Array.getElem?_eq_getElem hjs) ht).1) i8
      have hsame : putAll a0 (ops.toList.take n) ((List.range n).map f) = a := by
        have hsz := putAll_size (ops.toList.take n) ((List.range n).map f) a0
        have htm : (putAll a0 (ops.toList.take n) ((List.range n).map f)).tmps = a.tmps := by
          apply Array.ext_getElem?
          intro t
          by_cases hex : ∃ (j : Nat) (o : Oper), j < n ∧ ops[j]? = some o ∧ o.dst = some t
          · obtain ⟨j, o, hj, ho, ht⟩ := hex
            rw [(hf j o t hj ho ht).1]
            refine putAll_same (ops.toList.take n) _ a0 j o (f j) t (by rw [List.getElem?_take_of_lt hj]; simpa using ho) (by rw [List.getElem?_map, List.getElem?_range hj]; rfl) ht (hsl' o (Array.mem_of_getElem? ho) t ht) ?_
            intro i k p q hp hq hne
            have hin : i < n := by
              have := (List.getElem?_eq_some_iff.1 hp).1
              rw [List.length_take] at this; omega
            have hkn : k < n := by
              have := (List.getElem?_eq_some_iff.1 hq).1
              rw [List.length_take] at this; omega
            rw [List.getElem?_take_of_lt hin] at hp
            rw [List.getElem?_take_of_lt hkn] at hq
            exact K.apart i k p q hin hkn (by simpa using hp) (by simpa using hq) hne
          · have hno : ∀ p ∈ ops.toList.take n, p.dst ≠ some t := by
              intro p hp e
              obtain ⟨j, hj, hpj⟩ := (hmemT p).1 hp
              exact hex ⟨j, p, hj, hpj, e⟩
            rw [putAll_other _ _ _ _ hno, i4 t hno]
        have hdf := hsz.2.trans i2.symm
        generalize putAll a0 (ops.toList.take n) ((List.range n).map f) = A at *
        obtain ⟨x1, x2⟩ := A
        obtain ⟨y1, y2⟩ := a
        simp only at htm hdf
        subst htm hdf
        rfl
      rw [hnr, Nat.add_sub_cancel_left] at hfuel
      rw [hnr] at hlist
      rw [hsame, ← hlist, ← hfuel] at hQ'
      exact hQ'
    intro fuel
    induction fuel with
    | zero =>
      intro listed a w hI hfu
      refine hend 0 listed a w hI hfu (fun j hj => ?_)
      obtain ⟨i1, _⟩ := hI
      have hjs : j < listed.size := by rw [i1]; exact Nat.lt_of_lt_of_le hj K.le
      cases hl : listed.getD j false with
      | true => rfl
      | false =>
        exfalso
        have hmem : false ∈ listed.toList.filter (fun b => !b) := by
          rw [List.mem_filter]
          refine ⟨?_, rfl⟩
          simp only [Array.getD, hjs, dif_pos] at hl
          rw [← hl]
          exact Array.getElem_mem_toList hjs
        rw [List.length_eq_zero_iff] at hfu
        rw [hfu] at hmem
        simp at hmem
    | succ fuel ih =>
      intro listed a w hI hfu
      by_cases hfull : ∀ j, j < n → listed.getD j false = true
      · exact hend _ listed a w hI hfu hfull
      obtain ⟨i1, i2, i3, i4, i5, i6, i7, i9, i8⟩ := hI
      have hsome : ∃ j, j < n ∧ listed.getD j false = false ∧ ∀ i, i < j → listed.getD i false = true := by
        have : ∃ j, j < n ∧ listed.getD j false = false := by
          apply Classical.byContradiction
          intro hno
          exact hfull (fun j hj => by
            cases hl : listed.getD j false with
            | true => rfl
            | false => exact absurd ⟨j, hj, hl⟩ hno)
        obtain ⟨j, hj, hl⟩ := this
        induction j using Nat.strongRecOn with
        | _ j ihj =>
          by_cases h : ∀ i, i < j → listed.getD i false = true
          · exact ⟨j, hj, hl, h⟩
          · apply Classical.byContradiction
            intro hno
            exact h (fun i hi => by
              cases hli : listed.getD i false with
              | true => rfl
              | false => exact absurd (ihj i hi (by omega) hli) hno)
      obtain ⟨j0, hj0, hlj0, hbefore⟩ := hsome
      have hne : Region.ready .any ops listed ≠ [] := by
        intro hr
        have hjs : j0 < ops.size := Nat.lt_of_lt_of_le hj0 K.le
        have hmem : j0 ∈ Region.ready .any ops listed := by
          rw [mem_ready]
          refine ⟨?_, ops[j0], Array.getElem?_eq_getElem hjs, fun e he _ => hbefore e.on (K.back j0 _ hj0 (Array.getElem?_eq_getElem hjs) e he)⟩
          simp only [Array.getD] at hlj0 ⊢
          rw [dif_pos (by omega)] at hlj0 ⊢
          exact hlj0
        rw [hr] at hmem
        simp at hmem
      refine ⟨fun h0 => absurd h0 hne, fun i hi => ?_⟩
      rw [mem_ready] at hi
      obtain ⟨r1, o, ho, r2⟩ := hi
      have hio : i < ops.size := (Array.getElem?_eq_some_iff.1 ho).1
      have hil : i < listed.size := by omega
      have hself : ∀ d, (listed.setIfInBounds i true).getD i d = true := by intro d; simp [Array.getD, hil]
      have hin : i < n := by
        apply Classical.byContradiction
        intro h
        have := reaches_listed i6 i7 6 o (K.wait i j0 o (by omega) hj0 ho) r2
        rw [hlj0] at this
        cases this
      unfold wpOp
      rw [ho]
      have hnext : ∀ v w', F i v w' → Kept [] w w' → (∀ k u, k < n → k ≠ i → F k u w → E k i u v) → wpAny P .any ops Q fuel (listed.setIfInBounds i true) (a.put o.dst v) w' := by
        intro v w' hFv hk hE
        refine ih _ _ _ ⟨by simpa using i1, by rw [put_defers]; exact i2, by rw [put_size]; exact i3, ?_, ?_, ?_, ?_, ?_, i8.trans hk⟩ ?_
        · intro t ht
          rw [put_other _ _ _ _ (ht o ((hmemT o).2 ⟨i, hin, ho⟩))]
          exact i4 t ht
        · intro j p t hjn hp ht hlj
          by_cases hji : j = i
          · subst hji
            rw [ho] at hp
            cases hp
            rw [ht]
            exact ⟨v, put_same _ _ _ (by rw [i3]; exact hsl' o (Array.mem_of_getElem? ho) t ht), hFv⟩
          · rw [getD_set_ne _ (fun e => hji e.symm)] at hlj
            obtain ⟨u, hu, hfu'⟩ := i5 j p t hjn hp ht hlj
            refine ⟨u, ?_, hF _ _ _ _ hfu' hk⟩
            rw [put_other _ _ _ _ ?_]
            · exact hu
            · have := K.apart i j o p hin hjn ho hp (fun e => hji e.symm)
              rw [ht] at this
              exact this
        · intro j hj
          rw [getD_set_ne _ (by omega)]
          exact i6 j hj
        · intro j p hjn hp hlj e he hb
          by_cases hji : j = i
          · subst hji
            rw [ho] at hp
            cases hp
            exact getD_set_true (r2 e he hb)
          · rw [getD_set_ne _ (fun e => hji e.symm)] at hlj
            exact getD_set_true (i7 j p hjn hp hlj e he hb)
        · have old : ∀ (j : Nat) (p : Oper) (t : Nat) (u : Value), j < n → j ≠ i → ops[j]? = some p → p.dst = some t → (listed.setIfInBounds i true).getD j false = true → (a.put o.dst v).tmps[t]? = some u → listed.getD j false = true ∧ a.tmps[t]? = some u := by
            intro j p t u hjn hji hp ht hlj hu
            rw [getD_set_ne _ (fun e => hji e.symm)] at hlj
            rw [put_other _ _ _ _ (by have := K.apart i j o p hin hjn ho hp (fun e => hji e.symm); rw [ht] at this; exact this)] at hu
            exact ⟨hlj, hu⟩
          have new : ∀ (q : Oper) (t : Nat) (u : Value), ops[i]? = some q → q.dst = some t → (a.put o.dst v).tmps[t]? = some u → u = v := by
            intro q t u hq ht hu
            rw [ho] at hq
            cases hq
            rw [ht, put_same _ _ _ (by rw [i3]; exact hsl' o (Array.mem_of_getElem? ho) t ht)] at hu
            exact (Option.some.inj hu).symm
          intro j k p q s t u x hjn hkn hne hp hq hs ht hlj hlk hu hx
          by_cases hji : j = i
          · subst hji
            obtain ⟨hlk', hx'⟩ := old k q t x hkn (fun e => hne e.symm) hq ht hlk hx
            obtain rfl := new p s u hp hs hu
            obtain ⟨x', hx2, hfx⟩ := i5 k q t hkn hq ht hlk'
            rw [hx'] at hx2
            cases hx2
            exact .inr (hE k x hkn (fun e => hne e.symm) hfx)
          · obtain ⟨hlj', hu'⟩ := old j p s u hjn hji hp hs hlj hu
            by_cases hki : k = i
            · subst hki
              obtain rfl := new q t x hq ht hx
              obtain ⟨u', hu2, hfu2⟩ := i5 j p s hjn hp hs hlj'
              rw [hu'] at hu2
              cases hu2
              exact .inl (hE j u hjn hji hfu2)
            · obtain ⟨hlk', hx'⟩ := old k q t x hkn hki hq ht hlk hx
              exact i9 j k p q s t u x hjn hkn hne hp hq hs ht hlj' hlk' hu' hx'
        · have := unlisted_set' r1 hil
          omega
      have hyi : ∀ k b, o.guard = some (k, b) → ∃ v, F k v w ∧ yielded ops a.tmps k = boolOf v := by
        intro k b hg
        obtain ⟨e, he, hb, rfl⟩ := K.guard i o k b hin ho hg
        have hen : e.on < n := by have := K.back i o hin ho e he; omega
        have hes : e.on < ops.size := Nat.lt_of_lt_of_le hen K.le
        obtain ⟨t, ht⟩ := K.dst e.on ops[e.on] hen (Array.getElem?_eq_getElem hes)
        obtain ⟨v, hv, hf⟩ := i5 e.on _ t hen (Array.getElem?_eq_getElem hes) ht (r2 e he hb)
        exact ⟨v, hf, yielded_of hes ht hv⟩
      cases hsk : skip i with
      | true =>
        have hwt : Region.wanted o (yielded ops a.tmps) = false := by
          cases hg : o.guard with
          | none => have := hng i o hin ho hg; rw [hsk] at this; cases this
          | some g =>
            obtain ⟨k, b⟩ := g
            obtain ⟨v, hf, hy⟩ := hyi k b hg
            rcases hgd i o k b hin ho hg with ⟨h1, _⟩ | ⟨_, h2⟩
            · rw [hsk] at h1; cases h1
            · exact wanted_no hg hy (h2 v w hf)
        simp only [hwt, Bool.false_eq_true, if_false]
        exact hnext undef w (hun i w hsk) (Kept.refl _ _) (fun k u _ _ _ => hunE k i u hsk)
      | false =>
      have hwt : Region.wanted o (yielded ops a.tmps) = true := by
        cases hg : o.guard with
        | none => simp [Region.wanted, hg]
        | some g =>
          obtain ⟨k, b⟩ := g
          obtain ⟨v, hf, hy⟩ := hyi k b hg
          rcases hgd i o k b hin ho hg with ⟨_, h1⟩ | ⟨h2, _⟩
          · have := h1 v w hf
            subst this
            simp [Region.wanted, hg, hy, boolOf]
          · rw [hsk] at h2; cases h2
      simp only [hwt, if_true]
      left
      refine Oper.wp_mono ?_ (hop i o hin hsk ho a w ?_ ?_ i8)
      · rintro a' w' ⟨v, rfl, hFv, hk, hE⟩
        exact hnext v w' hFv hk hE
      · intro t ht
        have := i4 t (fun p hp => by
          have := (List.all_eq_true.1 ht) p hp
          simpa using this)
        simp only [Act.eval, Array.getD_eq_getD_getElem?, this]
      · intro k t hk hpt
        obtain ⟨p, hp, ht⟩ := Option.bind_eq_some_iff.1 hpt
        simp only [Array.any_eq_true'] at hk
        obtain ⟨e, he, hb⟩ := hk
        simp only [Bool.and_eq_true, beq_iff_eq] at hb
        obtain ⟨hb, rfl⟩ := hb
        have hen : e.on < n := by have := K.back i o hin ho e he; omega
        obtain ⟨v, hv, hf⟩ := i5 e.on p t hen hp ht (r2 e he hb)
        have : a.eval (.tmp t) = v := by simp [Act.eval, Array.getD_eq_getD_getElem?, hv]
        rw [this]
        exact hf
  refine main _ _ _ _ ⟨by simp, rfl, rfl, fun t _ => rfl, ?_, ?_, ?_, ?_, ?_⟩ (by simp)
  · intro j o t hj ho ht hl
    simp [Array.getD, (Array.getElem?_eq_some_iff.1 ho).1] at hl
  · intro j _
    simp [Array.getD]
  · intro j o hj ho hl
    simp [Array.getD, (Array.getElem?_eq_some_iff.1 ho).1] at hl
  · intro i j p o s t u v hi hj hne hp ho hs ht hl
    simp [Array.getD, (Array.getElem?_eq_some_iff.1 hp).1] at hl
  · exact ⟨rfl, rfl, rfl, Nat.le_refl _, fun _ _ _ => rfl⟩
end

theorem wp_region_prefS {id : Nat} {P : Program} {ops : Array Oper} {Q : Exit → Act → World → Prop} {a0 : Act} {w0 : World} (hm : P.follows .mixedOrders = true) (n r : Nat) (hnr : ops.size = n + r) (hok : prefG ops n = true) (F : Nat → Value → World → Prop) (E : Nat → Nat → Value → Value → Prop)
    (skip : Nat → Bool) (hgd : ∀ (j : Nat) (o : Oper) (i : Nat) (b : Bool), j < n → ops[j]? = some o → o.guard = some (i, b) → (skip j = false ∧ ∀ v w, F i v w → v = .bool b) ∨ (skip j = true ∧ ∀ v w, F i v w → v ≠ .bool b))
    (hng : ∀ (j : Nat) (o : Oper), j < n → ops[j]? = some o → o.guard = none → skip j = false) (hun : ∀ j w, skip j = true → F j undef w) (hunE : ∀ i j u, skip j = true → E i j u undef)
    (hF : ∀ j v w w', F j v w → Kept [] w w' → F j v w') (hsl : ops.all (fun o => match o.dst with | none => true | some t => decide (t < a0.tmps.size)) = true)
    (hop : ∀ (j : Nat) (o : Oper), j < n → skip j = false → ops[j]? = some o → ∀ a w, (∀ t : Nat, (ops.toList.take n).all (fun p => p.dst != some t) = true → a.eval (.tmp t) = a0.eval (.tmp t)) →
      (∀ (i t : Nat), o.after.any (fun e => Region.binds .any e && e.on == i) = true → ops[i]?.bind (·.dst) = some t → F i (a.eval (.tmp t)) w) → Kept [] w0 w →
      o.wp P a w (fun a' w' => ∃ v, a' = a.put o.dst v ∧ F j v w' ∧ Kept [] w w' ∧ ∀ i u, i < n → i ≠ j → F i u w → E i j u v) Q)
    (hQ : ∀ (vs : List Value) w, vs.length = n → (∀ (j : Nat) v, vs[j]? = some v → F j v w) → (∀ (i j : Nat) u v, i ≠ j → vs[i]? = some u → vs[j]? = some v → E i j u v ∨ E j i v u) → Kept [] w0 w → wpAny P .any ops Q r (lists n (n + r)) (putAll a0 (ops.toList.take n) vs) w) :
    (Code.region id ops true).wp P Q a0 w0 := by
  refine wp_region_any hm ?_
  have hd : Kept [] w0 { w0 with drawn := w0.drawn + 1 } := ⟨rfl, rfl, rfl, Nat.le_refl _, fun _ _ _ => rfl⟩
  exact wpAny_prefS n r hnr hok F E skip hgd hng hun hunE hF hsl (fun j o hj hs ho a w h1 h2 h3 => hop j o hj hs ho a w h1 h2 (hd.trans h3)) (fun vs w h1 h2 h3 h4 => hQ vs w h1 h2 h3 (hd.trans h4))

/-- A region all of whose operations only look, call or make new memory. -/
theorem wp_region_allS {id : Nat} {P : Program} {ops : Array Oper} {Q : Exit → Act → World → Prop} {a0 : Act} {w0 : World} (hm : P.follows .mixedOrders = true) (n : Nat) (hnr : ops.size = n) (hok : prefG ops n = true) (F : Nat → Value → World → Prop) (E : Nat → Nat → Value → Value → Prop)
    (skip : Nat → Bool) (hgd : ∀ (j : Nat) (o : Oper) (i : Nat) (b : Bool), j < n → ops[j]? = some o → o.guard = some (i, b) → (skip j = false ∧ ∀ v w, F i v w → v = .bool b) ∨ (skip j = true ∧ ∀ v w, F i v w → v ≠ .bool b))
    (hng : ∀ (j : Nat) (o : Oper), j < n → ops[j]? = some o → o.guard = none → skip j = false) (hun : ∀ j w, skip j = true → F j undef w) (hunE : ∀ i j u, skip j = true → E i j u undef)
    (hF : ∀ j v w w', F j v w → Kept [] w w' → F j v w') (hsl : ops.all (fun o => match o.dst with | none => true | some t => decide (t < a0.tmps.size)) = true)
    (hop : ∀ (j : Nat) (o : Oper), j < n → skip j = false → ops[j]? = some o → ∀ a w, (∀ t : Nat, (ops.toList.take n).all (fun p => p.dst != some t) = true → a.eval (.tmp t) = a0.eval (.tmp t)) →
      (∀ (i t : Nat), o.after.any (fun e => Region.binds .any e && e.on == i) = true → ops[i]?.bind (·.dst) = some t → F i (a.eval (.tmp t)) w) → Kept [] w0 w →
      o.wp P a w (fun a' w' => ∃ v, a' = a.put o.dst v ∧ F j v w' ∧ Kept [] w w' ∧ ∀ i u, i < n → i ≠ j → F i u w → E i j u v) Q)
    (hQ : ∀ (A : Act) w, A.defers = a0.defers → A.tmps.size = a0.tmps.size → (∀ (j t : Nat), j < n → ops[j]?.bind (·.dst) = some t → F j (A.eval (.tmp t)) w) → (∀ t : Nat, (ops.toList.take n).all (fun p => p.dst != some t) = true → A.eval (.tmp t) = a0.eval (.tmp t)) → Kept [] w0 w → Q .normal A w) :
    (Code.region id ops true).wp P Q a0 w0 := by
  have K := prefG_spec hok
  refine wp_region_prefS hm n 0 (by omega) hok F E skip hgd hng hun hunE hF hsl hop ?_
  intro vs w hlen hv _ hk
  have hready : Region.ready .any ops (lists n (n + 0)) = [] := by
    apply List.eq_nil_iff_forall_not_mem.2
    intro j hj
    rw [mem_ready] at hj
    have h1 := hj.1
    obtain ⟨o, ho, _⟩ := hj.2
    have hjn : j < n := by rw [← hnr]; exact (Array.getElem?_eq_some_iff.1 ho).1
    simp [lists, Array.getD, hjn] at h1
  have hsz := putAll_size (ops.toList.take n) vs a0
  have hsl' : ∀ o ∈ ops, ∀ t, o.dst = some t → t < a0.tmps.size := by
    intro o ho t ht
    have := (Array.all_eq_true_iff_forall_mem.1 hsl) o ho
    rw [ht] at this
    simpa using this
  refine wpAny_done hready (hQ _ w hsz.2 hsz.1 ?_ ?_ hk) _
  · intro j t hj hd
    obtain ⟨o, ho, ht⟩ := Option.bind_eq_some_iff.1 hd
    have hjl : j < vs.length := by omega
    have := putAll_same (ops.toList.take n) vs a0 j o vs[j] t (by rw [List.getElem?_take_of_lt hj]; simpa using ho) (List.getElem?_eq_getElem hjl) ht (hsl' o (Array.mem_of_getElem? ho) t ht) ?_
    · have e : (putAll a0 (ops.toList.take n) vs).eval (.tmp t) = vs[j] := by simp [Act.eval, Array.getD_eq_getD_getElem?, this]
      rw [e]
      exact hv j _ (List.getElem?_eq_getElem hjl)
    · intro i k p q hp hq hne
      have hin : i < n := by
        have := (List.getElem?_eq_some_iff.1 hp).1
        rw [List.length_take] at this; omega
      have hkn : k < n := by
        have := (List.getElem?_eq_some_iff.1 hq).1
        rw [List.length_take] at this; omega
      rw [List.getElem?_take_of_lt hin] at hp
      rw [List.getElem?_take_of_lt hkn] at hq
      exact K.apart i k p q hin hkn (by simpa using hp) (by simpa using hq) hne
  · intro t ht
    have := putAll_other (ops.toList.take n) vs a0 t (fun o ho => by
      have := (List.all_eq_true.1 ht) o ho
      simpa using this)
    simp only [Act.eval, Array.getD_eq_getD_getElem?, this]

end Go.Proofs.YtkpkiibahfdomaaDoor
