/-
  The walk of the document's TakeHead.
-/
import Derived.Test.YtmeajhdhiebkdaaDoorRcPref
import Derived.Test.YtmeajhdhiebkdaaDoorRcPut
import Derived.Test.YtmeajhdhiebkdaaDoorRcFol
import Derived.Test.YtmeajhdhiebkdaaDoorRcTake
import Derived.Test.YtmeajhdhiebkdaaDoorRcPure

/-
  The same as Pref's theorem, for a region within a round.
-/
namespace Go.Proofs.YtmeajhdhiebkdaaDoor.Rc
set_option maxRecDepth 100000
open Go.RowKit

section
variable {P : Program} {ops : Array Oper} {Q : Exit → Act → World → Prop}

/-- The theorem: F says what is known of each operation's value, E what of two values, the second of which came later. -/
theorem wpAny_prefix {a0 : Act} {w0 : World} (n r : Nat) (hnr : ops.size = n + r) (hok : prefOK ops n = true) (F : Nat → Value → World → Prop) (E : Nat → Nat → Value → Value → Prop)
    (hF : ∀ j v w w', F j v w → Kept [] w w' → F j v w') (hsl : ops.all (fun o => match o.dst with | none => true | some t => decide (t < a0.tmps.size)) = true)
    (hop : ∀ (j : Nat) (o : Oper), j < n → ops[j]? = some o → ∀ a w, (∀ t : Nat, (ops.toList.take n).all (fun p => p.dst != some t) = true → a.eval (.tmp t) = a0.eval (.tmp t)) →
      (∀ (i t : Nat), o.after.any (fun e => Region.binds .any e && e.on == i) = true → ops[i]?.bind (·.dst) = some t → F i (a.eval (.tmp t)) w) → Kept [] w0 w →
      o.wp P a w (fun a' w' => ∃ v, a' = a.put o.dst v ∧ F j v w' ∧ Kept [] w w' ∧ ∀ i u, i < n → i ≠ j → F i u w → E i j u v) Q)
    (hQ : ∀ (vs : List Value) w, vs.length = n → (∀ (j : Nat) v, vs[j]? = some v → F j v w) → (∀ (i j : Nat) u v, i ≠ j → vs[i]? = some u → vs[j]? = some v → E i j u v ∨ E j i v u) → Kept [] w0 w → wpAny P .any ops Q r (lists n (n + r)) (putAll a0 (ops.toList.take n) vs) w) :
    wpAny P .any ops Q ops.size (Array.replicate ops.size false) a0 w0 := by
  have K := prefOK_spec hok
  have hsl' : ∀ o ∈ ops, ∀ t, o.dst = some t → t < a0.tmps.size := by
    intro o ho t ht
    have := (Array.all_eq_true_iff_forall_mem.1 hsl) o ho
    rw [ht] at this
    simpa using this
  have hmemT : ∀ o, o ∈ ops.toList.take n ↔ ∃ j, j < n ∧ ops[j]? = some o := by
    intro o
    rw [List.mem_iff_getElem?]
    constructor
    · rintro ⟨j, hj⟩
      have hjn : j < n := by
        have := (List.getElem?_eq_some_iff.1 hj).1
        rw [List.length_take] at this
        omega
      rw [List.getElem?_take_of_lt hjn] at hj
      exact ⟨j, hjn, by simpa using hj⟩
    · rintro ⟨j, hjn, hj⟩
      exact ⟨j, by rw [List.getElem?_take_of_lt hjn]; simpa using hj⟩
  let I : Array Bool → Act → World → Prop := fun listed a w =>
    listed.size = ops.size ∧ a.defers = a0.defers ∧ a.tmps.size = a0.tmps.size ∧ (∀ t, (∀ p ∈ ops.toList.take n, p.dst ≠ some t) → a.tmps[t]? = a0.tmps[t]?) ∧
    (∀ (j : Nat) (o : Oper) (t : Nat), j < n → ops[j]? = some o → o.dst = some t → listed.getD j false = true → ∃ v, a.tmps[t]? = some v ∧ F j v w) ∧
    (∀ j, n ≤ j → listed.getD j false = false) ∧ (∀ (j : Nat) (o : Oper), j < n → ops[j]? = some o → listed.getD j false = true → ∀ e ∈ o.after, Region.binds .any e = true → listed.getD e.on false = true) ∧ (∀ (i j : Nat) (p o : Oper) (s t : Nat) (u v : Value), i < n → j < n → i ≠ j → ops[i]? = some p → ops[j]? = some o → p.dst = some s → o.dst = some t → listed.getD i false = true → listed.getD j false = true → a.tmps[s]? = some u → a.tmps[t]? = some v → E i j u v ∨ E j i v u) ∧ Kept [] w0 w
  have main : ∀ fuel listed a w, I listed a w → (listed.toList.filter (fun b => !b)).length = fuel → wpAny P .any ops Q fuel listed a w := by
    have hend : ∀ fuel listed a w, I listed a w → (listed.toList.filter (fun b => !b)).length = fuel → (∀ j, j < n → listed.getD j false = true) → wpAny P .any ops Q fuel listed a w := by
      intro fuel listed a w hI hfu hl
      obtain ⟨i1, i2, i3, i4, i5, i6, i7, i9, i8⟩ := hI
      have hlist : listed = lists n ops.size := by
        apply Array.ext_getElem?
        intro j
        by_cases hj : j < ops.size
        · have e : listed[j]? = some (listed.getD j false) := by simp [Array.getD, i1, hj]
          rw [e]
          unfold lists
          rw [List.getElem?_toArray]
          by_cases hjn : j < n
          · rw [hl j hjn, List.getElem?_append_left (by simpa using hjn), List.getElem?_replicate_of_lt hjn]
          · rw [i6 j (by omega), List.getElem?_append_right (by simp; omega), List.getElem?_replicate_of_lt (by simp; omega)]
        · rw [Array.getElem?_eq_none (by omega), Array.getElem?_eq_none (by have := K.le; simp [lists]; omega)]
      have hfuel : fuel = ops.size - n := by
        rw [← hfu, hlist]
        simp [lists, List.filter_append]
      have hval : ∀ (j : Nat), ∃ v, ∀ (o : Oper) (t : Nat), j < n → ops[j]? = some o → o.dst = some t → a.tmps[t]? = some v ∧ F j v w := by
        intro j
        by_cases hj : j < n
        · have hjs : j < ops.size := Nat.lt_of_lt_of_le hj K.le
          obtain ⟨t, ht⟩ := K.dst j ops[j] hj (Array.getElem?_eq_getElem hjs)
          obtain ⟨v, hv, hf⟩ := i5 j _ t hj (Array.getElem?_eq_getElem hjs) ht (hl j hj)
          refine ⟨v, fun o t' _ ho ht' => ?_⟩
          rw [Array.getElem?_eq_getElem hjs] at ho
          cases ho
          rw [ht] at ht'
          cases ht'
          exact ⟨hv, hf⟩
        · exact ⟨undef, fun o t hj' _ _ => absurd hj' hj⟩
      obtain ⟨f, hf⟩ := Classical.axiomOfChoice hval
      have hvs : ∀ (j : Nat) v, ((List.range n).map f)[j]? = some v → j < n ∧ v = f j := by
        intro j v hv
        rw [List.getElem?_map] at hv
        by_cases hj : j < n
        · rw [List.getElem?_range hj] at hv
          exact ⟨hj, by simpa using hv.symm⟩
        · rw [List.getElem?_eq_none (by simpa using hj)] at hv
          simp at hv
      have hQ' := hQ ((List.range n).map f) w (by simp) (fun j v hv => by
        obtain ⟨hj, rfl⟩ := hvs j v hv
        have hjs : j < ops.size := Nat.lt_of_lt_of_le hj K.le
        obtain ⟨t, ht⟩ := K.dst j ops[j] hj (Array.getElem?_eq_getElem hjs)
        exact (hf j _ t hj (Array.getElem?_eq_getElem hjs) ht).2) (fun i j u v hne hu hv => by
        obtain ⟨hi, rfl⟩ := hvs i u hu
        obtain ⟨hj, rfl⟩ := hvs j v hv
        have his : i < ops.size := Nat.lt_of_lt_of_le hi K.le
        have hjs : j < ops.size := Nat.lt_of_lt_of_le hj K.le
        obtain ⟨s, hs⟩ := K.dst i ops[i] hi (Array.getElem?_eq_getElem his)
        obtain ⟨t, ht⟩ := K.dst j ops[j] hj (Array.getElem?_eq_getElem hjs)
        exact i9 i j _ _ s t _ _ hi hj hne (Array.getElem?_eq_getElem his) (Array.getElem?_eq_getElem hjs) hs ht (hl i hi) (hl j hj) (hf i _ s hi (Array.getElem?_eq_getElem his) hs).1 (hf j _ t hj (Array.getElem?_eq_getElem hjs) ht).1) i8
      have hsame : putAll a0 (ops.toList.take n) ((List.range n).map f) = a := by
        have hsz := putAll_size (ops.toList.take n) ((List.range n).map f) a0
        have htm : (putAll a0 (ops.toList.take n) ((List.range n).map f)).tmps = a.tmps := by
          apply Array.ext_getElem?
          intro t
          by_cases hex : ∃ (j : Nat) (o : Oper), j < n ∧ ops[j]? = some o ∧ o.dst = some t
          · obtain ⟨j, o, hj, ho, ht⟩ := hex
            rw [(hf j o t hj ho ht).1]
            refine putAll_same (ops.toList.take n) _ a0 j o (f j) t (by rw [List.getElem?_take_of_lt hj]; simpa using ho) (by rw [List.getElem?_map, List.getElem?_range hj]; rfl) ht (hsl' o (Array.mem_of_getElem? ho) t ht) ?_
            intro i k p q hp hq hne
            have hin : i < n := by
              have := (List.getElem?_eq_some_iff.1 hp).1
              rw [List.length_take] at this; omega
            have hkn : k < n := by
              have := (List.getElem?_eq_some_iff.1 hq).1
              rw [List.length_take] at this; omega
            rw [List.getElem?_take_of_lt hin] at hp
            rw [List.getElem?_take_of_lt hkn] at hq
            exact K.apart i k p q hin hkn (by simpa using hp) (by simpa using hq) hne
          · have hno : ∀ p ∈ ops.toList.take n, p.dst ≠ some t := by
              intro p hp e
              obtain ⟨j, hj, hpj⟩ := (hmemT p).1 hp
              exact hex ⟨j, p, hj, hpj, e⟩
            rw [putAll_other _ _ _ _ hno, i4 t hno]
        have hdf := hsz.2.trans i2.symm
        generalize putAll a0 (ops.toList.take n) ((List.range n).map f) = A at *
        obtain ⟨x1, x2⟩ := A
        obtain ⟨y1, y2⟩ := a
        simp only at htm hdf
        subst htm hdf
        rfl
      rw [hnr, Nat.add_sub_cancel_left] at hfuel
      rw [hnr] at hlist
      rw [hsame, ← hlist, ← hfuel] at hQ'
      exact hQ'
    intro fuel
    induction fuel with
    | zero =>
      intro listed a w hI hfu
      refine hend 0 listed a w hI hfu (fun j hj => ?_)
      obtain ⟨i1, _⟩ := hI
      have hjs : j < listed.size := by rw [i1]; exact Nat.lt_of_lt_of_le hj K.le
      cases hl : listed.getD j false with
      | true => rfl
      | false =>
        exfalso
        have hmem : false ∈ listed.toList.filter (fun b => !b) := by
          rw [List.mem_filter]
          refine ⟨?_, rfl⟩
          simp only [Array.getD, hjs, dif_pos] at hl
          rw [← hl]
          exact Array.getElem_mem_toList hjs
        rw [List.length_eq_zero_iff] at hfu
        rw [hfu] at hmem
        simp at hmem
    | succ fuel ih =>
      intro listed a w hI hfu
      by_cases hfull : ∀ j, j < n → listed.getD j false = true
      · exact hend _ listed a w hI hfu hfull
      obtain ⟨i1, i2, i3, i4, i5, i6, i7, i9, i8⟩ := hI
      have hsome : ∃ j, j < n ∧ listed.getD j false = false ∧ ∀ i, i < j → listed.getD i false = true := by
        have : ∃ j, j < n ∧ listed.getD j false = false := by
          apply Classical.byContradiction
          intro hno
          exact hfull (fun j hj => by
            cases hl : listed.getD j false with
            | true => rfl
            | false => exact absurd ⟨j, hj, hl⟩ hno)
        obtain ⟨j, hj, hl⟩ := this
        induction j using Nat.strongRecOn with
        | _ j ihj =>
          by_cases h : ∀ i, i < j → listed.getD i false = true
          · exact ⟨j, hj, hl, h⟩
          · apply Classical.byContradiction
            intro hno
            exact h (fun i hi => by
              cases hli : listed.getD i false with
              | true => rfl
              | false => exact absurd (ihj i hi (by omega) hli) hno)
      obtain ⟨j0, hj0, hlj0, hbefore⟩ := hsome
      have hne : Region.ready .any ops listed ≠ [] := by
        intro hr
        have hjs : j0 < ops.size := Nat.lt_of_lt_of_le hj0 K.le
        have hmem : j0 ∈ Region.ready .any ops listed := by
          rw [mem_ready]
          refine ⟨?_, ops[j0], Array.getElem?_eq_getElem hjs, fun e he _ => hbefore e.on (K.back j0 _ hj0 (Array.getElem?_eq_getElem hjs) e he)⟩
          simp only [Array.getD] at hlj0 ⊢
          rw [dif_pos (by omega)] at hlj0 ⊢
          exact hlj0
        rw [hr] at hmem
        simp at hmem
      refine ⟨fun h0 => absurd h0 hne, fun i hi => ?_⟩
      rw [mem_ready] at hi
      obtain ⟨r1, o, ho, r2⟩ := hi
      have hio : i < ops.size := (Array.getElem?_eq_some_iff.1 ho).1
      have hil : i < listed.size := by omega
      have hself : ∀ d, (listed.setIfInBounds i true).getD i d = true := by intro d; simp [Array.getD, hil]
      have hin : i < n := by
        apply Classical.byContradiction
        intro h
        have := reaches_listed i6 i7 6 o (K.wait i j0 o (by omega) hj0 ho) r2
        rw [hlj0] at this
        cases this
      unfold wpOp
      rw [ho]
      have hwt : Region.wanted o (yielded ops a.tmps) = true := by simp [Region.wanted, K.guard i o hin ho]
      simp only [hwt, if_true]
      left
      refine Oper.wp_mono ?_ (hop i o hin ho a w ?_ ?_ i8)
      · rintro a' w' ⟨v, rfl, hFv, hk, hE⟩
        refine ih _ _ _ ⟨by simpa using i1, by rw [put_defers]; exact i2, by rw [put_size]; exact i3, ?_, ?_, ?_, ?_, ?_, i8.trans hk⟩ ?_
        · intro t ht
          rw [put_other _ _ _ _ (ht o ((hmemT o).2 ⟨i, hin, ho⟩))]
          exact i4 t ht
        · intro j p t hjn hp ht hlj
          by_cases hji : j = i
          · subst hji
            rw [ho] at hp
            cases hp
            rw [ht]
            exact ⟨v, put_same _ _ _ (by rw [i3]; exact hsl' o (Array.mem_of_getElem? ho) t ht), hFv⟩
          · rw [getD_set_ne _ (fun e => hji e.symm)] at hlj
            obtain ⟨u, hu, hfu'⟩ := i5 j p t hjn hp ht hlj
            refine ⟨u, ?_, hF _ _ _ _ hfu' hk⟩
            rw [put_other _ _ _ _ ?_]
            · exact hu
            · have := K.apart i j o p hin hjn ho hp (fun e => hji e.symm)
              rw [ht] at this
              exact this
        · intro j hj
          rw [getD_set_ne _ (by omega)]
          exact i6 j hj
        · intro j p hjn hp hlj e he hb
          by_cases hji : j = i
          · subst hji
            rw [ho] at hp
            cases hp
            exact getD_set_true (r2 e he hb)
          · rw [getD_set_ne _ (fun e => hji e.symm)] at hlj
            exact getD_set_true (i7 j p hjn hp hlj e he hb)
        · have old : ∀ (j : Nat) (p : Oper) (t : Nat) (u : Value), j < n → j ≠ i → ops[j]? = some p → p.dst = some t → (listed.setIfInBounds i true).getD j false = true → (a.put o.dst v).tmps[t]? = some u → listed.getD j false = true ∧ a.tmps[t]? = some u := by
            intro j p t u hjn hji hp ht hlj hu
            rw [getD_set_ne _ (fun e => hji e.symm)] at hlj
            rw [put_other _ _ _ _ (by have := K.apart i j o p hin hjn ho hp (fun e => hji e.symm); rw [ht] at this; exact this)] at hu
            exact ⟨hlj, hu⟩
          have new : ∀ (q : Oper) (t : Nat) (u : Value), ops[i]? = some q → q.dst = some t → (a.put o.dst v).tmps[t]? = some u → u = v := by
            intro q t u hq ht hu
            rw [ho] at hq
            cases hq
            rw [ht, put_same _ _ _ (by rw [i3]; exact hsl' o (Array.mem_of_getElem? ho) t ht)] at hu
            exact (Option.some.inj hu).symm
          intro j k p q s t u x hjn hkn hne hp hq hs ht hlj hlk hu hx
          by_cases hji : j = i
          · subst hji
            obtain ⟨hlk', hx'⟩ := old k q t x hkn (fun e => hne e.symm) hq ht hlk hx
            obtain rfl := new p s u hp hs hu
            obtain ⟨x', hx2, hfx⟩ := i5 k q t hkn hq ht hlk'
            rw [hx'] at hx2
            cases hx2
            exact .inr (hE k x hkn (fun e => hne e.symm) hfx)
          · obtain ⟨hlj', hu'⟩ := old j p s u hjn hji hp hs hlj hu
            by_cases hki : k = i
            · subst hki
              obtain rfl := new q t x hq ht hx
              obtain ⟨u', hu2, hfu2⟩ := i5 j p s hjn hp hs hlj'
              rw [hu'] at hu2
              cases hu2
              exact .inl (hE j u hjn hji hfu2)
            · obtain ⟨hlk', hx'⟩ := old k q t x hkn hki hq ht hlk hx
              exact i9 j k p q s t u x hjn hkn hne hp hq hs ht hlj' hlk' hu' hx'
        · have := unlisted_set' r1 hil
          omega
      · intro t ht
        have := i4 t (fun p hp => by
          have := (List.all_eq_true.1 ht) p hp
          simpa using this)
        simp only [Act.eval, Array.getD_eq_getD_getElem?, this]
      · intro k t hk hpt
        obtain ⟨p, hp, ht⟩ := Option.bind_eq_some_iff.1 hpt
        simp only [Array.any_eq_true'] at hk
        obtain ⟨e, he, hb⟩ := hk
        simp only [Bool.and_eq_true, beq_iff_eq] at hb
        obtain ⟨hb, rfl⟩ := hb
        have hen : e.on < n := by have := K.back i o hin ho e he; omega
        obtain ⟨v, hv, hf⟩ := i5 e.on p t hen hp ht (r2 e he hb)
        have : a.eval (.tmp t) = v := by simp [Act.eval, Array.getD_eq_getD_getElem?, hv]
        rw [this]
        exact hf
  refine main _ _ _ _ ⟨by simp, rfl, rfl, fun t _ => rfl, ?_, ?_, ?_, ?_, ?_⟩ (by simp)
  · intro j o t hj ho ht hl
    simp [Array.getD, (Array.getElem?_eq_some_iff.1 ho).1] at hl
  · intro j _
    simp [Array.getD]
  · intro j o hj ho hl
    simp [Array.getD, (Array.getElem?_eq_some_iff.1 ho).1] at hl
  · intro i j p o s t u v hi hj hne hp ho hs ht hl
    simp [Array.getD, (Array.getElem?_eq_some_iff.1 hp).1] at hl
  · exact ⟨rfl, rfl, rfl, Nat.le_refl _, fun _ _ _ => rfl⟩
end

end Go.Proofs.YtmeajhdhiebkdaaDoor.Rc

/-
  The same as Pref's theorem, where operations may be guarded by others of which it is known what they yield.
-/
namespace Go.Proofs.YtmeajhdhiebkdaaDoor.Rc
set_option maxRecDepth 100000
open Go.RowKit

/-- What is asked of a region: of the first n operations, each waits for its guard and for earlier ones alone, each has a slot of its own; each of the others waits for all of them. -/
def prefG (ops : Array Oper) (n : Nat) : Bool :=
  decide (n ≤ ops.size) && (List.range n).all (fun j => match ops[j]? with
    | none => false
    | some o => (match o.guard with | none => true | some (i, _) => o.after.any (fun e => Region.binds .any e && e.on == i)) && o.dst.isSome && o.after.all (fun e => decide (e.on < j)) && (List.range j).all (fun i => match ops[i]? with
      | none => false
      | some p => p.dst != o.dst)) &&
  (List.range ops.size).all (fun j => decide (j < n) || (match ops[j]? with
    | none => false
    | some o => (List.range n).all (fun i => reaches ops i 6 o)))

section
variable {P : Program} {ops : Array Oper} {Q : Exit → Act → World → Prop}

structure PrefG (ops : Array Oper) (n : Nat) : Prop where
  le : n ≤ ops.size
  guard : ∀ (j : Nat) (o : Oper) (i : Nat) (b : Bool), j < n → ops[j]? = some o → o.guard = some (i, b) → ∃ e ∈ o.after, Region.binds .any e = true ∧ e.on = i
  dst : ∀ (j : Nat) (o : Oper), j < n → ops[j]? = some o → ∃ t, o.dst = some t
  back : ∀ (j : Nat) (o : Oper), j < n → ops[j]? = some o → ∀ e ∈ o.after, e.on < j
  apart : ∀ (i j : Nat) (p o : Oper), i < n → j < n → ops[i]? = some p → ops[j]? = some o → i ≠ j → p.dst ≠ o.dst
  wait : ∀ (j i : Nat) (o : Oper), n ≤ j → i < n → ops[j]? = some o → reaches ops i 6 o = true

theorem prefG_spec {n : Nat} (h : prefG ops n = true) : PrefG ops n := by
  unfold prefG at h
  rw [Bool.and_eq_true, Bool.and_eq_true] at h
  obtain ⟨⟨h0, h1⟩, h2⟩ := h
  have h0 := of_decide_eq_true h0
  rw [List.all_eq_true] at h1 h2
  have g1 : ∀ (j : Nat) (o : Oper), j < n → ops[j]? = some o → ((match o.guard with | none => true | some (i, _) => o.after.any (fun e => Region.binds .any e && e.on == i)) && o.dst.isSome && o.after.all (fun e => decide (e.on < j)) && (List.range j).all (fun i => match ops[i]? with
      | none => false
      | some p => p.dst != o.dst)) = true := by
    intro j o hj ho
    have := h1 j (List.mem_range.2 hj)
    rw [ho] at this
    exact this
  have lt : ∀ (i j : Nat) (p o : Oper), j < n → ops[i]? = some p → ops[j]? = some o → i < j → p.dst ≠ o.dst := by
    intro i j p o hj hp ho hij
    have := g1 j o hj ho
    rw [Bool.and_eq_true, List.all_eq_true] at this
    have := this.2 i (List.mem_range.2 hij)
    rw [hp] at this
    simpa using this
  refine ⟨h0, ?_, ?_, ?_, ?_, ?_⟩
  · intro j o i b hj ho hg
    have := g1 j o hj ho
    simp only [Bool.and_eq_true] at this
    have := this.1.1.1
    rw [hg] at this
    simp only [Array.any_eq_true'] at this
    obtain ⟨e, he, hb⟩ := this
    simp only [Bool.and_eq_true, beq_iff_eq] at hb
    exact ⟨e, he, hb.1, hb.2⟩
  · intro j o hj ho
    have := g1 j o hj ho
    simp only [Bool.and_eq_true] at this
    exact Option.isSome_iff_exists.1 this.1.1.2
  · intro j o hj ho e he
    have := g1 j o hj ho
    simp only [Bool.and_eq_true] at this
    have := (Array.all_eq_true_iff_forall_mem.1 this.1.2) e he
    simpa using this
  · intro i j p o hi hj hp ho hne
    rcases Nat.lt_or_gt_of_ne hne with h | h
    · exact lt i j p o hj hp ho h
    · exact (lt j i o p hi ho hp h).symm
  · intro j i o hj hi ho
    have := h2 j (List.mem_range.2 (Array.getElem?_eq_some_iff.1 ho).1)
    rw [ho, decide_eq_false (by omega), Bool.false_or] at this
    simp only [List.all_eq_true] at this
    exact this i (List.mem_range.2 hi)

/-- The theorem: F says what is known of each operation's value, E what of two values, the second of which came later. -/
theorem wpAny_prefG {a0 : Act} {w0 : World} (n r : Nat) (hnr : ops.size = n + r) (hok : prefG ops n = true) (F : Nat → Value → World → Prop) (E : Nat → Nat → Value → Value → Prop)
    (hgd : ∀ (j : Nat) (o : Oper) (i : Nat) (b : Bool), j < n → ops[j]? = some o → o.guard = some (i, b) → ∀ v w, F i v w → v = .bool b)
    (hF : ∀ j v w w', F j v w → Kept [] w w' → F j v w') (hsl : ops.all (fun o => match o.dst with | none => true | some t => decide (t < a0.tmps.size)) = true)
    (hop : ∀ (j : Nat) (o : Oper), j < n → ops[j]? = some o → ∀ a w, (∀ t : Nat, (ops.toList.take n).all (fun p => p.dst != some t) = true → a.eval (.tmp t) = a0.eval (.tmp t)) →
      (∀ (i t : Nat), o.after.any (fun e => Region.binds .any e && e.on == i) = true → ops[i]?.bind (·.dst) = some t → F i (a.eval (.tmp t)) w) → Kept [] w0 w →
      o.wp P a w (fun a' w' => ∃ v, a' = a.put o.dst v ∧ F j v w' ∧ Kept [] w w' ∧ ∀ i u, i < n → i ≠ j → F i u w → E i j u v) Q)
    (hQ : ∀ (vs : List Value) w, vs.length = n → (∀ (j : Nat) v, vs[j]? = some v → F j v w) → (∀ (i j : Nat) u v, i ≠ j → vs[i]? = some u → vs[j]? = some v → E i j u v ∨ E j i v u) → Kept [] w0 w → wpAny P .any ops Q r (lists n (n + r)) (putAll a0 (ops.toList.take n) vs) w) :
    wpAny P .any ops Q ops.size (Array.replicate ops.size false) a0 w0 := by
  have K := prefG_spec hok
  have hsl' : ∀ o ∈ ops, ∀ t, o.dst = some t → t < a0.tmps.size := by
    intro o ho t ht
    have := (Array.all_eq_true_iff_forall_mem.1 hsl) o ho
    rw [ht] at this
    simpa using this
  have hmemT : ∀ o, o ∈ ops.toList.take n ↔ ∃ j, j < n ∧ ops[j]? = some o := by
    intro o
    rw [List.mem_iff_getElem?]
    constructor
    · rintro ⟨j, hj⟩
      have hjn : j < n := by
        have := (List.getElem?_eq_some_iff.1 hj).1
        rw [List.length_take] at this
        omega
      rw [List.getElem?_take_of_lt hjn] at hj
      exact ⟨j, hjn, by simpa using hj⟩
    · rintro ⟨j, hjn, hj⟩
      exact ⟨j, by rw [List.getElem?_take_of_lt hjn]; simpa using hj⟩
  let I : Array Bool → Act → World → Prop := fun listed a w =>
    listed.size = ops.size ∧ a.defers = a0.defers ∧ a.tmps.size = a0.tmps.size ∧ (∀ t, (∀ p ∈ ops.toList.take n, p.dst ≠ some t) → a.tmps[t]? = a0.tmps[t]?) ∧
    (∀ (j : Nat) (o : Oper) (t : Nat), j < n → ops[j]? = some o → o.dst = some t → listed.getD j false = true → ∃ v, a.tmps[t]? = some v ∧ F j v w) ∧
    (∀ j, n ≤ j → listed.getD j false = false) ∧ (∀ (j : Nat) (o : Oper), j < n → ops[j]? = some o → listed.getD j false = true → ∀ e ∈ o.after, Region.binds .any e = true → listed.getD e.on false = true) ∧ (∀ (i j : Nat) (p o : Oper) (s t : Nat) (u v : Value), i < n → j < n → i ≠ j → ops[i]? = some p → ops[j]? = some o → p.dst = some s → o.dst = some t → listed.getD i false = true → listed.getD j false = true → a.tmps[s]? = some u → a.tmps[t]? = some v → E i j u v ∨ E j i v u) ∧ Kept [] w0 w
  have main : ∀ fuel listed a w, I listed a w → (listed.toList.filter (fun b => !b)).length = fuel → wpAny P .any ops Q fuel listed a w := by
    have hend : ∀ fuel listed a w, I listed a w → (listed.toList.filter (fun b => !b)).length = fuel → (∀ j, j < n → listed.getD j false = true) → wpAny P .any ops Q fuel listed a w := by
      intro fuel listed a w hI hfu hl
      obtain ⟨i1, i2, i3, i4, i5, i6, i7, i9, i8⟩ := hI
      have hlist : listed = lists n ops.size := by
        apply Array.ext_getElem?
        intro j
        by_cases hj : j < ops.size
        · have e : listed[j]? = some (listed.getD j false) := by simp [Array.getD, i1, hj]
          rw [e]
          unfold lists
          rw [List.getElem?_toArray]
          by_cases hjn : j < n
          · rw [hl j hjn, List.getElem?_append_left (by simpa using hjn), List.getElem?_replicate_of_lt hjn]
          · rw [i6 j (by omega), List.getElem?_append_right (by simp; omega), List.getElem?_replicate_of_lt (by simp; omega)]
        · rw [Array.getElem?_eq_none (by omega), Array.getElem?_eq_none (by have := K.le; simp [lists]; omega)]
      have hfuel : fuel = ops.size - n := by
        rw [← hfu, hlist]
        simp [lists, List.filter_append]
      have hval : ∀ (j : Nat), ∃ v, ∀ (o : Oper) (t : Nat), j < n → ops[j]? = some o → o.dst = some t → a.tmps[t]? = some v ∧ F j v w := by
        intro j
        by_cases hj : j < n
        · have hjs : j < ops.size := Nat.lt_of_lt_of_le hj K.le
          obtain ⟨t, ht⟩ := K.dst j ops[j] hj (Array.getElem?_eq_getElem hjs)
          obtain ⟨v, hv, hf⟩ := i5 j _ t hj (Array.getElem?_eq_getElem hjs) ht (hl j hj)
          refine ⟨v, fun o t' _ ho ht' => ?_⟩
          rw [Array.getElem?_eq_getElem hjs] at ho
          cases ho
          rw [ht] at ht'
          cases ht'
          exact ⟨hv, hf⟩
        · exact ⟨undef, fun o t hj' _ _ => absurd hj' hj⟩
      obtain ⟨f, hf⟩ := Classical.axiomOfChoice hval
      have hvs : ∀ (j : Nat) v, ((List.range n).map f)[j]? = some v → j < n ∧ v = f j := by
        intro j v hv
        rw [List.getElem?_map] at hv
        by_cases hj : j < n
        · rw [List.getElem?_range hj] at hv
          exact ⟨hj, by simpa using hv.symm⟩
        · rw [List.getElem?_eq_none (by simpa using hj)] at hv
          simp at hv
      have hQ' := hQ ((List.range n).map f) w (by simp) (fun j v hv => by
        obtain ⟨hj, rfl⟩ := hvs j v hv
        have hjs : j < ops.size := Nat.lt_of_lt_of_le hj K.le
        obtain ⟨t, ht⟩ := K.dst j ops[j] hj (Array.getElem?_eq_getElem hjs)
        exact (hf j _ t hj (Array.getElem?_eq_getElem hjs) ht).2) (fun i j u v hne hu hv => by
        obtain ⟨hi, rfl⟩ := hvs i u hu
        obtain ⟨hj, rfl⟩ := hvs j v hv
        have his : i < ops.size := Nat.lt_of_lt_of_le hi K.le
        have hjs : j < ops.size := Nat.lt_of_lt_of_le hj K.le
        obtain ⟨s, hs⟩ := K.dst i ops[i] hi (Array.getElem?_eq_getElem his)
        obtain ⟨t, ht⟩ := K.dst j ops[j] hj (Array.getElem?_eq_getElem hjs)
        exact i9 i j _ _ s t _ _ hi hj hne (Array.getElem?_eq_getElem his) (Array.getElem?_eq_getElem hjs) hs ht (hl i hi) (hl j hj) (hf i _ s hi (Array.getElem?_eq_getElem his) hs).1 (hf j _ t hj (Array.getElem?_eq_getElem hjs) ht).1) i8
      have hsame : putAll a0 (ops.toList.take n) ((List.range n).map f) = a := by
        have hsz := putAll_size (ops.toList.take n) ((List.range n).map f) a0
        have htm : (putAll a0 (ops.toList.take n) ((List.range n).map f)).tmps = a.tmps := by
          apply Array.ext_getElem?
          intro t
          by_cases hex : ∃ (j : Nat) (o : Oper), j < n ∧ ops[j]? = some o ∧ o.dst = some t
          · obtain ⟨j, o, hj, ho, ht⟩ := hex
            rw [(hf j o t hj ho ht).1]
            refine putAll_same (ops.toList.take n) _ a0 j o (f j) t (by rw [List.getElem?_take_of_lt hj]; simpa using ho) (by rw [List.getElem?_map, List.getElem?_range hj]; rfl) ht (hsl' o (Array.mem_of_getElem? ho) t ht) ?_
            intro i k p q hp hq hne
            have hin : i < n := by
              have := (List.getElem?_eq_some_iff.1 hp).1
              rw [List.length_take] at this; omega
            have hkn : k < n := by
              have := (List.getElem?_eq_some_iff.1 hq).1
              rw [List.length_take] at this; omega
            rw [List.getElem?_take_of_lt hin] at hp
            rw [List.getElem?_take_of_lt hkn] at hq
            exact K.apart i k p q hin hkn (by simpa using hp) (by simpa using hq) hne
          · have hno : ∀ p ∈ ops.toList.take n, p.dst ≠ some t := by
              intro p hp e
              obtain ⟨j, hj, hpj⟩ := (hmemT p).1 hp
              exact hex ⟨j, p, hj, hpj, e⟩
            rw [putAll_other _ _ _ _ hno, i4 t hno]
        have hdf := hsz.2.trans i2.symm
        generalize putAll a0 (ops.toList.take n) ((List.range n).map f) = A at *
        obtain ⟨x1, x2⟩ := A
        obtain ⟨y1, y2⟩ := a
        simp only at htm hdf
        subst htm hdf
        rfl
      rw [hnr, Nat.add_sub_cancel_left] at hfuel
      rw [hnr] at hlist
      rw [hsame, ← hlist, ← hfuel] at hQ'
      exact hQ'
    intro fuel
    induction fuel with
    | zero =>
      intro listed a w hI hfu
      refine hend 0 listed a w hI hfu (fun j hj => ?_)
      obtain ⟨i1, _⟩ := hI
      have hjs : j < listed.size := by rw [i1]; exact Nat.lt_of_lt_of_le hj K.le
      cases hl : listed.getD j false with
      | true => rfl
      | false =>
        exfalso
        have hmem : false ∈ listed.toList.filter (fun b => !b) := by
          rw [List.mem_filter]
          refine ⟨?_, rfl⟩
          simp only [Array.getD, hjs, dif_pos] at hl
          rw [← hl]
          exact Array.getElem_mem_toList hjs
        rw [List.length_eq_zero_iff] at hfu
        rw [hfu] at hmem
        simp at hmem
    | succ fuel ih =>
      intro listed a w hI hfu
      by_cases hfull : ∀ j, j < n → listed.getD j false = true
      · exact hend _ listed a w hI hfu hfull
      obtain ⟨i1, i2, i3, i4, i5, i6, i7, i9, i8⟩ := hI
      have hsome : ∃ j, j < n ∧ listed.getD j false = false ∧ ∀ i, i < j → listed.getD i false = true := by
        have : ∃ j, j < n ∧ listed.getD j false = false := by
          apply Classical.byContradiction
          intro hno
          exact hfull (fun j hj => by
            cases hl : listed.getD j false with
            | true => rfl
            | false => exact absurd ⟨j, hj, hl⟩ hno)
        obtain ⟨j, hj, hl⟩ := this
        induction j using Nat.strongRecOn with
        | _ j ihj =>
          by_cases h : ∀ i, i < j → listed.getD i false = true
          · exact ⟨j, hj, hl, h⟩
          · apply Classical.byContradiction
            intro hno
            exact h (fun i hi => by
              cases hli : listed.getD i false with
              | true => rfl
              | false => exact absurd (ihj i hi (by omega) hli) hno)
      obtain ⟨j0, hj0, hlj0, hbefore⟩ := hsome
      have hne : Region.ready .any ops listed ≠ [] := by
        intro hr
        have hjs : j0 < ops.size := Nat.lt_of_lt_of_le hj0 K.le
        have hmem : j0 ∈ Region.ready .any ops listed := by
          rw [mem_ready]
          refine ⟨?_, ops[j0], Array.getElem?_eq_getElem hjs, fun e he _ => hbefore e.on (K.back j0 _ hj0 (Array.getElem?_eq_getElem hjs) e he)⟩
          simp only [Array.getD] at hlj0 ⊢
          rw [dif_pos (by omega)] at hlj0 ⊢
          exact hlj0
        rw [hr] at hmem
        simp at hmem
      refine ⟨fun h0 => absurd h0 hne, fun i hi => ?_⟩
      rw [mem_ready] at hi
      obtain ⟨r1, o, ho, r2⟩ := hi
      have hio : i < ops.size := (Array.getElem?_eq_some_iff.1 ho).1
      have hil : i < listed.size := by omega
      have hself : ∀ d, (listed.setIfInBounds i true).getD i d = true := by intro d; simp [Array.getD, hil]
      have hin : i < n := by
        apply Classical.byContradiction
        intro h
        have := reaches_listed i6 i7 6 o (K.wait i j0 o (by omega) hj0 ho) r2
        rw [hlj0] at this
        cases this
      unfold wpOp
      rw [ho]
      have hwt : Region.wanted o (yielded ops a.tmps) = true := by
        cases hg : o.guard with
        | none => simp [Region.wanted, hg]
        | some g =>
          obtain ⟨k, b⟩ := g
          obtain ⟨e, he, hb, rfl⟩ := K.guard i o k b hin ho hg
          have hen : e.on < n := by have := K.back i o hin ho e he; omega
          have hes : e.on < ops.size := Nat.lt_of_lt_of_le hen K.le
          obtain ⟨t, ht⟩ := K.dst e.on ops[e.on] hen (Array.getElem?_eq_getElem hes)
          obtain ⟨v, hv, hf⟩ := i5 e.on _ t hen (Array.getElem?_eq_getElem hes) ht (r2 e he hb)
          have := hgd i o e.on b hin ho hg v w hf
          subst this
          simp [Region.wanted, hg, yielded, hes, ht, hv]
      simp only [hwt, if_true]
      left
      refine Oper.wp_mono ?_ (hop i o hin ho a w ?_ ?_ i8)
      · rintro a' w' ⟨v, rfl, hFv, hk, hE⟩
        refine ih _ _ _ ⟨by simpa using i1, by rw [put_defers]; exact i2, by rw [put_size]; exact i3, ?_, ?_, ?_, ?_, ?_, i8.trans hk⟩ ?_
        · intro t ht
          rw [put_other _ _ _ _ (ht o ((hmemT o).2 ⟨i, hin, ho⟩))]
          exact i4 t ht
        · intro j p t hjn hp ht hlj
          by_cases hji : j = i
          · subst hji
            rw [ho] at hp
            cases hp
            rw [ht]
            exact ⟨v, put_same _ _ _ (by rw [i3]; exact hsl' o (Array.mem_of_getElem? ho) t ht), hFv⟩
          · rw [getD_set_ne _ (fun e => hji e.symm)] at hlj
            obtain ⟨u, hu, hfu'⟩ := i5 j p t hjn hp ht hlj
            refine ⟨u, ?_, hF _ _ _ _ hfu' hk⟩
            rw [put_other _ _ _ _ ?_]
            · exact hu
            · have := K.apart i j o p hin hjn ho hp (fun e => hji e.symm)
              rw [ht] at this
              exact this
        · intro j hj
          rw [getD_set_ne _ (by omega)]
          exact i6 j hj
        · intro j p hjn hp hlj e he hb
          by_cases hji : j = i
          · subst hji
            rw [ho] at hp
            cases hp
            exact getD_set_true (r2 e he hb)
          · rw [getD_set_ne _ (fun e => hji e.symm)] at hlj
            exact getD_set_true (i7 j p hjn hp hlj e he hb)
        · have old : ∀ (j : Nat) (p : Oper) (t : Nat) (u : Value), j < n → j ≠ i → ops[j]? = some p → p.dst = some t → (listed.setIfInBounds i true).getD j false = true → (a.put o.dst v).tmps[t]? = some u → listed.getD j false = true ∧ a.tmps[t]? = some u := by
            intro j p t u hjn hji hp ht hlj hu
            rw [getD_set_ne _ (fun e => hji e.symm)] at hlj
            rw [put_other _ _ _ _ (by have := K.apart i j o p hin hjn ho hp (fun e => hji e.symm); rw [ht] at this; exact this)] at hu
            exact ⟨hlj, hu⟩
          have new : ∀ (q : Oper) (t : Nat) (u : Value), ops[i]? = some q → q.dst = some t → (a.put o.dst v).tmps[t]? = some u → u = v := by
            intro q t u hq ht hu
            rw [ho] at hq
            cases hq
            rw [ht, put_same _ _ _ (by rw [i3]; exact hsl' o (Array.mem_of_getElem? ho) t ht)] at hu
            exact (Option.some.inj hu).symm
          intro j k p q s t u x hjn hkn hne hp hq hs ht hlj hlk hu hx
          by_cases hji : j = i
          · subst hji
            obtain ⟨hlk', hx'⟩ := old k q t x hkn (fun e => hne e.symm) hq ht hlk hx
            obtain rfl := new p s u hp hs hu
            obtain ⟨x', hx2, hfx⟩ := i5 k q t hkn hq ht hlk'
            rw [hx'] at hx2
            cases hx2
            exact .inr (hE k x hkn (fun e => hne e.symm) hfx)
          · obtain ⟨hlj', hu'⟩ := old j p s u hjn hji hp hs hlj hu
            by_cases hki : k = i
            · subst hki
              obtain rfl := new q t x hq ht hx
              obtain ⟨u', hu2, hfu2⟩ := i5 j p s hjn hp hs hlj'
              rw [hu'] at hu2
              cases hu2
              exact .inl (hE j u hjn hji hfu2)
            · obtain ⟨hlk', hx'⟩ := old k q t x hkn hki hq ht hlk hx
              exact i9 j k p q s t u x hjn hkn hne hp hq hs ht hlj' hlk' hu' hx'
        · have := unlisted_set' r1 hil
          omega
      · intro t ht
        have := i4 t (fun p hp => by
          have := (List.all_eq_true.1 ht) p hp
          simpa using this)
        simp only [Act.eval, Array.getD_eq_getD_getElem?, this]
      · intro k t hk hpt
        obtain ⟨p, hp, ht⟩ := Option.bind_eq_some_iff.1 hpt
        simp only [Array.any_eq_true'] at hk
        obtain ⟨e, he, hb⟩ := hk
        simp only [Bool.and_eq_true, beq_iff_eq] at hb
        obtain ⟨hb, rfl⟩ := hb
        have hen : e.on < n := by have := K.back i o hin ho e he; omega
        obtain ⟨v, hv, hf⟩ := i5 e.on p t hen hp ht (r2 e he hb)
        have : a.eval (.tmp t) = v := by simp [Act.eval, Array.getD_eq_getD_getElem?, hv]
        rw [this]
        exact hf
  refine main _ _ _ _ ⟨by simp, rfl, rfl, fun t _ => rfl, ?_, ?_, ?_, ?_, ?_⟩ (by simp)
  · intro j o t hj ho ht hl
    simp [Array.getD, (Array.getElem?_eq_some_iff.1 ho).1] at hl
  · intro j _
    simp [Array.getD]
  · intro j o hj ho hl
    simp [Array.getD, (Array.getElem?_eq_some_iff.1 ho).1] at hl
  · intro i j p o s t u v hi hj hne hp ho hs ht hl
    simp [Array.getD, (Array.getElem?_eq_some_iff.1 hp).1] at hl
  · exact ⟨rfl, rfl, rfl, Nat.le_refl _, fun _ _ _ => rfl⟩
end

theorem wp_region_prefG {id : Nat} {P : Program} {ops : Array Oper} {Q : Exit → Act → World → Prop} {a0 : Act} {w0 : World} (hm : P.follows .mixedOrders = true) (n r : Nat) (hnr : ops.size = n + r) (hok : prefG ops n = true) (F : Nat → Value → World → Prop) (E : Nat → Nat → Value → Value → Prop)
    (hgd : ∀ (j : Nat) (o : Oper) (i : Nat) (b : Bool), j < n → ops[j]? = some o → o.guard = some (i, b) → ∀ v w, F i v w → v = .bool b)
    (hF : ∀ j v w w', F j v w → Kept [] w w' → F j v w') (hsl : ops.all (fun o => match o.dst with | none => true | some t => decide (t < a0.tmps.size)) = true)
    (hop : ∀ (j : Nat) (o : Oper), j < n → ops[j]? = some o → ∀ a w, (∀ t : Nat, (ops.toList.take n).all (fun p => p.dst != some t) = true → a.eval (.tmp t) = a0.eval (.tmp t)) →
      (∀ (i t : Nat), o.after.any (fun e => Region.binds .any e && e.on == i) = true → ops[i]?.bind (·.dst) = some t → F i (a.eval (.tmp t)) w) → Kept [] w0 w →
      o.wp P a w (fun a' w' => ∃ v, a' = a.put o.dst v ∧ F j v w' ∧ Kept [] w w' ∧ ∀ i u, i < n → i ≠ j → F i u w → E i j u v) Q)
    (hQ : ∀ (vs : List Value) w, vs.length = n → (∀ (j : Nat) v, vs[j]? = some v → F j v w) → (∀ (i j : Nat) u v, i ≠ j → vs[i]? = some u → vs[j]? = some v → E i j u v ∨ E j i v u) → Kept [] w0 w → wpAny P .any ops Q r (lists n (n + r)) (putAll a0 (ops.toList.take n) vs) w) :
    (Code.region id ops true).wp P Q a0 w0 := by
  refine wp_region_any hm ?_
  have hd : Kept [] w0 { w0 with drawn := w0.drawn + 1 } := ⟨rfl, rfl, rfl, Nat.le_refl _, fun _ _ _ => rfl⟩
  exact wpAny_prefG n r hnr hok F E hgd hF hsl (fun j o hj ho a w h1 h2 h3 => hop j o hj ho a w h1 h2 (hd.trans h3)) (fun vs w h1 h2 h3 h4 => hQ vs w h1 h2 h3 (hd.trans h4))

/-- A region all of whose operations only look, call or make new memory. -/
theorem wp_region_all {id : Nat} {P : Program} {ops : Array Oper} {Q : Exit → Act → World → Prop} {a0 : Act} {w0 : World} (hm : P.follows .mixedOrders = true) (n : Nat) (hnr : ops.size = n) (hok : prefG ops n = true) (F : Nat → Value → World → Prop) (E : Nat → Nat → Value → Value → Prop)
    (hgd : ∀ (j : Nat) (o : Oper) (i : Nat) (b : Bool), j < n → ops[j]? = some o → o.guard = some (i, b) → ∀ v w, F i v w → v = .bool b)
    (hF : ∀ j v w w', F j v w → Kept [] w w' → F j v w') (hsl : ops.all (fun o => match o.dst with | none => true | some t => decide (t < a0.tmps.size)) = true)
    (hop : ∀ (j : Nat) (o : Oper), j < n → ops[j]? = some o → ∀ a w, (∀ t : Nat, (ops.toList.take n).all (fun p => p.dst != some t) = true → a.eval (.tmp t) = a0.eval (.tmp t)) →
      (∀ (i t : Nat), o.after.any (fun e => Region.binds .any e && e.on == i) = true → ops[i]?.bind (·.dst) = some t → F i (a.eval (.tmp t)) w) → Kept [] w0 w →
      o.wp P a w (fun a' w' => ∃ v, a' = a.put o.dst v ∧ F j v w' ∧ Kept [] w w' ∧ ∀ i u, i < n → i ≠ j → F i u w → E i j u v) Q)
    (hQ : ∀ (A : Act) w, A.defers = a0.defers → A.tmps.size = a0.tmps.size → (∀ (j t : Nat), j < n → ops[j]?.bind (·.dst) = some t → F j (A.eval (.tmp t)) w) → (∀ t : Nat, (ops.toList.take n).all (fun p => p.dst != some t) = true → A.eval (.tmp t) = a0.eval (.tmp t)) → Kept [] w0 w → Q .normal A w) :
    (Code.region id ops true).wp P Q a0 w0 := by
  have K := prefG_spec hok
  refine wp_region_prefG hm n 0 (by omega) hok F E hgd hF hsl hop ?_
  intro vs w hlen hv _ hk
  have hready : Region.ready .any ops (lists n (n + 0)) = [] := by
    apply List.eq_nil_iff_forall_not_mem.2
    intro j hj
    rw [mem_ready] at hj
    have h1 := hj.1
    obtain ⟨o, ho, _⟩ := hj.2
    have hjn : j < n := by rw [← hnr]; exact (Array.getElem?_eq_some_iff.1 ho).1
    simp [lists, Array.getD, hjn] at h1
  have hsz := putAll_size (ops.toList.take n) vs a0
  have hsl' : ∀ o ∈ ops, ∀ t, o.dst = some t → t < a0.tmps.size := by
    intro o ho t ht
    have := (Array.all_eq_true_iff_forall_mem.1 hsl) o ho
    rw [ht] at this
    simpa using this
  refine wpAny_done hready (hQ _ w hsz.2 hsz.1 ?_ ?_ hk) _
  · intro j t hj hd
    obtain ⟨o, ho, ht⟩ := Option.bind_eq_some_iff.1 hd
    have hjl : j < vs.length := by omega
    have := putAll_same (ops.toList.take n) vs a0 j o vs[j] t (by rw [List.getElem?_take_of_lt hj]; simpa using ho) (List.getElem?_eq_getElem hjl) ht (hsl' o (Array.mem_of_getElem? ho) t ht) ?_
    · have e : (putAll a0 (ops.toList.take n) vs).eval (.tmp t) = vs[j] := by simp [Act.eval, Array.getD_eq_getD_getElem?, this]
      rw [e]
      exact hv j _ (List.getElem?_eq_getElem hjl)
    · intro i k p q hp hq hne
      have hin : i < n := by
        have := (List.getElem?_eq_some_iff.1 hp).1
        rw [List.length_take] at this; omega
      have hkn : k < n := by
        have := (List.getElem?_eq_some_iff.1 hq).1
        rw [List.length_take] at this; omega
      rw [List.getElem?_take_of_lt hin] at hp
      rw [List.getElem?_take_of_lt hkn] at hq
      exact K.apart i k p q hin hkn (by simpa using hp) (by simpa using hq) hne
  · intro t ht
    have := putAll_other (ops.toList.take n) vs a0 t (fun o ho => by
      have := (List.all_eq_true.1 ht) o ho
      simpa using this)
    simp only [Act.eval, Array.getD_eq_getD_getElem?, this]

end Go.Proofs.YtmeajhdhiebkdaaDoor.Rc

/-
  Laws for single operations, for regions that draw their order.
-/
namespace Go.Proofs.YtmeajhdhiebkdaaDoor.Rc
set_option maxRecDepth 100000
open Go.RowKit

/-- The guards of a region are what the table says. -/
def guardsOK (ops : Array Oper) (fs : List Fact) : Bool := ops.all (fun o => match o.guard with
  | none => true
  | some (i, b) => match fs[i]? with
    | some (.is (.bool c)) => c == b
    | _ => false)
theorem guards_spec {ops : Array Oper} {fs : List Fact} (h : guardsOK ops fs = true) : ∀ (j : Nat) (o : Oper) (i : Nat) (b : Bool), ops[j]? = some o → o.guard = some (i, b) → ∀ v w, tab fs i v w → v = .bool b := by
  intro j o i b ho hg v w hf
  have := (Array.all_eq_true_iff_forall_mem.1 h) o (Array.mem_of_getElem? ho)
  simp only [hg] at this
  unfold tab at hf
  cases hfi : fs[i]? with
  | none => rw [hfi] at this; simp at this
  | some f =>
    rw [hfi] at this hf
    cases f with
    | new T vs B => simp at this
    | is u =>
      cases u <;> first | (simp at this; done) | (have := (beq_iff_eq.1 this); subst this; exact hf)

section
variable {o : Oper} {a : Act} {w : World} {K : Act → World → Prop} {Q : Exit → Act → World → Prop}
theorem o_add3 (x y : Operand) (ho : o.op = .binOp .add 3 x y 3) (m n : Int) (hm : -1000000 ≤ m + n ∧ m + n ≤ 1000000) (hx : a.eval x = .int .i64 m) (hy : a.eval y = .int .i64 n) (h : K (a.put o.dst (.int .i64 (m + n))) w) : o.wp Tryd.prog a w K Q := by
  have hw : IntKind.i64.wrap (m + n) = m + n := by rw [IntKind.wrap_i64]; omega
  unfold Oper.wp execOp
  simp only [ho, hx, hy]
  simp [go_sem, hw]
  exact h
theorem o_eql3 (x : Operand) (c : Int) (ho : o.op = .binOp .eql 3 x (.const (.int .i64 c)) 3) (m : Int) (r : Bool) (hr : decide (m = c) = r) (hx : a.eval x = .int .i64 m) (h : K (a.put o.dst (.bool r)) w) : o.wp Tryd.prog a w K Q := by
  have hb : (m == c) = r := by rw [← hr]; rfl
  unfold Oper.wp execOp
  simp only [ho, hx]
  simp [go_sem, hb]
  exact h
theorem o_eql5 (x : Operand) (c : Int) (ho : o.op = .binOp .eql 5 x (.const (.int .u8 c)) 5) (m : Int) (r : Bool) (hr : decide (m = c) = r) (hx : a.eval x = .int .u8 m) (h : K (a.put o.dst (.bool r)) w) : o.wp Tryd.prog a w K Q := by
  have hb : (m == c) = r := by rw [← hr]; rfl
  unfold Oper.wp execOp
  simp only [ho, hx]
  simp [go_sem, hb]
  exact h
theorem o_pick (c x : Operand) (ho : o.op = .pick c x (.const (.bool false))) (r : Bool) (hc : a.eval c = .bool true) (hx : a.eval x = .bool r) (h : K (a.put o.dst (.bool r)) w) : o.wp Tryd.prog a w K Q := by
  unfold Oper.wp execOp
  simp only [ho, hc, hx]
  simp [go_sem]
  exact h
theorem o_not (x : Operand) (ho : o.op = .unOp .not 4 x) (r : Bool) (hx : a.eval x = .bool r) (h : K (a.put o.dst (.bool (!r))) w) : o.wp Tryd.prog a w K Q := by
  unfold Oper.wp execOp
  simp only [ho, hx]
  simp [go_sem]
  exact h
theorem o_idx30 (x : Operand) (k : Nat) (hk : k < 2) (ho : o.op = .indexAddr 81 x (.const (.int .i64 k))) (b : Nat) (hx : a.eval x = P0 b) (h : K (a.put o.dst (.pointer (some ⟨b, 64 * k, none⟩))) w) : o.wp Tryd.prog a w K Q := by
  unfold Oper.wp execOp
  simp only [ho, hx]
  rcases (show k = 0 ∨ k = 1 by omega) with rfl | rfl
  · exact h
  · exact h
theorem o_idx29 (x : Operand) (k : Nat) (hk : k < 64) (ho : o.op = .indexAddr 80 x (.const (.int .i64 k))) (b off : Nat) (hx : a.eval x = .pointer (some ⟨b, off, none⟩)) (h : K (a.put o.dst (.pointer (some ⟨b, off + k, none⟩))) w) : o.wp Tryd.prog a w K Q := by
  have h1 : ((k : Int) < 64) := by omega
  unfold Oper.wp execOp
  simp only [ho, hx]
  simp [go_sem, h1]
  exact h
theorem o_idx23 (x : Operand) (k : Nat) (hk : k < 96) (ho : o.op = .indexAddr 26 x (.const (.int .i64 k))) (b off : Nat) (hx : a.eval x = .pointer (some ⟨b, off, none⟩)) (h : K (a.put o.dst (.pointer (some ⟨b, off + k, none⟩))) w) : o.wp Tryd.prog a w K Q := by
  have h1 : ((k : Int) < 96) := by omega
  unfold Oper.wp execOp
  simp only [ho, hx]
  simp [go_sem, h1]
  exact h
theorem o_load5 (x : Operand) (ho : o.op = .load 5 x) (p : Addr) (v : Value) (hx : a.eval x = .pointer (some p)) (hc : w.cell? p = some v) (h : K (a.put o.dst v) w) : o.wp Tryd.prog a w K Q := by
  unfold Oper.wp execOp
  simp only [ho, hx]
  simp [go_sem, hc]
  exact h
theorem o_load2 (x : Operand) (ho : o.op = .load 2 x) (p : Addr) (v : Value) (hx : a.eval x = .pointer (some p)) (hc : w.cell? p = some v) (h : K (a.put o.dst v) w) : o.wp Tryd.prog a w K Q := by
  unfold Oper.wp execOp
  simp only [ho, hx]
  simp [go_sem, hc]
  exact h
theorem o_build {T : Nat} (vs : List Value) (hr : ∀ w : World, (Instr.build T #[]).run Tryd.prog w = .ok (aggV vs) w) (ho : o.op = .build T #[]) (h : K (a.put o.dst (aggV vs)) w) : o.wp Tryd.prog a w K Q := by
  unfold Oper.wp execOp
  simp only [ho, Array.map_empty, Sem.run_bind, hr, Result.andThen_ok]
  exact h
theorem o_eqlA (T r : Nat) (hG : Tryd.prog.eqGuardType Tryd.prog.depth T = false) (x y : Operand) (ho : o.op = .binOp .eql T x y r) (vs us : List Value) (hx : a.eval x = aggV vs) (hy : a.eval y = aggV us) (c : Bool)
    (he : (Op.equal T (aggV vs) (aggV us)).run Tryd.prog w = .ok c w) (h : K (a.put o.dst (.bool c)) w) : o.wp Tryd.prog a w K Q := by
  unfold Oper.wp execOp
  simp only [aggV] at he hx hy
  have hg : (eqGuard .eql T x y (.agg vs.toArray) (.agg us.toArray)).run Tryd.prog w = .ok () w := by simp [eqGuard, Sem.run_bind, hG]
  have hb : (binOp BinOp.eql T (.agg vs.toArray) (.agg us.toArray)).run Tryd.prog w = .ok (.bool c) w := by simp only [binOp, Sem.run_bind, he, Result.andThen_ok, Sem.run_pure]
  simp only [ho, hx, hy, Sem.run_bind, hg, hb, Result.andThen_ok]
  exact h
end

theorem cf8 (vs : Array Value) (w : World) : (callFunc 35 vs).run Tryd.prog w = .ok (.enter 35 vs) w := by kernel_rfl
theorem cf9 (vs : Array Value) (w : World) : (callFunc 38 vs).run Tryd.prog w = .ok (.enter 38 vs) w := by kernel_rfl
theorem cf12 (vs : Array Value) (w : World) : (callFunc 57 vs).run Tryd.prog w = .ok (.enter 57 vs) w := by kernel_rfl
theorem cf16 (vs : Array Value) (w : World) : (callFunc 92 vs).run Tryd.prog w = .ok (.enter 92 vs) w := by kernel_rfl
theorem cf24 (vs : Array Value) (w : World) : (callFunc 83 vs).run Tryd.prog w = .ok (.enter 83 vs) w := by kernel_rfl
theorem cf31 (vs : Array Value) (w : World) : (callFunc 61 vs).run Tryd.prog w = .ok (.enter 61 vs) w := by kernel_rfl
/-- What each operation of such a region must show. -/
def opPost (fs : List Fact) (o : Oper) (a : Act) (w : World) (j n : Nat) (a' : Act) (w' : World) : Prop := ∃ v, a' = a.put o.dst v ∧ tab fs j v w' ∧ Kept [] w w' ∧ ∀ i u, i < n → i ≠ j → tab fs i u w → True
theorem post_of {fs : List Fact} {o : Oper} {a : Act} {w w' : World} {j n : Nat} {v : Value} (hv : tab fs j v w') (hk : Kept [] w w') : opPost fs o a w j n (a.put o.dst v) w' := ⟨v, rfl, hv, hk, fun _ _ _ _ _ => trivial⟩

end Go.Proofs.YtmeajhdhiebkdaaDoor.Rc

/-
  The same as Prefg's theorem, where guarded operations may also be left out.
-/
namespace Go.Proofs.YtmeajhdhiebkdaaDoor.Rc
set_option maxRecDepth 100000
open Go.RowKit

def boolOf : Value → Option Bool
  | .bool c => some c
  | _ => none
theorem wanted_no {o : Oper} {ops : Array Oper} {tmps : Array Value} {k : Nat} {b : Bool} {v : Value} (hg : o.guard = some (k, b)) (hy : yielded ops tmps k = boolOf v) (h : v ≠ .bool b) : Region.wanted o (yielded ops tmps) = false := by
  have h2 : boolOf v ≠ some b := by
    intro e
    unfold boolOf at e
    split at e
    · exact h (by rw [Option.some.inj e])
    · cases e
  simp [Region.wanted, hg, hy]
  exact h2
theorem yielded_of {ops : Array Oper} {tmps : Array Value} {k t : Nat} {v : Value} (hk : k < ops.size) (ht : ops[k].dst = some t) (hv : tmps[t]? = some v) : yielded ops tmps k = boolOf v := by
  unfold yielded boolOf
  simp only [Array.getElem?_eq_getElem hk, Option.bind_some, ht, hv]
  cases v <;> rfl

section
variable {P : Program} {ops : Array Oper} {Q : Exit → Act → World → Prop}

/-- The theorem: F says what is known of each operation's value, E what of two values, the second of which came later. -/
theorem wpAny_prefS {a0 : Act} {w0 : World} (n r : Nat) (hnr : ops.size = n + r) (hok : prefG ops n = true) (F : Nat → Value → World → Prop) (E : Nat → Nat → Value → Value → Prop)
    (skip : Nat → Bool) (hgd : ∀ (j : Nat) (o : Oper) (i : Nat) (b : Bool), j < n → ops[j]? = some o → o.guard = some (i, b) → (skip j = false ∧ ∀ v w, F i v w → v = .bool b) ∨ (skip j = true ∧ ∀ v w, F i v w → v ≠ .bool b))
    (hng : ∀ (j : Nat) (o : Oper), j < n → ops[j]? = some o → o.guard = none → skip j = false) (hun : ∀ j w, skip j = true → F j undef w) (hunE : ∀ i j u, skip j = true → E i j u undef)
    (hF : ∀ j v w w', F j v w → Kept [] w w' → F j v w') (hsl : ops.all (fun o => match o.dst with | none => true | some t => decide (t < a0.tmps.size)) = true)
    (hop : ∀ (j : Nat) (o : Oper), j < n → skip j = false → ops[j]? = some o → ∀ a w, (∀ t : Nat, (ops.toList.take n).all (fun p => p.dst != some t) = true → a.eval (.tmp t) = a0.eval (.tmp t)) →
      (∀ (i t : Nat), o.after.any (fun e => Region.binds .any e && e.on == i) = true → ops[i]?.bind (·.dst) = some t → F i (a.eval (.tmp t)) w) → Kept [] w0 w →
      o.wp P a w (fun a' w' => ∃ v, a' = a.put o.dst v ∧ F j v w' ∧ Kept [] w w' ∧ ∀ i u, i < n → i ≠ j → F i u w → E i j u v) Q)
    (hQ : ∀ (vs : List Value) w, vs.length = n → (∀ (j : Nat) v, vs[j]? = some v → F j v w) → (∀ (i j : Nat) u v, i ≠ j → vs[i]? = some u → vs[j]? = some v → E i j u v ∨ E j i v u) → Kept [] w0 w → wpAny P .any ops Q r (lists n (n + r)) (putAll a0 (ops.toList.take n) vs) w) :
    wpAny P .any ops Q ops.size (Array.replicate ops.size false) a0 w0 := by
  have K := prefG_spec hok
  have hsl' : ∀ o ∈ ops, ∀ t, o.dst = some t → t < a0.tmps.size := by
    intro o ho t ht
    have := (Array.all_eq_true_iff_forall_mem.1 hsl) o ho
    rw [ht] at this
    simpa using this
  have hmemT : ∀ o, o ∈ ops.toList.take n ↔ ∃ j, j < n ∧ ops[j]? = some o := by
    intro o
    rw [List.mem_iff_getElem?]
    constructor
    · rintro ⟨j, hj⟩
      have hjn : j < n := by
        have := (List.getElem?_eq_some_iff.1 hj).1
        rw [List.length_take] at this
        omega
      rw [List.getElem?_take_of_lt hjn] at hj
      exact ⟨j, hjn, by simpa using hj⟩
    · rintro ⟨j, hjn, hj⟩
      exact ⟨j, by rw [List.getElem?_take_of_lt hjn]; simpa using hj⟩
  let I : Array Bool → Act → World → Prop := fun listed a w =>
    listed.size = ops.size ∧ a.defers = a0.defers ∧ a.tmps.size = a0.tmps.size ∧ (∀ t, (∀ p ∈ ops.toList.take n, p.dst ≠ some t) → a.tmps[t]? = a0.tmps[t]?) ∧
    (∀ (j : Nat) (o : Oper) (t : Nat), j < n → ops[j]? = some o → o.dst = some t → listed.getD j false = true → ∃ v, a.tmps[t]? = some v ∧ F j v w) ∧
    (∀ j, n ≤ j → listed.getD j false = false) ∧ (∀ (j : Nat) (o : Oper), j < n → ops[j]? = some o → listed.getD j false = true → ∀ e ∈ o.after, Region.binds .any e = true → listed.getD e.on false = true) ∧ (∀ (i j : Nat) (p o : Oper) (s t : Nat) (u v : Value), i < n → j < n → i ≠ j → ops[i]? = some p → ops[j]? = some o → p.dst = some s → o.dst = some t → listed.getD i false = true → listed.getD j false = true → a.tmps[s]? = some u → a.tmps[t]? = some v → E i j u v ∨ E j i v u) ∧ Kept [] w0 w
  have main : ∀ fuel listed a w, I listed a w → (listed.toList.filter (fun b => !b)).length = fuel → wpAny P .any ops Q fuel listed a w := by
    have hend : ∀ fuel listed a w, I listed a w → (listed.toList.filter (fun b => !b)).length = fuel → (∀ j, j < n → listed.getD j false = true) → wpAny P .any ops Q fuel listed a w := by
      intro fuel listed a w hI hfu hl
      obtain ⟨i1, i2, i3, i4, i5, i6, i7, i9, i8⟩ := hI
      have hlist : listed = lists n ops.size := by
        apply Array.ext_getElem?
        intro j
        by_cases hj : j < ops.size
        · have e : listed[j]? = some (listed.getD j false) := by simp [Array.getD, i1, hj]
          rw [e]
          unfold lists
          rw [List.getElem?_toArray]
          by_cases hjn : j < n
          · rw [hl j hjn, List.getElem?_append_left (by simpa using hjn), List.getElem?_replicate_of_lt hjn]
          · rw [i6 j (by omega), List.getElem?_append_right (by simp; omega), List.getElem?_replicate_of_lt (by simp; omega)]
        · rw [Array.getElem?_eq_none (by omega), Array.getElem?_eq_none (by have := K.le; simp [lists]; omega)]
      have hfuel : fuel = ops.size - n := by
        rw [← hfu, hlist]
        simp [lists, List.filter_append]
      have hval : ∀ (j : Nat), ∃ v, ∀ (o : Oper) (t : Nat), j < n → ops[j]? = some o → o.dst = some t → a.tmps[t]? = some v ∧ F j v w := by
        intro j
        by_cases hj : j < n
        · have hjs : j < ops.size := Nat.lt_of_lt_of_le hj K.le
          obtain ⟨t, ht⟩ := K.dst j ops[j] hj (Array.getElem?_eq_getElem hjs)
          obtain ⟨v, hv, hf⟩ := i5 j _ t hj (Array.getElem?_eq_getElem hjs) ht (hl j hj)
          refine ⟨v, fun o t' _ ho ht' => ?_⟩
          rw [Array.getElem?_eq_getElem hjs] at ho
          cases ho
          rw [ht] at ht'
          cases ht'
          exact ⟨hv, hf⟩
        · exact ⟨undef, fun o t hj' _ _ => absurd hj' hj⟩
      obtain ⟨f, hf⟩ := Classical.axiomOfChoice hval
      have hvs : ∀ (j : Nat) v, ((List.range n).map f)[j]? = some v → j < n ∧ v = f j := by
        intro j v hv
        rw [List.getElem?_map] at hv
        by_cases hj : j < n
        · rw [List.getElem?_range hj] at hv
          exact ⟨hj, by simpa using hv.symm⟩
        · rw [List.getElem?_eq_none (by simpa using hj)] at hv
          simp at hv
      have hQ' := hQ ((List.range n).map f) w (by simp) (fun j v hv => by
        obtain ⟨hj, rfl⟩ := hvs j v hv
        have hjs : j < ops.size := Nat.lt_of_lt_of_le hj K.le
        obtain ⟨t, ht⟩ := K.dst j ops[j] hj (Array.getElem?_eq_getElem hjs)
        exact (hf j _ t hj (Array.getElem?_eq_getElem hjs) ht).2) (fun i j u v hne hu hv => by
        obtain ⟨hi, rfl⟩ := hvs i u hu
        obtain ⟨hj, rfl⟩ := hvs j v hv
        have his : i < ops.size := Nat.lt_of_lt_of_le hi K.le
        have hjs : j < ops.size := Nat.lt_of_lt_of_le hj K.le
        obtain ⟨s, hs⟩ := K.dst i ops[i] hi (Array.getElem?_eq_getElem his)
        obtain ⟨t, ht⟩ := K.dst j ops[j] hj (Array.getElem?_eq_getElem hjs)
        exact i9 i j _ _ s t _ _ hi hj hne (Array.getElem?_eq_getElem his) (Array.getElem?_eq_getElem hjs) hs ht (hl i hi) (hl j hj) (hf i _ s hi (Array.getElem?_eq_getElem his) hs).1 (hf j _ t hj (Array.getElem?_eq_getElem hjs) ht).1) i8
      have hsame : putAll a0 (ops.toList.take n) ((List.range n).map f) = a := by
        have hsz := putAll_size (ops.toList.take n) ((List.range n).map f) a0
        have htm : (putAll a0 (ops.toList.take n) ((List.range n).map f)).tmps = a.tmps := by
          apply Array.ext_getElem?
          intro t
          by_cases hex : ∃ (j : Nat) (o : Oper), j < n ∧ ops[j]? = some o ∧ o.dst = some t
          · obtain ⟨j, o, hj, ho, ht⟩ := hex
            rw [(hf j o t hj ho ht).1]
            refine putAll_same (ops.toList.take n) _ a0 j o (f j) t (by rw [List.getElem?_take_of_lt hj]; simpa using ho) (by rw [List.getElem?_map, List.getElem?_range hj]; rfl) ht (hsl' o (Array.mem_of_getElem? ho) t ht) ?_
            intro i k p q hp hq hne
            have hin : i < n := by
              have := (List.getElem?_eq_some_iff.1 hp).1
              rw [List.length_take] at this; omega
            have hkn : k < n := by
              have := (List.getElem?_eq_some_iff.1 hq).1
              rw [List.length_take] at this; omega
            rw [List.getElem?_take_of_lt hin] at hp
            rw [List.getElem?_take_of_lt hkn] at hq
            exact K.apart i k p q hin hkn (by simpa using hp) (by simpa using hq) hne
          · have hno : ∀ p ∈ ops.toList.take n, p.dst ≠ some t := by
              intro p hp e
              obtain ⟨j, hj, hpj⟩ := (hmemT p).1 hp
              exact hex ⟨j, p, hj, hpj, e⟩
            rw [putAll_other _ _ _ _ hno, i4 t hno]
        have hdf := hsz.2.trans i2.symm
        generalize putAll a0 (ops.toList.take n) ((List.range n).map f) = A at *
        obtain ⟨x1, x2⟩ := A
        obtain ⟨y1, y2⟩ := a
        simp only at htm hdf
        subst htm hdf
        rfl
      rw [hnr, Nat.add_sub_cancel_left] at hfuel
      rw [hnr] at hlist
      rw [hsame, ← hlist, ← hfuel] at hQ'
      exact hQ'
    intro fuel
    induction fuel with
    | zero =>
      intro listed a w hI hfu
      refine hend 0 listed a w hI hfu (fun j hj => ?_)
      obtain ⟨i1, _⟩ := hI
      have hjs : j < listed.size := by rw [i1]; exact Nat.lt_of_lt_of_le hj K.le
      cases hl : listed.getD j false with
      | true => rfl
      | false =>
        exfalso
        have hmem : false ∈ listed.toList.filter (fun b => !b) := by
          rw [List.mem_filter]
          refine ⟨?_, rfl⟩
          simp only [Array.getD, hjs, dif_pos] at hl
          rw [← hl]
          exact Array.getElem_mem_toList hjs
        rw [List.length_eq_zero_iff] at hfu
        rw [hfu] at hmem
        simp at hmem
    | succ fuel ih =>
      intro listed a w hI hfu
      by_cases hfull : ∀ j, j < n → listed.getD j false = true
      · exact hend _ listed a w hI hfu hfull
      obtain ⟨i1, i2, i3, i4, i5, i6, i7, i9, i8⟩ := hI
      have hsome : ∃ j, j < n ∧ listed.getD j false = false ∧ ∀ i, i < j → listed.getD i false = true := by
        have : ∃ j, j < n ∧ listed.getD j false = false := by
          apply Classical.byContradiction
          intro hno
          exact hfull (fun j hj => by
            cases hl : listed.getD j false with
            | true => rfl
            | false => exact absurd ⟨j, hj, hl⟩ hno)
        obtain ⟨j, hj, hl⟩ := this
        induction j using Nat.strongRecOn with
        | _ j ihj =>
          by_cases h : ∀ i, i < j → listed.getD i false = true
          · exact ⟨j, hj, hl, h⟩
          · apply Classical.byContradiction
            intro hno
            exact h (fun i hi => by
              cases hli : listed.getD i false with
              | true => rfl
              | false => exact absurd (ihj i hi (by omega) hli) hno)
      obtain ⟨j0, hj0, hlj0, hbefore⟩ := hsome
      have hne : Region.ready .any ops listed ≠ [] := by
        intro hr
        have hjs : j0 < ops.size := Nat.lt_of_lt_of_le hj0 K.le
        have hmem : j0 ∈ Region.ready .any ops listed := by
          rw [mem_ready]
          refine ⟨?_, ops[j0], Array.getElem?_eq_getElem hjs, fun e he _ => hbefore e.on (K.back j0 _ hj0 (Array.getElem?_eq_getElem hjs) e he)⟩
          simp only [Array.getD] at hlj0 ⊢
          rw [dif_pos (by omega)] at hlj0 ⊢
          exact hlj0
        rw [hr] at hmem
        simp at hmem
      refine ⟨fun h0 => absurd h0 hne, fun i hi => ?_⟩
      rw [mem_ready] at hi
      obtain ⟨r1, o, ho, r2⟩ := hi
      have hio : i < ops.size := (Array.getElem?_eq_some_iff.1 ho).1
      have hil : i < listed.size := by omega
      have hself : ∀ d, (listed.setIfInBounds i true).getD i d = true := by intro d; simp [Array.getD, hil]
      have hin : i < n := by
        apply Classical.byContradiction
        intro h
        have := reaches_listed i6 i7 6 o (K.wait i j0 o (by omega) hj0 ho) r2
        rw [hlj0] at this
        cases this
      unfold wpOp
      rw [ho]
      have hnext : ∀ v w', F i v w' → Kept [] w w' → (∀ k u, k < n → k ≠ i → F k u w → E k i u v) → wpAny P .any ops Q fuel (listed.setIfInBounds i true) (a.put o.dst v) w' := by
        intro v w' hFv hk hE
        refine ih _ _ _ ⟨by simpa using i1, by rw [put_defers]; exact i2, by rw [put_size]; exact i3, ?_, ?_, ?_, ?_, ?_, i8.trans hk⟩ ?_
        · intro t ht
          rw [put_other _ _ _ _ (ht o ((hmemT o).2 ⟨i, hin, ho⟩))]
          exact i4 t ht
        · intro j p t hjn hp ht hlj
          by_cases hji : j = i
          · subst hji
            rw [ho] at hp
            cases hp
            rw [ht]
            exact ⟨v, put_same _ _ _ (by rw [i3]; exact hsl' o (Array.mem_of_getElem? ho) t ht), hFv⟩
          · rw [getD_set_ne _ (fun e => hji e.symm)] at hlj
            obtain ⟨u, hu, hfu'⟩ := i5 j p t hjn hp ht hlj
            refine ⟨u, ?_, hF _ _ _ _ hfu' hk⟩
            rw [put_other _ _ _ _ ?_]
            · exact hu
            · have := K.apart i j o p hin hjn ho hp (fun e => hji e.symm)
              rw [ht] at this
              exact this
        · intro j hj
          rw [getD_set_ne _ (by omega)]
          exact i6 j hj
        · intro j p hjn hp hlj e he hb
          by_cases hji : j = i
          · subst hji
            rw [ho] at hp
            cases hp
            exact getD_set_true (r2 e he hb)
          · rw [getD_set_ne _ (fun e => hji e.symm)] at hlj
            exact getD_set_true (i7 j p hjn hp hlj e he hb)
        · have old : ∀ (j : Nat) (p : Oper) (t : Nat) (u : Value), j < n → j ≠ i → ops[j]? = some p → p.dst = some t → (listed.setIfInBounds i true).getD j false = true → (a.put o.dst v).tmps[t]? = some u → listed.getD j false = true ∧ a.tmps[t]? = some u := by
            intro j p t u hjn hji hp ht hlj hu
            rw [getD_set_ne _ (fun e => hji e.symm)] at hlj
            rw [put_other _ _ _ _ (by have := K.apart i j o p hin hjn ho hp (fun e => hji e.symm); rw [ht] at this; exact this)] at hu
            exact ⟨hlj, hu⟩
          have new : ∀ (q : Oper) (t : Nat) (u : Value), ops[i]? = some q → q.dst = some t → (a.put o.dst v).tmps[t]? = some u → u = v := by
            intro q t u hq ht hu
            rw [ho] at hq
            cases hq
            rw [ht, put_same _ _ _ (by rw [i3]; exact hsl' o (Array.mem_of_getElem? ho) t ht)] at hu
            exact (Option.some.inj hu).symm
          intro j k p q s t u x hjn hkn hne hp hq hs ht hlj hlk hu hx
          by_cases hji : j = i
          · subst hji
            obtain ⟨hlk', hx'⟩ := old k q t x hkn (fun e => hne e.symm) hq ht hlk hx
            obtain rfl := new p s u hp hs hu
            obtain ⟨x', hx2, hfx⟩ := i5 k q t hkn hq ht hlk'
            rw [hx'] at hx2
            cases hx2
            exact .inr (hE k x hkn (fun e => hne e.symm) hfx)
          · obtain ⟨hlj', hu'⟩ := old j p s u hjn hji hp hs hlj hu
            by_cases hki : k = i
            · subst hki
              obtain rfl := new q t x hq ht hx
              obtain ⟨u', hu2, hfu2⟩ := i5 j p s hjn hp hs hlj'
              rw [hu'] at hu2
              cases hu2
              exact .inl (hE j u hjn hji hfu2)
            · obtain ⟨hlk', hx'⟩ := old k q t x hkn hki hq ht hlk hx
              exact i9 j k p q s t u x hjn hkn hne hp hq hs ht hlj' hlk' hu' hx'
        · have := unlisted_set' r1 hil
          omega
      have hyi : ∀ k b, o.guard = some (k, b) → ∃ v, F k v w ∧ yielded ops a.tmps k = boolOf v := by
        intro k b hg
        obtain ⟨e, he, hb, rfl⟩ := K.guard i o k b hin ho hg
        have hen : e.on < n := by have := K.back i o hin ho e he; omega
        have hes : e.on < ops.size := Nat.lt_of_lt_of_le hen K.le
        obtain ⟨t, ht⟩ := K.dst e.on ops[e.on] hen (Array.getElem?_eq_getElem hes)
        obtain ⟨v, hv, hf⟩ := i5 e.on _ t hen (Array.getElem?_eq_getElem hes) ht (r2 e he hb)
        exact ⟨v, hf, yielded_of hes ht hv⟩
      cases hsk : skip i with
      | true =>
        have hwt : Region.wanted o (yielded ops a.tmps) = false := by
          cases hg : o.guard with
          | none => have := hng i o hin ho hg; rw [hsk] at this; cases this
          | some g =>
            obtain ⟨k, b⟩ := g
            obtain ⟨v, hf, hy⟩ := hyi k b hg
            rcases hgd i o k b hin ho hg with ⟨h1, _⟩ | ⟨_, h2⟩
            · rw [hsk] at h1; cases h1
            · exact wanted_no hg hy (h2 v w hf)
        simp only [hwt, Bool.false_eq_true, if_false]
        exact hnext undef w (hun i w hsk) (Kept.refl _ _) (fun k u _ _ _ => hunE k i u hsk)
      | false =>
      have hwt : Region.wanted o (yielded ops a.tmps) = true := by
        cases hg : o.guard with
        | none => simp [Region.wanted, hg]
        | some g =>
          obtain ⟨k, b⟩ := g
          obtain ⟨v, hf, hy⟩ := hyi k b hg
          rcases hgd i o k b hin ho hg with ⟨_, h1⟩ | ⟨h2, _⟩
          · have := h1 v w hf
            subst this
            simp [Region.wanted, hg, hy, boolOf]
          · rw [hsk] at h2; cases h2
      simp only [hwt, if_true]
      left
      refine Oper.wp_mono ?_ (hop i o hin hsk ho a w ?_ ?_ i8)
      · rintro a' w' ⟨v, rfl, hFv, hk, hE⟩
        exact hnext v w' hFv hk hE
      · intro t ht
        have := i4 t (fun p hp => by
          have := (List.all_eq_true.1 ht) p hp
          simpa using this)
        simp only [Act.eval, Array.getD_eq_getD_getElem?, this]
      · intro k t hk hpt
        obtain ⟨p, hp, ht⟩ := Option.bind_eq_some_iff.1 hpt
        simp only [Array.any_eq_true'] at hk
        obtain ⟨e, he, hb⟩ := hk
        simp only [Bool.and_eq_true, beq_iff_eq] at hb
        obtain ⟨hb, rfl⟩ := hb
        have hen : e.on < n := by have := K.back i o hin ho e he; omega
        obtain ⟨v, hv, hf⟩ := i5 e.on p t hen hp ht (r2 e he hb)
        have : a.eval (.tmp t) = v := by simp [Act.eval, Array.getD_eq_getD_getElem?, hv]
        rw [this]
        exact hf
  refine main _ _ _ _ ⟨by simp, rfl, rfl, fun t _ => rfl, ?_, ?_, ?_, ?_, ?_⟩ (by simp)
  · intro j o t hj ho ht hl
    simp [Array.getD, (Array.getElem?_eq_some_iff.1 ho).1] at hl
  · intro j _
    simp [Array.getD]
  · intro j o hj ho hl
    simp [Array.getD, (Array.getElem?_eq_some_iff.1 ho).1] at hl
  · intro i j p o s t u v hi hj hne hp ho hs ht hl
    simp [Array.getD, (Array.getElem?_eq_some_iff.1 hp).1] at hl
  · exact ⟨rfl, rfl, rfl, Nat.le_refl _, fun _ _ _ => rfl⟩
end

theorem wp_region_prefS {id : Nat} {P : Program} {ops : Array Oper} {Q : Exit → Act → World → Prop} {a0 : Act} {w0 : World} (hm : P.follows .mixedOrders = true) (n r : Nat) (hnr : ops.size = n + r) (hok : prefG ops n = true) (F : Nat → Value → World → Prop) (E : Nat → Nat → Value → Value → Prop)
    (skip : Nat → Bool) (hgd : ∀ (j : Nat) (o : Oper) (i : Nat) (b : Bool), j < n → ops[j]? = some o → o.guard = some (i, b) → (skip j = false ∧ ∀ v w, F i v w → v = .bool b) ∨ (skip j = true ∧ ∀ v w, F i v w → v ≠ .bool b))
    (hng : ∀ (j : Nat) (o : Oper), j < n → ops[j]? = some o → o.guard = none → skip j = false) (hun : ∀ j w, skip j = true → F j undef w) (hunE : ∀ i j u, skip j = true → E i j u undef)
    (hF : ∀ j v w w', F j v w → Kept [] w w' → F j v w') (hsl : ops.all (fun o => match o.dst with | none => true | some t => decide (t < a0.tmps.size)) = true)
    (hop : ∀ (j : Nat) (o : Oper), j < n → skip j = false → ops[j]? = some o → ∀ a w, (∀ t : Nat, (ops.toList.take n).all (fun p => p.dst != some t) = true → a.eval (.tmp t) = a0.eval (.tmp t)) →
      (∀ (i t : Nat), o.after.any (fun e => Region.binds .any e && e.on == i) = true → ops[i]?.bind (·.dst) = some t → F i (a.eval (.tmp t)) w) → Kept [] w0 w →
      o.wp P a w (fun a' w' => ∃ v, a' = a.put o.dst v ∧ F j v w' ∧ Kept [] w w' ∧ ∀ i u, i < n → i ≠ j → F i u w → E i j u v) Q)
    (hQ : ∀ (vs : List Value) w, vs.length = n → (∀ (j : Nat) v, vs[j]? = some v → F j v w) → (∀ (i j : Nat) u v, i ≠ j → vs[i]? = some u → vs[j]? = some v → E i j u v ∨ E j i v u) → Kept [] w0 w → wpAny P .any ops Q r (lists n (n + r)) (putAll a0 (ops.toList.take n) vs) w) :
    (Code.region id ops true).wp P Q a0 w0 := by
  refine wp_region_any hm ?_
  have hd : Kept [] w0 { w0 with drawn := w0.drawn + 1 } := ⟨rfl, rfl, rfl, Nat.le_refl _, fun _ _ _ => rfl⟩
  exact wpAny_prefS n r hnr hok F E skip hgd hng hun hunE hF hsl (fun j o hj hs ho a w h1 h2 h3 => hop j o hj hs ho a w h1 h2 (hd.trans h3)) (fun vs w h1 h2 h3 h4 => hQ vs w h1 h2 h3 (hd.trans h4))

/-- A region all of whose operations only look, call or make new memory. -/
theorem wp_region_allS {id : Nat} {P : Program} {ops : Array Oper} {Q : Exit → Act → World → Prop} {a0 : Act} {w0 : World} (hm : P.follows .mixedOrders = true) (n : Nat) (hnr : ops.size = n) (hok : prefG ops n = true) (F : Nat → Value → World → Prop) (E : Nat → Nat → Value → Value → Prop)
    (skip : Nat → Bool) (hgd : ∀ (j : Nat) (o : Oper) (i : Nat) (b : Bool), j < n → ops[j]? = some o → o.guard = some (i, b) → (skip j = false ∧ ∀ v w, F i v w → v = .bool b) ∨ (skip j = true ∧ ∀ v w, F i v w → v ≠ .bool b))
    (hng : ∀ (j : Nat) (o : Oper), j < n → ops[j]? = some o → o.guard = none → skip j = false) (hun : ∀ j w, skip j = true → F j undef w) (hunE : ∀ i j u, skip j = true → E i j u undef)
    (hF : ∀ j v w w', F j v w → Kept [] w w' → F j v w') (hsl : ops.all (fun o => match o.dst with | none => true | some t => decide (t < a0.tmps.size)) = true)
    (hop : ∀ (j : Nat) (o : Oper), j < n → skip j = false → ops[j]? = some o → ∀ a w, (∀ t : Nat, (ops.toList.take n).all (fun p => p.dst != some t) = true → a.eval (.tmp t) = a0.eval (.tmp t)) →
      (∀ (i t : Nat), o.after.any (fun e => Region.binds .any e && e.on == i) = true → ops[i]?.bind (·.dst) = some t → F i (a.eval (.tmp t)) w) → Kept [] w0 w →
      o.wp P a w (fun a' w' => ∃ v, a' = a.put o.dst v ∧ F j v w' ∧ Kept [] w w' ∧ ∀ i u, i < n → i ≠ j → F i u w → E i j u v) Q)
    (hQ : ∀ (A : Act) w, A.defers = a0.defers → A.tmps.size = a0.tmps.size → (∀ (j t : Nat), j < n → ops[j]?.bind (·.dst) = some t → F j (A.eval (.tmp t)) w) → (∀ t : Nat, (ops.toList.take n).all (fun p => p.dst != some t) = true → A.eval (.tmp t) = a0.eval (.tmp t)) → Kept [] w0 w → Q .normal A w) :
    (Code.region id ops true).wp P Q a0 w0 := by
  have K := prefG_spec hok
  refine wp_region_prefS hm n 0 (by omega) hok F E skip hgd hng hun hunE hF hsl hop ?_
  intro vs w hlen hv _ hk
  have hready : Region.ready .any ops (lists n (n + 0)) = [] := by
    apply List.eq_nil_iff_forall_not_mem.2
    intro j hj
    rw [mem_ready] at hj
    have h1 := hj.1
    obtain ⟨o, ho, _⟩ := hj.2
    have hjn : j < n := by rw [← hnr]; exact (Array.getElem?_eq_some_iff.1 ho).1
    simp [lists, Array.getD, hjn] at h1
  have hsz := putAll_size (ops.toList.take n) vs a0
  have hsl' : ∀ o ∈ ops, ∀ t, o.dst = some t → t < a0.tmps.size := by
    intro o ho t ht
    have := (Array.all_eq_true_iff_forall_mem.1 hsl) o ho
    rw [ht] at this
    simpa using this
  refine wpAny_done hready (hQ _ w hsz.2 hsz.1 ?_ ?_ hk) _
  · intro j t hj hd
    obtain ⟨o, ho, ht⟩ := Option.bind_eq_some_iff.1 hd
    have hjl : j < vs.length := by omega
    have := putAll_same (ops.toList.take n) vs a0 j o vs[j] t (by rw [List.getElem?_take_of_lt hj]; simpa using ho) (List.getElem?_eq_getElem hjl) ht (hsl' o (Array.mem_of_getElem? ho) t ht) ?_
    · have e : (putAll a0 (ops.toList.take n) vs).eval (.tmp t) = vs[j] := by simp [Act.eval, Array.getD_eq_getD_getElem?, this]
      rw [e]
      exact hv j _ (List.getElem?_eq_getElem hjl)
    · intro i k p q hp hq hne
      have hin : i < n := by
        have := (List.getElem?_eq_some_iff.1 hp).1
        rw [List.length_take] at this; omega
      have hkn : k < n := by
        have := (List.getElem?_eq_some_iff.1 hq).1
        rw [List.length_take] at this; omega
      rw [List.getElem?_take_of_lt hin] at hp
      rw [List.getElem?_take_of_lt hkn] at hq
      exact K.apart i k p q hin hkn (by simpa using hp) (by simpa using hq) hne
  · intro t ht
    have := putAll_other (ops.toList.take n) vs a0 t (fun o ho => by
      have := (List.all_eq_true.1 ht) o ho
      simpa using this)
    simp only [Act.eval, Array.getD_eq_getD_getElem?, this]

end Go.Proofs.YtmeajhdhiebkdaaDoor.Rc

/-
  A region that keeps the text's order, by the same table as one that draws its order.
-/
namespace Go.Proofs.YtmeajhdhiebkdaaDoor.Rc
set_option maxRecDepth 100000
open Go.RowKit

theorem lists_set {k n : Nat} (h : k < n) : (lists k n).setIfInBounds k true = lists (k + 1) n := by
  apply Array.ext_getElem?
  intro j
  unfold lists
  simp only [List.setIfInBounds_toArray, List.getElem?_toArray]
  by_cases hjk : j = k
  · subst hjk
    rw [List.getElem?_set_self (by simp; omega), List.getElem?_append_left (by simp), List.getElem?_replicate_of_lt (by omega)]
  · rw [List.getElem?_set_ne (fun e => hjk e.symm)]
    by_cases h1 : j < k
    · rw [List.getElem?_append_left (by simpa using h1), List.getElem?_append_left (by simp; omega), List.getElem?_replicate_of_lt h1, List.getElem?_replicate_of_lt (by omega)]
    · rw [List.getElem?_append_right (by simp; omega), List.getElem?_append_right (by simp; omega)]
      simp only [List.length_replicate]
      by_cases h2 : j < n
      · rw [List.getElem?_replicate_of_lt (by omega), List.getElem?_replicate_of_lt (by omega)]
      · rw [List.getElem?_eq_none (by simp; omega), List.getElem?_eq_none (by simp; omega)]

theorem ops_of_any {P : Program} {ops : Array Oper} {Q : Exit → Act → World → Prop} {n : Nat} (hn : ops.size = n) (K : PrefG ops n) : ∀ (m k : Nat) (a : Act) (w : World), k + m = n → wpAny P .any ops Q m (lists k n) a w → wpOps P ops Q (List.range' k m) a w := by
  intro m
  induction m with
  | zero => intro k a w _ h; exact h.2
  | succ m ih =>
    intro k a w hk h
    have hks : k < ops.size := by omega
    have hmem : k ∈ Region.ready .any ops (lists k n) := by
      rw [mem_ready]
      refine ⟨by simp [lists, Array.getD]; omega, ops[k], Array.getElem?_eq_getElem hks, fun e he _ => ?_⟩
      have := K.back k _ (by omega) (Array.getElem?_eq_getElem hks) e he
      simp [lists, Array.getD, this]; omega
    have h1 := h.2 k hmem
    rw [lists_set (by omega)] at h1
    have e : List.range' k (m + 1) = k :: List.range' (k + 1) m := rfl
    rw [e, wpOps_cons]
    unfold wpOp at h1 ⊢
    rw [Array.getElem?_eq_getElem hks] at h1 ⊢
    simp only at h1 ⊢
    split
    · next hw =>
      rw [if_pos hw] at h1
      rcases h1 with h1 | h1
      · exact .inl (Oper.wp_mono (fun a w h => ih (k + 1) a w (by omega) h) h1)
      · exact .inr h1
    · next hw =>
      rw [if_neg hw] at h1
      exact ih (k + 1) _ w (by omega) h1

/-- A region that keeps the text's order. -/
theorem wp_region_text {id : Nat} {P : Program} {ops : Array Oper} {Q : Exit → Act → World → Prop} {a0 : Act} {w0 : World} (n : Nat) (hnr : ops.size = n) (hok : prefG ops n = true) (F : Nat → Value → World → Prop) (E : Nat → Nat → Value → Value → Prop)
    (skip : Nat → Bool) (hgd : ∀ (j : Nat) (o : Oper) (i : Nat) (b : Bool), j < n → ops[j]? = some o → o.guard = some (i, b) → (skip j = false ∧ ∀ v w, F i v w → v = .bool b) ∨ (skip j = true ∧ ∀ v w, F i v w → v ≠ .bool b))
    (hng : ∀ (j : Nat) (o : Oper), j < n → ops[j]? = some o → o.guard = none → skip j = false) (hun : ∀ j w, skip j = true → F j undef w) (hunE : ∀ i j u, skip j = true → E i j u undef)
    (hF : ∀ j v w w', F j v w → Kept [] w w' → F j v w') (hsl : ops.all (fun o => match o.dst with | none => true | some t => decide (t < a0.tmps.size)) = true)
    (hop : ∀ (j : Nat) (o : Oper), j < n → skip j = false → ops[j]? = some o → ∀ a w, (∀ t : Nat, (ops.toList.take n).all (fun p => p.dst != some t) = true → a.eval (.tmp t) = a0.eval (.tmp t)) →
      (∀ (i t : Nat), o.after.any (fun e => Region.binds .any e && e.on == i) = true → ops[i]?.bind (·.dst) = some t → F i (a.eval (.tmp t)) w) → Kept [] w0 w →
      o.wp P a w (fun a' w' => ∃ v, a' = a.put o.dst v ∧ F j v w' ∧ Kept [] w w' ∧ ∀ i u, i < n → i ≠ j → F i u w → E i j u v) Q)
    (hQ : ∀ (vs : List Value) w, vs.length = n → (∀ (j : Nat) v, vs[j]? = some v → F j v w) → Kept [] w0 w → Q .normal (putAll a0 (ops.toList.take n) vs) w) :
    (Code.region id ops false).wp P Q a0 w0 := by
  refine wp_region ?_
  rw [List.range_eq_range', hnr]
  have K := prefG_spec hok
  refine ops_of_any hnr K n 0 a0 w0 (by omega) ?_
  have := wpAny_prefS (P := P) (Q := Q) (a0 := a0) (w0 := w0) n 0 (by omega) hok F E skip hgd hng hun hunE hF hsl hop (fun vs w h1 h2 _ h4 => by
    refine ⟨?_, hQ vs w h1 h2 h4⟩
    apply List.eq_nil_iff_forall_not_mem.2
    intro j hj
    rw [mem_ready] at hj
    have h1 := hj.1
    obtain ⟨o, ho, _⟩ := hj.2
    have hjn : j < n := by rw [← hnr]; exact (Array.getElem?_eq_some_iff.1 ho).1
    simp [lists, Array.getD, hjn] at h1)
  have e : lists 0 n = Array.replicate n false := by simp [lists]
  rw [e]
  rw [hnr] at this
  exact this

end Go.Proofs.YtmeajhdhiebkdaaDoor.Rc

/-
  Tables for regions whose guarded operations may be left out.
-/
namespace Go.Proofs.YtmeajhdhiebkdaaDoor.Rc
set_option maxRecDepth 100000
open Go.RowKit

/-- What is known of a value: it is this one; the operation is left out; a pointer to a new block that has these cells. -/
inductive Fc
  | is (v : Value)
  | no
  | new (T : Nat) (vs : List Value) (B : Nat)
def Fc.at (v : Value) (w : World) : Fc → Prop
  | .is u => v = u
  | .no => v = undef
  | .new T vs B => ∃ q, v = P0 q ∧ B ≤ q ∧ Blk w q T vs
def tc (fs : List Fc) (j : Nat) (v : Value) (w : World) : Prop := match fs[j]? with
  | some f => f.at v w
  | none => True
theorem tc_kept (fs : List Fc) : ∀ j v w w', tc fs j v w → Kept [] w w' → tc fs j v w' := by
  intro j v w w' h hk
  unfold tc at *
  cases hf : fs[j]? with
  | none => trivial
  | some f =>
    rw [hf] at h
    cases f with
    | is u => exact h
    | no => exact h
    | new T vs B =>
      obtain ⟨q, h1, h2, h3⟩ := h
      exact ⟨q, h1, h2, h3.kept hk (by simp)⟩
def skipOf (fs : List Fc) (j : Nat) : Bool := match fs[j]? with
  | some .no => true
  | _ => false
/-- The guards of a region are what the table says. -/
def guardsS (ops : Array Oper) (fs : List Fc) : Bool := (List.range ops.size).all (fun j => match ops[j]? with
  | none => false
  | some o => match o.guard with
    | none => !skipOf fs j
    | some (i, b) => match fs[i]? with
      | some (.is (.bool c)) => if c == b then !skipOf fs j else skipOf fs j
      | some .no => skipOf fs j
      | _ => false)
theorem guardsS_some {ops : Array Oper} {fs : List Fc} (h : guardsS ops fs = true) : ∀ (j : Nat) (o : Oper) (i : Nat) (b : Bool), ops[j]? = some o → o.guard = some (i, b) → (skipOf fs j = false ∧ ∀ v w, tc fs i v w → v = .bool b) ∨ (skipOf fs j = true ∧ ∀ v w, tc fs i v w → v ≠ .bool b) := by
  intro j o i b ho hg
  have := (List.all_eq_true.1 h) j (List.mem_range.2 (Array.getElem?_eq_some_iff.1 ho).1)
  simp only [ho, hg] at this
  unfold tc
  cases hfi : fs[i]? with
  | none => rw [hfi] at this; simp at this
  | some f =>
    rw [hfi] at this
    cases f with
    | new T vs B => simp at this
    | no =>
      refine .inr ⟨by simpa using this, fun v w hv => ?_⟩
      have : v = undef := hv
      rw [this]
      simp [undef]
    | is u =>
      cases u <;> first | (simp at this; done) | skip
      rename_i c
      by_cases hcb : c = b
      · subst hcb
        refine .inl ⟨by simpa using this, fun v w hv => hv⟩
      · refine .inr ⟨?_, fun v w hv => ?_⟩
        · have hne : (c == b) = false := beq_eq_false_iff_ne.2 hcb
          simpa [hne] using this
        · have hv' : v = .bool c := hv
          rw [hv']
          intro e
          exact hcb (by cases e; rfl)
theorem guardsS_none {ops : Array Oper} {fs : List Fc} (h : guardsS ops fs = true) : ∀ (j : Nat) (o : Oper), ops[j]? = some o → o.guard = none → skipOf fs j = false := by
  intro j o ho hg
  have := (List.all_eq_true.1 h) j (List.mem_range.2 (Array.getElem?_eq_some_iff.1 ho).1)
  simp only [ho, hg] at this
  simpa using this
theorem skip_undef {fs : List Fc} {j : Nat} (w : World) (h : skipOf fs j = true) : tc fs j undef w := by
  unfold skipOf at h
  unfold tc
  split at h
  · next hf => rw [hf]; rfl
  · cases h
/-- What each operation of such a region must show. -/
def opPc (fs : List Fc) (o : Oper) (a : Act) (w : World) (j n : Nat) (a' : Act) (w' : World) : Prop := ∃ v, a' = a.put o.dst v ∧ tc fs j v w' ∧ Kept [] w w' ∧ ∀ i u, i < n → i ≠ j → tc fs i u w → True
theorem postc {fs : List Fc} {o : Oper} {a : Act} {w w' : World} {j n : Nat} {v : Value} (hv : tc fs j v w') (hk : Kept [] w w') : opPc fs o a w j n (a.put o.dst v) w' := ⟨v, rfl, hv, hk, fun _ _ _ _ _ => trivial⟩

section
variable {o : Oper} {a : Act} {w : World} {K : Act → World → Prop} {Q : Exit → Act → World → Prop}
theorem o_conv53 (x : Operand) (ho : o.op = .convert 5 3 x) (c : Int) (hc : 0 ≤ c ∧ c < 256) (hx : a.eval x = .int .u8 c) (h : K (a.put o.dst (.int .i64 c)) w) : o.wp Tryd.prog a w K Q := by
  have hw : IntKind.i64.wrap c = c := by rw [IntKind.wrap_i64]; omega
  unfold Oper.wp execOp
  simp only [ho, hx]
  simp [go_sem, hw]
  exact h
theorem o_sub3 (x : Operand) (k : Int) (ho : o.op = .binOp .sub 3 x (.const (.int .i64 k)) 3) (c : Int) (hc : -1000000 ≤ c - k ∧ c - k ≤ 1000000) (hx : a.eval x = .int .i64 c) (h : K (a.put o.dst (.int .i64 (c - k))) w) : o.wp Tryd.prog a w K Q := by
  have hw : IntKind.i64.wrap (c - k) = c - k := by rw [IntKind.wrap_i64]; omega
  unfold Oper.wp execOp
  simp only [ho, hx]
  simp [go_sem, hw]
  exact h
theorem o_pickT (c x : Operand) (ho : o.op = .pick c (.const (.bool true)) x) (r s : Bool) (hc : a.eval c = .bool r) (hx : r = false → a.eval x = .bool s) (h : K (a.put o.dst (.bool (r || s))) w) (hs : r = true → s = false) : o.wp Tryd.prog a w K Q := by
  unfold Oper.wp execOp
  simp only [ho, hc]
  cases r with
  | true => rw [hs rfl] at h; simp [go_sem]; exact h
  | false => rw [hx rfl]; simp [go_sem]; exact h
theorem o_buildP {T : Nat} (parts : Array (Nat × Operand)) (ho : o.op = .build T parts) (ps : Array (Nat × Value)) (hp : (parts.map fun (i, x) => (i, a.eval x)) = ps) (vs : List Value) (hr : (Instr.build T ps).run Tryd.prog w = .ok (aggV vs) w) (h : K (a.put o.dst (aggV vs)) w) : o.wp Tryd.prog a w K Q := by
  subst hp
  unfold Oper.wp execOp
  simp only [ho, Sem.run_bind, hr, Result.andThen_ok]
  exact h
theorem o_neqA (T r : Nat) (hG : Tryd.prog.eqGuardType Tryd.prog.depth T = false) (x y : Operand) (ho : o.op = .binOp .neq T x y r) (vs us : List Value) (hx : a.eval x = aggV vs) (hy : a.eval y = aggV us) (c : Bool)
    (he : (Op.equal T (aggV vs) (aggV us)).run Tryd.prog w = .ok c w) (h : K (a.put o.dst (.bool (!c))) w) : o.wp Tryd.prog a w K Q := by
  unfold Oper.wp execOp
  simp only [aggV] at he hx hy
  have hg : (eqGuard .neq T x y (.agg vs.toArray) (.agg us.toArray)).run Tryd.prog w = .ok () w := by simp [eqGuard, Sem.run_bind, hG]
  have hb : (binOp BinOp.neq T (.agg vs.toArray) (.agg us.toArray)).run Tryd.prog w = .ok (.bool (!c)) w := by simp only [binOp, Sem.run_bind, he, Result.andThen_ok, Sem.run_pure]
  simp only [ho, hx, hy, Sem.run_bind, hg, hb, Result.andThen_ok]
  exact h
end

section
variable {o : Oper} {a : Act} {w : World} {K : Act → World → Prop} {Q : Exit → Act → World → Prop}
theorem wp_move (x : Operand) (ho : o.op = .move x) (v : Value) (hx : a.eval x = v) (h : K (a.put o.dst v) w) : o.wp Tryd.prog a w K Q := by
  subst hx
  unfold Oper.wp execOp
  simp only [ho]
  exact h
theorem wp_assignV (x : Operand) (ho : o.op = .assign x) (v : Value) (hx : a.eval x = v) (h : K (a.put o.dst v) w) : o.wp Tryd.prog a w K Q := by
  subst hx
  exact wp_assign x ho h
theorem o_gtr3 (x : Operand) (c : Int) (ho : o.op = .binOp .gtr 3 x (.const (.int .i64 c)) 3) (m : Int) (r : Bool) (hr : decide (c < m) = r) (hx : a.eval x = .int .i64 m) (h : K (a.put o.dst (.bool r)) w) : o.wp Tryd.prog a w K Q := by
  unfold Oper.wp execOp
  simp only [ho, hx]
  simp [go_sem, hr]
  exact h
theorem o_pickN (c x : Operand) (ho : o.op = .pick c x (.const (.bool false))) (hc : a.eval c = .bool false) (h : K (a.put o.dst (.bool false)) w) : o.wp Tryd.prog a w K Q := by
  unfold Oper.wp execOp
  simp only [ho, hc]
  simp [go_sem]
  exact h
end

end Go.Proofs.YtmeajhdhiebkdaaDoor.Rc

/-
  Tables for regions whose guarded operations may be left out.
-/
namespace Go.Proofs.YtmeajhdhiebkdaaDoor.Rc
set_option maxRecDepth 100000
open Go.RowKit

/-- What is known of each operation's value; none: the operation is left out. -/
def tq (us : List (Option Value)) (j : Nat) (v : Value) (_ : World) : Prop := match us[j]? with
  | some (some u) => v = u
  | some none => v = undef
  | none => True
theorem tq_kept (us : List (Option Value)) : ∀ j v w w', tq us j v w → Kept [] w w' → tq us j v w' := fun _ _ _ _ h _ => h
def skipQ (us : List (Option Value)) (j : Nat) : Bool := match us[j]? with
  | some none => true
  | _ => false
def guardsQ (ops : Array Oper) (us : List (Option Value)) : Bool := (List.range ops.size).all (fun j => match ops[j]? with
  | none => false
  | some o => match o.guard with
    | none => !skipQ us j
    | some (i, b) => match us[i]? with
      | some (some (.bool c)) => if c == b then !skipQ us j else skipQ us j
      | some none => skipQ us j
      | _ => false)
theorem guardsQ_some {ops : Array Oper} {us : List (Option Value)} (h : guardsQ ops us = true) : ∀ (j : Nat) (o : Oper) (i : Nat) (b : Bool), ops[j]? = some o → o.guard = some (i, b) → (skipQ us j = false ∧ ∀ v w, tq us i v w → v = .bool b) ∨ (skipQ us j = true ∧ ∀ v w, tq us i v w → v ≠ .bool b) := by
  intro j o i b ho hg
  have := (List.all_eq_true.1 h) j (List.mem_range.2 (Array.getElem?_eq_some_iff.1 ho).1)
  simp only [ho, hg] at this
  unfold tq
  cases hfi : us[i]? with
  | none => rw [hfi] at this; simp at this
  | some f =>
    rw [hfi] at this
    cases f with
    | none =>
      refine .inr ⟨by simpa using this, fun v w hv => ?_⟩
      have : v = undef := hv
      rw [this]
      simp [undef]
    | some u =>
      cases u <;> first | (simp at this; done) | skip
      rename_i c
      by_cases hcb : c = b
      · subst hcb
        refine .inl ⟨by simpa using this, fun v w hv => hv⟩
      · refine .inr ⟨?_, fun v w hv => ?_⟩
        · have hne : (c == b) = false := beq_eq_false_iff_ne.2 hcb
          simpa [hne] using this
        · have hv' : v = .bool c := hv
          rw [hv']
          intro e
          exact hcb (by cases e; rfl)
theorem guardsQ_none {ops : Array Oper} {us : List (Option Value)} (h : guardsQ ops us = true) : ∀ (j : Nat) (o : Oper), ops[j]? = some o → o.guard = none → skipQ us j = false := by
  intro j o ho hg
  have := (List.all_eq_true.1 h) j (List.mem_range.2 (Array.getElem?_eq_some_iff.1 ho).1)
  simp only [ho, hg] at this
  simpa using this
theorem skipQ_undef {us : List (Option Value)} {j : Nat} (w : World) (h : skipQ us j = true) : tq us j undef w := by
  unfold skipQ at h
  unfold tq
  split at h
  · next hf => rw [hf]
  · cases h
theorem tq_is (us : List (Option Value)) (j : Nat) (v : Value) (w : World) (hv : us[j]? = some (some v)) : tq us j v w := by
  unfold tq; rw [hv]
theorem is_tq {us : List (Option Value)} {j : Nat} {v u : Value} {w : World} (h : tq us j v w) (hv : us[j]? = some (some u)) : v = u := by
  unfold tq at h; rw [hv] at h; exact h
/-- The values of a table. -/
def valsQ (us : List (Option Value)) : List Value := us.map (fun o => o.getD undef)
theorem vs_tq {us : List (Option Value)} {vs : List Value} {w : World} (h : ∀ (j : Nat) v, vs[j]? = some v → tq us j v w) (hl : vs.length = us.length) : vs = valsQ us := by
  apply List.ext_getElem (by simp [valsQ, hl])
  intro i h1 h2
  have := h i _ (List.getElem?_eq_getElem h1)
  unfold tq at this
  rw [List.getElem?_eq_getElem (by omega)] at this
  simp only [valsQ, List.getElem_map]
  cases hq : us[i]'(by omega) with
  | none => rw [hq] at this; exact this
  | some u => rw [hq] at this; exact this

/-- A region that draws its order, by its table. -/
theorem wpAny_tq {ops : Array Oper} {Q : Exit → Act → World → Prop} {a0 : Act} {w0 : World} (n : Nat) (hn : ops.size = n) (hok : prefG ops n = true) (us : List (Option Value)) (hu : us.length = n) (hg : guardsQ ops us = true)
    (hsl : ops.all (fun o => match o.dst with | none => true | some t => decide (t < a0.tmps.size)) = true)
    (hop : ∀ (j : Nat) (o : Oper), j < n → skipQ us j = false → ops[j]? = some o → ∀ a w, (∀ t : Nat, (ops.toList.take n).all (fun p => p.dst != some t) = true → a.eval (.tmp t) = a0.eval (.tmp t)) →
      (∀ (i t : Nat), o.after.any (fun e => Region.binds .any e && e.on == i) = true → ops[i]?.bind (·.dst) = some t → tq us i (a.eval (.tmp t)) w) → Kept [] w0 w →
      o.wp Tryd.prog a w (fun a' w' => ∃ v, a' = a.put o.dst v ∧ tq us j v w' ∧ Kept [] w w' ∧ ∀ i u, i < n → i ≠ j → tq us i u w → True) Q)
    (hQ : ∀ w, Kept [] w0 w → wpAny Tryd.prog .any ops Q 0 (lists n (n + 0)) (putAll a0 (ops.toList.take n) (valsQ us)) w) :
    wpAny Tryd.prog .any ops Q ops.size (Array.replicate ops.size false) a0 w0 := by
  refine wpAny_prefS n 0 (by omega) hok (tq us) (fun _ _ _ _ => True) (skipQ us) (fun j o i b _ ho hg' => guardsQ_some hg j o i b ho hg') (fun j o _ ho hg' => guardsQ_none hg j o ho hg') (fun j w h => skipQ_undef w h) (fun _ _ _ _ => trivial) (tq_kept us) hsl hop ?_
  intro vs w hlen hv _ hk
  obtain rfl := vs_tq hv (by omega)
  exact hQ w hk

end Go.Proofs.YtmeajhdhiebkdaaDoor.Rc

/-
  The walk of known: the chapter's rows.
-/
namespace Go.Proofs.YtmeajhdhiebkdaaDoor.Rc
set_option maxRecDepth 100000
open Go.RowKit

theorem size2 : (Tryd.prog.info? 2).map (·.size) = some 1 := by kernel_rfl
theorem size3 : (Tryd.prog.info? 3).map (·.size) = some 1 := by kernel_rfl
theorem size5 : (Tryd.prog.info? 5).map (·.size) = some 1 := by kernel_rfl
/-- One cell of a block is written. -/
theorem wpStore1 {ops : Array Oper} {rest : List Oper} {op : Oper} {a : Act} {w : World} {Q : Exit → Act → World → Prop} {T : Nat} (hi : (Tryd.prog.info? T).map (·.size) = some 1) (hgd : op.guard = none) (x y : Operand) (ho : op.op = .store T x y) (hd : op.dst = none) (b off : Nat) (κ : IntKind) (x0 : Int) (TT : Nat) (us : List Value) (hx : a.eval x = .pointer (some ⟨b, off, none⟩)) (hy : a.eval y = .int κ x0) (hB : Blk w b TT us) (hl : decide (off < us.length) = true)
    (h : ∀ W, Blk W b TT (us.set off (.int κ x0)) → Kept [b] w W → wpList Tryd.prog ops Q rest a W) : wpList Tryd.prog ops Q (op :: rest) a w :=
  wpList_plain hgd fun K hK => by
    have hl := of_decide_eq_true hl
    have hc := hB.cell off
    rw [List.getElem?_eq_getElem hl] at hc
    have hf := hB.frozen off
    have hr := h _ (hB.set (i := off) (.int κ x0)) ((Kept.refl _ _).setCell (by simp) (.int κ x0))
    have hst : (storeVar T ⟨b, off, none⟩ (.int κ x0)).run Tryd.prog w = .ok () (w.setCell ⟨b, off, none⟩ (.int κ x0)) := by
      have g1 : ∀ j, j < [Value.int κ x0].length → (w.cell? ⟨b, off + 0 + j, none⟩).isSome = true := by
        intro j hj
        have e : j = 0 := by simpa using hj
        subst e
        simp [hc]
      have g2 : ∀ j, j < [Value.int κ x0].length → w.frozen? ⟨b, off + 0 + j, none⟩ = false := by
        intro j hj
        have e : j = 0 := by simpa using hj
        subst e
        simpa using hf
      have := run_storeCells_cells (P := Tryd.prog) b off [.int κ x0] 0 w g1 g2 (fun v hv => by simp at hv; subst hv; rfl)
      cases hq : Tryd.prog.info? T with
      | none => simp [hq] at hi
      | some i =>
        have hs : i.size = 1 := by simpa [hq] using hi
        simp [storeVar, Value.cells, sizeOf, typeInfo, hq, hs]
        simpa [World.setCells] using this
    unfold Oper.wp execOp
    simp only [ho, hx, hy, Instr.storeAt, Instr.sureAddr, Sem.run_bind, Sem.run_pure, Result.andThen_ok, hst]
    refine hK _ _ ?_
    rw [hd]
    exact hr

end Go.Proofs.YtmeajhdhiebkdaaDoor.Rc

/-
  The walks of the document's four and May.
-/
namespace Go.Proofs.YtmeajhdhiebkdaaDoor.Rc
set_option maxRecDepth 100000
open Go.RowKit

/-- A number's last k of four bytes, written from the place o. -/
def putK (n : Int) (o : Nat) : Nat → List Int → List Int
  | 0, s => s
  | k + 1, s => (putK n o k s).set (o + 3 - k) (n / 256 ^ k % 256)
theorem putK_len (n : Int) (o : Nat) (s : List Int) : ∀ k, (putK n o k s).length = s.length
  | 0 => rfl
  | k + 1 => by rw [putK, List.length_set, putK_len n o s k]
theorem putK_sec (n : Int) (d : List Int) (h : d.length + 4 ≤ 64) : putK n d.length 4 (secOf d) = secOf (d ++ be 4 n) := by
  unfold secOf
  obtain ⟨k, hk⟩ : ∃ k, 64 - d.length = k + 4 := ⟨60 - d.length, by omega⟩
  have h2 : 64 - (d ++ be 4 n).length = k := by simp [be_len]; omega
  rw [hk, h2]
  simp [putK, be, zs, List.replicate_succ]

set_option maxHeartbeats 1000000 in
theorem four37 (b o : Nat) (n : Int) (hn : 0 ≤ n ∧ n ≤ 2147483647) (s : List Int) (hs : s.length = 64) (ho : o + 4 ≤ 64) (w : World) (hB : Blk w b 80 (u8s s)) : Calls Tryd.prog 89 #[P0 b, .int .i64 o, .int .i64 n] w fun e w' => e = .returned (.tuple #[]) ∧ Blk w' b 80 (u8s (putK n o 4 s)) ∧ Kept [b] w w' := by
  have B0 := hide hB
  clear hB
  go_enter Tryd.func89, Tryd.ntmps89
  go_wp2_with fail
  go_loopw [6, 2] (fun i v wr => ∃ k : Nat, k ≤ 4 ∧ i = .int .i64 (o + 3 - k) ∧ v = .int .i64 (n / 256 ^ k) ∧ Hid (Blk wr b 80 (u8s (putK n o k s))) ∧ Hid (Kept [b] w wr)) (fun i _ _ => (intOf i + 1 - o).toNat)
  case atStart => exact ⟨0, by omega, by simp, by simp, B0, Kept.refl _ _⟩
  case round =>
    clear B0
    obtain ⟨k, hk4, rfl, rfl, R2, RK⟩ := hrel
    have hlen : (putK n o k s).length = 64 := by rw [putK_len, hs]
    obtain ⟨m, hm⟩ : ∃ m, n / 256 ^ k = m := ⟨_, rfl⟩
    have hp : (0 : Int) < 256 ^ k := Int.pow_pos (by omega)
    have hm0 : 0 ≤ m := by rw [← hm]; exact Int.ediv_nonneg hn.1 (by omega)
    have hm1 : m ≤ 2147483647 := by rw [← hm]; exact Int.le_trans (Int.ediv_le_self _ hn.1) hn.2
    have hnx : Hid (n / 256 ^ (k + 1) = m / 256) := by show _ = _; rw [Int.pow_succ, ← Int.ediv_ediv_of_nonneg (Int.le_of_lt hp), hm]
    have HM := hide hm
    rw [hm]
    clear hm hp
    by_cases hlt : k < 4
    · have e5 : ((o : Int) + 3 - (k : Int)).toNat = o + 3 - k := by omega
      have q5 : wr.cell? ⟨b, o + 3 - k, none⟩ = some (.int .u8 ((putK n o k s)[o + 3 - k]'(by omega))) := fits_cell (unhide R2) (o + 3 - k) _ (by simp [u8s])
      have z5 := (unhide R2).frozen (o + 3 - k)
      have t1 : m.tmod 256 = m % 256 := Int.tmod_eq_emod_of_nonneg hm0
      have t2 : m.tdiv 256 = m / 256 := Int.tdiv_eq_ediv_of_nonneg hm0
      go_wp2_with fail
      go_roundw
      case rel =>
        refine ⟨k + 1, by omega, by go_num, by rw [unhide hnx], ?_, (unhide RK).setCell (by simp) _⟩
        have := (unhide R2).set (i := o + 3 - k) (.int .u8 (m % 256))
        rw [u8s_set] at this
        unfold putK
        rw [unhide HM]
        exact this
      case measure => simp [intOf]; omega
    · obtain rfl : k = 4 := by omega
      go_wp2_with fail
      exact bodyPost_end (results_none rfl _ _ _) rfl ⟨rfl, unhide R2, unhide RK⟩

set_option maxHeartbeats 2000000 in
theorem may14 (r : Rec) (w : World) : Calls Tryd.prog 78 #[aggV (recC r)] w fun e w' => e = .returned (.bool (isRec r)) ∧ Kept [] w w' := by
  by_cases h0 : 0 ≤ r.nd
  rotate_left
  · go_enter Tryd.func78, Tryd.ntmps78
    go_wp2_with (refine wpBoxV rfl (.tmp 0) rfl (recC r) rfl ?_; intro W1 b1 e1 B1 K1; obtain ⟨c0, c1, c2, c3, c4⟩ := Rec.cells B1; have KK := hide K1; clear e1 B1 K1)
    try (refine wpList_app ?_; go_wp2_with fail)
    go_ret
    exact ⟨ret_bool (by simp [isRec, isWrit]; omega), unhide KK⟩
  by_cases h1 : r.nd < 8
  rotate_left
  · go_enter Tryd.func78, Tryd.ntmps78
    go_wp2_with (refine wpBoxV rfl (.tmp 0) rfl (recC r) rfl ?_; intro W1 b1 e1 B1 K1; obtain ⟨c0, c1, c2, c3, c4⟩ := Rec.cells B1; have KK := hide K1; clear e1 B1 K1)
    try (refine wpList_app ?_; go_wp2_with fail)
    go_ret
    exact ⟨ret_bool (by simp [isRec, isWrit]; omega), unhide KK⟩
  by_cases h2 : 1 ≤ r.ep
  rotate_left
  · go_enter Tryd.func78, Tryd.ntmps78
    go_wp2_with (refine wpBoxV rfl (.tmp 0) rfl (recC r) rfl ?_; intro W1 b1 e1 B1 K1; obtain ⟨c0, c1, c2, c3, c4⟩ := Rec.cells B1; have KK := hide K1; clear e1 B1 K1)
    try (refine wpList_app ?_; go_wp2_with fail)
    go_ret
    exact ⟨ret_bool (by simp [isRec, isWrit]; omega), unhide KK⟩
  by_cases h3 : r.ep ≤ 2147483647
  rotate_left
  · go_enter Tryd.func78, Tryd.ntmps78
    go_wp2_with (refine wpBoxV rfl (.tmp 0) rfl (recC r) rfl ?_; intro W1 b1 e1 B1 K1; obtain ⟨c0, c1, c2, c3, c4⟩ := Rec.cells B1; have KK := hide K1; clear e1 B1 K1)
    try (refine wpList_app ?_; go_wp2_with fail)
    go_ret
    exact ⟨ret_bool (by simp [isRec, isWrit]; omega), unhide KK⟩
  by_cases h4 : 1 ≤ r.ls
  rotate_left
  · go_enter Tryd.func78, Tryd.ntmps78
    go_wp2_with (refine wpBoxV rfl (.tmp 0) rfl (recC r) rfl ?_; intro W1 b1 e1 B1 K1; obtain ⟨c0, c1, c2, c3, c4⟩ := Rec.cells B1; have KK := hide K1; clear e1 B1 K1)
    try (refine wpList_app ?_; go_wp2_with fail)
    go_ret
    exact ⟨ret_bool (by simp [isRec, isWrit]; omega), unhide KK⟩
  by_cases h5 : r.ls ≤ 2147483647
  rotate_left
  · go_enter Tryd.func78, Tryd.ntmps78
    go_wp2_with (refine wpBoxV rfl (.tmp 0) rfl (recC r) rfl ?_; intro W1 b1 e1 B1 K1; obtain ⟨c0, c1, c2, c3, c4⟩ := Rec.cells B1; have KK := hide K1; clear e1 B1 K1)
    try (refine wpList_app ?_; go_wp2_with fail)
    go_ret
    exact ⟨ret_bool (by simp [isRec, isWrit]; omega), unhide KK⟩
  by_cases h6 : 0 ≤ r.pg
  rotate_left
  · go_enter Tryd.func78, Tryd.ntmps78
    go_wp2_with (refine wpBoxV rfl (.tmp 0) rfl (recC r) rfl ?_; intro W1 b1 e1 B1 K1; obtain ⟨c0, c1, c2, c3, c4⟩ := Rec.cells B1; have KK := hide K1; clear e1 B1 K1)
    try (refine wpList_app ?_; go_wp2_with fail)
    go_ret
    exact ⟨ret_bool (by simp [isRec, isWrit]; omega), unhide KK⟩
  by_cases h7 : r.pg < 16
  rotate_left
  · go_enter Tryd.func78, Tryd.ntmps78
    go_wp2_with (refine wpBoxV rfl (.tmp 0) rfl (recC r) rfl ?_; intro W1 b1 e1 B1 K1; obtain ⟨c0, c1, c2, c3, c4⟩ := Rec.cells B1; have KK := hide K1; clear e1 B1 K1)
    try (refine wpList_app ?_; go_wp2_with fail)
    go_ret
    exact ⟨ret_bool (by simp [isRec, isWrit]; omega), unhide KK⟩
  by_cases h8 : 1 ≤ r.ps
  rotate_left
  · go_enter Tryd.func78, Tryd.ntmps78
    go_wp2_with (refine wpBoxV rfl (.tmp 0) rfl (recC r) rfl ?_; intro W1 b1 e1 B1 K1; obtain ⟨c0, c1, c2, c3, c4⟩ := Rec.cells B1; have KK := hide K1; clear e1 B1 K1)
    try (refine wpList_app ?_; go_wp2_with fail)
    go_ret
    exact ⟨ret_bool (by simp [isRec, isWrit]; omega), unhide KK⟩
  go_enter Tryd.func78, Tryd.ntmps78
  go_wp2_with (refine wpBoxV rfl (.tmp 0) rfl (recC r) rfl ?_; intro W1 b1 e1 B1 K1; obtain ⟨c0, c1, c2, c3, c4⟩ := Rec.cells B1; have KK := hide K1; clear e1 B1 K1)
  try (refine wpList_app ?_; go_wp2_with fail)
  go_ret
  exact ⟨ret_bool (by simp [isRec, isWrit]; omega), unhide KK⟩

end Go.Proofs.YtmeajhdhiebkdaaDoor.Rc

/-
  The walk of the document's MayHead.
-/
namespace Go.Proofs.YtmeajhdhiebkdaaDoor.Rc
set_option maxRecDepth 100000
open Go.RowKit

/-- A place at which a walk stops. -/
structure Stp (p : Prop) : Prop where
  go : p
/-- What MayHead tells. -/
def mayH (st ep : Int) : Bool := isHd st ep || (isWrit ep && isWrit st)
theorem build27s (w : World) : (Instr.build 91 #[(0, .int .i64 1)]).run Tryd.prog w = .ok (aggV (hdC 1 0)) w := by kernel_rfl
set_option maxHeartbeats 1000000 in
theorem mayhead10 (st ep : Int) (w : World) : Calls Tryd.prog 75 #[aggV (hdC st ep)] w fun e w' => e = .returned (.bool (mayH st ep)) ∧ Kept [] w w' := by
  obtain ⟨I, hI⟩ : ∃ I, isHd st ep = I := ⟨_, rfl⟩
  have HI := hide hI
  clear hI
  cases I
  rotate_left
  · go_enter Tryd.func75, Tryd.ntmps75
    go_wp2_with (
      refine wpBoxV rfl (.tmp 0) rfl (hdC st ep) rfl ?_
      intro W1 b1 e1 B1 K1
      have BB := hide B1
      have KK := hide K1
      have ce := fits_cell B1 1 _ rfl
      have cs := fits_cell B1 0 _ rfl
      clear e1 B1 K1
      refine Stp.go ?_)
    constructor
    go_wp2_with (
      refine wpLoadA row27 (by rfl) (.tmp 1) (by rfl) b1 0 (by rfl) (hdC st ep) rfl (unhide BB).range ?_
      refine Stp.go ?_)
    constructor
    refine wpBuildP (by rfl) _ (by rfl) #[(0, .int .i64 1)] (by kernel_rfl) (hdC 1 0) (build27s _) ?_
    refine wpEqlA 91 91 guard27 (.tmp 3) (.tmp 4) (by rfl) (by rfl) (hdC st ep) (hdC 1 0) (by rfl) (by rfl) true ((equal27 _ _ _ _ _).trans (by rw [← isHd, unhide HI])) ?_
    go_wp2_with fail
    go_ret
    exact ⟨ret_bool (by simp [mayH, isWrit, unhide HI]), unhide KK⟩
  by_cases h1 : 1 ≤ ep
  rotate_left
  · go_enter Tryd.func75, Tryd.ntmps75
    go_wp2_with (
      refine wpBoxV rfl (.tmp 0) rfl (hdC st ep) rfl ?_
      intro W1 b1 e1 B1 K1
      have BB := hide B1
      have KK := hide K1
      have ce := fits_cell B1 1 _ rfl
      have cs := fits_cell B1 0 _ rfl
      clear e1 B1 K1
      refine Stp.go ?_)
    constructor
    go_wp2_with (
      refine wpLoadA row27 (by rfl) (.tmp 1) (by rfl) b1 0 (by rfl) (hdC st ep) rfl (unhide BB).range ?_
      refine Stp.go ?_)
    constructor
    refine wpBuildP (by rfl) _ (by rfl) #[(0, .int .i64 1)] (by kernel_rfl) (hdC 1 0) (build27s _) ?_
    refine wpEqlA 91 91 guard27 (.tmp 3) (.tmp 4) (by rfl) (by rfl) (hdC st ep) (hdC 1 0) (by rfl) (by rfl) false ((equal27 _ _ _ _ _).trans (by rw [← isHd, unhide HI])) ?_
    go_wp2_with fail
    go_ret
    exact ⟨ret_bool (by simp [mayH, isWrit, unhide HI]; omega), unhide KK⟩
  by_cases h2 : ep ≤ 2147483647
  rotate_left
  · go_enter Tryd.func75, Tryd.ntmps75
    go_wp2_with (
      refine wpBoxV rfl (.tmp 0) rfl (hdC st ep) rfl ?_
      intro W1 b1 e1 B1 K1
      have BB := hide B1
      have KK := hide K1
      have ce := fits_cell B1 1 _ rfl
      have cs := fits_cell B1 0 _ rfl
      clear e1 B1 K1
      refine Stp.go ?_)
    constructor
    go_wp2_with (
      refine wpLoadA row27 (by rfl) (.tmp 1) (by rfl) b1 0 (by rfl) (hdC st ep) rfl (unhide BB).range ?_
      refine Stp.go ?_)
    constructor
    refine wpBuildP (by rfl) _ (by rfl) #[(0, .int .i64 1)] (by kernel_rfl) (hdC 1 0) (build27s _) ?_
    refine wpEqlA 91 91 guard27 (.tmp 3) (.tmp 4) (by rfl) (by rfl) (hdC st ep) (hdC 1 0) (by rfl) (by rfl) false ((equal27 _ _ _ _ _).trans (by rw [← isHd, unhide HI])) ?_
    go_wp2_with fail
    go_ret
    exact ⟨ret_bool (by simp [mayH, isWrit, unhide HI]; omega), unhide KK⟩
  by_cases h3 : 1 ≤ st
  rotate_left
  · go_enter Tryd.func75, Tryd.ntmps75
    go_wp2_with (
      refine wpBoxV rfl (.tmp 0) rfl (hdC st ep) rfl ?_
      intro W1 b1 e1 B1 K1
      have BB := hide B1
      have KK := hide K1
      have ce := fits_cell B1 1 _ rfl
      have cs := fits_cell B1 0 _ rfl
      clear e1 B1 K1
      refine Stp.go ?_)
    constructor
    go_wp2_with (
      refine wpLoadA row27 (by rfl) (.tmp 1) (by rfl) b1 0 (by rfl) (hdC st ep) rfl (unhide BB).range ?_
      refine Stp.go ?_)
    constructor
    refine wpBuildP (by rfl) _ (by rfl) #[(0, .int .i64 1)] (by kernel_rfl) (hdC 1 0) (build27s _) ?_
    refine wpEqlA 91 91 guard27 (.tmp 3) (.tmp 4) (by rfl) (by rfl) (hdC st ep) (hdC 1 0) (by rfl) (by rfl) false ((equal27 _ _ _ _ _).trans (by rw [← isHd, unhide HI])) ?_
    go_wp2_with fail
    go_ret
    exact ⟨ret_bool (by simp [mayH, isWrit, unhide HI]; omega), unhide KK⟩
  go_enter Tryd.func75, Tryd.ntmps75
  go_wp2_with (
    refine wpBoxV rfl (.tmp 0) rfl (hdC st ep) rfl ?_
    intro W1 b1 e1 B1 K1
    have BB := hide B1
    have KK := hide K1
    have ce := fits_cell B1 1 _ rfl
    have cs := fits_cell B1 0 _ rfl
    clear e1 B1 K1
    refine Stp.go ?_)
  constructor
  go_wp2_with (
    refine wpLoadA row27 (by rfl) (.tmp 1) (by rfl) b1 0 (by rfl) (hdC st ep) rfl (unhide BB).range ?_
    refine Stp.go ?_)
  constructor
  refine wpBuildP (by rfl) _ (by rfl) #[(0, .int .i64 1)] (by kernel_rfl) (hdC 1 0) (build27s _) ?_
  refine wpEqlA 91 91 guard27 (.tmp 3) (.tmp 4) (by rfl) (by rfl) (hdC st ep) (hdC 1 0) (by rfl) (by rfl) false ((equal27 _ _ _ _ _).trans (by rw [← isHd, unhide HI])) ?_
  go_wp2_with fail
  go_ret
  exact ⟨ret_bool (by simp [mayH, isWrit, unhide HI]; omega), unhide KK⟩

end Go.Proofs.YtmeajhdhiebkdaaDoor.Rc

/-
  The walks of the document's PutHead and Half.
-/
namespace Go.Proofs.YtmeajhdhiebkdaaDoor.Rc
set_option maxRecDepth 100000
open Go.RowKit

theorem res13 (w : World) (z : Nat) (vs : List Value) (tmps : Array Value) (h4 : tmps[2]?.getD undef = P0 z) (hl : vs.length = 64) (hb : Blk w z 80 vs) : (results Tryd.f76 tmps).run Tryd.prog w = .ok (aggV vs) w := by
  have := loadV row29 hl hb
  simp [results, Tryd.results76, h4, this, asAddr]
theorem res17 (w : World) (z : Nat) (vs : List Value) (tmps : Array Value) (h4 : tmps[4]?.getD undef = P0 z) (hl : vs.length = 64) (hb : Blk w z 80 vs) : (results Tryd.f79 tmps).run Tryd.prog w = .ok (aggV vs) w := by
  have := loadV row29 hl hb
  simp [results, Tryd.results79, h4, this, asAddr]
/-- What Half keeps while it goes: what it was given, the result's place, the sector. -/
structure Sw (w wr : World) (b rb zb T : Nat) (vs : List Value) (d : List Int) : Prop where
  sec : Blk wr b 80 (u8s (secOf d))
  rcd : Blk wr rb T vs
  res : Blk wr zb 80 (u8s (zs 64))
  kept : Kept [] w wr
  nb : w.heap.size ≤ b
  nz : w.heap.size ≤ zb
  n1 : rb ≠ b
  n3 : zb ≠ b
theorem Sw.put {w wr wn : World} {b rb zb T : Nat} {vs : List Value} {d d' : List Int} (h : Sw w wr b rb zb T vs d) (hp : Blk wn b 80 (u8s (secOf d'))) (hk : Kept [b] wr wn) : Sw w wn b rb zb T vs d' :=
  ⟨hp, h.rcd.kept hk (by simp [h.n1]), h.res.kept hk (by simp [h.n3]), h.kept.fresh hk (fun i hi hl => by have := h.nb; simp at hi; omega), h.nb, h.nz, h.n1, h.n3⟩
theorem Sw.byte {w wr wn : World} {b rb zb T : Nat} {vs : List Value} {d : List Int} (x : Int) (h : Sw w wr b rb zb T vs d) (hd : d.length < 64) (hp : Blk wn b 80 ((u8s (secOf d)).set d.length (.int .u8 x))) (hk : Kept [b] wr wn) : Sw w wn b rb zb T vs (d ++ [x]) := by
  rw [u8s_set, secOf_add d x hd] at hp
  exact h.put hp hk
theorem Sw.four {w wr wn : World} {b rb zb T : Nat} {vs : List Value} {d : List Int} {n : Int} {o : Nat} (h : Sw w wr b rb zb T vs d) (ho : d.length = o) (hd : o + 4 ≤ 64) (hp : Blk wn b 80 (u8s (putK n o 4 (secOf d)))) (hk : Kept [b] wr wn) : Sw w wn b rb zb T vs (d ++ be 4 n) := by
  subst ho
  rw [putK_sec n d hd] at hp
  exact h.put hp hk
theorem u8l {l : List Int} {n : Nat} (h : l.length = n) : (u8s l).length = n := by rw [u8s_len, h]

set_option maxHeartbeats 1000000 in
set_option maxRecDepth 100000 in
theorem rputh_first (st ep : Int) (w : World) (hI : isHd st ep = true) : Calls Tryd.prog 76 #[aggV (hdC st ep)] w fun e w' => e = .returned (aggV (u8s (zs 64))) ∧ Kept [] w w' := by
  have lz : (u8s (zs 64)).length = 64 := zl 64
  simp only [isHd, Bool.and_eq_true, decide_eq_true_eq] at hI
  obtain ⟨rfl, rfl⟩ := hI
  go_enter Tryd.func76, Tryd.ntmps76
  go_wp2_with (
    first
    | (refine wpBoxV rfl (.tmp 0) rfl (hdC 1 0) rfl ?_
       intro W1 b1 e1 B1 K1
       have BR := hide B1
       have KA := hide K1
       clear e1 B1 K1)
    | (refine wpAllocW (u8s (zs 64)) zero29 2 rfl rfl rfl ?_
       intro W2 b2 e2 B2 K2
       have BR2 := hide ((unhide BR).kept K2 (by simp))
       have BZ := hide B2
       have nz : Hid (w.heap.size ≤ b2) := by have := (unhide KA).size; show _ ≤ _; omega
       have hrz : Hid (b1 < b2) := by have := (unhide BR).lt; show _ < _; omega
       have KB := hide ((unhide KA).trans K2)
       clear e2 B2 K2 BR KA)
    | (refine wpAllocW (u8s (zs 64)) zero29 3 rfl rfl rfl ?_
       intro W3 b3 e3 B3 K3
       have L0 : Hid (Sw w W3 b3 b1 b2 91 (hdC 1 0) []) := by
         have q1 := (unhide BZ).lt
         have q2 := unhide nz
         have q3 := unhide hrz
         exact ⟨B3, (unhide BR2).kept K3 (by simp), (unhide BZ).kept K3 (by simp), (unhide KB).trans K3, by omega, by omega, by omega, by omega⟩
       clear e3 B3 K3 BR2 KB BZ nz hrz
       have cs := fits_cell (unhide L0).rcd 0 _ rfl
       have ce := fits_cell (unhide L0).rcd 1 _ rfl)
    | (refine wpLoadA row29 (by rfl) (.tmp 3) (by rfl) b3 0 (by rfl) (u8s (zs 64)) lz (unhide L0).sec.range ?_)
    | (refine wpStoreA row29 (by rfl) (.tmp 2) (.tmp 7) (by rfl) b2 0 (u8s (zs 64)) (by rfl) (by rfl) lz (u8s_one _) ((unhide L0).res.there (by rw [lz]; omega)) ?_))
  have g4 := (unhide L0).res.put (vs := u8s (zs 64)) rfl
  have nz := (unhide L0).nz
  exact bodyPost_ret (res13 _ _ _ _ rfl lz g4) rfl ⟨rfl, (unhide L0).kept.setCells _ _ (by omega)⟩

set_option maxHeartbeats 1000000 in
set_option maxRecDepth 100000 in
theorem rputh_yes (st ep : Int) (w : World) (hE : isWrit ep = true) (hS : isWrit st = true) : Calls Tryd.prog 76 #[aggV (hdC st ep)] w fun e w' => e = .returned (aggV (u8s (secOf ([179] ++ be 4 ep ++ be 4 st)))) ∧ Kept [] w w' := by
  have lz : (u8s (zs 64)).length = 64 := zl 64
  have lR : (u8s (secOf ([179] ++ be 4 ep ++ be 4 st))).length = 64 := u8l (secOf_len (by simp [be_len]))
  simp only [isWrit, decide_eq_true_eq] at hE hS
  obtain ⟨e1, e2⟩ := hE
  obtain ⟨s1, s2⟩ := hS
  have ez : (ep == 0) = false := by simp; omega
  go_enter Tryd.func76, Tryd.ntmps76
  go_wp2_with (
    first
    | (refine wpBoxV rfl (.tmp 0) rfl (hdC st ep) rfl ?_
       intro W1 b1 e1 B1 K1
       have BR := hide B1
       have KA := hide K1
       clear e1 B1 K1)
    | (refine wpAllocW (u8s (zs 64)) zero29 2 rfl rfl rfl ?_
       intro W2 b2 e2 B2 K2
       have BR2 := hide ((unhide BR).kept K2 (by simp))
       have BZ := hide B2
       have nz : Hid (w.heap.size ≤ b2) := by have := (unhide KA).size; show _ ≤ _; omega
       have hrz : Hid (b1 < b2) := by have := (unhide BR).lt; show _ < _; omega
       have KB := hide ((unhide KA).trans K2)
       clear e2 B2 K2 BR KA)
    | (refine wpAllocW (u8s (zs 64)) zero29 3 rfl rfl rfl ?_
       intro W3 b3 e3 B3 K3
       have L0 : Hid (Sw w W3 b3 b1 b2 91 (hdC st ep) []) := by
         have q1 := (unhide BZ).lt
         have q2 := unhide nz
         have q3 := unhide hrz
         exact ⟨B3, (unhide BR2).kept K3 (by simp), (unhide BZ).kept K3 (by simp), (unhide KB).trans K3, by omega, by omega, by omega, by omega⟩
       clear e3 B3 K3 BR2 KB BZ nz hrz
       have cs := fits_cell (unhide L0).rcd 0 _ rfl
       have ce := fits_cell (unhide L0).rcd 1 _ rfl)
    | (refine wpStore1 size5 (by rfl) (.tmp 8) (.const (.int .u8 179)) (by rfl) (by rfl) b3 0 .u8 179 80 (u8s (secOf [])) (by rfl) (by rfl) (unhide L0).sec (by kernel_rfl) ?_
       intro W4 B4 K4
       have L1 : Hid (Sw w W4 b3 b1 b2 91 (hdC st ep) [179]) := (unhide L0).byte 179 (by simp) B4 K4
       clear cs ce
       have cs := fits_cell (unhide L1).rcd 0 _ rfl
       have ce := fits_cell (unhide L1).rcd 1 _ rfl
       clear B4 K4 L0)
    | (go_at_call 89
       refine (four37 b3 1 ep ⟨by omega, by omega⟩ (secOf [179]) (secOf_len (by simp)) (by omega) _ (unhide L1).sec).mono ?_
       rintro e W5 ⟨rfl, B5, K5⟩
       have L2 : Hid (Sw w W5 b3 b1 b2 91 (hdC st ep) ([179] ++ be 4 ep)) := (unhide L1).four (o := 1) (by simp) (by omega) B5 K5
       clear cs ce
       have cs := fits_cell (unhide L2).rcd 0 _ rfl
       clear B5 K5 L1)
    | (go_at_call 89
       refine (four37 b3 5 st ⟨by omega, by omega⟩ (secOf ([179] ++ be 4 ep)) (secOf_len (by simp [be_len])) (by omega) _ (unhide L2).sec).mono ?_
       rintro e W6 ⟨rfl, B6, K6⟩
       have L3 : Hid (Sw w W6 b3 b1 b2 91 (hdC st ep) ([179] ++ be 4 ep ++ be 4 st)) := (unhide L2).four (by simp [be_len]) (by omega) B6 K6
       clear B6 K6 L2 cs)
    | (refine wpLoadA row29 (by rfl) (.tmp 3) (by rfl) b3 0 (by rfl) (u8s (secOf ([179] ++ be 4 ep ++ be 4 st))) lR (unhide L3).sec.range ?_)
    | (refine wpStoreA row29 (by rfl) (.tmp 2) (.tmp 15) (by rfl) b2 0 (u8s (secOf ([179] ++ be 4 ep ++ be 4 st))) (by rfl) (by rfl) lR (u8s_one _) ((unhide L3).res.there (by rw [lz]; omega)) ?_))
  have g4 := (unhide L3).res.put (vs := u8s (secOf ([179] ++ be 4 ep ++ be 4 st))) (by rw [lz, lR])
  have nz := (unhide L3).nz
  exact bodyPost_ret (res13 _ _ _ _ rfl lR g4) rfl ⟨rfl, (unhide L3).kept.setCells _ _ (by omega)⟩

theorem rputh13 (st ep : Int) (h : mayH st ep = true) (w : World) : Calls Tryd.prog 76 #[aggV (hdC st ep)] w fun e w' => e = .returned (aggV (u8s (puthR st ep).1)) ∧ Kept [] w w' := by
  by_cases hI : isHd st ep = true
  · have e : (puthR st ep).1 = zs 64 := by simp [puthR, hI]
    rw [e]
    exact rputh_first st ep w hI
  · have h2 : isWrit ep = true ∧ isWrit st = true := by simpa [mayH, hI] using h
    have e : (puthR st ep).1 = secOf ([179] ++ be 4 ep ++ be 4 st) := by simp [puthR, hI, h2.1, h2.2, be]
    rw [e]
    exact rputh_yes st ep w h2.1 h2.2

set_option maxHeartbeats 2000000 in
set_option maxRecDepth 100000 in
theorem half17 (r : Rec) (hr : isRec r = true) (hs : Byts 96 r.bd) (h : Nat) (hh : h < 2) (w : World) : Calls Tryd.prog 79 #[aggV (recC r), .int .i64 h] w fun e w' => e = .returned (aggV (u8s (laidR r h))) ∧ Kept [] w w' := by
  have lz : (u8s (zs 64)).length = 64 := zl 64
  simp only [isRec, isWrit, Bool.and_eq_true, decide_eq_true_eq] at hr
  obtain ⟨⟨n1, n2⟩, ⟨p1, p2⟩, ⟨e1, e2⟩, ⟨l1, l2⟩, s1, s2⟩ := hr
  have m1 : (177 + (h : Int)) % 256 = 177 + (h : Int) := by omega
  have m2 : (16 * r.nd + r.pg) % 256 = 16 * r.nd + r.pg := by omega
  have hHd : Hid (([177 + (h : Int), 16 * r.nd + r.pg] ++ be 4 r.ep ++ be 4 r.ls ++ be 4 r.ps) = laidH r h) := by show _ = _; simp [laidH, be, m1, m2]
  go_enter Tryd.func79, Tryd.ntmps79
  go_wp2_with (
    first
    | (refine wpBoxV rfl (.tmp 0) rfl (recC r) rfl ?_
       intro W1 b1 e1 B1 K1
       have BR := hide B1
       have KA := hide K1
       clear e1 B1 K1)
    | (refine wpAllocW (u8s (zs 64)) zero29 4 rfl rfl rfl ?_
       intro W2 b2 e2 B2 K2
       have BR2 := hide ((unhide BR).kept K2 (by simp))
       have BZ := hide B2
       have nz : Hid (w.heap.size ≤ b2) := by have := (unhide KA).size; show _ ≤ _; omega
       have hrz : Hid (b1 < b2) := by have := (unhide BR).lt; show _ < _; omega
       have KB := hide ((unhide KA).trans K2)
       clear e2 B2 K2 BR KA)
    | (refine wpAllocW (u8s (zs 64)) zero29 5 rfl rfl rfl ?_
       intro W3 b3 e3 B3 K3
       have L0 : Hid (Sw w W3 b3 b1 b2 45 (recC r) []) := by
         have q1 := (unhide BZ).lt
         have q2 := unhide nz
         have q3 := unhide hrz
         exact ⟨B3, (unhide BR2).kept K3 (by simp), (unhide BZ).kept K3 (by simp), (unhide KB).trans K3, by omega, by omega, by omega, by omega⟩
       clear e3 B3 K3 BR2 KB BZ nz hrz
       obtain ⟨x0, x1, x2, x3, x4⟩ := Rec.cells (unhide L0).rcd)
    | (refine wpStore1 size5 (by rfl) (.tmp 10) (.tmp 9) (by rfl) (by rfl) b3 0 .u8 (177 + (h : Int)) 80 (u8s (secOf [])) (by rfl) (by rfl) (unhide L0).sec (by kernel_rfl) ?_
       intro W4 B4 K4
       have L1 : Hid (Sw w W4 b3 b1 b2 45 (recC r) [177 + (h : Int)]) := (unhide L0).byte (177 + (h : Int)) (by simp) B4 K4
       clear x0 x1 x2 x3 x4
       obtain ⟨x0, x1, x2, x3, x4⟩ := Rec.cells (unhide L1).rcd
       clear B4 K4 L0)
    | (refine wpStore1 size5 (by rfl) (.tmp 18) (.tmp 17) (by rfl) (by rfl) b3 1 .u8 (16 * r.nd + r.pg) 80 (u8s (secOf [177 + (h : Int)])) (by rfl) (by rfl) (unhide L1).sec (by simp [u8s_len, secOf_len]) ?_
       intro W5 B5 K5
       have L2 : Hid (Sw w W5 b3 b1 b2 45 (recC r) [177 + (h : Int), 16 * r.nd + r.pg]) := (unhide L1).byte (16 * r.nd + r.pg) (by simp) B5 K5
       clear x0 x1 x2 x3 x4
       obtain ⟨x0, x1, x2, x3, x4⟩ := Rec.cells (unhide L2).rcd
       clear B5 K5 L1)
    | (go_at_call 89
       refine (four37 b3 2 r.ep ⟨by omega, by omega⟩ (secOf [177 + (h : Int), 16 * r.nd + r.pg]) (secOf_len (by simp)) (by omega) _ (unhide L2).sec).mono ?_
       rintro e W6 ⟨rfl, B6, K6⟩
       have L3 : Hid (Sw w W6 b3 b1 b2 45 (recC r) ([177 + (h : Int), 16 * r.nd + r.pg] ++ be 4 r.ep)) := (unhide L2).four (by simp) (by omega) B6 K6
       clear x0 x1 x2 x3 x4
       obtain ⟨x0, x1, x2, x3, x4⟩ := Rec.cells (unhide L3).rcd
       clear B6 K6 L2)
    | (go_at_call 89
       refine (four37 b3 6 r.ls ⟨by omega, by omega⟩ (secOf ([177 + (h : Int), 16 * r.nd + r.pg] ++ be 4 r.ep)) (secOf_len (by simp [be_len])) (by omega) _ (unhide L3).sec).mono ?_
       rintro e W7 ⟨rfl, B7, K7⟩
       have L4 : Hid (Sw w W7 b3 b1 b2 45 (recC r) ([177 + (h : Int), 16 * r.nd + r.pg] ++ be 4 r.ep ++ be 4 r.ls)) := (unhide L3).four (by simp [be_len]) (by omega) B7 K7
       clear x0 x1 x2 x3 x4
       obtain ⟨x0, x1, x2, x3, x4⟩ := Rec.cells (unhide L4).rcd
       clear B7 K7 L3)
    | (go_at_call 89
       refine (four37 b3 10 r.ps ⟨by omega, by omega⟩ (secOf ([177 + (h : Int), 16 * r.nd + r.pg] ++ be 4 r.ep ++ be 4 r.ls)) (secOf_len (by simp [be_len])) (by omega) _ (unhide L4).sec).mono ?_
       rintro e W8 ⟨rfl, B8, K8⟩
       have L5 : Hid (Sw w W8 b3 b1 b2 45 (recC r) ([177 + (h : Int), 16 * r.nd + r.pg] ++ be 4 r.ep ++ be 4 r.ls ++ be 4 r.ps)) := (unhide L4).four (by simp [be_len]) (by omega) B8 K8
       clear x0 x1 x2 x3 x4
       obtain ⟨x0, x1, x2, x3, x4⟩ := Rec.cells (unhide L5).rcd
       clear B8 K8 L4))
  rw [unhide hHd] at L5
  clear x0 x1 x2 x3 x4 hHd
  go_loopw [6] (fun i wr => ∃ k : Nat, k ≤ 48 ∧ i = .int .i64 k ∧ Hid (Sw w wr b3 b1 b2 45 (recC r) (laidH r h ++ (halfB h r.bd).take k))) (fun i _ => 48 - (intOf i).toNat)
  case atStart =>
    refine ⟨0, by omega, rfl, ?_⟩
    have := unhide L5
    simpa [Hid] using this
  case round =>
    clear L5
    obtain ⟨k, hk4, rfl, R⟩ := hrel
    have hl := (halfB_byts hh hs).len
    have hdl : (laidH r h ++ (halfB h r.bd).take k).length = 14 + k := by rw [List.length_append, laidH_len, List.length_take, hl]; omega
    by_cases hlt : k < 48
    · obtain ⟨x, hc⟩ : ∃ x, x = (halfB h r.bd)[k]'(by rw [hl]; omega) := ⟨_, rfl⟩
      have ht : Hid (laidH r h ++ (halfB h r.bd).take (k + 1) = (laidH r h ++ (halfB h r.bd).take k) ++ [x]) := by show _ = _; rw [hc, List.take_add_one, List.getElem?_eq_getElem (by omega), List.append_assoc]; rfl
      have q : wr.cell? ⟨b1, 5 + (48 * h + k), none⟩ = some (.int .u8 x) := by
        refine fits_cell (unhide R).rcd _ _ ?_
        rw [hc, Nat.mul_comm]
        have e : (recC r)[5 + (h * 48 + k)]? = (u8s r.bd)[h * 48 + k]? := by rw [Nat.add_comm]; rfl
        rw [e]
        simp [u8s, halfB]
      have e1 : ((14 : Int) + (k : Int)).toNat = 14 + k := by omega
      have e2 : ((48 : Int) * (h : Int) + (k : Int)).toNat = 48 * h + k := by omega
      have HD := hide hdl
      clear hc hl hdl
      go_wp2_with (
        refine wpStore1 size5 (by rfl) (.tmp 41) (.tmp 40) (by rfl) (by rfl) b3 (14 + k) .u8 x 80 (u8s (secOf (laidH r h ++ (halfB h r.bd).take k))) (by rfl) (by rfl) (unhide R).sec (by rw [u8s_len, secOf_len (by rw [unhide HD]; omega)]; simp; omega) ?_
        intro W9 B9 K9
        rw [← unhide HD] at B9
        have R9 : Hid (Sw w W9 b3 b1 b2 45 (recC r) (laidH r h ++ (halfB h r.bd).take (k + 1))) := by rw [unhide ht]; exact (unhide R).byte x (by rw [unhide HD]; omega) B9 K9
        clear B9 K9 R q)
      go_roundw
      case rel => exact ⟨k + 1, by omega, by go_num, R9⟩
      case measure => simp [intOf]; omega
    · obtain rfl : k = 48 := by omega
      have hT : (halfB h r.bd).take 48 = halfB h r.bd := List.take_of_length_le (by omega)
      rw [hT] at R
      have lR : (u8s (laidR r h)).length = 64 := u8l (laidR_byts hh hs).len
      clear hT hl hdl
      go_wp2_with (
        first
        | (refine wpLoadA row29 (by rfl) (.tmp 5) (by rfl) b3 0 (by rfl) (u8s (laidR r h)) lR (unhide R).sec.range ?_)
        | (refine wpStoreA row29 (by rfl) (.tmp 4) (.tmp 42) (by rfl) b2 0 (u8s (laidR r h)) (by rfl) (by rfl) lR (u8s_one _) ((unhide R).res.there (by rw [lz]; omega)) ?_))
      have g4 := (unhide R).res.put (vs := u8s (laidR r h)) (by rw [lz, lR])
      have nz := (unhide R).nz
      exact bodyPost_ret (res17 _ _ _ _ rfl lR g4) rfl ⟨rfl, (unhide R).kept.setCells _ _ (by omega)⟩

end Go.Proofs.YtmeajhdhiebkdaaDoor.Rc

/-
  The walk of the document's number.
-/
namespace Go.Proofs.YtmeajhdhiebkdaaDoor.Rc
set_option maxRecDepth 100000
open Go.RowKit

set_option maxHeartbeats 1000000 in
theorem number41 (s : List Int) (hs : Byts 64 s) (o : Nat) (ho : o + 4 ≤ 64) (w : World) : Calls Tryd.prog 74 #[aggV (u8s s), .int .i64 o] w fun e w' => e = .returned (.int .i64 (numL s o 4)) ∧ Kept [] w w' := by
  go_enter Tryd.func74, Tryd.ntmps74
  go_wp2_with (
    refine wpBoxV rfl (.tmp 0) rfl (u8s s) rfl ?_
    intro W1 b1 e1 B1 K1
    have BB := hide B1
    have KK := hide K1
    clear e1 B1 K1)
  go_loopw [5, 6] (fun v i wr => ∃ k : Nat, k ≤ 4 ∧ v = .int .i64 (numK s o k) ∧ i = .int .i64 (o + k) ∧ Hid (Blk wr b1 80 (u8s s)) ∧ Hid (Kept [] w wr)) (fun _ i _ => (o + 4) - (intOf i).toNat)
  case atStart => exact ⟨0, by omega, by simp [numK], by simp, BB, KK⟩
  case round =>
    clear BB KK
    obtain ⟨k, hk4, rfl, rfl, R, RK⟩ := hrel
    have hlt0 := numK_lt hs o k (by omega)
    by_cases hlt : k < 4
    · have hp : (256 : Nat) ^ k ≤ 16777216 := by
        have := Nat.pow_le_pow_right (n := 256) (by decide) (show k ≤ 3 by omega)
        exact Nat.le_trans this (by decide)
      have hb := hs.byte (s[o + k]'(by rw [hs.len]; omega)) (List.getElem_mem _)
      have eg : s.getD (o + k) 0 = s[o + k]'(by rw [hs.len]; omega) := by simp [List.getD, hs.len, show o + k < 64 by omega]
      obtain ⟨x, hx⟩ : ∃ x, s[o + k]'(by rw [hs.len]; omega) = x := ⟨_, rfl⟩
      have hc : (u8s s)[o + k]? = some (.int .u8 x) := by rw [← hx]; simp [u8s, hs.len, show o + k < 64 by omega]
      have q : wr.cell? ⟨b1, o + k, none⟩ = some (.int .u8 x) := fits_cell (unhide R) _ _ hc
      rw [hx] at hb eg
      obtain ⟨m, hm⟩ : ∃ m, numK s o k = m := ⟨_, rfl⟩
      have hn : Hid ((numK s o (k + 1) : Int) = m * 256 + x) := by show _ = _; rw [numK, eg, hm]; omega
      rw [hm] at hlt0 ⊢
      have hm2 : m < 16777216 := by omega
      have e1 : ((o : Int) + (k : Int)).toNat = o + k := by omega
      clear hm hx hc eg hp hlt0
      go_wp2_with fail
      go_roundw
      case rel => exact ⟨k + 1, by omega, by rw [unhide hn], by go_num, R, RK⟩
      case measure => simp [intOf]; omega
    · obtain rfl : k = 4 := by omega
      go_wp2_with fail
      go_ret
      exact ⟨rfl, unhide RK⟩

end Go.Proofs.YtmeajhdhiebkdaaDoor.Rc

/-
  The walk of the document's Said.
-/
namespace Go.Proofs.YtmeajhdhiebkdaaDoor.Rc
set_option maxRecDepth 100000
open Go.RowKit

theorem res39 (w : World) (z : Nat) (vs : List Value) (tmps : Array Value) (h4 : tmps[4]?.getD undef = P0 z) (hl : vs.length = 101) (hb : Blk w z 45 vs) : (results Tryd.f77 tmps).run Tryd.prog w = .ok (aggV vs) w := by
  have := loadV row25 hl hb
  simp [results, Tryd.results77, h4, this, asAddr]
/-- The first j bytes of both halves. -/
def bothJ (x y : List Int) (j : Nat) : List Int := (x.take j ++ zs (48 - j)) ++ (y.take j ++ zs (48 - j))
theorem bothJ_len {x y : List Int} (hx : x.length = 48) (hy : y.length = 48) (j : Nat) (hj : j ≤ 48) : (bothJ x y j).length = 96 := by simp [bothJ, hx, hy, zs]; omega
theorem take_set {x : List Int} (hx : x.length = 48) (j : Nat) (hj : j < 48) : (x.take j ++ zs (48 - j)).set j (x[j]'(by omega)) = x.take (j + 1) ++ zs (48 - (j + 1)) := by
  obtain ⟨k, hk⟩ : ∃ k, 48 - j = k + 1 := ⟨47 - j, by omega⟩
  have hk2 : 48 - (j + 1) = k := by omega
  have ht : (x.take j).length = j := by rw [List.length_take]; omega
  have ht2 : x.take (j + 1) = x.take j ++ [x[j]'(by omega)] := List.take_succ_eq_append_getElem (by omega)
  rw [hk, hk2, ht2, List.set_append_right _ _ (by omega), ht, Nat.sub_self]
  simp only [zs, List.replicate_succ, List.set_cons_zero, List.append_assoc, List.cons_append, List.nil_append]
theorem bothJ_set {x y : List Int} (hx : x.length = 48) (hy : y.length = 48) (j : Nat) (hj : j < 48) : ((bothJ x y j).set j (x[j]'(by omega))).set (48 + j) (y[j]'(by omega)) = bothJ x y (j + 1) := by
  have h1 : (x.take j ++ zs (48 - j)).length = 48 := by simp [hx, zs]; omega
  have h2 : (x.take (j + 1) ++ zs (48 - (j + 1))).length = 48 := by simp [hx, zs]; omega
  unfold bothJ
  rw [List.set_append_left _ _ (by omega), take_set hx j hj, List.set_append_right _ _ (by omega), h2, Nat.add_sub_cancel_left, take_set hy j hj]
theorem bothJ_all {x y : List Int} (hx : x.length = 48) (hy : y.length = 48) : bothJ x y 48 = x ++ y := by
  unfold bothJ
  rw [List.take_of_length_le (by omega), List.take_of_length_le (by omega)]
  simp [zs]
theorem bothJ_no (x y : List Int) : bothJ x y 0 = zs 96 := by simp [bothJ, zs]
theorem half_get {a : List Int} (ha : Byts 64 a) {j : Nat} (hj : j < 48) : (halfS a)[j]'(by rw [(halfS_byts ha).len]; exact hj) = a[14 + j]'(by rw [ha.len]; omega) := by simp [halfS]
theorem build25s (w : World) (a b c d e : Int) : (Instr.build 45 #[(0, .int .i64 a), (3, .int .i64 d), (1, .int .i64 b), (2, .int .i64 c), (4, .int .i64 e)]).run Tryd.prog w = .ok (aggV (recC ⟨a, b, c, d, e, zs 96⟩)) w := by kernel_rfl
theorem cf41 (vs : Array Value) (w : World) : (callFunc 74 vs).run Tryd.prog w = .ok (.enter 74 vs) w := by kernel_rfl
section
variable {o : Oper} {a : Act} {w : World} {K : Act → World → Prop} {Q : Exit → Act → World → Prop}
theorem o_quo16 (x : Operand) (ho : o.op = .binOp .quo 3 x (.const (.int .i64 16)) 3) (c : Int) (hc : 0 ≤ c ∧ c < 256) (hx : a.eval x = .int .i64 c) (h : K (a.put o.dst (.int .i64 (c / 16))) w) : o.wp Tryd.prog a w K Q := by
  have h1 : c.tdiv 16 = c / 16 := Int.tdiv_eq_ediv_of_nonneg hc.1
  have hw : IntKind.i64.wrap (c / 16) = c / 16 := by rw [IntKind.wrap_i64]; omega
  unfold Oper.wp execOp
  simp only [ho, hx]
  simp [go_sem, h1, hw]
  exact h
theorem o_rem16 (x : Operand) (ho : o.op = .binOp .rem 3 x (.const (.int .i64 16)) 3) (c : Int) (hc : 0 ≤ c ∧ c < 256) (hx : a.eval x = .int .i64 c) (h : K (a.put o.dst (.int .i64 (c % 16))) w) : o.wp Tryd.prog a w K Q := by
  have h1 : c.tmod 16 = c % 16 := Int.tmod_eq_emod_of_nonneg hc.1
  unfold Oper.wp execOp
  simp only [ho, hx]
  simp [go_sem, h1]
  exact h
end
theorem vs16 {vs : List Value} (h : vs.length = 16) : ∃ a b c d e f g i j k l m n o p q, vs = [a, b, c, d, e, f, g, i, j, k, l, m, n, o, p, q] := by
  match vs, h with
  | [a, b, c, d, e, f, g, i, j, k, l, m, n, o, p, q], _ => exact ⟨a, b, c, d, e, f, g, i, j, k, l, m, n, o, p, q, rfl⟩
/-- What Said keeps while it goes. -/
structure Dw (w wr : World) (b0 b1 zb q : Nat) (s t : List Int) (r : Rec) : Prop where
  s0 : Blk wr b0 80 (u8s s)
  s1 : Blk wr b1 80 (u8s t)
  res : Blk wr zb 45 (recC zrec)
  rc : Blk wr q 45 (recC r)
  kept : Kept [] w wr
  nz : w.heap.size ≤ zb
  nq : zb < q
  n0 : b0 < q
  n1 : b1 < q
theorem recC_at (r : Rec) (i : Nat) : (recC r)[5 + i]? = (u8s r.bd)[i]? := by rw [Nat.add_comm]; rfl
theorem recC_set (a b c d e : Int) (l : List Int) (i : Nat) (x : Int) : (recC ⟨a, b, c, d, e, l⟩).set (5 + i) (.int .u8 x) = recC ⟨a, b, c, d, e, l.set i x⟩ := by
  rw [Nat.add_comm]
  show _ :: _ :: _ :: _ :: _ :: (u8s l).set i (.int .u8 x) = _
  rw [u8s_set]
  rfl
theorem Dw.two {w wr : World} {b0 b1 zb q : Nat} {s t : List Int} {A B C D E : Int} {X : List Int} (h : Dw w wr b0 b1 zb q s t ⟨A, B, C, D, E, X⟩) (i k : Nat) (x y : Int) : Dw w (((wr.setCell ⟨q, 5 + i, none⟩ (.int .u8 x)).setCell ⟨q, 5 + k, none⟩ (.int .u8 y)).drew) b0 b1 zb q s t ⟨A, B, C, D, E, (X.set i x).set k y⟩ := by
  have h0 := h.n0
  have h1 := h.n1
  have h2 := h.nq
  have h3 := h.nz
  refine ⟨((h.s0.set_other (by omega) _).set_other (by omega) _).drew, ((h.s1.set_other (by omega) _).set_other (by omega) _).drew, ((h.res.set_other (by omega) _).set_other (by omega) _).drew, ?_, ((h.kept.setCell (by simp; omega) _).setCell (by simp; omega) _).drew, h3, h2, h0, h1⟩
  have := ((h.rc.set (i := 5 + i) (.int .u8 x)).set (i := 5 + k) (.int .u8 y)).drew
  rw [recC_set, recC_set] at this
  exact this

set_option maxHeartbeats 4000000 in
set_option maxRecDepth 100000 in
theorem said39 (s t : List Int) (hs : Byts 64 s) (ht : Byts 64 t) (w : World) : Calls Tryd.prog 77 #[aggV (u8s s), aggV (u8s t)] w fun e w' => e = .returned (aggV (recC (betR s t))) ∧ Kept [] w w' := by
  have hsu : (u8s s).length = 64 := by rw [u8s_len, hs.len]
  have hal := (halfS_byts hs).len
  have hbl := (halfS_byts ht).len
  have lbet := recC_len (betR_ok hs ht).bd.len
  have hbet : betR s t = ⟨numL s 1 1 / 16, numL s 2 4, numL s 6 4, numL s 1 1 % 16, numL s 10 4, halfS s ++ halfS t⟩ := rfl
  rw [hbet] at lbet ⊢
  clear hbet
  have hc := byte1 hs 1 (by omega)
  have hc1 : (u8s s)[1]? = some (.int .u8 (numL s 1 1)) := by rw [numL1 hs 1 (by omega)]; simp [u8s, hs.len]
  have N2 := hide (fun w => number41 s hs 2 (by omega) w)
  have N6 := hide (fun w => number41 s hs 6 (by omega) w)
  have N10 := hide (fun w => number41 s hs 10 (by omega) w)
  generalize numL s 1 1 = c at hc hc1 lbet ⊢
  generalize numL s 2 4 = n2 at N2 lbet ⊢
  generalize numL s 6 4 = n6 at N6 lbet ⊢
  generalize numL s 10 4 = n10 at N10 lbet ⊢
  have HC1 := hide hc1
  have HC := hide hc
  clear hc1 hc
  have zrecl : (recC zrec).length = 101 := recC_len zrec_ok.bd.len
  have l0 : (recC ⟨c / 16, n2, n6, c % 16, n10, zs 96⟩).length = 101 := recC_len (by simp [zs])
  go_enter Tryd.func77, Tryd.ntmps77
  go_wp2_with (
    first
    | (refine wpBoxV rfl (.tmp 0) rfl (u8s s) rfl ?_
       intro W0 b0 e0 B0 K0
       have A0 := hide B0
       have KA := hide K0
       clear e0 B0 K0)
    | (refine wpBoxV rfl (.tmp 1) rfl (u8s t) rfl ?_
       intro W1 b1 e1 B1 K1
       have A1 := hide B1
       have C0 := hide ((unhide A0).kept K1 (by simp))
       have KB := hide ((unhide KA).trans K1)
       clear e1 B1 K1 A0 KA)
    | (refine wpAllocW (recC zrec) zero25 4 rfl rfl rfl ?_
       intro W2 zb ez BZ1 K2
       have d0 := hide ((unhide C0).kept K2 (by simp))
       have d1 := hide ((unhide A1).kept K2 (by simp))
       have dz := hide BZ1
       have nz : Hid (w.heap.size ≤ zb) := by have := (unhide KB).size; show _ ≤ _; omega
       have dk := hide ((unhide KB).trans K2)
       clear ez BZ1 K2 A1 C0 KB))
  refine wp_region_prefix mixed 16 1 rfl (by kernel_rfl) (tab [.is (.pointer (some ⟨b0, 0 + 1, none⟩)), .is (.int .u8 c), .is (.int .i64 c), .is (.int .i64 (c / 16)), .is (.pointer (some ⟨b0, 0 + 1, none⟩)), .is (.int .u8 c), .is (.int .i64 c), .is (.int .i64 (c % 16)), .is (aggV (u8s s)), .is (.int .i64 n2), .is (aggV (u8s s)), .is (.int .i64 n6), .is (aggV (u8s s)), .is (.int .i64 n10), .is (aggV (recC ⟨c / 16, n2, n6, c % 16, n10, zs 96⟩)), .new 45 (recC zrec) W2.heap.size]) (apartE [15]) (tab_kept _) (by kernel_rfl) ?_ ?_
  · intro j o hj ho a w2 hout hin hk
    match j, ho with
    | 0, ho =>
      obtain rfl := Option.some.inj ho
      exact o_idx29 (.tmp 2) 1 (by omega) rfl b0 0 ((hout 2 (by kernel_rfl)).trans rfl) ⟨_, rfl, rfl, Kept.refl _ _, fun i u _ _ _ => apart_no (by decide) i u _⟩
    | 1, ho =>
      obtain rfl := Option.some.inj ho
      have e0 : a.eval (.tmp 7) = .pointer (some ⟨b0, 0 + 1, none⟩) := hin 0 7 (by kernel_rfl) (by kernel_rfl)
      exact o_load5 (.tmp 7) rfl ⟨b0, 0 + 1, none⟩ (.int .u8 c) e0 (fits_cell ((unhide d0).kept hk (by simp)) 1 _ (unhide HC1)) ⟨_, rfl, rfl, Kept.refl _ _, fun i u _ _ _ => apart_no (by decide) i u _⟩
    | 2, ho =>
      obtain rfl := Option.some.inj ho
      have e0 : a.eval (.tmp 8) = .int .u8 c := hin 1 8 (by kernel_rfl) (by kernel_rfl)
      exact o_conv53 (.tmp 8) rfl c (unhide HC) e0 ⟨_, rfl, rfl, Kept.refl _ _, fun i u _ _ _ => apart_no (by decide) i u _⟩
    | 3, ho =>
      obtain rfl := Option.some.inj ho
      have e0 : a.eval (.tmp 9) = .int .i64 c := hin 2 9 (by kernel_rfl) (by kernel_rfl)
      exact o_quo16 (.tmp 9) rfl c (unhide HC) e0 ⟨_, rfl, rfl, Kept.refl _ _, fun i u _ _ _ => apart_no (by decide) i u _⟩
    | 4, ho =>
      obtain rfl := Option.some.inj ho
      exact o_idx29 (.tmp 2) 1 (by omega) rfl b0 0 ((hout 2 (by kernel_rfl)).trans rfl) ⟨_, rfl, rfl, Kept.refl _ _, fun i u _ _ _ => apart_no (by decide) i u _⟩
    | 5, ho =>
      obtain rfl := Option.some.inj ho
      have e0 : a.eval (.tmp 11) = .pointer (some ⟨b0, 0 + 1, none⟩) := hin 4 11 (by kernel_rfl) (by kernel_rfl)
      exact o_load5 (.tmp 11) rfl ⟨b0, 0 + 1, none⟩ (.int .u8 c) e0 (fits_cell ((unhide d0).kept hk (by simp)) 1 _ (unhide HC1)) ⟨_, rfl, rfl, Kept.refl _ _, fun i u _ _ _ => apart_no (by decide) i u _⟩
    | 6, ho =>
      obtain rfl := Option.some.inj ho
      have e0 : a.eval (.tmp 12) = .int .u8 c := hin 5 12 (by kernel_rfl) (by kernel_rfl)
      exact o_conv53 (.tmp 12) rfl c (unhide HC) e0 ⟨_, rfl, rfl, Kept.refl _ _, fun i u _ _ _ => apart_no (by decide) i u _⟩
    | 7, ho =>
      obtain rfl := Option.some.inj ho
      have e0 : a.eval (.tmp 13) = .int .i64 c := hin 6 13 (by kernel_rfl) (by kernel_rfl)
      exact o_rem16 (.tmp 13) rfl c (unhide HC) e0 ⟨_, rfl, rfl, Kept.refl _ _, fun i u _ _ _ => apart_no (by decide) i u _⟩
    | 8, ho =>
      obtain rfl := Option.some.inj ho
      exact wp_loadA row29 (.tmp 2) rfl b0 0 ((hout 2 (by kernel_rfl)).trans rfl) (u8s s) hsu ((unhide d0).kept hk (by simp)).range ⟨_, rfl, rfl, Kept.refl _ _, fun i u _ _ _ => apart_no (by decide) i u _⟩
    | 9, ho =>
      obtain rfl := Option.some.inj ho
      have e0 : a.eval (.tmp 15) = aggV (u8s s) := hin 8 15 (by kernel_rfl) (by kernel_rfl)
      refine wp_callF 74 _ _ rfl #[aggV (u8s s), .int .i64 (2 : Nat)] (by simp [e0]; rfl) (cf41 _ _) ((unhide N2 w2).mono ?_)
      rintro e w3 ⟨rfl, hk3⟩
      exact ⟨_, rfl, _, rfl, rfl, hk3, fun i u _ _ _ => apart_no (by decide) i u _⟩
    | 10, ho =>
      obtain rfl := Option.some.inj ho
      exact wp_loadA row29 (.tmp 2) rfl b0 0 ((hout 2 (by kernel_rfl)).trans rfl) (u8s s) hsu ((unhide d0).kept hk (by simp)).range ⟨_, rfl, rfl, Kept.refl _ _, fun i u _ _ _ => apart_no (by decide) i u _⟩
    | 11, ho =>
      obtain rfl := Option.some.inj ho
      have e0 : a.eval (.tmp 17) = aggV (u8s s) := hin 10 17 (by kernel_rfl) (by kernel_rfl)
      refine wp_callF 74 _ _ rfl #[aggV (u8s s), .int .i64 (6 : Nat)] (by simp [e0]; rfl) (cf41 _ _) ((unhide N6 w2).mono ?_)
      rintro e w3 ⟨rfl, hk3⟩
      exact ⟨_, rfl, _, rfl, rfl, hk3, fun i u _ _ _ => apart_no (by decide) i u _⟩
    | 12, ho =>
      obtain rfl := Option.some.inj ho
      exact wp_loadA row29 (.tmp 2) rfl b0 0 ((hout 2 (by kernel_rfl)).trans rfl) (u8s s) hsu ((unhide d0).kept hk (by simp)).range ⟨_, rfl, rfl, Kept.refl _ _, fun i u _ _ _ => apart_no (by decide) i u _⟩
    | 13, ho =>
      obtain rfl := Option.some.inj ho
      have e0 : a.eval (.tmp 19) = aggV (u8s s) := hin 12 19 (by kernel_rfl) (by kernel_rfl)
      refine wp_callF 74 _ _ rfl #[aggV (u8s s), .int .i64 (10 : Nat)] (by simp [e0]; rfl) (cf41 _ _) ((unhide N10 w2).mono ?_)
      rintro e w3 ⟨rfl, hk3⟩
      exact ⟨_, rfl, _, rfl, rfl, hk3, fun i u _ _ _ => apart_no (by decide) i u _⟩
    | 14, ho =>
      obtain rfl := Option.some.inj ho
      have e0 : a.eval (.tmp 10) = .int .i64 (c / 16) := hin 3 10 (by kernel_rfl) (by kernel_rfl)
      have e1 : a.eval (.tmp 14) = .int .i64 (c % 16) := hin 7 14 (by kernel_rfl) (by kernel_rfl)
      have e2 : a.eval (.tmp 16) = .int .i64 n2 := hin 9 16 (by kernel_rfl) (by kernel_rfl)
      have e3 : a.eval (.tmp 18) = .int .i64 n6 := hin 11 18 (by kernel_rfl) (by kernel_rfl)
      have e4 : a.eval (.tmp 20) = .int .i64 n10 := hin 13 20 (by kernel_rfl) (by kernel_rfl)
      exact o_buildP _ rfl #[(0, .int .i64 (c / 16)), (3, .int .i64 (c % 16)), (1, .int .i64 n2), (2, .int .i64 n6), (4, .int .i64 n10)] (by simp [e0, e1, e2, e3, e4]) _ (build25s _ _ _ _ _ _) ⟨_, rfl, rfl, Kept.refl _ _, fun i u _ _ _ => apart_no (by decide) i u _⟩
    | 15, ho =>
      obtain rfl := Option.some.inj ho
      exact wp_allocA (recC zrec) zero25 rfl ⟨_, rfl, ⟨_, rfl, hk.size, Blk.new' rfl⟩, (Kept.refl _ _).alloc _, fun i u _ _ h => apart_new (by simp) i 15 u h⟩
    | n + 16, ho => exact absurd hj (by omega)
  · intro vs w3 hlen hF hE hk
    obtain ⟨x0, x1, x2, x3, x4, x5, x6, x7, x8, x9, x10, x11, x12, x13, x14, x15, rfl⟩ := vs16 hlen
    obtain rfl : x0 = .pointer (some ⟨b0, 0 + 1, none⟩) := hF 0 _ rfl
    obtain rfl : x1 = .int .u8 c := hF 1 _ rfl
    obtain rfl : x2 = .int .i64 c := hF 2 _ rfl
    obtain rfl : x3 = .int .i64 (c / 16) := hF 3 _ rfl
    obtain rfl : x4 = .pointer (some ⟨b0, 0 + 1, none⟩) := hF 4 _ rfl
    obtain rfl : x5 = .int .u8 c := hF 5 _ rfl
    obtain rfl : x6 = .int .i64 c := hF 6 _ rfl
    obtain rfl : x7 = .int .i64 (c % 16) := hF 7 _ rfl
    obtain rfl : x8 = aggV (u8s s) := hF 8 _ rfl
    obtain rfl : x9 = .int .i64 n2 := hF 9 _ rfl
    obtain rfl : x10 = aggV (u8s s) := hF 10 _ rfl
    obtain rfl : x11 = .int .i64 n6 := hF 11 _ rfl
    obtain rfl : x12 = aggV (u8s s) := hF 12 _ rfl
    obtain rfl : x13 = .int .i64 n10 := hF 13 _ rfl
    obtain rfl : x14 = aggV (recC ⟨c / 16, n2, n6, c % 16, n10, zs 96⟩) := hF 14 _ rfl
    obtain ⟨q, rfl, hq, hbq⟩ : ∃ q, x15 = P0 q ∧ W2.heap.size ≤ q ∧ Blk w3 q 45 (recC zrec) := hF 15 _ rfl
    simp only [List.take_succ_cons, List.take_zero, putAll, Act.put, List.setIfInBounds_toArray, List.set_cons_succ, List.set_cons_zero]
    refine wpAny_all (rs := [16]) (by kernel_rfl) (by simp) ?_
    intro i hi
    obtain rfl : i = 16 := by simpa using hi
    refine wpOp_of rfl rfl (wp_storeN row25 (.tmp 5) (.tmp 21) rfl rfl q 0 (recC ⟨c / 16, n2, n6, c % 16, n10, zs 96⟩) rfl rfl l0 (recC_one _) (hbq.there (by rw [zrecl]; omega)) ?_)
    refine wpAny_done (by kernel_rfl) ?_ _
    have D0 : Hid (Dw w (w3.setCells q 0 (recC ⟨c / 16, n2, n6, c % 16, n10, zs 96⟩)) b0 b1 zb q s t ⟨c / 16, n2, n6, c % 16, n10, zs 96⟩) := by
      have y0 := (unhide d0).lt
      have y1 := (unhide d1).lt
      have y2 := (unhide dz).lt
      have y3 := unhide nz
      have y4 := (unhide dk).size
      exact ⟨((unhide d0).kept hk (by simp)).other (by omega), ((unhide d1).kept hk (by simp)).other (by omega), ((unhide dz).kept hk (by simp)).other (by omega), hbq.put (by rw [zrecl, l0]), ((unhide dk).trans hk).setCells _ _ (by omega), y3, by omega, by omega, by omega⟩
    clear hF hE hk hbq hq d0 d1 dz dk nz
    generalize (w3.setCells q 0 (recC ⟨c / 16, n2, n6, c % 16, n10, zs 96⟩)) = W4 at *
    clear hlen l0
    go_wp2_with fail
    go_loopw [6] (fun i wr => ∃ j : Nat, j ≤ 48 ∧ i = .int .i64 j ∧ Hid (Dw w wr b0 b1 zb q s t ⟨c / 16, n2, n6, c % 16, n10, bothJ (halfS s) (halfS t) j⟩)) (fun i _ => 48 - (intOf i).toNat)
    case atStart => exact ⟨0, by omega, rfl, by rw [bothJ_no]; exact D0⟩
    case round =>
      obtain ⟨j, hj, rfl, R⟩ := hrel
      clear D0
      have hJl := bothJ_len hal hbl j hj
      by_cases hlt : j < 48
      · obtain ⟨x, ex⟩ : ∃ x, (halfS s)[j]'(by omega) = x := ⟨_, rfl⟩
        obtain ⟨y, ey⟩ : ∃ y, (halfS t)[j]'(by omega) = y := ⟨_, rfl⟩
        have qx : wr.cell? ⟨b0, 14 + j, none⟩ = some (.int .u8 x) := fits_cell (unhide R).s0 (14 + j) _ (by simp [u8s, show 14 + j < s.length by rw [hs.len]; omega]; rw [← half_get hs hlt, ex])
        have qy : wr.cell? ⟨b1, 14 + j, none⟩ = some (.int .u8 y) := fits_cell (unhide R).s1 (14 + j) _ (by simp [u8s, show 14 + j < t.length by rw [ht.len]; omega]; rw [← half_get ht hlt, ey])
        have e6 : ((14 : Int) + (j : Int)).toNat = 14 + j := by omega
        have e48 : ((48 : Int) + (j : Int)).toNat = 48 + j := by omega
        have q1 : wr.cell? ⟨q, 5 + j, none⟩ = some (.int .u8 ((bothJ (halfS s) (halfS t) j)[j]'(by omega))) := fits_cell (unhide R).rc (5 + j) _ (by rw [recC_at]; simp [u8s, show j < (bothJ (halfS s) (halfS t) j).length by omega])
        have q2 : wr.cell? ⟨q, 5 + (48 + j), none⟩ = some (.int .u8 ((bothJ (halfS s) (halfS t) j)[48 + j]'(by omega))) := fits_cell (unhide R).rc (5 + (48 + j)) _ (by rw [recC_at]; simp [u8s, show 48 + j < (bothJ (halfS s) (halfS t) j).length by omega])
        have z1 := (unhide R).rc.frozen (5 + j)
        have z2 := (unhide R).rc.frozen (5 + (48 + j))
        have EX := hide ex
        have EY := hide ey
        clear ex ey
        go_wp2_with fail
        go_region
        all_goals go_wp2_with fail
        all_goals go_roundw
        case rel =>
          refine ⟨j + 1, by omega, by go_num, ?_⟩
          have e1 := bothJ_set hal hbl j hlt
          rw [unhide EX, unhide EY] at e1
          rw [← e1]
          exact (unhide R).two j (48 + j) x y
        case measure => simp [intOf]; omega
      · obtain rfl : j = 48 := by omega
        rw [bothJ_all hal hbl] at R
        clear hJl
        go_wp2_with (
          first
          | (refine wpLoadA row25 (by rfl) (.tmp 5) (by rfl) q 0 (by rfl) (recC ⟨c / 16, n2, n6, c % 16, n10, halfS s ++ halfS t⟩) lbet (unhide R).rc.range ?_)
          | (refine wpStoreA row25 (by rfl) (.tmp 4) (.tmp 41) (by rfl) zb 0 (recC ⟨c / 16, n2, n6, c % 16, n10, halfS s ++ halfS t⟩) (by rfl) (by rfl) lbet (recC_one _) ((unhide R).res.there (by rw [zrecl]; omega)) ?_))
        have g4 := (unhide R).res.put (vs := recC ⟨c / 16, n2, n6, c % 16, n10, halfS s ++ halfS t⟩) (by rw [zrecl, lbet])
        have nz := (unhide R).nz
        exact bodyPost_ret (res39 _ _ _ _ rfl lbet g4) rfl ⟨rfl, (unhide R).kept.setCells _ _ (by omega)⟩

end Go.Proofs.YtmeajhdhiebkdaaDoor.Rc

/-
  The walk of the document's Get.
-/
namespace Go.Proofs.YtmeajhdhiebkdaaDoor.Rc
set_option maxRecDepth 100000
open Go.RowKit

section
variable {o : Oper} {a : Act} {w : World} {K : Act → World → Prop} {Q : Exit → Act → World → Prop}
theorem o_pickOrT (c x : Operand) (ho : o.op = .pick c (.const (.bool true)) x) (hc : a.eval c = .bool true) (h : K (a.put o.dst (.bool true)) w) : o.wp Tryd.prog a w K Q := by
  unfold Oper.wp execOp
  simp only [ho, hc]
  simp [go_sem]
  exact h
theorem o_pickOr0 (c x : Operand) (ho : o.op = .pick c (.const (.bool true)) x) (r : Bool) (hc : a.eval c = .bool false) (hx : a.eval x = .bool r) (h : K (a.put o.dst (.bool r)) w) : o.wp Tryd.prog a w K Q := by
  unfold Oper.wp execOp
  simp only [ho, hc, hx]
  simp [go_sem]
  exact h
end
theorem cf17 (vs : Array Value) (w : World) : (callFunc 79 vs).run Tryd.prog w = .ok (.enter 79 vs) w := by kernel_rfl
theorem cf13 (vs : Array Value) (w : World) : (callFunc 76 vs).run Tryd.prog w = .ok (.enter 76 vs) w := by kernel_rfl
theorem cf14 (vs : Array Value) (w : World) : (callFunc 78 vs).run Tryd.prog w = .ok (.enter 78 vs) w := by kernel_rfl
theorem res19 (w : World) (z : Nat) (vs : List Value) (e : Int) (tmps : Array Value) (h4 : tmps[4]?.getD undef = P0 z) (h5 : tmps[5]?.getD undef = .int .i64 e) (hl : vs.length = 101) (hb : Blk w z 45 vs) : (results Tryd.f50 tmps).run Tryd.prog w = .ok (.tuple #[aggV vs, .int .i64 e]) w := by
  have := loadV row25 hl hb
  simp [results, Tryd.results50, h4, h5, this, asAddr]
/-- What Get keeps while it goes. -/
structure Ew (w wr : World) (b0 b1 zb : Nat) (s t : List Int) : Prop where
  s0 : Blk wr b0 80 (u8s s)
  s1 : Blk wr b1 80 (u8s t)
  res : Blk wr zb 45 (recC zrec)
  kept : Kept [] w wr
  nz : w.heap.size ≤ zb
theorem Ew.step {w wr wn : World} {b0 b1 zb : Nat} {s t : List Int} (h : Ew w wr b0 b1 zb s t) (hk : Kept [] wr wn) : Ew w wn b0 b1 zb s t :=
  ⟨h.s0.kept hk (by simp), h.s1.kept hk (by simp), h.res.kept hk (by simp), h.kept.trans hk, h.nz⟩

set_option maxHeartbeats 4000000 in
set_option maxRecDepth 100000 in
theorem rget_A (a b : List Int) (la : a.length = 64) (lb : b.length = 64) (R : Rec) (hR : R.bd.length = 96) (P39 : ∀ w, Calls Tryd.prog 77 #[aggV (u8s a), aggV (u8s b)] w fun e w' => e = .returned (aggV (recC R)) ∧ Kept [] w w') (P14 : ∀ w, Calls Tryd.prog 78 #[aggV (recC R)] w fun e w' => e = .returned (.bool false) ∧ Kept [] w w') (w : World) : Calls Tryd.prog 50 #[aggV (u8s a), aggV (u8s b)] w fun e w' => e = .returned (.tuple #[aggV (recC zrec), .int .i64 12]) ∧ Kept [] w w' := by
  have H39 := hide P39
  have H14 := hide P14
  clear P39 P14
  have lR := recC_len hR
  have lz : (recC zrec).length = 101 := recC_len zrec_ok.bd.len
  go_enter Tryd.func50, Tryd.ntmps50
  go_wp2_with (
    first
    | (refine wpBoxV rfl (.tmp 0) rfl (u8s a) rfl ?_
       intro W1 b0 e1 B1 K1
       have BR := hide B1
       have KA := hide K1
       clear e1 B1 K1)
    | (refine wpBoxV rfl (.tmp 1) rfl (u8s b) rfl ?_
       intro W2 b1 e2 B2 K2
       have BS := hide B2
       replace BR := hide ((unhide BR).kept K2 (by simp))
       replace KA := hide ((unhide KA).trans K2)
       clear e2 B2 K2)
    | (refine wpAllocW (recC zrec) zero25 4 rfl rfl rfl ?_
       intro W3 zb e3 B3 K3
       have G : Hid (Ew w W3 b0 b1 zb a b) := ⟨(unhide BR).kept K3 (by simp), (unhide BS).kept K3 (by simp), B3, (unhide KA).trans K3, by have := (unhide KA).size; omega⟩
       clear e3 B3 K3 BR BS KA)
    | (refine wpLoadA row29 (by rfl) (.tmp 2) (by rfl) b0 0 (by kernel_rfl) (u8s a) (u8l la) (unhide G).s0.range ?_)
    | (refine wpLoadA row29 (by rfl) (.tmp 3) (by rfl) b1 0 (by kernel_rfl) (u8s b) (u8l lb) (unhide G).s1.range ?_)
    | (go_at_call 77
       refine (unhide H39 _).mono ?_
       rintro e W4 ⟨rfl, K4⟩
       replace G := hide ((unhide G).step K4)
       clear K4)
    | (refine wpNew row25 (recC zrec) lz zero25 6 (by rfl) (by rfl) (by rfl) (.tmp 9) (by rfl) (by rfl) (by rfl) (recC R) lR (recC_one _) (by kernel_rfl) (by kernel_rfl) ?_
       intro W5 q e5 B5 K5
       replace G := hide ((unhide G).step K5)
       have RR := hide B5
       clear e5 B5 K5))
  refine wp_region_any mixed (wpAny_tq 15 rfl (by kernel_rfl) [some (aggV (recC R)), some (.bool false), some (.bool true), some (.bool true), none, none, none, none, some (.bool true), some (.bool true), none, none, none, none, some (.bool true)] rfl (by kernel_rfl) (by kernel_rfl) ?_ ?_)
  · intro i o' hi hsk ho a' w2 hout hin hk2
    replace hk2 : Kept [] W5 w2 := ⟨hk2.os, hk2.tape, hk2.output, hk2.size, hk2.block⟩
    match i, ho, hsk with
    | 0, ho, hsk =>
      obtain rfl := Option.some.inj ho
      exact wp_loadA row25 (.tmp 6) rfl q 0 ((hout 6 (by kernel_rfl)).trans rfl) (recC R) lR ((unhide RR).kept hk2 (by simp)).range ⟨_, rfl, tq_is _ _ _ _ rfl, Kept.refl _ _, fun _ _ _ _ _ => trivial⟩
    | 1, ho, hsk =>
      obtain rfl := Option.some.inj ho
      have e0 : a'.eval (.tmp 10) = aggV (recC R) := is_tq (hin 0 10 (by kernel_rfl) (by kernel_rfl)) rfl
      refine wp_callF 78 _ _ rfl #[aggV (recC R)] (by simp [e0]) (cf14 _ _) ((unhide H14 w2).mono ?_)
      rintro e w3 ⟨rfl, hk3⟩
      exact ⟨_, rfl, _, rfl, tq_is _ _ _ _ rfl, hk3, fun _ _ _ _ _ => trivial⟩
    | 2, ho, hsk =>
      obtain rfl := Option.some.inj ho
      have e0 : a'.eval (.tmp 11) = .bool false := is_tq (hin 1 11 (by kernel_rfl) (by kernel_rfl)) rfl
      exact o_not (.tmp 11) rfl _ e0 ⟨_, rfl, tq_is _ _ _ _ rfl, Kept.refl _ _, fun _ _ _ _ _ => trivial⟩
    | 3, ho, hsk =>
      obtain rfl := Option.some.inj ho
      have e0 : a'.eval (.tmp 12) = .bool true := is_tq (hin 2 12 (by kernel_rfl) (by kernel_rfl)) rfl
      exact wp_move (.tmp 12) rfl _ e0 ⟨_, rfl, tq_is _ _ _ _ rfl, Kept.refl _ _, fun _ _ _ _ _ => trivial⟩
    | 4, ho, hsk =>
      cases hsk
    | 5, ho, hsk =>
      cases hsk
    | 6, ho, hsk =>
      cases hsk
    | 7, ho, hsk =>
      cases hsk
    | 8, ho, hsk =>
      obtain rfl := Option.some.inj ho
      have e0 : a'.eval (.tmp 13) = .bool true := is_tq (hin 3 13 (by kernel_rfl) (by kernel_rfl)) rfl
      exact o_pickOrT (.tmp 13) (.tmp 17) rfl e0 ⟨_, rfl, tq_is _ _ _ _ rfl, Kept.refl _ _, fun _ _ _ _ _ => trivial⟩
    | 9, ho, hsk =>
      obtain rfl := Option.some.inj ho
      have e0 : a'.eval (.tmp 18) = .bool true := is_tq (hin 8 18 (by kernel_rfl) (by kernel_rfl)) rfl
      exact wp_move (.tmp 18) rfl _ e0 ⟨_, rfl, tq_is _ _ _ _ rfl, Kept.refl _ _, fun _ _ _ _ _ => trivial⟩
    | 10, ho, hsk =>
      cases hsk
    | 11, ho, hsk =>
      cases hsk
    | 12, ho, hsk =>
      cases hsk
    | 13, ho, hsk =>
      cases hsk
    | 14, ho, hsk =>
      obtain rfl := Option.some.inj ho
      have e0 : a'.eval (.tmp 19) = .bool true := is_tq (hin 9 19 (by kernel_rfl) (by kernel_rfl)) rfl
      exact o_pickOrT (.tmp 19) (.tmp 23) rfl e0 ⟨_, rfl, tq_is _ _ _ _ rfl, Kept.refl _ _, fun _ _ _ _ _ => trivial⟩
  intro w9 hk9
  replace hk9 : Kept [] W5 w9 := ⟨hk9.os, hk9.tape, hk9.output, hk9.size, hk9.block⟩
  simp only [valsQ, List.map_cons, List.map_nil, Option.getD_some, Option.getD_none, List.take_succ_cons, List.take_zero, putAll, Act.put, List.setIfInBounds_toArray, List.set_cons_succ, List.set_cons_zero]
  refine wpAny_done (by kernel_rfl) ?_ _
  replace G := hide ((unhide G).step hk9)
  replace RR := hide ((unhide RR).kept hk9 (by simp))
  clear hk9
  go_wp2_with (
    first
    | (refine wpBuildZ (recC zrec) build25 (by rfl) (by rfl) ?_)
    | (refine wpStoreA row25 (by rfl) (.tmp 4) (.tmp 25) (by rfl) zb 0 (recC zrec) (by rfl) (by rfl) lz (recC_one _) ((unhide G).res.there (by rw [lz]; omega)) ?_))
  have g4 := (unhide G).res.put (vs := recC zrec) (by rw [lz])
  have nz := (unhide G).nz
  exact bodyPost_ret (res19 _ _ _ _ _ rfl rfl lz g4) rfl ⟨rfl, (unhide G).kept.setCells _ _ (by omega)⟩

set_option maxHeartbeats 4000000 in
set_option maxRecDepth 100000 in
theorem rget_B (a b : List Int) (la : a.length = 64) (lb : b.length = 64) (R : Rec) (hR : R.bd.length = 96) (P39 : ∀ w, Calls Tryd.prog 77 #[aggV (u8s a), aggV (u8s b)] w fun e w' => e = .returned (aggV (recC R)) ∧ Kept [] w w') (P14 : ∀ w, Calls Tryd.prog 78 #[aggV (recC R)] w fun e w' => e = .returned (.bool true) ∧ Kept [] w w') (A : List Int) (lA : A.length = 64) (P17 : ∀ w, Calls Tryd.prog 79 #[aggV (recC R), .int .i64 0] w fun e w' => e = .returned (aggV (u8s A)) ∧ Kept [] w w') (h0 : decide (A = a) = false) (w : World) : Calls Tryd.prog 50 #[aggV (u8s a), aggV (u8s b)] w fun e w' => e = .returned (.tuple #[aggV (recC zrec), .int .i64 12]) ∧ Kept [] w w' := by
  have H39 := hide P39
  have H14 := hide P14
  have H17 := hide P17
  clear P39 P14 P17
  have E0 := hide h0
  clear h0
  have lR := recC_len hR
  have lz : (recC zrec).length = 101 := recC_len zrec_ok.bd.len
  go_enter Tryd.func50, Tryd.ntmps50
  go_wp2_with (
    first
    | (refine wpBoxV rfl (.tmp 0) rfl (u8s a) rfl ?_
       intro W1 b0 e1 B1 K1
       have BR := hide B1
       have KA := hide K1
       clear e1 B1 K1)
    | (refine wpBoxV rfl (.tmp 1) rfl (u8s b) rfl ?_
       intro W2 b1 e2 B2 K2
       have BS := hide B2
       replace BR := hide ((unhide BR).kept K2 (by simp))
       replace KA := hide ((unhide KA).trans K2)
       clear e2 B2 K2)
    | (refine wpAllocW (recC zrec) zero25 4 rfl rfl rfl ?_
       intro W3 zb e3 B3 K3
       have G : Hid (Ew w W3 b0 b1 zb a b) := ⟨(unhide BR).kept K3 (by simp), (unhide BS).kept K3 (by simp), B3, (unhide KA).trans K3, by have := (unhide KA).size; omega⟩
       clear e3 B3 K3 BR BS KA)
    | (refine wpLoadA row29 (by rfl) (.tmp 2) (by rfl) b0 0 (by kernel_rfl) (u8s a) (u8l la) (unhide G).s0.range ?_)
    | (refine wpLoadA row29 (by rfl) (.tmp 3) (by rfl) b1 0 (by kernel_rfl) (u8s b) (u8l lb) (unhide G).s1.range ?_)
    | (go_at_call 77
       refine (unhide H39 _).mono ?_
       rintro e W4 ⟨rfl, K4⟩
       replace G := hide ((unhide G).step K4)
       clear K4)
    | (refine wpNew row25 (recC zrec) lz zero25 6 (by rfl) (by rfl) (by rfl) (.tmp 9) (by rfl) (by rfl) (by rfl) (recC R) lR (recC_one _) (by kernel_rfl) (by kernel_rfl) ?_
       intro W5 q e5 B5 K5
       replace G := hide ((unhide G).step K5)
       have RR := hide B5
       clear e5 B5 K5))
  refine wp_region_any mixed (wpAny_tq 15 rfl (by kernel_rfl) [some (aggV (recC R)), some (.bool true), some (.bool false), some (.bool false), some (aggV (recC R)), some (aggV (u8s A)), some (aggV (u8s a)), some (.bool true), some (.bool true), some (.bool true), none, none, none, none, some (.bool true)] rfl (by kernel_rfl) (by kernel_rfl) ?_ ?_)
  · intro i o' hi hsk ho a' w2 hout hin hk2
    replace hk2 : Kept [] W5 w2 := ⟨hk2.os, hk2.tape, hk2.output, hk2.size, hk2.block⟩
    match i, ho, hsk with
    | 0, ho, hsk =>
      obtain rfl := Option.some.inj ho
      exact wp_loadA row25 (.tmp 6) rfl q 0 ((hout 6 (by kernel_rfl)).trans rfl) (recC R) lR ((unhide RR).kept hk2 (by simp)).range ⟨_, rfl, tq_is _ _ _ _ rfl, Kept.refl _ _, fun _ _ _ _ _ => trivial⟩
    | 1, ho, hsk =>
      obtain rfl := Option.some.inj ho
      have e0 : a'.eval (.tmp 10) = aggV (recC R) := is_tq (hin 0 10 (by kernel_rfl) (by kernel_rfl)) rfl
      refine wp_callF 78 _ _ rfl #[aggV (recC R)] (by simp [e0]) (cf14 _ _) ((unhide H14 w2).mono ?_)
      rintro e w3 ⟨rfl, hk3⟩
      exact ⟨_, rfl, _, rfl, tq_is _ _ _ _ rfl, hk3, fun _ _ _ _ _ => trivial⟩
    | 2, ho, hsk =>
      obtain rfl := Option.some.inj ho
      have e0 : a'.eval (.tmp 11) = .bool true := is_tq (hin 1 11 (by kernel_rfl) (by kernel_rfl)) rfl
      exact o_not (.tmp 11) rfl _ e0 ⟨_, rfl, tq_is _ _ _ _ rfl, Kept.refl _ _, fun _ _ _ _ _ => trivial⟩
    | 3, ho, hsk =>
      obtain rfl := Option.some.inj ho
      have e0 : a'.eval (.tmp 12) = .bool false := is_tq (hin 2 12 (by kernel_rfl) (by kernel_rfl)) rfl
      exact wp_move (.tmp 12) rfl _ e0 ⟨_, rfl, tq_is _ _ _ _ rfl, Kept.refl _ _, fun _ _ _ _ _ => trivial⟩
    | 4, ho, hsk =>
      obtain rfl := Option.some.inj ho
      exact wp_loadA row25 (.tmp 6) rfl q 0 ((hout 6 (by kernel_rfl)).trans rfl) (recC R) lR ((unhide RR).kept hk2 (by simp)).range ⟨_, rfl, tq_is _ _ _ _ rfl, Kept.refl _ _, fun _ _ _ _ _ => trivial⟩
    | 5, ho, hsk =>
      obtain rfl := Option.some.inj ho
      have e0 : a'.eval (.tmp 14) = aggV (recC R) := is_tq (hin 4 14 (by kernel_rfl) (by kernel_rfl)) rfl
      refine wp_callF 79 _ _ rfl #[aggV (recC R), .int .i64 0] (by simp [e0]; rfl) (cf17 _ _) ((unhide H17 w2).mono ?_)
      rintro e w3 ⟨rfl, hk3⟩
      exact ⟨_, rfl, _, rfl, tq_is _ _ _ _ rfl, hk3, fun _ _ _ _ _ => trivial⟩
    | 6, ho, hsk =>
      obtain rfl := Option.some.inj ho
      exact wp_loadA row29 (.tmp 2) rfl b0 0 ((hout 2 (by kernel_rfl)).trans rfl) (u8s a) (u8l la) ((unhide G).step hk2).s0.range ⟨_, rfl, tq_is _ _ _ _ rfl, Kept.refl _ _, fun _ _ _ _ _ => trivial⟩
    | 7, ho, hsk =>
      obtain rfl := Option.some.inj ho
      have e0 : a'.eval (.tmp 15) = aggV (u8s A) := is_tq (hin 5 15 (by kernel_rfl) (by kernel_rfl)) rfl
      have e1 : a'.eval (.tmp 16) = aggV (u8s a) := is_tq (hin 6 16 (by kernel_rfl) (by kernel_rfl)) rfl
      exact o_neqA 80 80 guard29 (.tmp 15) (.tmp 16) rfl (u8s A) (u8s a) e0 e1 false ((equal29 _ A a lA la).trans (by rw [unhide E0])) ⟨_, rfl, tq_is _ _ _ _ rfl, Kept.refl _ _, fun _ _ _ _ _ => trivial⟩
    | 8, ho, hsk =>
      obtain rfl := Option.some.inj ho
      have e0 : a'.eval (.tmp 13) = .bool false := is_tq (hin 3 13 (by kernel_rfl) (by kernel_rfl)) rfl
      have e1 : a'.eval (.tmp 17) = .bool true := is_tq (hin 7 17 (by kernel_rfl) (by kernel_rfl)) rfl
      exact o_pickOr0 (.tmp 13) (.tmp 17) rfl _ e0 e1 ⟨_, rfl, tq_is _ _ _ _ rfl, Kept.refl _ _, fun _ _ _ _ _ => trivial⟩
    | 9, ho, hsk =>
      obtain rfl := Option.some.inj ho
      have e0 : a'.eval (.tmp 18) = .bool true := is_tq (hin 8 18 (by kernel_rfl) (by kernel_rfl)) rfl
      exact wp_move (.tmp 18) rfl _ e0 ⟨_, rfl, tq_is _ _ _ _ rfl, Kept.refl _ _, fun _ _ _ _ _ => trivial⟩
    | 10, ho, hsk =>
      cases hsk
    | 11, ho, hsk =>
      cases hsk
    | 12, ho, hsk =>
      cases hsk
    | 13, ho, hsk =>
      cases hsk
    | 14, ho, hsk =>
      obtain rfl := Option.some.inj ho
      have e0 : a'.eval (.tmp 19) = .bool true := is_tq (hin 9 19 (by kernel_rfl) (by kernel_rfl)) rfl
      exact o_pickOrT (.tmp 19) (.tmp 23) rfl e0 ⟨_, rfl, tq_is _ _ _ _ rfl, Kept.refl _ _, fun _ _ _ _ _ => trivial⟩
  intro w9 hk9
  replace hk9 : Kept [] W5 w9 := ⟨hk9.os, hk9.tape, hk9.output, hk9.size, hk9.block⟩
  simp only [valsQ, List.map_cons, List.map_nil, Option.getD_some, Option.getD_none, List.take_succ_cons, List.take_zero, putAll, Act.put, List.setIfInBounds_toArray, List.set_cons_succ, List.set_cons_zero]
  refine wpAny_done (by kernel_rfl) ?_ _
  replace G := hide ((unhide G).step hk9)
  replace RR := hide ((unhide RR).kept hk9 (by simp))
  clear hk9
  go_wp2_with (
    first
    | (refine wpBuildZ (recC zrec) build25 (by rfl) (by rfl) ?_)
    | (refine wpStoreA row25 (by rfl) (.tmp 4) (.tmp 25) (by rfl) zb 0 (recC zrec) (by rfl) (by rfl) lz (recC_one _) ((unhide G).res.there (by rw [lz]; omega)) ?_))
  have g4 := (unhide G).res.put (vs := recC zrec) (by rw [lz])
  have nz := (unhide G).nz
  exact bodyPost_ret (res19 _ _ _ _ _ rfl rfl lz g4) rfl ⟨rfl, (unhide G).kept.setCells _ _ (by omega)⟩

set_option maxHeartbeats 4000000 in
set_option maxRecDepth 100000 in
theorem rget_C (a b : List Int) (la : a.length = 64) (lb : b.length = 64) (R : Rec) (hR : R.bd.length = 96) (P39 : ∀ w, Calls Tryd.prog 77 #[aggV (u8s a), aggV (u8s b)] w fun e w' => e = .returned (aggV (recC R)) ∧ Kept [] w w') (P14 : ∀ w, Calls Tryd.prog 78 #[aggV (recC R)] w fun e w' => e = .returned (.bool true) ∧ Kept [] w w') (A : List Int) (lA : A.length = 64) (P17 : ∀ w, Calls Tryd.prog 79 #[aggV (recC R), .int .i64 0] w fun e w' => e = .returned (aggV (u8s A)) ∧ Kept [] w w') (h0 : decide (A = a) = true) (B : List Int) (lB : B.length = 64) (Q17 : ∀ w, Calls Tryd.prog 79 #[aggV (recC R), .int .i64 1] w fun e w' => e = .returned (aggV (u8s B)) ∧ Kept [] w w') (h1 : decide (B = b) = false) (w : World) : Calls Tryd.prog 50 #[aggV (u8s a), aggV (u8s b)] w fun e w' => e = .returned (.tuple #[aggV (recC zrec), .int .i64 12]) ∧ Kept [] w w' := by
  have H39 := hide P39
  have H14 := hide P14
  have H17 := hide P17
  clear P39 P14 P17
  have E0 := hide h0
  clear h0
  have I17 := hide Q17
  have E1 := hide h1
  clear Q17 h1
  have lR := recC_len hR
  have lz : (recC zrec).length = 101 := recC_len zrec_ok.bd.len
  go_enter Tryd.func50, Tryd.ntmps50
  go_wp2_with (
    first
    | (refine wpBoxV rfl (.tmp 0) rfl (u8s a) rfl ?_
       intro W1 b0 e1 B1 K1
       have BR := hide B1
       have KA := hide K1
       clear e1 B1 K1)
    | (refine wpBoxV rfl (.tmp 1) rfl (u8s b) rfl ?_
       intro W2 b1 e2 B2 K2
       have BS := hide B2
       replace BR := hide ((unhide BR).kept K2 (by simp))
       replace KA := hide ((unhide KA).trans K2)
       clear e2 B2 K2)
    | (refine wpAllocW (recC zrec) zero25 4 rfl rfl rfl ?_
       intro W3 zb e3 B3 K3
       have G : Hid (Ew w W3 b0 b1 zb a b) := ⟨(unhide BR).kept K3 (by simp), (unhide BS).kept K3 (by simp), B3, (unhide KA).trans K3, by have := (unhide KA).size; omega⟩
       clear e3 B3 K3 BR BS KA)
    | (refine wpLoadA row29 (by rfl) (.tmp 2) (by rfl) b0 0 (by kernel_rfl) (u8s a) (u8l la) (unhide G).s0.range ?_)
    | (refine wpLoadA row29 (by rfl) (.tmp 3) (by rfl) b1 0 (by kernel_rfl) (u8s b) (u8l lb) (unhide G).s1.range ?_)
    | (go_at_call 77
       refine (unhide H39 _).mono ?_
       rintro e W4 ⟨rfl, K4⟩
       replace G := hide ((unhide G).step K4)
       clear K4)
    | (refine wpNew row25 (recC zrec) lz zero25 6 (by rfl) (by rfl) (by rfl) (.tmp 9) (by rfl) (by rfl) (by rfl) (recC R) lR (recC_one _) (by kernel_rfl) (by kernel_rfl) ?_
       intro W5 q e5 B5 K5
       replace G := hide ((unhide G).step K5)
       have RR := hide B5
       clear e5 B5 K5))
  refine wp_region_any mixed (wpAny_tq 15 rfl (by kernel_rfl) [some (aggV (recC R)), some (.bool true), some (.bool false), some (.bool false), some (aggV (recC R)), some (aggV (u8s A)), some (aggV (u8s a)), some (.bool false), some (.bool false), some (.bool false), some (aggV (recC R)), some (aggV (u8s B)), some (aggV (u8s b)), some (.bool true), some (.bool true)] rfl (by kernel_rfl) (by kernel_rfl) ?_ ?_)
  · intro i o' hi hsk ho a' w2 hout hin hk2
    replace hk2 : Kept [] W5 w2 := ⟨hk2.os, hk2.tape, hk2.output, hk2.size, hk2.block⟩
    match i, ho, hsk with
    | 0, ho, hsk =>
      obtain rfl := Option.some.inj ho
      exact wp_loadA row25 (.tmp 6) rfl q 0 ((hout 6 (by kernel_rfl)).trans rfl) (recC R) lR ((unhide RR).kept hk2 (by simp)).range ⟨_, rfl, tq_is _ _ _ _ rfl, Kept.refl _ _, fun _ _ _ _ _ => trivial⟩
    | 1, ho, hsk =>
      obtain rfl := Option.some.inj ho
      have e0 : a'.eval (.tmp 10) = aggV (recC R) := is_tq (hin 0 10 (by kernel_rfl) (by kernel_rfl)) rfl
      refine wp_callF 78 _ _ rfl #[aggV (recC R)] (by simp [e0]) (cf14 _ _) ((unhide H14 w2).mono ?_)
      rintro e w3 ⟨rfl, hk3⟩
      exact ⟨_, rfl, _, rfl, tq_is _ _ _ _ rfl, hk3, fun _ _ _ _ _ => trivial⟩
    | 2, ho, hsk =>
      obtain rfl := Option.some.inj ho
      have e0 : a'.eval (.tmp 11) = .bool true := is_tq (hin 1 11 (by kernel_rfl) (by kernel_rfl)) rfl
      exact o_not (.tmp 11) rfl _ e0 ⟨_, rfl, tq_is _ _ _ _ rfl, Kept.refl _ _, fun _ _ _ _ _ => trivial⟩
    | 3, ho, hsk =>
      obtain rfl := Option.some.inj ho
      have e0 : a'.eval (.tmp 12) = .bool false := is_tq (hin 2 12 (by kernel_rfl) (by kernel_rfl)) rfl
      exact wp_move (.tmp 12) rfl _ e0 ⟨_, rfl, tq_is _ _ _ _ rfl, Kept.refl _ _, fun _ _ _ _ _ => trivial⟩
    | 4, ho, hsk =>
      obtain rfl := Option.some.inj ho
      exact wp_loadA row25 (.tmp 6) rfl q 0 ((hout 6 (by kernel_rfl)).trans rfl) (recC R) lR ((unhide RR).kept hk2 (by simp)).range ⟨_, rfl, tq_is _ _ _ _ rfl, Kept.refl _ _, fun _ _ _ _ _ => trivial⟩
    | 5, ho, hsk =>
      obtain rfl := Option.some.inj ho
      have e0 : a'.eval (.tmp 14) = aggV (recC R) := is_tq (hin 4 14 (by kernel_rfl) (by kernel_rfl)) rfl
      refine wp_callF 79 _ _ rfl #[aggV (recC R), .int .i64 0] (by simp [e0]; rfl) (cf17 _ _) ((unhide H17 w2).mono ?_)
      rintro e w3 ⟨rfl, hk3⟩
      exact ⟨_, rfl, _, rfl, tq_is _ _ _ _ rfl, hk3, fun _ _ _ _ _ => trivial⟩
    | 6, ho, hsk =>
      obtain rfl := Option.some.inj ho
      exact wp_loadA row29 (.tmp 2) rfl b0 0 ((hout 2 (by kernel_rfl)).trans rfl) (u8s a) (u8l la) ((unhide G).step hk2).s0.range ⟨_, rfl, tq_is _ _ _ _ rfl, Kept.refl _ _, fun _ _ _ _ _ => trivial⟩
    | 7, ho, hsk =>
      obtain rfl := Option.some.inj ho
      have e0 : a'.eval (.tmp 15) = aggV (u8s A) := is_tq (hin 5 15 (by kernel_rfl) (by kernel_rfl)) rfl
      have e1 : a'.eval (.tmp 16) = aggV (u8s a) := is_tq (hin 6 16 (by kernel_rfl) (by kernel_rfl)) rfl
      exact o_neqA 80 80 guard29 (.tmp 15) (.tmp 16) rfl (u8s A) (u8s a) e0 e1 true ((equal29 _ A a lA la).trans (by rw [unhide E0])) ⟨_, rfl, tq_is _ _ _ _ rfl, Kept.refl _ _, fun _ _ _ _ _ => trivial⟩
    | 8, ho, hsk =>
      obtain rfl := Option.some.inj ho
      have e0 : a'.eval (.tmp 13) = .bool false := is_tq (hin 3 13 (by kernel_rfl) (by kernel_rfl)) rfl
      have e1 : a'.eval (.tmp 17) = .bool false := is_tq (hin 7 17 (by kernel_rfl) (by kernel_rfl)) rfl
      exact o_pickOr0 (.tmp 13) (.tmp 17) rfl _ e0 e1 ⟨_, rfl, tq_is _ _ _ _ rfl, Kept.refl _ _, fun _ _ _ _ _ => trivial⟩
    | 9, ho, hsk =>
      obtain rfl := Option.some.inj ho
      have e0 : a'.eval (.tmp 18) = .bool false := is_tq (hin 8 18 (by kernel_rfl) (by kernel_rfl)) rfl
      exact wp_move (.tmp 18) rfl _ e0 ⟨_, rfl, tq_is _ _ _ _ rfl, Kept.refl _ _, fun _ _ _ _ _ => trivial⟩
    | 10, ho, hsk =>
      obtain rfl := Option.some.inj ho
      exact wp_loadA row25 (.tmp 6) rfl q 0 ((hout 6 (by kernel_rfl)).trans rfl) (recC R) lR ((unhide RR).kept hk2 (by simp)).range ⟨_, rfl, tq_is _ _ _ _ rfl, Kept.refl _ _, fun _ _ _ _ _ => trivial⟩
    | 11, ho, hsk =>
      obtain rfl := Option.some.inj ho
      have e0 : a'.eval (.tmp 20) = aggV (recC R) := is_tq (hin 10 20 (by kernel_rfl) (by kernel_rfl)) rfl
      refine wp_callF 79 _ _ rfl #[aggV (recC R), .int .i64 1] (by simp [e0]; rfl) (cf17 _ _) ((unhide I17 w2).mono ?_)
      rintro e w3 ⟨rfl, hk3⟩
      exact ⟨_, rfl, _, rfl, tq_is _ _ _ _ rfl, hk3, fun _ _ _ _ _ => trivial⟩
    | 12, ho, hsk =>
      obtain rfl := Option.some.inj ho
      exact wp_loadA row29 (.tmp 3) rfl b1 0 ((hout 3 (by kernel_rfl)).trans rfl) (u8s b) (u8l lb) ((unhide G).step hk2).s1.range ⟨_, rfl, tq_is _ _ _ _ rfl, Kept.refl _ _, fun _ _ _ _ _ => trivial⟩
    | 13, ho, hsk =>
      obtain rfl := Option.some.inj ho
      have e0 : a'.eval (.tmp 21) = aggV (u8s B) := is_tq (hin 11 21 (by kernel_rfl) (by kernel_rfl)) rfl
      have e1 : a'.eval (.tmp 22) = aggV (u8s b) := is_tq (hin 12 22 (by kernel_rfl) (by kernel_rfl)) rfl
      exact o_neqA 80 80 guard29 (.tmp 21) (.tmp 22) rfl (u8s B) (u8s b) e0 e1 false ((equal29 _ B b lB lb).trans (by rw [unhide E1])) ⟨_, rfl, tq_is _ _ _ _ rfl, Kept.refl _ _, fun _ _ _ _ _ => trivial⟩
    | 14, ho, hsk =>
      obtain rfl := Option.some.inj ho
      have e0 : a'.eval (.tmp 19) = .bool false := is_tq (hin 9 19 (by kernel_rfl) (by kernel_rfl)) rfl
      have e1 : a'.eval (.tmp 23) = .bool true := is_tq (hin 13 23 (by kernel_rfl) (by kernel_rfl)) rfl
      exact o_pickOr0 (.tmp 19) (.tmp 23) rfl _ e0 e1 ⟨_, rfl, tq_is _ _ _ _ rfl, Kept.refl _ _, fun _ _ _ _ _ => trivial⟩
  intro w9 hk9
  replace hk9 : Kept [] W5 w9 := ⟨hk9.os, hk9.tape, hk9.output, hk9.size, hk9.block⟩
  simp only [valsQ, List.map_cons, List.map_nil, Option.getD_some, List.take_succ_cons, List.take_zero, putAll, Act.put, List.setIfInBounds_toArray, List.set_cons_succ, List.set_cons_zero]
  refine wpAny_done (by kernel_rfl) ?_ _
  replace G := hide ((unhide G).step hk9)
  replace RR := hide ((unhide RR).kept hk9 (by simp))
  clear hk9
  go_wp2_with (
    first
    | (refine wpBuildZ (recC zrec) build25 (by rfl) (by rfl) ?_)
    | (refine wpStoreA row25 (by rfl) (.tmp 4) (.tmp 25) (by rfl) zb 0 (recC zrec) (by rfl) (by rfl) lz (recC_one _) ((unhide G).res.there (by rw [lz]; omega)) ?_))
  have g4 := (unhide G).res.put (vs := recC zrec) (by rw [lz])
  have nz := (unhide G).nz
  exact bodyPost_ret (res19 _ _ _ _ _ rfl rfl lz g4) rfl ⟨rfl, (unhide G).kept.setCells _ _ (by omega)⟩

set_option maxHeartbeats 4000000 in
set_option maxRecDepth 100000 in
theorem rget_D (a b : List Int) (la : a.length = 64) (lb : b.length = 64) (R : Rec) (hR : R.bd.length = 96) (P39 : ∀ w, Calls Tryd.prog 77 #[aggV (u8s a), aggV (u8s b)] w fun e w' => e = .returned (aggV (recC R)) ∧ Kept [] w w') (P14 : ∀ w, Calls Tryd.prog 78 #[aggV (recC R)] w fun e w' => e = .returned (.bool true) ∧ Kept [] w w') (A : List Int) (lA : A.length = 64) (P17 : ∀ w, Calls Tryd.prog 79 #[aggV (recC R), .int .i64 0] w fun e w' => e = .returned (aggV (u8s A)) ∧ Kept [] w w') (h0 : decide (A = a) = true) (B : List Int) (lB : B.length = 64) (Q17 : ∀ w, Calls Tryd.prog 79 #[aggV (recC R), .int .i64 1] w fun e w' => e = .returned (aggV (u8s B)) ∧ Kept [] w w') (h1 : decide (B = b) = true) (w : World) : Calls Tryd.prog 50 #[aggV (u8s a), aggV (u8s b)] w fun e w' => e = .returned (.tuple #[aggV (recC R), .int .i64 0]) ∧ Kept [] w w' := by
  have H39 := hide P39
  have H14 := hide P14
  have H17 := hide P17
  clear P39 P14 P17
  have E0 := hide h0
  clear h0
  have I17 := hide Q17
  have E1 := hide h1
  clear Q17 h1
  have lR := recC_len hR
  have lz : (recC zrec).length = 101 := recC_len zrec_ok.bd.len
  go_enter Tryd.func50, Tryd.ntmps50
  go_wp2_with (
    first
    | (refine wpBoxV rfl (.tmp 0) rfl (u8s a) rfl ?_
       intro W1 b0 e1 B1 K1
       have BR := hide B1
       have KA := hide K1
       clear e1 B1 K1)
    | (refine wpBoxV rfl (.tmp 1) rfl (u8s b) rfl ?_
       intro W2 b1 e2 B2 K2
       have BS := hide B2
       replace BR := hide ((unhide BR).kept K2 (by simp))
       replace KA := hide ((unhide KA).trans K2)
       clear e2 B2 K2)
    | (refine wpAllocW (recC zrec) zero25 4 rfl rfl rfl ?_
       intro W3 zb e3 B3 K3
       have G : Hid (Ew w W3 b0 b1 zb a b) := ⟨(unhide BR).kept K3 (by simp), (unhide BS).kept K3 (by simp), B3, (unhide KA).trans K3, by have := (unhide KA).size; omega⟩
       clear e3 B3 K3 BR BS KA)
    | (refine wpLoadA row29 (by rfl) (.tmp 2) (by rfl) b0 0 (by kernel_rfl) (u8s a) (u8l la) (unhide G).s0.range ?_)
    | (refine wpLoadA row29 (by rfl) (.tmp 3) (by rfl) b1 0 (by kernel_rfl) (u8s b) (u8l lb) (unhide G).s1.range ?_)
    | (go_at_call 77
       refine (unhide H39 _).mono ?_
       rintro e W4 ⟨rfl, K4⟩
       replace G := hide ((unhide G).step K4)
       clear K4)
    | (refine wpNew row25 (recC zrec) lz zero25 6 (by rfl) (by rfl) (by rfl) (.tmp 9) (by rfl) (by rfl) (by rfl) (recC R) lR (recC_one _) (by kernel_rfl) (by kernel_rfl) ?_
       intro W5 q e5 B5 K5
       replace G := hide ((unhide G).step K5)
       have RR := hide B5
       clear e5 B5 K5))
  refine wp_region_any mixed (wpAny_tq 15 rfl (by kernel_rfl) [some (aggV (recC R)), some (.bool true), some (.bool false), some (.bool false), some (aggV (recC R)), some (aggV (u8s A)), some (aggV (u8s a)), some (.bool false), some (.bool false), some (.bool false), some (aggV (recC R)), some (aggV (u8s B)), some (aggV (u8s b)), some (.bool false), some (.bool false)] rfl (by kernel_rfl) (by kernel_rfl) ?_ ?_)
  · intro i o' hi hsk ho a' w2 hout hin hk2
    replace hk2 : Kept [] W5 w2 := ⟨hk2.os, hk2.tape, hk2.output, hk2.size, hk2.block⟩
    match i, ho, hsk with
    | 0, ho, hsk =>
      obtain rfl := Option.some.inj ho
      exact wp_loadA row25 (.tmp 6) rfl q 0 ((hout 6 (by kernel_rfl)).trans rfl) (recC R) lR ((unhide RR).kept hk2 (by simp)).range ⟨_, rfl, tq_is _ _ _ _ rfl, Kept.refl _ _, fun _ _ _ _ _ => trivial⟩
    | 1, ho, hsk =>
      obtain rfl := Option.some.inj ho
      have e0 : a'.eval (.tmp 10) = aggV (recC R) := is_tq (hin 0 10 (by kernel_rfl) (by kernel_rfl)) rfl
      refine wp_callF 78 _ _ rfl #[aggV (recC R)] (by simp [e0]) (cf14 _ _) ((unhide H14 w2).mono ?_)
      rintro e w3 ⟨rfl, hk3⟩
      exact ⟨_, rfl, _, rfl, tq_is _ _ _ _ rfl, hk3, fun _ _ _ _ _ => trivial⟩
    | 2, ho, hsk =>
      obtain rfl := Option.some.inj ho
      have e0 : a'.eval (.tmp 11) = .bool true := is_tq (hin 1 11 (by kernel_rfl) (by kernel_rfl)) rfl
      exact o_not (.tmp 11) rfl _ e0 ⟨_, rfl, tq_is _ _ _ _ rfl, Kept.refl _ _, fun _ _ _ _ _ => trivial⟩
    | 3, ho, hsk =>
      obtain rfl := Option.some.inj ho
      have e0 : a'.eval (.tmp 12) = .bool false := is_tq (hin 2 12 (by kernel_rfl) (by kernel_rfl)) rfl
      exact wp_move (.tmp 12) rfl _ e0 ⟨_, rfl, tq_is _ _ _ _ rfl, Kept.refl _ _, fun _ _ _ _ _ => trivial⟩
    | 4, ho, hsk =>
      obtain rfl := Option.some.inj ho
      exact wp_loadA row25 (.tmp 6) rfl q 0 ((hout 6 (by kernel_rfl)).trans rfl) (recC R) lR ((unhide RR).kept hk2 (by simp)).range ⟨_, rfl, tq_is _ _ _ _ rfl, Kept.refl _ _, fun _ _ _ _ _ => trivial⟩
    | 5, ho, hsk =>
      obtain rfl := Option.some.inj ho
      have e0 : a'.eval (.tmp 14) = aggV (recC R) := is_tq (hin 4 14 (by kernel_rfl) (by kernel_rfl)) rfl
      refine wp_callF 79 _ _ rfl #[aggV (recC R), .int .i64 0] (by simp [e0]; rfl) (cf17 _ _) ((unhide H17 w2).mono ?_)
      rintro e w3 ⟨rfl, hk3⟩
      exact ⟨_, rfl, _, rfl, tq_is _ _ _ _ rfl, hk3, fun _ _ _ _ _ => trivial⟩
    | 6, ho, hsk =>
      obtain rfl := Option.some.inj ho
      exact wp_loadA row29 (.tmp 2) rfl b0 0 ((hout 2 (by kernel_rfl)).trans rfl) (u8s a) (u8l la) ((unhide G).step hk2).s0.range ⟨_, rfl, tq_is _ _ _ _ rfl, Kept.refl _ _, fun _ _ _ _ _ => trivial⟩
    | 7, ho, hsk =>
      obtain rfl := Option.some.inj ho
      have e0 : a'.eval (.tmp 15) = aggV (u8s A) := is_tq (hin 5 15 (by kernel_rfl) (by kernel_rfl)) rfl
      have e1 : a'.eval (.tmp 16) = aggV (u8s a) := is_tq (hin 6 16 (by kernel_rfl) (by kernel_rfl)) rfl
      exact o_neqA 80 80 guard29 (.tmp 15) (.tmp 16) rfl (u8s A) (u8s a) e0 e1 true ((equal29 _ A a lA la).trans (by rw [unhide E0])) ⟨_, rfl, tq_is _ _ _ _ rfl, Kept.refl _ _, fun _ _ _ _ _ => trivial⟩
    | 8, ho, hsk =>
      obtain rfl := Option.some.inj ho
      have e0 : a'.eval (.tmp 13) = .bool false := is_tq (hin 3 13 (by kernel_rfl) (by kernel_rfl)) rfl
      have e1 : a'.eval (.tmp 17) = .bool false := is_tq (hin 7 17 (by kernel_rfl) (by kernel_rfl)) rfl
      exact o_pickOr0 (.tmp 13) (.tmp 17) rfl _ e0 e1 ⟨_, rfl, tq_is _ _ _ _ rfl, Kept.refl _ _, fun _ _ _ _ _ => trivial⟩
    | 9, ho, hsk =>
      obtain rfl := Option.some.inj ho
      have e0 : a'.eval (.tmp 18) = .bool false := is_tq (hin 8 18 (by kernel_rfl) (by kernel_rfl)) rfl
      exact wp_move (.tmp 18) rfl _ e0 ⟨_, rfl, tq_is _ _ _ _ rfl, Kept.refl _ _, fun _ _ _ _ _ => trivial⟩
    | 10, ho, hsk =>
      obtain rfl := Option.some.inj ho
      exact wp_loadA row25 (.tmp 6) rfl q 0 ((hout 6 (by kernel_rfl)).trans rfl) (recC R) lR ((unhide RR).kept hk2 (by simp)).range ⟨_, rfl, tq_is _ _ _ _ rfl, Kept.refl _ _, fun _ _ _ _ _ => trivial⟩
    | 11, ho, hsk =>
      obtain rfl := Option.some.inj ho
      have e0 : a'.eval (.tmp 20) = aggV (recC R) := is_tq (hin 10 20 (by kernel_rfl) (by kernel_rfl)) rfl
      refine wp_callF 79 _ _ rfl #[aggV (recC R), .int .i64 1] (by simp [e0]; rfl) (cf17 _ _) ((unhide I17 w2).mono ?_)
      rintro e w3 ⟨rfl, hk3⟩
      exact ⟨_, rfl, _, rfl, tq_is _ _ _ _ rfl, hk3, fun _ _ _ _ _ => trivial⟩
    | 12, ho, hsk =>
      obtain rfl := Option.some.inj ho
      exact wp_loadA row29 (.tmp 3) rfl b1 0 ((hout 3 (by kernel_rfl)).trans rfl) (u8s b) (u8l lb) ((unhide G).step hk2).s1.range ⟨_, rfl, tq_is _ _ _ _ rfl, Kept.refl _ _, fun _ _ _ _ _ => trivial⟩
    | 13, ho, hsk =>
      obtain rfl := Option.some.inj ho
      have e0 : a'.eval (.tmp 21) = aggV (u8s B) := is_tq (hin 11 21 (by kernel_rfl) (by kernel_rfl)) rfl
      have e1 : a'.eval (.tmp 22) = aggV (u8s b) := is_tq (hin 12 22 (by kernel_rfl) (by kernel_rfl)) rfl
      exact o_neqA 80 80 guard29 (.tmp 21) (.tmp 22) rfl (u8s B) (u8s b) e0 e1 true ((equal29 _ B b lB lb).trans (by rw [unhide E1])) ⟨_, rfl, tq_is _ _ _ _ rfl, Kept.refl _ _, fun _ _ _ _ _ => trivial⟩
    | 14, ho, hsk =>
      obtain rfl := Option.some.inj ho
      have e0 : a'.eval (.tmp 19) = .bool false := is_tq (hin 9 19 (by kernel_rfl) (by kernel_rfl)) rfl
      have e1 : a'.eval (.tmp 23) = .bool false := is_tq (hin 13 23 (by kernel_rfl) (by kernel_rfl)) rfl
      exact o_pickOr0 (.tmp 19) (.tmp 23) rfl _ e0 e1 ⟨_, rfl, tq_is _ _ _ _ rfl, Kept.refl _ _, fun _ _ _ _ _ => trivial⟩
  intro w9 hk9
  replace hk9 : Kept [] W5 w9 := ⟨hk9.os, hk9.tape, hk9.output, hk9.size, hk9.block⟩
  simp only [valsQ, List.map_cons, List.map_nil, Option.getD_some, List.take_succ_cons, List.take_zero, putAll, Act.put, List.setIfInBounds_toArray, List.set_cons_succ, List.set_cons_zero]
  refine wpAny_done (by kernel_rfl) ?_ _
  replace G := hide ((unhide G).step hk9)
  replace RR := hide ((unhide RR).kept hk9 (by simp))
  clear hk9
  go_wp2_with (
    first
    | (refine wpLoadA row25 (by rfl) (.tmp 6) (by rfl) q 0 (by kernel_rfl) (recC R) lR (unhide RR).range ?_)
    | (refine wpStoreA row25 (by rfl) (.tmp 4) (.tmp 26) (by rfl) zb 0 (recC R) (by rfl) (by rfl) lR (recC_one _) ((unhide G).res.there (by rw [lz]; omega)) ?_))
  have g4 := (unhide G).res.put (vs := recC R) (by rw [lz, lR])
  have nz := (unhide G).nz
  exact bodyPost_ret (res19 _ _ _ _ _ rfl rfl lR g4) rfl ⟨rfl, (unhide G).kept.setCells _ _ (by omega)⟩

theorem rget19 (a b : List Int) (ha : Byts 64 a) (hb : Byts 64 b) (w : World) : Calls Tryd.prog 50 #[aggV (u8s a), aggV (u8s b)] w fun e w' => e = .returned (.tuple #[aggV (recC (getR a b).1), .int .i64 (getR a b).2]) ∧ Kept [] w w' := by
  have hR := (betR_ok ha hb).bd
  have P39 := fun w => said39 a b ha hb w
  have P14 := fun w => may14 (betR a b) w
  cases hI : isRec (betR a b) with
  | false =>
    have e : getR a b = (zrec, 12) := by simp [getR, hI]
    rw [hI] at P14
    rw [e]
    exact rget_A a b ha.len hb.len _ hR.len P39 P14 w
  | true =>
    rw [hI] at P14
    have hA := laidR_byts (r := betR a b) (h := 0) (by omega) hR
    have hB := laidR_byts (r := betR a b) (h := 1) (by omega) hR
    have P17 := fun w => half17 (betR a b) hI hR 0 (by omega) w
    have Q17 := fun w => half17 (betR a b) hI hR 1 (by omega) w
    by_cases h0 : laidR (betR a b) 0 = a
    · by_cases h1 : laidR (betR a b) 1 = b
      · have e : getR a b = (betR a b, 0) := by simp [getR, hI, h0, h1]
        rw [e]
        exact rget_D a b ha.len hb.len _ hR.len P39 P14 _ hA.len P17 (by simpa using h0) _ hB.len Q17 (by simpa using h1) w
      · have e : getR a b = (zrec, 12) := by
          unfold getR
          rw [if_neg]
          rintro ⟨_, h⟩
          exact h1 (List.append_inj h (by rw [hA.len, ha.len])).2
        rw [e]
        exact rget_C a b ha.len hb.len _ hR.len P39 P14 _ hA.len P17 (by simpa using h0) _ hB.len Q17 (by simpa using h1) w
    · have e : getR a b = (zrec, 12) := by
        unfold getR
        rw [if_neg]
        rintro ⟨_, h⟩
        exact h0 (List.append_inj h (by rw [hA.len, ha.len])).1
      rw [e]
      exact rget_B a b ha.len hb.len _ hR.len P39 P14 _ hA.len P17 (by simpa using h0) w

end Go.Proofs.YtmeajhdhiebkdaaDoor.Rc

/-
  The walk of the document's TakeHead.
-/
namespace Go.Proofs.YtmeajhdhiebkdaaDoor.Rc
set_option maxRecDepth 100000
open Go.RowKit

theorem cf10 (vs : Array Value) (w : World) : (callFunc 75 vs).run Tryd.prog w = .ok (.enter 75 vs) w := by kernel_rfl
theorem res22 (w : World) (z : Nat) (vs : List Value) (e : Int) (tmps : Array Value) (h4 : tmps[2]?.getD undef = P0 z) (h5 : tmps[3]?.getD undef = .int .i64 e) (hl : vs.length = 2) (hb : Blk w z 91 vs) : (results Tryd.f48 tmps).run Tryd.prog w = .ok (.tuple #[aggV vs, .int .i64 e]) w := by
  have := loadV row27 hl hb
  simp [results, Tryd.results48, h4, h5, this, asAddr]
/-- What TakeHead keeps while it goes. -/
structure Fw (w wr : World) (b0 zb q : Nat) (s : List Int) (st ep : Int) : Prop where
  s0 : Blk wr b0 80 (u8s s)
  res : Blk wr zb 91 (hdC 0 0)
  hd : Blk wr q 91 (hdC st ep)
  kept : Kept [] w wr
  nz : w.heap.size ≤ zb
  nq : w.heap.size ≤ q
  n0 : b0 ≠ q
  n2 : zb ≠ q
theorem Fw.step {w wr wn : World} {b0 zb q : Nat} {s : List Int} {st ep : Int} (h : Fw w wr b0 zb q s st ep) (hk : Kept [] wr wn) : Fw w wn b0 zb q s st ep :=
  ⟨h.s0.kept hk (by simp), h.res.kept hk (by simp), h.hd.kept hk (by simp), h.kept.trans hk, h.nz, h.nq, h.n0, h.n2⟩
theorem Fw.set {w wr wn : World} {b0 zb q : Nat} {s : List Int} {st ep x : Int} (h : Fw w wr b0 zb q s st ep) (hb : Blk wn q 91 ((hdC st ep).set 0 (.int .i64 x))) (hk : Kept [q] wr wn) : Fw w wn b0 zb q s x ep :=
  ⟨h.s0.kept hk (by simp [h.n0]), h.res.kept hk (by simp [h.n2]), hb, h.kept.fresh hk (fun i hi hl => by have := h.nq; simp at hi; omega), h.nz, h.nq, h.n0, h.n2⟩

set_option maxHeartbeats 4000000 in
set_option maxRecDepth 100000 in
theorem rtake_nA (s : List Int) (ls : s.length = 64) (st ep : Int) (P5 : ∀ w, Calls Tryd.prog 74 #[aggV (u8s s), .int .i64 (5 : Nat)] w fun e w' => e = .returned (.int .i64 st) ∧ Kept [] w w') (P1 : ∀ w, Calls Tryd.prog 74 #[aggV (u8s s), .int .i64 (1 : Nat)] w fun e w' => e = .returned (.int .i64 ep) ∧ Kept [] w w') (hz : decide (s = zs 64) = false) (P10 : ∀ w, Calls Tryd.prog 75 #[aggV (hdC st ep)] w fun e w' => e = .returned (.bool false) ∧ Kept [] w w') (w : World) : Calls Tryd.prog 48 #[aggV (u8s s)] w fun e w' => e = .returned (.tuple #[aggV (hdC 0 0), .int .i64 12]) ∧ Kept [] w w' := by
  have N5 := hide P5
  have N1 := hide P1
  have HZ := hide hz
  have H10 := hide P10
  clear P5 P1 hz P10
  go_enter Tryd.func48, Tryd.ntmps48
  go_wp2_with (
    first
    | (refine wpBoxV rfl (.tmp 0) rfl (u8s s) rfl ?_
       intro W1 b0 e1 B1 K1
       have A0 := hide B1
       have KA := hide K1
       clear e1 B1 K1)
    | (refine wpAllocW (hdC 0 0) zero27 2 rfl rfl rfl ?_
       intro W2 zb ez BZ1 K2
       have d0 := hide ((unhide A0).kept K2 (by simp))
       have dz := hide BZ1
       have nz : Hid (w.heap.size ≤ zb) := by have := (unhide KA).size; show _ ≤ _; omega
       have dk := hide ((unhide KA).trans K2)
       clear ez BZ1 K2 A0 KA))
  refine wp_region_prefix mixed 6 1 rfl (by kernel_rfl) (tab [.is (aggV (u8s s)), .is (.int .i64 st), .is (aggV (u8s s)), .is (.int .i64 ep), .is (aggV (hdC st ep)), .new 91 (hdC 0 0) W2.heap.size]) (apartE [5]) (tab_kept _) (by kernel_rfl) ?_ ?_
  · intro j o hj ho a w2 hout hin hk
    match j, ho with
    | 0, ho =>
      obtain rfl := Option.some.inj ho
      exact wp_loadA row29 (.tmp 1) rfl b0 0 ((hout 1 (by kernel_rfl)).trans rfl) (u8s s) (u8l ls) ((unhide d0).kept hk (by simp)).range ⟨_, rfl, rfl, Kept.refl _ _, fun i u _ _ _ => apart_no (by decide) i u _⟩
    | 2, ho =>
      obtain rfl := Option.some.inj ho
      exact wp_loadA row29 (.tmp 1) rfl b0 0 ((hout 1 (by kernel_rfl)).trans rfl) (u8s s) (u8l ls) ((unhide d0).kept hk (by simp)).range ⟨_, rfl, rfl, Kept.refl _ _, fun i u _ _ _ => apart_no (by decide) i u _⟩
    | 1, ho =>
      obtain rfl := Option.some.inj ho
      have e0 : a.eval (.tmp 5) = aggV (u8s s) := hin 0 5 (by kernel_rfl) (by kernel_rfl)
      refine wp_callF 74 _ _ rfl #[aggV (u8s s), .int .i64 (5 : Nat)] (by simp [e0]; rfl) (cf41 _ _) ((unhide N5 w2).mono ?_)
      rintro e w3 ⟨rfl, hk3⟩
      exact ⟨_, rfl, _, rfl, rfl, hk3, fun i u _ _ _ => apart_no (by decide) i u _⟩
    | 3, ho =>
      obtain rfl := Option.some.inj ho
      have e0 : a.eval (.tmp 7) = aggV (u8s s) := hin 2 7 (by kernel_rfl) (by kernel_rfl)
      refine wp_callF 74 _ _ rfl #[aggV (u8s s), .int .i64 (1 : Nat)] (by simp [e0]; rfl) (cf41 _ _) ((unhide N1 w2).mono ?_)
      rintro e w3 ⟨rfl, hk3⟩
      exact ⟨_, rfl, _, rfl, rfl, hk3, fun i u _ _ _ => apart_no (by decide) i u _⟩
    | 4, ho =>
      obtain rfl := Option.some.inj ho
      have e0 : a.eval (.tmp 6) = .int .i64 st := hin 1 6 (by kernel_rfl) (by kernel_rfl)
      have e1 : a.eval (.tmp 8) = .int .i64 ep := hin 3 8 (by kernel_rfl) (by kernel_rfl)
      exact o_buildP _ rfl #[(0, .int .i64 st), (1, .int .i64 ep)] (by simp [e0, e1]) _ (build27p _ _ _) ⟨_, rfl, rfl, Kept.refl _ _, fun i u _ _ _ => apart_no (by decide) i u _⟩
    | 5, ho =>
      obtain rfl := Option.some.inj ho
      exact wp_allocA (hdC 0 0) zero27 rfl ⟨_, rfl, ⟨_, rfl, hk.size, Blk.new' rfl⟩, (Kept.refl _ _).alloc _, fun i u _ _ h => apart_new (by simp) i 5 u h⟩
    | n + 6, ho => exact absurd hj (by omega)
  intro vs w3 hlen hF hE hk
  obtain ⟨x0, x1, x2, x3, x4, x5, rfl⟩ := vs6 hlen
  obtain rfl : x0 = aggV (u8s s) := hF 0 _ rfl
  obtain rfl : x1 = .int .i64 st := hF 1 _ rfl
  obtain rfl : x2 = aggV (u8s s) := hF 2 _ rfl
  obtain rfl : x3 = .int .i64 ep := hF 3 _ rfl
  obtain rfl : x4 = aggV (hdC st ep) := hF 4 _ rfl
  obtain ⟨q, rfl, hq, hbq⟩ : ∃ q, x5 = P0 q ∧ W2.heap.size ≤ q ∧ Blk w3 q 91 (hdC 0 0) := hF 5 _ rfl
  simp only [List.take_succ_cons, List.take_zero, putAll, Act.put, List.setIfInBounds_toArray, List.set_cons_succ, List.set_cons_zero]
  refine wpAny_all (rs := [6]) (by kernel_rfl) (by simp) ?_
  intro i hi
  obtain rfl : i = 6 := by simpa using hi
  refine wpOp_of rfl rfl (wp_storeN row27 (.tmp 4) (.tmp 9) rfl rfl q 0 (hdC st ep) rfl rfl rfl (hdC_one _ _) (hbq.there (by simp [hdC])) ?_)
  refine wpAny_done (by kernel_rfl) ?_ _
  have G : Hid (Fw w (w3.setCells q 0 (hdC st ep)) b0 zb q s st ep) := by
    have y0 := (unhide d0).lt
    have y2 := (unhide dz).lt
    have y3 := unhide nz
    have y4 := (unhide dk).size
    exact ⟨((unhide d0).kept hk (by simp)).other (by omega), ((unhide dz).kept hk (by simp)).other (by omega), hbq.put rfl, ((unhide dk).trans hk).setCells _ _ (by omega), y3, by omega, by omega, by omega⟩
  clear hF hE hk hbq hq d0 dz dk nz
  generalize (w3.setCells q 0 (hdC st ep)) = W4 at *
  clear hlen
  go_wp2_with (
    first
    | (refine wpLoadA row29 (by rfl) (.tmp 1) (by rfl) b0 0 (by kernel_rfl) (u8s s) (u8l ls) (unhide G).s0.range ?_)
    | (refine wpBuildZ (u8s (zs 64)) build29 (by rfl) (by rfl) ?_)
    | (refine wpEqlA 80 80 guard29 (.tmp 10) (.tmp 11) (by rfl) (by rfl) (u8s s) (u8s (zs 64)) (by kernel_rfl) (by kernel_rfl) false ((equal29 _ s (zs 64) ls (by simp [zs])).trans (by rw [unhide HZ])) ?_))
  refine wp_region_any mixed (wpAny_tq 9 rfl (by kernel_rfl) [some (aggV (hdC st ep)), some (.bool false), some (.bool true), some (.bool true), none, none, none, none, some (.bool true)] rfl (by kernel_rfl) (by kernel_rfl) ?_ ?_)
  · intro i o' hi hsk ho a' w2 hout hin hk2
    replace hk2 : Kept [] W4 w2 := ⟨hk2.os, hk2.tape, hk2.output, hk2.size, hk2.block⟩
    match i, ho, hsk with
    | 0, ho, hsk =>
      obtain rfl := Option.some.inj ho
      exact wp_loadA row27 (.tmp 4) rfl q 0 ((hout 4 (by kernel_rfl)).trans rfl) (hdC st ep) rfl ((unhide G).step hk2).hd.range ⟨_, rfl, tq_is _ _ _ _ rfl, Kept.refl _ _, fun _ _ _ _ _ => trivial⟩
    | 1, ho, hsk =>
      obtain rfl := Option.some.inj ho
      have e0 : a'.eval (.tmp 14) = aggV (hdC st ep) := is_tq (hin 0 14 (by kernel_rfl) (by kernel_rfl)) rfl
      refine wp_callF 75 _ _ rfl #[aggV (hdC st ep)] (by simp [e0]) (cf10 _ _) ((unhide H10 w2).mono ?_)
      rintro e w3 ⟨rfl, hk3⟩
      exact ⟨_, rfl, _, rfl, tq_is _ _ _ _ rfl, hk3, fun _ _ _ _ _ => trivial⟩
    | 2, ho, hsk =>
      obtain rfl := Option.some.inj ho
      have e0 : a'.eval (.tmp 15) = .bool false := is_tq (hin 1 15 (by kernel_rfl) (by kernel_rfl)) rfl
      exact o_not (.tmp 15) rfl _ e0 ⟨_, rfl, tq_is _ _ _ _ rfl, Kept.refl _ _, fun _ _ _ _ _ => trivial⟩
    | 3, ho, hsk =>
      obtain rfl := Option.some.inj ho
      have e0 : a'.eval (.tmp 16) = .bool true := is_tq (hin 2 16 (by kernel_rfl) (by kernel_rfl)) rfl
      exact wp_move (.tmp 16) rfl _ e0 ⟨_, rfl, tq_is _ _ _ _ rfl, Kept.refl _ _, fun _ _ _ _ _ => trivial⟩
    | 4, ho, hsk =>
      cases hsk
    | 5, ho, hsk =>
      cases hsk
    | 6, ho, hsk =>
      cases hsk
    | 7, ho, hsk =>
      cases hsk
    | 8, ho, hsk =>
      obtain rfl := Option.some.inj ho
      have e0 : a'.eval (.tmp 17) = .bool true := is_tq (hin 3 17 (by kernel_rfl) (by kernel_rfl)) rfl
      exact o_pickOrT (.tmp 17) (.tmp 21) rfl e0 ⟨_, rfl, tq_is _ _ _ _ rfl, Kept.refl _ _, fun _ _ _ _ _ => trivial⟩
  intro w9 hk9
  replace hk9 : Kept [] W4 w9 := ⟨hk9.os, hk9.tape, hk9.output, hk9.size, hk9.block⟩
  simp only [valsQ, List.map_cons, List.map_nil, Option.getD_some, Option.getD_none, List.take_succ_cons, List.take_zero, putAll, Act.put, List.setIfInBounds_toArray, List.set_cons_succ, List.set_cons_zero]
  refine wpAny_done (by kernel_rfl) ?_ _
  replace G := hide ((unhide G).step hk9)
  clear hk9
  go_wp2_with (
    first
    | (refine wpBuildZ (hdC 0 0) build27 (by rfl) (by rfl) ?_)
    | (refine wpStoreA row27 (by rfl) (.tmp 2) (.tmp 23) (by rfl) zb 0 (hdC 0 0) (by rfl) (by rfl) rfl (hdC_one _ _) ((unhide G).res.there (by simp [hdC])) ?_))
  have g4 := (unhide G).res.put (vs := (hdC 0 0)) rfl
  have nz := (unhide G).nz
  exact bodyPost_ret (res22 _ _ _ _ _ rfl rfl rfl g4) rfl ⟨rfl, (unhide G).kept.setCells _ _ (by omega)⟩

set_option maxHeartbeats 4000000 in
set_option maxRecDepth 100000 in
theorem rtake_nB (s : List Int) (ls : s.length = 64) (st ep : Int) (P5 : ∀ w, Calls Tryd.prog 74 #[aggV (u8s s), .int .i64 (5 : Nat)] w fun e w' => e = .returned (.int .i64 st) ∧ Kept [] w w') (P1 : ∀ w, Calls Tryd.prog 74 #[aggV (u8s s), .int .i64 (1 : Nat)] w fun e w' => e = .returned (.int .i64 ep) ∧ Kept [] w w') (hz : decide (s = zs 64) = false) (P10 : ∀ w, Calls Tryd.prog 75 #[aggV (hdC st ep)] w fun e w' => e = .returned (.bool true) ∧ Kept [] w w') (X : List Int) (lX : X.length = 64) (P13 : ∀ w, Calls Tryd.prog 76 #[aggV (hdC st ep)] w fun e w' => e = .returned (aggV (u8s X)) ∧ Kept [] w w') (h0 : decide (X = s) = false) (w : World) : Calls Tryd.prog 48 #[aggV (u8s s)] w fun e w' => e = .returned (.tuple #[aggV (hdC 0 0), .int .i64 12]) ∧ Kept [] w w' := by
  have N5 := hide P5
  have N1 := hide P1
  have HZ := hide hz
  have H10 := hide P10
  clear P5 P1 hz P10
  have H13 := hide P13
  have E0 := hide h0
  clear P13 h0
  go_enter Tryd.func48, Tryd.ntmps48
  go_wp2_with (
    first
    | (refine wpBoxV rfl (.tmp 0) rfl (u8s s) rfl ?_
       intro W1 b0 e1 B1 K1
       have A0 := hide B1
       have KA := hide K1
       clear e1 B1 K1)
    | (refine wpAllocW (hdC 0 0) zero27 2 rfl rfl rfl ?_
       intro W2 zb ez BZ1 K2
       have d0 := hide ((unhide A0).kept K2 (by simp))
       have dz := hide BZ1
       have nz : Hid (w.heap.size ≤ zb) := by have := (unhide KA).size; show _ ≤ _; omega
       have dk := hide ((unhide KA).trans K2)
       clear ez BZ1 K2 A0 KA))
  refine wp_region_prefix mixed 6 1 rfl (by kernel_rfl) (tab [.is (aggV (u8s s)), .is (.int .i64 st), .is (aggV (u8s s)), .is (.int .i64 ep), .is (aggV (hdC st ep)), .new 91 (hdC 0 0) W2.heap.size]) (apartE [5]) (tab_kept _) (by kernel_rfl) ?_ ?_
  · intro j o hj ho a w2 hout hin hk
    match j, ho with
    | 0, ho =>
      obtain rfl := Option.some.inj ho
      exact wp_loadA row29 (.tmp 1) rfl b0 0 ((hout 1 (by kernel_rfl)).trans rfl) (u8s s) (u8l ls) ((unhide d0).kept hk (by simp)).range ⟨_, rfl, rfl, Kept.refl _ _, fun i u _ _ _ => apart_no (by decide) i u _⟩
    | 2, ho =>
      obtain rfl := Option.some.inj ho
      exact wp_loadA row29 (.tmp 1) rfl b0 0 ((hout 1 (by kernel_rfl)).trans rfl) (u8s s) (u8l ls) ((unhide d0).kept hk (by simp)).range ⟨_, rfl, rfl, Kept.refl _ _, fun i u _ _ _ => apart_no (by decide) i u _⟩
    | 1, ho =>
      obtain rfl := Option.some.inj ho
      have e0 : a.eval (.tmp 5) = aggV (u8s s) := hin 0 5 (by kernel_rfl) (by kernel_rfl)
      refine wp_callF 74 _ _ rfl #[aggV (u8s s), .int .i64 (5 : Nat)] (by simp [e0]; rfl) (cf41 _ _) ((unhide N5 w2).mono ?_)
      rintro e w3 ⟨rfl, hk3⟩
      exact ⟨_, rfl, _, rfl, rfl, hk3, fun i u _ _ _ => apart_no (by decide) i u _⟩
    | 3, ho =>
      obtain rfl := Option.some.inj ho
      have e0 : a.eval (.tmp 7) = aggV (u8s s) := hin 2 7 (by kernel_rfl) (by kernel_rfl)
      refine wp_callF 74 _ _ rfl #[aggV (u8s s), .int .i64 (1 : Nat)] (by simp [e0]; rfl) (cf41 _ _) ((unhide N1 w2).mono ?_)
      rintro e w3 ⟨rfl, hk3⟩
      exact ⟨_, rfl, _, rfl, rfl, hk3, fun i u _ _ _ => apart_no (by decide) i u _⟩
    | 4, ho =>
      obtain rfl := Option.some.inj ho
      have e0 : a.eval (.tmp 6) = .int .i64 st := hin 1 6 (by kernel_rfl) (by kernel_rfl)
      have e1 : a.eval (.tmp 8) = .int .i64 ep := hin 3 8 (by kernel_rfl) (by kernel_rfl)
      exact o_buildP _ rfl #[(0, .int .i64 st), (1, .int .i64 ep)] (by simp [e0, e1]) _ (build27p _ _ _) ⟨_, rfl, rfl, Kept.refl _ _, fun i u _ _ _ => apart_no (by decide) i u _⟩
    | 5, ho =>
      obtain rfl := Option.some.inj ho
      exact wp_allocA (hdC 0 0) zero27 rfl ⟨_, rfl, ⟨_, rfl, hk.size, Blk.new' rfl⟩, (Kept.refl _ _).alloc _, fun i u _ _ h => apart_new (by simp) i 5 u h⟩
    | n + 6, ho => exact absurd hj (by omega)
  intro vs w3 hlen hF hE hk
  obtain ⟨x0, x1, x2, x3, x4, x5, rfl⟩ := vs6 hlen
  obtain rfl : x0 = aggV (u8s s) := hF 0 _ rfl
  obtain rfl : x1 = .int .i64 st := hF 1 _ rfl
  obtain rfl : x2 = aggV (u8s s) := hF 2 _ rfl
  obtain rfl : x3 = .int .i64 ep := hF 3 _ rfl
  obtain rfl : x4 = aggV (hdC st ep) := hF 4 _ rfl
  obtain ⟨q, rfl, hq, hbq⟩ : ∃ q, x5 = P0 q ∧ W2.heap.size ≤ q ∧ Blk w3 q 91 (hdC 0 0) := hF 5 _ rfl
  simp only [List.take_succ_cons, List.take_zero, putAll, Act.put, List.setIfInBounds_toArray, List.set_cons_succ, List.set_cons_zero]
  refine wpAny_all (rs := [6]) (by kernel_rfl) (by simp) ?_
  intro i hi
  obtain rfl : i = 6 := by simpa using hi
  refine wpOp_of rfl rfl (wp_storeN row27 (.tmp 4) (.tmp 9) rfl rfl q 0 (hdC st ep) rfl rfl rfl (hdC_one _ _) (hbq.there (by simp [hdC])) ?_)
  refine wpAny_done (by kernel_rfl) ?_ _
  have G : Hid (Fw w (w3.setCells q 0 (hdC st ep)) b0 zb q s st ep) := by
    have y0 := (unhide d0).lt
    have y2 := (unhide dz).lt
    have y3 := unhide nz
    have y4 := (unhide dk).size
    exact ⟨((unhide d0).kept hk (by simp)).other (by omega), ((unhide dz).kept hk (by simp)).other (by omega), hbq.put rfl, ((unhide dk).trans hk).setCells _ _ (by omega), y3, by omega, by omega, by omega⟩
  clear hF hE hk hbq hq d0 dz dk nz
  generalize (w3.setCells q 0 (hdC st ep)) = W4 at *
  clear hlen
  go_wp2_with (
    first
    | (refine wpLoadA row29 (by rfl) (.tmp 1) (by rfl) b0 0 (by kernel_rfl) (u8s s) (u8l ls) (unhide G).s0.range ?_)
    | (refine wpBuildZ (u8s (zs 64)) build29 (by rfl) (by rfl) ?_)
    | (refine wpEqlA 80 80 guard29 (.tmp 10) (.tmp 11) (by rfl) (by rfl) (u8s s) (u8s (zs 64)) (by kernel_rfl) (by kernel_rfl) false ((equal29 _ s (zs 64) ls (by simp [zs])).trans (by rw [unhide HZ])) ?_))
  refine wp_region_any mixed (wpAny_tq 9 rfl (by kernel_rfl) [some (aggV (hdC st ep)), some (.bool true), some (.bool false), some (.bool false), some (aggV (hdC st ep)), some (aggV (u8s X)), some (aggV (u8s s)), some (.bool true), some (.bool true)] rfl (by kernel_rfl) (by kernel_rfl) ?_ ?_)
  · intro i o' hi hsk ho a' w2 hout hin hk2
    replace hk2 : Kept [] W4 w2 := ⟨hk2.os, hk2.tape, hk2.output, hk2.size, hk2.block⟩
    match i, ho, hsk with
    | 0, ho, hsk =>
      obtain rfl := Option.some.inj ho
      exact wp_loadA row27 (.tmp 4) rfl q 0 ((hout 4 (by kernel_rfl)).trans rfl) (hdC st ep) rfl ((unhide G).step hk2).hd.range ⟨_, rfl, tq_is _ _ _ _ rfl, Kept.refl _ _, fun _ _ _ _ _ => trivial⟩
    | 1, ho, hsk =>
      obtain rfl := Option.some.inj ho
      have e0 : a'.eval (.tmp 14) = aggV (hdC st ep) := is_tq (hin 0 14 (by kernel_rfl) (by kernel_rfl)) rfl
      refine wp_callF 75 _ _ rfl #[aggV (hdC st ep)] (by simp [e0]) (cf10 _ _) ((unhide H10 w2).mono ?_)
      rintro e w3 ⟨rfl, hk3⟩
      exact ⟨_, rfl, _, rfl, tq_is _ _ _ _ rfl, hk3, fun _ _ _ _ _ => trivial⟩
    | 2, ho, hsk =>
      obtain rfl := Option.some.inj ho
      have e0 : a'.eval (.tmp 15) = .bool true := is_tq (hin 1 15 (by kernel_rfl) (by kernel_rfl)) rfl
      exact o_not (.tmp 15) rfl _ e0 ⟨_, rfl, tq_is _ _ _ _ rfl, Kept.refl _ _, fun _ _ _ _ _ => trivial⟩
    | 3, ho, hsk =>
      obtain rfl := Option.some.inj ho
      have e0 : a'.eval (.tmp 16) = .bool false := is_tq (hin 2 16 (by kernel_rfl) (by kernel_rfl)) rfl
      exact wp_move (.tmp 16) rfl _ e0 ⟨_, rfl, tq_is _ _ _ _ rfl, Kept.refl _ _, fun _ _ _ _ _ => trivial⟩
    | 4, ho, hsk =>
      obtain rfl := Option.some.inj ho
      exact wp_loadA row27 (.tmp 4) rfl q 0 ((hout 4 (by kernel_rfl)).trans rfl) (hdC st ep) rfl ((unhide G).step hk2).hd.range ⟨_, rfl, tq_is _ _ _ _ rfl, Kept.refl _ _, fun _ _ _ _ _ => trivial⟩
    | 5, ho, hsk =>
      obtain rfl := Option.some.inj ho
      have e0 : a'.eval (.tmp 18) = aggV (hdC st ep) := is_tq (hin 4 18 (by kernel_rfl) (by kernel_rfl)) rfl
      refine wp_callF 76 _ _ rfl #[aggV (hdC st ep)] (by simp [e0]) (cf13 _ _) ((unhide H13 w2).mono ?_)
      rintro e w3 ⟨rfl, hk3⟩
      exact ⟨_, rfl, _, rfl, tq_is _ _ _ _ rfl, hk3, fun _ _ _ _ _ => trivial⟩
    | 6, ho, hsk =>
      obtain rfl := Option.some.inj ho
      exact wp_loadA row29 (.tmp 1) rfl b0 0 ((hout 1 (by kernel_rfl)).trans rfl) (u8s s) (u8l ls) ((unhide G).step hk2).s0.range ⟨_, rfl, tq_is _ _ _ _ rfl, Kept.refl _ _, fun _ _ _ _ _ => trivial⟩
    | 7, ho, hsk =>
      obtain rfl := Option.some.inj ho
      have e0 : a'.eval (.tmp 19) = aggV (u8s X) := is_tq (hin 5 19 (by kernel_rfl) (by kernel_rfl)) rfl
      have e1 : a'.eval (.tmp 20) = aggV (u8s s) := is_tq (hin 6 20 (by kernel_rfl) (by kernel_rfl)) rfl
      exact o_neqA 80 80 guard29 (.tmp 19) (.tmp 20) rfl (u8s X) (u8s s) e0 e1 false ((equal29 _ X s lX ls).trans (by rw [unhide E0])) ⟨_, rfl, tq_is _ _ _ _ rfl, Kept.refl _ _, fun _ _ _ _ _ => trivial⟩
    | 8, ho, hsk =>
      obtain rfl := Option.some.inj ho
      have e0 : a'.eval (.tmp 17) = .bool false := is_tq (hin 3 17 (by kernel_rfl) (by kernel_rfl)) rfl
      have e1 : a'.eval (.tmp 21) = .bool true := is_tq (hin 7 21 (by kernel_rfl) (by kernel_rfl)) rfl
      exact o_pickOr0 (.tmp 17) (.tmp 21) rfl _ e0 e1 ⟨_, rfl, tq_is _ _ _ _ rfl, Kept.refl _ _, fun _ _ _ _ _ => trivial⟩
  intro w9 hk9
  replace hk9 : Kept [] W4 w9 := ⟨hk9.os, hk9.tape, hk9.output, hk9.size, hk9.block⟩
  simp only [valsQ, List.map_cons, List.map_nil, Option.getD_some, List.take_succ_cons, List.take_zero, putAll, Act.put, List.setIfInBounds_toArray, List.set_cons_succ, List.set_cons_zero]
  refine wpAny_done (by kernel_rfl) ?_ _
  replace G := hide ((unhide G).step hk9)
  clear hk9
  go_wp2_with (
    first
    | (refine wpBuildZ (hdC 0 0) build27 (by rfl) (by rfl) ?_)
    | (refine wpStoreA row27 (by rfl) (.tmp 2) (.tmp 23) (by rfl) zb 0 (hdC 0 0) (by rfl) (by rfl) rfl (hdC_one _ _) ((unhide G).res.there (by simp [hdC])) ?_))
  have g4 := (unhide G).res.put (vs := (hdC 0 0)) rfl
  have nz := (unhide G).nz
  exact bodyPost_ret (res22 _ _ _ _ _ rfl rfl rfl g4) rfl ⟨rfl, (unhide G).kept.setCells _ _ (by omega)⟩

set_option maxHeartbeats 4000000 in
set_option maxRecDepth 100000 in
theorem rtake_nC (s : List Int) (ls : s.length = 64) (st ep : Int) (P5 : ∀ w, Calls Tryd.prog 74 #[aggV (u8s s), .int .i64 (5 : Nat)] w fun e w' => e = .returned (.int .i64 st) ∧ Kept [] w w') (P1 : ∀ w, Calls Tryd.prog 74 #[aggV (u8s s), .int .i64 (1 : Nat)] w fun e w' => e = .returned (.int .i64 ep) ∧ Kept [] w w') (hz : decide (s = zs 64) = false) (P10 : ∀ w, Calls Tryd.prog 75 #[aggV (hdC st ep)] w fun e w' => e = .returned (.bool true) ∧ Kept [] w w') (X : List Int) (lX : X.length = 64) (P13 : ∀ w, Calls Tryd.prog 76 #[aggV (hdC st ep)] w fun e w' => e = .returned (aggV (u8s X)) ∧ Kept [] w w') (h0 : decide (X = s) = true) (w : World) : Calls Tryd.prog 48 #[aggV (u8s s)] w fun e w' => e = .returned (.tuple #[aggV (hdC st ep), .int .i64 0]) ∧ Kept [] w w' := by
  have N5 := hide P5
  have N1 := hide P1
  have HZ := hide hz
  have H10 := hide P10
  clear P5 P1 hz P10
  have H13 := hide P13
  have E0 := hide h0
  clear P13 h0
  go_enter Tryd.func48, Tryd.ntmps48
  go_wp2_with (
    first
    | (refine wpBoxV rfl (.tmp 0) rfl (u8s s) rfl ?_
       intro W1 b0 e1 B1 K1
       have A0 := hide B1
       have KA := hide K1
       clear e1 B1 K1)
    | (refine wpAllocW (hdC 0 0) zero27 2 rfl rfl rfl ?_
       intro W2 zb ez BZ1 K2
       have d0 := hide ((unhide A0).kept K2 (by simp))
       have dz := hide BZ1
       have nz : Hid (w.heap.size ≤ zb) := by have := (unhide KA).size; show _ ≤ _; omega
       have dk := hide ((unhide KA).trans K2)
       clear ez BZ1 K2 A0 KA))
  refine wp_region_prefix mixed 6 1 rfl (by kernel_rfl) (tab [.is (aggV (u8s s)), .is (.int .i64 st), .is (aggV (u8s s)), .is (.int .i64 ep), .is (aggV (hdC st ep)), .new 91 (hdC 0 0) W2.heap.size]) (apartE [5]) (tab_kept _) (by kernel_rfl) ?_ ?_
  · intro j o hj ho a w2 hout hin hk
    match j, ho with
    | 0, ho =>
      obtain rfl := Option.some.inj ho
      exact wp_loadA row29 (.tmp 1) rfl b0 0 ((hout 1 (by kernel_rfl)).trans rfl) (u8s s) (u8l ls) ((unhide d0).kept hk (by simp)).range ⟨_, rfl, rfl, Kept.refl _ _, fun i u _ _ _ => apart_no (by decide) i u _⟩
    | 2, ho =>
      obtain rfl := Option.some.inj ho
      exact wp_loadA row29 (.tmp 1) rfl b0 0 ((hout 1 (by kernel_rfl)).trans rfl) (u8s s) (u8l ls) ((unhide d0).kept hk (by simp)).range ⟨_, rfl, rfl, Kept.refl _ _, fun i u _ _ _ => apart_no (by decide) i u _⟩
    | 1, ho =>
      obtain rfl := Option.some.inj ho
      have e0 : a.eval (.tmp 5) = aggV (u8s s) := hin 0 5 (by kernel_rfl) (by kernel_rfl)
      refine wp_callF 74 _ _ rfl #[aggV (u8s s), .int .i64 (5 : Nat)] (by simp [e0]; rfl) (cf41 _ _) ((unhide N5 w2).mono ?_)
      rintro e w3 ⟨rfl, hk3⟩
      exact ⟨_, rfl, _, rfl, rfl, hk3, fun i u _ _ _ => apart_no (by decide) i u _⟩
    | 3, ho =>
      obtain rfl := Option.some.inj ho
      have e0 : a.eval (.tmp 7) = aggV (u8s s) := hin 2 7 (by kernel_rfl) (by kernel_rfl)
      refine wp_callF 74 _ _ rfl #[aggV (u8s s), .int .i64 (1 : Nat)] (by simp [e0]; rfl) (cf41 _ _) ((unhide N1 w2).mono ?_)
      rintro e w3 ⟨rfl, hk3⟩
      exact ⟨_, rfl, _, rfl, rfl, hk3, fun i u _ _ _ => apart_no (by decide) i u _⟩
    | 4, ho =>
      obtain rfl := Option.some.inj ho
      have e0 : a.eval (.tmp 6) = .int .i64 st := hin 1 6 (by kernel_rfl) (by kernel_rfl)
      have e1 : a.eval (.tmp 8) = .int .i64 ep := hin 3 8 (by kernel_rfl) (by kernel_rfl)
      exact o_buildP _ rfl #[(0, .int .i64 st), (1, .int .i64 ep)] (by simp [e0, e1]) _ (build27p _ _ _) ⟨_, rfl, rfl, Kept.refl _ _, fun i u _ _ _ => apart_no (by decide) i u _⟩
    | 5, ho =>
      obtain rfl := Option.some.inj ho
      exact wp_allocA (hdC 0 0) zero27 rfl ⟨_, rfl, ⟨_, rfl, hk.size, Blk.new' rfl⟩, (Kept.refl _ _).alloc _, fun i u _ _ h => apart_new (by simp) i 5 u h⟩
    | n + 6, ho => exact absurd hj (by omega)
  intro vs w3 hlen hF hE hk
  obtain ⟨x0, x1, x2, x3, x4, x5, rfl⟩ := vs6 hlen
  obtain rfl : x0 = aggV (u8s s) := hF 0 _ rfl
  obtain rfl : x1 = .int .i64 st := hF 1 _ rfl
  obtain rfl : x2 = aggV (u8s s) := hF 2 _ rfl
  obtain rfl : x3 = .int .i64 ep := hF 3 _ rfl
  obtain rfl : x4 = aggV (hdC st ep) := hF 4 _ rfl
  obtain ⟨q, rfl, hq, hbq⟩ : ∃ q, x5 = P0 q ∧ W2.heap.size ≤ q ∧ Blk w3 q 91 (hdC 0 0) := hF 5 _ rfl
  simp only [List.take_succ_cons, List.take_zero, putAll, Act.put, List.setIfInBounds_toArray, List.set_cons_succ, List.set_cons_zero]
  refine wpAny_all (rs := [6]) (by kernel_rfl) (by simp) ?_
  intro i hi
  obtain rfl : i = 6 := by simpa using hi
  refine wpOp_of rfl rfl (wp_storeN row27 (.tmp 4) (.tmp 9) rfl rfl q 0 (hdC st ep) rfl rfl rfl (hdC_one _ _) (hbq.there (by simp [hdC])) ?_)
  refine wpAny_done (by kernel_rfl) ?_ _
  have G : Hid (Fw w (w3.setCells q 0 (hdC st ep)) b0 zb q s st ep) := by
    have y0 := (unhide d0).lt
    have y2 := (unhide dz).lt
    have y3 := unhide nz
    have y4 := (unhide dk).size
    exact ⟨((unhide d0).kept hk (by simp)).other (by omega), ((unhide dz).kept hk (by simp)).other (by omega), hbq.put rfl, ((unhide dk).trans hk).setCells _ _ (by omega), y3, by omega, by omega, by omega⟩
  clear hF hE hk hbq hq d0 dz dk nz
  generalize (w3.setCells q 0 (hdC st ep)) = W4 at *
  clear hlen
  go_wp2_with (
    first
    | (refine wpLoadA row29 (by rfl) (.tmp 1) (by rfl) b0 0 (by kernel_rfl) (u8s s) (u8l ls) (unhide G).s0.range ?_)
    | (refine wpBuildZ (u8s (zs 64)) build29 (by rfl) (by rfl) ?_)
    | (refine wpEqlA 80 80 guard29 (.tmp 10) (.tmp 11) (by rfl) (by rfl) (u8s s) (u8s (zs 64)) (by kernel_rfl) (by kernel_rfl) false ((equal29 _ s (zs 64) ls (by simp [zs])).trans (by rw [unhide HZ])) ?_))
  refine wp_region_any mixed (wpAny_tq 9 rfl (by kernel_rfl) [some (aggV (hdC st ep)), some (.bool true), some (.bool false), some (.bool false), some (aggV (hdC st ep)), some (aggV (u8s X)), some (aggV (u8s s)), some (.bool false), some (.bool false)] rfl (by kernel_rfl) (by kernel_rfl) ?_ ?_)
  · intro i o' hi hsk ho a' w2 hout hin hk2
    replace hk2 : Kept [] W4 w2 := ⟨hk2.os, hk2.tape, hk2.output, hk2.size, hk2.block⟩
    match i, ho, hsk with
    | 0, ho, hsk =>
      obtain rfl := Option.some.inj ho
      exact wp_loadA row27 (.tmp 4) rfl q 0 ((hout 4 (by kernel_rfl)).trans rfl) (hdC st ep) rfl ((unhide G).step hk2).hd.range ⟨_, rfl, tq_is _ _ _ _ rfl, Kept.refl _ _, fun _ _ _ _ _ => trivial⟩
    | 1, ho, hsk =>
      obtain rfl := Option.some.inj ho
      have e0 : a'.eval (.tmp 14) = aggV (hdC st ep) := is_tq (hin 0 14 (by kernel_rfl) (by kernel_rfl)) rfl
      refine wp_callF 75 _ _ rfl #[aggV (hdC st ep)] (by simp [e0]) (cf10 _ _) ((unhide H10 w2).mono ?_)
      rintro e w3 ⟨rfl, hk3⟩
      exact ⟨_, rfl, _, rfl, tq_is _ _ _ _ rfl, hk3, fun _ _ _ _ _ => trivial⟩
    | 2, ho, hsk =>
      obtain rfl := Option.some.inj ho
      have e0 : a'.eval (.tmp 15) = .bool true := is_tq (hin 1 15 (by kernel_rfl) (by kernel_rfl)) rfl
      exact o_not (.tmp 15) rfl _ e0 ⟨_, rfl, tq_is _ _ _ _ rfl, Kept.refl _ _, fun _ _ _ _ _ => trivial⟩
    | 3, ho, hsk =>
      obtain rfl := Option.some.inj ho
      have e0 : a'.eval (.tmp 16) = .bool false := is_tq (hin 2 16 (by kernel_rfl) (by kernel_rfl)) rfl
      exact wp_move (.tmp 16) rfl _ e0 ⟨_, rfl, tq_is _ _ _ _ rfl, Kept.refl _ _, fun _ _ _ _ _ => trivial⟩
    | 4, ho, hsk =>
      obtain rfl := Option.some.inj ho
      exact wp_loadA row27 (.tmp 4) rfl q 0 ((hout 4 (by kernel_rfl)).trans rfl) (hdC st ep) rfl ((unhide G).step hk2).hd.range ⟨_, rfl, tq_is _ _ _ _ rfl, Kept.refl _ _, fun _ _ _ _ _ => trivial⟩
    | 5, ho, hsk =>
      obtain rfl := Option.some.inj ho
      have e0 : a'.eval (.tmp 18) = aggV (hdC st ep) := is_tq (hin 4 18 (by kernel_rfl) (by kernel_rfl)) rfl
      refine wp_callF 76 _ _ rfl #[aggV (hdC st ep)] (by simp [e0]) (cf13 _ _) ((unhide H13 w2).mono ?_)
      rintro e w3 ⟨rfl, hk3⟩
      exact ⟨_, rfl, _, rfl, tq_is _ _ _ _ rfl, hk3, fun _ _ _ _ _ => trivial⟩
    | 6, ho, hsk =>
      obtain rfl := Option.some.inj ho
      exact wp_loadA row29 (.tmp 1) rfl b0 0 ((hout 1 (by kernel_rfl)).trans rfl) (u8s s) (u8l ls) ((unhide G).step hk2).s0.range ⟨_, rfl, tq_is _ _ _ _ rfl, Kept.refl _ _, fun _ _ _ _ _ => trivial⟩
    | 7, ho, hsk =>
      obtain rfl := Option.some.inj ho
      have e0 : a'.eval (.tmp 19) = aggV (u8s X) := is_tq (hin 5 19 (by kernel_rfl) (by kernel_rfl)) rfl
      have e1 : a'.eval (.tmp 20) = aggV (u8s s) := is_tq (hin 6 20 (by kernel_rfl) (by kernel_rfl)) rfl
      exact o_neqA 80 80 guard29 (.tmp 19) (.tmp 20) rfl (u8s X) (u8s s) e0 e1 true ((equal29 _ X s lX ls).trans (by rw [unhide E0])) ⟨_, rfl, tq_is _ _ _ _ rfl, Kept.refl _ _, fun _ _ _ _ _ => trivial⟩
    | 8, ho, hsk =>
      obtain rfl := Option.some.inj ho
      have e0 : a'.eval (.tmp 17) = .bool false := is_tq (hin 3 17 (by kernel_rfl) (by kernel_rfl)) rfl
      have e1 : a'.eval (.tmp 21) = .bool false := is_tq (hin 7 21 (by kernel_rfl) (by kernel_rfl)) rfl
      exact o_pickOr0 (.tmp 17) (.tmp 21) rfl _ e0 e1 ⟨_, rfl, tq_is _ _ _ _ rfl, Kept.refl _ _, fun _ _ _ _ _ => trivial⟩
  intro w9 hk9
  replace hk9 : Kept [] W4 w9 := ⟨hk9.os, hk9.tape, hk9.output, hk9.size, hk9.block⟩
  simp only [valsQ, List.map_cons, List.map_nil, Option.getD_some, List.take_succ_cons, List.take_zero, putAll, Act.put, List.setIfInBounds_toArray, List.set_cons_succ, List.set_cons_zero]
  refine wpAny_done (by kernel_rfl) ?_ _
  replace G := hide ((unhide G).step hk9)
  clear hk9
  go_wp2_with (
    first
    | (refine wpLoadA row27 (by rfl) (.tmp 4) (by rfl) q 0 (by kernel_rfl) (hdC st ep) rfl (unhide G).hd.range ?_)
    | (refine wpStoreA row27 (by rfl) (.tmp 2) (.tmp 24) (by rfl) zb 0 (hdC st ep) (by rfl) (by rfl) rfl (hdC_one _ _) ((unhide G).res.there (by simp [hdC])) ?_))
  have g4 := (unhide G).res.put (vs := (hdC st ep)) rfl
  have nz := (unhide G).nz
  exact bodyPost_ret (res22 _ _ _ _ _ rfl rfl rfl g4) rfl ⟨rfl, (unhide G).kept.setCells _ _ (by omega)⟩

set_option maxHeartbeats 4000000 in
set_option maxRecDepth 100000 in
theorem rtake_zC (s : List Int) (ls : s.length = 64) (st ep : Int) (P5 : ∀ w, Calls Tryd.prog 74 #[aggV (u8s s), .int .i64 (5 : Nat)] w fun e w' => e = .returned (.int .i64 st) ∧ Kept [] w w') (P1 : ∀ w, Calls Tryd.prog 74 #[aggV (u8s s), .int .i64 (1 : Nat)] w fun e w' => e = .returned (.int .i64 ep) ∧ Kept [] w w') (hz : decide (s = zs 64) = true) (P10 : ∀ w, Calls Tryd.prog 75 #[aggV (hdC 1 ep)] w fun e w' => e = .returned (.bool true) ∧ Kept [] w w') (X : List Int) (lX : X.length = 64) (P13 : ∀ w, Calls Tryd.prog 76 #[aggV (hdC 1 ep)] w fun e w' => e = .returned (aggV (u8s X)) ∧ Kept [] w w') (h0 : decide (X = s) = true) (w : World) : Calls Tryd.prog 48 #[aggV (u8s s)] w fun e w' => e = .returned (.tuple #[aggV (hdC 1 ep), .int .i64 0]) ∧ Kept [] w w' := by
  have N5 := hide P5
  have N1 := hide P1
  have HZ := hide hz
  have H10 := hide P10
  clear P5 P1 hz P10
  have H13 := hide P13
  have E0 := hide h0
  clear P13 h0
  go_enter Tryd.func48, Tryd.ntmps48
  go_wp2_with (
    first
    | (refine wpBoxV rfl (.tmp 0) rfl (u8s s) rfl ?_
       intro W1 b0 e1 B1 K1
       have A0 := hide B1
       have KA := hide K1
       clear e1 B1 K1)
    | (refine wpAllocW (hdC 0 0) zero27 2 rfl rfl rfl ?_
       intro W2 zb ez BZ1 K2
       have d0 := hide ((unhide A0).kept K2 (by simp))
       have dz := hide BZ1
       have nz : Hid (w.heap.size ≤ zb) := by have := (unhide KA).size; show _ ≤ _; omega
       have dk := hide ((unhide KA).trans K2)
       clear ez BZ1 K2 A0 KA))
  refine wp_region_prefix mixed 6 1 rfl (by kernel_rfl) (tab [.is (aggV (u8s s)), .is (.int .i64 st), .is (aggV (u8s s)), .is (.int .i64 ep), .is (aggV (hdC st ep)), .new 91 (hdC 0 0) W2.heap.size]) (apartE [5]) (tab_kept _) (by kernel_rfl) ?_ ?_
  · intro j o hj ho a w2 hout hin hk
    match j, ho with
    | 0, ho =>
      obtain rfl := Option.some.inj ho
      exact wp_loadA row29 (.tmp 1) rfl b0 0 ((hout 1 (by kernel_rfl)).trans rfl) (u8s s) (u8l ls) ((unhide d0).kept hk (by simp)).range ⟨_, rfl, rfl, Kept.refl _ _, fun i u _ _ _ => apart_no (by decide) i u _⟩
    | 2, ho =>
      obtain rfl := Option.some.inj ho
      exact wp_loadA row29 (.tmp 1) rfl b0 0 ((hout 1 (by kernel_rfl)).trans rfl) (u8s s) (u8l ls) ((unhide d0).kept hk (by simp)).range ⟨_, rfl, rfl, Kept.refl _ _, fun i u _ _ _ => apart_no (by decide) i u _⟩
    | 1, ho =>
      obtain rfl := Option.some.inj ho
      have e0 : a.eval (.tmp 5) = aggV (u8s s) := hin 0 5 (by kernel_rfl) (by kernel_rfl)
      refine wp_callF 74 _ _ rfl #[aggV (u8s s), .int .i64 (5 : Nat)] (by simp [e0]; rfl) (cf41 _ _) ((unhide N5 w2).mono ?_)
      rintro e w3 ⟨rfl, hk3⟩
      exact ⟨_, rfl, _, rfl, rfl, hk3, fun i u _ _ _ => apart_no (by decide) i u _⟩
    | 3, ho =>
      obtain rfl := Option.some.inj ho
      have e0 : a.eval (.tmp 7) = aggV (u8s s) := hin 2 7 (by kernel_rfl) (by kernel_rfl)
      refine wp_callF 74 _ _ rfl #[aggV (u8s s), .int .i64 (1 : Nat)] (by simp [e0]; rfl) (cf41 _ _) ((unhide N1 w2).mono ?_)
      rintro e w3 ⟨rfl, hk3⟩
      exact ⟨_, rfl, _, rfl, rfl, hk3, fun i u _ _ _ => apart_no (by decide) i u _⟩
    | 4, ho =>
      obtain rfl := Option.some.inj ho
      have e0 : a.eval (.tmp 6) = .int .i64 st := hin 1 6 (by kernel_rfl) (by kernel_rfl)
      have e1 : a.eval (.tmp 8) = .int .i64 ep := hin 3 8 (by kernel_rfl) (by kernel_rfl)
      exact o_buildP _ rfl #[(0, .int .i64 st), (1, .int .i64 ep)] (by simp [e0, e1]) _ (build27p _ _ _) ⟨_, rfl, rfl, Kept.refl _ _, fun i u _ _ _ => apart_no (by decide) i u _⟩
    | 5, ho =>
      obtain rfl := Option.some.inj ho
      exact wp_allocA (hdC 0 0) zero27 rfl ⟨_, rfl, ⟨_, rfl, hk.size, Blk.new' rfl⟩, (Kept.refl _ _).alloc _, fun i u _ _ h => apart_new (by simp) i 5 u h⟩
    | n + 6, ho => exact absurd hj (by omega)
  intro vs w3 hlen hF hE hk
  obtain ⟨x0, x1, x2, x3, x4, x5, rfl⟩ := vs6 hlen
  obtain rfl : x0 = aggV (u8s s) := hF 0 _ rfl
  obtain rfl : x1 = .int .i64 st := hF 1 _ rfl
  obtain rfl : x2 = aggV (u8s s) := hF 2 _ rfl
  obtain rfl : x3 = .int .i64 ep := hF 3 _ rfl
  obtain rfl : x4 = aggV (hdC st ep) := hF 4 _ rfl
  obtain ⟨q, rfl, hq, hbq⟩ : ∃ q, x5 = P0 q ∧ W2.heap.size ≤ q ∧ Blk w3 q 91 (hdC 0 0) := hF 5 _ rfl
  simp only [List.take_succ_cons, List.take_zero, putAll, Act.put, List.setIfInBounds_toArray, List.set_cons_succ, List.set_cons_zero]
  refine wpAny_all (rs := [6]) (by kernel_rfl) (by simp) ?_
  intro i hi
  obtain rfl : i = 6 := by simpa using hi
  refine wpOp_of rfl rfl (wp_storeN row27 (.tmp 4) (.tmp 9) rfl rfl q 0 (hdC st ep) rfl rfl rfl (hdC_one _ _) (hbq.there (by simp [hdC])) ?_)
  refine wpAny_done (by kernel_rfl) ?_ _
  have G : Hid (Fw w (w3.setCells q 0 (hdC st ep)) b0 zb q s st ep) := by
    have y0 := (unhide d0).lt
    have y2 := (unhide dz).lt
    have y3 := unhide nz
    have y4 := (unhide dk).size
    exact ⟨((unhide d0).kept hk (by simp)).other (by omega), ((unhide dz).kept hk (by simp)).other (by omega), hbq.put rfl, ((unhide dk).trans hk).setCells _ _ (by omega), y3, by omega, by omega, by omega⟩
  clear hF hE hk hbq hq d0 dz dk nz
  generalize (w3.setCells q 0 (hdC st ep)) = W4 at *
  clear hlen
  go_wp2_with (
    first
    | (refine wpLoadA row29 (by rfl) (.tmp 1) (by rfl) b0 0 (by kernel_rfl) (u8s s) (u8l ls) (unhide G).s0.range ?_)
    | (refine wpBuildZ (u8s (zs 64)) build29 (by rfl) (by rfl) ?_)
    | (refine wpEqlA 80 80 guard29 (.tmp 10) (.tmp 11) (by rfl) (by rfl) (u8s s) (u8s (zs 64)) (by kernel_rfl) (by kernel_rfl) true ((equal29 _ s (zs 64) ls (by simp [zs])).trans (by rw [unhide HZ])) ?_)
    | (refine wpStore1 size2 (by rfl) (.tmp 13) (.const (.int .i64 1)) (by rfl) (by rfl) q 0 .i64 1 91 (hdC st ep) (by kernel_rfl) (by kernel_rfl) (unhide G).hd (by kernel_rfl) ?_
       intro W5 B5 K5
       have G5 : Hid (Fw w W5 b0 zb q s 1 ep) := (unhide G).set B5 K5
       clear B5 K5 G))
  have G := G5
  clear G5
  refine wp_region_any mixed (wpAny_tq 9 rfl (by kernel_rfl) [some (aggV (hdC 1 ep)), some (.bool true), some (.bool false), some (.bool false), some (aggV (hdC 1 ep)), some (aggV (u8s X)), some (aggV (u8s s)), some (.bool false), some (.bool false)] rfl (by kernel_rfl) (by kernel_rfl) ?_ ?_)
  · intro i o' hi hsk ho a' w2 hout hin hk2
    replace hk2 : Kept [] W5 w2 := ⟨hk2.os, hk2.tape, hk2.output, hk2.size, hk2.block⟩
    match i, ho, hsk with
    | 0, ho, hsk =>
      obtain rfl := Option.some.inj ho
      exact wp_loadA row27 (.tmp 4) rfl q 0 ((hout 4 (by kernel_rfl)).trans rfl) (hdC 1 ep) rfl ((unhide G).step hk2).hd.range ⟨_, rfl, tq_is _ _ _ _ rfl, Kept.refl _ _, fun _ _ _ _ _ => trivial⟩
    | 1, ho, hsk =>
      obtain rfl := Option.some.inj ho
      have e0 : a'.eval (.tmp 14) = aggV (hdC 1 ep) := is_tq (hin 0 14 (by kernel_rfl) (by kernel_rfl)) rfl
      refine wp_callF 75 _ _ rfl #[aggV (hdC 1 ep)] (by simp [e0]) (cf10 _ _) ((unhide H10 w2).mono ?_)
      rintro e w3 ⟨rfl, hk3⟩
      exact ⟨_, rfl, _, rfl, tq_is _ _ _ _ rfl, hk3, fun _ _ _ _ _ => trivial⟩
    | 2, ho, hsk =>
      obtain rfl := Option.some.inj ho
      have e0 : a'.eval (.tmp 15) = .bool true := is_tq (hin 1 15 (by kernel_rfl) (by kernel_rfl)) rfl
      exact o_not (.tmp 15) rfl _ e0 ⟨_, rfl, tq_is _ _ _ _ rfl, Kept.refl _ _, fun _ _ _ _ _ => trivial⟩
    | 3, ho, hsk =>
      obtain rfl := Option.some.inj ho
      have e0 : a'.eval (.tmp 16) = .bool false := is_tq (hin 2 16 (by kernel_rfl) (by kernel_rfl)) rfl
      exact wp_move (.tmp 16) rfl _ e0 ⟨_, rfl, tq_is _ _ _ _ rfl, Kept.refl _ _, fun _ _ _ _ _ => trivial⟩
    | 4, ho, hsk =>
      obtain rfl := Option.some.inj ho
      exact wp_loadA row27 (.tmp 4) rfl q 0 ((hout 4 (by kernel_rfl)).trans rfl) (hdC 1 ep) rfl ((unhide G).step hk2).hd.range ⟨_, rfl, tq_is _ _ _ _ rfl, Kept.refl _ _, fun _ _ _ _ _ => trivial⟩
    | 5, ho, hsk =>
      obtain rfl := Option.some.inj ho
      have e0 : a'.eval (.tmp 18) = aggV (hdC 1 ep) := is_tq (hin 4 18 (by kernel_rfl) (by kernel_rfl)) rfl
      refine wp_callF 76 _ _ rfl #[aggV (hdC 1 ep)] (by simp [e0]) (cf13 _ _) ((unhide H13 w2).mono ?_)
      rintro e w3 ⟨rfl, hk3⟩
      exact ⟨_, rfl, _, rfl, tq_is _ _ _ _ rfl, hk3, fun _ _ _ _ _ => trivial⟩
    | 6, ho, hsk =>
      obtain rfl := Option.some.inj ho
      exact wp_loadA row29 (.tmp 1) rfl b0 0 ((hout 1 (by kernel_rfl)).trans rfl) (u8s s) (u8l ls) ((unhide G).step hk2).s0.range ⟨_, rfl, tq_is _ _ _ _ rfl, Kept.refl _ _, fun _ _ _ _ _ => trivial⟩
    | 7, ho, hsk =>
      obtain rfl := Option.some.inj ho
      have e0 : a'.eval (.tmp 19) = aggV (u8s X) := is_tq (hin 5 19 (by kernel_rfl) (by kernel_rfl)) rfl
      have e1 : a'.eval (.tmp 20) = aggV (u8s s) := is_tq (hin 6 20 (by kernel_rfl) (by kernel_rfl)) rfl
      exact o_neqA 80 80 guard29 (.tmp 19) (.tmp 20) rfl (u8s X) (u8s s) e0 e1 true ((equal29 _ X s lX ls).trans (by rw [unhide E0])) ⟨_, rfl, tq_is _ _ _ _ rfl, Kept.refl _ _, fun _ _ _ _ _ => trivial⟩
    | 8, ho, hsk =>
      obtain rfl := Option.some.inj ho
      have e0 : a'.eval (.tmp 17) = .bool false := is_tq (hin 3 17 (by kernel_rfl) (by kernel_rfl)) rfl
      have e1 : a'.eval (.tmp 21) = .bool false := is_tq (hin 7 21 (by kernel_rfl) (by kernel_rfl)) rfl
      exact o_pickOr0 (.tmp 17) (.tmp 21) rfl _ e0 e1 ⟨_, rfl, tq_is _ _ _ _ rfl, Kept.refl _ _, fun _ _ _ _ _ => trivial⟩
  intro w9 hk9
  replace hk9 : Kept [] W5 w9 := ⟨hk9.os, hk9.tape, hk9.output, hk9.size, hk9.block⟩
  simp only [valsQ, List.map_cons, List.map_nil, Option.getD_some, List.take_succ_cons, List.take_zero, putAll, Act.put, List.setIfInBounds_toArray, List.set_cons_succ, List.set_cons_zero]
  refine wpAny_done (by kernel_rfl) ?_ _
  replace G := hide ((unhide G).step hk9)
  clear hk9
  go_wp2_with (
    first
    | (refine wpLoadA row27 (by rfl) (.tmp 4) (by rfl) q 0 (by kernel_rfl) (hdC 1 ep) rfl (unhide G).hd.range ?_)
    | (refine wpStoreA row27 (by rfl) (.tmp 2) (.tmp 24) (by rfl) zb 0 (hdC 1 ep) (by rfl) (by rfl) rfl (hdC_one _ _) ((unhide G).res.there (by simp [hdC])) ?_))
  have g4 := (unhide G).res.put (vs := (hdC 1 ep)) rfl
  have nz := (unhide G).nz
  exact bodyPost_ret (res22 _ _ _ _ _ rfl rfl rfl g4) rfl ⟨rfl, (unhide G).kept.setCells _ _ (by omega)⟩

theorem rtake22 (s : List Int) (hs : Byts 64 s) (w : World) : Calls Tryd.prog 48 #[aggV (u8s s)] w fun e w' => e = .returned (.tuple #[aggV (hdC (takeR s).1.1 (takeR s).1.2), .int .i64 (takeR s).2]) ∧ Kept [] w w' := by
  have P5 := fun w => number41 s hs 5 (by omega) w
  have P1 := fun w => number41 s hs 1 (by omega) w
  by_cases hz : s = zs 64
  · have e1 : numL s 1 4 = 0 := by rw [hz]; rfl
    have et : takeR s = ((1, 0), 0) := by rw [hz]; exact take_first
    rw [et]
    rw [e1] at P1
    have P10 := fun w => mayhead10 1 0 w
    have hm : mayH 1 0 = true := rfl
    rw [hm] at P10
    have P13 := fun w => rputh13 1 0 hm w
    have e3 : (puthR 1 0).1 = zs 64 := rfl
    rw [e3] at P13
    exact rtake_zC s hs.len _ 0 P5 P1 (by simpa using hz) P10 (zs 64) (by simp [zs]) P13 (by simpa using hz.symm) w
  · have eh : hdR s = (numL s 5 4, numL s 1 4) := by rw [hdR, if_neg hz]
    have P10 := fun w => mayhead10 (numL s 5 4) (numL s 1 4) w
    cases hm : mayH (numL s 5 4) (numL s 1 4) with
    | false =>
      rw [hm] at P10
      have h2 := hm
      simp only [mayH, Bool.or_eq_false_iff] at h2
      have e9 : puthR (numL s 5 4) (numL s 1 4) = (zs 64, 2) := by simp [puthR, h2.1, h2.2]
      have et : takeR s = ((0, 0), 12) := by simp [takeR, eh, e9]
      rw [et]
      exact rtake_nA s hs.len _ _ P5 P1 (by simpa using hz) P10 w
    | true =>
      rw [hm] at P10
      have ht := (take_laid (numL s 5 4) (numL s 1 4) (by simpa [mayH] using hm)).2
      have P13 := fun w => rputh13 _ _ hm w
      have hX := (puthR_byts (numL s 5 4) (numL s 1 4)).len
      by_cases h0 : (puthR (numL s 5 4) (numL s 1 4)).1 = s
      · have et : takeR s = ((numL s 5 4, numL s 1 4), 0) := by simp [takeR, eh, ht, h0]
        rw [et]
        exact rtake_nC s hs.len _ _ P5 P1 (by simpa using hz) P10 _ hX P13 (by simpa using h0) w
      · have et : takeR s = ((0, 0), 12) := by
          have h1 : ¬ s = (puthR (numL s 5 4) (numL s 1 4)).1 := fun h => h0 h.symm
          simp [takeR, eh, h1]
        rw [et]
        exact rtake_nB s hs.len _ _ P5 P1 (by simpa using hz) P10 _ hX P13 (by simpa using h0) w

end Go.Proofs.YtmeajhdhiebkdaaDoor.Rc
