/-
  Tables for regions whose calls write, one behind the other.
-/
import Derived.Test.YtffflafalffifaaTup
namespace Go.Proofs.Ytffflafalffifaa.K
open Go.RowKit

/-- Whatever the order: what each operation keeps holds at the end. -/
theorem wpAny_inv {P : Program} {ops : Array Oper} {Q : Exit → Act → World → Prop} (I : Array Bool → Act → World → Prop) (hs : ∀ l a w, I l a w → ∀ j ∈ Region.ready .any ops l, wpOp P ops Q j (I (l.setIfInBounds j true)) a w)
    (he : ∀ l a w, I l a w → Region.ready .any ops l = [] → Q .normal a w) : ∀ (fuel : Nat) (l : Array Bool) (a : Act) (w : World), I l a w → (l.toList.filter (fun b => !b)).length ≤ fuel → wpAny P .any ops Q fuel l a w := by
  intro fuel
  induction fuel with
  | zero =>
    intro l a w hI hf
    have hr : Region.ready .any ops l = [] := by
      apply List.eq_nil_iff_forall_not_mem.2
      intro j hj
      have := unlisted_set (mem_ready.1 hj).1
      omega
    exact ⟨hr, he l a w hI hr⟩
  | succ fuel ih =>
    intro l a w hI hf
    refine ⟨he l a w hI, fun i hi => wpOp_mono (fun a w h => ih _ a w h ?_) (hs l a w hI i hi)⟩
    have := unlisted_set (mem_ready.1 hi).1
    omega
/-- The table fits the region. -/
def okW (ops : Array Oper) : Bool := (List.range ops.size).all (fun j => match ops[j]? with
  | none => false
  | some o => (match o.guard with | none => true | some (i, _) => o.after.any (fun e => Region.binds .any e && e.on == i)) && o.dst.isSome && o.after.all (fun e => !Region.binds .any e || decide (e.on < j)) && (List.range j).all (fun i => match ops[i]? with
    | none => false
    | some p => p.dst != o.dst))
structure OkW (ops : Array Oper) : Prop where
  guard : ∀ (j : Nat) (o : Oper) (i : Nat) (b : Bool), ops[j]? = some o → o.guard = some (i, b) → o.after.any (fun e => Region.binds .any e && e.on == i) = true
  dst : ∀ (j : Nat) (o : Oper), ops[j]? = some o → ∃ t, o.dst = some t
  back : ∀ (j : Nat) (o : Oper), ops[j]? = some o → ∀ e ∈ o.after, Region.binds .any e = true → e.on < j
  apart : ∀ (i j : Nat) (p o : Oper), i < j → ops[i]? = some p → ops[j]? = some o → p.dst ≠ o.dst
theorem okW_spec {ops : Array Oper} (h : okW ops = true) : OkW ops := by
  have hj : ∀ (j : Nat) (o : Oper), ops[j]? = some o → _ := fun j o ho => (List.all_eq_true.1 h) j (List.mem_range.2 (Array.getElem?_eq_some_iff.1 ho).1)
  refine ⟨?_, ?_, ?_, ?_⟩
  · intro j o i b ho hg
    have := hj j o ho
    simp only [ho, hg, Bool.and_eq_true] at this
    exact this.1.1.1
  · intro j o ho
    have := hj j o ho
    simp only [ho, Bool.and_eq_true] at this
    exact Option.isSome_iff_exists.1 this.1.1.2
  · intro j o ho e he hb
    have := hj j o ho
    simp only [ho, Bool.and_eq_true] at this
    have := (Array.all_eq_true_iff_forall_mem.1 this.1.2) e he
    rw [hb] at this
    simpa using this
  · intro i j p o hij hp ho
    have := hj j o ho
    simp only [ho, Bool.and_eq_true] at this
    have := (List.all_eq_true.1 this.2) i (List.mem_range.2 hij)
    rw [hp] at this
    simpa using this
theorem getD_setD {l : Array Bool} {j i : Nat} (hj : j < l.size) (d : Bool) : (l.setIfInBounds j true).getD i d = if i = j then true else l.getD i d := by
  simp only [Array.getD_eq_getD_getElem?, Array.getElem?_setIfInBounds]
  by_cases e : j = i
  · subst e; simp [hj]
  · rw [if_neg e, if_neg (fun h => e h.symm)]
theorem wpAny_tw {ops : Array Oper} {Q : Exit → Act → World → Prop} {a0 : Act} {w0 : World} (hok : okW ops = true) (us : List (Option Value)) (hu : us.length = ops.size) (hg : guardsQ ops us = true)
    (hsl : ops.all (fun o => match o.dst with | none => true | some t => decide (t < a0.tmps.size)) = true) (J : Array Bool → World → Prop) (hJ0 : J (Array.replicate ops.size false) w0) (hJs : ∀ j l w, skipQ us j = true → l.size = ops.size → J l w → J (l.setIfInBounds j true) w)
    (hop : ∀ (j : Nat) (o : Oper), j < ops.size → skipQ us j = false → ops[j]? = some o → ∀ a w l, l.size = ops.size → l.getD j false = false → J l w → (∀ t : Nat, ops.toList.all (fun p => p.dst != some t) = true → a.eval (.tmp t) = a0.eval (.tmp t)) →
      (∀ (i t : Nat), o.after.any (fun e => Region.binds .any e && e.on == i) = true → ops[i]?.bind (·.dst) = some t → tq us i (a.eval (.tmp t)) w) → (∀ i : Nat, o.after.any (fun e => Region.binds .any e && e.on == i) = true → l.getD i false = true) →
      o.wp Try.prog a w (fun a' w' => ∃ v, a' = a.put o.dst v ∧ tq us j v w' ∧ J (l.setIfInBounds j true) w') Q)
    (hQ : ∀ l w, (∀ j, j < ops.size → l.getD j false = true) → J l w → Q .normal (putAll a0 ops.toList (valsQ us)) w) :
    wpAny Try.prog .any ops Q ops.size (Array.replicate ops.size false) a0 w0 := by
  have K := okW_spec hok
  have hsl' : ∀ o ∈ ops, ∀ t, o.dst = some t → t < a0.tmps.size := by
    intro o ho t ht
    have := (Array.all_eq_true_iff_forall_mem.1 hsl) o ho
    rw [ht] at this
    simpa using this
  let I : Array Bool → Act → World → Prop := fun l a w => l.size = ops.size ∧ a.defers = a0.defers ∧ a.tmps.size = a0.tmps.size ∧ (∀ t, (∀ p ∈ ops.toList, p.dst ≠ some t) → a.tmps[t]? = a0.tmps[t]?) ∧
    (∀ (j : Nat) (o : Oper) (t : Nat), ops[j]? = some o → o.dst = some t → l.getD j false = true → ∃ v, a.tmps[t]? = some v ∧ tq us j v w) ∧ J l w
  have tqw : ∀ j v w w', tq us j v w → tq us j v w' := fun _ _ _ _ h => h
  have hrep : ∀ j, (Array.replicate ops.size false).getD j false = false := by
    intro j
    rw [Array.getD_eq_getD_getElem?, Array.getElem?_replicate]
    split <;> rfl
  refine wpAny_inv I ?_ ?_ ops.size _ a0 w0 ⟨by simp, rfl, rfl, fun _ _ => rfl, (fun j o t ho ht hl => by rw [hrep] at hl; cases hl), hJ0⟩ (by simp)
  · rintro l a w ⟨i1, i2, i3, i4, i5, i6⟩ j hj
    obtain ⟨hjl, o, ho, hdeps⟩ := mem_ready.1 hj
    have hjs : j < ops.size := (Array.getElem?_eq_some_iff.1 ho).1
    obtain ⟨t, ht⟩ := K.dst j o ho
    have htl : t < a.tmps.size := by rw [i3]; exact hsl' o (Array.mem_of_getElem? ho) t ht
    have hjf : l.getD j false = false := by
      simp only [Array.getD_eq_getD_getElem?] at hjl ⊢
      rw [Array.getElem?_eq_getElem (by omega)] at hjl ⊢
      simpa using hjl
    have hdep : ∀ i : Nat, o.after.any (fun e => Region.binds .any e && e.on == i) = true → l.getD i false = true := by
      intro i hi
      obtain ⟨k, hk, hb⟩ := Array.any_eq_true.1 hi
      have he := Array.getElem_mem hk
      obtain ⟨e, hee⟩ : ∃ e, o.after[k] = e := ⟨_, rfl⟩
      rw [hee] at hb he
      simp only [Bool.and_eq_true, beq_iff_eq] at hb
      have := hdeps e he hb.1
      rwa [hb.2] at this
    have hin : ∀ (i s : Nat), o.after.any (fun e => Region.binds .any e && e.on == i) = true → ops[i]?.bind (·.dst) = some s → tq us i (a.eval (.tmp s)) w := by
      intro i s hi hs
      cases hq : ops[i]? with
      | none => rw [hq] at hs; cases hs
      | some p =>
        rw [hq] at hs
        obtain ⟨v, hv, hf⟩ := i5 i p s hq hs (hdep i hi)
        have : a.eval (.tmp s) = v := by simp [Act.eval, Array.getD_eq_getD_getElem?, hv]
        rw [this]
        exact hf
    -- the state behind it
    have next : ∀ v w', tq us j v w' → J (l.setIfInBounds j true) w' → I (l.setIfInBounds j true) (a.put o.dst v) w' := by
      intro v w' hv hJ
      rw [ht]
      refine ⟨by simp [i1], i2, by simp [Act.put, i3], ?_, ?_, hJ⟩
      · intro s hs
        have hne : t ≠ s := by
          intro e; subst e
          exact hs o (by simpa using Array.mem_of_getElem? ho) ht
        simp only [Act.put]
        rw [Array.getElem?_setIfInBounds_ne hne]
        exact i4 s hs
      · intro i p s hp hs hl
        rw [getD_setD (by omega)] at hl
        by_cases hij : i = j
        · subst hij
          rw [ho] at hp; cases hp
          rw [ht] at hs; cases hs
          exact ⟨v, by simp only [Act.put]; rw [Array.getElem?_setIfInBounds_self_of_lt htl], hv⟩
        · rw [if_neg hij] at hl
          obtain ⟨u, hu', hf⟩ := i5 i p s hp hs hl
          have hne : t ≠ s := by
            intro e; subst e
            rcases Nat.lt_or_gt_of_ne hij with h | h
            · exact K.apart i j p o h hp ho (by rw [hs, ht])
            · exact K.apart j i o p h ho hp (by rw [hs, ht])
          exact ⟨u, by simp only [Act.put]; rw [Array.getElem?_setIfInBounds_ne hne]; exact hu', tqw _ _ _ _ hf⟩
    unfold wpOp
    rw [ho]
    simp only
    have hout : ∀ s : Nat, ops.toList.all (fun p => p.dst != some s) = true → a.eval (.tmp s) = a0.eval (.tmp s) := by
      intro s hs
      have := i4 s (fun p hp e => by
        have := (List.all_eq_true.1 hs) p hp
        rw [e] at this
        simp at this)
      simp [Act.eval, Array.getD_eq_getD_getElem?, this]
    have run : skipQ us j = false → o.wp Try.prog a w (I (l.setIfInBounds j true)) Q := fun hsk =>
      Oper.wp_mono (fun a' w' ⟨v, e, hv, hJ⟩ => by rw [e]; exact next v w' hv hJ) (hop j o hjs hsk ho a w l i1 hjf i6 hout hin hdep)
    cases hgd : o.guard with
    | none =>
      rw [if_pos (by simp [Region.wanted, hgd])]
      exact .inl (run (guardsQ_none hg j o ho hgd))
    | some ib =>
      obtain ⟨i, b⟩ := ib
      have ha := K.guard j o i b ho hgd
      have hli := hdep i ha
      have his : i < ops.size := by
        have : l.getD i false = true := hli
        rw [Array.getD_eq_getD_getElem?] at this
        by_cases h : i < ops.size
        · exact h
        · rw [Array.getElem?_eq_none (by omega)] at this; cases this
      obtain ⟨s, hs⟩ := K.dst i ops[i] (Array.getElem?_eq_getElem his)
      obtain ⟨v, hv, hf⟩ := i5 i _ s (Array.getElem?_eq_getElem his) hs hli
      have hes : ops[i]?.bind (·.dst) = some s := by rw [Array.getElem?_eq_getElem his]; exact hs
      rcases guardsQ_some hg j o i b ho hgd with ⟨h1, h2⟩ | ⟨h1, h2⟩
      · have hvb := h2 v w hf
        subst hvb
        rw [if_pos (by simp [Region.wanted, hgd, yielded, hes, hv])]
        exact .inl (run h1)
      · have hvb := h2 v w hf
        have hw : Region.wanted o (yielded ops a.tmps) = false := wanted_no hgd (yielded_of his hs hv) hvb
        rw [if_neg (by rw [hw]; simp)]
        exact next undef w (skipQ_undef w h1) (hJs j l w h1 i1 i6)
  · rintro l a w ⟨i1, i2, i3, i4, i5, i6⟩ hr
    have hall : ∀ n j, j < n → j < ops.size → l.getD j false = true := by
      intro n
      induction n with
      | zero => intro j hj; omega
      | succ n ih =>
        intro j hj hjs
        cases hlj : l.getD j false with
        | true => rfl
        | false =>
          exfalso
          have hmem : j ∈ Region.ready .any ops l := by
            rw [mem_ready]
            refine ⟨?_, ops[j], Array.getElem?_eq_getElem hjs, fun e he hb => ?_⟩
            · simp only [Array.getD_eq_getD_getElem?] at hlj ⊢
              rw [Array.getElem?_eq_getElem (by omega)] at hlj ⊢
              simpa using hlj
            · have := K.back j ops[j] (Array.getElem?_eq_getElem hjs) e he hb
              exact ih e.on (by omega) (by omega)
          rw [hr] at hmem
          cases hmem
    have hl := fun j (hj : j < ops.size) => hall (j + 1) j (by omega) hj
    have ha : a = putAll a0 ops.toList (valsQ us) := by
      have hs := putAll_size ops.toList (valsQ us) a0
      have hdst : ∀ (i j : Nat) (p q : Oper), ops.toList[i]? = some p → ops.toList[j]? = some q → i ≠ j → p.dst ≠ q.dst := by
        intro i j p q hp hq hij
        rw [Array.getElem?_toList] at hp hq
        rcases Nat.lt_or_gt_of_ne hij with h | h
        · exact K.apart i j p q h hp hq
        · exact fun e => K.apart j i q p h hq hp e.symm
      have ht : a.tmps = (putAll a0 ops.toList (valsQ us)).tmps := by
        apply Array.ext_getElem?
        intro t
        by_cases hx : ∃ (j : Nat) (o : Oper), ops[j]? = some o ∧ o.dst = some t
        · obtain ⟨j, o, ho, hd⟩ := hx
          have hjs : j < ops.size := (Array.getElem?_eq_some_iff.1 ho).1
          obtain ⟨v, hv, hf⟩ := i5 j o t ho hd (hl j hjs)
          have hvv : (valsQ us)[j]? = some v := by
            unfold tq at hf
            have hju : j < us.length := by omega
            rw [List.getElem?_eq_getElem hju] at hf
            simp only [valsQ, List.getElem?_map, List.getElem?_eq_getElem hju, Option.map_some]
            cases hq : us[j] with
            | none => rw [hq] at hf; simp only at hf; rw [hf]; rfl
            | some u => rw [hq] at hf; simp only at hf; rw [hf]; rfl
          rw [hv, putAll_same ops.toList (valsQ us) a0 j o v t (by rw [Array.getElem?_toList]; exact ho) hvv hd (hsl' o (Array.mem_of_getElem? ho) t hd) hdst]
        · have hno : ∀ p ∈ ops.toList, p.dst ≠ some t := by
            intro p hp e
            obtain ⟨j, hj⟩ := List.mem_iff_getElem?.1 hp
            exact hx ⟨j, p, by rw [← Array.getElem?_toList]; exact hj, e⟩
          rw [i4 t hno, putAll_other ops.toList (valsQ us) a0 t hno]
      cases a
      simp only at ht i2
      cases hp : putAll a0 ops.toList (valsQ us) with
      | mk tm df =>
        rw [hp] at ht hs
        simp only at ht hs
        rw [ht, i2, hs.2]
    rw [ha]
    exact hQ l w hl i6

end Go.Proofs.Ytffflafalffifaa.K
