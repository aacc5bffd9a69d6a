/-
  A region that draws its order, whose calls come one behind the other, and whose other operations only look or make new memory: whatever the order, it ends as by the text's.
-/
import Derived.Test.YtffflafalffifaaPlain
import Derived.Orders
namespace Go.Proofs.Ytffflafalffifaa
open Go.RowKit

/-- Values laid into the slots of operations, one behind the other. -/
def putAll (a : Act) : List Oper → List Value → Act
  | o :: os, v :: vs => putAll (a.put o.dst v) os vs
  | _, _ => a

/-- What is asked of a region: no guards, each waits for earlier ones alone, each has a slot of its own, the calls wait for one another. -/
def floatOK (ops : Array Oper) (C : List Nat) : Bool :=
  (List.range ops.size).all (fun j => match ops[j]? with
    | none => false
    | some o => o.guard.isNone && o.dst.isSome && o.after.all (fun e => decide (e.on < j)) && (List.range j).all (fun i => match ops[i]? with
      | none => false
      | some p => p.dst != o.dst)) &&
  (List.range (C.length - 1)).all (fun m => match C[m]?, C[m + 1]? with
    | some d, some c => (match ops[c]? with
      | some o => o.after.any (fun e => Region.binds .any e && e.on == d)
      | none => false)
    | _, _ => false) && decide (C.Nodup ∧ ∀ c ∈ C, c < ops.size)

section
variable {P : Program} {ops : Array Oper} {Q : Exit → Act → World → Prop}

structure FloatOK (ops : Array Oper) (C : List Nat) : Prop where
  guard : ∀ (j : Nat) (o : Oper), ops[j]? = some o → o.guard = none
  dst : ∀ (j : Nat) (o : Oper), ops[j]? = some o → ∃ t, o.dst = some t
  back : ∀ (j : Nat) (o : Oper), ops[j]? = some o → ∀ e ∈ o.after, e.on < j
  apart : ∀ (i j : Nat) (p o : Oper), ops[i]? = some p → ops[j]? = some o → i ≠ j → p.dst ≠ o.dst
  chain : ∀ (m c d : Nat) (o : Oper), C[m]? = some d → C[m + 1]? = some c → ops[c]? = some o → ∃ e ∈ o.after, Region.binds .any e = true ∧ e.on = d
  nodup : C.Nodup
  inside : ∀ c ∈ C, c < ops.size

theorem floatOK_spec {C : List Nat} (h : floatOK ops C = true) : FloatOK ops C := by
  unfold floatOK at h
  rw [Bool.and_eq_true, Bool.and_eq_true] at h
  obtain ⟨⟨h1, h2⟩, h3⟩ := h
  rw [List.all_eq_true] at h1 h2
  have g1 : ∀ (j : Nat) (o : Oper), ops[j]? = some o → (o.guard.isNone && o.dst.isSome && o.after.all (fun e => decide (e.on < j)) && (List.range j).all (fun i => match ops[i]? with
      | none => false
      | some p => p.dst != o.dst)) = true := by
    intro j o ho
    have := h1 j (List.mem_range.2 (Array.getElem?_eq_some_iff.1 ho).1)
    rw [ho] at this
    exact this
  have lt : ∀ (i j : Nat) (p o : Oper), ops[i]? = some p → ops[j]? = some o → i < j → p.dst ≠ o.dst := by
    intro i j p o hp ho hij
    have := g1 j o ho
    rw [Bool.and_eq_true, List.all_eq_true] at this
    have := this.2 i (List.mem_range.2 hij)
    rw [hp] at this
    simpa using this
  refine ⟨?_, ?_, ?_, ?_, ?_, (of_decide_eq_true h3).1, (of_decide_eq_true h3).2⟩
  · intro j o ho
    have := g1 j o ho
    simp only [Bool.and_eq_true] at this
    exact Option.isNone_iff_eq_none.1 this.1.1.1
  · intro j o ho
    have := g1 j o ho
    simp only [Bool.and_eq_true] at this
    exact Option.isSome_iff_exists.1 this.1.1.2
  · intro j o ho e he
    have := g1 j o ho
    simp only [Bool.and_eq_true] at this
    have := (Array.all_eq_true_iff_forall_mem.1 this.1.2) e he
    simpa using this
  · intro i j p o hp ho hne
    rcases Nat.lt_or_gt_of_ne hne with h | h
    · exact lt i j p o hp ho h
    · exact (lt j i o p ho hp h).symm
  · intro m c d o hd hc ho
    have hml : m + 1 < C.length := (List.getElem?_eq_some_iff.1 hc).1
    have := h2 m (List.mem_range.2 (by omega))
    rw [hd, hc] at this
    simp only [ho] at this
    simp only [Array.any_eq_true'] at this
    obtain ⟨e, he, hb⟩ := this
    simp only [Bool.and_eq_true, beq_iff_eq] at hb
    exact ⟨e, he, hb.1, hb.2⟩

/-- How many of the calls are done. -/
def calls (C : List Nat) (listed : Array Bool) : Nat := (C.filter (fun c => listed.getD c false)).length

theorem put_other (a : Act) (d : Option Tmp) (v : Value) (t : Nat) (h : d ≠ some t) : (a.put d v).tmps[t]? = a.tmps[t]? := by
  cases d with
  | none => rfl
  | some d =>
    simp only [Act.put]
    rw [Array.getElem?_setIfInBounds_ne (by intro e; exact h (by rw [e]))]

theorem put_same (a : Act) (t : Nat) (v : Value) (h : t < a.tmps.size) : (a.put (some t) v).tmps[t]? = some v := by
  simp [Act.put, h]
theorem put_size (a : Act) (d : Option Tmp) (v : Value) : (a.put d v).tmps.size = a.tmps.size := by cases d <;> simp [Act.put]
theorem put_defers (a : Act) (d : Option Tmp) (v : Value) : (a.put d v).defers = a.defers := by cases d <;> rfl

theorem putAll_other : ∀ (os : List Oper) (vs : List Value) (a : Act) (t : Nat), (∀ o ∈ os, o.dst ≠ some t) → (putAll a os vs).tmps[t]? = a.tmps[t]? := by
  intro os
  induction os with
  | nil => intro vs a t _; rfl
  | cons o os ih =>
    intro vs a t h
    cases vs with
    | nil => rfl
    | cons v vs => rw [putAll, ih _ _ _ (fun p hp => h p (List.mem_cons_of_mem _ hp)), put_other _ _ _ _ (h o (List.mem_cons_self ..))]
theorem putAll_size : ∀ (os : List Oper) (vs : List Value) (a : Act), (putAll a os vs).tmps.size = a.tmps.size ∧ (putAll a os vs).defers = a.defers := by
  intro os
  induction os with
  | nil => intro vs a; exact ⟨rfl, rfl⟩
  | cons o os ih =>
    intro vs a
    cases vs with
    | nil => exact ⟨rfl, rfl⟩
    | cons v vs => rw [putAll]; exact ⟨(ih _ _).1.trans (put_size _ _ _), (ih _ _).2.trans (put_defers _ _ _)⟩
theorem putAll_same : ∀ (os : List Oper) (vs : List Value) (a : Act) (j : Nat) (o : Oper) (v : Value) (t : Nat), os[j]? = some o → vs[j]? = some v → o.dst = some t → t < a.tmps.size →
    (∀ (i j : Nat) (p q : Oper), os[i]? = some p → os[j]? = some q → i ≠ j → p.dst ≠ q.dst) → (putAll a os vs).tmps[t]? = some v := by
  intro os
  induction os with
  | nil => intro vs a j o v t h; simp at h
  | cons p os ih =>
    intro vs a j o v t ho hv ht hlt hap
    cases vs with
    | nil => simp at hv
    | cons u vs =>
      rw [putAll]
      cases j with
      | zero =>
        simp at ho hv
        subst ho hv
        rw [putAll_other _ _ _ _ ?_, ht, put_same _ _ _ hlt]
        intro q hq
        obtain ⟨k, hk⟩ := List.getElem?_of_mem hq
        have := hap 0 (k + 1) p q rfl (by simpa using hk) (by omega)
        rw [ht] at this
        exact fun e => this e.symm
      | succ j =>
        exact ih vs _ j o v t (by simpa using ho) (by simpa using hv) ht (by rw [put_size]; exact hlt)
          (fun i k p' q' h1 h2 hne => hap (i + 1) (k + 1) p' q' (by simpa using h1) (by simpa using h2) (by omega))

theorem calls_first {C : List Nat} {listed : Array Bool} {m : Nat} (hm : m ≤ C.length) (h : ∀ (k : Nat) c, C[k]? = some c → (listed.getD c false = true ↔ k < m)) : calls C listed = m := by
  unfold calls
  conv => lhs; rw [← List.take_append_drop m C]
  rw [List.filter_append, List.length_append]
  have h1 : (C.take m).filter (fun c => listed.getD c false) = C.take m := by
    rw [List.filter_eq_self]
    intro c hc
    obtain ⟨k, hk⟩ := List.getElem?_of_mem hc
    rw [List.getElem?_take] at hk
    split at hk
    · rename_i hkm
      exact (h k c hk).2 hkm
    · simp at hk
  have h2 : (C.drop m).filter (fun c => listed.getD c false) = [] := by
    rw [List.filter_eq_nil_iff]
    intro c hc
    obtain ⟨k, hk⟩ := List.getElem?_of_mem hc
    rw [List.getElem?_drop] at hk
    intro e
    have := (h (m + k) c hk).1 e
    omega
  rw [h1, h2, List.length_take]
  simp; omega

theorem unlisted_set {listed : Array Bool} {i : Nat} (hi : listed.getD i true = false) : ((listed.setIfInBounds i true).toList.filter (fun b => !b)).length < (listed.toList.filter (fun b => !b)).length := by
  have hlt : i < listed.toList.length := by
    simp only [Array.getD] at hi
    split at hi
    · simpa using ‹_›
    · simp at hi
  have hv : listed.toList[i] = false := by
    simp only [Array.getD] at hi
    rw [dif_pos (by simpa using hlt)] at hi
    simpa using hi
  have h1 : (listed.setIfInBounds i true).toList = listed.toList.take i ++ true :: listed.toList.drop (i + 1) := by
    rw [Array.toList_setIfInBounds, List.set_eq_take_append_cons_drop, if_pos hlt]
  have h2 : listed.toList = listed.toList.take i ++ false :: listed.toList.drop (i + 1) := by
    conv => lhs; rw [← List.take_append_drop i listed.toList]
    rw [List.drop_eq_getElem_cons hlt, hv]
  rw [h1]
  conv => rhs; rw [h2]
  simp [List.filter_append]

/-- The theorem: F says what is known of each operation's value, ST what is known of the world behind so many calls. -/
theorem wp_region_float {id : Nat} {a0 : Act} {w0 : World} (hm : P.follows .mixedOrders = true) (C : List Nat) (hok : floatOK ops C = true) (X : List Nat) (F : Nat → Value → World → Prop) (ST : Nat → World → Prop)
    (hF : ∀ j v w w', F j v w → Kept X w w' → F j v w') (hS : ∀ m w w', ST m w → Kept [] w w' → ST m w') (h0 : ST 0 w0) (hsl : ∀ o ∈ ops, ∀ t, o.dst = some t → t < a0.tmps.size)
    (hop : ∀ (j : Nat) (o : Oper), ops[j]? = some o → ∀ a w, (∀ t, (∀ p ∈ ops, p.dst ≠ some t) → a.tmps[t]? = a0.tmps[t]?) →
      (∀ e ∈ o.after, Region.binds .any e = true → ∀ (p : Oper) (t : Nat), ops[e.on]? = some p → p.dst = some t → ∃ v, a.tmps[t]? = some v ∧ F e.on v w) → Kept X w0 w → (∀ m : Nat, C[m]? = some j → ST m w) →
      o.wp P a w (fun a' w' => ∃ v, a' = a.put o.dst v ∧ F j v w' ∧ ((∃ m : Nat, C[m]? = some j ∧ ST (m + 1) w' ∧ Kept X w w') ∨ (j ∉ C ∧ Kept [] w w'))) Q)
    (hQ : ∀ (vs : List Value) w, vs.length = ops.size → (∀ (j : Nat) v, vs[j]? = some v → F j v w) → ST C.length w → Kept X w0 w → Q .normal (putAll a0 ops.toList vs) w) :
    (Code.region id ops true).wp P Q a0 w0 := by
  have K := floatOK_spec hok
  refine wp_region_any hm ?_
  let I : Array Bool → Act → World → Prop := fun listed a w =>
    listed.size = ops.size ∧ a.defers = a0.defers ∧ a.tmps.size = a0.tmps.size ∧ (∀ t, (∀ p ∈ ops, p.dst ≠ some t) → a.tmps[t]? = a0.tmps[t]?) ∧
    (∀ (j : Nat) (o : Oper) (t : Nat), ops[j]? = some o → o.dst = some t → listed.getD j false = true → ∃ v, a.tmps[t]? = some v ∧ F j v w) ∧
    (∀ (j : Nat) (o : Oper), ops[j]? = some o → listed.getD j false = true → ∀ e ∈ o.after, Region.binds .any e = true → listed.getD e.on false = true) ∧ ST (calls C listed) w ∧ Kept X w0 w
  have main : ∀ fuel listed a w, I listed a w → (listed.toList.filter (fun b => !b)).length ≤ fuel → wpAny P .any ops Q fuel listed a w := by
    have hall : ∀ listed : Array Bool, listed.size = ops.size → Region.ready .any ops listed = [] → ∀ j, j < ops.size → listed.getD j false = true := by
      intro listed hsz hr j
      induction j using Nat.strongRecOn with
      | _ j ih =>
        intro hj
        cases hl : listed.getD j false with
        | true => rfl
        | false =>
          exfalso
          have hmem : j ∈ Region.ready .any ops listed := by
            rw [mem_ready]
            refine ⟨?_, ops[j], Array.getElem?_eq_getElem hj, fun e he _ => ?_⟩
            · simp only [Array.getD] at hl ⊢
              rw [dif_pos (by omega)] at hl ⊢
              exact hl
            · have hb := K.back j _ (Array.getElem?_eq_getElem hj) e he
              exact ih e.on hb (by omega)
          rw [hr] at hmem
          simp at hmem
    have hend : ∀ listed a w, I listed a w → Region.ready .any ops listed = [] → Q .normal a w := by
      intro listed a w hI hr
      obtain ⟨i1, i2, i3, i4, i5, i6, i7, i8⟩ := hI
      have hl := hall listed i1 hr
      have hcnt : calls C listed = C.length := by
        unfold calls
        rw [List.filter_eq_self.2 (fun c hc => hl c (K.inside c hc))]
      rw [hcnt] at i7
      have hval : ∀ (j : Nat), ∃ v, ∀ (o : Oper) (t : Nat), ops[j]? = some o → o.dst = some t → a.tmps[t]? = some v ∧ F j v w := by
        intro j
        by_cases hj : j < ops.size
        · obtain ⟨t, ht⟩ := K.dst j ops[j] (Array.getElem?_eq_getElem hj)
          obtain ⟨v, hv, hf⟩ := i5 j _ t (Array.getElem?_eq_getElem hj) ht (hl j hj)
          refine ⟨v, fun o t' ho ht' => ?_⟩
          rw [Array.getElem?_eq_getElem hj] at ho
          cases ho
          rw [ht] at ht'
          cases ht'
          exact ⟨hv, hf⟩
        · refine ⟨undef, fun o t ho _ => ?_⟩
          exact absurd (Array.getElem?_eq_some_iff.1 ho).1 hj
      obtain ⟨f, hf⟩ := Classical.axiomOfChoice hval
      have hvs : ∀ (j : Nat) v, ((List.range ops.size).map f)[j]? = some v → j < ops.size ∧ v = f j := by
        intro j v hv
        rw [List.getElem?_map] at hv
        by_cases hj : j < ops.size
        · rw [List.getElem?_range hj] at hv
          exact ⟨hj, by simpa using hv.symm⟩
        · rw [List.getElem?_eq_none (by simpa using hj)] at hv
          simp at hv
      have hQ' := hQ ((List.range ops.size).map f) w (by simp) (fun j v hv => by
        obtain ⟨hj, rfl⟩ := hvs j v hv
        obtain ⟨t, ht⟩ := K.dst j ops[j] (Array.getElem?_eq_getElem hj)
        exact (hf j _ t (Array.getElem?_eq_getElem hj) ht).2) i7 i8
      have hsame : putAll a0 ops.toList ((List.range ops.size).map f) = a := by
        have hsz := putAll_size ops.toList ((List.range ops.size).map f) a0
        have htm : (putAll a0 ops.toList ((List.range ops.size).map f)).tmps = a.tmps := by
          apply Array.ext_getElem?
          intro t
          by_cases hex : ∃ (j : Nat) (o : Oper), ops[j]? = some o ∧ o.dst = some t
          · obtain ⟨j, o, ho, ht⟩ := hex
            have hj : j < ops.size := (Array.getElem?_eq_some_iff.1 ho).1
            rw [(hf j o t ho ht).1]
            refine putAll_same ops.toList _ a0 j o (f j) t (by simpa using ho) (by rw [List.getElem?_map, List.getElem?_range hj]; rfl) ht (hsl o (Array.mem_of_getElem? ho) t ht) ?_
            intro i k p q hp hq hne
            exact K.apart i k p q (by simpa using hp) (by simpa using hq) hne
          · have hno : ∀ p ∈ ops, p.dst ≠ some t := by
              intro p hp e
              obtain ⟨j, hj⟩ := Array.getElem?_of_mem hp
              exact hex ⟨j, p, hj, e⟩
            rw [putAll_other _ _ _ _ (fun o ho => hno o (by simpa using ho)), i4 t hno]
        have hdf := hsz.2.trans i2.symm
        generalize putAll a0 ops.toList ((List.range ops.size).map f) = A at *
        obtain ⟨x1, x2⟩ := A
        obtain ⟨y1, y2⟩ := a
        simp only at htm hdf
        subst htm hdf
        rfl
      rw [hsame] at hQ'
      exact hQ'
    have hno : ∀ listed : Array Bool, (listed.toList.filter (fun b => !b)).length ≤ 0 → Region.ready .any ops listed = [] := by
      intro listed h
      apply List.eq_nil_iff_forall_not_mem.2
      intro j hj
      rw [mem_ready] at hj
      have := unlisted_set hj.1
      omega
    intro fuel
    induction fuel with
    | zero => intro listed a w hI hl; exact ⟨hno listed hl, hend listed a w hI (hno listed hl)⟩
    | succ fuel ih =>
      intro listed a w hI hl
      refine ⟨hend listed a w hI, fun i hi => ?_⟩
      obtain ⟨i1, i2, i3, i4, i5, i6, i7, i8⟩ := hI
      rw [mem_ready] at hi
      obtain ⟨r1, o, ho, r2⟩ := hi
      have hio : i < ops.size := (Array.getElem?_eq_some_iff.1 ho).1
      have hil : i < listed.size := by omega
      have hself : ∀ d, (listed.setIfInBounds i true).getD i d = true := by intro d; simp [Array.getD, hil]
      have hunl : listed.getD i false = false := by
        simp only [Array.getD] at r1 ⊢
        rw [dif_pos hil] at r1 ⊢
        exact r1
      unfold wpOp
      rw [ho]
      have hwt : Region.wanted o (yielded ops a.tmps) = true := by simp [Region.wanted, K.guard i o ho]
      simp only [hwt, if_true]
      left
      -- which call it is
      have hcall : ∀ m : Nat, C[m]? = some i → calls C listed = m ∧ calls C (listed.setIfInBounds i true) = m + 1 := by
        intro m hmC
        have hml : m < C.length := (List.getElem?_eq_some_iff.1 hmC).1
        -- what is listed of the calls is a first part
        have hdown : ∀ (q k : Nat) c d, C[k]? = some d → C[k + q]? = some c → listed.getD c false = true → listed.getD d false = true := by
          intro q
          induction q with
          | zero =>
            intro k c d hd hc hl
            rw [Nat.add_zero, hd] at hc
            cases hc
            exact hl
          | succ q ihq =>
            intro k c d hd hc hl
            have hkl : k + (q + 1) < C.length := (List.getElem?_eq_some_iff.1 hc).1
            obtain ⟨x, hx⟩ : ∃ x, C[k + q]? = some x := ⟨_, List.getElem?_eq_getElem (by omega)⟩
            refine ihq k x d hd hx ?_
            have hcs : c < ops.size := K.inside c (List.mem_of_getElem? hc)
            obtain ⟨e, he, hb, hon⟩ := K.chain (k + q) c x ops[c] hx (by rw [Nat.add_assoc]; exact hc) (Array.getElem?_eq_getElem hcs)
            rw [← hon]
            exact i6 c _ (Array.getElem?_eq_getElem hcs) hl e he hb
        have hk : ∀ (k : Nat) c, C[k]? = some c → (listed.getD c false = true ↔ k < m) := by
          intro k c hkc
          constructor
          · intro hlc
            rcases Nat.lt_or_ge k m with h | h
            · exact h
            · have := hdown (k - m) m c i hmC (by rw [Nat.add_sub_cancel' h]; exact hkc) hlc
              rw [hunl] at this
              cases this
          · intro h
            cases m with
            | zero => omega
            | succ m =>
              obtain ⟨x, hx⟩ : ∃ x, C[m]? = some x := ⟨_, List.getElem?_eq_getElem (by omega)⟩
              obtain ⟨e, he, hb, hon⟩ := K.chain m i x o hx hmC ho
              have hlx : listed.getD x false = true := by rw [← hon]; exact r2 e he hb
              exact hdown (m - k) k x c hkc (by rw [Nat.add_sub_cancel' (by omega)]; exact hx) hlx
        refine ⟨calls_first (by omega) hk, calls_first (by omega) ?_⟩
        intro k c hkc
        by_cases hci : c = i
        · subst hci
          rw [hself]
          have : k = m := by
            have h1 := (List.getElem?_eq_some_iff.1 hkc)
            have h2 := (List.getElem?_eq_some_iff.1 hmC)
            have hnd := List.pairwise_iff_getElem.1 K.nodup
            rcases Nat.lt_trichotomy k m with h | h | h
            · exact absurd (h1.2.trans h2.2.symm) (hnd k m h1.1 h2.1 h)
            · exact h
            · exact absurd (h2.2.trans h1.2.symm) (hnd m k h2.1 h1.1 h)
          simp; omega
        · rw [getD_set_ne _ (fun e => hci e.symm), hk k c hkc]
          have : k ≠ m := by
            intro e
            subst e
            rw [hmC] at hkc
            exact hci (by simpa using hkc.symm)
          omega
      refine Oper.wp_mono ?_ (hop i o ho a w i4 (fun e he hb p t hp ht => i5 e.on p t hp ht (r2 e he hb)) i8 (fun m hmC => by have := (hcall m hmC).1; rw [this] at i7; exact i7))
      rintro a' w' ⟨v, rfl, hFv, hc⟩
      have hKX : Kept X w w' := by
        rcases hc with ⟨m, _, _, h⟩ | ⟨_, h⟩
        · exact h
        · exact h.mono (by simp)
      refine ih _ _ _ ⟨by simpa using i1, by rw [put_defers]; exact i2, by rw [put_size]; exact i3, ?_, ?_, ?_, ?_, i8.trans hKX⟩ (by have := unlisted_set r1; omega)
      · intro t ht
        rw [put_other _ _ _ _ (ht o (Array.mem_of_getElem? ho))]
        exact i4 t ht
      · intro j p t hp ht hlj
        by_cases hji : j = i
        · subst hji
          rw [ho] at hp
          cases hp
          rw [ht]
          exact ⟨v, put_same _ _ _ (by rw [i3]; exact hsl o (Array.mem_of_getElem? ho) t ht), hFv⟩
        · rw [getD_set_ne _ (fun e => hji e.symm)] at hlj
          obtain ⟨u, hu, hfu⟩ := i5 j p t hp ht hlj
          refine ⟨u, ?_, hF _ _ _ _ hfu hKX⟩
          rw [put_other _ _ _ _ ?_]
          · exact hu
          · have := K.apart i j o p ho hp (fun e => hji e.symm)
            rw [ht] at this
            exact this
      · intro j p hp hlj e he hb
        by_cases hji : j = i
        · subst hji
          rw [ho] at hp
          cases hp
          exact getD_set_true (r2 e he hb)
        · rw [getD_set_ne _ (fun e => hji e.symm)] at hlj
          exact getD_set_true (i6 j p hp hlj e he hb)
      · rcases hc with ⟨m, hmC, hst, _⟩ | ⟨hnC, hk⟩
        · rw [(hcall m hmC).2]; exact hst
        · have : calls C (listed.setIfInBounds i true) = calls C listed := by
            unfold calls
            rw [List.filter_congr]
            intro c hc'
            exact getD_set_ne _ (fun e => hnC (e ▸ hc'))
          rw [this]
          exact hS _ _ _ i7 hk
  refine main _ _ _ _ ⟨by simp, rfl, rfl, fun t _ => rfl, ?_, ?_, ?_, ?_⟩ ?_
  · intro j o t ho ht hl
    simp [Array.getD, (Array.getElem?_eq_some_iff.1 ho).1] at hl
  · intro j o ho hl
    simp [Array.getD, (Array.getElem?_eq_some_iff.1 ho).1] at hl
  · have : calls C (Array.replicate ops.size false) = 0 := by
      unfold calls
      rw [List.length_eq_zero_iff, List.filter_eq_nil_iff]
      intro c hc
      simp [Array.getD]
    rw [this]
    exact hS _ _ _ h0 ⟨rfl, rfl, rfl, Nat.le_refl _, fun _ _ _ => rfl⟩
  · exact ⟨rfl, rfl, rfl, Nat.le_refl _, fun _ _ _ => rfl⟩
  · refine Nat.le_trans (List.length_filter_le _ _) (by simp)
/-- The same, its side conditions in a form that is reckoned. -/
theorem wp_region_floatB {id : Nat} {a0 : Act} {w0 : World} (hm : P.follows .mixedOrders = true) (C : List Nat) (hok : floatOK ops C = true) (X : List Nat) (F : Nat → Value → World → Prop) (ST : Nat → World → Prop)
    (hF : ∀ j v w w', F j v w → Kept X w w' → F j v w') (hS : ∀ m w w', ST m w → Kept [] w w' → ST m w') (h0 : ST 0 w0) (hsl : ops.all (fun o => match o.dst with | none => true | some t => decide (t < a0.tmps.size)) = true)
    (hop : ∀ (j : Nat) (o : Oper), ops[j]? = some o → ∀ a w, (∀ t : Nat, ops.all (fun p => p.dst != some t) = true → a.eval (.tmp t) = a0.eval (.tmp t)) →
      (∀ (i t : Nat), o.after.any (fun e => Region.binds .any e && e.on == i) = true → ops[i]?.bind (·.dst) = some t → F i (a.eval (.tmp t)) w) → Kept X w0 w → (∀ m : Nat, C[m]? = some j → ST m w) →
      o.wp P a w (fun a' w' => ∃ v, a' = a.put o.dst v ∧ F j v w' ∧ ((∃ m : Nat, C[m]? = some j ∧ ST (m + 1) w' ∧ Kept X w w') ∨ (j ∉ C ∧ Kept [] w w'))) Q)
    (hQ : ∀ (vs : List Value) w, vs.length = ops.size → (∀ (j : Nat) v, vs[j]? = some v → F j v w) → ST C.length w → Kept X w0 w → Q .normal (putAll a0 ops.toList vs) w) :
    (Code.region id ops true).wp P Q a0 w0 := by
  refine wp_region_float hm C hok X F ST hF hS h0 ?_ ?_ hQ
  · intro o ho t ht
    have := (Array.all_eq_true_iff_forall_mem.1 hsl) o ho
    rw [ht] at this
    simpa using this
  · intro j o ho a w h1 h2 h3 h4
    refine hop j o ho a w ?_ ?_ h3 h4
    · intro t ht
      have := h1 t (fun p hp => by
        have := (Array.all_eq_true_iff_forall_mem.1 ht) p hp
        simpa using this)
      simp only [Act.eval, Array.getD_eq_getD_getElem?, this]
    · intro i t hi hpt
      obtain ⟨p, hp, ht⟩ := Option.bind_eq_some_iff.1 hpt
      simp only [Array.any_eq_true'] at hi
      obtain ⟨e, he, hb⟩ := hi
      simp only [Bool.and_eq_true, beq_iff_eq] at hb
      obtain ⟨hb, rfl⟩ := hb
      obtain ⟨v, hv, hf⟩ := h2 e he hb p t hp ht
      have : a.eval (.tmp t) = v := by simp [Act.eval, Array.getD_eq_getD_getElem?, hv]
      rw [this]
      exact hf
end

end Go.Proofs.Ytffflafalffifaa
