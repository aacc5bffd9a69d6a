/-
  Two pairs beside each other.
-/
import Derived.Test.YthihladmifpokaaTh
namespace Go.Proofs.Ythihladmifpokaa
set_option maxRecDepth 100000
set_option linter.unusedSimpArgs false
open Go.RowKit


variable {w W W' : World} {b b' mb mb' r : Nat} {v v' : Value} {M L M' L' : List Mk}
theorem srt_sub : ∀ (L2 L1 : List Mk), Srt L2 → Srt L1 → (∀ x ∈ L1, x ∈ L2) → L1.Sublist L2
  | [], [], _, _, _ => List.Sublist.refl _
  | [], x :: L1, _, _, h => by have := h x (by simp); cases this
  | y :: L2, [], _, _, _ => List.nil_sublist _
  | y :: L2, x :: L1, h2, h1, h => by
    obtain ⟨a1, a2⟩ := List.pairwise_cons.1 h2
    obtain ⟨b1, b2⟩ := List.pairwise_cons.1 h1
    by_cases e : x = y
    · subst e
      refine List.Sublist.cons_cons x (srt_sub L2 L1 a2 b2 fun z hz => ?_)
      rcases List.mem_cons.1 (h z (List.mem_cons_of_mem _ hz)) with e | e
      · have := b1 z hz; rw [e, less_irr] at this; cases this
      · exact e
    · have hx : x ∈ L2 := by
        rcases List.mem_cons.1 (h x (by simp)) with e2 | e2
        · exact absurd e2 e
        · exact e2
      refine List.Sublist.cons y (srt_sub L2 (x :: L1) a2 h1 fun z hz => ?_)
      rcases List.mem_cons.1 (h z hz) with e2 | e2
      · subst e2
        rcases List.mem_cons.1 hz with e3 | e3
        · exact absurd e3.symm e
        · have h5 := b1 z e3
          have h6 := a1 x hx
          have := less_trans h5 h6
          rw [less_irr] at this
          cases this
      · exact e2
theorem inL_iff {l : Mk} (hs : Srt L) (hp : L.Perm M) : inL M l = true ↔ l ∈ M := by
  unfold inL
  constructor
  · intro h
    cases hq : placeOf l.p l.s M 0 with
    | none => rw [hq] at h; cases h
    | some q =>
      rw [hq] at h
      obtain ⟨q, z⟩ := q
      obtain ⟨_, h1, h2, h3⟩ := placeOf_some hq
      rw [Nat.sub_zero] at h1
      have hf : l.f = z.f := by simpa using h
      have : z = l := by cases z; cases l; simp at h2 h3 hf; simp [h2, h3, hf]
      subst this
      exact List.mem_of_getElem? h1
  · intro h
    cases hq : placeOf l.p l.s M 0 with
    | none => exact absurd ⟨rfl, rfl⟩ (placeOf_none hq l h)
    | some q =>
      obtain ⟨q, z⟩ := q
      obtain ⟨_, h1, h2, h3⟩ := placeOf_some hq
      rw [Nat.sub_zero] at h1
      have : z = l := hs.uniq (hp.mem_iff.2 (List.mem_of_getElem? h1)) (hp.mem_iff.2 h) h2 h3
      subst this
      simp
theorem same_eq (hp : L.Perm M) (hs : Srt L) (hp' : L'.Perm M') (hs' : Srt L') : sameL M M' = decide (L = L') := by
  rw [Bool.eq_iff_iff, decide_eq_true_iff]
  unfold sameL
  rw [Bool.and_eq_true, decide_eq_true_iff, List.all_eq_true]
  constructor
  · rintro ⟨h1, h2⟩
    refine List.Sublist.eq_of_length (srt_sub L' L hs' hs fun x hx => ?_) (by rw [hp.length_eq, hp'.length_eq, h1])
    exact hp'.mem_iff.2 ((inL_iff hs' hp').1 (h2 x (hp.mem_iff.1 hx)))
  · rintro rfl
    refine ⟨by rw [← hp.length_eq, hp'.length_eq], fun x hx => (inL_iff hs' hp').2 (hp'.mem_iff.1 (hp.mem_iff.2 hx))⟩
/-- A pair that was made since w. -/
structure Sd (w W : World) (b mb r : Nat) (v : Value) (M L : List Mk) : Prop where
  tw : Tw W b mb r v M L
  ge : w.heap.size ≤ mb ∧ w.heap.size ≤ r ∧ ∀ i, v.ownBlock = some i → w.heap.size ≤ i
/-- Two pairs lie apart. -/
structure Ap (mb r : Nat) (v : Value) (mb' r' : Nat) (v' : Value) : Prop where
  m : mb ≠ mb'
  r : r ≠ r'
  v : ∀ i, v.ownBlock = some i → v'.ownBlock ≠ some i
theorem Ap.symm {mb r mb' r' : Nat} {v v' : Value} (h : Ap mb r v mb' r' v') : Ap mb' r' v' mb r v := ⟨Ne.symm h.m, Ne.symm h.r, fun i hi e => h.v i e hi⟩
theorem blk_type {b T T' : Nat} {us us' : List Value} (h1 : Blk W b T us) (h2 : Blk W b T' us') : T = T' := by
  unfold Blk at h1 h2
  rw [h1] at h2
  injection h2 with h2
  injection h2
variable {b2 mb2 r2 : Nat} {v2 : Value} {M2 L2 : List Mk}
/-- What a step of one pair turns is nothing of the other's. -/
theorem Tw.far (h1 : Tw W b mb r v M L) (h2 : Tw W b2 mb2 r2 v2 M2 L2) (ha : Ap mb r v mb2 r2 v2) : b2 ∉ mb :: r :: v.ownBlock.toList ∧ mb2 ∉ mb :: r :: v.ownBlock.toList ∧ r2 ∉ mb :: r :: v.ownBlock.toList ∧ ∀ k, v2.ownBlock = some k → k ∉ mb :: r :: v.ownBlock.toList := by
  have n1 : ∀ k, v.ownBlock = some k → ∃ cs, W.heap[k]? = some (.cells cs 54 (0, 0)) := h1.rp.row.block
  have n2 : ∀ k, v2.ownBlock = some k → ∃ cs, W.heap[k]? = some (.cells cs 54 (0, 0)) := h2.rp.row.block
  have row : ∀ {k : Nat} {T : Nat} {us : List Value}, Blk W k T us → T ≠ 54 → v.ownBlock ≠ some k := fun {k T us} hB hT e => by
    obtain ⟨cs, hc⟩ := n1 k e
    unfold Blk at hB
    rw [hB] at hc
    injection hc with hc
    injection hc with _ hc
    exact hT hc
  have row2 : ∀ {k : Nat} {T : Nat} {us : List Value}, Blk W k T us → T ≠ 54 → v2.ownBlock ≠ some k := fun {k T us} hB hT e => by
    obtain ⟨cs, hc⟩ := n2 k e
    unfold Blk at hB
    rw [hB] at hc
    injection hc with hc
    injection hc with _ hc
    exact hT hc
  refine ⟨fun e => ?_, fun e => ?_, fun e => ?_, fun k hk e => ?_⟩
  · rcases List.mem_cons.1 e with e | e
    · exact map_not_cells h1.pg.map h2.pg.blk e
    · rcases List.mem_cons.1 e with e | e
      · have := h2.pg.blk; rw [e] at this; exact absurd (blk_type this h1.rp.blk) (by decide)
      · exact row h2.pg.blk (by decide) (by simpa using e)
  · rcases List.mem_cons.1 e with e | e
    · exact ha.m e.symm
    · rcases List.mem_cons.1 e with e | e
      · exact map_not_cells h2.pg.map h1.rp.blk e.symm
      · obtain ⟨cs, hc⟩ := n1 mb2 (by simpa using e)
        exact map_not_cells h2.pg.map hc rfl
  · rcases List.mem_cons.1 e with e | e
    · exact map_not_cells h1.pg.map h2.rp.blk e
    · rcases List.mem_cons.1 e with e | e
      · exact ha.r e.symm
      · exact row h2.rp.blk (by decide) (by simpa using e)
  · rcases List.mem_cons.1 e with e | e
    · obtain ⟨cs, hc⟩ := n2 k hk
      exact map_not_cells h1.pg.map hc e
    · rcases List.mem_cons.1 e with e | e
      · subst e; exact row2 h1.rp.blk (by decide) hk
      · exact ha.v k (by simpa using e) hk
/-- Two pairs, made since w. -/
structure Q2 (w W : World) (b mb r : Nat) (v : Value) (M L : List Mk) (b2 mb2 r2 : Nat) (v2 : Value) (M2 L2 : List Mk) : Prop where
  s1 : Sd w W b mb r v M L
  s2 : Sd w W b2 mb2 r2 v2 M2 L2
  ap : Ap mb r v mb2 r2 v2
  k : Kept [] w W
theorem Q2.swap (h : Q2 w W b mb r v M L b2 mb2 r2 v2 M2 L2) : Q2 w W b2 mb2 r2 v2 M2 L2 b mb r v M L := ⟨h.s2, h.s1, h.ap.symm, h.k⟩
theorem Q2.step0 (h : Q2 w W b mb r v M L b2 mb2 r2 v2 M2 L2) (hk : Kept [] W W') : Q2 w W' b mb r v M L b2 mb2 r2 v2 M2 L2 := ⟨⟨h.s1.tw.step0 hk, h.s1.ge⟩, ⟨h.s2.tw.step0 hk, h.s2.ge⟩, h.ap, h.k.trans hk⟩
theorem Q2.do1 (h : Q2 w W b mb r v M L b2 mb2 r2 v2 M2 L2) (hd : Dn W W' b mb r v b' mb' v' M' L') : Q2 w W' b' mb' r v' M' L' b2 mb2 r2 v2 M2 L2 := by
  have hf := Tw.far h.s1.tw h.s2.tw h.ap
  have hs := h.k.size
  have hl := h.s2.tw.pg.lt
  have hge := h.s1.ge
  refine ⟨⟨hd.tw, ?_, hge.2.1, fun i hi => ?_⟩, ⟨h.s2.tw.step hd.k hf.1 hf.2.1 hf.2.2.1 hf.2.2.2, h.s2.ge⟩, ⟨?_, h.ap.r, fun i hi e => ?_⟩, h.k.fresh hd.k (fun i hi hlt => ?_)⟩
  · rcases hd.nm with e | e
    · rw [e]; exact hge.1
    · omega
  · rcases hd.nv i hi with e | e
    · exact hge.2.2 i e
    · omega
  · rcases hd.nm with e | e
    · rw [e]; exact h.ap.m
    · omega
  · rcases hd.nv i hi with e2 | e2
    · exact h.ap.v i e2 e
    · have := h.s2.tw.rp.row.lt e
      omega
  · rcases List.mem_cons.1 hi with e | e
    · omega
    · rcases List.mem_cons.1 e with e | e
      · omega
      · have := hge.2.2 i (by simpa using e)
        omega

end Go.Proofs.Ythihladmifpokaa
