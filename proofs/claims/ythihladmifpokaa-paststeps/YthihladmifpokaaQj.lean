/-
  slices.SortFunc, as those calls it.
-/
import Derived.Test.YthihladmifpokaaQi
import Derived.Test.YthihladmifpokaaLay
namespace Go.Proofs.Ythihladmifpokaa
set_option maxRecDepth 100000
set_option linter.unusedSimpArgs false
open Go.RowKit



open Go.Sort in
theorem ltOf_ord : ltOf ordI = lessB := by
  funext x y
  exact ord_lt x y
open Go.Sort in
theorem swo_ord : SWO (ltOf ordI) := by
  rw [ltOf_ord]
  exact ⟨less_irr, fun _ _ _ => less_trans, fun _ _ _ => less_ntrans⟩
theorem isAgg54 (w : World) : (isAgg 54).run Try.prog w = .ok true w := by kernel_rfl
theorem sizeOf54 (w : World) : (Go.sizeOf 54).run Try.prog w = .ok 3 w := by kernel_rfl
theorem eg49 (vs : Array Value) (w : World) : (callFunc 49 vs).run Try.prog w = .ok (.enter 49 vs) w := by kernel_rfl
open Go.Sort in
theorem cmpLays49 (blk off size : Nat) (w : World) : CmpLays Try.prog 49 #[] Mk.C 3 ordI blk off size w :=
  fun _ _ _ _ x y => ord49g x y _
/-- A row of marks, as the sort wants it. -/
theorem flat_at (D : List Mk) (j : Nat) (hj : j < D.length * 3) : ∃ v, (mkC D)[j]? = some v ∧ (Go.Sort.flatK Mk.C 3 D.toArray)[j]! = v := by
  have hi : j / 3 < D.length := by omega
  have hm := mkC_at (l := D) (List.getElem?_eq_getElem hi) (j % 3) (by omega)
  rw [show j / 3 * 3 + j % 3 = j by omega] at hm
  have hc : j % 3 < (D[j / 3]).C.length := by rw [Mk.len]; omega
  rw [List.getElem?_eq_getElem hc] at hm
  refine ⟨_, hm, ?_⟩
  rw [Go.Sort.get_flatK _ _ _ _ (by simpa using hj)]
  rw [getElem!_pos D.toArray (j / 3) (by simpa using hi)]
  rw [List.getElem_toArray]
  exact getElem!_pos (D[j / 3]).C (j % 3) hc
variable {w W : World} {v : Value} {D L : List Mk}
theorem holds_of {g off : Nat} {cur : Array Value} (hb : w.heap[g]? = some (.cells cur 54 (0, 0))) (h3 : ∀ j u, (mkC D)[j]? = some u → cur[off + j]? = some u) : Go.Sort.HoldsK Mk.C 3 w g off D.toArray := by
  intro j hj
  rw [Go.Sort.size_flatK] at hj
  obtain ⟨u, h1, h2⟩ := flat_at D j (by simpa using hj)
  refine ⟨?_, frozen_of_block hb _⟩
  rw [cell_of_block hb, h3 j u h1, h2]
  rfl
theorem row_after {g off cap n : Nat} {os : Array Obj} {cur : Array Value} (hb : w.heap[g]? = some (.cells cur 54 (0, 0))) (hc : D.length ≤ cap) (hm : cap ≤ maxLen) (hs : off + cap * 3 ≤ cur.size) : Ms (sortWorldK Mk.C 3 w g off n D.toArray os) (.slice (some ⟨g, off, none⟩) D.length cap) D := by
  have hg : g < w.heap.size := lt_of_block hb
  refine ⟨mkC_len D, .inr ⟨g, off, cap, Go.Sort.putCells id off (Go.Sort.flatK Mk.C 3 D.toArray) cur, rfl, ?_, hc, hm, ?_, fun j u hj => ?_⟩⟩
  · unfold sortWorldK
    rw [Go.Sort.heap_grow_old _ _ (by simpa [Go.Sort.putRowK, Go.Sort.putRow, Go.Sort.mapBlock, Go.Sort.ahead] using hg)]
    show (w.heap.modify g (Go.Sort.onCells _))[g]? = _
    rw [Array.getElem?_modify, if_pos rfl, hb]
    rfl
  · simpa [Go.Sort.putCells] using hs
  · have hj2 : j < D.length * 3 := by have := (List.getElem?_eq_some_iff.1 hj).1; rwa [mkC_len] at this
    obtain ⟨u', h1, h2⟩ := flat_at D j hj2
    rw [hj] at h1
    cases h1
    have hcs : off + j < cur.size := by omega
    unfold Go.Sort.putCells
    rw [Array.getElem?_mapIdx, Array.getElem?_eq_getElem hcs]
    have h4 : off ≤ off + j ∧ off + j < off + (Go.Sort.flatK Mk.C 3 D.toArray).size := ⟨by omega, by rw [Go.Sort.size_flatK]; simp; omega⟩
    simp only [Option.map_some, if_pos h4, show off + j - off = j by omega, h2, id]
theorem kept_after {g off n : Nat} {os : Array Obj} {d : Array Mk} {X : List Nat} (hX : g ∈ X) : Kept X w (sortWorldK Mk.C 3 w g off n d os) := by
  refine ⟨rfl, rfl, rfl, ?_, fun i hi hx => ?_⟩
  · simp [sortWorldK, Go.Sort.putRowK, Go.Sort.putRow, Go.Sort.mapBlock, Go.Sort.ahead]
  · have hne : ¬ g = i := fun e => hx (e ▸ hX)
    unfold sortWorldK
    rw [Go.Sort.heap_grow_old _ _ (by simpa [Go.Sort.putRowK, Go.Sort.putRow, Go.Sort.mapBlock, Go.Sort.ahead] using hi)]
    show (w.heap.modify g (Go.Sort.onCells _))[i]? = _
    rw [Array.getElem?_modify, if_neg hne]
open Go.Sort in
/-- The row of marks, sorted. -/
theorem sort48 (h : Ms w v D) (hp : D.Perm L) (hs : Srt L) (hl : D.length ≤ 256) {X : List Nat} (hX : ∀ k, v.ownBlock = some k → k ∈ X) : Calls Try.prog 48 #[v, fnV 49 #[]] w fun e W => e = .returned (.tuple #[]) ∧ Ms W v L ∧ Kept X w W := by
  have hnone : D = [] → ∀ p cap, v = .slice p 0 cap → Calls Try.prog 48 #[v, fnV 49 #[]] w fun e W => e = .returned (.tuple #[]) ∧ Ms W v L ∧ Kept X w W := by
    intro e p cap hv
    have hL : L = [] := by subst e; exact List.Perm.eq_nil hp.symm
    subst e
    subst hL
    subst hv
    have hc := AnyF.slices_SortFunc_none Try.sortMk p cap (fnV 49 #[]) w
    refine hc.mono ?_
    rintro e W ⟨he, rfl⟩
    exact ⟨he, h, Kept.refl _ _⟩
  rcases h.lie with ⟨h1, h2⟩ | ⟨g, off, cap, cur, h1, h2, h3, h4, h5, h6⟩
  · exact hnone (List.length_eq_zero_iff.1 h2) none 0 (by rw [h1])
  · subst h1
    by_cases hD : D = []
    · exact hnone hD _ cap (by rw [hD]; rfl)
    have hH := holds_of (D := D) h2 h6
    have hcon := AnyQ.slices_SortFunc Try.sortMk 3 isAgg54 sizeOf54 Mk.C (fun _ => rfl) (fun x => x.one) ordI swo_ord 49 #[] g off cap D.toArray w eg49 (cmpLays49 g off _ w) hH (lt_of_block h2) (by simp; omega)
    change Calls Try.prog 48 #[.slice (some ⟨g, off, none⟩) D.length cap, fnV 49 #[]] w _ at hcon
    refine hcon.mono ?_
    rintro e W ⟨he, d', n, os, ⟨p1, p2, p3⟩, hso, rfl⟩
    have e1 : d'.extract 0 D.toArray.size = d' := by rw [← p1]; exact Array.extract_size
    rw [e1, Array.extract_size] at p3
    have hd : d'.toList = L := by
      refine hs.one (p3.trans hp) ?_
      rw [List.pairwise_iff_getElem]
      intro i j hi hj hij
      have hi' : i < d'.size := by simpa using hi
      have hj' : j < d'.size := by simpa using hj
      have := hso i j (Nat.zero_le _) hij (by rw [← p1]; omega)
      rw [ltOf_ord, getElem!_pos d' j hj', getElem!_pos d' i hi'] at this
      simpa using this
    have hd2 : d' = L.toArray := by rw [← hd]
    have hlen : D.length = L.length := hp.length_eq
    subst hd2
    refine ⟨he, ?_, kept_after (hX g rfl)⟩
    rw [hlen]
    exact row_after h2 (by omega) h4 h5

end Go.Proofs.Ythihladmifpokaa
