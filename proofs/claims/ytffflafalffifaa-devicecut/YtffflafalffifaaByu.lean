/-
  The walk of Bytes of a device that is there.
-/
import Derived.Test.YtffflafalffifaaByt
namespace Go.Proofs.Ytffflafalffifaa
open Go.RowKit Go.Shelf
attribute [local go_sem] Oper.semAt_some

theorem rows_flat (S : List (List Int)) (hS : ∀ s ∈ S, Sec s) : flatR (rows S hS S.length) = S.flatten := by
  unfold flatR
  congr 1
  apply List.ext_getElem
  · simp [rows]
  · intro i h1 h2
    simp [rows, h2]

theorem noDeferA {ops : Array Oper} (h : noDefer ops.toList = true) : ∀ o ∈ ops, ∀ c, o.op ≠ .defer c := fun o ho => noDefer_spec h o (by simpa using ho)

theorem own_slice {W : World} {base n : Nat} {v : Value} {xs : List Value} (h : W.ownsRow base 5 1 v n xs) : ∃ ao m c, v = .slice ao m c := by
  rcases h.2 with ⟨rfl, _⟩ | ⟨g, cap, cur, rfl, _⟩ <;> exact ⟨_, _, _, rfl⟩
theorem own_kind {W : World} {base n : Nat} {v : Value} {xs : List Value} (h : W.ownsRow base 5 1 v n xs) : ∀ k, v.ownBlock = some k → base ≤ k ∧ ∃ cur, W.heap[k]? = some (.cells cur 5 (0, 0)) := by
  intro k hk
  rcases h.2 with ⟨rfl, _⟩ | ⟨g, cap, cur, rfl, h1, h2, _⟩
  · simp [Value.ownBlock] at hk
  · have e : g = k := by simpa [Value.ownBlock] using hk
    subst e
    exact ⟨h1, cur, h2⟩

/-- What a round leaves. -/
theorem bytes_round {w W w1 : World} {B : Nat} {pre : List Row} {x : Row} {v : Value} {ao : Option Addr} {m c : Nat} (hv1 : W.heap[w.heap.size]? = some (.cells #[v] 42 (0, 0))) (hv2 : W.ownsRow w.heap.size 5 1 v (flatR pre).length (u8s (flatR pre))) (hv4 : Kept [] w W)
    (g1 : w1.ownsRow w.heap.size 5 1 (.slice ao m c) ((flatR pre).length + 64) (u8s (flatR pre) ++ u8s x.s)) (g2 : W.grownBy w1 v.ownBlock) (hb1 : w1.heap[w.heap.size]? = some (.cells #[v] 42 (0, 0))) :
    KeepsFrom B W (w1.setCell ⟨w.heap.size, 0, none⟩ (.slice ao m c)) ∧ KeptC [] W (w1.setCell ⟨w.heap.size, 0, none⟩ (.slice ao m c)) ∧ BI w (pre ++ [x]) (w1.setCell ⟨w.heap.size, 0, none⟩ (.slice ao m c)) := by
  have hk1 := own_kind hv2
  have hk2 := own_kind g1
  have hsz : (w1.setCell ⟨w.heap.size, 0, none⟩ (.slice ao m c)).heap.size = w1.heap.size := by simp [World.setCell]
  refine ⟨KeepsOthers.from ⟨by rw [hsz]; exact g2.size, fun k o hk hc => ?_⟩ B, ⟨by rw [hsz]; exact g2.size, fun k cs p hk _ => ?_⟩, ?_⟩
  · have hne : k ≠ w.heap.size := by
      intro e; subst e; rw [hv1] at hk; cases hk; simp [Obj.isCells] at hc
    rw [Below.heap_setCell _ _ _ _ (by simpa using hne), g2.block k (lt_of_block hk) ?_]
    · exact hk
    · intro e
      obtain ⟨_, cur, hcur⟩ := hk1 k e.symm
      rw [hk] at hcur; cases hcur; simp [Obj.isCells] at hc
  · have hne : k ≠ w.heap.size := by
      intro e; subst e; rw [hv1] at hk; cases hk
    rw [Below.heap_setCell _ _ _ _ (by simpa using hne), g2.block k (lt_of_block hk) ?_]
    · exact hk
    · intro e
      obtain ⟨_, cur, hcur⟩ := hk1 k e.symm
      rw [hk] at hcur; cases hcur
  · have hne2 : (Value.slice ao m c).ownBlock ≠ some w.heap.size := by
      intro e
      obtain ⟨_, cur, hcur⟩ := hk2 _ e
      rw [hb1] at hcur; cases hcur
    refine ⟨.slice ao m c, ?_, ?_, hne2, ?_⟩
    · rw [heap_set hb1]; rfl
    · rw [flatR_snoc, u8s_app, List.length_append, x.h.1]
      exact g1.kept (w' := w1.setCell ⟨w.heap.size, 0, none⟩ (.slice ao m c)) (row := some w.heap.size) ⟨rfl, rfl, rfl, by rw [hsz]; exact Nat.le_refl _, fun k _ hk => Below.heap_setCell _ _ _ _ (fun e => hk (by rw [e]))⟩ (.inr (fun e => hne2 e))
    · have h5 : Kept [] w w1 := kept_kept (B := w.heap.size) hv4 g2 (Nat.le_refl _) (fun r e => (hk1 r e).1)
      exact h5.setCell (by simp) _

/-- The frame of Bytes where a round begins. -/
def byA (b B : Nat) (x : Row) (q : Nat) : Act := { tmps := #[P0 b, undef, .slice none 0 0, P0 B, undef, P0 q, P0 b, .func (.func 58) #[] #[P0 (B + 1)], .int .i64 x.i, secV x.s, undef, undef, undef, undef], defers := [] }

set_option maxRecDepth 100000 in
set_option maxHeartbeats 2000000 in
theorem bytes_in (b g : Nat) (D : Dev) (w : World) (h : Dv w b g D) : CallsIn Fence.wide 3 Try.prog 34 #[P0 b] w fun e w' => ∃ v, e = .returned v ∧ w'.ownsRow w.heap.size 5 1 v D.S.flatten.length (u8s D.S.flatten) ∧ Kept [] w w' := by
  have hFw := wideF
  have hs1 := h.ok.s1
  have hk : Kept [] w ((w.alloc (.cells #[.slice none 0 0] 42)).alloc (.cells #[P0 b] 24)) := ((Kept.refl _ _).alloc _).alloc _
  have hq : ((w.alloc (.cells #[.slice none 0 0] 42)).alloc (.cells #[P0 b] 24)).cell? ⟨w.heap.size + 1, 0, none⟩ = some (P0 b) := box_at (heap_new (by simp))
  have hD := h.kept hk (by simp) (by simp)
  have hI0 : BI w [] ((w.alloc (.cells #[.slice none 0 0] 42)).alloc (.cells #[P0 b] 24)) := ⟨.slice none 0 0, heap_alloc_old (heap_new rfl), ⟨rfl, .inl ⟨rfl, rfl⟩⟩, by simp [Value.ownBlock], hk⟩
  obtain ⟨i0, hi9, hz0, hz1, hz2⟩ := info_parts Try.info5
  refine callsIn_of_wp_marks Try.func34 rfl trivial ?_ rfl
  simp only [Try.ntmps34, List.size_toArray, List.length_cons, List.length_nil, Nat.reduceAdd, Nat.reduceSub, Array.replicate_succ, Array.replicate_zero, List.push_toArray, List.append_toArray, List.nil_append, List.cons_append]
  gi_wp2_with (gi_at_call 40; refine (callsIn_wide.2 (all40 _ _)).mono ?_; rintro e w1 ⟨rfl, rfl⟩)
  refine wpIn_rangeFunc_ownH rfl (by omega) (gf := 58) (lb := #[P0 (w.heap.size + 1)]) rfl trivial cf58 (all_stops 2 (by omega) (w.heap.size + 1) b g D _ hD hq) KeptC.trans (keptC_b _) (Below.refl _ _) (fun _ => rfl)
    (BI w) (fun _ _ _ => False) (BI.own (by simp; omega)) (fun c s A B row hs _ _ => hs) hI0
    (fun x a' W => BA (byA b w.heap.size x) x a' W) (fun x a' s A B row hs hg hr => by obtain ⟨q, h1, h2⟩ := hs; exact ⟨q, cells_kept h1 hg (fun r e => (hr r e).2), h2⟩) ?assign ?body ?done ?stop
  case assign =>
    intro l pre x W K hI hK
    have hkk : Kept [] W ((W.alloc (.cells (u8s nought).toArray 38)).setCells W.heap.size 0 (u8s x.s)) := ((Kept.refl _ _).alloc _).setCells _ _ (by omega)
    simp only [Row.vals, List.zip_toArray, List.zip_cons_cons, List.zip_nil_right, List.foldl_toArray, List.foldl_cons, List.foldl_nil, List.setIfInBounds_toArray, List.set_cons_succ, List.set_cons_zero]
    gi_wp2_with (first | (refine inAllocS (fun _ => trivial) (by rfl) (by rfl) (by rfl) ?_) | (refine inStoreS (fun _ => trivial) (by rfl) (.tmp 5) (.tmp 9) (by rfl) (by rfl) W.heap.size 0 x.s (by rfl) (by rfl) x.h ?_ ?_; · exact (Box.new W).at.2.2))
    exact hK _ _ (keepsFrom_of_kept hkk) (KeptC.of_kept hkk) (hI.quiet hkk) ⟨W.heap.size, ((Box.new W).put x.h).2, rfl⟩
  case body =>
    rintro l pre x a' W hl _ ⟨v, hv1, hv2, hv3, hv4⟩ ⟨q, hq1, rfl⟩ hlt
    gi_wp2
    refine wpIn_region_any (by kernel_rfl) (anyIn_of_any (by rintro ⟨a, w, h⟩; exact h) (noDeferA (by kernel_rfl)) _ _ _ _ ?_)
    have hcv : W.cell? ⟨w.heap.size, 0, none⟩ = some v := box_at hv1
    have hsrc : ∀ j u, (u8s x.s)[j]? = some u → W.cell? ((⟨q, 0, none⟩ : Addr).add j) = some u := fun j u hj => by rw [Addr.add_mid, Nat.zero_add, cell_of_block hq1, List.getElem?_toArray]; exact hj
    refine wpAny_all (rs := [0, 1]) (by kernel_rfl) (by simp) ?_
    intro i hi
    rcases (show i = 0 ∨ i = 1 by simpa using hi) with rfl | rfl
    · refine wpOp_of rfl rfl (wp_load42 (.tmp 3) rfl w.heap.size v rfl hcv ?_)
      refine wpAny_all (rs := [1]) (by kernel_rfl) (by simp) ?_
      intro i hi
      obtain rfl : i = 1 := by simpa using hi
      refine wpOp_of rfl rfl (wp_slice38 (.tmp 5) rfl q rfl ?_)
      refine wpAny_all (rs := [2]) (by kernel_rfl) (by simp) ?_
      intro i hi
      obtain rfl : i = 2 := by simpa using hi
      refine wpOp_of rfl rfl (wp_append_own (P := Try.prog) _ (.tmp 10) (.tmp 11) 42 rfl w.heap.size 5 i0 (.int .u8 0) 1 1 Try.underlying42 hi9 hz0 hz1 hz2 rfl (by decide) v _ _ rfl hv2 ⟨q, 0, none⟩ 64 64 (u8s x.s) rfl (by rw [u8s_len, x.h.1]) hsrc (u8s_one _) (by rw [flatR_len]; unfold maxLen; omega) (by rw [flatR_len]; omega) hv4.size ?_)
      intro v' w1 g1 g2 _
      obtain ⟨ao', m', c', rfl⟩ := own_slice g1
      have hb1 : w1.heap[w.heap.size]? = some (.cells #[v] 42 (0, 0)) := by rw [g2.block _ (lt_of_block hv1) (fun e => hv3 e.symm)]; exact hv1
      refine wpAny_all (rs := [3]) (by kernel_rfl) (by simp) ?_
      intro i hi
      obtain rfl : i = 3 := by simpa using hi
      refine wpOp_of rfl rfl (wp_store42 (.tmp 3) (.tmp 12) rfl w.heap.size v ao' m' c' rfl rfl (box_at hb1) (frozen_of_block hb1 0) ?_)
      refine wpAny_done (by kernel_rfl) ?_ _
      exact bytes_round hv1 hv2 hv4 g1 ⟨g2.os, g2.tape, g2.output, g2.size, g2.block⟩ hb1
    · refine wpOp_of rfl rfl (wp_slice38 (.tmp 5) rfl q rfl ?_)
      refine wpAny_all (rs := [0]) (by kernel_rfl) (by simp) ?_
      intro i hi
      obtain rfl : i = 0 := by simpa using hi
      refine wpOp_of rfl rfl (wp_load42 (.tmp 3) rfl w.heap.size v rfl hcv ?_)
      refine wpAny_all (rs := [2]) (by kernel_rfl) (by simp) ?_
      intro i hi
      obtain rfl : i = 2 := by simpa using hi
      refine wpOp_of rfl rfl (wp_append_own (P := Try.prog) _ (.tmp 10) (.tmp 11) 42 rfl w.heap.size 5 i0 (.int .u8 0) 1 1 Try.underlying42 hi9 hz0 hz1 hz2 rfl (by decide) v _ _ rfl hv2 ⟨q, 0, none⟩ 64 64 (u8s x.s) rfl (by rw [u8s_len, x.h.1]) hsrc (u8s_one _) (by rw [flatR_len]; unfold maxLen; omega) (by rw [flatR_len]; omega) hv4.size ?_)
      intro v' w1 g1 g2 _
      obtain ⟨ao', m', c', rfl⟩ := own_slice g1
      have hb1 : w1.heap[w.heap.size]? = some (.cells #[v] 42 (0, 0)) := by rw [g2.block _ (lt_of_block hv1) (fun e => hv3 e.symm)]; exact hv1
      refine wpAny_all (rs := [3]) (by kernel_rfl) (by simp) ?_
      intro i hi
      obtain rfl : i = 3 := by simpa using hi
      refine wpOp_of rfl rfl (wp_store42 (.tmp 3) (.tmp 12) rfl w.heap.size v ao' m' c' rfl rfl (box_at hb1) (frozen_of_block hb1 0) ?_)
      refine wpAny_done (by kernel_rfl) ?_ _
      exact bytes_round hv1 hv2 hv4 g1 ⟨g2.os, g2.tape, g2.output, g2.size, g2.block⟩ hb1
  case done =>
    rintro Dd ys W hDd rfl ⟨v, hv1, hv2, hv3, hv4⟩ hK
    rw [rows_flat] at hv2
    have hc1 : W.cell? ⟨w.heap.size, 0, none⟩ = some v := box_at hv1
    gi_wp2
    refine ⟨by simp, .inl ⟨_, _, rfl, run_takeDeferred hK, ?_⟩⟩
    refine ⟨_, results_tmp rfl _ _ _, v, rfl, ?_, ?_⟩
    · exact owns_turn hv2 (grownBy_putObj' _ Dd (.deferred none)) (fun r e => by cases e; exact ⟨_, hK, rfl⟩)
    · exact kept_kept (B := w.heap.size) hv4 (grownBy_putObj' _ Dd (.deferred none)) (Nat.le_refl _) (fun r e => by cases e; simp at hDd; omega)
  case stop =>
    rintro D c pre W _ _ h _
    exact h.elim

theorem bytes34 (b g : Nat) (D : Dev) (w : World) (h : Dv w b g D) : Calls Try.prog 34 #[P0 b] w fun e w' => ∃ v, e = .returned v ∧ w'.ownsRow w.heap.size 5 1 v D.S.flatten.length (u8s D.S.flatten) ∧ Kept [] w w' :=
  callsIn_wide.1 (bytes_in b g D w h)

end Go.Proofs.Ytffflafalffifaa
