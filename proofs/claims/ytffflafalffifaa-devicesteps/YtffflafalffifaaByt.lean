/-
  The walk of Bytes. The walk of Bytes of a device that is there. The walk of the document's Bytes.
-/
import Derived.Test.YtffflafalffifaaCopy
import Derived.Laws.AppendOwn

namespace Go.Proofs.Ytffflafalffifaa
open Go.RowKit Go.Shelf
attribute [local go_sem] Oper.semAt_some

section
variable {ops : Array Oper} {o : Oper} {a : Act} {w : World} {K : Act → World → Prop} {Q : Exit → Act → World → Prop}
theorem wpOp_of {P : Program} {i : Nat} (ho : ops[i]? = some o) (hg : o.guard = none) (h : o.wp P a w K Q) : wpOp P ops Q i K a w := by
  unfold wpOp
  rw [ho]
  have hw : Region.wanted o (yielded ops a.tmps) = true := by simp [Region.wanted, hg]
  simp only [hw, if_true]
  exact .inl h
theorem wp_load42 (x : Operand) (ho : o.op = .load 42 x) (b : Nat) (v : Value) (hx : a.eval x = P0 b) (hc : w.cell? ⟨b, 0, none⟩ = some v) (h : K (a.put o.dst v) w) : o.wp Try.prog a w K Q := by
  unfold Oper.wp execOp
  simp only [ho, hx]
  simp [go_sem, hc]
  exact h
theorem wp_slice38 (x : Operand) (ho : o.op = .slice 38 x none none none) (b : Nat) (hx : a.eval x = P0 b) (h : K (a.put o.dst (.slice (some ⟨b, 0, none⟩) 64 64)) w) : o.wp Try.prog a w K Q := by
  unfold Oper.wp execOp
  simp only [ho, hx]
  simp [go_sem]
  exact h
theorem wp_store42 (x y : Operand) (ho : o.op = .store 42 x y) (b : Nat) (v : Value) (ao : Option Addr) (m c : Nat) (hx : a.eval x = P0 b) (hy : a.eval y = .slice ao m c) (hc : w.cell? ⟨b, 0, none⟩ = some v) (hf : w.frozen? ⟨b, 0, none⟩ = false) (h : K (a.put o.dst undef) (w.setCell ⟨b, 0, none⟩ (.slice ao m c))) : o.wp Try.prog a w K Q := by
  unfold Oper.wp execOp
  simp only [ho, hx, hy]
  simp [go_sem, hc, hf]
  exact h
end

/-- The bytes that came. -/
def flatR (pre : List Row) : List Int := (pre.map Row.s).flatten
theorem flatR_snoc (pre : List Row) (x : Row) : flatR (pre ++ [x]) = flatR pre ++ x.s := by simp [flatR]
theorem flatR_len (pre : List Row) : (flatR pre).length = pre.length * 64 := by
  unfold flatR
  have := flat_len (S := pre.map Row.s) (by intro s hs; obtain ⟨x, _, rfl⟩ := List.mem_map.1 hs; exact x.h)
  rw [this, List.length_map]

/-- What Bytes holds between two rounds. -/
def BI (w : World) (pre : List Row) (W : World) : Prop := ∃ v, W.heap[w.heap.size]? = some (.cells #[v] 42 (0, 0)) ∧ W.ownsRow w.heap.size 5 1 v (flatR pre).length (u8s (flatR pre)) ∧ v.ownBlock ≠ some w.heap.size ∧ Kept [] w W
/-- Where the loop's variable lies. -/
def BA (a0 : Nat → Act) (x : Row) (a' : Act) (W : World) : Prop := ∃ q, W.heap[q]? = some (.cells (u8s x.s).toArray 38 (0, 0)) ∧ a' = a0 q

theorem owns_turn {W W' : World} {row : Option Nat} {base n : Nat} {v : Value} {xs : List Value} (h : W.ownsRow base 5 1 v n xs) (hg : W.grownBy W' row) (hr : ∀ r, row = some r → ∃ o : Obj, W.heap[r]? = some o ∧ o.isCells = false) : W'.ownsRow base 5 1 v n xs := by
  refine ⟨h.1, ?_⟩
  rcases h.2 with h1 | ⟨g, cap, cur, e, h2, h3, h4⟩
  · exact .inl h1
  · exact .inr ⟨g, cap, cur, e, h2, cells_kept h3 hg hr, h4⟩
theorem BI.own {w : World} {B : Nat} (hB : w.heap.size ≤ B) : OwnFrom B (BI w) := by
  intro pre W W' row hs hg hr
  obtain ⟨v, h1, h2, h3, h4⟩ := hs
  exact ⟨v, cells_kept h1 hg (fun r e => (hr r e).2), owns_turn h2 hg (fun r e => (hr r e).2), h3, kept_kept (B := B) h4 hg hB (fun r e => (hr r e).1)⟩
theorem BI.quiet {w W W' : World} {pre : List Row} (h : BI w pre W) (hk : Kept [] W W') : BI w pre W' := by
  obtain ⟨v, h1, h2, h3, h4⟩ := h
  exact ⟨v, hk.heap h1 (by simp), h2.kept (grown_of_kept hk) (by cases v.ownBlock <;> simp), h3, h4.trans hk⟩

end Go.Proofs.Ytffflafalffifaa

namespace Go.Proofs.Ytffflafalffifaa
open Go.RowKit Go.Shelf
attribute [local go_sem] Oper.semAt_some

theorem rows_flat (S : List (List Int)) (hS : ∀ s ∈ S, Sec s) : flatR (rows S hS S.length) = S.flatten := by
  unfold flatR
  congr 1
  apply List.ext_getElem
  · simp [rows]
  · intro i h1 h2
    simp [rows, h2]

theorem noDeferA {ops : Array Oper} (h : noDefer ops.toList = true) : ∀ o ∈ ops, ∀ c, o.op ≠ .defer c := fun o ho => noDefer_spec h o (by simpa using ho)

theorem own_slice {W : World} {base n : Nat} {v : Value} {xs : List Value} (h : W.ownsRow base 5 1 v n xs) : ∃ ao m c, v = .slice ao m c := by
  rcases h.2 with ⟨rfl, _⟩ | ⟨g, cap, cur, rfl, _⟩ <;> exact ⟨_, _, _, rfl⟩
theorem own_kind {W : World} {base n : Nat} {v : Value} {xs : List Value} (h : W.ownsRow base 5 1 v n xs) : ∀ k, v.ownBlock = some k → base ≤ k ∧ ∃ cur, W.heap[k]? = some (.cells cur 5 (0, 0)) := by
  intro k hk
  rcases h.2 with ⟨rfl, _⟩ | ⟨g, cap, cur, rfl, h1, h2, _⟩
  · simp [Value.ownBlock] at hk
  · have e : g = k := by simpa [Value.ownBlock] using hk
    subst e
    exact ⟨h1, cur, h2⟩

/-- What a round leaves. -/
theorem bytes_round {w W w1 : World} {B : Nat} {pre : List Row} {x : Row} {v : Value} {ao : Option Addr} {m c : Nat} (hv1 : W.heap[w.heap.size]? = some (.cells #[v] 42 (0, 0))) (hv2 : W.ownsRow w.heap.size 5 1 v (flatR pre).length (u8s (flatR pre))) (hv4 : Kept [] w W)
    (g1 : w1.ownsRow w.heap.size 5 1 (.slice ao m c) ((flatR pre).length + 64) (u8s (flatR pre) ++ u8s x.s)) (g2 : W.grownBy w1 v.ownBlock) (hb1 : w1.heap[w.heap.size]? = some (.cells #[v] 42 (0, 0))) :
    KeepsFrom B W (w1.setCell ⟨w.heap.size, 0, none⟩ (.slice ao m c)) ∧ KeptC [] W (w1.setCell ⟨w.heap.size, 0, none⟩ (.slice ao m c)) ∧ BI w (pre ++ [x]) (w1.setCell ⟨w.heap.size, 0, none⟩ (.slice ao m c)) := by
  have hk1 := own_kind hv2
  have hk2 := own_kind g1
  have hsz : (w1.setCell ⟨w.heap.size, 0, none⟩ (.slice ao m c)).heap.size = w1.heap.size := by simp [World.setCell]
  refine ⟨KeepsOthers.from ⟨by rw [hsz]; exact g2.size, fun k o hk hc => ?_⟩ B, ⟨by rw [hsz]; exact g2.size, fun k cs p hk _ => ?_⟩, ?_⟩
  · have hne : k ≠ w.heap.size := by
      intro e; subst e; rw [hv1] at hk; cases hk; simp [Obj.isCells] at hc
    rw [Below.heap_setCell _ _ _ _ (by simpa using hne), g2.block k (lt_of_block hk) ?_]
    · exact hk
    · intro e
      obtain ⟨_, cur, hcur⟩ := hk1 k e.symm
      rw [hk] at hcur; cases hcur; simp [Obj.isCells] at hc
  · have hne : k ≠ w.heap.size := by
      intro e; subst e; rw [hv1] at hk; cases hk
    rw [Below.heap_setCell _ _ _ _ (by simpa using hne), g2.block k (lt_of_block hk) ?_]
    · exact hk
    · intro e
      obtain ⟨_, cur, hcur⟩ := hk1 k e.symm
      rw [hk] at hcur; cases hcur
  · have hne2 : (Value.slice ao m c).ownBlock ≠ some w.heap.size := by
      intro e
      obtain ⟨_, cur, hcur⟩ := hk2 _ e
      rw [hb1] at hcur; cases hcur
    refine ⟨.slice ao m c, ?_, ?_, hne2, ?_⟩
    · rw [heap_set hb1]; rfl
    · rw [flatR_snoc, u8s_app, List.length_append, x.h.1]
      exact g1.kept (w' := w1.setCell ⟨w.heap.size, 0, none⟩ (.slice ao m c)) (row := some w.heap.size) ⟨rfl, rfl, rfl, by rw [hsz]; exact Nat.le_refl _, fun k _ hk => Below.heap_setCell _ _ _ _ (fun e => hk (by rw [e]))⟩ (.inr (fun e => hne2 e))
    · have h5 : Kept [] w w1 := kept_kept (B := w.heap.size) hv4 g2 (Nat.le_refl _) (fun r e => (hk1 r e).1)
      exact h5.setCell (by simp) _

/-- The frame of Bytes where a round begins. -/
def byA (b B : Nat) (x : Row) (q : Nat) : Act := { tmps := #[P0 b, undef, .slice none 0 0, P0 B, undef, P0 q, P0 b, .func (.func 58) #[] #[P0 (B + 1)], .int .i64 x.i, secV x.s, undef, undef, undef, undef], defers := [] }

set_option maxRecDepth 100000 in
set_option maxHeartbeats 2000000 in
theorem bytes_in (b g : Nat) (D : Dev) (w : World) (h : Dv w b g D) : CallsIn Fence.wide 3 Try.prog 34 #[P0 b] w fun e w' => ∃ v, e = .returned v ∧ w'.ownsRow w.heap.size 5 1 v D.S.flatten.length (u8s D.S.flatten) ∧ Kept [] w w' := by
  have hFw := wideF
  have hs1 := h.ok.s1
  have hk : Kept [] w ((w.alloc (.cells #[.slice none 0 0] 42)).alloc (.cells #[P0 b] 24)) := ((Kept.refl _ _).alloc _).alloc _
  have hq : ((w.alloc (.cells #[.slice none 0 0] 42)).alloc (.cells #[P0 b] 24)).cell? ⟨w.heap.size + 1, 0, none⟩ = some (P0 b) := box_at (heap_new (by simp))
  have hD := h.kept hk (by simp) (by simp)
  have hI0 : BI w [] ((w.alloc (.cells #[.slice none 0 0] 42)).alloc (.cells #[P0 b] 24)) := ⟨.slice none 0 0, heap_alloc_old (heap_new rfl), ⟨rfl, .inl ⟨rfl, rfl⟩⟩, by simp [Value.ownBlock], hk⟩
  obtain ⟨i0, hi9, hz0, hz1, hz2⟩ := info_parts Try.info5
  refine callsIn_of_wp_marks Try.func34 rfl trivial ?_ rfl
  simp only [Try.ntmps34, List.size_toArray, List.length_cons, List.length_nil, Nat.reduceAdd, Nat.reduceSub, Array.replicate_succ, Array.replicate_zero, List.push_toArray, List.append_toArray, List.nil_append, List.cons_append]
  gi_wp2_with (gi_at_call 40; refine (callsIn_wide.2 (all40 _ _)).mono ?_; rintro e w1 ⟨rfl, rfl⟩)
  refine wpIn_rangeFunc_ownH rfl (by omega) (gf := 58) (lb := #[P0 (w.heap.size + 1)]) rfl trivial cf58 (all_stops 2 (by omega) (w.heap.size + 1) b g D _ hD hq) KeptC.trans (keptC_b _) (Below.refl _ _) (fun _ => rfl)
    (BI w) (fun _ _ _ => False) (BI.own (by simp; omega)) (fun c s A B row hs _ _ => hs) hI0
    (fun x a' W => BA (byA b w.heap.size x) x a' W) (fun x a' s A B row hs hg hr => by obtain ⟨q, h1, h2⟩ := hs; exact ⟨q, cells_kept h1 hg (fun r e => (hr r e).2), h2⟩) ?assign ?body ?done ?stop
  case assign =>
    intro l pre x W K hI hK
    have hkk : Kept [] W ((W.alloc (.cells (u8s nought).toArray 38)).setCells W.heap.size 0 (u8s x.s)) := ((Kept.refl _ _).alloc _).setCells _ _ (by omega)
    simp only [Row.vals, List.zip_toArray, List.zip_cons_cons, List.zip_nil_right, List.foldl_toArray, List.foldl_cons, List.foldl_nil, List.setIfInBounds_toArray, List.set_cons_succ, List.set_cons_zero]
    gi_wp2_with (first | (refine inAllocS (fun _ => trivial) (by rfl) (by rfl) (by rfl) ?_) | (refine inStoreS (fun _ => trivial) (by rfl) (.tmp 5) (.tmp 9) (by rfl) (by rfl) W.heap.size 0 x.s (by rfl) (by rfl) x.h ?_ ?_; · exact (Box.new W).at.2.2))
    exact hK _ _ (keepsFrom_of_kept hkk) (KeptC.of_kept hkk) (hI.quiet hkk) ⟨W.heap.size, ((Box.new W).put x.h).2, rfl⟩
  case body =>
    rintro l pre x a' W hl _ ⟨v, hv1, hv2, hv3, hv4⟩ ⟨q, hq1, rfl⟩ hlt
    gi_wp2
    refine wpIn_region_any (by kernel_rfl) (anyIn_of_any (by rintro ⟨a, w, h⟩; exact h) (noDeferA (by kernel_rfl)) _ _ _ _ ?_)
    have hcv : W.cell? ⟨w.heap.size, 0, none⟩ = some v := box_at hv1
    have hsrc : ∀ j u, (u8s x.s)[j]? = some u → W.cell? ((⟨q, 0, none⟩ : Addr).add j) = some u := fun j u hj => by rw [Addr.add_mid, Nat.zero_add, cell_of_block hq1, List.getElem?_toArray]; exact hj
    refine wpAny_all (rs := [0, 1]) (by kernel_rfl) (by simp) ?_
    intro i hi
    rcases (show i = 0 ∨ i = 1 by simpa using hi) with rfl | rfl
    · refine wpOp_of rfl rfl (wp_load42 (.tmp 3) rfl w.heap.size v rfl hcv ?_)
      refine wpAny_all (rs := [1]) (by kernel_rfl) (by simp) ?_
      intro i hi
      obtain rfl : i = 1 := by simpa using hi
      refine wpOp_of rfl rfl (wp_slice38 (.tmp 5) rfl q rfl ?_)
      refine wpAny_all (rs := [2]) (by kernel_rfl) (by simp) ?_
      intro i hi
      obtain rfl : i = 2 := by simpa using hi
      refine wpOp_of rfl rfl (wp_append_own (P := Try.prog) _ (.tmp 10) (.tmp 11) 42 rfl w.heap.size 5 i0 (.int .u8 0) 1 1 Try.underlying42 hi9 hz0 hz1 hz2 rfl (by decide) v _ _ rfl hv2 ⟨q, 0, none⟩ 64 64 (u8s x.s) rfl (by rw [u8s_len, x.h.1]) hsrc (u8s_one _) (by rw [flatR_len]; unfold maxLen; omega) (by rw [flatR_len]; omega) hv4.size ?_)
      intro v' w1 g1 g2 _
      obtain ⟨ao', m', c', rfl⟩ := own_slice g1
      have hb1 : w1.heap[w.heap.size]? = some (.cells #[v] 42 (0, 0)) := by rw [g2.block _ (lt_of_block hv1) (fun e => hv3 e.symm)]; exact hv1
      refine wpAny_all (rs := [3]) (by kernel_rfl) (by simp) ?_
      intro i hi
      obtain rfl : i = 3 := by simpa using hi
      refine wpOp_of rfl rfl (wp_store42 (.tmp 3) (.tmp 12) rfl w.heap.size v ao' m' c' rfl rfl (box_at hb1) (frozen_of_block hb1 0) ?_)
      refine wpAny_done (by kernel_rfl) ?_ _
      exact bytes_round hv1 hv2 hv4 g1 ⟨g2.os, g2.tape, g2.output, g2.size, g2.block⟩ hb1
    · refine wpOp_of rfl rfl (wp_slice38 (.tmp 5) rfl q rfl ?_)
      refine wpAny_all (rs := [0]) (by kernel_rfl) (by simp) ?_
      intro i hi
      obtain rfl : i = 0 := by simpa using hi
      refine wpOp_of rfl rfl (wp_load42 (.tmp 3) rfl w.heap.size v rfl hcv ?_)
      refine wpAny_all (rs := [2]) (by kernel_rfl) (by simp) ?_
      intro i hi
      obtain rfl : i = 2 := by simpa using hi
      refine wpOp_of rfl rfl (wp_append_own (P := Try.prog) _ (.tmp 10) (.tmp 11) 42 rfl w.heap.size 5 i0 (.int .u8 0) 1 1 Try.underlying42 hi9 hz0 hz1 hz2 rfl (by decide) v _ _ rfl hv2 ⟨q, 0, none⟩ 64 64 (u8s x.s) rfl (by rw [u8s_len, x.h.1]) hsrc (u8s_one _) (by rw [flatR_len]; unfold maxLen; omega) (by rw [flatR_len]; omega) hv4.size ?_)
      intro v' w1 g1 g2 _
      obtain ⟨ao', m', c', rfl⟩ := own_slice g1
      have hb1 : w1.heap[w.heap.size]? = some (.cells #[v] 42 (0, 0)) := by rw [g2.block _ (lt_of_block hv1) (fun e => hv3 e.symm)]; exact hv1
      refine wpAny_all (rs := [3]) (by kernel_rfl) (by simp) ?_
      intro i hi
      obtain rfl : i = 3 := by simpa using hi
      refine wpOp_of rfl rfl (wp_store42 (.tmp 3) (.tmp 12) rfl w.heap.size v ao' m' c' rfl rfl (box_at hb1) (frozen_of_block hb1 0) ?_)
      refine wpAny_done (by kernel_rfl) ?_ _
      exact bytes_round hv1 hv2 hv4 g1 ⟨g2.os, g2.tape, g2.output, g2.size, g2.block⟩ hb1
  case done =>
    rintro Dd ys W hDd rfl ⟨v, hv1, hv2, hv3, hv4⟩ hK
    rw [rows_flat] at hv2
    have hc1 : W.cell? ⟨w.heap.size, 0, none⟩ = some v := box_at hv1
    gi_wp2
    refine ⟨by simp, .inl ⟨_, _, rfl, run_takeDeferred hK, ?_⟩⟩
    refine ⟨_, results_tmp rfl _ _ _, v, rfl, ?_, ?_⟩
    · exact owns_turn hv2 (grownBy_putObj' _ Dd (.deferred none)) (fun r e => by cases e; exact ⟨_, hK, rfl⟩)
    · exact kept_kept (B := w.heap.size) hv4 (grownBy_putObj' _ Dd (.deferred none)) (Nat.le_refl _) (fun r e => by cases e; simp at hDd; omega)
  case stop =>
    rintro D c pre W _ _ h _
    exact h.elim

theorem bytes34 (b g : Nat) (D : Dev) (w : World) (h : Dv w b g D) : Calls Try.prog 34 #[P0 b] w fun e w' => ∃ v, e = .returned v ∧ w'.ownsRow w.heap.size 5 1 v D.S.flatten.length (u8s D.S.flatten) ∧ Kept [] w w' :=
  callsIn_wide.1 (bytes_in b g D w h)

end Go.Proofs.Ytffflafalffifaa

namespace Go.Proofs.Ytffflafalffifaa
open Go.RowKit

theorem grownBy_trans {a b c : World} {row : Option Nat} (h : a.grownBy b row) (k : b.grownBy c row) : a.grownBy c row :=
  ⟨k.os.trans h.os, k.tape.trans h.tape, k.output.trans h.output, Nat.le_trans h.size k.size, fun i hi hr => (k.block i (Nat.lt_of_lt_of_le hi h.size) hr).trans (h.block i hi hr)⟩

/-- 'append(out, x)', x a byte that was just laid into a block of its own. -/
theorem wpApp8 {w : World} {ops : Array Oper} {rest : List Oper} {o : Oper} {a : Act} {Q : Exit → Act → World → Prop} (hgd : o.guard = none) (s x : Operand)
    (ho : o.op = .call { callee := .builtin .append, args := #[s, x], argTypes := #[42, 42] })
    (B : Nat) (v : Value) (l : List Int) (hs : a.eval s = v) (n : Int) (hx : a.eval x = .slice (some ⟨w.heap.size, 0, none⟩) 1 1)
    (hown : w.ownsRow B 5 1 v l.length (u8s l)) (hlen : l.length + 1 ≤ 140737488355328) (hbase : B ≤ w.heap.size)
    (h : ∀ v' w', w'.ownsRow B 5 1 v' (l.length + 1) (u8s (l ++ [n])) → w.grownBy w' v.ownBlock → wpList Try.prog ops Q rest (a.put o.dst v') w') : wpList Try.prog ops Q (o :: rest) a (w.alloc (.cells #[.int .u8 n] 5)) := by
  obtain ⟨i0, hi, hz0, hz1, hz2⟩ := info_parts Try.info5
  refine wpList_append_own _ hgd s x 42 ho B 5 i0 (.int .u8 0) 1 1 Try.underlying42 hi hz0 hz1 hz2 rfl (by decide) v _ _ hs (hown.alloc _) ⟨w.heap.size, 0, none⟩ 1 1 (u8s [n]) hx rfl ?_ (u8s_one _) (by unfold maxLen; omega) (by omega) (by simp; omega) ?_
  · intro j u hj
    match j, hj with
    | 0, hj => simp [u8s] at hj; subst hj; simp [Addr.add]
  intro v' w' g1 g2 _
  refine h v' w' ?_ (grownBy_trans (World.grownBy_alloc _ _ _) g2)
  rw [u8s_app]; exact g1

theorem flat_take (S : List (List Int)) (k : Nat) (hS : ∀ s ∈ S, Sec s) (hk : k ≤ S.length) : (S.take k).flatten.length = 64 * k := by
  induction k with
  | zero => simp
  | succ k ih =>
    rw [List.take_succ_eq_append_getElem (by omega), List.flatten_append, List.length_append, ih (by omega)]
    have := (hS _ (List.getElem_mem (show k < S.length by omega))).1
    simp [this]; omega

set_option maxHeartbeats 1000000 in
set_option maxRecDepth 100000 in
theorem r_bytes (r sg eg : Nat) (D : Dev) (w : World) (h : Rv w r sg eg D) : Calls Try.prog 35 #[P0 r] w fun e w' => ∃ v, e = .returned v ∧ w'.ownsRow w.heap.size 5 1 v D.S.flatten.length (u8s D.S.flatten) ∧ Kept [] w w' := by
  have hs1 := h.ok.s1
  have hS := h.ok.sec
  obtain ⟨cap, ecap, c0, c1, c2, c3, c4, cf, hb, hec⟩ := h.cells
  obtain ⟨ex, hb1, hb2, hb3, hb4⟩ := hb
  clear c1 c2 c3 c4 cf
  go_enter Try.func35, Try.ntmps35
  go_wp2_with fail
  go_loopw [3, 4] (fun v i wr => ∃ k : Nat, k ≤ D.S.length ∧ i = .int .i64 k ∧ wr.ownsRow w.heap.size 5 1 v (D.S.take k).flatten.length (u8s (D.S.take k).flatten) ∧ Hid (Kept [] w wr)) (fun _ i _ => D.S.length - (intOf i).toNat)
  case atStart => exact ⟨0, by omega, rfl, World.ownsRow_nil _ _ _ _, Kept.refl _ _⟩
  case round =>
    obtain ⟨k, hk, rfl, hown, hK⟩ := hrel
    have q0 := (unhide hK).cell c0 (by simp)
    by_cases hlt : k < D.S.length
    · have hfl := flat_take D.S k hS (by omega)
      have hsk := hS _ (List.getElem_mem hlt)
      have hl64 := hsk.1
      obtain ⟨wo, rfl⟩ : ∃ wo : World, wo = wr := ⟨_, rfl⟩
      go_wp2_with fail
      go_loopw [3, 5] (fun v i w2 => ∃ j : Nat, j ≤ 64 ∧ i = .int .i64 j ∧ w2.ownsRow w.heap.size 5 1 v ((D.S.take k).flatten ++ D.S[k].take j).length (u8s ((D.S.take k).flatten ++ D.S[k].take j)) ∧ Hid (Kept [] w w2)) (fun _ i _ => 64 - (intOf i).toNat)
      case atStart => exact ⟨0, by omega, rfl, by simpa using hown, hK⟩
      case round =>
        obtain ⟨j, hj, rfl, hown2, hK2⟩ := hrel
        have p0 := (unhide hK2).cell c0 (by simp)
        have hsz := (unhide hK2).size
        by_cases hj2 : j < 64
        · have hby : wr.cell? ⟨sg, k * 64 + j, none⟩ = some (.int .u8 (D.S[k][j]'(by omega))) := by
            refine (unhide hK2).cell ?_ (by simp)
            obtain ⟨h1, o1, e1, rr⟩ := (secs_block hS rfl hb1 cap hb2).lies (by intro e; simp [e] at hlt)
            cases e1
            have := rr k hlt j _ (by simp [u8s, hl64, hj2]; rfl)
            simpa using this
          have hll : ((D.S.take k).flatten ++ D.S[k].take j).length = 64 * k + j := by simp [hfl, hl64]; omega
          go_wp2_with (at_builtin; go_must (refine wpApp8 rfl (.tmp 23) (.tmp 33) rfl w.heap.size _ _ rfl _ rfl hown2 ?_ ?_ ?_))
          · rw [hll]; omega
          · exact hsz
          intro v1 w1 hown3 hg1
          have hK3 : Hid (Kept [] w w1) := kept_kept (B := w.heap.size) (unhide hK2) hg1 (Nat.le_refl _) (fun k e => (own_kind hown2 k e).1)
          clear hg1 hown2 hK2
          go_wp2_with fail
          go_roundw
          case rel =>
            refine ⟨j + 1, by omega, by go_num, ?_, hK3⟩
            have e1 : ((D.S.take k).flatten ++ D.S[k].take (j + 1)).length = 64 * k + j + 1 := by simp [hfl, hl64]; omega
            rw [e1]
            simpa using hown3
          case measure => simp [intOf]; omega
        · obtain rfl : j = 64 := by omega
          rw [show D.S[k].take 64 = D.S[k] from List.take_of_length_le (by omega)] at hown2
          go_wp2_with fail
          refine ⟨⟨k + 1, by omega, by go_num, ?_, hK2⟩, by simp [intOf]; omega⟩
          rw [List.take_succ_eq_append_getElem hlt, List.flatten_append, show [D.S[k]].flatten = D.S[k] by simp]
          exact hown2
    · obtain rfl : k = D.S.length := by omega
      rw [List.take_length] at hown
      go_wp2_with fail
      go_ret
      exact ⟨_, rfl, hown, unhide hK⟩

end Go.Proofs.Ytffflafalffifaa
