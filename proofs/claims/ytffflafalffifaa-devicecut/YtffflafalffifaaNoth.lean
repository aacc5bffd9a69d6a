/-
  The walks over a device that is not there, where one ranges over it: Bytes, nothing.
-/
import Derived.Test.YtffflafalffifaaBridge
namespace Go.Proofs.Ytffflafalffifaa
open Go.RowKit Go.Shelf
attribute [local go_sem] Oper.semAt_some

theorem keepsFrom_of_kept {B : Nat} {W W' : World} (h : Kept [] W W') : KeepsFrom B W W' := (KeepsOthers.of_grownBy (grown_of_kept h) (fun _ _ e => by cases e)).from B

set_option maxRecDepth 100000 in
set_option maxHeartbeats 1000000 in
theorem bytes_nil0 (o : Option Addr) (w : World) (h : Sz w (.pointer o) 0) : CallsIn Fence.wide 3 Try.prog 34 #[.pointer o] w fun e w' => e = .returned (.slice none 0 0) ∧ Kept [] w w' := by
  have hFw := wideF
  have hb1 : (w.alloc (.cells #[.slice none 0 0] 42)).cell? ⟨w.heap.size, 0, none⟩ = some (.slice none 0 0) := box_at (heap_new rfl)
  have hb2 : ((w.alloc (.cells #[.slice none 0 0] 42)).alloc (.cells #[.pointer o] 24)).heap[w.heap.size]? = some (.cells #[.slice none 0 0] 42 (0, 0)) := heap_alloc_old (heap_new rfl)
  have hq : ((w.alloc (.cells #[.slice none 0 0] 42)).alloc (.cells #[.pointer o] 24)).cell? ⟨w.heap.size + 1, 0, none⟩ = some (.pointer o) := box_at (heap_new (by simp))
  have hk : Kept [] w ((w.alloc (.cells #[.slice none 0 0] 42)).alloc (.cells #[.pointer o] 24)) := ((Kept.refl _ _).alloc _).alloc _
  have hz := h.kept hk (by simp)
  refine callsIn_of_wp_marks Try.func34 rfl trivial ?_ rfl
  simp only [Try.ntmps34, List.size_toArray, List.length_cons, List.length_nil, Nat.reduceAdd, Nat.reduceSub, Array.replicate_succ, Array.replicate_zero, List.push_toArray, List.append_toArray, List.nil_append, List.cons_append]
  gi_wp2_with (gi_at_call 40; refine (callsIn_wide.2 (all40 _ _)).mono ?_; rintro e w1 ⟨rfl, rfl⟩)
  refine wpIn_rangeFunc_ownH rfl (by omega) (gf := 58) (lb := #[P0 (w.heap.size + 1)]) rfl trivial cf58 (all_stops_nil 2 (w.heap.size + 1) (.pointer o) _ hz hq) KeptC.trans (keptC_b _) (Below.refl _ _) (fun _ => rfl)
    (fun _ W => W.heap[w.heap.size]? = some (.cells #[.slice none 0 0] 42 (0, 0)) ∧ Kept [] w W) (fun _ _ _ => False)
    (fun s A B row hs hg hr => ⟨cells_kept hs.1 hg (fun r e => (hr r e).2), kept_kept (B := w.heap.size) hs.2 hg (Nat.le_refl _) (fun r e => by have := (hr r e).1; simp at this; omega)⟩) (fun c s A B row hs _ _ => hs) ⟨hb2, hk⟩
    (fun _ _ _ => True) (fun _ _ _ _ _ _ _ _ _ => trivial) ?assign ?body ?done ?stop
  case assign =>
    intro l pre x W K hI hK
    have hkk : Kept [] W ((W.alloc (.cells (u8s nought).toArray 38)).setCells W.heap.size 0 (u8s x.s)) := ((Kept.refl _ _).alloc _).setCells _ _ (by omega)
    simp only [Row.vals, List.zip_toArray, List.zip_cons_cons, List.zip_nil_right, List.foldl_toArray, List.foldl_cons, List.foldl_nil, List.setIfInBounds_toArray, List.set_cons_succ, List.set_cons_zero]
    gi_wp2_with (first | (refine inAllocS (fun _ => trivial) (by rfl) (by rfl) (by rfl) ?_) | (refine inStoreS (fun _ => trivial) (by rfl) (.tmp 5) (.tmp 9) (by rfl) (by rfl) W.heap.size 0 x.s (by rfl) (by rfl) x.h ?_ ?_; · exact (Box.new W).at.2.2))
    exact hK _ _ (keepsFrom_of_kept hkk) (KeptC.of_kept hkk) ⟨hkk.heap hI.1 (by simp), hI.2.trans hkk⟩ trivial
  case body =>
    rintro l pre x a' W hl _ _ _ hlt
    simp at hlt
  case done =>
    rintro D ys W hD rfl ⟨hc, hkW⟩ hK
    have hc1 : W.cell? ⟨w.heap.size, 0, none⟩ = some (.slice none 0 0) := box_at hc
    gi_wp2
    refine ⟨by simp, .inl ⟨_, _, rfl, run_takeDeferred hK, ?_⟩⟩
    refine ⟨_, results_tmp rfl _ _ _, rfl, ?_⟩
    exact kept_kept (B := w.heap.size) hkW (grownBy_putObj' _ D (.deferred none)) (Nat.le_refl _) (fun r e => by cases e; simp at hD; omega)
  case stop =>
    rintro D c pre W _ h _ _
    exact h.elim

theorem uponIn_wide {n : Nat} {P : Program} {Q : Exit → Act → World → Prop} {o : Oper} {a : Act} {K : Act → World → Prop} {r : Result Next} (h : o.upon P a K Q r) : o.uponIn Fence.wide n P a K Q r := by
  cases r with
  | ok nx w =>
    cases nx <;> first
      | exact h
      | exact ⟨fun h => by simp [Fence.wide] at h, callsIn_wide.2 h⟩
      | exact ⟨fun h => by simp [Fence.wide] at h, fun c cs _ => let ⟨v, w', hr, hs⟩ := h c cs; ⟨v, w', hr, stepsIn_wide.2 hs⟩⟩
      | exact h.elim
  | halt x w => cases x <;> first | exact h | exact h.elim
theorem opInW {n : Nat} {P : Program} {Q : Exit → Act → World → Prop} {o : Oper} {a : Act} {w : World} {K : Act → World → Prop} (_ : ∀ c, o.op ≠ .defer c) (h : o.wp P a w K Q) : o.wpIn Fence.wide n P a w K Q := ⟨fun _ _ => trivial, uponIn_wide h⟩
theorem wp_buildN {o : Oper} {a : Act} {w : World} {K : Act → World → Prop} {Q : Exit → Act → World → Prop} (ho : o.op = .build 38 #[]) (h : K (a.put o.dst (secV nought)) w) : o.wp Try.prog a w K Q := by
  unfold Oper.wp execOp
  simp only [ho, Array.map_empty, Sem.run_bind, run_build38, Result.andThen_ok]
  exact h

/-- Where nothing stands. -/
structure NS (w W : World) (o : Option Addr) (r : Bool) : Prop where
  z : Sz W (.pointer o) 0
  c : W.heap[w.heap.size]? = some (.cells #[.bool r] 4 (0, 0))
  k : Kept [] w W
theorem NS.quiet {w W W' : World} {o : Option Addr} {r : Bool} (h : NS w W o r) (hk : Kept [] W W') : NS w W' o r := ⟨h.z.kept hk (by simp), hk.heap h.c (by simp), h.k.trans hk⟩
theorem NS.own {w W W' : World} {o : Option Addr} {r : Bool} {row : Option Nat} (h : NS w W o r) (hg : W.grownBy W' row) (hr : ∀ k, row = some k → ∃ x : Obj, W.heap[k]? = some x ∧ x.isCells = false) (hB : ∀ k, row = some k → w.heap.size ≤ k) : NS w W' o r := by
  refine ⟨?_, cells_kept h.c hg hr, kept_kept (B := w.heap.size) h.k hg (Nat.le_refl _) hB⟩
  rcases h.z with h0 | ⟨b, ao, cap, e, hc⟩
  · exact .inl h0
  · refine .inr ⟨b, ao, cap, e, ?_⟩
    have hne : some b ≠ row := by
      intro e'
      obtain ⟨x, hx, hxc⟩ := hr b e'.symm
      simp only [World.cell?, hx] at hc
      cases x <;> first | (simp [Obj.isCells] at hxc; done) | (simp at hc; done)
    rw [World.cell?_of_block (w := W) (hg.block b (World.block_lt_of_cell? W ⟨b, 0, none⟩ hc) hne)]
    exact hc
theorem eq80 (q : Value) (W : World) : Sem.run Try.prog (binOp BinOp.eql 80 (.func (.func 58) #[] #[q]) .nilFunc) W = .ok (.bool false) W := by kernel_rfl
theorem res28 (w : World) (z : Nat) (r : Bool) (tmps : Array Value) (h2 : tmps[2]?.getD undef = .pointer (some ⟨z, 0, none⟩)) (hb : w.cell? ⟨z, 0, none⟩ = some (.bool r)) : (results Try.f28 tmps).run Try.prog w = .ok (.bool r) w := by
  simp [results, Try.results28, h2, hb, asAddr, go_sem]

set_option maxRecDepth 100000 in
set_option maxHeartbeats 4000000 in
theorem nothing_in (o : Option Addr) (w : World) (h : Sz w (.pointer o) 0) : CallsIn Fence.wide 4 Try.prog 28 #[.pointer o] w fun e w' => e = .returned (.bool true) ∧ Kept [] w w' := by
  have hFw := wideF
  have hk : Kept [] w (w.alloc (.cells #[.bool false] 4)) := (Kept.refl _ _).alloc _
  have hS : Hid (NS w (w.alloc (.cells #[.bool false] 4)) o false) := ⟨h.kept hk (by simp), heap_new rfl, hk⟩
  clear hk
  refine callsIn_of_wp_marks Try.func28 rfl trivial ?_ rfl
  simp only [Try.ntmps28, List.size_toArray, List.length_cons, List.length_nil, Nat.reduceAdd, Nat.reduceSub, Array.replicate_succ, Array.replicate_zero, List.push_toArray, List.append_toArray, List.nil_append, List.cons_append]
  gi_wp2_with fail
  generalize w.alloc (.cells #[.bool false] 4) = W0 at *
  refine (callsIn_wide.2 (epoch_nil _ 0 _ (unhide hS).z)).mono ?_
  rintro e w1 ⟨rfl, rfl⟩
  gi_wp2_with fail
  refine (callsIn_wide.2 (read_nil _ 0 _ (unhide hS).z)).mono ?_
  rintro e w2 ⟨rfl, hk2⟩
  have hkk : Kept [] w2 ((w2.alloc (.cells (u8s nought).toArray 38)).setCells w2.heap.size 0 (u8s nought)) := ((Kept.refl _ _).alloc _).setCells _ _ (by omega)
  have hS2 := hide (((unhide hS).quiet hk2).quiet hkk)
  clear hS hk2 hkk
  gi_wp2_with (first | (refine inAllocS (fun _ => trivial) (by rfl) (by rfl) (by rfl) ?_) | (refine inStoreS (fun _ => trivial) (by rfl) (.tmp 5) (.tmp 20) (by rfl) (by rfl) w2.heap.size 0 nought (by rfl) (by rfl) nought_sec ?_ ?_; · exact (Box.new w2).at.2.2) | (refine wpListIn_want (by rfl) (opInW (by intro c e; cases e) ?_); refine wp_buildN (by rfl) ?_))
  generalize (w2.alloc (.cells (u8s nought).toArray 38)).setCells w2.heap.size 0 (u8s nought) = W2 at *
  refine (callsIn_wide.2 (swap_nil _ 0 0 0 nought nought _ (unhide hS2).z (by omega))).mono ?_
  rintro e w3 ⟨rfl, hk3⟩
  have hS3 := hide ((unhide hS2).quiet hk3)
  clear hS2 hk3
  gi_wp2_with fail
  refine (callsIn_wide.2 (up_nil _ 0 _ (unhide hS3).z)).mono ?_
  rintro e w4 ⟨rfl, rfl⟩
  gi_wp2_with fail
  refine (callsIn_wide.2 (all40 o _)).mono ?_
  rintro e w5 ⟨rfl, rfl⟩
  have hk5 : Kept [] w4 (w4.alloc (.cells #[.pointer o] 24)) := (Kept.refl _ _).alloc _
  have hS5 := hide ((unhide hS3).quiet hk5)
  have hq5 : Hid ((w4.alloc (.cells #[.pointer o] 24)).cell? ⟨w4.heap.size, 0, none⟩ = some (.pointer o)) := box_at (heap_new rfl)
  have hsz : w.heap.size < (w4.alloc (.cells #[.pointer o] 24)).heap.size := lt_of_block (unhide hS5).c
  have hq80 := eq80 (P0 w4.heap.size)
  clear hS3 hk5
  generalize w4.alloc (.cells #[.pointer o] 24) = W5 at *
  gi_wp2_with fail
  refine wpIn_rangeFunc_ownH rfl (by omega) (gf := 58) (lb := #[P0 w4.heap.size]) rfl trivial cf58 (all_stops_nil 3 w4.heap.size (.pointer o) _ (unhide hS5).z (unhide hq5)) KeptC.trans (keptC_b _) (Below.refl _ _) (fun _ => rfl)
    (fun _ W => NS w W o false) (fun _ _ _ => False)
    (fun s A B row hs hg hr => NS.own hs hg (fun r e => (hr r e).2) (fun r e => by have := (hr r e).1; omega)) (fun c s A B row hs _ _ => hs) (unhide hS5)
    (fun _ _ _ => True) (fun _ _ _ _ _ _ _ _ _ => trivial) ?assign ?body ?done ?stop
  case assign =>
    intro l pre x W K hI hK
    gi_wp2
    exact hK _ _ (KeepsFrom.refl _ _) (KeptC.refl _ _) hI trivial
  case body =>
    rintro l pre x a' W hl _ _ _ hlt
    simp at hlt
  case stop =>
    rintro D c pre W _ h _ _
    exact h.elim
  case done =>
    rintro D ys W hD rfl hN hK
    have HK := hide hK
    have HN := hide hN
    clear hK hN hS5 hq5 hq80
    gi_wp2_with (gi_at_call 10; refine (callsIn_wide.2 (num10 _ _)).mono ?_; rintro e w' ⟨rfl, rfl⟩)
    refine (callsIn_wide.2 (write_nil _ 0 0 0 none 0 0 _ (unhide HN).z (by omega))).mono ?_
    rintro e w6 ⟨rfl, hk6⟩
    have HN6 := hide ((unhide HN).quiet hk6)
    have HK6 := hide (hk6.heap (unhide HK) (by simp))
    have hz6 := (unhide HN6).z
    have hnd : Nd w6 (.pointer o) 0 := .inl ⟨hz6, rfl⟩
    clear HN HK hk6
    gi_wp2_with (first | (gi_at_call 10; refine (callsIn_wide.2 (num10 _ _)).mono ?_; rintro e w' ⟨rfl, rfl⟩) | (gi_at_call 24; refine (callsIn_wide.2 (fence_nil _ _ _ _ _ _ hz6)).mono ?_; rintro e w' ⟨rfl, rfl⟩) | (gi_at_call 25; refine (callsIn_wide.2 (cut_nil _ _ _ hz6)).mono ?_; rintro e w' ⟨rfl, rfl⟩) | (gi_at_call 20; refine (callsIn_wide.2 (whole_nil _ _ hz6)).mono ?_; rintro e w' ⟨rfl, rfl⟩) | (gi_at_call 37; refine (callsIn_wide.2 (fenced_nil _ _ _ _ hz6)).mono ?_; rintro e w' ⟨rfl, rfl⟩) | (gi_at_call 31; refine (callsIn_wide.2 (size31 _ _ _ hz6)).mono ?_; rintro e w' ⟨rfl, rfl⟩) | (gi_at_call 32; refine (callsIn_wide.2 (nodes_no _ _ hz6)).mono ?_; rintro e w' ⟨rfl, rfl⟩) | (gi_at_call 33; refine (callsIn_wide.2 (done_no _ _ hz6)).mono ?_; rintro e w' ⟨rfl, rfl⟩))
    refine (bytes_nil0 o _ hz6).mono ?_
    rintro e w7 ⟨rfl, hk7⟩
    have HN7 := hide ((unhide HN6).quiet hk7)
    have HK7 := hide (hk7.heap (unhide HK6) (by simp))
    have hz7 := (unhide HN7).z
    have hc7 : w7.cell? ⟨w.heap.size, 0, none⟩ = some (.bool false) := box_at (unhide HN7).c
    have hf7 : w7.frozen? ⟨w.heap.size, 0, none⟩ = false := frozen_of_block (unhide HN7).c 0
    clear HN6 HK6 hk7 hz6 hnd
    gi_wp2_with (first | (gi_at_call 21; refine (callsIn_wide.2 (copy_nil _ _ hz7)).mono ?_; rintro e w' ⟨rfl, rfl⟩) | (gi_at_call 17; refine (callsIn_wide.2 (same_nil _ _ _ hz7 (.inl ⟨rfl, rfl⟩))).mono ?_; rintro e w' ⟨rfl, rfl⟩))
    have hK' := (KeepsOthers.setCell w' ⟨w.heap.size, 0, none⟩ (.bool true)).same D _ (unhide HK7) rfl
    have hc8 := cell_kept (World.cell?_setCell_same' w' ⟨w.heap.size, 0, none⟩ (.bool true) (by rw [hc7]; rfl)) (grownBy_putObj' _ D (.deferred none)) (fun r e => by cases e; exact ⟨_, hK', rfl⟩)
    refine ⟨by simp, .inl ⟨_, _, rfl, run_takeDeferred hK', ?_⟩⟩
    refine ⟨.bool true, res28 _ w.heap.size true _ (by kernel_rfl) hc8, rfl, ?_⟩
    exact kept_kept (B := w.heap.size) ((unhide HN7).k.setCell (by simp) _) (grownBy_putObj' _ D (.deferred none)) (Nat.le_refl _) (fun r e => by cases e; omega)

theorem nothing28 (p : Value) (w : World) (h : Sz w p 0) : Calls Try.prog 28 #[p] w fun e w' => e = .returned (.bool true) ∧ Kept [] w w' := by
  have h0 := h
  rcases h0 with ⟨rfl, _⟩ | ⟨b, ao, cap, rfl, _⟩ <;> exact callsIn_wide.1 (nothing_in _ w h)

end Go.Proofs.Ytffflafalffifaa
