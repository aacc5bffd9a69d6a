/-
  The walk of the law DeviceNil.
-/
import Derived.Test.YtffflafalffifaaNil
namespace Go.Proofs.Ytffflafalffifaa
open Go.RowKit Go.BigFrame

theorem n_new (w : World) : Calls Try.prog 8 #[.int .i64 4096, .int .i64 8] w fun e w' => ∃ b g, e = .returned (.tuple #[P0 b, .int .i64 0]) ∧ w.heap.size ≤ b ∧ w.heap.size ≤ g ∧ Dv w' b g d0 ∧ Kept [] w w' := new_yes 4096 8 w (by decide)
theorem n_up (b g : Nat) (w : World) (h : Dv w b g o0) : Calls Try.prog 27 #[P0 b, .int .i64 0] w fun e w' => e = .returned (.tuple #[.int .i64 0, .int .i64 5]) ∧ Dv w' b g o0 ∧ Kept [b, g] w w' := up27 b g o0 0 w h
theorem n_f1 (b g : Nat) (w : World) (h : Dv w b g o0) : Calls Try.prog 24 #[P0 b, .int .i64 0, .int .i64 2147483647, .int .i64 0, .int .i64 2147483647] w fun e w' => e = .returned (.int .i64 2) ∧ Dv w' b g o0 ∧ Kept [b, g] w w' := fence24 b g o0 0 2147483647 0 2147483647 w h
theorem n_f2 (b g : Nat) (w : World) (h : Dv w b g o0) : Calls Try.prog 24 #[P0 b, .int .i64 0, .int .i64 2147483647, .int .i64 0, .int .i64 2147483646] w fun e w' => e = .returned (.int .i64 0) ∧ Dv w' b g o0 ∧ Kept [b, g] w w' := fence24 b g o0 0 2147483647 0 2147483646 w h
theorem secs_none (w : World) : Secs w none 0 0 [] := ⟨rfl, by simp, Nat.le_refl _, fun h => absurd rfl h⟩
theorem away_none (X : List Nat) : Away none X := fun _ _ e => by cases e
theorem n_w (b g : Nat) (x ep f : Int) (r : Int) (w : World) (h : Dv w b g d0) (hf : -9223372036854775808 ≤ f ∧ f ≤ 9223372036854775807) (hr : d0.write x ep f [] = (r, d0)) : Calls Try.prog 22 #[P0 b, .int .i64 x, .int .i64 ep, .int .i64 f, .slice none 0 0] w fun e w' => e = .returned (.int .i64 r) ∧ Dv w' b g d0 ∧ Kept [b, g] w w' := by
  have := write22 b g d0 x ep f none 0 0 [] w h hf (by omega) (secs_none w) (away_none _)
  rw [hr] at this
  exact this
theorem n_c1 (b g : Nat) (w : World) (h : Dv w b g d0) : Calls Try.prog 25 #[P0 b, .int .i64 0] w fun e w' => e = .returned (.int .i64 0) ∧ Dv w' b g d1 ∧ Kept [b, g] w w' := cut25 b g d0 0 w h (by omega)
theorem n_c2 (b g : Nat) (w : World) (h : Dv w b g d1) : Calls Try.prog 25 #[P0 b, .int .i64 0] w fun e w' => e = .returned (.int .i64 9) ∧ Dv w' b g d1 ∧ Kept [b, g] w w' := cut25 b g d1 0 w h (by omega)
theorem n_wh (b g : Nat) (w : World) (h : Dv w b g d1) : Calls Try.prog 20 #[P0 b] w fun e w' => e = .returned (.bool true) ∧ Dv w' b g d1.uncut ∧ Kept [b, g] w w' := whole20 b g d1 w h

/-- The two slices that Of is handed. -/
theorem n_of (w : World) : Calls Try.prog 15 #[.slice (some ⟨w.heap.size, 0, none⟩) 64 64, .slice (some ⟨w.heap.size + 1, 0, none⟩) 1 1] ((w.alloc (.cells (u8s (zs 64)).toArray 5)).alloc (.cells #[.int .i64 2147483647] 2)) fun e w' => ∃ b g, e = .returned (.tuple #[P0 b, .int .i64 0]) ∧ w.heap.size ≤ b ∧ w.heap.size ≤ g ∧ Dv w' b g o0 ∧ Kept [] w w' := by
  have k0 : Kept [] w ((w.alloc (.cells (u8s (zs 64)).toArray 5)).alloc (.cells #[.int .i64 2147483647] 2)) := ((Kept.refl _ _).alloc _).alloc _
  have v1 : Vals ((w.alloc (.cells (u8s (zs 64)).toArray 5)).alloc (.cells #[.int .i64 2147483647] 2)) (some ⟨w.heap.size, 0, none⟩) 64 64 (u8s (zs 64)) := by
    have := vals_new w (u8s (zs 64)) 5
    rw [u8s_len, show (zs 64).length = 64 by simp [zs]] at this
    exact this.kept ((Kept.refl [] _).alloc _) (fun _ _ _ => by simp)
  have v2 : Vals ((w.alloc (.cells (u8s (zs 64)).toArray 5)).alloc (.cells #[.int .i64 2147483647] 2)) (some ⟨w.heap.size + 1, 0, none⟩) 1 1 (([2147483647] : List Int).map (Value.int .i64)) := by
    have := vals_new (w.alloc (.cells (u8s (zs 64)).toArray 5)) [.int .i64 2147483647] 2
    rw [World.size_alloc] at this
    exact this
  refine (of_yes _ _ 64 64 1 1 (zs 64) [2147483647] _ (fun x hx => by rw [List.eq_of_mem_replicate hx]; omega) v1 v2 (by omega) (by decide)).mono ?_
  rintro e w' ⟨b, g, rfl, h1, h2, h3, h4⟩
  have := k0.size
  exact ⟨b, g, rfl, by omega, by omega, h3, k0.trans h4⟩
theorem n_of2 (w : World) : Calls Try.prog 15 #[.slice (some ⟨w.heap.size, 0, none⟩) 64 64, .slice (some ⟨w.heap.size + 1, 0, none⟩) 1 1] ((w.alloc (.cells (u8s (zs 64)).toArray 5)).alloc (.cells #[.int .i64 2147483648] 2)) fun e w' => e = .returned (.tuple #[.pointer none, .int .i64 2]) ∧ Kept [] w w' := by
  have k0 : Kept [] w ((w.alloc (.cells (u8s (zs 64)).toArray 5)).alloc (.cells #[.int .i64 2147483648] 2)) := ((Kept.refl _ _).alloc _).alloc _
  have v2 : Vals ((w.alloc (.cells (u8s (zs 64)).toArray 5)).alloc (.cells #[.int .i64 2147483648] 2)) (some ⟨w.heap.size + 1, 0, none⟩) 1 1 (([2147483648] : List Int).map (Value.int .i64)) := by
    have := vals_new (w.alloc (.cells (u8s (zs 64)).toArray 5)) [.int .i64 2147483648] 2
    rw [World.size_alloc] at this
    exact this
  refine (of_no _ _ 64 64 1 1 [2147483648] _ v2 (by omega) (by omega) (by decide)).mono ?_
  rintro e w' ⟨rfl, rfl⟩
  exact ⟨rfl, k0⟩
theorem n_of3 (w : World) : Calls Try.prog 15 #[.slice (some ⟨w.heap.size, 0, none⟩) 64 64, .slice none 0 0] (w.alloc (.cells (u8s (zs 64)).toArray 5)) fun e w' => e = .returned (.tuple #[.pointer none, .int .i64 2]) ∧ Kept [] w w' := by
  have k0 : Kept [] w (w.alloc (.cells (u8s (zs 64)).toArray 5)) := (Kept.refl _ _).alloc _
  refine (of_no _ _ 64 64 0 0 [] _ ⟨rfl, Nat.le_refl _, fun h => absurd rfl h⟩ (by omega) (by omega) (by decide)).mono ?_
  rintro e w' ⟨rfl, rfl⟩
  exact ⟨rfl, k0⟩

set_option maxHeartbeats 4000000 in
set_option maxRecDepth 100000 in
theorem nil7 (w : World) : Calls Try.prog 7 #[] w fun e w' => e = .returned (.bool true) ∧ Kept [] w w' := by
  go_enter Try.func7, Try.ntmps7
  go_wp2_with fail
  refine (n_new w).mono ?_
  rintro e w1 ⟨b, g, rfl, hb, hg, hd, hk⟩
  go_wp2_with (first | (refine wpMakeB rfl (.const (.int .i64 64)) (.const (.int .i64 64)) rfl 64 rfl rfl (by omega) ?_))
  refine (n_of w1).mono ?_
  rintro e w2 ⟨b2, g2, rfl, hb2, hg2, he2, hk2⟩
  have hS : Hid (DS w w2 b g b2 g2 d0 o0) := by
    have l1 := hd.lt
    have l2 := hk.size
    exact ⟨hd.kept hk2 (by simp) (by simp), he2, hk.trans hk2, by omega, by simp; omega⟩
  clear hb hg hd hk hb2 hg2 he2 hk2
  go_wp2_with fail
  refine (n_up b2 g2 _ (unhide hS).e).mono ?_
  rintro e w3 ⟨rfl, hd, hk⟩
  replace hS := hide ((unhide hS).step2 hd hk)
  clear hd hk
  go_wp2_with (first | (refine wpMakeB rfl (.const (.int .i64 64)) (.const (.int .i64 64)) rfl 64 rfl rfl (by omega) ?_))
  refine (n_of2 w3).mono ?_
  rintro e w4 ⟨rfl, hk⟩
  replace hS := hide ((unhide hS).quiet hk)
  clear hk
  go_wp2_with (first | (refine wpMakeB rfl (.const (.int .i64 64)) (.const (.int .i64 64)) rfl 64 rfl rfl (by omega) ?_))
  refine (n_of3 w4).mono ?_
  rintro e w5 ⟨rfl, hk⟩
  replace hS := hide ((unhide hS).quiet hk)
  clear hk
  go_wp2_with fail
  refine (n_f1 b2 g2 _ (unhide hS).e).mono ?_
  rintro e w6 ⟨rfl, hd, hk⟩
  replace hS := hide ((unhide hS).step2 hd hk)
  clear hd hk
  go_wp2_with fail
  refine (n_f2 b2 g2 _ (unhide hS).e).mono ?_
  rintro e w7 ⟨rfl, hd, hk⟩
  replace hS := hide ((unhide hS).step2 hd hk)
  clear hd hk
  go_wp2_with (go_at_call 10; refine (num10 _ _).mono ?_; rintro e w' ⟨rfl, rfl⟩)
  refine (n_w b g 7 0 4096 0 _ (unhide hS).d (by omega) d_w1).mono ?_
  rintro e w8 ⟨rfl, hd, hk⟩
  replace hS := hide ((unhide hS).step hd hk)
  clear hd hk
  go_wp2_with (go_at_call 10; refine (num10 _ _).mono ?_; rintro e w' ⟨rfl, rfl⟩)
  refine (n_w b g 7 0 4097 2 _ (unhide hS).d (by omega) d_w2).mono ?_
  rintro e w9 ⟨rfl, hd, hk⟩
  replace hS := hide ((unhide hS).step hd hk)
  clear hd hk
  go_wp2_with (go_at_call 10; refine (num10 _ _).mono ?_; rintro e w' ⟨rfl, rfl⟩)
  refine (n_w b g 7 (-1) 0 2 _ (unhide hS).d (by omega) d_w3).mono ?_
  rintro e wa ⟨rfl, hd, hk⟩
  replace hS := hide ((unhide hS).step hd hk)
  clear hd hk
  go_wp2_with (go_at_call 10; refine (num10 _ _).mono ?_; rintro e w' ⟨rfl, rfl⟩)
  refine (n_c1 b g _ (unhide hS).d).mono ?_
  rintro e wb ⟨rfl, hd, hk⟩
  replace hS := hide ((unhide hS).step hd hk)
  clear hd hk
  go_wp2_with (go_at_call 10; refine (num10 _ _).mono ?_; rintro e w' ⟨rfl, rfl⟩)
  refine (n_c2 b g _ (unhide hS).d).mono ?_
  rintro e wc ⟨rfl, hd, hk⟩
  replace hS := hide ((unhide hS).step hd hk)
  clear hd hk
  go_wp2_with (go_at_call 10; refine (num10 _ _).mono ?_; rintro e w' ⟨rfl, rfl⟩)
  refine (n_wh b g _ (unhide hS).d).mono ?_
  rintro e wd ⟨rfl, hd, hk⟩
  replace hS := hide ((unhide hS).step hd hk)
  clear hd hk
  go_wp2_with fail
  refine (nothing28 (.pointer none) _ (.inl ⟨rfl, rfl⟩)).mono ?_
  rintro e we ⟨rfl, hk⟩
  replace hS := hide ((unhide hS).quiet hk)
  clear hk
  go_wp2_with fail
  refine (nothing28 _ _ (.inr ⟨we.heap.size, none, 0, rfl, by rw [cell_of_block (heap_alloc_new _ _)]; rfl⟩)).mono ?_
  rintro e wf ⟨rfl, hk⟩
  replace hS := hide (((unhide hS).quiet ((Kept.refl _ _).alloc (.cells #[Value.slice none 0 0, Value.int IntKind.i64 0, Value.int IntKind.i64 0, Value.int IntKind.i64 0, Value.int IntKind.i64 0, Value.int IntKind.i64 0, Value.int IntKind.i64 0, Value.int IntKind.i64 0, Value.int IntKind.i64 0, Value.int IntKind.i64 0, Value.int IntKind.i64 0, Value.bool false, Value.int IntKind.i64 0, Value.bool false] 67))).quiet hk)
  clear hk
  go_wp2_with fail
  refine (same_half b g _ (.pointer none) _ (unhide hS).d (.inl ⟨rfl, rfl⟩)).mono ?_
  rintro e wg ⟨rfl, rfl⟩
  go_wp2_with fail
  refine (known11 _).mono ?_
  rintro e wh ⟨rfl, hk⟩
  replace hS := hide ((unhide hS).quiet hk)
  clear hk
  go_wp2_with fail
  go_ret
  exact ⟨rfl, (unhide hS).k⟩

end Go.Proofs.Ytffflafalffifaa
