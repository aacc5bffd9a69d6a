/-
  The walk of the law WireNil: whatever the world, it returns true, and all that was there stays.
-/
import Derived.Test.YtaljkpndfjfgdaaKnown
import Derived.Test.YtaljkpndfjfgdaaWholb
import Derived.WalkLawsBesides
namespace Go.Proofs.Ytaljkpndfjfgdaa
open Go.RowKit

theorem eq68 (W : World) : Sem.run Try.prog (binOp BinOp.eql 68 (.func (.func 34) #[] #[]) .nilFunc) W = .ok (.bool false) W := by kernel_rfl
theorem eq68n (W : World) : Sem.run Try.prog (binOp BinOp.eql 68 .nilFunc .nilFunc) W = .ok (.bool true) W := by kernel_rfl
theorem eq64 (W : World) : Sem.run Try.prog (binOp BinOp.eql 64 (.func (.func 32) #[] #[]) .nilFunc) W = .ok (.bool false) W := by kernel_rfl
theorem eq99n (W : World) : Sem.run Try.prog (binOp BinOp.eql 99 .nilFunc .nilFunc) W = .ok (.bool true) W := by kernel_rfl

set_option maxRecDepth 100000 in
theorem put33_none (w : World) : Calls Try.prog 33 #[.slice none 0 0, .nilFunc] w fun e w' => e = .returned (.tuple #[.slice none 0 0, .int .i64 1]) ∧ w' = w := by
  have hq := eq68n
  go_enter Try.func33, Try.ntmps33
  go_wp2
  go_ret2
  exact ⟨rfl, rfl⟩

theorem number_0 (w : World) : Calls Try.prog 9 #[.int .u64 0] w fun e w' => Gives w w.heap.size [0] e w' := by
  have hS := number_any 0 w (by decide)
  rw [num_lt (show 0 < 128 by decide)] at hS
  exact hS

set_option maxRecDepth 100000 in
theorem put33_empty (w : World) : Calls Try.prog 33 #[.slice none 0 0, .func (.func 34) #[] #[]] w fun e w' => ∃ ao m c, e = .returned (.tuple #[.slice ao m c, .int .i64 0]) ∧ OwnS w' w.heap.size ao m c [0] ∧ Below w.heap.size w w' := by
  have hq := eq68
  go_enter Try.func33, Try.ntmps33
  go_wp2_with fail
  refine (number_0 _).mono ?_
  rintro e w1 ⟨ao, m, c, rfl, hown, hb⟩
  go_wp2
  refine wp_loop_rounds 1 ?_
  rw [rounds_succ]
  go_wp2
  go_ret2
  exact ⟨_, _, _, rfl, hown, hb⟩

set_option maxRecDepth 100000 in
theorem take35_none (p : Value) (x : Int) (w : World) : Calls Try.prog 35 #[p, .int .i64 x, .nilFunc] w fun e w' => e = .returned (.tuple #[.slice none 0 0, .int .i64 1]) ∧ Below w.heap.size w w' := by
  have hq := eq99n
  go_enter Try.func35, Try.ntmps35
  go_wp2
  go_ret2
  exact ⟨rfl, ((Below.refl _ _).alloc (Nat.le_refl _) _).alloc (by simp) _⟩

set_option maxRecDepth 100000 in
theorem take31_nil (x : Int) (w : World) : Calls Try.prog 31 #[.pointer none, .int .i64 x, .func (.func 32) #[] #[]] w fun e w' => e = .returned (.tuple #[.slice none 0 0, .int .i64 1]) ∧ Below w.heap.size w w' := by
  have hq := eq64
  go_enter Try.func31, Try.ntmps31
  go_wp2_with fail
  refine (whole54_nil _ _ _ (.inl rfl)).mono ?_
  rintro e w1 ⟨rfl, rfl⟩
  go_wp2
  go_ret2
  exact ⟨rfl, ((Below.refl _ _).alloc (Nat.le_refl _) _).alloc (by simp) _⟩

set_option maxHeartbeats 400000 in
theorem nothing36 (p : Value) (w : World) (h : Nil w p) : Calls Try.prog 36 #[p] w fun e w' => e = .returned (.bool true) ∧ Below w.heap.size w w' := by
  have h1 := h.alloc (.cells #[.int .i64 (-1)] 3)
  go_enter Try.func36, Try.ntmps36
  go_wp2_with fail
  refine (Number25_nil p _ h).mono ?_
  rintro e w1 ⟨rfl, rfl⟩
  go_wp2_with fail
  refine (Signed26_nil p _ h).mono ?_
  rintro e w1 ⟨rfl, rfl⟩
  go_wp2_with fail
  refine (Flag28_nil p _ h).mono ?_
  rintro e w1 ⟨rfl, rfl⟩
  go_wp2_with fail
  refine (Bytes27_nil p _ _ h).mono ?_
  rintro e w1 ⟨rfl, rfl⟩
  have H1 := hide (End24_nil p _ h1)
  have H2 := hide (Left21_nil p _ h1)
  go_wp2_with (first | (go_at_call 23; refine (num_err _ _).mono ?_; rintro e w' ⟨rfl, rfl⟩) | (go_at_call 24; refine (unhide H1).mono ?_; rintro e w' ⟨rfl, rfl⟩) | (go_at_call 21; refine (unhide H2).mono ?_; rintro e w' ⟨rfl, rfl⟩))
  go_ret
  exact ⟨rfl, (Below.refl _ _).alloc (Nat.le_refl _) _⟩

set_option maxHeartbeats 1000000 in
set_option maxRecDepth 100000 in
theorem nil7 (w : World) : Calls Try.prog 7 #[] w fun e w' => e = .returned (.bool true) ∧ Below w.heap.size w w' := by
  go_enter Try.func7, Try.ntmps7
  go_wp2_with fail
  refine (put33_none _).mono ?_
  rintro e w1 ⟨rfl, rfl⟩
  go_wp2_with fail
  refine (put33_empty _).mono ?_
  rintro e w2 ⟨ao, m, c, rfl, hown, hB2⟩
  go_wp2_with fail
  refine (open_any (some ⟨w2.heap.size, 0, none⟩) 1 1 [0] _ (holds_lit w2 [0] 5) (by omega) (by intro x hx; simp at hx; omega)).mono ?_
  rintro e w3 ⟨b3, g3, rfl, hb3, hg3, hrd3, hbel3⟩
  have hG3 : w2.grownBy w3 none := grownBy_trans (World.grownBy_alloc _ _ _) (below_grown hbel3)
  clear hb3 hg3 hrd3 hbel3
  go_wp2_with fail
  refine (take35_none _ _ _).mono ?_
  rintro e w4 ⟨rfl, hB4⟩
  have hG4 := grownBy_trans hG3 (below_grown hB4)
  clear hG3 hB4
  go_wp2_with fail
  refine (take31_nil _ _).mono ?_
  rintro e w5 ⟨rfl, hB5⟩
  have hG5 := grownBy_trans hG4 (below_grown hB5)
  have hcv := (hown.kept hG5 (by intro k hk; cases hk)).conv
  rw [show strOfNums [0] = { data := #[0] } by decide] at hcv
  have hB : Hid (Below _ _ w5) := hide (hB2.grown hG5 hB2.size (by intro k hk; cases hk))
  clear hG4 hB5 hG5 hB2 hown
  go_wp2_with (first | (go_at_call 23; refine (num_err _ _).mono ?_; rintro e w' ⟨rfl, rfl⟩))
  refine (nothing36 _ _ (.inl rfl)).mono ?_
  rintro e w6 ⟨rfl, hB6⟩
  clear hcv
  go_wp2_with fail
  refine (nothing36 _ _ (.inr ⟨_, rfl, by simp⟩)).mono ?_
  rintro e w7 ⟨rfl, hB7⟩
  go_wp2_with fail
  refine (known18 _).mono ?_
  rintro e w8 ⟨rfl, hB8⟩
  have h6 := hB.out.trans (hB6.mono hB.out.size)
  have h7 := (h6.alloc h6.size _).trans (hB7.mono (by simp; have := h6.size; omega))
  have h8 := hide (h7.trans (hB8.mono h7.size))
  clear hB hB6 hB7 hB8 h6 h7
  go_wp2
  go_ret
  exact ⟨rfl, unhide h8⟩

end Go.Proofs.Ytaljkpndfjfgdaa
