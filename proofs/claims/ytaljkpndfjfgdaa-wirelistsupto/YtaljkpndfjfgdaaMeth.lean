/-
  The walks of the reader's methods Number, Signed, Flag, Bytes and of what they call.
-/
import Derived.Test.YtaljkpndfjfgdaaWhole
namespace Go.Proofs.Ytaljkpndfjfgdaa
open Go.RowKit

theorem Tells.alloc {w w1 : World} {o : Obj} {b g : Nat} {v : Value} {er : Int} {l : List Int} {e : Ending} (h : Tells (w.alloc o) b g v er l e w1) : Tells w b g v er l e w1 :=
  ⟨h.1, h.2.1, grownBy_trans (World.grownBy_alloc _ _ _) h.2.2⟩

theorem rd_alloc {w : World} {b g : Nat} {l : List Int} (h : Rd w b g l) (o : Obj) : Rd (w.alloc o) b g l := h.keep (World.grownBy_alloc w o none) (by simp) (by simp)

theorem rdNum_cases (l : List Int) : (rdNum l).2.1 = 0 ∨ (rdNum l = (0, 4, l)) := by
  unfold rdNum; cases dec 0 0 l with
  | none => right; rfl
  | some p => left; rfl

set_option maxHeartbeats 400000 in
/-- Reader.Number -/
theorem Number25 (b g : Nat) (l : List Int) (w : World) (h : Rd w b g l) :
    Calls Try.prog 25 #[.pointer (some ⟨b, 0, none⟩)] w fun e w' => Tells w b g (.int .u64 (rdNum l).1) (rdNum l).2.1 (rdNum l).2.2 e w' := by
  obtain ⟨ao, m, c, hat⟩ := h.at
  have hN := number46 b g l (w.alloc (was ao m c)) (rd_alloc h _)
  have H : Hid (Calls Try.prog 45 #[.pointer (some ⟨b, 0, none⟩), .func (.func 46) #[] #[]] w fun e w' => Tells w b g (.int .u64 (rdNum l).1) (rdNum l).2.1 (rdNum l).2.2 e w') := by
    rcases rdNum_cases l with h0 | h4
    · refine whole45_ok b g l ao m c w hat _ (hN.mono ?_)
      intro e w1 ht
      exact ⟨⟨_, by rw [ht.1, h0]⟩, ht.alloc⟩
    · rw [h4] at hN ⊢
      refine whole45_bad b g l ao m c w hat 4 (by decide) (hN.mono ?_)
      intro e w1 ht
      exact ⟨⟨_, ht.1⟩, ⟨_, ht.2.1⟩, ht.2.2⟩
  clear hN
  go_enter Try.func25, Try.ntmps25
  go_wp2_with fail
  refine H.out.mono ?_
  rintro e w1 ⟨rfl, h1, h2⟩
  go_wp2
  go_ret2
  exact ⟨rfl, h1, h2⟩

theorem Number25_nil (p : Value) (w : World) (h : Nil w p) : Calls Try.prog 25 #[p] w fun e w' => e = .returned (.tuple #[.int .u64 0, .int .i64 1]) ∧ w' = w := by
  go_enter Try.func25, Try.ntmps25
  go_wp2_with fail
  refine (whole45_nil p _ w h).mono ?_
  rintro e w1 ⟨rfl, rfl⟩
  go_wp2
  go_ret2
  exact ⟨rfl, rfl⟩
theorem Signed26_nil (p : Value) (w : World) (h : Nil w p) : Calls Try.prog 26 #[p] w fun e w' => e = .returned (.tuple #[.int .i64 0, .int .i64 1]) ∧ w' = w := by
  go_enter Try.func26, Try.ntmps26
  go_wp2_with fail
  refine (whole47_nil p _ w h).mono ?_
  rintro e w1 ⟨rfl, rfl⟩
  go_wp2
  go_ret2
  exact ⟨rfl, rfl⟩
theorem Flag28_nil (p : Value) (w : World) (h : Nil w p) : Calls Try.prog 28 #[p] w fun e w' => e = .returned (.tuple #[.bool false, .int .i64 1]) ∧ w' = w := by
  go_enter Try.func28, Try.ntmps28
  go_wp2_with fail
  refine (whole52_nil p _ w h).mono ?_
  rintro e w1 ⟨rfl, rfl⟩
  go_wp2
  go_ret2
  exact ⟨rfl, rfl⟩
theorem Nil.alloc {w : World} {p : Value} (h : Nil w p) (o : Obj) : Nil (w.alloc o) p := by
  rcases h with rfl | ⟨b, rfl, hc⟩
  · exact .inl rfl
  · exact .inr ⟨b, rfl, Below.keeps ((Below.refl _ _).alloc (Nat.le_refl _) o) _ _ hc⟩
theorem Bytes27_nil (p : Value) (x : Int) (w : World) (h : Nil w p) : Calls Try.prog 27 #[p, .int .i64 x] w fun e w' => e = .returned (.tuple #[.slice none 0 0, .int .i64 1]) ∧ w' = w.alloc (.cells #[.int .i64 x] 3) := by
  go_enter Try.func27, Try.ntmps27
  go_wp2_with fail
  refine (whole49_nil p _ _ (h.alloc _)).mono ?_
  rintro e w1 ⟨rfl, rfl⟩
  go_wp2
  go_ret2
  exact ⟨rfl, rfl⟩
theorem Left21_nil (p : Value) (w : World) (h : Nil w p) : Calls Try.prog 21 #[p] w fun e w' => e = .returned (.int .i64 0) ∧ w' = w := by
  go_enter Try.func21, Try.ntmps21
  go_wp2_with fail
  refine (nil_none h).mono ?_
  rintro e w1 ⟨rfl, rfl⟩
  go_wp2
  go_ret
  exact ⟨rfl, rfl⟩
theorem End24_nil (p : Value) (w : World) (h : Nil w p) : Calls Try.prog 24 #[p] w fun e w' => e = .returned (.int .i64 1) ∧ w' = w := by
  go_enter Try.func24, Try.ntmps24
  go_wp2_with fail
  refine (nil_none h).mono ?_
  rintro e w1 ⟨rfl, rfl⟩
  go_wp2
  go_ret
  exact ⟨rfl, rfl⟩

set_option maxHeartbeats 400000 in
/-- count -/
theorem count64 (b g : Nat) (l : List Int) (w : World) (h : Rd w b g l) (most : Int) (hm : most ≤ 9223372036854775807) :
    Calls Try.prog 64 #[.pointer (some ⟨b, 0, none⟩), .int .i64 most] w fun e w' => Tells w b g (.int .i64 (rdCount most l).1) (rdCount most l).2.1 (rdCount most l).2.2 e w' := by
  have hN := number46 b g l w h
  have hlt := rdNum_lt h.1
  by_cases h0 : most < 0
  · have e1 : rdCount most l = (0, 2, l) := by unfold rdCount; rw [if_pos h0]
    rw [e1]
    clear hN hlt e1
    go_enter Try.func64, Try.ntmps64
    go_wp2
    go_ret2
    exact ⟨rfl, h, World.grownBy.refl _ _⟩
  · cases hd : dec 0 0 l with
    | none =>
      have e1 : rdCount most l = (0, 4, l) := by unfold rdCount; rw [if_neg h0, hd]
      rw [e1]
      rw [rdNum_none hd] at hN
      have HN := hide hN
      clear hN hlt e1 hd
      go_enter Try.func64, Try.ntmps64
      go_wp2_with fail
      refine (unhide HN).mono ?_
      rintro e w1 ⟨rfl, h1, h2⟩
      clear HN
      go_wp2
      go_ret2
      exact ⟨rfl, h1, h2⟩
    | some p =>
      obtain ⟨n, k⟩ := p
      rw [rdNum_some hd] at hN hlt
      have HN := hide hN
      simp only at hlt
      clear hN
      by_cases hc : most < (n : Int)
      · have e1 : rdCount most l = (0, 3, l.drop k) := by unfold rdCount; rw [if_neg h0, hd]; simp [hc]
        rw [e1]
        clear e1 hd
        go_enter Try.func64, Try.ntmps64
        go_wp2_with fail
        refine (unhide HN).mono ?_
        rintro e w1 ⟨rfl, h1, h2⟩
        clear HN
        go_wp2
        go_ret2
        exact ⟨rfl, h1, h2⟩
      · have e1 : rdCount most l = (n, 0, l.drop k) := by unfold rdCount; rw [if_neg h0, hd]; simp [hc]
        rw [e1]
        clear e1 hd
        go_enter Try.func64, Try.ntmps64
        go_wp2_with fail
        refine (unhide HN).mono ?_
        rintro e w1 ⟨rfl, h1, h2⟩
        clear HN
        go_wp2
        go_ret2
        exact ⟨rfl, h1, h2⟩

end Go.Proofs.Ytaljkpndfjfgdaa
