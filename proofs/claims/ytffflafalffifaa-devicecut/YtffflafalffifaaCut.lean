/-
  The walks of Cut and Whole.
-/
import Derived.Test.YtffflafalffifaaWri
namespace Go.Proofs.Ytffflafalffifaa
open Go.RowKit

/-- What Whole leaves. -/
def Dev.uncut (D : Dev) : Dev := { D with set := false, left := 0, lost := false }

theorem Dv.recut {w : World} {b g : Nat} {D : Dev} (h : Dv w b g D) (s : Bool) (l : Int) (hl : 0 ≤ l ∧ l ≤ 9223372036854775807) (o : Bool) :
    Dv (((w.setCell ⟨b, 11, none⟩ (.bool s)).setCell ⟨b, 12, none⟩ (.int .i64 l)).setCell ⟨b, 13, none⟩ (.bool o)) b g { D with set := s, left := l, lost := o } := by
  have h1 := h.put (h.ok.set' s) rfl (fun cap => cells_set D g cap h.ok.e8 s)
  have h2 := h1.put (h1.ok.left hl) rfl (fun cap => cells_left _ g cap h1.ok.e8 l)
  exact h2.put (h2.ok.lost' o) rfl (fun cap => cells_lost _ g cap h2.ok.e8 o)
theorem kept_recut (w : World) (b : Nat) (X : List Nat) (hb : b ∈ X) (u v x : Value) : Kept X w (((w.setCell ⟨b, 11, none⟩ u).setCell ⟨b, 12, none⟩ v).setCell ⟨b, 13, none⟩ x) :=
  (((Kept.refl _ _).setCell (fun _ => hb) _).setCell (fun _ => hb) _).setCell (fun _ => hb) _

theorem whole_nil (p : Value) (w : World) (h : Sz w p 0) : Calls Try.prog 20 #[p] w fun e w' => e = .returned (.bool true) ∧ w' = w := by
  go_enter Try.func20, Try.ntmps20
  go_wp2_with (go_at_call 48; refine (none_yes _ _ h).mono ?_; rintro e w' ⟨rfl, rfl⟩)
  go_ret
  exact ⟨rfl, rfl⟩

theorem whole20 (b g : Nat) (D : Dev) (w : World) (h : Dv w b g D) :
    Calls Try.prog 20 #[.pointer (some ⟨b, 0, none⟩)] w fun e w' => e = .returned (.bool (!D.lost)) ∧ Dv w' b g D.uncut ∧ Kept [b, g] w w' := by
  have hok := h.ok
  obtain ⟨cap, hh, _⟩ := h.lay
  obtain ⟨_, _, _, hst, hlf, hlo⟩ := hh.cells h.ok
  have hf1 := hh.frozen 11
  have hf2 := hh.frozen 12
  have hf3 := hh.frozen 13
  go_enter Try.func20, Try.ntmps20
  go_wp2_with (first | (go_at_call 48; refine (none_no _ _ _ _ h).mono ?_; rintro e w' ⟨rfl, rfl⟩))
  go_ret
  exact ⟨rfl, h.recut false 0 (by omega) false, kept_recut _ _ _ (by simp) _ _ _⟩

/-- What Cut tells, and the device behind it. -/
def Dev.cut (D : Dev) (n : Int) : Int × Dev := if n < 0 then (2, D) else if D.set then (9, D) else (0, { D with set := true, left := n, lost := false })

theorem cut_nil (p : Value) (n : Int) (w : World) (h : Sz w p 0) : Calls Try.prog 25 #[p, .int .i64 n] w fun e w' => e = .returned (.int .i64 1) ∧ w' = w := by
  go_enter Try.func25, Try.ntmps25
  go_wp2_with (go_at_call 48; refine (none_yes _ _ h).mono ?_; rintro e w' ⟨rfl, rfl⟩)
  go_ret
  exact ⟨rfl, rfl⟩

theorem cut25 (b g : Nat) (D : Dev) (n : Int) (w : World) (h : Dv w b g D) (hn : n ≤ 9223372036854775807) :
    Calls Try.prog 25 #[.pointer (some ⟨b, 0, none⟩), .int .i64 n] w fun e w' => e = .returned (.int .i64 (D.cut n).1) ∧ Dv w' b g (D.cut n).2 ∧ Kept [b, g] w w' := by
  have hok := h.ok
  obtain ⟨cap, hh, _⟩ := h.lay
  obtain ⟨_, _, _, hst, hlf, hlo⟩ := hh.cells h.ok
  have hf1 := hh.frozen 11
  have hf2 := hh.frozen 12
  have hf3 := hh.frozen 13
  by_cases h0 : n < 0
  · have hU : D.cut n = (2, D) := by simp [Dev.cut, h0]
    rw [hU]
    clear hU
    go_enter Try.func25, Try.ntmps25
    go_wp2_with (first | (go_at_call 48; refine (none_no _ _ _ _ h).mono ?_; rintro e w' ⟨rfl, rfl⟩))
    go_ret
    exact ⟨rfl, h, Kept.refl _ _⟩
  · cases hs : D.set with
    | true =>
      have hU : D.cut n = (9, D) := by simp [Dev.cut, h0, hs]
      rw [hU]
      rw [hs] at hst
      clear hU
      go_enter Try.func25, Try.ntmps25
      go_wp2_with (first | (go_at_call 48; refine (none_no _ _ _ _ h).mono ?_; rintro e w' ⟨rfl, rfl⟩))
      go_ret
      exact ⟨rfl, h, Kept.refl _ _⟩
    | false =>
      have hU : D.cut n = (0, { D with set := true, left := n, lost := false }) := by simp [Dev.cut, h0, hs]
      rw [hU]
      rw [hs] at hst
      clear hU
      go_enter Try.func25, Try.ntmps25
      go_wp2_with (first | (go_at_call 48; refine (none_no _ _ _ _ h).mono ?_; rintro e w' ⟨rfl, rfl⟩))
      go_ret
      exact ⟨rfl, h.recut true n (by omega) false, kept_recut _ _ _ (by simp) _ _ _⟩

end Go.Proofs.Ytffflafalffifaa
