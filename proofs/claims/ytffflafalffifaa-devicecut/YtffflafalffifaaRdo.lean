/-
  The walks of the document's device: does, Read, Up, Cut, Whole, Fence.
-/
import Derived.Test.YtffflafalffifaaRdev
namespace Go.Proofs.Ytffflafalffifaa
open Go.RowKit

/-- A cell of the head is written. -/
theorem Rv.put {w : World} {r sg eg i : Nat} {u : Value} {D D' : Dev} (h : Rv w r sg eg D) (hok : D'.Ok) (hS : D'.S = D.S) (hE : D'.E = D.E) (hN : D'.N = D.N) (hc : ∀ cap ecap, refCells D' sg cap eg ecap = (refCells D sg cap eg ecap).setIfInBounds i u) : Rv (w.setCell ⟨r, i, none⟩ u) r sg eg D' := by
  obtain ⟨cap, ecap, ex, a1, ⟨ex', a2, a3⟩, a4, a5⟩ := h.lay
  refine ⟨hok, h.ne, cap, ecap, ex, ?_, ⟨ex', ?_, ?_⟩, ?_, ?_⟩
  · rw [heap_set a1, hc]
  · rw [hS]; exact heap_set_ne a2 (Ne.symm h.ne.1)
  · rw [hS]; exact a3
  · rw [hE, hN]; exact heap_set_ne a4 (Ne.symm h.ne.2.1)
  · rw [hN]; exact a5

/-- One thing is done, its bytes apart: the device, and whether. -/
def Dev.does (D : Dev) : Dev × Bool :=
  if D.set = true ∧ D.left = 0 then ({ D with lost := true }, false) else ({ D with left := if D.set then D.left - 1 else D.left, done := wrap64 (D.done + 1) }, true)
theorem step_does (D : Dev) (S' : List (List Int)) (E' : List Int) : D.step S' E' = if D.does.2 then ({ D.does.1 with S := S', E := E' }, true) else (D.does.1, false) := by
  unfold Dev.step Dev.does
  split <;> simp
theorem does_S (D : Dev) : D.does.1.S = D.S ∧ D.does.1.E = D.E ∧ D.does.1.N = D.N := by unfold Dev.does; split <;> exact ⟨rfl, rfl, rfl⟩

theorem ref_lost (D : Dev) (x : Bool) (sg cap eg ecap : Nat) : refCells { D with lost := x } sg cap eg ecap = (refCells D sg cap eg ecap).setIfInBounds 3 (.bool x) := by simp [refCells, Dev.rleft]
theorem ref_done (D : Dev) (x : Int) (sg cap eg ecap : Nat) : refCells { D with done := x } sg cap eg ecap = (refCells D sg cap eg ecap).setIfInBounds 4 (.int .i64 x) := by simp [refCells, Dev.rleft]
theorem ref_left (D : Dev) (x : Int) (hs : D.set = true) (sg cap eg ecap : Nat) : refCells { D with left := x } sg cap eg ecap = (refCells D sg cap eg ecap).setIfInBounds 2 (.int .i64 x) := by simp [refCells, Dev.rleft, hs]

theorem ref_none (D : Dev) (sg cap eg ecap : Nat) : refCells { D with set := false, left := 0 } sg cap eg ecap = (refCells D sg cap eg ecap).setIfInBounds 2 (.int .i64 (-1)) := by simp [refCells, Dev.rleft]
theorem ref_set (D : Dev) (n : Int) (sg cap eg ecap : Nat) : refCells { D with set := true, left := n } sg cap eg ecap = (refCells D sg cap eg ecap).setIfInBounds 2 (.int .i64 n) := by simp [refCells, Dev.rleft]

theorem r_does (r sg eg : Nat) (D : Dev) (w : World) (h : Rv w r sg eg D) : Calls Try.prog 60 #[P0 r] w fun e w' => e = .returned (.bool D.does.2) ∧ Rv w' r sg eg D.does.1 ∧ Kept [r] w w' := by
  obtain ⟨cap, ecap, c0, c1, c2, c3, c4, cf, hb, hec⟩ := h.cells
  have hok := h.ok
  have hl0 := hok.l0
  have f2 := cf 2
  have f3 := cf 3
  have f4 := cf 4
  clear cf
  cases hs : D.set with
  | false =>
    have hR : D.does = ({ D with done := wrap64 (D.done + 1) }, true) := by simp [Dev.does, hs]
    have hr : D.rleft = -1 := by simp [Dev.rleft, hs]
    rw [hR]
    rw [hr] at c2
    have hp := hide (h.put (hok.done' (wrap64 (D.done + 1))) rfl rfl rfl (fun cap ecap => ref_done D _ sg cap eg ecap))
    clear hR hr
    go_enter Try.func60, Try.ntmps60
    go_wp2_with fail
    go_ret
    exact ⟨rfl, unhide hp, (Kept.refl _ _).setCell (by simp) _⟩
  | true =>
    have hr : D.rleft = D.left := by simp [Dev.rleft, hs]
    rw [hr] at c2
    by_cases hz : D.left = 0
    · have hR : D.does = ({ D with lost := true }, false) := by simp [Dev.does, hs, hz]
      rw [hR]
      rw [hz] at c2
      have hp := hide (h.put (hok.lost' true) rfl rfl rfl (fun cap ecap => ref_lost D true sg cap eg ecap))
      clear hR hr hz
      go_enter Try.func60, Try.ntmps60
      go_wp2_with fail
      go_ret
      exact ⟨rfl, unhide hp, (Kept.refl _ _).setCell (by simp) _⟩
    · have hR : D.does = ({ D with left := D.left - 1, done := wrap64 (D.done + 1) }, true) := by simp [Dev.does, hs, hz]
      rw [hR]
      have h1 := h.put (hok.left (x := D.left - 1) (by omega)) rfl rfl rfl (fun cap ecap => ref_left D _ hs sg cap eg ecap)
      have hp := hide (h1.put (h1.ok.done' (wrap64 (D.done + 1))) rfl rfl rfl (fun cap ecap => ref_done _ _ sg cap eg ecap))
      rw [hs] at hp
      clear hR hr h1
      go_enter Try.func60, Try.ntmps60
      go_wp2_with fail
      go_ret
      exact ⟨rfl, unhide hp, ((Kept.refl _ _).setCell (by simp) _).setCell (by simp) _⟩

theorem r_whole (r sg eg : Nat) (D : Dev) (w : World) (h : Rv w r sg eg D) : Calls Try.prog 46 #[P0 r] w fun e w' => e = .returned (.bool (!D.lost)) ∧ Rv w' r sg eg D.uncut ∧ Kept [r] w w' := by
  obtain ⟨cap, ecap, c0, c1, c2, c3, c4, cf, hb, hec⟩ := h.cells
  have hok := h.ok
  have f2 := cf 2
  have f3 := cf 3
  clear cf
  go_enter Try.func46, Try.ntmps46
  go_wp2_with fail
  go_ret
  have h1 := h.put (D' := { D with set := false, left := 0 }) ((hok.set' false).left (x := 0) (by omega)) rfl rfl rfl (fun cap ecap => ref_none D sg cap eg ecap)
  exact ⟨rfl, h1.put (D' := D.uncut) (h1.ok.lost' false) rfl rfl rfl (fun cap ecap => ref_lost { D with set := false, left := 0 } false sg cap eg ecap), ((Kept.refl _ _).setCell (by simp) _).setCell (by simp) _⟩

theorem r_cut (r sg eg : Nat) (D : Dev) (n : Int) (w : World) (h : Rv w r sg eg D) (hn : n ≤ 9223372036854775807) : Calls Try.prog 45 #[P0 r, .int .i64 n] w fun e w' => e = .returned (.int .i64 (D.cut n).1) ∧ Rv w' r sg eg (D.cut n).2 ∧ Kept [r] w w' := by
  obtain ⟨cap, ecap, c0, c1, c2, c3, c4, cf, hb, hec⟩ := h.cells
  have hok := h.ok
  have hl0 := hok.l0
  have f2 := cf 2
  have f3 := cf 3
  clear cf
  by_cases h0 : n < 0
  · have hU : D.cut n = (2, D) := by simp [Dev.cut, h0]
    rw [hU]
    clear hU
    go_enter Try.func45, Try.ntmps45
    go_wp2_with fail
    go_ret
    exact ⟨rfl, h, Kept.refl _ _⟩
  · cases hs : D.set with
    | true =>
      have hU : D.cut n = (9, D) := by simp [Dev.cut, h0, hs]
      have hr : D.rleft = D.left := by simp [Dev.rleft, hs]
      rw [hU]
      rw [hr] at c2
      clear hU hr
      go_enter Try.func45, Try.ntmps45
      go_wp2_with fail
      go_ret
      exact ⟨rfl, h, Kept.refl _ _⟩
    | false =>
      have hU : D.cut n = (0, { D with set := true, left := n, lost := false }) := by simp [Dev.cut, h0, hs]
      have hr : D.rleft = -1 := by simp [Dev.rleft, hs]
      rw [hU]
      rw [hr] at c2
      have h1 := h.put (D' := { D with set := true, left := n }) ((hok.set' true).left (x := n) (by omega)) rfl rfl rfl (fun cap ecap => ref_set D n sg cap eg ecap)
      have hp := hide (h1.put (h1.ok.lost' false) rfl rfl rfl (fun cap ecap => ref_lost _ false sg cap eg ecap))
      clear hU hr h1
      go_enter Try.func45, Try.ntmps45
      go_wp2_with fail
      go_ret
      exact ⟨rfl, unhide hp, ((Kept.refl _ _).setCell (by simp) _).setCell (by simp) _⟩

theorem Rv.putEp {w : World} {r sg eg k : Nat} {x : Int} {D : Dev} (h : Rv w r sg eg D) (hk : k < D.N) (hx : 0 ≤ x ∧ x ≤ 2147483647) : Rv (w.setCell ⟨eg, k, none⟩ (.int .i64 x)) r sg eg { D with E := D.E.set k x } := by
  obtain ⟨cap, ecap, ex, a1, ⟨ex', a2, a3⟩, a4, a5⟩ := h.lay
  refine ⟨h.ok.epoch k x hx, h.ne, cap, ecap, ex, heap_set_ne a1 h.ne.2.1, ⟨ex', heap_set_ne a2 h.ne.2.2, a3⟩, ?_, a5⟩
  have h1 := h.ok.n1
  have h8 := h.ok.e8
  rw [heap_set a4]
  congr 2
  rw [List.setIfInBounds_toArray, List.set_append_left _ _ (by simp; omega)]
  congr 2
  rw [← List.map_set, List.take_set]

/-- The document's Up. -/
theorem r_up (r sg eg : Nat) (D : Dev) (x : Int) (w : World) (h : Rv w r sg eg D) : Calls Try.prog 43 #[P0 r, .int .i64 x] w fun e w' => e = .returned (.tuple #[.int .i64 (D.up x).1, .int .i64 (D.up x).2.1]) ∧ Rv w' r sg eg (D.up x).2.2 ∧ Kept [r, eg] w w' := by
  have HC := r_epoch r sg eg D x w h
  cases hN : hasN D.N x with
  | false =>
    have hE : D.epoch x = (0, 2) := by simp [Dev.epoch, hN]
    have hU : D.up x = (0, 2, D) := by simp [Dev.up, hN]
    rw [hU]
    rw [hE] at HC
    have HC := hide HC
    clear hE hU
    go_enter Try.func43, Try.ntmps43
    go_wp2_with (go_at_call 36; refine (unhide HC).mono ?_; rintro e w' ⟨rfl, rfl⟩)
    go_ret2
    exact ⟨rfl, h, Kept.refl _ _⟩
  | true =>
    obtain ⟨h0, h1⟩ := hasN_true hN
    obtain ⟨k, rfl⟩ := Int.eq_ofNat_of_zero_le h0
    have hkN : k < D.N := by omega
    have hE : D.epoch k = (D.ep k, 0) := by simp [Dev.epoch, hN]
    have hle := ep_le h.ok k hkN
    rw [hE] at HC
    have HC := hide HC
    clear hE
    by_cases hm : D.ep k = 2147483647
    · have hU : D.up k = (0, 5, D) := by simp [Dev.up, hN, hm]
      rw [hU]
      clear hU
      go_enter Try.func43, Try.ntmps43
      go_wp2_with (go_at_call 36; refine (unhide HC).mono ?_; rintro e w' ⟨rfl, rfl⟩)
      go_ret2
      exact ⟨rfl, h, Kept.refl _ _⟩
    · have hU : D.up k = (D.ep k + 1, 0, (D.step D.S (D.E.set k (D.ep k + 1))).1) := by simp [Dev.up, hN, hm]
      rw [hU, step_does]
      have HD := hide (r_does r sg eg D w h)
      cases hd : D.does.2 with
      | true =>
        rw [hd] at HD
        clear hU h1
        go_enter Try.func43, Try.ntmps43
        go_wp2_with (first | (go_at_call 36; refine (unhide HC).mono ?_; rintro e w' ⟨rfl, rfl⟩))
        refine (unhide HD).mono ?_
        rintro e w1 ⟨rfl, hd1, hk1⟩
        obtain ⟨cap, ecap, c0, c1, c2, c3, c4, cf, hb, hec⟩ := hd1.cells
        have hs := does_S D
        have hce := hd1.epoch k (by rw [hs.2.2]; exact hkN)
        have hfe : w1.frozen? ⟨eg, k, none⟩ = false := by
          obtain ⟨_, _, _, _, _, a3, _⟩ := hd1.lay
          exact frozen_of_block a3 k
        have hp := hide (hd1.putEp (k := k) (x := D.ep k + 1) (by rw [hs.2.2]; exact hkN) (by omega))
        rw [hs.2.2] at c1
        rw [hs.2.1, hs.1, hs.2.2] at hp
        have hkI : (k : Int) < D.N := by omega
        clear cf HC HD hb
        go_wp2_with fail
        go_ret2
        refine ⟨rfl, ?_, (hk1.mono (by simp)).setCell (by simp) _⟩
        exact unhide hp
      | false =>
        rw [hd] at HD
        clear hU h1
        go_enter Try.func43, Try.ntmps43
        go_wp2_with (first | (go_at_call 36; refine (unhide HC).mono ?_; rintro e w' ⟨rfl, rfl⟩) | (go_at_call 60; refine (unhide HD).mono ?_; rintro e w1 ⟨rfl, hd1, hk1⟩))
        go_ret2
        exact ⟨rfl, hd1, hk1.mono (by simp)⟩

end Go.Proofs.Ytffflafalffifaa
