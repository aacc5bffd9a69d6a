/-
  The document's device, where it lies, and the walks of its methods that look; does. The walks of the document's device: does, Read, Up, Cut, Whole, Fence. The walks of the document's Fence and Read.
-/
import Derived.Test.YtffflafalffifaaOf

namespace Go.Proofs.Ytffflafalffifaa
open Go.RowKit

/-- What the document's device says of a cut: how many are left, -1: there is none. -/
def Dev.rleft (D : Dev) : Int := if D.set then D.left else -1
def refCells (D : Dev) (sg cap eg ecap : Nat) : Array Value := #[.slice (some ⟨sg, 0, none⟩) D.S.length cap, .slice (some ⟨eg, 0, none⟩) D.N ecap, .int .i64 D.rleft, .bool D.lost, .int .i64 D.done]

/-- The document's device at block r, its sectors at sg, its epochs at eg. -/
structure Rv (w : World) (r sg eg : Nat) (D : Dev) : Prop where
  ok : D.Ok
  ne : r ≠ sg ∧ r ≠ eg ∧ sg ≠ eg
  lay : ∃ cap ecap ex, w.heap[r]? = some (.cells (refCells D sg cap eg ecap) 51 (0, 0)) ∧ Body w sg cap D.S ∧ w.heap[eg]? = some (.cells ((D.E.take D.N).map (Value.int .i64) ++ ex).toArray 2 (0, 0)) ∧ D.N ≤ ecap

theorem Rv.kept {w w' : World} {r sg eg : Nat} {D : Dev} {X : List Nat} (h : Rv w r sg eg D) (hk : Kept X w w') (h1 : r ∉ X) (h2 : sg ∉ X) (h3 : eg ∉ X) : Rv w' r sg eg D := by
  obtain ⟨cap, ecap, ex, a1, ⟨ex', a2, a3⟩, a4⟩ := h.lay
  exact ⟨h.ok, h.ne, cap, ecap, ex, hk.heap a1 h1, ⟨ex', hk.heap a2 h2, a3⟩, hk.heap a4.1 h3, a4.2⟩
theorem Rv.lt {w : World} {r sg eg : Nat} {D : Dev} (h : Rv w r sg eg D) : r < w.heap.size ∧ sg < w.heap.size ∧ eg < w.heap.size := by
  obtain ⟨cap, ecap, ex, a1, ⟨ex', a2, a3⟩, a4⟩ := h.lay
  exact ⟨lt_of_block a1, lt_of_block a2, lt_of_block a4.1⟩
/-- What stands in the head, cell by cell. -/
theorem Rv.cells {w : World} {r sg eg : Nat} {D : Dev} (h : Rv w r sg eg D) : ∃ cap ecap, w.cell? ⟨r, 0, none⟩ = some (.slice (some ⟨sg, 0, none⟩) D.S.length cap) ∧ w.cell? ⟨r, 1, none⟩ = some (.slice (some ⟨eg, 0, none⟩) D.N ecap) ∧ w.cell? ⟨r, 2, none⟩ = some (.int .i64 D.rleft) ∧ w.cell? ⟨r, 3, none⟩ = some (.bool D.lost) ∧ w.cell? ⟨r, 4, none⟩ = some (.int .i64 D.done) ∧ (∀ i, w.frozen? ⟨r, i, none⟩ = false) ∧ Body w sg cap D.S ∧ D.N ≤ ecap := by
  obtain ⟨cap, ecap, ex, a1, a2, a3, a4⟩ := h.lay
  refine ⟨cap, ecap, ?_, ?_, ?_, ?_, ?_, fun i => frozen_of_block a1 i, a2, a4⟩ <;> rw [cell_of_block a1] <;> rfl
theorem Rv.epoch {w : World} {r sg eg : Nat} {D : Dev} (h : Rv w r sg eg D) (k : Nat) (hk : k < D.N) : w.cell? ⟨eg, k, none⟩ = some (.int .i64 (D.ep k)) := by
  obtain ⟨cap, ecap, ex, a1, a2, a3, a4⟩ := h.lay
  have h1 := h.ok.n1
  have h8 := h.ok.e8
  rw [cell_of_block a3, List.getElem?_toArray, List.getElem?_append_left (by simp; omega)]
  simp [Dev.ep, List.getD, hk, show k < D.E.length by omega]
theorem rleft_zero (D : Dev) : D.rleft = 0 ↔ (D.set = true ∧ D.left = 0) := by
  unfold Dev.rleft
  cases D.set <;> simp
theorem rleft_bd {D : Dev} (h : D.Ok) : -1 ≤ D.rleft ∧ D.rleft ≤ 9223372036854775807 := by
  have := h.l0
  unfold Dev.rleft
  split <;> omega

theorem r_epoch (r sg eg : Nat) (D : Dev) (x : Int) (w : World) (h : Rv w r sg eg D) : Calls Try.prog 36 #[P0 r, .int .i64 x] w fun e w' => e = .returned (.tuple #[.int .i64 (D.epoch x).1, .int .i64 (D.epoch x).2]) ∧ w' = w := by
  obtain ⟨cap, ecap, c0, c1, c2, c3, c4, cf, hb, hec⟩ := h.cells
  by_cases h0 : x < 0
  · have hE : D.epoch x = (0, 2) := by simp [Dev.epoch, hasN]; omega
    rw [hE]
    clear hE
    go_enter Try.func36, Try.ntmps36
    go_wp2_with fail
    go_ret2
    exact ⟨rfl, rfl⟩
  · obtain ⟨k, rfl⟩ := Int.eq_ofNat_of_zero_le (show 0 ≤ x by omega)
    by_cases hk : k < D.N
    · have hE : D.epoch k = (D.ep k, 0) := by simp [Dev.epoch, hasN, hk]
      rw [hE]
      have hc := h.epoch k hk
      clear hE
      go_enter Try.func36, Try.ntmps36
      go_wp2_with fail
      go_ret2
      exact ⟨rfl, rfl⟩
    · have hE : D.epoch k = (0, 2) := by simp [Dev.epoch, hasN, hk]
      rw [hE]
      clear hE
      go_enter Try.func36, Try.ntmps36
      go_wp2_with fail
      go_ret2
      exact ⟨rfl, rfl⟩

theorem r_fenced (r sg eg : Nat) (D : Dev) (x ep : Int) (w : World) (h : Rv w r sg eg D) : Calls Try.prog 38 #[P0 r, .int .i64 x, .int .i64 ep] w fun e w' => e = .returned (.bool (D.fenced x ep)) ∧ w' = w := by
  obtain ⟨cap, ecap, c0, c1, c2, c3, c4, cf, hb, hec⟩ := h.cells
  by_cases h0 : x < 0
  · have hE : Hid (D.fenced x ep = false) := by simp [Dev.fenced, hasN, Hid]; omega
    go_enter Try.func38, Try.ntmps38
    go_wp2_with fail
    go_ret
    exact ⟨ret_bool hE.out.symm, rfl⟩
  · obtain ⟨k, rfl⟩ := Int.eq_ofNat_of_zero_le (show 0 ≤ x by omega)
    by_cases hk : k < D.N
    · have hE : Hid (D.fenced k ep = decide (ep < D.ep k)) := by simp [Dev.fenced, hasN, hk, Hid]
      have hc := h.epoch k hk
      go_enter Try.func38, Try.ntmps38
      go_wp2_with fail
      go_ret
      exact ⟨ret_bool hE.out.symm, rfl⟩
    · have hE : Hid (D.fenced k ep = false) := by simp [Dev.fenced, hasN, hk, Hid]
      go_enter Try.func38, Try.ntmps38
      go_wp2_with fail
      go_ret
      exact ⟨ret_bool hE.out.symm, rfl⟩

/-- Who may write, of the document's. -/
def Dev.whoR (D : Dev) (x ep : Int) : Int := if hasN D.N x = true ∧ 0 ≤ ep ∧ ep ≤ D.ep x then 0 else 2
theorem r_who (r sg eg : Nat) (D : Dev) (x ep : Int) (w : World) (h : Rv w r sg eg D) : Calls Try.prog 59 #[P0 r, .int .i64 x, .int .i64 ep] w fun e w' => e = .returned (.int .i64 (D.whoR x ep)) ∧ w' = w := by
  obtain ⟨cap, ecap, c0, c1, c2, c3, c4, cf, hb, hec⟩ := h.cells
  by_cases h0 : x < 0
  · have hE : Hid (D.whoR x ep = 2) := by simp [Dev.whoR, hasN, Hid]; omega
    go_enter Try.func59, Try.ntmps59
    go_wp2_with fail
    go_ret
    exact ⟨ret_int hE.out.symm, rfl⟩
  · obtain ⟨k, rfl⟩ := Int.eq_ofNat_of_zero_le (show 0 ≤ x by omega)
    by_cases hk : k < D.N
    · have hc := h.epoch k hk
      by_cases he0 : ep < 0
      · have hE : Hid (D.whoR k ep = 2) := by simp [Dev.whoR, hasN, Hid, hk]; omega
        go_enter Try.func59, Try.ntmps59
        go_wp2_with fail
        go_ret
        exact ⟨ret_int hE.out.symm, rfl⟩
      · by_cases he1 : ep ≤ D.ep k
        · have hE : Hid (D.whoR k ep = 0) := by simp [Dev.whoR, hasN, Hid, hk, he1]; omega
          go_enter Try.func59, Try.ntmps59
          go_wp2_with fail
          go_ret
          exact ⟨ret_int hE.out.symm, rfl⟩
        · have hE : Hid (D.whoR k ep = 2) := by simp [Dev.whoR, hasN, Hid, hk]; omega
          go_enter Try.func59, Try.ntmps59
          go_wp2_with fail
          go_ret
          exact ⟨ret_int hE.out.symm, rfl⟩
    · have hE : Hid (D.whoR k ep = 2) := by simp [Dev.whoR, hasN, Hid, hk]
      go_enter Try.func59, Try.ntmps59
      go_wp2_with fail
      go_ret
      exact ⟨ret_int hE.out.symm, rfl⟩

end Go.Proofs.Ytffflafalffifaa

namespace Go.Proofs.Ytffflafalffifaa
open Go.RowKit

/-- A cell of the head is written. -/
theorem Rv.put {w : World} {r sg eg i : Nat} {u : Value} {D D' : Dev} (h : Rv w r sg eg D) (hok : D'.Ok) (hS : D'.S = D.S) (hE : D'.E = D.E) (hN : D'.N = D.N) (hc : ∀ cap ecap, refCells D' sg cap eg ecap = (refCells D sg cap eg ecap).setIfInBounds i u) : Rv (w.setCell ⟨r, i, none⟩ u) r sg eg D' := by
  obtain ⟨cap, ecap, ex, a1, ⟨ex', a2, a3⟩, a4, a5⟩ := h.lay
  refine ⟨hok, h.ne, cap, ecap, ex, ?_, ⟨ex', ?_, ?_⟩, ?_, ?_⟩
  · rw [heap_set a1, hc]
  · rw [hS]; exact heap_set_ne a2 (Ne.symm h.ne.1)
  · rw [hS]; exact a3
  · rw [hE, hN]; exact heap_set_ne a4 (Ne.symm h.ne.2.1)
  · rw [hN]; exact a5

/-- One thing is done, its bytes apart: the device, and whether. -/
def Dev.does (D : Dev) : Dev × Bool :=
  if D.set = true ∧ D.left = 0 then ({ D with lost := true }, false) else ({ D with left := if D.set then D.left - 1 else D.left, done := wrap64 (D.done + 1) }, true)
theorem step_does (D : Dev) (S' : List (List Int)) (E' : List Int) : D.step S' E' = if D.does.2 then ({ D.does.1 with S := S', E := E' }, true) else (D.does.1, false) := by
  unfold Dev.step Dev.does
  split <;> simp
theorem does_S (D : Dev) : D.does.1.S = D.S ∧ D.does.1.E = D.E ∧ D.does.1.N = D.N := by unfold Dev.does; split <;> exact ⟨rfl, rfl, rfl⟩

theorem ref_lost (D : Dev) (x : Bool) (sg cap eg ecap : Nat) : refCells { D with lost := x } sg cap eg ecap = (refCells D sg cap eg ecap).setIfInBounds 3 (.bool x) := by simp [refCells, Dev.rleft]
theorem ref_done (D : Dev) (x : Int) (sg cap eg ecap : Nat) : refCells { D with done := x } sg cap eg ecap = (refCells D sg cap eg ecap).setIfInBounds 4 (.int .i64 x) := by simp [refCells, Dev.rleft]
theorem ref_left (D : Dev) (x : Int) (hs : D.set = true) (sg cap eg ecap : Nat) : refCells { D with left := x } sg cap eg ecap = (refCells D sg cap eg ecap).setIfInBounds 2 (.int .i64 x) := by simp [refCells, Dev.rleft, hs]

theorem ref_none (D : Dev) (sg cap eg ecap : Nat) : refCells { D with set := false, left := 0 } sg cap eg ecap = (refCells D sg cap eg ecap).setIfInBounds 2 (.int .i64 (-1)) := by simp [refCells, Dev.rleft]
theorem ref_set (D : Dev) (n : Int) (sg cap eg ecap : Nat) : refCells { D with set := true, left := n } sg cap eg ecap = (refCells D sg cap eg ecap).setIfInBounds 2 (.int .i64 n) := by simp [refCells, Dev.rleft]

theorem r_does (r sg eg : Nat) (D : Dev) (w : World) (h : Rv w r sg eg D) : Calls Try.prog 60 #[P0 r] w fun e w' => e = .returned (.bool D.does.2) ∧ Rv w' r sg eg D.does.1 ∧ Kept [r] w w' := by
  obtain ⟨cap, ecap, c0, c1, c2, c3, c4, cf, hb, hec⟩ := h.cells
  have hok := h.ok
  have hl0 := hok.l0
  have f2 := cf 2
  have f3 := cf 3
  have f4 := cf 4
  clear cf
  cases hs : D.set with
  | false =>
    have hR : D.does = ({ D with done := wrap64 (D.done + 1) }, true) := by simp [Dev.does, hs]
    have hr : D.rleft = -1 := by simp [Dev.rleft, hs]
    rw [hR]
    rw [hr] at c2
    have hp := hide (h.put (hok.done' (wrap64 (D.done + 1))) rfl rfl rfl (fun cap ecap => ref_done D _ sg cap eg ecap))
    clear hR hr
    go_enter Try.func60, Try.ntmps60
    go_wp2_with fail
    go_ret
    exact ⟨rfl, unhide hp, (Kept.refl _ _).setCell (by simp) _⟩
  | true =>
    have hr : D.rleft = D.left := by simp [Dev.rleft, hs]
    rw [hr] at c2
    by_cases hz : D.left = 0
    · have hR : D.does = ({ D with lost := true }, false) := by simp [Dev.does, hs, hz]
      rw [hR]
      rw [hz] at c2
      have hp := hide (h.put (hok.lost' true) rfl rfl rfl (fun cap ecap => ref_lost D true sg cap eg ecap))
      clear hR hr hz
      go_enter Try.func60, Try.ntmps60
      go_wp2_with fail
      go_ret
      exact ⟨rfl, unhide hp, (Kept.refl _ _).setCell (by simp) _⟩
    · have hR : D.does = ({ D with left := D.left - 1, done := wrap64 (D.done + 1) }, true) := by simp [Dev.does, hs, hz]
      rw [hR]
      have h1 := h.put (hok.left (x := D.left - 1) (by omega)) rfl rfl rfl (fun cap ecap => ref_left D _ hs sg cap eg ecap)
      have hp := hide (h1.put (h1.ok.done' (wrap64 (D.done + 1))) rfl rfl rfl (fun cap ecap => ref_done _ _ sg cap eg ecap))
      rw [hs] at hp
      clear hR hr h1
      go_enter Try.func60, Try.ntmps60
      go_wp2_with fail
      go_ret
      exact ⟨rfl, unhide hp, ((Kept.refl _ _).setCell (by simp) _).setCell (by simp) _⟩

theorem r_whole (r sg eg : Nat) (D : Dev) (w : World) (h : Rv w r sg eg D) : Calls Try.prog 46 #[P0 r] w fun e w' => e = .returned (.bool (!D.lost)) ∧ Rv w' r sg eg D.uncut ∧ Kept [r] w w' := by
  obtain ⟨cap, ecap, c0, c1, c2, c3, c4, cf, hb, hec⟩ := h.cells
  have hok := h.ok
  have f2 := cf 2
  have f3 := cf 3
  clear cf
  go_enter Try.func46, Try.ntmps46
  go_wp2_with fail
  go_ret
  have h1 := h.put (D' := { D with set := false, left := 0 }) ((hok.set' false).left (x := 0) (by omega)) rfl rfl rfl (fun cap ecap => ref_none D sg cap eg ecap)
  exact ⟨rfl, h1.put (D' := D.uncut) (h1.ok.lost' false) rfl rfl rfl (fun cap ecap => ref_lost { D with set := false, left := 0 } false sg cap eg ecap), ((Kept.refl _ _).setCell (by simp) _).setCell (by simp) _⟩

theorem r_cut (r sg eg : Nat) (D : Dev) (n : Int) (w : World) (h : Rv w r sg eg D) (hn : n ≤ 9223372036854775807) : Calls Try.prog 45 #[P0 r, .int .i64 n] w fun e w' => e = .returned (.int .i64 (D.cut n).1) ∧ Rv w' r sg eg (D.cut n).2 ∧ Kept [r] w w' := by
  obtain ⟨cap, ecap, c0, c1, c2, c3, c4, cf, hb, hec⟩ := h.cells
  have hok := h.ok
  have hl0 := hok.l0
  have f2 := cf 2
  have f3 := cf 3
  clear cf
  by_cases h0 : n < 0
  · have hU : D.cut n = (2, D) := by simp [Dev.cut, h0]
    rw [hU]
    clear hU
    go_enter Try.func45, Try.ntmps45
    go_wp2_with fail
    go_ret
    exact ⟨rfl, h, Kept.refl _ _⟩
  · cases hs : D.set with
    | true =>
      have hU : D.cut n = (9, D) := by simp [Dev.cut, h0, hs]
      have hr : D.rleft = D.left := by simp [Dev.rleft, hs]
      rw [hU]
      rw [hr] at c2
      clear hU hr
      go_enter Try.func45, Try.ntmps45
      go_wp2_with fail
      go_ret
      exact ⟨rfl, h, Kept.refl _ _⟩
    | false =>
      have hU : D.cut n = (0, { D with set := true, left := n, lost := false }) := by simp [Dev.cut, h0, hs]
      have hr : D.rleft = -1 := by simp [Dev.rleft, hs]
      rw [hU]
      rw [hr] at c2
      have h1 := h.put (D' := { D with set := true, left := n }) ((hok.set' true).left (x := n) (by omega)) rfl rfl rfl (fun cap ecap => ref_set D n sg cap eg ecap)
      have hp := hide (h1.put (h1.ok.lost' false) rfl rfl rfl (fun cap ecap => ref_lost _ false sg cap eg ecap))
      clear hU hr h1
      go_enter Try.func45, Try.ntmps45
      go_wp2_with fail
      go_ret
      exact ⟨rfl, unhide hp, ((Kept.refl _ _).setCell (by simp) _).setCell (by simp) _⟩

theorem Rv.putEp {w : World} {r sg eg k : Nat} {x : Int} {D : Dev} (h : Rv w r sg eg D) (hk : k < D.N) (hx : 0 ≤ x ∧ x ≤ 2147483647) : Rv (w.setCell ⟨eg, k, none⟩ (.int .i64 x)) r sg eg { D with E := D.E.set k x } := by
  obtain ⟨cap, ecap, ex, a1, ⟨ex', a2, a3⟩, a4, a5⟩ := h.lay
  refine ⟨h.ok.epoch k x hx, h.ne, cap, ecap, ex, heap_set_ne a1 h.ne.2.1, ⟨ex', heap_set_ne a2 h.ne.2.2, a3⟩, ?_, a5⟩
  have h1 := h.ok.n1
  have h8 := h.ok.e8
  rw [heap_set a4]
  congr 2
  rw [List.setIfInBounds_toArray, List.set_append_left _ _ (by simp; omega)]
  congr 2
  rw [← List.map_set, List.take_set]

/-- The document's Up. -/
theorem r_up (r sg eg : Nat) (D : Dev) (x : Int) (w : World) (h : Rv w r sg eg D) : Calls Try.prog 43 #[P0 r, .int .i64 x] w fun e w' => e = .returned (.tuple #[.int .i64 (D.up x).1, .int .i64 (D.up x).2.1]) ∧ Rv w' r sg eg (D.up x).2.2 ∧ Kept [r, eg] w w' := by
  have HC := r_epoch r sg eg D x w h
  cases hN : hasN D.N x with
  | false =>
    have hE : D.epoch x = (0, 2) := by simp [Dev.epoch, hN]
    have hU : D.up x = (0, 2, D) := by simp [Dev.up, hN]
    rw [hU]
    rw [hE] at HC
    have HC := hide HC
    clear hE hU
    go_enter Try.func43, Try.ntmps43
    go_wp2_with (go_at_call 36; refine (unhide HC).mono ?_; rintro e w' ⟨rfl, rfl⟩)
    go_ret2
    exact ⟨rfl, h, Kept.refl _ _⟩
  | true =>
    obtain ⟨h0, h1⟩ := hasN_true hN
    obtain ⟨k, rfl⟩ := Int.eq_ofNat_of_zero_le h0
    have hkN : k < D.N := by omega
    have hE : D.epoch k = (D.ep k, 0) := by simp [Dev.epoch, hN]
    have hle := ep_le h.ok k hkN
    rw [hE] at HC
    have HC := hide HC
    clear hE
    by_cases hm : D.ep k = 2147483647
    · have hU : D.up k = (0, 5, D) := by simp [Dev.up, hN, hm]
      rw [hU]
      clear hU
      go_enter Try.func43, Try.ntmps43
      go_wp2_with (go_at_call 36; refine (unhide HC).mono ?_; rintro e w' ⟨rfl, rfl⟩)
      go_ret2
      exact ⟨rfl, h, Kept.refl _ _⟩
    · have hU : D.up k = (D.ep k + 1, 0, (D.step D.S (D.E.set k (D.ep k + 1))).1) := by simp [Dev.up, hN, hm]
      rw [hU, step_does]
      have HD := hide (r_does r sg eg D w h)
      cases hd : D.does.2 with
      | true =>
        rw [hd] at HD
        clear hU h1
        go_enter Try.func43, Try.ntmps43
        go_wp2_with (first | (go_at_call 36; refine (unhide HC).mono ?_; rintro e w' ⟨rfl, rfl⟩))
        refine (unhide HD).mono ?_
        rintro e w1 ⟨rfl, hd1, hk1⟩
        obtain ⟨cap, ecap, c0, c1, c2, c3, c4, cf, hb, hec⟩ := hd1.cells
        have hs := does_S D
        have hce := hd1.epoch k (by rw [hs.2.2]; exact hkN)
        have hfe : w1.frozen? ⟨eg, k, none⟩ = false := by
          obtain ⟨_, _, _, _, _, a3, _⟩ := hd1.lay
          exact frozen_of_block a3 k
        have hp := hide (hd1.putEp (k := k) (x := D.ep k + 1) (by rw [hs.2.2]; exact hkN) (by omega))
        rw [hs.2.2] at c1
        rw [hs.2.1, hs.1, hs.2.2] at hp
        have hkI : (k : Int) < D.N := by omega
        clear cf HC HD hb
        go_wp2_with fail
        go_ret2
        refine ⟨rfl, ?_, (hk1.mono (by simp)).setCell (by simp) _⟩
        exact unhide hp
      | false =>
        rw [hd] at HD
        clear hU h1
        go_enter Try.func43, Try.ntmps43
        go_wp2_with (first | (go_at_call 36; refine (unhide HC).mono ?_; rintro e w' ⟨rfl, rfl⟩) | (go_at_call 60; refine (unhide HD).mono ?_; rintro e w1 ⟨rfl, hd1, hk1⟩))
        go_ret2
        exact ⟨rfl, hd1, hk1.mono (by simp)⟩

end Go.Proofs.Ytffflafalffifaa

namespace Go.Proofs.Ytffflafalffifaa
open Go.RowKit

theorem who_zero {D : Dev} {x ep : Int} (h : D.whoR x ep = 0) : hasN D.N x = true ∧ 0 ≤ ep ∧ ep ≤ D.ep x := by
  unfold Dev.whoR at h
  split at h
  · assumption
  · simp at h
theorem who_two {D : Dev} {x ep : Int} (h : D.whoR x ep ≠ 0) : D.whoR x ep = 2 ∧ ¬ (hasN D.N x = true ∧ 0 ≤ ep ∧ ep ≤ D.ep x) := by
  unfold Dev.whoR at h ⊢
  split
  · rename_i hc; simp [hc] at h
  · exact ⟨rfl, by assumption⟩
theorem ref_two {D : Dev} {x ep : Int} {may : Bool} (h : may = false ∨ ¬ (hasN D.N x = true ∧ 0 ≤ ep ∧ ep ≤ D.ep x)) : D.ref x ep may = 2 := by
  unfold Dev.ref
  rw [if_neg]
  rintro ⟨h1, h2⟩
  rcases h with h | h
  · rw [h] at h1; cases h1
  · exact h h2
theorem who_is (r sg eg : Nat) (D : Dev) (x ep : Int) (w : World) (h : Rv w r sg eg D) (v : Int) (hv : D.whoR x ep = v) : Calls Try.prog 59 #[P0 r, .int .i64 x, .int .i64 ep] w fun e w' => e = .returned (.int .i64 v) ∧ w' = w := by
  subst hv; exact r_who r sg eg D x ep w h

set_option maxHeartbeats 2000000 in
theorem r_fence (r sg eg : Nat) (D : Dev) (x ep y ab : Int) (w : World) (h : Rv w r sg eg D) (hab : -9223372036854775808 ≤ ab ∧ ab ≤ 9223372036854775807) :
    Calls Try.prog 44 #[P0 r, .int .i64 x, .int .i64 ep, .int .i64 y, .int .i64 ab] w fun e w' => e = .returned (.int .i64 (D.fence x ep y ab).1) ∧ Rv w' r sg eg (D.fence x ep y ab).2 ∧ Kept [r, eg] w w' := by
  obtain ⟨cap, ecap, c0, c1, c2, c3, c4, cf, hb, hec⟩ := h.cells
  have bad : D.ref x ep (hasN D.N y && decide (0 ≤ ab ∧ ab ≤ 2147483646)) = 2 → D.fence x ep y ab = (2, D) := by
    intro h2
    simp only [Dev.fence, h2]
    rfl
  by_cases hw0 : D.whoR x ep = 0
  · obtain ⟨hx, he0, he1⟩ := who_zero hw0
    have HW := hide (who_is r sg eg D x ep w h 0 hw0)
    clear hw0
    by_cases hy0 : y < 0
    · rw [bad (ref_two (.inl (by simp [hasN]; omega)))]
      clear bad
      go_enter Try.func44, Try.ntmps44
      go_wp2_with (go_at_call 59; refine (unhide HW).mono ?_; rintro e w' ⟨rfl, rfl⟩)
      go_ret
      exact ⟨rfl, h, Kept.refl _ _⟩
    · obtain ⟨q, rfl⟩ := Int.eq_ofNat_of_zero_le (show 0 ≤ y by omega)
      by_cases hq : q < D.N
      · by_cases ha0 : ab < 0
        · rw [bad (ref_two (.inl (by simp; omega)))]
          clear bad
          go_enter Try.func44, Try.ntmps44
          go_wp2_with (go_at_call 59; refine (unhide HW).mono ?_; rintro e w' ⟨rfl, rfl⟩)
          go_ret
          exact ⟨rfl, h, Kept.refl _ _⟩
        · by_cases ha1 : 2147483646 < ab
          · rw [bad (ref_two (.inl (by simp; omega)))]
            clear bad
            go_enter Try.func44, Try.ntmps44
            go_wp2_with (go_at_call 59; refine (unhide HW).mono ?_; rintro e w' ⟨rfl, rfl⟩)
            go_ret
            exact ⟨rfl, h, Kept.refl _ _⟩
          · have hmay : (hasN D.N (q : Int) && decide (0 ≤ ab ∧ ab ≤ 2147483646)) = true := by simp [hasN, hq]; omega
            obtain ⟨k, rfl⟩ := Int.eq_ofNat_of_zero_le (hasN_true hx).1
            have hkN : k < D.N := by have := (hasN_true hx).2; omega
            have hck := h.epoch k hkN
            have hcq := h.epoch q hq
            have hqI : (q : Int) < D.N := by omega
            have hkI : (k : Int) < D.N := by omega
            clear bad
            by_cases hfen : ep < D.ep k
            · have hU : D.fence k ep q ab = (8, D) := by
                have : D.ref k ep true = 8 := by simp [Dev.ref, hx, he0, he1, hfen]
                simp only [Dev.fence, hmay, this]; rfl
              rw [hU]
              clear hU
              go_enter Try.func44, Try.ntmps44
              go_wp2_with (go_at_call 59; refine (unhide HW).mono ?_; rintro e w' ⟨rfl, rfl⟩)
              go_ret
              exact ⟨rfl, h, Kept.refl _ _⟩
            · have hr0 : D.ref k ep true = 0 := by simp [Dev.ref, hx, he0, he1]; omega
              by_cases hle : D.ep q ≤ ab
              · have hU : D.fence k ep q ab = (0, (D.step D.S (D.E.set q (ab + 1))).1) := by simp only [Dev.fence, hmay, hr0, if_true, hle]; rfl
                rw [hU, step_does]
                clear hU hr0
                have HD := hide (r_does r sg eg D w h)
                cases hd : D.does.2 with
                | true =>
                  rw [hd] at HD
                  go_enter Try.func44, Try.ntmps44
                  go_wp2_with (first | (go_at_call 59; refine (unhide HW).mono ?_; rintro e w' ⟨rfl, rfl⟩))
                  refine (unhide HD).mono ?_
                  rintro e w1 ⟨rfl, hd1, hk1⟩
                  obtain ⟨cap', ecap', _, c1', _, _, _, _, _, _⟩ := hd1.cells
                  have hs := does_S D
                  have hce := hd1.epoch q (by rw [hs.2.2]; exact hq)
                  have hfe : w1.frozen? ⟨eg, q, none⟩ = false := by
                    obtain ⟨_, _, _, _, _, a3, _⟩ := hd1.lay
                    exact frozen_of_block a3 q
                  have hp := hide (hd1.putEp (k := q) (x := ab + 1) (by rw [hs.2.2]; exact hq) (by omega))
                  rw [hs.2.2] at c1'
                  rw [hs.2.1, hs.1, hs.2.2] at hp
                  clear HD hb
                  go_wp2_with fail
                  go_ret
                  exact ⟨rfl, unhide hp, (hk1.mono (by simp)).setCell (by simp) _⟩
                | false =>
                  rw [hd] at HD
                  go_enter Try.func44, Try.ntmps44
                  go_wp2_with (first | (go_at_call 59; refine (unhide HW).mono ?_; rintro e w' ⟨rfl, rfl⟩) | (go_at_call 60; refine (unhide HD).mono ?_; rintro e w1 ⟨rfl, hd1, hk1⟩))
                  go_ret
                  exact ⟨rfl, hd1, hk1.mono (by simp)⟩
              · have hU : D.fence k ep q ab = (0, D) := by simp only [Dev.fence, hmay, hr0, if_true, hle]; rfl
                rw [hU]
                clear hU hr0
                go_enter Try.func44, Try.ntmps44
                go_wp2_with (go_at_call 59; refine (unhide HW).mono ?_; rintro e w' ⟨rfl, rfl⟩)
                go_ret
                exact ⟨rfl, h, Kept.refl _ _⟩
      · rw [bad (ref_two (.inl (by simp [hasN]; omega)))]
        clear bad
        go_enter Try.func44, Try.ntmps44
        go_wp2_with (go_at_call 59; refine (unhide HW).mono ?_; rintro e w' ⟨rfl, rfl⟩)
        go_ret
        exact ⟨rfl, h, Kept.refl _ _⟩
  · obtain ⟨hw2, hno⟩ := who_two hw0
    rw [bad (ref_two (.inr hno))]
    have HW := hide (who_is r sg eg D x ep w h 2 hw2)
    clear bad hw0 hw2
    go_enter Try.func44, Try.ntmps44
    go_wp2_with (go_at_call 59; refine (unhide HW).mono ?_; rintro e w' ⟨rfl, rfl⟩)
    go_ret
    exact ⟨rfl, h, Kept.refl _ _⟩

theorem res39 (w : World) (z : Nat) (s : List Int) (e : Int) (tmps : Array Value) (h4 : tmps[4]?.getD undef = .pointer (some ⟨z, 0, none⟩)) (h5 : tmps[5]?.getD undef = .int .i64 e) (hb : Box w z s) : (results Try.f39 tmps).run Try.prog w = .ok (.tuple #[secV s, .int .i64 e]) w := by
  have := hb.at.loadVar
  simp [results, Try.results39, h4, h5, this, asAddr]

theorem Rv.sector {w : World} {r sg eg : Nat} {D : Dev} (h : Rv w r sg eg D) (i : Nat) (hi : i < D.S.length) : At w sg (i * 64) D.S[i] := by
  obtain ⟨cap, ecap, _, _, _, _, _, _, hb, _⟩ := h.cells
  exact ⟨h.ok.sec _ (List.getElem_mem hi), hb.range h.ok.sec i hi, hb.there h.ok.sec i hi⟩
theorem Rv.alloc {w : World} {r sg eg : Nat} {D : Dev} (h : Rv w r sg eg D) (o : Obj) : Rv (w.alloc o) r sg eg D := h.kept (X := []) ((Kept.refl _ _).alloc o) (by simp) (by simp) (by simp)

set_option maxHeartbeats 1000000 in
set_option maxRecDepth 100000 in
theorem r_read (r sg eg : Nat) (D : Dev) (x : Int) (w : World) (h : Rv w r sg eg D) : Calls Try.prog 39 #[P0 r, .int .i64 x] w fun e w' => e = .returned (.tuple #[secV (D.read x).1, .int .i64 (D.read x).2]) ∧ Kept [] w w' := by
  have hb0 := hide (Box.new w)
  have hk0 := hide ((Kept.refl [] w).alloc (.cells (u8s nought).toArray 38))
  have hD := h.alloc (.cells (u8s nought).toArray 38)
  obtain ⟨cap, ecap, c0, c1, c2, c3, c4, cf, hb, hec⟩ := hD.cells
  have bad : hasS D.S.length x 1 = false → D.read x = (nought, 2) := by intro hN; simp [Dev.read, hN]
  by_cases h0 : x < 0
  · rw [bad (by simp [hasS]; omega)]
    clear bad
    go_enter Try.func39, Try.ntmps39
    go_wp2_with (first | (refine wpAllocS rfl rfl ?_) | (refine wpBuildS rfl rfl ?_) | (refine wpStoreS rfl (.tmp 4) (.tmp 20) rfl w.heap.size 0 nought rfl rfl nought_sec (unhide hb0).at.2.2 ?_))
    exact bodyPost_ret (res39 _ w.heap.size nought 2 _ rfl rfl ((unhide hb0).put nought_sec)) rfl ⟨rfl, (unhide hk0).setCells _ _ (by simp)⟩
  · obtain ⟨k, rfl⟩ := Int.eq_ofNat_of_zero_le (show 0 ≤ x by omega)
    by_cases hk : k < D.S.length
    · have hE : D.read k = (D.S[k], 0) := by
        have hN : hasS D.S.length (k : Int) 1 = true := by simp [hasS]; omega
        simp [Dev.read, hN, List.getD, hk]
      rw [hE]
      have hA := hide (hD.sector k hk)
      clear hE bad
      go_enter Try.func39, Try.ntmps39
      go_wp2_with (first | (refine wpAllocS rfl rfl ?_) | (refine wpLoadS rfl (.tmp 26) rfl sg (k * 64) rfl _ (unhide hA) ?_) | (refine wpStoreS rfl (.tmp 4) (.tmp 27) rfl w.heap.size 0 _ rfl rfl (unhide hA).1 (unhide hb0).at.2.2 ?_))
      exact bodyPost_ret (res39 _ w.heap.size _ 0 _ rfl rfl ((unhide hb0).put (unhide hA).1)) rfl ⟨rfl, (unhide hk0).setCells _ _ (by simp)⟩
    · rw [bad (by simp [hasS]; omega)]
      clear bad
      go_enter Try.func39, Try.ntmps39
      go_wp2_with (first | (refine wpAllocS rfl rfl ?_) | (refine wpBuildS rfl rfl ?_) | (refine wpStoreS rfl (.tmp 4) (.tmp 20) rfl w.heap.size 0 nought rfl rfl nought_sec (unhide hb0).at.2.2 ?_))
      exact bodyPost_ret (res39 _ w.heap.size nought 2 _ rfl rfl ((unhide hb0).put nought_sec)) rfl ⟨rfl, (unhide hk0).setCells _ _ (by simp)⟩

end Go.Proofs.Ytffflafalffifaa
