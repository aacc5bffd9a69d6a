/-
  The document's device, where it lies, and the walks of its methods that look; does.
-/
import Derived.Test.YtffflafalffifaaOf
namespace Go.Proofs.Ytffflafalffifaa
open Go.RowKit

/-- What the document's device says of a cut: how many are left, -1: there is none. -/
def Dev.rleft (D : Dev) : Int := if D.set then D.left else -1
def refCells (D : Dev) (sg cap eg ecap : Nat) : Array Value := #[.slice (some ⟨sg, 0, none⟩) D.S.length cap, .slice (some ⟨eg, 0, none⟩) D.N ecap, .int .i64 D.rleft, .bool D.lost, .int .i64 D.done]

/-- The document's device at block r, its sectors at sg, its epochs at eg. -/
structure Rv (w : World) (r sg eg : Nat) (D : Dev) : Prop where
  ok : D.Ok
  ne : r ≠ sg ∧ r ≠ eg ∧ sg ≠ eg
  lay : ∃ cap ecap ex, w.heap[r]? = some (.cells (refCells D sg cap eg ecap) 51 (0, 0)) ∧ Body w sg cap D.S ∧ w.heap[eg]? = some (.cells ((D.E.take D.N).map (Value.int .i64) ++ ex).toArray 2 (0, 0)) ∧ D.N ≤ ecap

theorem Rv.kept {w w' : World} {r sg eg : Nat} {D : Dev} {X : List Nat} (h : Rv w r sg eg D) (hk : Kept X w w') (h1 : r ∉ X) (h2 : sg ∉ X) (h3 : eg ∉ X) : Rv w' r sg eg D := by
  obtain ⟨cap, ecap, ex, a1, ⟨ex', a2, a3⟩, a4⟩ := h.lay
  exact ⟨h.ok, h.ne, cap, ecap, ex, hk.heap a1 h1, ⟨ex', hk.heap a2 h2, a3⟩, hk.heap a4.1 h3, a4.2⟩
theorem Rv.lt {w : World} {r sg eg : Nat} {D : Dev} (h : Rv w r sg eg D) : r < w.heap.size ∧ sg < w.heap.size ∧ eg < w.heap.size := by
  obtain ⟨cap, ecap, ex, a1, ⟨ex', a2, a3⟩, a4⟩ := h.lay
  exact ⟨lt_of_block a1, lt_of_block a2, lt_of_block a4.1⟩
/-- What stands in the head, cell by cell. -/
theorem Rv.cells {w : World} {r sg eg : Nat} {D : Dev} (h : Rv w r sg eg D) : ∃ cap ecap, w.cell? ⟨r, 0, none⟩ = some (.slice (some ⟨sg, 0, none⟩) D.S.length cap) ∧ w.cell? ⟨r, 1, none⟩ = some (.slice (some ⟨eg, 0, none⟩) D.N ecap) ∧ w.cell? ⟨r, 2, none⟩ = some (.int .i64 D.rleft) ∧ w.cell? ⟨r, 3, none⟩ = some (.bool D.lost) ∧ w.cell? ⟨r, 4, none⟩ = some (.int .i64 D.done) ∧ (∀ i, w.frozen? ⟨r, i, none⟩ = false) ∧ Body w sg cap D.S ∧ D.N ≤ ecap := by
  obtain ⟨cap, ecap, ex, a1, a2, a3, a4⟩ := h.lay
  refine ⟨cap, ecap, ?_, ?_, ?_, ?_, ?_, fun i => frozen_of_block a1 i, a2, a4⟩ <;> rw [cell_of_block a1] <;> rfl
theorem Rv.epoch {w : World} {r sg eg : Nat} {D : Dev} (h : Rv w r sg eg D) (k : Nat) (hk : k < D.N) : w.cell? ⟨eg, k, none⟩ = some (.int .i64 (D.ep k)) := by
  obtain ⟨cap, ecap, ex, a1, a2, a3, a4⟩ := h.lay
  have h1 := h.ok.n1
  have h8 := h.ok.e8
  rw [cell_of_block a3, List.getElem?_toArray, List.getElem?_append_left (by simp; omega)]
  simp [Dev.ep, List.getD, hk, show k < D.E.length by omega]
theorem rleft_zero (D : Dev) : D.rleft = 0 ↔ (D.set = true ∧ D.left = 0) := by
  unfold Dev.rleft
  cases D.set <;> simp
theorem rleft_bd {D : Dev} (h : D.Ok) : -1 ≤ D.rleft ∧ D.rleft ≤ 9223372036854775807 := by
  have := h.l0
  unfold Dev.rleft
  split <;> omega

theorem r_epoch (r sg eg : Nat) (D : Dev) (x : Int) (w : World) (h : Rv w r sg eg D) : Calls Try.prog 36 #[P0 r, .int .i64 x] w fun e w' => e = .returned (.tuple #[.int .i64 (D.epoch x).1, .int .i64 (D.epoch x).2]) ∧ w' = w := by
  obtain ⟨cap, ecap, c0, c1, c2, c3, c4, cf, hb, hec⟩ := h.cells
  by_cases h0 : x < 0
  · have hE : D.epoch x = (0, 2) := by simp [Dev.epoch, hasN]; omega
    rw [hE]
    clear hE
    go_enter Try.func36, Try.ntmps36
    go_wp2_with fail
    go_ret2
    exact ⟨rfl, rfl⟩
  · obtain ⟨k, rfl⟩ := Int.eq_ofNat_of_zero_le (show 0 ≤ x by omega)
    by_cases hk : k < D.N
    · have hE : D.epoch k = (D.ep k, 0) := by simp [Dev.epoch, hasN, hk]
      rw [hE]
      have hc := h.epoch k hk
      clear hE
      go_enter Try.func36, Try.ntmps36
      go_wp2_with fail
      go_ret2
      exact ⟨rfl, rfl⟩
    · have hE : D.epoch k = (0, 2) := by simp [Dev.epoch, hasN, hk]
      rw [hE]
      clear hE
      go_enter Try.func36, Try.ntmps36
      go_wp2_with fail
      go_ret2
      exact ⟨rfl, rfl⟩

theorem r_fenced (r sg eg : Nat) (D : Dev) (x ep : Int) (w : World) (h : Rv w r sg eg D) : Calls Try.prog 38 #[P0 r, .int .i64 x, .int .i64 ep] w fun e w' => e = .returned (.bool (D.fenced x ep)) ∧ w' = w := by
  obtain ⟨cap, ecap, c0, c1, c2, c3, c4, cf, hb, hec⟩ := h.cells
  by_cases h0 : x < 0
  · have hE : Hid (D.fenced x ep = false) := by simp [Dev.fenced, hasN, Hid]; omega
    go_enter Try.func38, Try.ntmps38
    go_wp2_with fail
    go_ret
    exact ⟨ret_bool hE.out.symm, rfl⟩
  · obtain ⟨k, rfl⟩ := Int.eq_ofNat_of_zero_le (show 0 ≤ x by omega)
    by_cases hk : k < D.N
    · have hE : Hid (D.fenced k ep = decide (ep < D.ep k)) := by simp [Dev.fenced, hasN, hk, Hid]
      have hc := h.epoch k hk
      go_enter Try.func38, Try.ntmps38
      go_wp2_with fail
      go_ret
      exact ⟨ret_bool hE.out.symm, rfl⟩
    · have hE : Hid (D.fenced k ep = false) := by simp [Dev.fenced, hasN, hk, Hid]
      go_enter Try.func38, Try.ntmps38
      go_wp2_with fail
      go_ret
      exact ⟨ret_bool hE.out.symm, rfl⟩

/-- Who may write, of the document's. -/
def Dev.whoR (D : Dev) (x ep : Int) : Int := if hasN D.N x = true ∧ 0 ≤ ep ∧ ep ≤ D.ep x then 0 else 2
theorem r_who (r sg eg : Nat) (D : Dev) (x ep : Int) (w : World) (h : Rv w r sg eg D) : Calls Try.prog 59 #[P0 r, .int .i64 x, .int .i64 ep] w fun e w' => e = .returned (.int .i64 (D.whoR x ep)) ∧ w' = w := by
  obtain ⟨cap, ecap, c0, c1, c2, c3, c4, cf, hb, hec⟩ := h.cells
  by_cases h0 : x < 0
  · have hE : Hid (D.whoR x ep = 2) := by simp [Dev.whoR, hasN, Hid]; omega
    go_enter Try.func59, Try.ntmps59
    go_wp2_with fail
    go_ret
    exact ⟨ret_int hE.out.symm, rfl⟩
  · obtain ⟨k, rfl⟩ := Int.eq_ofNat_of_zero_le (show 0 ≤ x by omega)
    by_cases hk : k < D.N
    · have hc := h.epoch k hk
      by_cases he0 : ep < 0
      · have hE : Hid (D.whoR k ep = 2) := by simp [Dev.whoR, hasN, Hid, hk]; omega
        go_enter Try.func59, Try.ntmps59
        go_wp2_with fail
        go_ret
        exact ⟨ret_int hE.out.symm, rfl⟩
      · by_cases he1 : ep ≤ D.ep k
        · have hE : Hid (D.whoR k ep = 0) := by simp [Dev.whoR, hasN, Hid, hk, he1]; omega
          go_enter Try.func59, Try.ntmps59
          go_wp2_with fail
          go_ret
          exact ⟨ret_int hE.out.symm, rfl⟩
        · have hE : Hid (D.whoR k ep = 2) := by simp [Dev.whoR, hasN, Hid, hk]; omega
          go_enter Try.func59, Try.ntmps59
          go_wp2_with fail
          go_ret
          exact ⟨ret_int hE.out.symm, rfl⟩
    · have hE : Hid (D.whoR k ep = 2) := by simp [Dev.whoR, hasN, Hid, hk]
      go_enter Try.func59, Try.ntmps59
      go_wp2_with fail
      go_ret
      exact ⟨ret_int hE.out.symm, rfl⟩

end Go.Proofs.Ytffflafalffifaa
