/-
  The small functions of net.
-/
import Derived.Test.YtpcggcicpojdoaaGx
namespace Go.Proofs.Ytpcggcicpojdoaa
open Go.RowKit


theorem st_num9 (e : Int) (w : World) : Calls Try.prog 9 #[.int .i64 e] w fun e' w' => e' = .returned (.int .i64 e) ∧ w' = w := by
  go_enter Try.func9, Try.ntmps9
  go_wp2
  go_ret
  exact ⟨rfl, rfl⟩
theorem Nt.cells {W : World} {b mb : Nat} {v : Value} {N : Nn} (h : Nt W b mb v N) : W.cell? ⟨b, 0, none⟩ = some (.int .i64 N.nodes) ∧ W.cell? ⟨b, 1, none⟩ = some (.int .i64 N.last) ∧ W.cell? ⟨b, 2, none⟩ = some (.map (some mb)) ∧ W.cell? ⟨b, 3, none⟩ = some v :=
  ⟨fits_cell h.head 0 _ rfl, fits_cell h.head 1 _ rfl, fits_cell h.head 2 _ rfl, fits_cell h.head 3 _ rfl⟩
theorem none38 (b mb : Nat) (v : Value) (N : Nn) (w : World) (h : Nt w b mb v N) : Calls Try.prog 38 #[P0 b] w fun e w' => e = .returned (.bool false) ∧ w' = w := by
  have hc := h.cells.1
  have h0 : N.nodes ≠ 0 := by have := h.nodes; omega
  go_enter Try.func38, Try.ntmps38
  go_wp2
  go_ret
  exact ⟨by simp [h0], rfl⟩
theorem nil38 (w : World) : Calls Try.prog 38 #[.pointer none] w fun e w' => e = .returned (.bool true) ∧ w' = w := by
  go_enter Try.func38, Try.ntmps38
  go_wp2
  go_ret
  exact ⟨rfl, rfl⟩
/-- A node of the net. -/
def hasN (n x : Int) : Bool := decide (0 ≤ x) && decide (x < n)
theorem has41 (b mb : Nat) (v : Value) (N : Nn) (x : Int) (w : World) (h : Nt w b mb v N) : Calls Try.prog 41 #[P0 b, .int .i64 x] w fun e w' => e = .returned (.bool (hasN N.nodes x)) ∧ w' = w := by
  have hc := h.cells.1
  by_cases h0 : 0 ≤ x
  · go_enter Try.func41, Try.ntmps41
    go_wp2
    go_ret
    exact ⟨by simp [hasN, h0], rfl⟩
  · go_enter Try.func41, Try.ntmps41
    go_wp2
    go_ret
    exact ⟨by simp [hasN]; omega, rfl⟩
theorem len21 (b mb : Nat) (v : Value) (N : Nn) (w : World) (h : Nt w b mb v N) : Calls Try.prog 21 #[P0 b] w fun e w' => e = .returned (.int .i64 N.L.length) ∧ w' = w := by
  obtain ⟨ao, c, rfl, _, _⟩ := owns_vals h.ord
  have hc := h.cells.2.2.2
  have P := hide (none38 b mb _ N w h)
  go_enter Try.func21, Try.ntmps21
  go_wp2_with (
    first
    | (go_at_call 38
       refine (unhide P).mono ?_
       rintro e V1 ⟨rfl, rfl⟩))
  go_ret
  exact ⟨rfl, rfl⟩
theorem last26 (b mb : Nat) (v : Value) (N : Nn) (w : World) (h : Nt w b mb v N) : Calls Try.prog 26 #[P0 b] w fun e w' => e = .returned (.int .i64 N.last) ∧ w' = w := by
  have hc := h.cells.2.1
  have P := hide (none38 b mb _ N w h)
  go_enter Try.func26, Try.ntmps26
  go_wp2_with (
    first
    | (go_at_call 38
       refine (unhide P).mono ?_
       rintro e V1 ⟨rfl, rfl⟩))
  go_ret
  exact ⟨rfl, rfl⟩

end Go.Proofs.Ytpcggcicpojdoaa
