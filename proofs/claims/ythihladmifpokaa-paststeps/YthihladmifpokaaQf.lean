/-
  cmp.Or of two numbers.
-/
import Derived.Test.YthihladmifpokaaQe
namespace Go.Proofs.Ythihladmifpokaa
set_option maxRecDepth 100000
set_option linter.unusedSimpArgs false
open Go.RowKit

variable {w : World} {g : Nat} {x y : Int}
def orI (x y : Int) : Int := if x = 0 then y else x
theorem or50 (hB : Blk w g 3 [.int .i64 x, .int .i64 y]) : Calls Try.prog 50 #[.slice (some ⟨g, 0, none⟩) 2 2] w fun e W => e = .returned (.int .i64 (orI x y)) ∧ W = w := by
  have c0 := fits_cell hB 0 _ rfl
  have c1 := fits_cell hB 1 _ rfl
  clear hB
  go_enter Try.func50, Try.ntmps50
  go_wp2_with fail
  go_loopw [8] (fun xk wr => ∃ k : Nat, k ≤ 2 ∧ xk = .int .i64 k ∧ w = wr ∧ Hid ((1 ≤ k → x = 0) ∧ (2 ≤ k → y = 0))) (fun xk _ => 2 - (intOf xk).toNat)
  case atStart => exact ⟨0, by omega, rfl, rfl, (fun h => by omega), (fun h => by omega)⟩
  case round =>
    obtain ⟨k, hk, rfl, rfl, HX⟩ := hrel
    rcases (show k = 0 ∨ k = 1 ∨ k = 2 by omega) with rfl | rfl | rfl
    · by_cases h0 : x = 0
      · have d0 : (x != 0) = false := by simp [h0]
        have HY : Hid (x = 0) := h0
        clear h0 hk
        go_wp2_with fail
        go_roundw
        case rel => exact ⟨1, by omega, rfl, trivial, (fun _ => unhide HY), (fun h => by omega)⟩
        case measure => simp [intOf]
      · have d0 : (x != 0) = true := by simp [h0]
        have HY : Hid (orI x y = x) := by show _ = _; simp [orI, h0]
        clear h0 hk
        go_wp2_with fail
        go_ret
        exact ⟨by rw [unhide HY]; rfl, rfl⟩
    · have HZ : Hid (x = 0) := (unhide HX).1 (by omega)
      by_cases h0 : y = 0
      · have d0 : (y != 0) = false := by simp [h0]
        have HY : Hid (y = 0) := h0
        clear h0 hk
        go_wp2_with fail
        go_roundw
        case rel => exact ⟨2, by omega, rfl, trivial, (fun _ => unhide HZ), (fun _ => unhide HY)⟩
        case measure => simp [intOf]
      · have d0 : (y != 0) = true := by simp [h0]
        have HY : Hid (orI x y = y) := by show _ = _; simp [orI, show x = 0 from unhide HZ]
        clear h0 hk
        go_wp2_with fail
        go_ret
        exact ⟨by rw [unhide HY]; rfl, rfl⟩
    · have HY : Hid (orI x y = 0) := by show _ = _; simp [orI, (unhide HX).1 (by omega), (unhide HX).2 (by omega)]
      clear hk
      go_wp2_with fail
      go_ret
      exact ⟨by rw [unhide HY]; rfl, rfl⟩

end Go.Proofs.Ythihladmifpokaa
