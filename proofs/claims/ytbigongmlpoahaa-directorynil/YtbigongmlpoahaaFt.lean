/-
  Two books of none.
-/
import Derived.Test.YtbigongmlpoahaaNi
namespace Go.Proofs.Ytbigongmlpoahaa
set_option maxRecDepth 100000
set_option linter.unusedSimpArgs false
open Go.RowKit


theorem like_selfN {α : Type} [DecidableEq α] (f : Nat → α) : like f f = true := like_iff.2 (fun _ _ => rfl)
theorem intsN (w : World) : Calls Try.prog 37 #[.slice none 0 0, .slice none 0 0] w fun e w' => e = .returned (.bool true) ∧ w' = w := by
  go_enter Try.func37, Try.ntmps37
  go_wp2_with fail
  go_loopw [5] (fun i wr => i = .int .i64 0 ∧ wr = w) (fun i _ => 0)
  case atStart => exact ⟨rfl, rfl⟩
  case round =>
    obtain ⟨rfl, rfl⟩ := hrel
    go_wp2_with fail
    go_ret
    exact ⟨rfl, rfl⟩
theorem eqZ37 (W : World) : (Op.equalIn 10000 34 (.agg #[.int .i64 0, .int .i64 0, .int .i64 0, .int .i64 0, .int .i64 0, .int .i64 0, .int .i64 0, .int .i64 0]) (.agg #[.int .i64 0, .int .i64 0, .int .i64 0, .int .i64 0, .int .i64 0, .int .i64 0, .int .i64 0, .int .i64 0])).run Try.prog W = .ok true W := (eqA37 W ze8 ze8).trans (by rw [like_selfN])
theorem eqZ41 (W : World) : (Op.equalIn 10000 38 (.agg #[.int .i64 0, .int .i64 0]) (.agg #[.int .i64 0, .int .i64 0])).run Try.prog W = .ok true W := (eqW41 W wi0 wi0).trans (by simp)
theorem bn_opsN {w : World} {b T : Nat} (h : Blk w b T bn43) : w.rangeAt b 4 (i8 ze8) := h.rangeIn _ (fun j hj => by
  have hj8 : j < 8 := hj
  rcases (show j = 0 ∨ j = 1 ∨ j = 2 ∨ j = 3 ∨ j = 4 ∨ j = 5 ∨ j = 6 ∨ j = 7 by omega) with rfl | rfl | rfl | rfl | rfl | rfl | rfl | rfl <;> rfl)
theorem bn_handN {w : World} {b T : Nat} (h : Blk w b T bn43) : w.rangeAt b 13 wi0.C := h.rangeIn _ (fun j hj => by
  have hj2 : j < 2 := hj
  rcases (show j = 0 ∨ j = 1 by omega) with rfl | rfl <;> rfl)
set_option maxHeartbeats 2000000 in
theorem sameBookN (w : World) : Calls Try.prog 12 #[aggV bn43, aggV bn43] w fun e w' => e = .returned (.bool true) ∧ Kept [] w w' := by
  have M : Hid (Mm [] w w []) := hide Mm.init
  go_enter Try.func12, Try.ntmps12
  go_wp2_with (
    first
    | (refine wpBoxV rfl (.tmp 0) rfl (bn43) rfl ?_
       intro W1 b1 e1 B1 K1
       replace M : Hid (Mm [] w W1 [(b1, 40, bn43)]) := hide ((unhide M).new e1 B1 K1)
       clear e1 B1 K1
       refine Stp.go ?_))
  constructor
  go_wp2_with (
    first
    | (refine wpBoxV rfl (.tmp 1) rfl (bn43) rfl ?_
       intro W2 b2 e2 B2 K2
       replace M : Hid (Mm [] w W2 [(b1, 40, bn43), (b2, 40, bn43)]) := hide ((unhide M).new e2 B2 K2)
       clear e2 B2 K2
       have c0_0 : W2.cell? ⟨b1, 0, none⟩ = some (.int .i64 (-1)) := fits_cell ((unhide M).at 0 _ rfl) 0 _ rfl
       have c0_1 : W2.cell? ⟨b1, 1, none⟩ = some (.int .i64 (-1)) := fits_cell ((unhide M).at 0 _ rfl) 1 _ rfl
       have c0_2 : W2.cell? ⟨b1, 2, none⟩ = some (.slice none 0 0) := fits_cell ((unhide M).at 0 _ rfl) 2 _ rfl
       have c0_3 : W2.cell? ⟨b1, 3, none⟩ = some (.slice none 0 0) := fits_cell ((unhide M).at 0 _ rfl) 3 _ rfl
       have c0_4 : W2.cell? ⟨b1, 4, none⟩ = some (.int .i64 0) := fits_cell ((unhide M).at 0 _ rfl) 4 _ rfl
       have c0_5 : W2.cell? ⟨b1, 5, none⟩ = some (.int .i64 0) := fits_cell ((unhide M).at 0 _ rfl) 5 _ rfl
       have c0_6 : W2.cell? ⟨b1, 6, none⟩ = some (.int .i64 0) := fits_cell ((unhide M).at 0 _ rfl) 6 _ rfl
       have c0_7 : W2.cell? ⟨b1, 7, none⟩ = some (.int .i64 0) := fits_cell ((unhide M).at 0 _ rfl) 7 _ rfl
       have c0_8 : W2.cell? ⟨b1, 8, none⟩ = some (.int .i64 0) := fits_cell ((unhide M).at 0 _ rfl) 8 _ rfl
       have c0_9 : W2.cell? ⟨b1, 9, none⟩ = some (.int .i64 0) := fits_cell ((unhide M).at 0 _ rfl) 9 _ rfl
       have c0_10 : W2.cell? ⟨b1, 10, none⟩ = some (.int .i64 0) := fits_cell ((unhide M).at 0 _ rfl) 10 _ rfl
       have c0_11 : W2.cell? ⟨b1, 11, none⟩ = some (.int .i64 0) := fits_cell ((unhide M).at 0 _ rfl) 11 _ rfl
       have c0_12 : W2.cell? ⟨b1, 12, none⟩ = some (.slice none 0 0) := fits_cell ((unhide M).at 0 _ rfl) 12 _ rfl
       have c0_13 : W2.cell? ⟨b1, 13, none⟩ = some (.int .i64 0) := fits_cell ((unhide M).at 0 _ rfl) 13 _ rfl
       have c0_14 : W2.cell? ⟨b1, 14, none⟩ = some (.int .i64 0) := fits_cell ((unhide M).at 0 _ rfl) 14 _ rfl
       have c0_15 : W2.cell? ⟨b1, 15, none⟩ = some (.bool false) := fits_cell ((unhide M).at 0 _ rfl) 15 _ rfl
       have c0_16 : W2.cell? ⟨b1, 16, none⟩ = some (.int .i64 0) := fits_cell ((unhide M).at 0 _ rfl) 16 _ rfl
       have c1_0 : W2.cell? ⟨b2, 0, none⟩ = some (.int .i64 (-1)) := fits_cell ((unhide M).at 1 _ rfl) 0 _ rfl
       have c1_1 : W2.cell? ⟨b2, 1, none⟩ = some (.int .i64 (-1)) := fits_cell ((unhide M).at 1 _ rfl) 1 _ rfl
       have c1_2 : W2.cell? ⟨b2, 2, none⟩ = some (.slice none 0 0) := fits_cell ((unhide M).at 1 _ rfl) 2 _ rfl
       have c1_3 : W2.cell? ⟨b2, 3, none⟩ = some (.slice none 0 0) := fits_cell ((unhide M).at 1 _ rfl) 3 _ rfl
       have c1_4 : W2.cell? ⟨b2, 4, none⟩ = some (.int .i64 0) := fits_cell ((unhide M).at 1 _ rfl) 4 _ rfl
       have c1_5 : W2.cell? ⟨b2, 5, none⟩ = some (.int .i64 0) := fits_cell ((unhide M).at 1 _ rfl) 5 _ rfl
       have c1_6 : W2.cell? ⟨b2, 6, none⟩ = some (.int .i64 0) := fits_cell ((unhide M).at 1 _ rfl) 6 _ rfl
       have c1_7 : W2.cell? ⟨b2, 7, none⟩ = some (.int .i64 0) := fits_cell ((unhide M).at 1 _ rfl) 7 _ rfl
       have c1_8 : W2.cell? ⟨b2, 8, none⟩ = some (.int .i64 0) := fits_cell ((unhide M).at 1 _ rfl) 8 _ rfl
       have c1_9 : W2.cell? ⟨b2, 9, none⟩ = some (.int .i64 0) := fits_cell ((unhide M).at 1 _ rfl) 9 _ rfl
       have c1_10 : W2.cell? ⟨b2, 10, none⟩ = some (.int .i64 0) := fits_cell ((unhide M).at 1 _ rfl) 10 _ rfl
       have c1_11 : W2.cell? ⟨b2, 11, none⟩ = some (.int .i64 0) := fits_cell ((unhide M).at 1 _ rfl) 11 _ rfl
       have c1_12 : W2.cell? ⟨b2, 12, none⟩ = some (.slice none 0 0) := fits_cell ((unhide M).at 1 _ rfl) 12 _ rfl
       have c1_13 : W2.cell? ⟨b2, 13, none⟩ = some (.int .i64 0) := fits_cell ((unhide M).at 1 _ rfl) 13 _ rfl
       have c1_14 : W2.cell? ⟨b2, 14, none⟩ = some (.int .i64 0) := fits_cell ((unhide M).at 1 _ rfl) 14 _ rfl
       have c1_15 : W2.cell? ⟨b2, 15, none⟩ = some (.bool false) := fits_cell ((unhide M).at 1 _ rfl) 15 _ rfl
       have c1_16 : W2.cell? ⟨b2, 16, none⟩ = some (.int .i64 0) := fits_cell ((unhide M).at 1 _ rfl) 16 _ rfl
       refine Stp.go ?_))
  constructor
  go_wp2_with (
    first
    | (go_at_call 37
       refine (intsN _).mono ?_
       rintro e W3 ⟨rfl, q3⟩
       replace q3 := q3.symm
       subst q3
       refine Stp.go ?_))
  constructor
  go_wp2_with (
    first
    | (go_at_call 37
       refine (intsN _).mono ?_
       rintro e W4 ⟨rfl, q4⟩
       replace q4 := q4.symm
       subst q4
       refine Stp.go ?_))
  constructor
  go_wp2_with (
    first
    | (rw [eqZ37]
       simp only [Result.andThen_ok, Oper.upon_value]
       refine Stp.go ?_))
  constructor
  go_wp2_with fail
  go_loopw [5] (fun i wr => i = .int .i64 0 ∧ wr = W2) (fun i _ => 0)
  case atStart => exact ⟨rfl, rfl⟩
  case round =>
    obtain ⟨rfl, rfl⟩ := hrel
    go_wp2_with fail
    go_ret
    exact ⟨rfl, (unhide M).kept⟩

end Go.Proofs.Ytbigongmlpoahaa
