/-
  The walk of the document's New.
-/
import Derived.Test.YtffflafalffifaaRby
namespace Go.Proofs.Ytffflafalffifaa
open Go.RowKit

theorem Try.zero2 : (Try.prog.info? 2).map (fun i => (i.zero, i.size, i.bytes)) = some (some (.int .i64 0), 1, 8) := by kernel_rfl
theorem made_zeros (n : Nat) : madeCells #[Value.int .i64 0] n = Array.replicate n (Value.int .i64 0) := by
  have := made_same 1 (Value.int .i64 0) n (by decide)
  simpa using this

theorem run_makeS (w : World) (n : Nat) (hn : n ≤ 2199023255552) : Sem.run Try.prog (Instr.makeSlice 36 (.int .i64 n) (.int .i64 n)) w = .ok (.slice (some ⟨w.heap.size, 0, none⟩) n n) (w.alloc (.cells (u8s (noughts n).flatten).toArray 38)) := by
  obtain ⟨i0, hi, hz0, hz1, hz2⟩ := info_parts Try.zero38
  have hr := run_make (P := Try.prog) w 36 38 i0 (secV nought) Try.underlying36 hi hz0 .i64 .i64 n n (by omega) (by omega) (by rw [hz2]; omega) (by omega)
  have hc : (secV nought).cells = (u8s nought).toArray := rfl
  rw [hz1, Int.toNat_natCast, hc, made_noughts] at hr
  exact hr
theorem run_makeE (w : World) (n : Nat) (hn : n ≤ 2199023255552) : Sem.run Try.prog (Instr.makeSlice 43 (.int .i64 n) (.int .i64 n)) w = .ok (.slice (some ⟨w.heap.size, 0, none⟩) n n) (w.alloc (.cells (Array.replicate n (Value.int .i64 0)) 2)) := by
  obtain ⟨i0, hi, hz0, hz1, hz2⟩ := info_parts Try.zero2
  have hr := run_make (P := Try.prog) w 43 2 i0 (.int .i64 0) Try.underlying43 hi hz0 .i64 .i64 n n (by omega) (by omega) (by rw [hz2]; omega) (by omega)
  have hc : (Value.int .i64 0).cells = #[Value.int .i64 0] := rfl
  rw [hz1, Int.toNat_natCast, hc, Nat.mul_one, made_zeros] at hr
  exact hr

theorem r_new_no (x y : Int) (w : World) (h : newB x y = false) : Calls Try.prog 9 #[.int .i64 x, .int .i64 y] w fun e w' => e = .returned (.pointer none) ∧ w' = w := by
  have h' : ¬ ((1 ≤ x ∧ x ≤ 4096) ∧ 1 ≤ y ∧ y ≤ 8) := by simpa [newB] using h
  clear h
  go_enter Try.func9, Try.ntmps9
  go_wp2_with fail
  all_goals first | (go_ret; exact ⟨rfl, rfl⟩) | (exfalso; omega)

theorem take_zeros {N : Nat} (h : N ≤ 8) : (List.replicate 8 (0 : Int)).take N = List.replicate N 0 := by
  rw [List.take_replicate, Nat.min_eq_left h]

theorem rv_new {w : World} {n N r sg eg : Nat} (hn : 1 ≤ n ∧ n ≤ 4096) (hN : 1 ≤ N ∧ N ≤ 8) (hne : r ≠ sg ∧ r ≠ eg ∧ sg ≠ eg)
    (h1 : w.heap[r]? = some (.cells #[.slice (some ⟨sg, 0, none⟩) n n, .slice (some ⟨eg, 0, none⟩) N N, .int .i64 (-1), .bool false, .int .i64 0] 51 (0, 0)))
    (h2 : w.heap[sg]? = some (.cells (u8s (noughts n).flatten).toArray 38 (0, 0))) (h3 : w.heap[eg]? = some (.cells (Array.replicate N (Value.int .i64 0)) 2 (0, 0))) : Rv w r sg eg (newDev n N) := by
  refine ⟨newDev_ok hn hN, hne, n, N, [], ?_, ⟨[], ?_, ?_, ?_, ?_⟩, ?_, Nat.le_refl _⟩
  · rw [h1]; simp [refCells, newDev, noughts_len, Dev.rleft]
  · rw [List.append_nil]; exact h2
  · simp [newDev, noughts_len]
  · simp [newDev, noughts_len]
  · unfold maxLen; omega
  · rw [h3]
    simp only [newDev, take_zeros hN.2, List.append_nil, List.map_replicate]
    simp

set_option maxHeartbeats 1000000 in
set_option maxRecDepth 100000 in
theorem r_new_yes (n N : Nat) (w : World) (h : newB n N = true) : Calls Try.prog 9 #[.int .i64 n, .int .i64 N] w fun e w' => ∃ r sg eg, e = .returned (P0 r) ∧ w.heap.size ≤ r ∧ w.heap.size ≤ sg ∧ w.heap.size ≤ eg ∧ Rv w' r sg eg (newDev n N) ∧ Kept [] w w' := by
  have h' : (1 ≤ (n : Int) ∧ (n : Int) ≤ 4096) ∧ 1 ≤ (N : Int) ∧ (N : Int) ≤ 8 := by simpa [newB] using h
  have a1 := h'.1.1
  have a2 := h'.1.2
  have a3 := h'.2.1
  have a4 := h'.2.2
  clear h h'
  go_enter Try.func9, Try.ntmps9
  go_wp2_with fail
  have m1 := run_makeS w.drew n (by omega)
  have m2 := run_makeE w.drew N (by omega)
  have m3 := run_makeE (w.alloc (.cells (u8s (noughts n).flatten).toArray 38)).drew N (by omega)
  have m4 := run_makeS (w.alloc (.cells (Array.replicate N (Value.int .i64 0)) 2)).drew n (by omega)
  go_region
  all_goals (clear m1 m2 m3 m4; go_wp2_with fail)
  · go_ret
    refine ⟨w.heap.size + 1 + 1, w.heap.size, w.heap.size + 1, rfl, by omega, by omega, by omega, rv_new (by omega) (by omega) (by omega) ?_ ?_ ?_, ((((Kept.refl _ _).alloc _).alloc _).alloc _).drew⟩
    · exact heap_new (by simp)
    · exact heap_alloc_old (heap_alloc_old (heap_new rfl))
    · exact heap_alloc_old (heap_new (by simp))
  · go_ret
    refine ⟨w.heap.size + 1 + 1, w.heap.size + 1, w.heap.size, rfl, by omega, by omega, by omega, rv_new (by omega) (by omega) (by omega) ?_ ?_ ?_, ((((Kept.refl _ _).alloc _).alloc _).alloc _).drew⟩
    · exact heap_new (by simp)
    · exact heap_alloc_old (heap_new (by simp))
    · exact heap_alloc_old (heap_alloc_old (heap_new rfl))

end Go.Proofs.Ytffflafalffifaa
