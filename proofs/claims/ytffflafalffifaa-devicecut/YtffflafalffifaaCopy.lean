/-
  The walk of Copy.
-/
import Derived.Test.YtffflafalffifaaSame
namespace Go.Proofs.Ytffflafalffifaa
open Go.RowKit

/-- A device's head as a value. -/
def devV (D : Dev) (g cap : Nat) : Value := .agg (devCells D g cap).toArray
def zeroD : List Value := [.slice none 0 0, .int .i64 0, .int .i64 0, .int .i64 0, .int .i64 0, .int .i64 0, .int .i64 0, .int .i64 0, .int .i64 0, .int .i64 0, .int .i64 0, .bool false, .int .i64 0, .bool false]
theorem Try.info67 : (Try.prog.info? 67).map (·.size) = some 14 := by kernel_rfl
theorem run_alloc67 (w : World) : (Instr.alloc 67 true (.tuple #[])).run Try.prog w = .ok (.pointer (some ⟨w.heap.size, 0, none⟩)) (w.alloc (.cells zeroD.toArray 67)) := by kernel_rfl
theorem dev_one {D : Dev} (g cap : Nat) : ∀ v ∈ devCells D g cap, v.oneCell' = true := by
  intro v hv
  simp only [devCells, List.mem_append, List.mem_cons, List.mem_map] at hv
  rcases hv with ((rfl | rfl | h) | ⟨x, _, rfl⟩) | rfl | rfl | rfl | rfl | h <;> first | rfl | simp at h

section
variable {ops : Array Oper} {rest : List Oper} {op : Oper} {a : Act} {w : World} {Q : Exit → Act → World → Prop}
theorem wpLoadD (hgd : op.guard = none) (x : Operand) (ho : op.op = .load 67 x) (b g cap : Nat) (D : Dev) (hok : D.Ok) (hx : a.eval x = P0 b) (hh : Head w b g cap D) (h : wpList Try.prog ops Q rest (a.put op.dst (devV D g cap)) w) : wpList Try.prog ops Q (op :: rest) a w :=
  wpList_load_mid (P := Try.prog) hgd 67 x ho b 0 hx (devCells D g cap) _ (fun j v hj => by rw [Nat.zero_add, cell_of_block hh, List.getElem?_toArray]; exact hj) Try.underlying67 rfl (by rw [devCells_len hok]; exact Try.info67) h
theorem wpAllocD (hgd : op.guard = none) (ho : op.op = .alloc 67) (h : wpList Try.prog ops Q rest (a.put op.dst (.pointer (some ⟨w.heap.size, 0, none⟩))) (w.alloc (.cells zeroD.toArray 67))) : wpList Try.prog ops Q (op :: rest) a w :=
  wpList_plain hgd fun K hK => by
    unfold Oper.wp execOp
    simp only [ho, Sem.run_bind, run_alloc67, Result.andThen_ok]
    exact hK _ _ h
theorem wpStoreD (hgd : op.guard = none) (x y : Operand) (ho : op.op = .store 67 x y) (b g cap : Nat) (D : Dev) (hok : D.Ok) (hx : a.eval x = P0 b) (hy : a.eval y = devV D g cap) (hA : w.there b 0 14) (h : wpList Try.prog ops Q rest (a.put op.dst undef) (w.setCells b 0 (devCells D g cap))) : wpList Try.prog ops Q (op :: rest) a w :=
  wpList_store_mid (P := Try.prog) hgd 67 x y ho b 0 (devCells D g cap).toArray hx hy (by simpa [devCells_len hok] using hA) (by simp only [List.size_toArray, devCells_len hok]; exact Try.info67) (all_oneCell_toArray (dev_one g cap)) h
end

theorem cells_slice (D : Dev) (g cap q cap' : Nat) : devCells D q cap' = (devCells D g cap).set 0 (.slice (some ⟨q, 0, none⟩) D.S.length cap') := by simp [devCells]

set_option maxHeartbeats 1000000 in
set_option maxRecDepth 100000 in
theorem copy21 (b g : Nat) (D : Dev) (w : World) (h : Dv w b g D) :
    Calls Try.prog 21 #[P0 b] w fun e w' => ∃ b2 g2, e = .returned (P0 b2) ∧ w.heap.size ≤ b2 ∧ w.heap.size ≤ g2 ∧ Dv w' b2 g2 D ∧ Kept [] w w' := by
  have hok := h.ok
  have hlt := h.lt
  obtain ⟨cap, hh, hbd⟩ := h.lay
  have hN := hide (none_no b g D w h)
  have hZ : Hid ((w.alloc (.cells zeroD.toArray 67)).heap[w.heap.size]? = some (.cells zeroD.toArray 67 (0, 0))) := heap_new rfl
  have hth : Hid ((w.alloc (.cells zeroD.toArray 67)).there w.heap.size 0 14) := fun j hj => ⟨by rw [cell_of_block (unhide hZ), Nat.zero_add, List.getElem?_toArray, List.getElem?_eq_getElem (by simpa [zeroD] using hj)]; rfl, frozen_of_block (unhide hZ) _⟩
  have hkW : Kept [] w ((w.alloc (.cells zeroD.toArray 67)).setCells w.heap.size 0 (devCells D g cap)) := ((Kept.refl _ _).alloc _).setCells _ _ (by omega)
  have hHz : Hid (((w.alloc (.cells zeroD.toArray 67)).setCells w.heap.size 0 (devCells D g cap)).heap[w.heap.size]? = some (.cells (devCells D g cap).toArray 67 (0, 0))) := by
    have := heap_sets (b := w.heap.size) (t := 67) (p := (0, 0)) (devCells D g cap) (w.alloc (.cells zeroD.toArray 67)) 0 [] zeroD [] (by simpa using unhide hZ) rfl (by rw [devCells_len hok]; rfl)
    show _ = _
    rw [this]; simp
  have hDW := h.kept hkW (by simp) (by simp)
  obtain ⟨ex, hb1, hb2, hb3, hb4⟩ := hbd
  have hC := hide (clone51 (some ⟨g, 0, none⟩) D.S.length cap D.S _ ((secs_block hok.sec rfl hb1 cap hb2).kept hkW (fun _ _ _ => by simp)) (by have := hok.s0; omega) (by have := hok.s1; omega))
  have hc0 : ((w.alloc (.cells zeroD.toArray 67)).setCells w.heap.size 0 (devCells D g cap)).cell? ⟨b, 0, none⟩ = some (.slice (some ⟨g, 0, none⟩) D.S.length cap) := hkW.cell (hh.cells hok).1 (by simp)
  have HH := hide hh
  clear hh hDW
  go_enter Try.func21, Try.ntmps21
  go_wp2_with fail
  refine (unhide hN).mono ?_
  rintro e w' ⟨rfl, hww⟩
  obtain rfl := hww.symm
  go_wp2_with (first | (refine wpLoadD rfl (.tmp 7) rfl b g cap D hok rfl (unhide HH) ?_) | (refine wpAllocD rfl rfl ?_) | (refine wpStoreD rfl (.tmp 3) (.tmp 8) rfl w.heap.size g cap D hok rfl rfl (unhide hth) ?_))
  refine (unhide hC).mono ?_
  rintro e w2 ⟨q, cap2, ex2, rfl, hq1, hq2, hq3, hq4, hq5, hk2⟩
  have hz2 := hk2.heap (unhide hHz) (by simp)
  have hcz : w2.cell? ⟨w.heap.size, 0, none⟩ = some (.slice (some ⟨g, 0, none⟩) D.S.length cap) := by rw [cell_of_block hz2]; simp [devCells]
  have hfz : w2.frozen? ⟨w.heap.size, 0, none⟩ = false := frozen_of_block hz2 0
  have hsz := hkW.size
  have hzl : w.heap.size < ((w.alloc (.cells zeroD.toArray 67)).setCells w.heap.size 0 (devCells D g cap)).heap.size := lt_of_block (unhide hHz)
  have hkk : Hid (Kept [] w w2) := hkW.trans hk2
  have HZ := hide hz2
  have HQ := hide hq2
  clear hC hN hZ hth hHz hc0 hk2 hz2 hq2 hkW
  go_wp2_with fail
  go_ret
  refine ⟨w.heap.size, q, rfl, Nat.le_refl _, by omega, ⟨hok, by omega, cap2, ?_, ex2, ?_, hq3, hq4, hq5⟩, (unhide hkk).setCell (by simp) _⟩
  · unfold Head
    rw [heap_set (unhide HZ), cells_slice D g cap q cap2, List.setIfInBounds_toArray]
  · exact heap_set_ne (unhide HQ) (by omega)

end Go.Proofs.Ytffflafalffifaa
