/-
  What stands needs: variables of one cell, what stays.
-/
import Derived.Test.YtffflafalffifaaTabr
namespace Go.Proofs.Ytffflafalffifaa.K
open Go.RowKit Go.Shelf

theorem zero3 (w : World) : (Instr.alloc 3 true (.tuple #[])).run Try.prog w = .ok (P0 w.heap.size) (w.alloc (.cells [Value.int .i64 0].toArray 3)) := by kernel_rfl
theorem zero4 (w : World) : (Instr.alloc 4 true (.tuple #[])).run Try.prog w = .ok (P0 w.heap.size) (w.alloc (.cells [Value.bool false].toArray 4)) := by kernel_rfl
theorem zero38 (w : World) : (Instr.alloc 38 true (.tuple #[])).run Try.prog w = .ok (P0 w.heap.size) (w.alloc (.cells (u8s nought).toArray 38)) := by kernel_rfl
theorem run_box3 (n : Int) (w : World) : (Instr.box 3 (.int .i64 n)).run Try.prog w = .ok (P0 w.heap.size) (w.alloc (.cells [Value.int .i64 n].toArray 3)) := by kernel_rfl
theorem run_box28 (r : Nat) (w : World) : (Instr.box 28 (P0 r)).run Try.prog w = .ok (P0 w.heap.size) (w.alloc (.cells [P0 r].toArray 28)) := by kernel_rfl
theorem eq80 (q : Value) (W : World) : Sem.run Try.prog (binOp BinOp.eql 80 (.func (.func 58) #[] #[q]) .nilFunc) W = .ok (.bool false) W := by kernel_rfl
theorem st3 (w : World) (b : Nat) (u : Value) (n : Int) (h : Blk w b 3 [u]) : (storeVar 3 ⟨b, 0, none⟩ (.int .i64 n)).run Try.prog w = .ok () (w.setCell ⟨b, 0, none⟩ (.int .i64 n)) := by
  have hc := fits_cell h 0 u rfl
  have hf := h.frozen 0
  simp [storeVar, go_sem, hc, hf]
theorem st4 (w : World) (b : Nat) (u : Value) (n : Bool) (h : Blk w b 4 [u]) : (storeVar 4 ⟨b, 0, none⟩ (.bool n)).run Try.prog w = .ok () (w.setCell ⟨b, 0, none⟩ (.bool n)) := by
  have hc := fits_cell h 0 u rfl
  have hf := h.frozen 0
  simp [storeVar, go_sem, hc, hf]
theorem Blk.one {w : World} {b T : Nat} {u : Value} (h : Blk w b T [u]) (v : Value) : Blk (w.setCell ⟨b, 0, none⟩ v) b T [v] := h.set v
section
variable {ops : Array Oper} {rest : List Oper} {op o1 o2 : Oper} {a : Act} {w : World} {Q : Exit → Act → World → Prop}
theorem wpBox1 {T : Nat} (v : Value) (hr : ∀ w : World, (Instr.box T v).run Try.prog w = .ok (P0 w.heap.size) (w.alloc (.cells [v].toArray T))) (hgd : op.guard = none) (x : Operand) (ho : op.op = .box T x) (hx : a.eval x = v)
    (h : ∀ W b, b = w.heap.size → Blk W b T [v] → Kept [] w W → wpList Try.prog ops Q rest (a.put op.dst (P0 b)) W) : wpList Try.prog ops Q (op :: rest) a w :=
  wpList_plain hgd fun K hK => by
    unfold Oper.wp execOp
    simp only [ho, hx, Sem.run_bind, hr, Result.andThen_ok]
    exact hK _ _ (h _ _ rfl (Blk.new w T _) ((Kept.refl _ _).alloc _))
theorem wpVar {T : Nat} (z v : Value) (hr : ∀ w : World, (Instr.alloc T true (.tuple #[])).run Try.prog w = .ok (P0 w.heap.size) (w.alloc (.cells [z].toArray T))) (hst : ∀ (w : World) (b : Nat) (u : Value), Blk w b T [u] → (storeVar T ⟨b, 0, none⟩ v).run Try.prog w = .ok () (w.setCell ⟨b, 0, none⟩ v))
    (d : Nat) (hd : o1.dst = some d) (hg1 : o1.guard = none) (ho1 : o1.op = .alloc T) (y : Operand) (hg2 : o2.guard = none) (ho2 : o2.op = .store T (.tmp d) y) (hd2 : o2.dst = none)
    (hx : (a.put (some d) (P0 w.heap.size)).eval (.tmp d) = P0 w.heap.size) (hy : (a.put (some d) (P0 w.heap.size)).eval y = v)
    (h : ∀ W b, b = w.heap.size → Blk W b T [v] → Kept [] w W → wpList Try.prog ops Q rest (a.put (some d) (P0 b)) W) : wpList Try.prog ops Q (o1 :: o2 :: rest) a w :=
  wpList_plain hg1 fun K hK => by
    have hb : Blk (w.alloc (.cells [z].toArray T)) w.heap.size T [z] := Blk.new w T [z]
    unfold Oper.wp execOp
    simp only [ho1, Sem.run_bind, hr, Result.andThen_ok]
    refine hK _ _ ?_
    rw [hd]
    refine wpList_plain hg2 fun K' hK' => ?_
    unfold Oper.wp execOp
    simp only [ho2, hx, hy, Instr.storeAt, Instr.sureAddr, Sem.run_bind, Sem.run_pure, Result.andThen_ok, hst _ _ _ hb]
    refine hK' _ _ ?_
    rw [hd2]
    exact h _ _ rfl (hb.one v) (((Kept.refl _ _).alloc _).setCell (p := ⟨w.heap.size, 0, none⟩) (by simp) _)
theorem wpStore1 {T : Nat} (u v : Value) (hst : ∀ (w : World) (b : Nat) (u : Value), Blk w b T [u] → (storeVar T ⟨b, 0, none⟩ v).run Try.prog w = .ok () (w.setCell ⟨b, 0, none⟩ v)) (hgd : op.guard = none) (x y : Operand) (ho : op.op = .store T x y) (hd : op.dst = none)
    (b : Nat) (hx : a.eval x = P0 b) (hy : a.eval y = v) (hb : Blk w b T [u]) (h : ∀ W, Blk W b T [v] → W = w.setCell ⟨b, 0, none⟩ v → wpList Try.prog ops Q rest a W) : wpList Try.prog ops Q (op :: rest) a w :=
  wpList_plain hgd fun K hK => by
    unfold Oper.wp execOp
    simp only [ho, hx, hy, Instr.storeAt, Instr.sureAddr, Sem.run_bind, Sem.run_pure, Result.andThen_ok, hst _ _ _ hb]
    refine hK _ _ ?_
    rw [hd]
    exact h _ (hb.one v) rfl
theorem wpNeq2S (hgd : op.guard = none) (x y : Operand) (ho : op.op = .binOp .neq 2 x y 2) (m : Int) (hx : a.eval x = .int .i64 m) (hy : a.eval y = .int .i64 m) (h : wpList Try.prog ops Q rest (a.put op.dst (.bool false)) w) : wpList Try.prog ops Q (op :: rest) a w :=
  wpList_plain hgd fun K hK => o_neq2v x y ho m m true (by simp) hx hy (hK _ _ h)
theorem wpNeq3G (x y : Operand) (ho : op.op = .binOp .neq 3 x y 3) (hw : Region.wanted op (yielded ops a.tmps) = true) (m : Int) (hx : a.eval x = .int .i64 m) (hy : a.eval y = .int .i64 m) (h : wpList Try.prog ops Q rest (a.put op.dst (.bool false)) w) : wpList Try.prog ops Q (op :: rest) a w :=
  BigFrame.wpList_want hw fun K hK => o_neq3v x y ho m m true (by simp) hx hy (hK _ _ h)
theorem wpNeqSS (hgd : op.guard = none) (x y : Operand) (ho : op.op = .binOp .neq 38 x y 38) (s : List Int) (hs : Sec s) (hx : a.eval x = aggV (u8s s)) (hy : a.eval y = aggV (u8s s)) (h : wpList Try.prog ops Q rest (a.put op.dst (.bool false)) w) : wpList Try.prog ops Q (op :: rest) a w :=
  wpList_plain hgd fun K hK => o_neqS x y ho s s hs hs true (by simp) hx hy (hK _ _ h)
end
theorem sec_u8 {s : List Int} (h : Sec s) : (u8s s).length = 64 := by rw [u8s_len, h.1]
theorem read_sec {D : Dev} (h : D.Ok) (x : Int) : Sec (D.read x).1 := by
  unfold Dev.read
  split
  · next hx =>
    by_cases hl : x.toNat < D.S.length
    · have : D.S.getD x.toNat nought = D.S[x.toNat] := by simp [List.getD, hl]
      show Sec (D.S.getD x.toNat nought)
      rw [this]
      exact h.sec _ (List.getElem_mem hl)
    · have : D.S.getD x.toNat nought = nought := by simp [List.getD, hl]
      show Sec (D.S.getD x.toNat nought)
      rw [this]
      exact nought_sec
  · exact nought_sec
theorem epoch_bd {D : Dev} (h : D.Ok) (x : Int) : 0 ≤ (D.epoch x).1 ∧ (D.epoch x).1 ≤ 2147483647 := by
  unfold Dev.epoch
  split
  · next hx =>
    have hx := hasN_true hx
    have := ep_le h x.toNat (by omega)
    rw [show ((x.toNat : Nat) : Int) = x by omega] at this
    exact this
  · exact ⟨by simp, by simp⟩
theorem all40' (b : Nat) (w : World) : Calls Try.prog 40 #[P0 b] w fun e w' => ∃ q, e = .returned (.func (.func 58) #[] #[P0 q]) ∧ w.heap.size ≤ q ∧ Blk w' q 24 [P0 b] ∧ Kept [] w w' := by
  refine (all40 (some ⟨b, 0, none⟩) w).mono ?_
  rintro e w' ⟨rfl, rfl⟩
  exact ⟨w.heap.size, rfl, Nat.le_refl _, Blk.new w 24 [P0 b], (Kept.refl _ _).alloc _⟩
/-- What stays through stands. -/
structure Sv (w W : World) (b4 b5 b6 r : Nat) (leave : Int) : Prop where
  r4 : Blk W b4 28 [P0 r]
  l5 : Blk W b5 3 [.int .i64 leave]
  o6 : Blk W b6 4 [.bool false]
  k : Kept [] w W
  ge : w.heap.size ≤ b4 ∧ w.heap.size ≤ b5 ∧ w.heap.size ≤ b6
theorem Sv.step {w W W' : World} {b4 b5 b6 r : Nat} {leave : Int} (h : Sv w W b4 b5 b6 r leave) (hk : Kept [] W W') : Sv w W' b4 b5 b6 r leave :=
  ⟨h.r4.kept hk (by simp), h.l5.kept hk (by simp), h.o6.kept hk (by simp), h.k.trans hk, h.ge⟩

end Go.Proofs.Ytffflafalffifaa.K
