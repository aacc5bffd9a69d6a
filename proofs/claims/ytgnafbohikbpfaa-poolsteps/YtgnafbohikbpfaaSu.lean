/-
  PoolClock: what is kept in mind behind the steps.
-/
import Derived.Test.YtgnafbohikbpfaaSs
import Derived.Test.YtgnafbohikbpfaaSt
import Derived.Test.YtgnafbohikbpfaaSo
namespace Go.Proofs.Ytgnafbohikbpfaa
set_option maxRecDepth 100000
set_option linter.unusedSimpArgs false
open Go.RowKit


variable {w0 w W W' : World} {b mb cb m' : Nat} {P Q : Po} {v : Value} {F : List Int}
theorem blk_ne {b c T U : Nat} {vs us : List Value} (h : Blk w b T vs) (k : Blk w c U us) (hne : T ≠ U) : b ≠ c := by
  rintro rfl
  have := h.symm.trans k
  simp at this
  exact hne this.2
/-- A pool of one's own, and a row of numbers of one's own. -/
structure Ck (w0 W : World) (b mb : Nat) (P : Po) (v : Value) (F : List Int) : Prop where
  on : On w0 W b mb P
  row : Is W v F
  own : ∀ k, v.ownBlock = some k → w0.heap.size ≤ k
theorem Ck.step0 (h : Ck w0 W b mb P v F) (hk : Kept [] W W') : Ck w0 W' b mb P v F := ⟨h.on.step0 hk, h.row.kept hk (fun k _ => by simp), h.own⟩
theorem On.notmap (h : On w0 W b mb P) {k : Nat} {cs : Array Value} {e : TypeId} {p : Nat × Nat} (hk : W.heap[k]? = some (.cells cs e p)) : k ≠ mb := by
  obtain ⟨L, hp⟩ := h.pg
  exact map_not_cells hp.map hk
theorem Ck.far (h : Ck w0 W b mb P v F) : ∀ k, v.ownBlock = some k → k ∉ [b, mb] := by
  intro k hk
  have h1 := h.row.ne h.on.blk (by decide) k hk
  obtain ⟨cs, hc⟩ := h.row.block k hk
  have h2 := h.on.notmap hc
  simp at h1 ⊢
  exact ⟨h1, h2⟩
theorem Ck.call (h : Ck w0 W b mb P v F) (o : On w0 W' b m' Q) (hk : Kept [b, mb] W W') : Ck w0 W' b m' Q v F := ⟨o, h.row.kept hk h.far, h.own⟩
theorem Ck.app (h : Ck w0 W b mb P v F) {v' : Value} {x : Int} (hr : Is W' v' (F ++ [x])) (hk : Kept (spare v) W W') (ho : ∀ k, v'.ownBlock = some k → v.ownBlock = some k ∨ W.heap.size ≤ k) : Ck w0 W' b mb P v' (F ++ [x]) := by
  refine ⟨h.on.step hk (fun e => h.far b (spare_own e) (by simp)) (fun e => h.far mb (spare_own e) (by simp)) (fun k hk2 => h.own k (spare_own hk2)), hr, fun k hk2 => ?_⟩
  rcases ho k hk2 with h1 | h1
  · exact h.own k h1
  · exact Nat.le_trans h.on.kept.size h1
/-- And the counts. -/
def cmC (f : Nat → Nat) : List Value := (List.range 16).map (fun p => .int .i64 (f p : Int))
theorem cmC_at (f : Nat → Nat) {p : Nat} (hp : p < 16) : (cmC f)[p]? = some (.int .i64 (f p : Int)) := by
  unfold cmC
  rw [List.getElem?_map, List.getElem?_range hp]
  rfl
theorem cmC_len (f : Nat → Nat) : (cmC f).length = 16 := by simp [cmC]
theorem cmC_set (f : Nat → Nat) {p : Nat} (hp : p < 16) (n : Nat) : (cmC f).set p (.int .i64 (n : Int)) = cmC (upd f p n) := by
  apply List.ext_getElem?
  intro i
  by_cases hi : i < 16
  · rw [cmC_at _ hi]
    by_cases e : p = i
    · subst e
      rw [List.getElem?_set_self (by rw [cmC_len]; exact hp), upd_same]
    · rw [List.getElem?_set_ne e, cmC_at _ hi, upd_ne f n (fun h => e h.symm)]
  · rw [List.getElem?_eq_none (by rw [List.length_set, cmC_len]; omega), List.getElem?_eq_none (by rw [cmC_len]; omega)]
structure Cm (w0 W : World) (b mb : Nat) (P : Po) (v : Value) (F : List Int) (cb : Nat) (f : Nat → Nat) : Prop where
  ck : Ck w0 W b mb P v F
  cm : Blk W cb 54 (cmC f)
  c0 : w0.heap.size ≤ cb
theorem Cm.step0 {f : Nat → Nat} (h : Cm w0 W b mb P v F cb f) (hk : Kept [] W W') : Cm w0 W' b mb P v F cb f := ⟨h.ck.step0 hk, h.cm.kept hk (by simp), h.c0⟩
theorem Cm.call {f : Nat → Nat} (h : Cm w0 W b mb P v F cb f) (o : On w0 W' b m' Q) (hk : Kept [b, mb] W W') : Cm w0 W' b m' Q v F cb f := by
  refine ⟨h.ck.call o hk, h.cm.kept hk ?_, h.c0⟩
  have h1 := blk_ne h.cm h.ck.on.blk (by decide)
  have h2 := h.ck.on.notmap h.cm
  simp
  exact ⟨h1, h2⟩
theorem Cm.put {f : Nat → Nat} (h : Cm w0 W b mb P v F cb f) {p : Nat} (n : Nat) (hk : Kept [cb] W W') (hB : Blk W' cb 54 (cmC (upd f p n))) : Cm w0 W' b mb P v F cb (upd f p n) := by
  have h1 := blk_ne h.cm h.ck.on.blk (by decide)
  have h2 := h.ck.on.notmap h.cm
  refine ⟨⟨h.ck.on.step hk (by simp; exact fun e => h1 e.symm) (by simp; exact fun e => h2 e.symm) (by simp; exact h.c0), h.ck.row.kept hk ?_, h.ck.own⟩, hB, h.c0⟩
  exact h.ck.row.ne h.cm (by decide)
theorem on_vicV (h : On w0 W b mb P) {p : Int} {r : Bool} (hp : P.vic.2 = (p, r)) : Calls Try.prog 17 #[P0 b] W (OC w0 W b mb P.vic.1 (.tuple #[.int .i64 p, .bool r])) := by
  have h1 := on_vic h
  rw [hp] at h1
  exact h1
theorem cb0 : cmC (fun _ => 0) = List.replicate 16 (.int .i64 0) := by rfl
theorem zero54 (w : World) : (Instr.alloc 54 true (.tuple #[])).run Try.prog w = .ok (P0 w.heap.size) (w.alloc (.cells (cmC (fun _ => 0)).toArray 54)) := by kernel_rfl
theorem bs48 (w : World) (x : Int) : (Instr.buildSlice 48 1 #[(0, .int .i64 x)]).run Try.prog w = .ok (.slice (some ⟨w.heap.size, 0, none⟩) 1 1) (w.alloc (.cells #[.int .i64 x] 3)) := by kernel_rfl
section
variable {ops : Array Oper} {rest : List Oper} {op o : Oper} {a : Act} {w : World} {K : Act → World → Prop} {Q : Exit → Act → World → Prop}
theorem o_bs48 (y : Operand) (ho : o.op = .buildSlice 48 1 #[(0, y)]) (x : Int) (hy : a.eval y = .int .i64 x) (h : ∀ W g, g = w.heap.size → Blk W g 3 ([Value.int .i64 x]) → Kept [] w W → K (a.put o.dst (.slice (some ⟨g, 0, none⟩) 1 1)) W) : o.wp Try.prog a w K Q := by
  unfold Oper.wp execOp
  simp only [ho, List.map_toArray, List.map_cons, List.map_nil, hy, Sem.run_bind, bs48, Result.andThen_ok]
  exact h _ _ rfl (Blk.new _ _ _) ((Kept.refl _ _).alloc _)
theorem wpBs48 (hgd : op.guard = none) (y : Operand) (ho : op.op = .buildSlice 48 1 #[(0, y)]) (x : Int) (hy : a.eval y = .int .i64 x) (h : ∀ W g, g = w.heap.size → Blk W g 3 ([Value.int .i64 x]) → Kept [] w W → wpList Try.prog ops Q rest (a.put op.dst (.slice (some ⟨g, 0, none⟩) 1 1)) W) : wpList Try.prog ops Q (op :: rest) a w :=
  wpList_plain hgd fun _ hK => o_bs48 y ho x hy (fun W g h1 h2 h3 => hK _ _ (h W g h1 h2 h3))
/-- An element of such a row. -/
theorem o_idx48 (x y : Operand) (ho : o.op = .indexAddr 48 x y) (v : Value) (X : List Int) (j : Nat) (m : Int) (hx : a.eval x = v) (hy : a.eval y = .int .i64 j) (hI : Is w v X) (hm : X[j]? = some m) (h : ∀ ad, w.cell? ad = some (.int .i64 m) → K (a.put o.dst (.pointer (some ad))) w) : o.wp Try.prog a w K Q := by
  obtain ⟨g, off, c, rfl, hc⟩ := hI.get hm
  have hj := (List.getElem?_eq_some_iff.1 hm).1
  have hjI : (j : Int) < X.length := by omega
  unfold Oper.wp execOp
  simp only [ho, hx, hy]
  simp [go_sem, hjI]
  exact h _ hc
theorem wpIdx48 (hgd : op.guard = none) (x y : Operand) (ho : op.op = .indexAddr 48 x y) (v : Value) (X : List Int) (j : Nat) (m : Int) (hx : a.eval x = v) (hy : a.eval y = .int .i64 j) (hI : Is w v X) (hm : X[j]? = some m) (h : ∀ ad, w.cell? ad = some (.int .i64 m) → wpList Try.prog ops Q rest (a.put op.dst (.pointer (some ad))) w) : wpList Try.prog ops Q (op :: rest) a w :=
  wpList_plain hgd fun _ hK => o_idx48 x y ho v X j m hx hy hI hm (fun ad hp => hK _ _ (h ad hp))
theorem wpIdx48W (hw : Region.wanted op (yielded ops a.tmps) = true) (x y : Operand) (ho : op.op = .indexAddr 48 x y) (v : Value) (X : List Int) (j : Nat) (m : Int) (hx : a.eval x = v) (hy : a.eval y = .int .i64 j) (hI : Is w v X) (hm : X[j]? = some m) (h : ∀ ad, w.cell? ad = some (.int .i64 m) → wpList Try.prog ops Q rest (a.put op.dst (.pointer (some ad))) w) : wpList Try.prog ops Q (op :: rest) a w :=
  BigFrame.wpList_want hw fun _ hK => o_idx48 x y ho v X j m hx hy hI hm (fun ad hp => hK _ _ (h ad hp))
theorem o_idx54 (x y : Operand) (ho : o.op = .indexAddr 54 x y) (b n : Nat) (hn : n < 16) (hx : a.eval x = P0 b) (hy : a.eval y = .int .i64 n) (h : K (a.put o.dst (.pointer (some ⟨b, n, none⟩))) w) : o.wp Try.prog a w K Q := by
  have hn2 : (n : Int) < 16 := by omega
  unfold Oper.wp execOp
  simp only [ho, hx, hy]
  simp [go_sem, hn2]
  exact h
theorem wpIdx54 (hgd : op.guard = none) (x y : Operand) (ho : op.op = .indexAddr 54 x y) (b n : Nat) (hn : n < 16) (hx : a.eval x = P0 b) (hy : a.eval y = .int .i64 n) (h : wpList Try.prog ops Q rest (a.put op.dst (.pointer (some ⟨b, n, none⟩))) w) : wpList Try.prog ops Q (op :: rest) a w :=
  wpList_plain hgd fun _ hK => o_idx54 x y ho b n hn hx hy (hK _ _ h)
/-- A count is stored. -/
theorem wpSt54 (hgd : op.guard = none) (x y : Operand) (ho : op.op = .store 3 x y) (hd : op.dst = none) (b p n : Nat) (hp : p < 16) (f : Nat → Nat) (hx : a.eval x = .pointer (some ⟨b, p, none⟩)) (hy : a.eval y = .int .i64 n) (hB : Blk w b 54 (cmC f)) (h : ∀ W, Kept [b] w W → Blk W b 54 (cmC (upd f p n)) → wpList Try.prog ops Q rest a W) : wpList Try.prog ops Q (op :: rest) a w := by
  refine wpSt1 size3 hgd x y ho hd b p 0 (.int .i64 n) ⟨rfl, rfl⟩ hx hy (Mm.one hB) rfl (by rw [cmC_len]; exact hp) (cmC_set f hp n) (fun W hM => ?_)
  exact h W hM.kept (hM.at 0 _ rfl)
end

end Go.Proofs.Ytgnafbohikbpfaa
