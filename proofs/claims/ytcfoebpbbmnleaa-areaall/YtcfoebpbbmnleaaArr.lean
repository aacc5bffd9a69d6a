/-
  Laws for arrays and structs that are loaded, stored, made, boxed and compared as a whole: sectors, halves, bodies, versions, stamps.
-/
import Derived.Test.YtcfoebpbbmnleaaPlain
import Derived.Test.YtcfoebpbbmnleaaProg
import Derived.Test.YtcfoebpbbmnleaaPref
import Derived.BigFrame
import Derived.ChangeKeysEq
import Derived.Deep.QuietTactic
import Derived.Laws.CopyOwn
import Derived.Deep.RegionLaw
import Derived.Laws.StructEq
namespace Go.Proofs.Ytcfoebpbbmnleaa
open Go.RowKit

/-- A pointer to a block's beginning. -/
abbrev P0 (b : Nat) : Value := .pointer (some ⟨b, 0, none⟩)
/-- Cells as one value. -/
def aggV (vs : List Value) : Value := .agg vs.toArray
/-- The type T is an array or a struct of n cells. -/
def Row (T n : Nat) : Prop := ∃ d, Try.prog.underlying T = some d ∧ d.isRow = true ∧ (Try.prog.info? T).map (·.size) = some n

/-- A block that has these cells. -/
def Blk (w : World) (b T : Nat) (vs : List Value) : Prop := w.heap[b]? = some (.cells vs.toArray T (0, 0))
theorem Blk.new (w : World) (T : Nat) (vs : List Value) : Blk (w.alloc (.cells vs.toArray T)) w.heap.size T vs := heap_alloc_new w _
theorem Blk.new' {w : World} {T b : Nat} {vs : List Value} (hb : b = w.heap.size) : Blk (w.alloc (.cells vs.toArray T)) b T vs := by subst hb; exact heap_alloc_new w _
theorem Blk.alloc {w : World} {b T : Nat} {vs : List Value} (h : Blk w b T vs) (o : Obj) : Blk (w.alloc o) b T vs := heap_alloc_old h
theorem Blk.lt {w : World} {b T : Nat} {vs : List Value} (h : Blk w b T vs) : b < w.heap.size := lt_of_block h
theorem Blk.kept {w w' : World} {b T : Nat} {vs : List Value} {X : List Nat} (h : Blk w b T vs) (hk : Kept X w w') (hb : b ∉ X) : Blk w' b T vs := hk.heap h hb
theorem Blk.drew {w : World} {b T : Nat} {vs : List Value} (h : Blk w b T vs) : Blk w.drew b T vs := h
theorem Blk.put {w : World} {b T : Nat} {us vs : List Value} (h : Blk w b T us) (hl : us.length = vs.length) : Blk (w.setCells b 0 vs) b T vs := by
  have := heap_sets (b := b) (t := T) (p := (0, 0)) vs w 0 [] us [] (by simpa [Blk] using h) rfl hl
  simpa [Blk] using this
theorem Blk.part {w : World} {b T o : Nat} {pre mid post vs : List Value} (h : Blk w b T (pre ++ mid ++ post)) (ho : pre.length = o) (hl : mid.length = vs.length) : Blk (w.setCells b o vs) b T (pre ++ vs ++ post) :=
  heap_sets vs w o pre mid post h ho hl
theorem Blk.other {w : World} {b b' T o : Nat} {us vs : List Value} (h : Blk w b T us) (hne : b ≠ b') : Blk (w.setCells b' o vs) b T us := by
  unfold Blk; rw [sets_ne _ _ _ _ hne]; exact h
theorem Blk.set {w : World} {b T i : Nat} {us : List Value} (h : Blk w b T us) (v : Value) : Blk (w.setCell ⟨b, i, none⟩ v) b T (us.set i v) := by
  unfold Blk; rw [heap_set h, List.setIfInBounds_toArray]
theorem Blk.set_other {w : World} {b b' T i : Nat} {us : List Value} (h : Blk w b T us) (hne : b ≠ b') (v : Value) : Blk (w.setCell ⟨b', i, none⟩ v) b T us := heap_set_ne h hne
theorem Blk.cell {w : World} {b T : Nat} {us : List Value} (h : Blk w b T us) (i : Nat) : w.cell? ⟨b, i, none⟩ = us[i]? := by rw [cell_of_block h, List.getElem?_toArray]
theorem Blk.frozen {w : World} {b T : Nat} {us : List Value} (h : Blk w b T us) (i : Nat) : w.frozen? ⟨b, i, none⟩ = false := frozen_of_block h i
theorem Blk.range {w : World} {b T : Nat} {us : List Value} (h : Blk w b T us) : w.rangeAt b 0 us := fun j v hj => by rw [Nat.zero_add, h.cell]; exact hj
theorem Blk.rangeIn {w : World} {b T o : Nat} {us : List Value} (h : Blk w b T us) (vs : List Value) (hv : ∀ j, j < vs.length → us[o + j]? = vs[j]?) : w.rangeAt b o vs := fun j v hj => by
  rw [h.cell, hv j (List.getElem?_eq_some_iff.1 hj).1]; exact hj
theorem Blk.there {w : World} {b T o n : Nat} {us : List Value} (h : Blk w b T us) (hn : o + n ≤ us.length) : w.there b o n := fun j hj =>
  ⟨by rw [h.cell, List.getElem?_eq_getElem (by omega)]; rfl, h.frozen _⟩

section
variable {ops : Array Oper} {rest : List Oper} {op : Oper} {a : Act} {w : World} {Q : Exit → Act → World → Prop}

theorem wpLoadA {T n : Nat} (hT : Row T n) (hgd : op.guard = none) (x : Operand) (ho : op.op = .load T x) (b o : Nat) (hx : a.eval x = .pointer (some ⟨b, o, none⟩)) (vs : List Value) (hl : vs.length = n) (hA : w.rangeAt b o vs)
    (h : wpList Try.prog ops Q rest (a.put op.dst (aggV vs)) w) : wpList Try.prog ops Q (op :: rest) a w := by
  obtain ⟨d, h1, h2, h3⟩ := hT
  exact wpList_load_mid (P := Try.prog) hgd T x ho b o hx vs d hA h1 h2 (by rw [hl]; exact h3) h

theorem wpStoreA {T n : Nat} (hT : Row T n) (hgd : op.guard = none) (x y : Operand) (ho : op.op = .store T x y) (b o : Nat) (vs : List Value) (hx : a.eval x = .pointer (some ⟨b, o, none⟩)) (hy : a.eval y = aggV vs) (hl : vs.length = n) (h1 : ∀ v ∈ vs, v.oneCell' = true) (hA : w.there b o n)
    (h : wpList Try.prog ops Q rest (a.put op.dst undef) (w.setCells b o vs)) : wpList Try.prog ops Q (op :: rest) a w := by
  obtain ⟨d, g1, g2, g3⟩ := hT
  exact wpList_store_mid (P := Try.prog) hgd T x y ho b o vs.toArray hx hy (by simpa [hl] using hA) (by simpa [hl] using g3) (all_oneCell_toArray h1) h

theorem wpAllocA {T : Nat} (vs : List Value) (hr : ∀ w : World, (Instr.alloc T true (.tuple #[])).run Try.prog w = .ok (P0 w.heap.size) (w.alloc (.cells vs.toArray T))) (hgd : op.guard = none) (ho : op.op = .alloc T)
    (h : wpList Try.prog ops Q rest (a.put op.dst (P0 w.heap.size)) (w.alloc (.cells vs.toArray T))) : wpList Try.prog ops Q (op :: rest) a w :=
  wpList_plain hgd fun K hK => by
    unfold Oper.wp execOp
    simp only [ho, Sem.run_bind, hr, Result.andThen_ok]
    exact hK _ _ h

theorem wpBuildZ {T : Nat} (vs : List Value) (hr : ∀ w : World, (Instr.build T #[]).run Try.prog w = .ok (aggV vs) w) (hgd : op.guard = none) (ho : op.op = .build T #[])
    (h : wpList Try.prog ops Q rest (a.put op.dst (aggV vs)) w) : wpList Try.prog ops Q (op :: rest) a w :=
  wpList_plain hgd fun K hK => by
    unfold Oper.wp execOp
    simp only [ho, Array.map_empty, Sem.run_bind, hr, Result.andThen_ok]
    exact hK _ _ h

theorem run_boxA (T : Nat) (w : World) (vs : List Value) : (Instr.box T (aggV vs)).run Try.prog w = .ok (P0 w.heap.size) (w.alloc (.cells vs.toArray T)) := by
  simp [Instr.box, aggV, newVar, newRow, Value.cells]

theorem wpBoxA {T : Nat} (hgd : op.guard = none) (x : Operand) (ho : op.op = .box T x) (vs : List Value) (hx : a.eval x = aggV vs)
    (h : wpList Try.prog ops Q rest (a.put op.dst (P0 w.heap.size)) (w.alloc (.cells vs.toArray T))) : wpList Try.prog ops Q (op :: rest) a w :=
  wpList_plain hgd fun K hK => by
    unfold Oper.wp execOp
    simp only [ho, hx, Sem.run_bind, run_boxA, Result.andThen_ok]
    exact hK _ _ h

/-- An operation whose run is known. -/
theorem wpRun (hgd : op.guard = none) (i : Sem Value) (v : Value) (w' : World) (he : ∀ K Q', (match i.run Try.prog w with | .ok v w' => K (a.put op.dst v) w' | _ => False) → op.wp Try.prog a w K Q') (hr : i.run Try.prog w = .ok v w')
    (h : wpList Try.prog ops Q rest (a.put op.dst v) w') : wpList Try.prog ops Q (op :: rest) a w :=
  wpList_plain hgd fun K hK => he K _ (by rw [hr]; exact hK _ _ h)

/-- Two values are compared. -/
theorem wpEqlA (T r : Nat) (hG : Try.prog.eqGuardType Try.prog.depth T = false) (x y : Operand) (hgd : op.guard = none) (ho : op.op = .binOp .eql T x y r) (vs us : List Value) (hx : a.eval x = aggV vs) (hy : a.eval y = aggV us) (c : Bool)
    (he : (Op.equal T (aggV vs) (aggV us)).run Try.prog w = .ok c w)
    (h : wpList Try.prog ops Q rest (a.put op.dst (.bool c)) w) : wpList Try.prog ops Q (op :: rest) a w :=
  wpList_plain hgd fun K hK => by
    unfold Oper.wp execOp
    simp only [aggV] at he hx hy
    have hg : (eqGuard .eql T x y (.agg vs.toArray) (.agg us.toArray)).run Try.prog w = .ok () w := by simp [eqGuard, Sem.run_bind, hG]
    have hb : (binOp BinOp.eql T (.agg vs.toArray) (.agg us.toArray)).run Try.prog w = .ok (.bool c) w := by simp only [binOp, Sem.run_bind, he, Result.andThen_ok, Sem.run_pure]
    simp only [ho, hx, hy, Sem.run_bind, hg, hb, Result.andThen_ok]
    exact hK _ _ h
theorem wpNeqA (T r : Nat) (hG : Try.prog.eqGuardType Try.prog.depth T = false) (x y : Operand) (hgd : op.guard = none) (ho : op.op = .binOp .neq T x y r) (vs us : List Value) (hx : a.eval x = aggV vs) (hy : a.eval y = aggV us) (c : Bool)
    (he : (Op.equal T (aggV vs) (aggV us)).run Try.prog w = .ok c w)
    (h : wpList Try.prog ops Q rest (a.put op.dst (.bool (!c))) w) : wpList Try.prog ops Q (op :: rest) a w :=
  wpList_plain hgd fun K hK => by
    unfold Oper.wp execOp
    simp only [aggV] at he hx hy
    have hg : (eqGuard .neq T x y (.agg vs.toArray) (.agg us.toArray)).run Try.prog w = .ok () w := by simp [eqGuard, Sem.run_bind, hG]
    have hb : (binOp BinOp.neq T (.agg vs.toArray) (.agg us.toArray)).run Try.prog w = .ok (.bool (!c)) w := by simp only [binOp, Sem.run_bind, he, Result.andThen_ok, Sem.run_pure]
    simp only [ho, hx, hy, Sem.run_bind, hg, hb, Result.andThen_ok]
    exact hK _ _ h
end


theorem items_nil (W : World) (d T n : Nat) (xs ys : Array Value) : (Op.eqItems d T n xs ys []).run Try.prog W = .ok true W := by simp [Op.eqItems]

theorem fields_nil (W : World) (d : Nat) (xs ys : Array Value) : (Op.eqFields d xs ys []).run Try.prog W = .ok true W := by simp [Op.eqFields]

theorem fields_step (W : World) (d T o : Nat) (xs ys : Array Value) (f : Field) (fs : List Field) (a b : Value) (c e : Bool) (hn : f.name ≠ "_") (hT : f.type = T) (ho : f.offset = o) (pa : (part T xs o).run Try.prog W = .ok a W) (pb : (part T ys o).run Try.prog W = .ok b W) (he : (Op.equalIn d T a b).run Try.prog W = .ok c W) (hf : (Op.eqFields d xs ys fs).run Try.prog W = .ok e W) :
    (Op.eqFields d xs ys (f :: fs)).run Try.prog W = .ok (c && e) W := by
  subst hT ho
  simp only [Op.eqFields, ne_eq, hn, not_false_eq_true, if_true, Sem.run_bind, pa, pb, he, Result.andThen_ok]
  cases c <;> simp [hf]

theorem eq2 (W : World) (d : Nat) (x y : Int) : (Op.equalIn (d + 1) 2 (.int .i64 x) (.int .i64 y)).run Try.prog W = .ok (decide (x = y)) W := by
  simp [Op.equalIn, Sem.run_bind, run_underlying Try.underlying2]
  rw [Bool.eq_iff_iff]; simp

theorem eq3 (W : World) (d : Nat) (x y : Int) : (Op.equalIn (d + 1) 3 (.int .i64 x) (.int .i64 y)).run Try.prog W = .ok (decide (x = y)) W := by
  simp [Op.equalIn, Sem.run_bind, run_underlying Try.underlying3]
  rw [Bool.eq_iff_iff]; simp

theorem part2 (W : World) (vs : Array Value) (o : Nat) (v : Value) (h : vs[o]? = some v) : (part 2 vs o).run Try.prog W = .ok v W := by simp [part, isAgg, run_underlying Try.underlying2, h]

theorem part3 (W : World) (vs : Array Value) (o : Nat) (v : Value) (h : vs[o]? = some v) : (part 3 vs o).run Try.prog W = .ok v W := by simp [part, isAgg, run_underlying Try.underlying3, h]

theorem loadV {w : World} {b T n : Nat} {vs : List Value} (hT : Row T n) (hl : vs.length = n) (h : Blk w b T vs) : (loadVar T ⟨b, 0, none⟩).run Try.prog w = .ok (aggV vs) w := by
  obtain ⟨d, h1, h2, h3⟩ := hT
  exact run_loadVar_mid (P := Try.prog) w b 0 T vs d h.range h1 h2 (by rw [hl]; exact h3)

theorem keptBelow {X : List Nat} {a w w' : World} {B : Nat} (h : Kept X a w) (hb : Below B w w') (hB : a.heap.size ≤ B) : Kept X a w' :=
  ⟨hb.os.trans h.os, hb.tape.trans h.tape, hb.output.trans h.output, Nat.le_trans h.size hb.size, fun i hi hx => (hb.block i (by omega)).trans (h.block i hi hx)⟩

theorem ret_bool {a b : Bool} (h : a = true ↔ b = true) : Ending.returned (Value.bool a) = .returned (.bool b) := by rw [Bool.eq_iff_iff.2 h]

theorem fits_cell {w : World} {b T : Nat} {vs : List Value} (h : Blk w b T vs) (i : Nat) (v : Value) (hi : vs[i]? = some v) : w.cell? ⟨b, i, none⟩ = some v := by rw [h.cell]; exact hi

theorem wpAllocV {ops : Array Oper} {rest : List Oper} {op : Oper} {a : Act} {w : World} {Q : Exit → Act → World → Prop} {T : Nat} (vs : List Value) (hr : ∀ w : World, (Instr.alloc T true (.tuple #[])).run Try.prog w = .ok (P0 w.heap.size) (w.alloc (.cells vs.toArray T))) (d : Nat) (_ : op.dst = some d) (hgd : op.guard = none) (ho : op.op = .alloc T)
    (h : ∀ W, W = w.alloc (.cells vs.toArray T) → wpList Try.prog ops Q rest (a.put op.dst (P0 w.heap.size)) W) : wpList Try.prog ops Q (op :: rest) a w :=
  wpAllocA vs hr hgd ho (h _ rfl)

theorem wpNew {ops : Array Oper} {rest : List Oper} {o1 o2 : Oper} {a : Act} {w : World} {Q : Exit → Act → World → Prop} {T n : Nat} (hT : Row T n) (zv : List Value) (hz : zv.length = n) (hr : ∀ w : World, (Instr.alloc T true (.tuple #[])).run Try.prog w = .ok (P0 w.heap.size) (w.alloc (.cells zv.toArray T)))
    (d : Nat) (hd : o1.dst = some d) (hg1 : o1.guard = none) (ho1 : o1.op = .alloc T) (y : Operand) (hg2 : o2.guard = none) (ho2 : o2.op = .store T (.tmp d) y) (hd2 : o2.dst = none)
    (vs : List Value) (hl : vs.length = n) (h1 : ∀ v ∈ vs, v.oneCell' = true) (hx : (a.put (some d) (P0 w.heap.size)).eval (.tmp d) = P0 w.heap.size) (hy : (a.put (some d) (P0 w.heap.size)).eval y = aggV vs)
    (h : ∀ W b, b = w.heap.size → Blk W b T vs → Kept [] w W → wpList Try.prog ops Q rest (a.put (some d) (P0 b)) W) : wpList Try.prog ops Q (o1 :: o2 :: rest) a w := by
  refine wpAllocA zv hr hg1 ho1 ?_
  rw [hd]
  have hb : Blk (w.alloc (.cells zv.toArray T)) w.heap.size T zv := Blk.new w T zv
  refine wpStoreA hT hg2 (.tmp d) y ho2 w.heap.size 0 vs hx hy hl h1 (hb.there (by omega)) ?_
  rw [hd2]
  exact h _ _ rfl (hb.put (by omega)) (((Kept.refl _ _).alloc _).setCells _ _ (by omega))

section
variable {ops : Array Oper} {rest : List Oper} {op : Oper} {a : Act} {w : World} {Q : Exit → Act → World → Prop}
theorem wpBoxV {T : Nat} (hgd : op.guard = none) (x : Operand) (ho : op.op = .box T x) (vs : List Value) (hx : a.eval x = aggV vs)
    (h : ∀ W b, b = w.heap.size → Blk W b T vs → Kept [] w W → wpList Try.prog ops Q rest (a.put op.dst (P0 b)) W) : wpList Try.prog ops Q (op :: rest) a w :=
  wpBoxA hgd x ho vs hx (h _ _ rfl (Blk.new w T vs) ((Kept.refl _ _).alloc _))
theorem wpAllocW {T : Nat} (vs : List Value) (hr : ∀ w : World, (Instr.alloc T true (.tuple #[])).run Try.prog w = .ok (P0 w.heap.size) (w.alloc (.cells vs.toArray T))) (d : Nat) (_ : op.dst = some d) (hgd : op.guard = none) (ho : op.op = .alloc T)
    (h : ∀ W b, b = w.heap.size → Blk W b T vs → Kept [] w W → wpList Try.prog ops Q rest (a.put op.dst (P0 b)) W) : wpList Try.prog ops Q (op :: rest) a w :=
  wpAllocA vs hr hgd ho (h _ _ rfl (Blk.new w T vs) ((Kept.refl _ _).alloc _))
end

section
variable {o : Oper} {a : Act} {w : World} {K : Act → World → Prop} {Q : Exit → Act → World → Prop}
theorem wp_loadA {T n : Nat} (hT : Row T n) (x : Operand) (ho : o.op = .load T x) (b off : Nat) (hx : a.eval x = .pointer (some ⟨b, off, none⟩)) (vs : List Value) (hl : vs.length = n) (hA : w.rangeAt b off vs)
    (h : K (a.put o.dst (aggV vs)) w) : o.wp Try.prog a w K Q := by
  obtain ⟨d, h1, h2, h3⟩ := hT
  exact wp_load_mid (P := Try.prog) T x ho b off hx vs d hA h1 h2 (by rw [hl]; exact h3) h
theorem wp_storeA {T n : Nat} (hT : Row T n) (x y : Operand) (ho : o.op = .store T x y) (b off : Nat) (vs : List Value) (hx : a.eval x = .pointer (some ⟨b, off, none⟩)) (hy : a.eval y = aggV vs) (hl : vs.length = n) (h1 : ∀ v ∈ vs, v.oneCell' = true) (hA : w.there b off n)
    (h : K (a.put o.dst undef) (w.setCells b off vs)) : o.wp Try.prog a w K Q := by
  obtain ⟨d, g1, g2, g3⟩ := hT
  exact wp_store_mid (P := Try.prog) T x y ho b off vs.toArray hx hy (by simpa [hl] using hA) (by simpa [hl] using g3) (all_oneCell_toArray h1) h
theorem wp_storeN {T n : Nat} (hT : Row T n) (x y : Operand) (ho : o.op = .store T x y) (hd : o.dst = none) (b off : Nat) (vs : List Value) (hx : a.eval x = .pointer (some ⟨b, off, none⟩)) (hy : a.eval y = aggV vs) (hl : vs.length = n) (h1 : ∀ v ∈ vs, v.oneCell' = true) (hA : w.there b off n)
    (h : K a (w.setCells b off vs)) : o.wp Try.prog a w K Q := by
  refine wp_storeA hT x y ho b off vs hx hy hl h1 hA ?_
  rw [hd]
  exact h
theorem wp_allocA {T : Nat} (vs : List Value) (hr : ∀ w : World, (Instr.alloc T true (.tuple #[])).run Try.prog w = .ok (P0 w.heap.size) (w.alloc (.cells vs.toArray T))) (ho : o.op = .alloc T)
    (h : K (a.put o.dst (P0 w.heap.size)) (w.alloc (.cells vs.toArray T))) : o.wp Try.prog a w K Q := by
  unfold Oper.wp execOp
  simp only [ho, Sem.run_bind, hr, Result.andThen_ok]
  exact h
/-- One operation: a function is called. -/
theorem wp_callF {P : Program} (f : FuncId) (args : Array Operand) (ts : Array TypeId) (ho : o.op = .call { callee := .value (.func f), args := args, argTypes := ts })
    (vs : Array Value) (hv : args.map a.eval = vs) (hcf : (callFunc f vs).run P w = .ok (.enter f vs) w) (h : Calls P f vs w fun e w' => ∃ v, e = .returned v ∧ K (a.put o.dst v) w') : o.wp P a w K Q := by
  subst hv
  unfold Oper.wp execOp
  simp only [ho]
  simp [resolve, invoke, go_sem, hcf]
  refine h.mono ?_
  rintro e w' ⟨v, rfl, hk⟩
  exact hk
end
theorem wpBuildP {ops : Array Oper} {rest : List Oper} {op : Oper} {a : Act} {w : World} {Q : Exit → Act → World → Prop} {T : Nat} (hgd : op.guard = none) (parts : Array (Nat × Operand)) (ho : op.op = .build T parts) (ps : Array (Nat × Value)) (hp : (parts.map fun (i, x) => (i, a.eval x)) = ps) (vs : List Value)
    (hr : (Instr.build T ps).run Try.prog w = .ok (aggV vs) w) (h : wpList Try.prog ops Q rest (a.put op.dst (aggV vs)) w) : wpList Try.prog ops Q (op :: rest) a w :=
  wpList_plain hgd fun K hK => by
    subst hp
    unfold Oper.wp execOp
    simp only [ho, Sem.run_bind, hr, Result.andThen_ok]
    exact hK _ _ h
theorem wpOp_of {P : Program} {ops : Array Oper} {o : Oper} {a : Act} {w : World} {K : Act → World → Prop} {Q : Exit → Act → World → Prop} {i : Nat} (ho : ops[i]? = some o) (hg : o.guard = none) (h : o.wp P a w K Q) : wpOp P ops Q i K a w := by
  unfold wpOp
  rw [ho]
  have hw : Region.wanted o (yielded ops a.tmps) = true := by simp [Region.wanted, hg]
  simp only [hw, if_true]
  exact .inl h


theorem mixed : Try.prog.follows .mixedOrders = true := by kernel_rfl

/-- What is known of a value: it is this one, or a new block that has these cells. -/
inductive Fact
  | is (v : Value)
  | new (T : Nat) (vs : List Value) (B : Nat)
def Fact.at (v : Value) (w : World) : Fact → Prop
  | .is u => v = u
  | .new T vs B => ∃ q, v = P0 q ∧ B ≤ q ∧ Blk w q T vs
def tab (fs : List Fact) (j : Nat) (v : Value) (w : World) : Prop := match fs[j]? with
  | some f => f.at v w
  | none => True
theorem tab_kept (fs : List Fact) : ∀ j v w w', tab fs j v w → Kept [] w w' → tab fs j v w' := by
  intro j v w w' h hk
  unfold tab at *
  cases hf : fs[j]? with
  | none => trivial
  | some f =>
    rw [hf] at h
    cases f with
    | is u => exact h
    | new T vs B =>
      obtain ⟨q, h1, h2, h3⟩ := h
      exact ⟨q, h1, h2, h3.kept hk (by simp)⟩

/-- Values of these operations are apart. -/
def apartE (L : List Nat) (i j : Nat) (u v : Value) : Prop := i ∈ L → j ∈ L → u ≠ v
theorem apart_no {L : List Nat} {j : Nat} (h : j ∉ L) (i : Nat) (u v : Value) : apartE L i j u v := fun _ hj => absurd hj h
theorem apart_new {L : List Nat} {fs : List Fact} {w : World} (hL : ∀ i ∈ L, ∃ T vs B, fs[i]? = some (.new T vs B)) (i j : Nat) (u : Value) (h : tab fs i u w) : apartE L i j u (P0 w.heap.size) := by
  intro hi _ e
  obtain ⟨T, vs, B, hf⟩ := hL i hi
  unfold tab at h
  rw [hf] at h
  obtain ⟨q, rfl, _, hb⟩ := h
  have := hb.lt
  cases e
  omega

section
variable {ops : Array Oper} {rest : List Oper} {op : Oper} {a : Act} {w : World} {Q : Exit → Act → World → Prop}
theorem wpBuildG {T : Nat} (parts : Array (Nat × Operand)) (ho : op.op = .build T parts) (hw : Region.wanted op (yielded ops a.tmps) = true) (ps : Array (Nat × Value)) (hp : (parts.map fun (i, x) => (i, a.eval x)) = ps) (vs : List Value)
    (hr : (Instr.build T ps).run Try.prog w = .ok (aggV vs) w) (h : wpList Try.prog ops Q rest (a.put op.dst (aggV vs)) w) : wpList Try.prog ops Q (op :: rest) a w :=
  BigFrame.wpList_want hw fun K hK => by
    subst hp
    unfold Oper.wp execOp
    simp only [ho, Sem.run_bind, hr, Result.andThen_ok]
    exact hK _ _ h
theorem wpNeqG (T r : Nat) (hG : Try.prog.eqGuardType Try.prog.depth T = false) (x y : Operand) (ho : op.op = .binOp .neq T x y r) (hw : Region.wanted op (yielded ops a.tmps) = true) (vs us : List Value) (hx : a.eval x = aggV vs) (hy : a.eval y = aggV us) (c : Bool)
    (he : (Op.equal T (aggV vs) (aggV us)).run Try.prog w = .ok c w)
    (h : wpList Try.prog ops Q rest (a.put op.dst (.bool (!c))) w) : wpList Try.prog ops Q (op :: rest) a w :=
  BigFrame.wpList_want hw fun K hK => by
    unfold Oper.wp execOp
    simp only [aggV] at he hx hy
    have hg : (eqGuard .neq T x y (.agg vs.toArray) (.agg us.toArray)).run Try.prog w = .ok () w := by simp [eqGuard, Sem.run_bind, hG]
    have hb : (binOp BinOp.neq T (.agg vs.toArray) (.agg us.toArray)).run Try.prog w = .ok (.bool (!c)) w := by simp only [binOp, Sem.run_bind, he, Result.andThen_ok, Sem.run_pure]
    simp only [ho, hx, hy, Sem.run_bind, hg, hb, Result.andThen_ok]
    exact hK _ _ h
theorem wpEqlG (T r : Nat) (hG : Try.prog.eqGuardType Try.prog.depth T = false) (x y : Operand) (ho : op.op = .binOp .eql T x y r) (hw : Region.wanted op (yielded ops a.tmps) = true) (vs us : List Value) (hx : a.eval x = aggV vs) (hy : a.eval y = aggV us) (c : Bool)
    (he : (Op.equal T (aggV vs) (aggV us)).run Try.prog w = .ok c w)
    (h : wpList Try.prog ops Q rest (a.put op.dst (.bool c)) w) : wpList Try.prog ops Q (op :: rest) a w :=
  BigFrame.wpList_want hw fun K hK => by
    unfold Oper.wp execOp
    simp only [aggV] at he hx hy
    have hg : (eqGuard .eql T x y (.agg vs.toArray) (.agg us.toArray)).run Try.prog w = .ok () w := by simp [eqGuard, Sem.run_bind, hG]
    have hb : (binOp BinOp.eql T (.agg vs.toArray) (.agg us.toArray)).run Try.prog w = .ok (.bool c) w := by simp only [binOp, Sem.run_bind, he, Result.andThen_ok, Sem.run_pure]
    simp only [ho, hx, hy, Sem.run_bind, hg, hb, Result.andThen_ok]
    exact hK _ _ h
end

theorem wp_buildP {o : Oper} {a : Act} {w : World} {K : Act → World → Prop} {Q : Exit → Act → World → Prop} {T : Nat} (parts : Array (Nat × Operand)) (ho : o.op = .build T parts) (ps : Array (Nat × Value)) (hp : (parts.map fun (i, x) => (i, a.eval x)) = ps) (vs : List Value)
    (hr : (Instr.build T ps).run Try.prog w = .ok (aggV vs) w) (h : K (a.put o.dst (aggV vs)) w) : o.wp Try.prog a w K Q := by
  subst hp
  unfold Oper.wp execOp
  simp only [ho, Sem.run_bind, hr, Result.andThen_ok]
  exact h

theorem wp_assign {o : Oper} {a : Act} {w : World} {K : Act → World → Prop} {Q : Exit → Act → World → Prop} (x : Operand) (ho : o.op = .assign x) (h : K (a.put o.dst (a.eval x)) w) : o.wp Try.prog a w K Q := by
  unfold Oper.wp execOp
  simp only [ho]
  exact h

theorem row23 : Row 23 5 := ⟨_, Try.underlying23, rfl, by kernel_rfl⟩
theorem row37 : Row 37 4 := ⟨_, Try.underlying37, rfl, by kernel_rfl⟩
theorem row58 : Row 58 4 := ⟨_, Try.underlying58, rfl, by kernel_rfl⟩
theorem row33 : Row 33 4 := ⟨_, Try.underlying33, rfl, by kernel_rfl⟩

/-- A number that an int64 can be. -/
def I64 (n : Int) : Prop := -9223372036854775808 ≤ n ∧ n ≤ 9223372036854775807
/-- A job. -/
structure Job where
  n : Int
  p : Int
  f : Int
  l : Int
  t : Int
def jobC (j : Job) : List Value := [.int .i64 j.n, .int .i64 j.p, .int .i64 j.f, .int .i64 j.l, .int .i64 j.t]
/-- Four numbers as cells: a place, the areas' ends, an ask. -/
def fourC (a b c d : Int) : List Value := [.int .i64 a, .int .i64 b, .int .i64 c, .int .i64 d]
theorem jobC_one (j : Job) : ∀ v ∈ jobC j, v.oneCell' = true := by
  intro v hv
  simp only [jobC, List.mem_cons, List.mem_nil_iff, or_false] at hv
  rcases hv with rfl | rfl | rfl | rfl | rfl <;> rfl
theorem fourC_one (a b c d : Int) : ∀ v ∈ fourC a b c d, v.oneCell' = true := by
  intro v hv
  simp only [fourC, List.mem_cons, List.mem_nil_iff, or_false] at hv
  rcases hv with rfl | rfl | rfl | rfl <;> rfl

theorem zero23 (w : World) : (Instr.alloc 23 true (.tuple #[])).run Try.prog w = .ok (P0 w.heap.size) (w.alloc (.cells (jobC ⟨0, 0, 0, 0, 0⟩).toArray 23)) := by kernel_rfl
theorem zero37 (w : World) : (Instr.alloc 37 true (.tuple #[])).run Try.prog w = .ok (P0 w.heap.size) (w.alloc (.cells (fourC 0 0 0 0).toArray 37)) := by kernel_rfl
theorem zero58 (w : World) : (Instr.alloc 58 true (.tuple #[])).run Try.prog w = .ok (P0 w.heap.size) (w.alloc (.cells (fourC 0 0 0 0).toArray 58)) := by kernel_rfl
theorem zero33 (w : World) : (Instr.alloc 33 true (.tuple #[])).run Try.prog w = .ok (P0 w.heap.size) (w.alloc (.cells (fourC 0 0 0 0).toArray 33)) := by kernel_rfl
theorem build37 (w : World) : (Instr.build 37 #[]).run Try.prog w = .ok (aggV (fourC 0 0 0 0)) w := by kernel_rfl
theorem guard37 : Try.prog.eqGuardType Try.prog.depth 37 = false := by kernel_rfl
theorem fields37 : (Try.prog.fieldsOf 37).toList.map (fun f => (decide (f.name ≠ "_"), f.type, f.offset)) = [(true, 35, 0), (true, 3, 1), (true, 3, 2), (true, 3, 3)] := by kernel_rfl
theorem str37 : Try.prog.underlying 37 = some (.struct (Try.prog.fieldsOf 37)) := by kernel_rfl
theorem eq35 (W : World) (d : Nat) (x y : Int) : (Op.equalIn (d + 1) 35 (.int .i64 x) (.int .i64 y)).run Try.prog W = .ok (decide (x = y)) W := by
  simp [Op.equalIn, Sem.run_bind, run_underlying Try.underlying35]
  rw [Bool.eq_iff_iff]; simp
theorem part35 (W : World) (vs : Array Value) (o : Nat) (v : Value) (h : vs[o]? = some v) : (part 35 vs o).run Try.prog W = .ok v W := by simp [part, isAgg, run_underlying Try.underlying35, h]
/-- Two places are the same. -/
def fourEq (a b c d a' b' c' d' : Int) : Bool := decide (a = a') && (decide (b = b') && (decide (c = c') && decide (d = d')))
theorem equal37 (W : World) (a b c d a' b' c' d' : Int) : (Op.equal 37 (aggV (fourC a b c d)) (aggV (fourC a' b' c' d'))).run Try.prog W = .ok (fourEq a b c d a' b' c' d') W := by
  have hh := run_equalIn_struct (P := Try.prog) W 9999 37 (fourC a b c d).toArray (fourC a' b' c' d').toArray str37 (by kernel_rfl)
  refine hh.trans ?_
  generalize hf : (Try.prog.fieldsOf 37).toList = fs
  have hm := fields37
  rw [hf] at hm
  match fs, hm with
  | [f, g, k, l], hm =>
    simp only [List.map_cons, List.map_nil, List.cons.injEq, Prod.mk.injEq, and_true, decide_eq_true_eq] at hm
    obtain ⟨⟨f1, f2, f3⟩, ⟨g1, g2, g3⟩, ⟨k1, k2, k3⟩, l1, l2, l3⟩ := hm
    have hh := fields_step W 9999 35 0 _ _ f [g, k, l] _ _ _ _ f1 f2 f3 (part35 W (fourC a b c d).toArray 0 (.int .i64 a) rfl) (part35 W (fourC a' b' c' d').toArray 0 (.int .i64 a') rfl) (eq35 W 9998 a a')
      (fields_step W 9999 3 1 _ _ g [k, l] _ _ _ _ g1 g2 g3 (part3 W (fourC a b c d).toArray 1 (.int .i64 b) rfl) (part3 W (fourC a' b' c' d').toArray 1 (.int .i64 b') rfl) (eq3 W 9998 b b')
      (fields_step W 9999 3 2 _ _ k [l] _ _ _ _ k1 k2 k3 (part3 W (fourC a b c d).toArray 2 (.int .i64 c) rfl) (part3 W (fourC a' b' c' d').toArray 2 (.int .i64 c') rfl) (eq3 W 9998 c c')
      (fields_step W 9999 3 3 _ _ l [] _ _ _ _ l1 l2 l3 (part3 W (fourC a b c d).toArray 3 (.int .i64 d) rfl) (part3 W (fourC a' b' c' d').toArray 3 (.int .i64 d') rfl) (eq3 W 9998 d d') (fields_nil ..))))
    rw [Bool.and_true] at hh
    exact hh
theorem Job.cells {W : World} {b : Nat} {j : Job} (h : Blk W b 23 (jobC j)) : W.cell? ⟨b, 0, none⟩ = some (.int .i64 j.n) ∧ W.cell? ⟨b, 1, none⟩ = some (.int .i64 j.p) ∧ W.cell? ⟨b, 2, none⟩ = some (.int .i64 j.f) ∧ W.cell? ⟨b, 3, none⟩ = some (.int .i64 j.l) ∧ W.cell? ⟨b, 4, none⟩ = some (.int .i64 j.t) :=
  ⟨fits_cell h 0 _ rfl, fits_cell h 1 _ rfl, fits_cell h 2 _ rfl, fits_cell h 3 _ rfl, fits_cell h 4 _ rfl⟩
theorem four_cells {W : World} {b T : Nat} {x y z u : Int} (h : Blk W b T (fourC x y z u)) : W.cell? ⟨b, 0, none⟩ = some (.int .i64 x) ∧ W.cell? ⟨b, 1, none⟩ = some (.int .i64 y) ∧ W.cell? ⟨b, 2, none⟩ = some (.int .i64 z) ∧ W.cell? ⟨b, 3, none⟩ = some (.int .i64 u) :=
  ⟨fits_cell h 0 _ rfl, fits_cell h 1 _ rfl, fits_cell h 2 _ rfl, fits_cell h 3 _ rfl⟩

end Go.Proofs.Ytcfoebpbbmnleaa
