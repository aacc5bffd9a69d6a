/-
  Laws for arrays and structs that are loaded, stored, made, boxed and compared as a whole: sectors, halves, bodies, versions, stamps.
-/
import Derived.Test.YtmeajhdhiebkdaaDoorPlain
import Derived.Test.YtmeajhdhiebkdaaDoorProg
import Derived.ChangeKeysEq
import Derived.Deep.QuietTactic
import Derived.Laws.CopyOwn
import Derived.Deep.RegionLaw
import Derived.Laws.StructEq
namespace Go.Proofs.YtmeajhdhiebkdaaDoor.Rc
set_option maxRecDepth 100000
open Go.RowKit

/-- A pointer to a block's beginning. -/
abbrev P0 (b : Nat) : Value := .pointer (some ⟨b, 0, none⟩)
/-- Cells as one value. -/
def aggV (vs : List Value) : Value := .agg vs.toArray
/-- The type T is an array or a struct of n cells. -/
def Row (T n : Nat) : Prop := ∃ d, Tryd.prog.underlying T = some d ∧ d.isRow = true ∧ (Tryd.prog.info? T).map (·.size) = some n

theorem row23 : Row 26 96 := ⟨_, Tryd.underlying26, rfl, by kernel_rfl⟩
theorem row61 : Row 28 97 := ⟨_, Tryd.underlying28, rfl, by kernel_rfl⟩
theorem row29 : Row 80 64 := ⟨_, Tryd.underlying80, rfl, by kernel_rfl⟩
theorem row30 : Row 81 128 := ⟨_, Tryd.underlying81, rfl, by kernel_rfl⟩
/-- n bytes. -/
structure Byts (n : Nat) (s : List Int) : Prop where
  len : s.length = n
  byte : ∀ x ∈ s, 0 ≤ x ∧ x < 256
def zs (n : Nat) : List Int := List.replicate n 0
theorem zs_byts (n : Nat) : Byts n (zs n) := ⟨by simp [zs], fun x hx => by simp [zs] at hx; omega⟩

/-- A block that has these cells. -/
def Blk (w : World) (b T : Nat) (vs : List Value) : Prop := w.heap[b]? = some (.cells vs.toArray T (0, 0))
theorem Blk.new (w : World) (T : Nat) (vs : List Value) : Blk (w.alloc (.cells vs.toArray T)) w.heap.size T vs := heap_alloc_new w _
theorem Blk.new' {w : World} {T b : Nat} {vs : List Value} (hb : b = w.heap.size) : Blk (w.alloc (.cells vs.toArray T)) b T vs := by subst hb; exact heap_alloc_new w _
theorem Blk.alloc {w : World} {b T : Nat} {vs : List Value} (h : Blk w b T vs) (o : Obj) : Blk (w.alloc o) b T vs := heap_alloc_old h
theorem Blk.lt {w : World} {b T : Nat} {vs : List Value} (h : Blk w b T vs) : b < w.heap.size := lt_of_block h
theorem Blk.kept {w w' : World} {b T : Nat} {vs : List Value} {X : List Nat} (h : Blk w b T vs) (hk : Kept X w w') (hb : b ∉ X) : Blk w' b T vs := hk.heap h hb
theorem Blk.drew {w : World} {b T : Nat} {vs : List Value} (h : Blk w b T vs) : Blk w.drew b T vs := h
theorem Blk.put {w : World} {b T : Nat} {us vs : List Value} (h : Blk w b T us) (hl : us.length = vs.length) : Blk (w.setCells b 0 vs) b T vs := by
  have := heap_sets (b := b) (t := T) (p := (0, 0)) vs w 0 [] us [] (by simpa [Blk] using h) rfl hl
  simpa [Blk] using this
theorem Blk.part {w : World} {b T o : Nat} {pre mid post vs : List Value} (h : Blk w b T (pre ++ mid ++ post)) (ho : pre.length = o) (hl : mid.length = vs.length) : Blk (w.setCells b o vs) b T (pre ++ vs ++ post) :=
  heap_sets vs w o pre mid post h ho hl
theorem Blk.other {w : World} {b b' T o : Nat} {us vs : List Value} (h : Blk w b T us) (hne : b ≠ b') : Blk (w.setCells b' o vs) b T us := by
  unfold Blk; rw [sets_ne _ _ _ _ hne]; exact h
theorem Blk.set {w : World} {b T i : Nat} {us : List Value} (h : Blk w b T us) (v : Value) : Blk (w.setCell ⟨b, i, none⟩ v) b T (us.set i v) := by
  unfold Blk; rw [heap_set h, List.setIfInBounds_toArray]
theorem Blk.set_other {w : World} {b b' T i : Nat} {us : List Value} (h : Blk w b T us) (hne : b ≠ b') (v : Value) : Blk (w.setCell ⟨b', i, none⟩ v) b T us := heap_set_ne h hne
theorem Blk.cell {w : World} {b T : Nat} {us : List Value} (h : Blk w b T us) (i : Nat) : w.cell? ⟨b, i, none⟩ = us[i]? := by rw [cell_of_block h, List.getElem?_toArray]
theorem Blk.frozen {w : World} {b T : Nat} {us : List Value} (h : Blk w b T us) (i : Nat) : w.frozen? ⟨b, i, none⟩ = false := frozen_of_block h i
theorem Blk.range {w : World} {b T : Nat} {us : List Value} (h : Blk w b T us) : w.rangeAt b 0 us := fun j v hj => by rw [Nat.zero_add, h.cell]; exact hj
theorem Blk.rangeIn {w : World} {b T o : Nat} {us : List Value} (h : Blk w b T us) (vs : List Value) (hv : ∀ j, j < vs.length → us[o + j]? = vs[j]?) : w.rangeAt b o vs := fun j v hj => by
  rw [h.cell, hv j (List.getElem?_eq_some_iff.1 hj).1]; exact hj
theorem Blk.there {w : World} {b T o n : Nat} {us : List Value} (h : Blk w b T us) (hn : o + n ≤ us.length) : w.there b o n := fun j hj =>
  ⟨by rw [h.cell, List.getElem?_eq_getElem (by omega)]; rfl, h.frozen _⟩

section
variable {ops : Array Oper} {rest : List Oper} {op : Oper} {a : Act} {w : World} {Q : Exit → Act → World → Prop}

theorem wpLoadA {T n : Nat} (hT : Row T n) (hgd : op.guard = none) (x : Operand) (ho : op.op = .load T x) (b o : Nat) (hx : a.eval x = .pointer (some ⟨b, o, none⟩)) (vs : List Value) (hl : vs.length = n) (hA : w.rangeAt b o vs)
    (h : wpList Tryd.prog ops Q rest (a.put op.dst (aggV vs)) w) : wpList Tryd.prog ops Q (op :: rest) a w := by
  obtain ⟨d, h1, h2, h3⟩ := hT
  exact wpList_load_mid (P := Tryd.prog) hgd T x ho b o hx vs d hA h1 h2 (by rw [hl]; exact h3) h

theorem wpStoreA {T n : Nat} (hT : Row T n) (hgd : op.guard = none) (x y : Operand) (ho : op.op = .store T x y) (b o : Nat) (vs : List Value) (hx : a.eval x = .pointer (some ⟨b, o, none⟩)) (hy : a.eval y = aggV vs) (hl : vs.length = n) (h1 : ∀ v ∈ vs, v.oneCell' = true) (hA : w.there b o n)
    (h : wpList Tryd.prog ops Q rest (a.put op.dst undef) (w.setCells b o vs)) : wpList Tryd.prog ops Q (op :: rest) a w := by
  obtain ⟨d, g1, g2, g3⟩ := hT
  exact wpList_store_mid (P := Tryd.prog) hgd T x y ho b o vs.toArray hx hy (by simpa [hl] using hA) (by simpa [hl] using g3) (all_oneCell_toArray h1) h

theorem wpAllocA {T : Nat} (vs : List Value) (hr : ∀ w : World, (Instr.alloc T true (.tuple #[])).run Tryd.prog w = .ok (P0 w.heap.size) (w.alloc (.cells vs.toArray T))) (hgd : op.guard = none) (ho : op.op = .alloc T)
    (h : wpList Tryd.prog ops Q rest (a.put op.dst (P0 w.heap.size)) (w.alloc (.cells vs.toArray T))) : wpList Tryd.prog ops Q (op :: rest) a w :=
  wpList_plain hgd fun K hK => by
    unfold Oper.wp execOp
    simp only [ho, Sem.run_bind, hr, Result.andThen_ok]
    exact hK _ _ h

theorem wpBuildZ {T : Nat} (vs : List Value) (hr : ∀ w : World, (Instr.build T #[]).run Tryd.prog w = .ok (aggV vs) w) (hgd : op.guard = none) (ho : op.op = .build T #[])
    (h : wpList Tryd.prog ops Q rest (a.put op.dst (aggV vs)) w) : wpList Tryd.prog ops Q (op :: rest) a w :=
  wpList_plain hgd fun K hK => by
    unfold Oper.wp execOp
    simp only [ho, Array.map_empty, Sem.run_bind, hr, Result.andThen_ok]
    exact hK _ _ h

theorem run_boxA (T : Nat) (w : World) (vs : List Value) : (Instr.box T (aggV vs)).run Tryd.prog w = .ok (P0 w.heap.size) (w.alloc (.cells vs.toArray T)) := by
  simp [Instr.box, aggV, newVar, newRow, Value.cells]

theorem wpBoxA {T : Nat} (hgd : op.guard = none) (x : Operand) (ho : op.op = .box T x) (vs : List Value) (hx : a.eval x = aggV vs)
    (h : wpList Tryd.prog ops Q rest (a.put op.dst (P0 w.heap.size)) (w.alloc (.cells vs.toArray T))) : wpList Tryd.prog ops Q (op :: rest) a w :=
  wpList_plain hgd fun K hK => by
    unfold Oper.wp execOp
    simp only [ho, hx, Sem.run_bind, run_boxA, Result.andThen_ok]
    exact hK _ _ h

/-- An operation whose run is known. -/
theorem wpRun (hgd : op.guard = none) (i : Sem Value) (v : Value) (w' : World) (he : ∀ K Q', (match i.run Tryd.prog w with | .ok v w' => K (a.put op.dst v) w' | _ => False) → op.wp Tryd.prog a w K Q') (hr : i.run Tryd.prog w = .ok v w')
    (h : wpList Tryd.prog ops Q rest (a.put op.dst v) w') : wpList Tryd.prog ops Q (op :: rest) a w :=
  wpList_plain hgd fun K hK => he K _ (by rw [hr]; exact hK _ _ h)

/-- Two values are compared. -/
theorem wpEqlA (T r : Nat) (hG : Tryd.prog.eqGuardType Tryd.prog.depth T = false) (x y : Operand) (hgd : op.guard = none) (ho : op.op = .binOp .eql T x y r) (vs us : List Value) (hx : a.eval x = aggV vs) (hy : a.eval y = aggV us) (c : Bool)
    (he : (Op.equal T (aggV vs) (aggV us)).run Tryd.prog w = .ok c w)
    (h : wpList Tryd.prog ops Q rest (a.put op.dst (.bool c)) w) : wpList Tryd.prog ops Q (op :: rest) a w :=
  wpList_plain hgd fun K hK => by
    unfold Oper.wp execOp
    simp only [aggV] at he hx hy
    have hg : (eqGuard .eql T x y (.agg vs.toArray) (.agg us.toArray)).run Tryd.prog w = .ok () w := by simp [eqGuard, Sem.run_bind, hG]
    have hb : (binOp BinOp.eql T (.agg vs.toArray) (.agg us.toArray)).run Tryd.prog w = .ok (.bool c) w := by simp only [binOp, Sem.run_bind, he, Result.andThen_ok, Sem.run_pure]
    simp only [ho, hx, hy, Sem.run_bind, hg, hb, Result.andThen_ok]
    exact hK _ _ h
theorem wpNeqA (T r : Nat) (hG : Tryd.prog.eqGuardType Tryd.prog.depth T = false) (x y : Operand) (hgd : op.guard = none) (ho : op.op = .binOp .neq T x y r) (vs us : List Value) (hx : a.eval x = aggV vs) (hy : a.eval y = aggV us) (c : Bool)
    (he : (Op.equal T (aggV vs) (aggV us)).run Tryd.prog w = .ok c w)
    (h : wpList Tryd.prog ops Q rest (a.put op.dst (.bool (!c))) w) : wpList Tryd.prog ops Q (op :: rest) a w :=
  wpList_plain hgd fun K hK => by
    unfold Oper.wp execOp
    simp only [aggV] at he hx hy
    have hg : (eqGuard .neq T x y (.agg vs.toArray) (.agg us.toArray)).run Tryd.prog w = .ok () w := by simp [eqGuard, Sem.run_bind, hG]
    have hb : (binOp BinOp.neq T (.agg vs.toArray) (.agg us.toArray)).run Tryd.prog w = .ok (.bool (!c)) w := by simp only [binOp, Sem.run_bind, he, Result.andThen_ok, Sem.run_pure]
    simp only [ho, hx, hy, Sem.run_bind, hg, hb, Result.andThen_ok]
    exact hK _ _ h
end

theorem zero23 (w : World) : (Instr.alloc 26 true (.tuple #[])).run Tryd.prog w = .ok (P0 w.heap.size) (w.alloc (.cells (u8s (zs 96)).toArray 26)) := by kernel_rfl
theorem zero61 (w : World) : (Instr.alloc 28 true (.tuple #[])).run Tryd.prog w = .ok (P0 w.heap.size) (w.alloc (.cells (Value.int .i64 0 :: u8s (zs 96)).toArray 28)) := by kernel_rfl
theorem zero29 (w : World) : (Instr.alloc 80 true (.tuple #[])).run Tryd.prog w = .ok (P0 w.heap.size) (w.alloc (.cells (u8s (zs 64)).toArray 80)) := by kernel_rfl
theorem zero30 (w : World) : (Instr.alloc 81 true (.tuple #[])).run Tryd.prog w = .ok (P0 w.heap.size) (w.alloc (.cells (u8s (zs 128)).toArray 81)) := by kernel_rfl
theorem build23 (w : World) : (Instr.build 26 #[]).run Tryd.prog w = .ok (aggV (u8s (zs 96))) w := by kernel_rfl
theorem build61 (w : World) : (Instr.build 28 #[]).run Tryd.prog w = .ok (aggV (Value.int .i64 0 :: u8s (zs 96))) w := by kernel_rfl
theorem build29 (w : World) : (Instr.build 80 #[]).run Tryd.prog w = .ok (aggV (u8s (zs 64))) w := by kernel_rfl
theorem build30 (w : World) : (Instr.build 81 #[]).run Tryd.prog w = .ok (aggV (u8s (zs 128))) w := by kernel_rfl

theorem Tryd.info5 : (Tryd.prog.info? 5).map (fun i => (i.zero, i.size, i.bytes)) = some (some (.int .u8 0), 1, 1) := by kernel_rfl
theorem Tryd.size5 : (Tryd.prog.info? 5).map (·.size) = some 1 := by kernel_rfl
theorem Tryd.cells5 : Tryd.prog.cellsOf 5 = 1 := by kernel_rfl
theorem eq5 (W : World) (d : Nat) (x y : Int) : (Op.equalIn (d + 1) 5 (.int .u8 x) (.int .u8 y)).run Tryd.prog W = .ok (decide (x = y)) W := by
  simp [Op.equalIn, Sem.run_bind, run_underlying Tryd.underlying5]
  rw [Bool.eq_iff_iff]; simp

theorem items_byts (W : World) (d n : Nat) (s t : List Int) (hs : s.length = n) (ht : t.length = n) : ∀ is : List Nat, (∀ i ∈ is, i < n) →
    (Op.eqItems (d + 1) 5 1 (u8s s).toArray (u8s t).toArray is).run Tryd.prog W = .ok (decide (∀ i ∈ is, s[i]? = t[i]?)) W := by
  have h2 : ∀ (xs : Array Value) (j : Nat) (v : Value), xs[j]? = some v → (part 5 xs j).run Tryd.prog W = .ok v W := by
    intro xs j v hj
    simp [part, isAgg, run_underlying Tryd.underlying5, hj]
  intro is
  induction is with
  | nil => intro _; simp [Op.eqItems]
  | cons i is ih =>
    intro hi
    have hi0 := hi i (List.mem_cons_self ..)
    have h3 : (part 5 (u8s s).toArray (i * 1)).run Tryd.prog W = .ok (.int .u8 (s[i]'(by omega))) W := h2 _ _ _ (by simp [u8s, show i < s.length by omega])
    have h4 : (part 5 (u8s t).toArray (i * 1)).run Tryd.prog W = .ok (.int .u8 (t[i]'(by omega))) W := h2 _ _ _ (by simp [u8s, show i < t.length by omega])
    simp only [Op.eqItems, Sem.run_bind, h3, h4, Result.andThen_ok, eq5]
    by_cases he : s[i]'(by omega) = t[i]'(by omega)
    · have := ih (fun j hj => hi j (List.mem_cons_of_mem _ hj))
      simp [he, this, show i < s.length by omega, show i < t.length by omega]
    · simp [he, show i < s.length by omega, show i < t.length by omega]

theorem equal_byts (W : World) (T n d : Nat) (hu : Tryd.prog.underlying T = some (.array n 5)) (s t : List Int) (hs : s.length = n) (ht : t.length = n) : (Op.equalIn (d + 2) T (aggV (u8s s)) (aggV (u8s t))).run Tryd.prog W = .ok (decide (s = t)) W := by
  obtain ⟨i0, hi, _⟩ := info_parts Tryd.info5
  have h := run_equalIn_array (P := Tryd.prog) W (d + 1) (u8s s).toArray (u8s t).toArray hu hi
  rw [Tryd.cells5, items_byts W d n s t hs ht (List.range n) (by simp)] at h
  have hd : decide (∀ i ∈ List.range n, s[i]? = t[i]?) = decide (s = t) := by
    rw [decide_eq_decide]
    constructor
    · intro h
      apply List.ext_getElem?
      intro i
      by_cases hi : i < n
      · exact h i (by simpa using hi)
      · rw [List.getElem?_eq_none (by omega), List.getElem?_eq_none (by omega)]
    · intro h i _; rw [h]
  rw [hd] at h
  exact h

end Go.Proofs.YtmeajhdhiebkdaaDoor.Rc
