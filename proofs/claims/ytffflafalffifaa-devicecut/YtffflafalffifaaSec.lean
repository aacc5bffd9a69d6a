/-
  Laws for sectors (arrays of 64 bytes): they are loaded, stored, made and compared as a whole.
-/
import Derived.Test.YtffflafalffifaaCut
import Derived.ChangeKeysEq
import Derived.Deep.QuietTactic
namespace Go.Proofs.Ytffflafalffifaa
open Go.RowKit

/-- Noughts. -/
def nought : List Int := List.replicate 64 0
theorem nought_len : nought.length = 64 := by simp [nought]
theorem nought_sec : Sec nought := ⟨nought_len, fun x hx => by simp [nought] at hx; omega⟩

/-- A sector as a value. -/
def secV (s : List Int) : Value := .agg (u8s s).toArray

/-- A sector at a block's offset. -/
def At (w : World) (b o : Nat) (s : List Int) : Prop := Sec s ∧ w.rangeAt b o (u8s s) ∧ w.there b o 64

theorem Try.info38 : (Try.prog.info? 38).map (·.size) = some 64 := by kernel_rfl

theorem At.loadVar {w : World} {b o : Nat} {s : List Int} (h : At w b o s) : (loadVar 38 ⟨b, o, none⟩).run Try.prog w = .ok (secV s) w :=
  run_loadVar_mid (P := Try.prog) w b o 38 (u8s s) _ h.2.1 Try.underlying38 rfl (by rw [u8s_len, h.1.1]; exact Try.info38)

theorem wpLoadS {ops : Array Oper} {rest : List Oper} {op : Oper} {a : Act} {w : World} {Q : Exit → Act → World → Prop} (hgd : op.guard = none) (x : Operand) (ho : op.op = .load 38 x)
    (b o : Nat) (hx : a.eval x = .pointer (some ⟨b, o, none⟩)) (s : List Int) (hA : At w b o s) (h : wpList Try.prog ops Q rest (a.put op.dst (secV s)) w) : wpList Try.prog ops Q (op :: rest) a w :=
  wpList_load_mid (P := Try.prog) hgd 38 x ho b o hx (u8s s) _ hA.2.1 Try.underlying38 rfl (by rw [u8s_len, hA.1.1]; exact Try.info38) h

theorem wpStoreS {ops : Array Oper} {rest : List Oper} {op : Oper} {a : Act} {w : World} {Q : Exit → Act → World → Prop} (hgd : op.guard = none) (x y : Operand) (ho : op.op = .store 38 x y)
    (b o : Nat) (t : List Int) (hx : a.eval x = .pointer (some ⟨b, o, none⟩)) (hy : a.eval y = secV t) (ht : Sec t) (hA : w.there b o 64) (h : wpList Try.prog ops Q rest (a.put op.dst undef) (w.setCells b o (u8s t))) : wpList Try.prog ops Q (op :: rest) a w :=
  wpList_store_mid (P := Try.prog) hgd 38 x y ho b o (u8s t).toArray hx hy (by simpa [u8s_len, ht.1] using hA) (by simp only [List.size_toArray, u8s_len, ht.1]; exact Try.info38) (all_oneCell_toArray (u8s_one t)) h

theorem run_alloc38 (w : World) : (Instr.alloc 38 true (.tuple #[])).run Try.prog w = .ok (.pointer (some ⟨w.heap.size, 0, none⟩)) (w.alloc (.cells (u8s nought).toArray 38)) := by kernel_rfl
theorem run_build38 (w : World) : (Instr.build 38 #[]).run Try.prog w = .ok (secV nought) w := by kernel_rfl

theorem wpAllocS {ops : Array Oper} {rest : List Oper} {op : Oper} {a : Act} {w : World} {Q : Exit → Act → World → Prop} (hgd : op.guard = none) (ho : op.op = .alloc 38)
    (h : wpList Try.prog ops Q rest (a.put op.dst (.pointer (some ⟨w.heap.size, 0, none⟩))) (w.alloc (.cells (u8s nought).toArray 38))) : wpList Try.prog ops Q (op :: rest) a w :=
  wpList_plain hgd fun K hK => by
    unfold Oper.wp execOp
    simp only [ho, Sem.run_bind, run_alloc38, Result.andThen_ok]
    exact hK _ _ h
theorem wpBuildS {ops : Array Oper} {rest : List Oper} {op : Oper} {a : Act} {w : World} {Q : Exit → Act → World → Prop} (hgd : op.guard = none) (ho : op.op = .build 38 #[])
    (h : wpList Try.prog ops Q rest (a.put op.dst (secV nought)) w) : wpList Try.prog ops Q (op :: rest) a w :=
  wpList_plain hgd fun K hK => by
    unfold Oper.wp execOp
    simp only [ho, Array.map_empty, Sem.run_bind, run_build38, Result.andThen_ok]
    exact hK _ _ h

theorem Dv.sector {w : World} {b g : Nat} {D : Dev} (h : Dv w b g D) (i : Nat) (hi : i < D.S.length) : At w g (i * 64) D.S[i] := by
  obtain ⟨cap, _, hb⟩ := h.lay
  exact ⟨h.ok.sec _ (List.getElem_mem hi), hb.range h.ok.sec i hi, hb.there h.ok.sec i hi⟩

/-- A sector in a block of its own. -/
def Box (w : World) (b : Nat) (s : List Int) : Prop := Sec s ∧ w.heap[b]? = some (.cells (u8s s).toArray 38 (0, 0))

theorem Box.at {w : World} {b : Nat} {s : List Int} (h : Box w b s) : At w b 0 s := by
  obtain ⟨hs, h⟩ := h
  have hr : w.rangeAt b 0 (u8s s) := fun j v hj => by rw [cell_of_block h, Nat.zero_add, List.getElem?_toArray]; exact hj
  exact ⟨hs, hr, fun j hj => ⟨hr.isSome j (by rw [u8s_len, hs.1]; exact hj), frozen_of_block h _⟩⟩

theorem Box.put {w : World} {b : Nat} {s t : List Int} (h : Box w b s) (ht : Sec t) : Box (w.setCells b 0 (u8s t)) b t := by
  have := heap_sets (b := b) (t := 38) (p := (0, 0)) (u8s t) w 0 [] (u8s s) [] (by simpa using h.2) rfl (by rw [u8s_len, u8s_len, ht.1, h.1.1])
  exact ⟨ht, by simpa using this⟩
theorem Box.kept {w w' : World} {b : Nat} {s : List Int} {X : List Nat} (h : Box w b s) (hk : Kept X w w') (hb : b ∉ X) : Box w' b s := ⟨h.1, hk.heap h.2 hb⟩
theorem Box.new (w : World) : Box (w.alloc (.cells (u8s nought).toArray 38)) w.heap.size nought := ⟨nought_sec, heap_alloc_new w _⟩

theorem run_box38 (w : World) (s : List Int) : (Instr.box 38 (secV s)).run Try.prog w = .ok (.pointer (some ⟨w.heap.size, 0, none⟩)) (w.alloc (.cells (u8s s).toArray 38)) := by
  simp [Instr.box, secV, newVar, newRow, Value.cells]

theorem wpBoxS {ops : Array Oper} {rest : List Oper} {op : Oper} {a : Act} {w : World} {Q : Exit → Act → World → Prop} (hgd : op.guard = none) (x : Operand) (ho : op.op = .box 38 x) (s : List Int) (hx : a.eval x = secV s)
    (h : wpList Try.prog ops Q rest (a.put op.dst (.pointer (some ⟨w.heap.size, 0, none⟩))) (w.alloc (.cells (u8s s).toArray 38))) : wpList Try.prog ops Q (op :: rest) a w :=
  wpList_plain hgd fun K hK => by
    unfold Oper.wp execOp
    simp only [ho, hx, Sem.run_bind, run_box38, Result.andThen_ok]
    exact hK _ _ h
theorem Box.fresh (w : World) (s : List Int) (hs : Sec s) : Box (w.alloc (.cells (u8s s).toArray 38)) w.heap.size s := ⟨hs, heap_alloc_new w _⟩

theorem Try.info5 : (Try.prog.info? 5).map (fun i => (i.zero, i.size, i.bytes)) = some (some (.int .u8 0), 1, 1) := by kernel_rfl
theorem Try.cells5 : Try.prog.cellsOf 5 = 1 := by kernel_rfl
theorem eq5 (W : World) (d : Nat) (x y : Int) : (Op.equalIn (d + 1) 5 (.int .u8 x) (.int .u8 y)).run Try.prog W = .ok (decide (x = y)) W := by
  simp [Op.equalIn, Sem.run_bind, run_underlying Try.underlying5]
  rw [Bool.eq_iff_iff]; simp

theorem items_secs (W : World) (d : Nat) (s t : List Int) (hs : s.length = 64) (ht : t.length = 64) : ∀ is : List Nat, (∀ i ∈ is, i < 64) →
    (Op.eqItems (d + 1) 5 1 (u8s s).toArray (u8s t).toArray is).run Try.prog W = .ok (decide (∀ i ∈ is, s[i]? = t[i]?)) W := by
  have h2 : ∀ (xs : Array Value) (j : Nat) (v : Value), xs[j]? = some v → (part 5 xs j).run Try.prog W = .ok v W := by
    intro xs j v hj
    simp [part, isAgg, run_underlying Try.underlying5, hj]
  intro is
  induction is with
  | nil => intro _; simp [Op.eqItems]
  | cons i is ih =>
    intro hi
    have hi0 := hi i (List.mem_cons_self ..)
    have h3 : (part 5 (u8s s).toArray (i * 1)).run Try.prog W = .ok (.int .u8 (s[i]'(by omega))) W := h2 _ _ _ (by simp [u8s, show i < s.length by omega])
    have h4 : (part 5 (u8s t).toArray (i * 1)).run Try.prog W = .ok (.int .u8 (t[i]'(by omega))) W := h2 _ _ _ (by simp [u8s, show i < t.length by omega])
    simp only [Op.eqItems, Sem.run_bind, h3, h4, Result.andThen_ok, eq5]
    by_cases he : s[i]'(by omega) = t[i]'(by omega)
    · have := ih (fun j hj => hi j (List.mem_cons_of_mem _ hj))
      simp [he, this, show i < s.length by omega, show i < t.length by omega]
    · simp [he, show i < s.length by omega, show i < t.length by omega]

theorem equal_secs (W : World) (s t : List Int) (hs : Sec s) (ht : Sec t) : (Op.equal 38 (secV s) (secV t)).run Try.prog W = .ok (decide (s = t)) W := by
  obtain ⟨i0, hi, _⟩ := info_parts Try.info5
  have h := run_equalIn_array W 9999 (u8s s).toArray (u8s t).toArray Try.underlying38 hi
  rw [Try.cells5, items_secs W 9998 s t hs.1 ht.1 (List.range 64) (by simp)] at h
  have hd : decide (∀ i ∈ List.range 64, s[i]? = t[i]?) = decide (s = t) := by
    rw [decide_eq_decide]
    constructor
    · intro h
      apply List.ext_getElem?
      intro i
      by_cases hi : i < 64
      · exact h i (by simpa using hi)
      · rw [List.getElem?_eq_none (by rw [hs.1]; omega), List.getElem?_eq_none (by rw [ht.1]; omega)]
    · intro h i _; rw [h]
  rw [hd] at h
  exact h

theorem neq_secs (W : World) (s t : List Int) (hs : Sec s) (ht : Sec t) : (binOp BinOp.neq 38 (secV s) (secV t)).run Try.prog W = .ok (.bool (!decide (s = t))) W := by
  have := equal_secs W s t hs ht
  simp only [secV] at this ⊢
  simp only [binOp, Sem.run_bind, this, Result.andThen_ok, Sem.run_pure]
theorem eql_secs (W : World) (s t : List Int) (hs : Sec s) (ht : Sec t) : (binOp BinOp.eql 38 (secV s) (secV t)).run Try.prog W = .ok (.bool (decide (s = t))) W := by
  have := equal_secs W s t hs ht
  simp only [secV] at this ⊢
  simp only [binOp, Sem.run_bind, this, Result.andThen_ok, Sem.run_pure]
theorem guard_secs (W : World) (o : BinOp) (x y : Operand) (s t : List Int) : (eqGuard o 38 x y (secV s) (secV t)).run Try.prog W = .ok () W := by
  cases o <;> simp [eqGuard, secV, Sem.run_bind]

theorem wpNeqS {ops : Array Oper} {rest : List Oper} {op : Oper} {a : Act} {w : World} {Q : Exit → Act → World → Prop} (hgd : op.guard = none) (x y : Operand) (r : TypeId) (ho : op.op = .binOp .neq 38 x y r) (s t : List Int) (hx : a.eval x = secV s) (hy : a.eval y = secV t) (hs : Sec s) (ht : Sec t)
    (h : wpList Try.prog ops Q rest (a.put op.dst (.bool (!decide (s = t)))) w) : wpList Try.prog ops Q (op :: rest) a w :=
  wpList_plain hgd fun K hK => by
    unfold Oper.wp execOp
    simp only [ho, hx, hy, Sem.run_bind, guard_secs, neq_secs _ _ _ hs ht, Result.andThen_ok]
    exact hK _ _ h

/-- In a region that only looks: a sector is loaded. -/
theorem quietLoadS {ops : Array Oper} {rest : List Oper} {o : Oper} {a : Act} {C : World → Prop} {Q : Act → Prop} (hw : Region.wanted o (yielded ops a.tmps) = true) (x : Operand) (ho : o.op = .load 38 x)
    (b off : Nat) (hx : a.eval x = .pointer (some ⟨b, off, none⟩)) (s : List Int) (hs : Sec s) (hC : ∀ w, C w → w.rangeAt b off (u8s s)) (h : wpQuiet Try.prog ops C Q rest (a.put o.dst (secV s))) : wpQuiet Try.prog ops C Q (o :: rest) a := by
  refine wpQuiet_step (fun K hK => ?_)
  rw [if_pos hw]
  refine ⟨secV s, fun w hw' => ?_, hK _ h⟩
  unfold Oper.quietAt execOp
  have := run_loadVar_mid (P := Try.prog) w b off 38 (u8s s) _ (hC w hw') Try.underlying38 rfl (by rw [u8s_len, hs.1]; exact Try.info38)
  simp only [ho, hx, Instr.loadAt, Instr.sureAddr, Sem.run_bind, Sem.run_pure, Result.andThen_ok, this]
  exact ⟨rfl, rfl⟩

/-- In a region that only looks: two sectors are compared. -/
theorem quietNeqS {ops : Array Oper} {rest : List Oper} {o : Oper} {a : Act} {C : World → Prop} {Q : Act → Prop} (hw : Region.wanted o (yielded ops a.tmps) = true) (x y : Operand) (r : TypeId) (ho : o.op = .binOp .neq 38 x y r) (s t : List Int) (hx : a.eval x = secV s) (hy : a.eval y = secV t) (hs : Sec s) (ht : Sec t) (rb : Bool) (hr : (!decide (s = t)) = rb)
    (h : wpQuiet Try.prog ops C Q rest (a.put o.dst (.bool rb))) : wpQuiet Try.prog ops C Q (o :: rest) a := by
  subst hr
  refine wpQuiet_step (fun K hK => ?_)
  rw [if_pos hw]
  refine ⟨.bool (!decide (s = t)), fun w hw' => ?_, hK _ h⟩
  unfold Oper.quietAt execOp
  simp only [ho, hx, hy, Sem.run_bind, guard_secs, neq_secs _ _ _ hs ht, Result.andThen_ok]
  exact ⟨rfl, rfl⟩

end Go.Proofs.Ytffflafalffifaa
