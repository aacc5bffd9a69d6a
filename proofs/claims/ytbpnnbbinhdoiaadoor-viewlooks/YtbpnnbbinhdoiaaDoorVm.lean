/-
  Blocks kept in mind: one fact on all of them.
-/
import Derived.Test.YtbpnnbbinhdoiaaDoorVb
namespace Go.Proofs.YtbpnnbbinhdoiaaDoor
set_option maxRecDepth 100000
open Go.RowKit


/-- Since w0 only new blocks were written, view.first stands, and these blocks are new and have these cells. -/
structure Mm (w0 w : World) (bs : List (Nat × Nat × List Value)) : Prop where
  kept : Kept [] w0 w
  first : First w
  first0 : 0 < w0.heap.size
  blk : ∀ x ∈ bs, Blk w x.1 x.2.1 x.2.2 ∧ w0.heap.size ≤ x.1
  nd : (bs.map (·.1)).Nodup
theorem Mm.init {w : World} (h : First w) : Mm w w [] := ⟨Kept.refl _ _, h, h.lt, (fun x hx => by cases hx), List.nodup_nil⟩
theorem Mm.step {w0 w w' : World} {bs : List (Nat × Nat × List Value)} (h : Mm w0 w bs) (hk : Kept [] w w') : Mm w0 w' bs :=
  ⟨h.kept.trans hk, h.first.kept hk, h.first0, fun x hx => ⟨(h.blk x hx).1.kept hk (by simp), (h.blk x hx).2⟩, h.nd⟩
theorem Mm.new {w0 w W : World} {bs : List (Nat × Nat × List Value)} {b T : Nat} {vs : List Value} (h : Mm w0 w bs) (hb : b = w.heap.size) (B : Blk W b T vs) (K : Kept [] w W) : Mm w0 W (bs ++ [(b, T, vs)]) := by
  have h' := h.step K
  refine ⟨h'.kept, h'.first, h.first0, ?_, ?_⟩
  · intro x hx
    rcases List.mem_append.1 hx with hx | hx
    · exact h'.blk x hx
    · simp at hx; subst hx
      exact ⟨B, by have := h.kept.size; simp; omega⟩
  · rw [List.map_append, List.nodup_append]
    refine ⟨h.nd, by simp, ?_⟩
    intro a ha c hc
    simp at hc; subst hc
    obtain ⟨x, hx, rfl⟩ := List.mem_map.1 ha
    have := (h.blk x hx).1.lt
    omega
theorem Mm.at {w0 w : World} {bs : List (Nat × Nat × List Value)} (h : Mm w0 w bs) (i : Nat) (x : Nat × Nat × List Value) (hx : bs[i]? = some x) : Blk w x.1 x.2.1 x.2.2 := (h.blk x (List.mem_of_getElem? hx)).1
theorem Mm.new0 {w0 w : World} {bs : List (Nat × Nat × List Value)} (h : Mm w0 w bs) (i : Nat) (x : Nat × Nat × List Value) (hx : bs[i]? = some x) : w0.heap.size ≤ x.1 := (h.blk x (List.mem_of_getElem? hx)).2
theorem Mm.mut {w0 w w' : World} {bs : List (Nat × Nat × List Value)} (h : Mm w0 w bs) (i : Nat) {b T : Nat} {us vs : List Value} (hi : bs[i]? = some (b, T, us)) (hk : Kept [b] w w') (hB : Blk w' b T vs) : Mm w0 w' (bs.set i (b, T, vs)) := by
  have h0 := h.new0 i _ hi
  have hp := h.first0
  have hb0 : b ≠ 0 := by simp at h0; omega
  refine ⟨h.kept.fresh hk (fun k hk' hl => by simp at hk'; subst hk'; simp at h0; omega), h.first.keptX hk (by simpa using fun e => hb0 e.symm), h.first0, ?_, ?_⟩
  · intro x hx
    obtain ⟨j, hj, rfl⟩ := List.getElem_of_mem hx
    rw [List.length_set] at hj
    by_cases hij : i = j
    · subst hij
      rw [List.getElem_set_self]
      exact ⟨hB, h0⟩
    · rw [List.getElem_set_ne hij]
      have hm := h.blk bs[j] (List.getElem_mem hj)
      refine ⟨hm.1.kept hk ?_, hm.2⟩
      simp only [List.mem_singleton]
      intro e
      have h1 := (List.getElem?_eq_some_iff.1 hi)
      obtain ⟨hi', hi''⟩ := h1
      have := List.pairwise_iff_getElem.1 h.nd
      rcases Nat.lt_or_gt_of_ne hij with hlt | hlt
      · have := this i j (by simpa using hi') (by simpa using hj) hlt
        simp [hi''] at this
        exact this e.symm
      · have := this j i (by simpa using hj) (by simpa using hi') hlt
        simp [hi''] at this
        exact this e
  · have : (bs.set i (b, T, vs)).map (·.1) = bs.map (·.1) := by
      rw [List.map_set]
      apply List.ext_getElem?
      intro j
      by_cases hij : i = j
      · subst hij
        have h1 := (List.getElem?_eq_some_iff.1 hi)
        obtain ⟨hi', hi''⟩ := h1
        simp [hi', hi'']
      · rw [List.getElem?_set_ne hij]
    rw [this]; exact h.nd
theorem Mm.sets {w0 w : World} {bs : List (Nat × Nat × List Value)} (h : Mm w0 w bs) (i : Nat) {b T : Nat} {us : List Value} (hi : bs[i]? = some (b, T, us)) (vs : List Value) (hl : us.length = vs.length) : Mm w0 (w.setCells b 0 vs) (bs.set i (b, T, vs)) :=
  h.mut i hi ((Kept.refl _ _).setCells _ _ (by simp)) ((h.at i _ hi).put hl)
section
variable {ops : Array Oper} {rest : List Oper} {op : Oper} {a : Act} {w w0 : World} {Q : Exit → Act → World → Prop} {bs : List (Nat × Nat × List Value)}
theorem wpStoreM {T n : Nat} (hT : Row T n) (hgd : op.guard = none) (x y : Operand) (ho : op.op = .store T x y) (hd : op.dst = none) (b i : Nat) (vs : List Value) (hx : a.eval x = P0 b) (hy : a.eval y = aggV vs) (hl : vs.length = n) (h1 : ∀ v ∈ vs, v.oneCell' = true) (hM : Mm w0 w bs) {us : List Value} (hi : bs[i]? = some (b, T, us)) (hu : us.length = n)
    (h : ∀ W, Mm w0 W (bs.set i (b, T, vs)) → wpList Tryd.prog ops Q rest a W) : wpList Tryd.prog ops Q (op :: rest) a w := by
  refine wpStoreA hT hgd x y ho b 0 vs hx hy hl h1 ((hM.at i _ hi).there (by simp [hu])) ?_
  rw [hd]
  exact h _ (hM.sets i hi vs (by omega))
theorem size2 : (Tryd.prog.info? 2).map (·.size) = some 1 := by kernel_rfl
theorem size3 : (Tryd.prog.info? 3).map (·.size) = some 1 := by kernel_rfl
theorem size4 : (Tryd.prog.info? 4).map (·.size) = some 1 := by kernel_rfl
theorem size5 : (Tryd.prog.info? 5).map (·.size) = some 1 := by kernel_rfl
theorem storeVar1 {T : Nat} (hi : (Tryd.prog.info? T).map (·.size) = some 1) {w : World} {b off TT : Nat} {us : List Value} (hB : Blk w b TT us) (hl : off < us.length) (v : Value) (h1 : v.oneCell' = true) (hc1 : v.cells = #[v]) : (storeVar T ⟨b, off, none⟩ v).run Tryd.prog w = .ok () (w.setCell ⟨b, off, none⟩ v) := by
  have hc := hB.cell off
  rw [List.getElem?_eq_getElem hl] at hc
  have hf := hB.frozen off
  have g1 : ∀ j, j < [v].length → (w.cell? ⟨b, off + 0 + j, none⟩).isSome = true := by
    intro j hj
    have e : j = 0 := by simpa using hj
    subst e
    simp [hc]
  have g2 : ∀ j, j < [v].length → w.frozen? ⟨b, off + 0 + j, none⟩ = false := by
    intro j hj
    have e : j = 0 := by simpa using hj
    subst e
    simpa using hf
  have := run_storeCells_cells (P := Tryd.prog) b off [v] 0 w g1 g2 (fun u hu => by simp at hu; subst hu; exact h1)
  cases hq : Tryd.prog.info? T with
  | none => simp [hq] at hi
  | some i =>
    have hs : i.size = 1 := by simpa [hq] using hi
    simp [storeVar, hc1, sizeOf, typeInfo, hq, hs]
    simpa [World.setCells] using this
/-- A value of one cell. -/
def One (v : Value) : Prop := v.oneCell' = true ∧ v.cells = #[v]
theorem wpStoreM1 {T : Nat} (hs : (Tryd.prog.info? T).map (·.size) = some 1) (hgd : op.guard = none) (x y : Operand) (ho : op.op = .store T x y) (hd : op.dst = none) (b off i : Nat) (v : Value) (h1 : One v) (hx : a.eval x = .pointer (some ⟨b, off, none⟩)) (hy : a.eval y = v) (hM : Mm w0 w bs) {TT : Nat} {us : List Value} (hi : bs[i]? = some (b, TT, us)) (hl : off < us.length)
    (h : ∀ W, Mm w0 W (bs.set i (b, TT, us.set off v)) → wpList Tryd.prog ops Q rest a W) : wpList Tryd.prog ops Q (op :: rest) a w :=
  wpList_plain hgd fun K hK => by
    have hst := storeVar1 hs (hM.at i _ hi) hl v h1.1 h1.2
    unfold Oper.wp execOp
    simp only [ho, hx, hy, Instr.storeAt, Instr.sureAddr, Sem.run_bind, Sem.run_pure, Result.andThen_ok, hst]
    refine hK _ _ ?_
    rw [hd]
    exact h _ (hM.mut i hi ((Kept.refl _ _).setCell (by simp) v) ((hM.at i _ hi).set v))
end
theorem one_int (κ : IntKind) (n : Int) : One (.int κ n) := ⟨rfl, rfl⟩
theorem one_bool (b : Bool) : One (.bool b) := ⟨rfl, rfl⟩

end Go.Proofs.YtbpnnbbinhdoiaaDoor
