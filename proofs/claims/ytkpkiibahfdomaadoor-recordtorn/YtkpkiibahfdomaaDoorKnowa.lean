/-
  The walk of known: the chapter's rows.
-/
import Derived.Test.YtkpkiibahfdomaaDoorRun
import Derived.Test.YtkpkiibahfdomaaDoorTake
namespace Go.Proofs.YtkpkiibahfdomaaDoor
open Go.RowKit

theorem size2 : (Tryd.prog.info? 2).map (·.size) = some 1 := by kernel_rfl
theorem size3 : (Tryd.prog.info? 3).map (·.size) = some 1 := by kernel_rfl
theorem size5 : (Tryd.prog.info? 5).map (·.size) = some 1 := by kernel_rfl
/-- One cell of a block is written. -/
theorem wpStore1 {ops : Array Oper} {rest : List Oper} {op : Oper} {a : Act} {w : World} {Q : Exit → Act → World → Prop} {T : Nat} (hi : (Tryd.prog.info? T).map (·.size) = some 1) (hgd : op.guard = none) (x y : Operand) (ho : op.op = .store T x y) (hd : op.dst = none) (b off : Nat) (κ : IntKind) (x0 : Int) (TT : Nat) (us : List Value) (hx : a.eval x = .pointer (some ⟨b, off, none⟩)) (hy : a.eval y = .int κ x0) (hB : Blk w b TT us) (hl : decide (off < us.length) = true)
    (h : ∀ W, Blk W b TT (us.set off (.int κ x0)) → Kept [b] w W → wpList Tryd.prog ops Q rest a W) : wpList Tryd.prog ops Q (op :: rest) a w :=
  wpList_plain hgd fun K hK => by
    have hl := of_decide_eq_true hl
    have hc := hB.cell off
    rw [List.getElem?_eq_getElem hl] at hc
    have hf := hB.frozen off
    have hr := h _ (hB.set (i := off) (.int κ x0)) ((Kept.refl _ _).setCell (by simp) (.int κ x0))
    have hst : (storeVar T ⟨b, off, none⟩ (.int κ x0)).run Tryd.prog w = .ok () (w.setCell ⟨b, off, none⟩ (.int κ x0)) := by
      have g1 : ∀ j, j < [Value.int κ x0].length → (w.cell? ⟨b, off + 0 + j, none⟩).isSome = true := by
        intro j hj
        have e : j = 0 := by simpa using hj
        subst e
        simp [hc]
      have g2 : ∀ j, j < [Value.int κ x0].length → w.frozen? ⟨b, off + 0 + j, none⟩ = false := by
        intro j hj
        have e : j = 0 := by simpa using hj
        subst e
        simpa using hf
      have := run_storeCells_cells (P := Tryd.prog) b off [.int κ x0] 0 w g1 g2 (fun v hv => by simp at hv; subst hv; rfl)
      cases hq : Tryd.prog.info? T with
      | none => simp [hq] at hi
      | some i =>
        have hs : i.size = 1 := by simpa [hq] using hi
        simp [storeVar, Value.cells, sizeOf, typeInfo, hq, hs]
        simpa [World.setCells] using this
    unfold Oper.wp execOp
    simp only [ho, hx, hy, Instr.storeAt, Instr.sureAddr, Sem.run_bind, Sem.run_pure, Result.andThen_ok, hst]
    refine hK _ _ ?_
    rw [hd]
    exact hr

end Go.Proofs.YtkpkiibahfdomaaDoor
