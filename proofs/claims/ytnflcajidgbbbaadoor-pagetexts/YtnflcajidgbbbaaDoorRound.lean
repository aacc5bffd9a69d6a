/-
  From the walk outside a round to the walk inside one, operation by operation; what a round leaves as it was.
-/
import Derived.Test.YtnflcajidgbbbaaDoorTxtb
import Derived.Test.YtnflcajidgbbbaaDoorPrefb
import Derived.RangeFuncNested
import Derived.RangeFuncBound
import Derived.RangeFuncCalls
import Derived.RangeFuncLeaves
import Derived.Shelf.Abstract
import Derived.Shelf.RegionOpen
import Derived.OwnWalkIn
import Derived.TacticsInMore
import Derived.LoopNIn
import Derived.LoopIn
namespace Go.Proofs.YtnflcajidgbbbaaDoor
open Go.RowKit Go.Shelf
attribute [local go_sem] Oper.semAt_some

/-- All blocks of strings are as they were. -/
structure Kept9 (A B : World) : Prop where
  size : A.heap.size ≤ B.heap.size
  block : ∀ (k : Nat) (cs : Array Value) (p : Nat × Nat), A.heap[k]? = some (.cells cs 9 p) → B.heap[k]? = some (.cells cs 9 p)
theorem Kept9.trans {A B C : World} (h : Kept9 A B) (k : Kept9 B C) : Kept9 A C := ⟨Nat.le_trans h.size k.size, fun i cs p hi => k.block i cs p (h.block i cs p hi)⟩
theorem Kept9.refl (A : World) : Kept9 A A := ⟨Nat.le_refl _, fun _ _ _ h => h⟩
theorem Kept9.putObj {W : World} {l : Nat} {o o' : Obj} (h : W.heap[l]? = some o) (hc : o.isCells = false) : Kept9 W (W.putObj l o') := by
  refine ⟨by simp, fun k cs p hk => ?_⟩
  by_cases e : k = l
  · subst e; rw [h] at hk; cases hk; simp [Obj.isCells] at hc
  · rw [World.putObj_heap_other e]; exact hk
theorem Kept9.of_kept {X : List Nat} {A B : World} (h : Kept X A B) (hX : ∀ k ∈ X, ∀ (cs : Array Value) (p : Nat × Nat), A.heap[k]? ≠ some (.cells cs 9 p)) : Kept9 A B :=
  ⟨h.size, fun k cs p hk => by rw [h.block k (lt_of_block hk) (fun e => hX k e cs p hk)]; exact hk⟩
theorem grown_of_kept {w w' : World} (h : Kept [] w w') : w.grownBy w' none := ⟨h.os, h.tape, h.output, h.size, fun k hk _ => h.block k hk (by simp)⟩

theorem wpIn_value {F : Fence} {n : Nat} {o : Oper} {a : Act} {w w' : World} {v : Value} {K : Act → World → Prop} {Q : Exit → Act → World → Prop} (hF : ∀ f, F.fn f) (hsem : o.semAt F.round a.eval = execOp a.eval o) (h : (execOp a.eval o).run Tryd.prog w = .ok (.value v) w') (hk : K (a.put o.dst v) w') : o.wpIn F n Tryd.prog a w K Q := by
  refine ⟨fun f _ => hF f, ?_⟩
  rw [hsem, h]
  exact hk
theorem wpIn_skip {F : Fence} {n : Nat} {o : Oper} {a : Act} {w w' : World} {K : Act → World → Prop} {Q : Exit → Act → World → Prop} (hF : ∀ f, F.fn f) (hsem : o.semAt F.round a.eval = execOp a.eval o) (h : (execOp a.eval o).run Tryd.prog w = .ok .skip w') (hk : K (a.put o.dst undef) w') : o.wpIn F n Tryd.prog a w K Q := by
  refine ⟨fun f _ => hF f, ?_⟩
  rw [hsem, h]
  exact hk
theorem wpListIn_want {F : Fence} {n : Nat} {ops : Array Oper} {Q : Exit → Act → World → Prop} {a : Act} {w : World} {rest : List Oper} {o : Oper} (hw : Region.wanted o (yielded ops a.tmps) = true)
    (h : o.wpIn F n Tryd.prog a w (wpListIn F n Tryd.prog ops Q rest) Q) : wpListIn F n Tryd.prog ops Q (o :: rest) a w := by
  simp only [wpListIn, hw, if_true]; exact h
theorem wideF (f : FuncId) : Fence.wide.fn f := trivial
section
variable {l n : Nat} {P : Program} {ops : Array Oper} {Q : Exit → Act → World → Prop}

theorem rowsIn_of_rows {row : String} {args : Array Value} {w : World} {R : Value → World → Prop} (h : Rows P row args w R) : RowsIn (Fence.wide.inRound l) n P row args w R := by
  intro c cs _
  obtain ⟨v, w', hr, hs⟩ := h c cs
  exact ⟨v, w', hr, stepsIn_wide.2 hs⟩

theorem uponIn_of_upon {o : Oper} {a : Act} {K : Act → World → Prop} {r : Result Next} (h : o.upon P a K Q r) : o.uponIn (Fence.wide.inRound l) n P a K Q r := by
  cases r with
  | ok nx w =>
    cases nx <;> first
      | exact h
      | exact ⟨fun h => by simp [Fence.wide] at h, CallsIn.inRound l (callsIn_wide.2 h)⟩
      | exact ⟨fun h => by simp [Fence.wide] at h, rowsIn_of_rows h⟩
      | exact h.elim
  | halt x w => cases x <;> first | exact h | exact h.elim

theorem opIn_of_op {o : Oper} {a : Act} {w : World} {K : Act → World → Prop} (hd : ∀ c, o.op ≠ .defer c) (h : o.wp P a w K Q) : o.wpIn (Fence.wide.inRound l) n P a w K Q := by
  refine ⟨fun f _ => trivial, ?_⟩
  rw [Fence.inRound_round, Oper.semAt_some l _ o hd]
  exact uponIn_of_upon h

/-- No defer statement among them. -/
def noDefer (os : List Oper) : Bool := os.all fun o => match o.op with | .defer _ => false | _ => true
theorem noDefer_spec {os : List Oper} (h : noDefer os = true) : ∀ o ∈ os, ∀ c, o.op ≠ .defer c := by
  intro o ho c e
  have := (List.all_eq_true.1 h) o ho
  rw [e] at this
  simp at this

theorem listIn_of_list (hlo : ¬ LetsOut Q) : ∀ (os : List Oper) (a : Act) (w : World), (∀ o ∈ os, ∀ c, o.op ≠ .defer c) → wpList P ops Q os a w → wpListIn (Fence.wide.inRound l) n P ops Q os a w := by
  intro os
  induction os with
  | nil => intro a w _ h; exact h
  | cons o os ih =>
    intro a w hd h
    unfold wpList at h
    unfold wpListIn
    split
    · rename_i hw
      rw [if_pos hw] at h
      rcases h with h | ⟨_, hl⟩
      · exact opIn_of_op (hd o (List.mem_cons_self ..)) (Oper.wp_mono (fun a w h => ih a w (fun p hp => hd p (List.mem_cons_of_mem _ hp)) h) h)
      · exact absurd hl hlo
    · rename_i hw
      rw [if_neg hw] at h
      exact ⟨fun f _ => trivial, ih _ _ (fun p hp => hd p (List.mem_cons_of_mem _ hp)) h⟩

theorem anyIn_of_any (hlo : ¬ LetsOut Q) (hd : ∀ o ∈ ops, ∀ c, o.op ≠ .defer c) {md : Region.Mode} : ∀ (fuel : Nat) (listed : Array Bool) (a : Act) (w : World), wpAny P md ops Q fuel listed a w → wpAnyIn (Fence.wide.inRound l) n P md ops Q fuel listed a w := by
  intro fuel
  induction fuel with
  | zero => intro listed a w h; exact h
  | succ fuel ih =>
    intro listed a w h
    refine ⟨h.1, fun i hi => ?_⟩
    have := h.2 i hi
    unfold wpOp at this
    unfold wpOpIn
    split
    · rename_i ho
      rw [ho] at this
      exact ih _ _ _ this
    · rename_i o ho
      rw [ho] at this
      simp only at this
      split
      · rename_i hw
        rw [if_pos hw] at this
        rcases this with this | ⟨_, hl⟩
        · exact opIn_of_op (hd o (Array.mem_of_getElem? ho)) (Oper.wp_mono (fun a w h => ih _ a w h) this)
        · exact absurd hl hlo
      · rename_i hw
        rw [if_neg hw] at this
        exact ⟨fun f _ => trivial, ih _ _ _ this⟩
end

theorem noDeferA {ops : Array Oper} (h : noDefer ops.toList = true) : ∀ o ∈ ops, ∀ c, o.op ≠ .defer c := fun o ho => noDefer_spec h o (by simpa using ho)

section
variable {F : Fence} {n : Nat} {ops : Array Oper} {rest : List Oper} {o : Oper} {a : Act} {w : World} {Q : Exit → Act → World → Prop}
theorem inLoadA {T m : Nat} (hT : Row T m) (hF : ∀ f, F.fn f) (hw : Region.wanted o (yielded ops a.tmps) = true) (x : Operand) (ho : o.op = .load T x) (hsem : o.semAt F.round a.eval = execOp a.eval o) (b off : Nat) (hx : a.eval x = .pointer (some ⟨b, off, none⟩)) (vs : List Value) (hl : vs.length = m) (hA : w.rangeAt b off vs)
    (h : wpListIn F n Tryd.prog ops Q rest (a.put o.dst (aggV vs)) w) : wpListIn F n Tryd.prog ops Q (o :: rest) a w := by
  obtain ⟨d, h1, h2, h3⟩ := hT
  refine wpListIn_want hw (wpIn_value (v := aggV vs) hF hsem ?_ h)
  unfold execOp
  have := run_loadVar_mid (P := Tryd.prog) w b off T vs d hA h1 h2 (by rw [hl]; exact h3)
  simp only [ho, hx, Instr.loadAt, Instr.sureAddr, Sem.run_bind, Sem.run_pure, Result.andThen_ok, this]
  rfl
theorem inAllocA {T : Nat} (vs : List Value) (hr : ∀ w : World, (Instr.alloc T true (.tuple #[])).run Tryd.prog w = .ok (P0 w.heap.size) (w.alloc (.cells vs.toArray T))) (hF : ∀ f, F.fn f) (hw : Region.wanted o (yielded ops a.tmps) = true) (ho : o.op = .alloc T) (hsem : o.semAt F.round a.eval = execOp a.eval o)
    (h : wpListIn F n Tryd.prog ops Q rest (a.put o.dst (P0 w.heap.size)) (w.alloc (.cells vs.toArray T))) : wpListIn F n Tryd.prog ops Q (o :: rest) a w := by
  refine wpListIn_want hw (wpIn_value hF hsem ?_ h)
  unfold execOp
  simp only [ho, Sem.run_bind, hr, Result.andThen_ok]
  rfl
theorem inBuildZ {T : Nat} (vs : List Value) (hr : ∀ w : World, (Instr.build T #[]).run Tryd.prog w = .ok (aggV vs) w) (hF : ∀ f, F.fn f) (hw : Region.wanted o (yielded ops a.tmps) = true) (ho : o.op = .build T #[]) (hsem : o.semAt F.round a.eval = execOp a.eval o)
    (h : wpListIn F n Tryd.prog ops Q rest (a.put o.dst (aggV vs)) w) : wpListIn F n Tryd.prog ops Q (o :: rest) a w := by
  refine wpListIn_want hw (wpIn_value hF hsem ?_ h)
  unfold execOp
  simp only [ho, Array.map_empty, Sem.run_bind, hr, Result.andThen_ok]
  rfl
theorem inStoreA {T m : Nat} (hT : Row T m) (hF : ∀ f, F.fn f) (hw : Region.wanted o (yielded ops a.tmps) = true) (x y : Operand) (ho : o.op = .store T x y) (hsem : o.semAt F.round a.eval = execOp a.eval o) (b off : Nat) (vs : List Value) (hx : a.eval x = .pointer (some ⟨b, off, none⟩)) (hy : a.eval y = aggV vs) (hl : vs.length = m) (h1 : ∀ v ∈ vs, v.oneCell' = true) (hA : w.there b off m)
    (h : wpListIn F n Tryd.prog ops Q rest (a.put o.dst undef) (w.setCells b off vs)) : wpListIn F n Tryd.prog ops Q (o :: rest) a w := by
  obtain ⟨d, g1, g2, g3⟩ := hT
  refine wpListIn_want hw (wpIn_skip hF hsem ?_ h)
  unfold execOp
  have := run_storeVar_mid (P := Tryd.prog) w b off T vs.toArray (by simpa [hl] using hA) (by simpa [hl] using g3) (all_oneCell_toArray h1)
  have hy' : a.eval y = .agg vs.toArray := hy
  simp only [ho, hx, hy', Instr.storeAt, Instr.sureAddr, Sem.run_bind, Sem.run_pure, Result.andThen_ok, this]
end
/-- A block of cells stays where another kind of block turns. -/
theorem cells_kept {W W' : World} {row : Option Nat} {k : Nat} {cs : Array Value} {t : TypeId} {p : Nat × Nat} (h : W.heap[k]? = some (.cells cs t p)) (hg : W.grownBy W' row) (hr : ∀ r, row = some r → ∃ o : Obj, W.heap[r]? = some o ∧ o.isCells = false) : W'.heap[k]? = some (.cells cs t p) := by
  rw [hg.block k (lt_of_block h) ?_]
  · exact h
  · intro e
    obtain ⟨o, ho, hc⟩ := hr k e.symm
    rw [h] at ho
    cases ho
    simp [Obj.isCells] at hc
theorem kept_kept {w W W' : World} {row : Option Nat} {B : Nat} (h : Kept [] w W) (hg : W.grownBy W' row) (hB : w.heap.size ≤ B) (hr : ∀ r, row = some r → B ≤ r) : Kept [] w W' :=
  ⟨hg.os.trans h.os, hg.tape.trans h.tape, hg.output.trans h.output, Nat.le_trans h.size hg.size, fun k hk hx => (hg.block k (Nat.lt_of_lt_of_le hk h.size) (fun e => by have := hr k e.symm; omega)).trans (h.block k hk hx)⟩


end Go.Proofs.YtnflcajidgbbbaaDoor
