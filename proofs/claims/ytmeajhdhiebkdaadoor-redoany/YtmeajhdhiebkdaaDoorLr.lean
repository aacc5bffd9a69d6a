/-
  Laws for ranging over a function: blocks that stay, operations inside a fence.
-/
import Derived.Test.YtmeajhdhiebkdaaDoorLg
import Derived.RangeFuncNested
import Derived.RangeFuncBound
import Derived.RangeFuncCalls
import Derived.RangeFuncLeaves
import Derived.Shelf.Abstract
import Derived.Shelf.RegionOpen
import Derived.OwnWalkIn
import Derived.TacticsInMore
import Derived.LoopNIn
import Derived.LoopIn
namespace Go.Proofs.YtmeajhdhiebkdaaDoor
set_option maxRecDepth 100000
open Go.RowKit Go.Shelf
attribute [local go_sem] Oper.semAt_some

/-- What is no record and no row of records stays. -/
structure KeptJ (A B : World) : Prop where
  size : A.heap.size ≤ B.heap.size
  block : ∀ (k : Nat) (cs : Array Value) (T : Nat) (p : Nat × Nat), T ≠ 37 → T ≠ 45 → A.heap[k]? = some (Obj.cells cs T p) → B.heap[k]? = some (Obj.cells cs T p)
theorem KeptJ.trans {A B C : World} (h : KeptJ A B) (k : KeptJ B C) : KeptJ A C := ⟨Nat.le_trans h.size k.size, fun i cs T p hT hU hi => k.block i cs T p hT hU (h.block i cs T p hT hU hi)⟩
theorem KeptJ.refl (A : World) : KeptJ A A := ⟨Nat.le_refl _, fun _ _ _ _ _ _ h => h⟩
theorem KeptJ.putObj {W : World} {l : Nat} {o o' : Obj} (h : W.heap[l]? = some o) (hc : o.isCells = false) : KeptJ W (W.putObj l o') := by
  refine ⟨by simp, fun k cs T p _ _ hk => ?_⟩
  by_cases e : k = l
  · subst e; rw [h] at hk; cases hk; simp [Obj.isCells] at hc
  · rw [World.putObj_heap_other e]; exact hk
theorem KeptJ.of_kept {A B : World} (h : Kept [] A B) : KeptJ A B := ⟨h.size, fun k cs T p _ _ hk => by rw [h.block k (lt_of_block hk) (by simp)]; exact hk⟩
theorem KeptJ.blk {A B : World} (h : KeptJ A B) {k T : Nat} {vs : List Value} (hB : Blk A k T vs) (h1 : T ≠ 37) (h2 : T ≠ 45) : Blk B k T vs := h.block k _ T _ h1 h2 hB
theorem KeptJ.dv {A B : World} (h : KeptJ A B) {b g : Nat} {D : Dv.Dev} (hD : Dv.Dv A b g D) : Dv.Dv B b g D := by
  obtain ⟨cap, h1, ex, h2, h3⟩ := hD.lay
  exact ⟨hD.ok, hD.ne, cap, h.block b _ _ _ (by decide) (by decide) h1, ex, h.block g _ _ _ (by decide) (by decide) h2, h3⟩
theorem KeptJ.pl {A B : World} (h : KeptJ A B) {c1 c2 : Nat} {J : Ar.Job} {nd : Int} (hP : Pl A c1 c2 J nd) : Pl B c1 c2 J nd := ⟨h.blk hP.j (by decide) (by decide), h.blk hP.n (by decide) (by decide)⟩
theorem grown_of_kept {w w' : World} (h : Kept [] w w') : w.grownBy w' none := ⟨h.os, h.tape, h.output, h.size, fun k hk _ => h.block k hk (by simp)⟩
theorem wpIn_value {F : Fence} {n : Nat} {o : Oper} {a : Act} {w w' : World} {v : Value} {K : Act → World → Prop} {Q : Exit → Act → World → Prop} (hF : ∀ f, F.fn f) (hsem : o.semAt F.round a.eval = execOp a.eval o) (h : (execOp a.eval o).run Tryd.prog w = .ok (.value v) w') (hk : K (a.put o.dst v) w') : o.wpIn F n Tryd.prog a w K Q := by
  refine ⟨fun f _ => hF f, ?_⟩
  rw [hsem, h]
  exact hk
theorem wpIn_skip {F : Fence} {n : Nat} {o : Oper} {a : Act} {w w' : World} {K : Act → World → Prop} {Q : Exit → Act → World → Prop} (hF : ∀ f, F.fn f) (hsem : o.semAt F.round a.eval = execOp a.eval o) (h : (execOp a.eval o).run Tryd.prog w = .ok .skip w') (hk : K (a.put o.dst undef) w') : o.wpIn F n Tryd.prog a w K Q := by
  refine ⟨fun f _ => hF f, ?_⟩
  rw [hsem, h]
  exact hk
theorem wpListIn_want {F : Fence} {n : Nat} {ops : Array Oper} {Q : Exit → Act → World → Prop} {a : Act} {w : World} {rest : List Oper} {o : Oper} (hw : Region.wanted o (yielded ops a.tmps) = true)
    (h : o.wpIn F n Tryd.prog a w (wpListIn F n Tryd.prog ops Q rest) Q) : wpListIn F n Tryd.prog ops Q (o :: rest) a w := by
  simp only [wpListIn, hw, if_true]; exact h


section
variable {F : Fence} {n : Nat} {ops : Array Oper} {rest : List Oper} {o o1 o2 : Oper} {a : Act} {w : World} {Q : Exit → Act → World → Prop}
theorem inLoadA {T m : Nat} (hT : Row T m) (hF : ∀ f, F.fn f) (hw : Region.wanted o (yielded ops a.tmps) = true) (x : Operand) (ho : o.op = .load T x) (hsem : o.semAt F.round a.eval = execOp a.eval o) (b off : Nat) (hx : a.eval x = .pointer (some ⟨b, off, none⟩)) (vs : List Value) (hl : vs.length = m) (hA : w.rangeAt b off vs)
    (h : wpListIn F n Tryd.prog ops Q rest (a.put o.dst (aggV vs)) w) : wpListIn F n Tryd.prog ops Q (o :: rest) a w := by
  refine wpListIn_want hw (wpIn_value (v := aggV vs) hF hsem ?_ h)
  obtain ⟨d, h1, h2, h3⟩ := hT
  unfold execOp
  have := run_loadVar_mid (P := Tryd.prog) w b off T vs d hA h1 h2 (by rw [hl]; exact h3)
  simp only [ho, hx, Instr.loadAt, Instr.sureAddr, Sem.run_bind, Sem.run_pure, Result.andThen_ok, this]
  rfl
theorem inNew {T m : Nat} (hT : Row T m) (zv : List Value) (hz : zv.length = m) (hr : ∀ w : World, (Instr.alloc T true (.tuple #[])).run Tryd.prog w = .ok (P0 w.heap.size) (w.alloc (.cells zv.toArray T)))
    (d : Nat) (hd : o1.dst = some d) (hF : ∀ f, F.fn f) (hg1 : o1.guard = none) (ho1 : o1.op = .alloc T) (hs1 : o1.semAt F.round a.eval = execOp a.eval o1) (y : Operand) (hg2 : o2.guard = none) (ho2 : o2.op = .store T (.tmp d) y) (hs2 : ∀ a : Act, o2.semAt F.round a.eval = execOp a.eval o2) (hd2 : o2.dst = none)
    (vs : List Value) (hl : vs.length = m) (h1 : ∀ v ∈ vs, v.oneCell' = true) (hx : (a.put (some d) (P0 w.heap.size)).eval (.tmp d) = P0 w.heap.size) (hy : (a.put (some d) (P0 w.heap.size)).eval y = aggV vs)
    (h : ∀ W b, b = w.heap.size → Blk W b T vs → Kept [] w W → wpListIn F n Tryd.prog ops Q rest (a.put (some d) (P0 b)) W) : wpListIn F n Tryd.prog ops Q (o1 :: o2 :: rest) a w := by
  refine wpListIn_want (by simp [Region.wanted, hg1]) (wpIn_value (v := P0 w.heap.size) (w' := w.alloc (.cells zv.toArray T)) hF hs1 ?_ ?_)
  · unfold execOp
    simp only [ho1, Sem.run_bind, hr, Result.andThen_ok]
    rfl
  · rw [hd]
    have hb : Blk (w.alloc (.cells zv.toArray T)) w.heap.size T zv := Blk.new w T zv
    refine wpListIn_want (by simp [Region.wanted, hg2]) (wpIn_skip (w' := (w.alloc (.cells zv.toArray T)).setCells w.heap.size 0 vs) hF (hs2 _) ?_ ?_)
    · obtain ⟨dd, g1, g2, g3⟩ := hT
      have := run_storeVar_mid (P := Tryd.prog) (w.alloc (.cells zv.toArray T)) w.heap.size 0 T vs.toArray (by simpa [hl] using hb.there (by omega)) (by simpa [hl] using g3) (all_oneCell_toArray h1)
      have hy' : (a.put (some d) (P0 w.heap.size)).eval y = .agg vs.toArray := hy
      unfold execOp
      simp only [ho2, hx, hy', Instr.storeAt, Instr.sureAddr, Sem.run_bind, Sem.run_pure, Result.andThen_ok, this]
    · rw [hd2]
      exact h _ _ rfl (hb.put (by omega)) (((Kept.refl _ _).alloc _).setCells _ _ (by omega))
end

section
variable {l n : Nat} {P : Program} {ops : Array Oper} {Q : Exit → Act → World → Prop}

theorem rowsIn_of_rows {row : String} {args : Array Value} {w : World} {R : Value → World → Prop} (h : Rows P row args w R) : RowsIn (Fence.wide.inRound l) n P row args w R := by
  intro c cs _
  obtain ⟨v, w', hr, hs⟩ := h c cs
  exact ⟨v, w', hr, stepsIn_wide.2 hs⟩

theorem uponIn_of_upon {o : Oper} {a : Act} {K : Act → World → Prop} {r : Result Next} (h : o.upon P a K Q r) : o.uponIn (Fence.wide.inRound l) n P a K Q r := by
  cases r with
  | ok nx w =>
    cases nx <;> first
      | exact h
      | exact ⟨fun h => by simp [Fence.wide] at h, CallsIn.inRound l (callsIn_wide.2 h)⟩
      | exact ⟨fun h => by simp [Fence.wide] at h, rowsIn_of_rows h⟩
      | exact h.elim
  | halt x w => cases x <;> first | exact h | exact h.elim

theorem opIn_of_op {o : Oper} {a : Act} {w : World} {K : Act → World → Prop} (hd : ∀ c, o.op ≠ .defer c) (h : o.wp P a w K Q) : o.wpIn (Fence.wide.inRound l) n P a w K Q := by
  refine ⟨fun f _ => trivial, ?_⟩
  rw [Fence.inRound_round, Oper.semAt_some l _ o hd]
  exact uponIn_of_upon h

/-- No defer statement among them. -/
def noDefer (os : List Oper) : Bool := os.all fun o => match o.op with | .defer _ => false | _ => true
theorem noDefer_spec {os : List Oper} (h : noDefer os = true) : ∀ o ∈ os, ∀ c, o.op ≠ .defer c := by
  intro o ho c e
  have := (List.all_eq_true.1 h) o ho
  rw [e] at this
  simp at this

theorem listIn_of_list (hlo : ¬ LetsOut Q) : ∀ (os : List Oper) (a : Act) (w : World), (∀ o ∈ os, ∀ c, o.op ≠ .defer c) → wpList P ops Q os a w → wpListIn (Fence.wide.inRound l) n P ops Q os a w := by
  intro os
  induction os with
  | nil => intro a w _ h; exact h
  | cons o os ih =>
    intro a w hd h
    unfold wpList at h
    unfold wpListIn
    split
    · rename_i hw
      rw [if_pos hw] at h
      rcases h with h | ⟨_, hl⟩
      · exact opIn_of_op (hd o (List.mem_cons_self ..)) (Oper.wp_mono (fun a w h => ih a w (fun p hp => hd p (List.mem_cons_of_mem _ hp)) h) h)
      · exact absurd hl hlo
    · rename_i hw
      rw [if_neg hw] at h
      exact ⟨fun f _ => trivial, ih _ _ (fun p hp => hd p (List.mem_cons_of_mem _ hp)) h⟩

theorem anyIn_of_any (hlo : ¬ LetsOut Q) (hd : ∀ o ∈ ops, ∀ c, o.op ≠ .defer c) {md : Region.Mode} : ∀ (fuel : Nat) (listed : Array Bool) (a : Act) (w : World), wpAny P md ops Q fuel listed a w → wpAnyIn (Fence.wide.inRound l) n P md ops Q fuel listed a w := by
  intro fuel
  induction fuel with
  | zero => intro listed a w h; exact h
  | succ fuel ih =>
    intro listed a w h
    refine ⟨h.1, fun i hi => ?_⟩
    have := h.2 i hi
    unfold wpOp at this
    unfold wpOpIn
    split
    · rename_i ho
      rw [ho] at this
      exact ih _ _ _ this
    · rename_i o ho
      rw [ho] at this
      simp only at this
      split
      · rename_i hw
        rw [if_pos hw] at this
        rcases this with this | ⟨_, hl⟩
        · exact opIn_of_op (hd o (Array.mem_of_getElem? ho)) (Oper.wp_mono (fun a w h => ih _ a w h) this)
        · exact absurd hl hlo
      · rename_i hw
        rw [if_neg hw] at this
        exact ⟨fun f _ => trivial, ih _ _ _ this⟩
end

/-- A block of cells stays where another kind of block turns. -/
theorem cells_kept {W W' : World} {row : Option Nat} {k : Nat} {cs : Array Value} {t : TypeId} {p : Nat × Nat} (h : W.heap[k]? = some (.cells cs t p)) (hg : W.grownBy W' row) (hr : ∀ r, row = some r → ∃ o : Obj, W.heap[r]? = some o ∧ o.isCells = false) : W'.heap[k]? = some (.cells cs t p) := by
  rw [hg.block k (lt_of_block h) ?_]
  · exact h
  · intro e
    obtain ⟨o, ho, hc⟩ := hr k e.symm
    rw [h] at ho
    cases ho
    simp [Obj.isCells] at hc
theorem wideF (f : FuncId) : Fence.wide.fn f := trivial
theorem noDeferA {ops : Array Oper} (h : noDefer ops.toList = true) : ∀ o ∈ ops, ∀ c, o.op ≠ .defer c := fun o ho => noDefer_spec h o (by simpa using ho)
theorem cf56 (args : Array Value) (w : World) : (callFunc 56 args).run Tryd.prog w = .ok (.enter 56 args) w := by kernel_rfl

end Go.Proofs.YtmeajhdhiebkdaaDoor
