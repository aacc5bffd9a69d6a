/-
  Laws for ranging over a function, elements told by their number.
-/
import Derived.Test.YtbigongmlpoahaaDi
import Derived.RangeFuncNested
import Derived.RangeFuncBound
import Derived.RangeFuncCalls
import Derived.RangeFuncLeaves
import Derived.Shelf.Abstract
import Derived.Shelf.RegionOpen
import Derived.OwnWalkIn
import Derived.TacticsInMore
import Derived.RangeFuncWrites
import Derived.LoopNIn
import Derived.LoopIn
namespace Go.Proofs.Ytbigongmlpoahaa
set_option maxRecDepth 100000
set_option linter.unusedSimpArgs false
open Go.RowKit Go.Shelf
attribute [local go_sem] Oper.semAt_some

theorem wideF (f : FuncId) : Fence.wide.fn f := trivial
theorem kept_kept {w W W' : World} {row : Option Nat} {B : Nat} (h : Kept [] w W) (hg : W.grownBy W' row) (hB : w.heap.size ≤ B) (hr : ∀ r, row = some r → B ≤ r) : Kept [] w W' :=
  h.fresh (X := row.toList) (Kept.of_grown hg (fun k e _ => by rw [e]; simp)) (fun i hi hl => by rw [Option.mem_toList] at hi; have := hr i hi; omega)
theorem wpIn_value {F : Fence} {n : Nat} {o : Oper} {a : Act} {w w' : World} {v : Value} {K : Act → World → Prop} {Q : Exit → Act → World → Prop} (hF : ∀ f, F.fn f) (hsem : o.semAt F.round a.eval = execOp a.eval o) (h : (execOp a.eval o).run Try.prog w = .ok (.value v) w') (hk : K (a.put o.dst v) w') : o.wpIn F n Try.prog a w K Q := by
  refine ⟨fun f _ => hF f, ?_⟩
  rw [hsem, h]
  exact hk
theorem wpIn_skip {F : Fence} {n : Nat} {o : Oper} {a : Act} {w w' : World} {K : Act → World → Prop} {Q : Exit → Act → World → Prop} (hF : ∀ f, F.fn f) (hsem : o.semAt F.round a.eval = execOp a.eval o) (h : (execOp a.eval o).run Try.prog w = .ok .skip w') (hk : K (a.put o.dst undef) w') : o.wpIn F n Try.prog a w K Q := by
  refine ⟨fun f _ => hF f, ?_⟩
  rw [hsem, h]
  exact hk
theorem wpListIn_want {F : Fence} {n : Nat} {ops : Array Oper} {Q : Exit → Act → World → Prop} {a : Act} {w : World} {rest : List Oper} {o : Oper} (hw : Region.wanted o (yielded ops a.tmps) = true)
    (h : o.wpIn F n Try.prog a w (wpListIn F n Try.prog ops Q rest) Q) : wpListIn F n Try.prog ops Q (o :: rest) a w := by
  simp only [wpListIn, hw, if_true]; exact h
theorem Blk.one {w : World} {b T : Nat} {u : Value} (h : Blk w b T [u]) (v : Value) : Blk (w.setCell ⟨b, 0, none⟩ v) b T [v] := h.set v
section
variable {F : Fence} {n : Nat} {ops : Array Oper} {rest : List Oper} {o o1 o2 : Oper} {a : Act} {w : World} {Q : Exit → Act → World → Prop}
theorem inLoadA {T m : Nat} (hT : Row T m) (hF : ∀ f, F.fn f) (hw : Region.wanted o (yielded ops a.tmps) = true) (x : Operand) (ho : o.op = .load T x) (hsem : o.semAt F.round a.eval = execOp a.eval o) (b off : Nat) (hx : a.eval x = .pointer (some ⟨b, off, none⟩)) (vs : List Value) (hl : vs.length = m) (hA : w.rangeAt b off vs)
    (h : wpListIn F n Try.prog ops Q rest (a.put o.dst (aggV vs)) w) : wpListIn F n Try.prog ops Q (o :: rest) a w := by
  refine wpListIn_want hw (wpIn_value (v := aggV vs) hF hsem ?_ h)
  obtain ⟨d, h1, h2, h3⟩ := hT
  unfold execOp
  have := run_loadVar_mid (P := Try.prog) w b off T vs d hA h1 h2 (by rw [hl]; exact h3)
  simp only [ho, hx, Instr.loadAt, Instr.sureAddr, Sem.run_bind, Sem.run_pure, Result.andThen_ok, this]
  rfl
theorem inNew {T m : Nat} (hT : Row T m) (zv : List Value) (hz : zv.length = m) (hr : ∀ w : World, (Instr.alloc T true (.tuple #[])).run Try.prog w = .ok (P0 w.heap.size) (w.alloc (.cells zv.toArray T)))
    (d : Nat) (hd : o1.dst = some d) (hF : ∀ f, F.fn f) (hg1 : o1.guard = none) (ho1 : o1.op = .alloc T) (hs1 : o1.semAt F.round a.eval = execOp a.eval o1) (y : Operand) (hg2 : o2.guard = none) (ho2 : o2.op = .store T (.tmp d) y) (hs2 : ∀ a : Act, o2.semAt F.round a.eval = execOp a.eval o2) (hd2 : o2.dst = none)
    (vs : List Value) (hl : vs.length = m) (h1 : ∀ v ∈ vs, v.oneCell' = true) (hx : (a.put (some d) (P0 w.heap.size)).eval (.tmp d) = P0 w.heap.size) (hy : (a.put (some d) (P0 w.heap.size)).eval y = aggV vs)
    (h : ∀ W b, b = w.heap.size → Blk W b T vs → Kept [] w W → wpListIn F n Try.prog ops Q rest (a.put (some d) (P0 b)) W) : wpListIn F n Try.prog ops Q (o1 :: o2 :: rest) a w := by
  refine wpListIn_want (by simp [Region.wanted, hg1]) (wpIn_value (v := P0 w.heap.size) (w' := w.alloc (.cells zv.toArray T)) hF hs1 ?_ ?_)
  · unfold execOp
    simp only [ho1, Sem.run_bind, hr, Result.andThen_ok]
    rfl
  · rw [hd]
    have hb : Blk (w.alloc (.cells zv.toArray T)) w.heap.size T zv := Blk.new w T zv
    refine wpListIn_want (by simp [Region.wanted, hg2]) (wpIn_skip (w' := (w.alloc (.cells zv.toArray T)).setCells w.heap.size 0 vs) hF (hs2 _) ?_ ?_)
    · obtain ⟨dd, g1, g2, g3⟩ := hT
      have := run_storeVar_mid (P := Try.prog) (w.alloc (.cells zv.toArray T)) w.heap.size 0 T vs.toArray (by simpa [hl] using hb.there (by omega)) (by simpa [hl] using g3) (all_oneCell_toArray h1)
      have hy' : (a.put (some d) (P0 w.heap.size)).eval y = .agg vs.toArray := hy
      unfold execOp
      simp only [ho2, hx, hy', Instr.storeAt, Instr.sureAddr, Sem.run_bind, Sem.run_pure, Result.andThen_ok, this]
    · rw [hd2]
      exact h _ _ rfl (hb.put (by omega)) (((Kept.refl _ _).alloc _).setCells _ _ (by omega))
theorem inVar {T : Nat} (z v : Value) (hr : ∀ w : World, (Instr.alloc T true (.tuple #[])).run Try.prog w = .ok (P0 w.heap.size) (w.alloc (.cells [z].toArray T))) (hst : ∀ (w : World) (b : Nat) (u : Value), Blk w b T [u] → (storeVar T ⟨b, 0, none⟩ v).run Try.prog w = .ok () (w.setCell ⟨b, 0, none⟩ v))
    (d : Nat) (hd : o1.dst = some d) (hF : ∀ f, F.fn f) (hg1 : o1.guard = none) (ho1 : o1.op = .alloc T) (hs1 : o1.semAt F.round a.eval = execOp a.eval o1) (y : Operand) (hg2 : o2.guard = none) (ho2 : o2.op = .store T (.tmp d) y) (hs2 : ∀ a : Act, o2.semAt F.round a.eval = execOp a.eval o2) (hd2 : o2.dst = none)
    (hx : (a.put (some d) (P0 w.heap.size)).eval (.tmp d) = P0 w.heap.size) (hy : (a.put (some d) (P0 w.heap.size)).eval y = v)
    (h : ∀ W b, b = w.heap.size → Blk W b T [v] → Kept [] w W → wpListIn F n Try.prog ops Q rest (a.put (some d) (P0 b)) W) : wpListIn F n Try.prog ops Q (o1 :: o2 :: rest) a w := by
  refine wpListIn_want (by simp [Region.wanted, hg1]) (wpIn_value (v := P0 w.heap.size) (w' := w.alloc (.cells [z].toArray T)) hF hs1 ?_ ?_)
  · unfold execOp
    simp only [ho1, Sem.run_bind, hr, Result.andThen_ok]
    rfl
  · rw [hd]
    have hb : Blk (w.alloc (.cells [z].toArray T)) w.heap.size T [z] := Blk.new w T [z]
    refine wpListIn_want (by simp [Region.wanted, hg2]) (wpIn_skip (w' := (w.alloc (.cells [z].toArray T)).setCell ⟨w.heap.size, 0, none⟩ v) hF (hs2 _) ?_ ?_)
    · unfold execOp
      simp only [ho2, hx, hy, Instr.storeAt, Instr.sureAddr, Sem.run_bind, Sem.run_pure, Result.andThen_ok, hst _ _ _ hb]
    · rw [hd2]
      exact h _ _ rfl (hb.one v) (((Kept.refl _ _).alloc _).setCell (p := ⟨w.heap.size, 0, none⟩) (by simp) _)
theorem inStore1 {T : Nat} (u v : Value) (hst : ∀ (w : World) (b : Nat) (u : Value), Blk w b T [u] → (storeVar T ⟨b, 0, none⟩ v).run Try.prog w = .ok () (w.setCell ⟨b, 0, none⟩ v)) (hF : ∀ f, F.fn f) (hg : o.guard = none) (x y : Operand) (ho : o.op = .store T x y) (hsem : o.semAt F.round a.eval = execOp a.eval o) (hd : o.dst = none)
    (b : Nat) (hx : a.eval x = P0 b) (hy : a.eval y = v) (hb : Blk w b T [u]) (h : ∀ W, Blk W b T [v] → W = w.setCell ⟨b, 0, none⟩ v → wpListIn F n Try.prog ops Q rest a W) : wpListIn F n Try.prog ops Q (o :: rest) a w := by
  refine wpListIn_want (by simp [Region.wanted, hg]) (wpIn_skip (w' := w.setCell ⟨b, 0, none⟩ v) hF hsem ?_ ?_)
  · unfold execOp
    simp only [ho, hx, hy, Instr.storeAt, Instr.sureAddr, Sem.run_bind, Sem.run_pure, Result.andThen_ok, hst _ _ _ hb]
  · rw [hd]
    exact h _ (hb.one v) rfl
end
section
variable {l n : Nat} {P : Program} {ops : Array Oper} {Q : Exit → Act → World → Prop}
theorem rowsIn_of_rows {row : String} {args : Array Value} {w : World} {R : Value → World → Prop} (h : Rows P row args w R) : RowsIn (Fence.wide.inRound l) n P row args w R := by
  intro c cs _
  obtain ⟨v, w', hr, hs⟩ := h c cs
  exact ⟨v, w', hr, stepsIn_wide.2 hs⟩
theorem uponIn_of_upon {o : Oper} {a : Act} {K : Act → World → Prop} {r : Result Next} (h : o.upon P a K Q r) : o.uponIn (Fence.wide.inRound l) n P a K Q r := by
  cases r with
  | ok nx w =>
    cases nx <;> first
      | exact h
      | exact ⟨fun h => by simp [Fence.wide] at h, CallsIn.inRound l (callsIn_wide.2 h)⟩
      | exact ⟨fun h => by simp [Fence.wide] at h, rowsIn_of_rows h⟩
      | exact h.elim
  | halt x w => cases x <;> first | exact h | exact h.elim
theorem opIn_of_op {o : Oper} {a : Act} {w : World} {K : Act → World → Prop} (hd : ∀ c, o.op ≠ .defer c) (h : o.wp P a w K Q) : o.wpIn (Fence.wide.inRound l) n P a w K Q := by
  refine ⟨fun f _ => trivial, ?_⟩
  rw [Fence.inRound_round, Oper.semAt_some l _ o hd]
  exact uponIn_of_upon h
def noDefer (os : List Oper) : Bool := os.all fun o => match o.op with | .defer _ => false | _ => true
theorem noDefer_spec {os : List Oper} (h : noDefer os = true) : ∀ o ∈ os, ∀ c, o.op ≠ .defer c := by
  intro o ho c e
  have := (List.all_eq_true.1 h) o ho
  rw [e] at this
  simp at this
theorem listIn_of_list (hlo : ¬ LetsOut Q) : ∀ (os : List Oper) (a : Act) (w : World), (∀ o ∈ os, ∀ c, o.op ≠ .defer c) → wpList P ops Q os a w → wpListIn (Fence.wide.inRound l) n P ops Q os a w := by
  intro os
  induction os with
  | nil => intro a w _ h; exact h
  | cons o os ih =>
    intro a w hd h
    unfold wpList at h
    unfold wpListIn
    split
    · rename_i hw
      rw [if_pos hw] at h
      rcases h with h | ⟨_, hl⟩
      · exact opIn_of_op (hd o (List.mem_cons_self ..)) (Oper.wp_mono (fun a w h => ih a w (fun p hp => hd p (List.mem_cons_of_mem _ hp)) h) h)
      · exact absurd hl hlo
    · rename_i hw
      rw [if_neg hw] at h
      exact ⟨fun f _ => trivial, ih _ _ (fun p hp => hd p (List.mem_cons_of_mem _ hp)) h⟩
theorem anyIn_of_any (hlo : ¬ LetsOut Q) (hd : ∀ o ∈ ops, ∀ c, o.op ≠ .defer c) {md : Region.Mode} : ∀ (fuel : Nat) (listed : Array Bool) (a : Act) (w : World), wpAny P md ops Q fuel listed a w → wpAnyIn (Fence.wide.inRound l) n P md ops Q fuel listed a w := by
  intro fuel
  induction fuel with
  | zero => intro listed a w h; exact h
  | succ fuel ih =>
    intro listed a w h
    refine ⟨h.1, fun i hi => ?_⟩
    have := h.2 i hi
    unfold wpOp at this
    unfold wpOpIn
    split
    · rename_i ho
      rw [ho] at this
      exact ih _ _ _ this
    · rename_i o ho
      rw [ho] at this
      simp only at this
      split
      · rename_i hw
        rw [if_pos hw] at this
        rcases this with this | ⟨_, hl⟩
        · exact opIn_of_op (hd o (Array.mem_of_getElem? ho)) (Oper.wp_mono (fun a w h => ih _ a w h) this)
        · exact absurd hl hlo
      · rename_i hw
        rw [if_neg hw] at this
        exact ⟨fun f _ => trivial, ih _ _ _ this⟩
end
theorem noDeferA {ops : Array Oper} (h : noDefer ops.toList = true) : ∀ o ∈ ops, ∀ c, o.op ≠ .defer c := fun o ho => noDefer_spec h o (by simpa using ho)

theorem Kept.put1 {A : World} {l : Nat} {o' : Obj} : Kept [l] A (A.putObj l o') := Kept.of_grown (grownBy_putObj' A l o') (fun k e _ => by cases e; simp)
theorem Kept.cut {X Y : List Nat} {A B : World} (h : Kept X A B) (hX : ∀ i ∈ X, i < A.heap.size → i ∈ Y) : Kept Y A B := ⟨h.os, h.tape, h.output, h.size, fun i hi hx => h.block i hi (fun hk => hx (hX i hk hi))⟩
/-- A round's end. -/
def postX (X : List Nat) (I : Nat → World → Prop) (Ix : Code → Nat → World → Prop) (k : Nat) (W : World) (e : Exit) (_ : Act) (W' : World) : Prop := Kept X W W' ∧ match e with
  | .normal => I k W'
  | .ret => Ix .ret k W'
  | .exit id => Ix (.exit id) k W'
  | .goto t => Ix (.goto t) k W'
  | .panic _ => False
  | .outgrown => False
/-- A block that holds neither cells nor a map. -/
def NoD (W : World) (i : Nat) : Prop := (∀ cs T p, W.heap[i]? ≠ some (.cells cs T p)) ∧ ∀ es c, W.heap[i]? ≠ some (.map es c)
theorem noD_loop {W : World} {i : Nat} {o : Loop} (h : W.heap[i]? = some (.loop o)) : NoD W i := ⟨(fun _ _ _ e => by rw [h] at e; cases e), (fun _ _ e => by rw [h] at e; cases e)⟩
theorem noD_mark {W : World} {i : Nat} {o : Option (List Deferred)} (h : W.heap[i]? = some (.deferred o)) : NoD W i := ⟨(fun _ _ _ e => by rw [h] at e; cases e), (fun _ _ e => by rw [h] at e; cases e)⟩
theorem NoD.blk {W : World} {i T : Nat} {us : List Value} (h : NoD W i) (hB : Blk W i T us) : False := h.1 _ _ _ hB
/-- What an iterator does: it hands on N things, the k-th as E says, till it is told to stop; who takes them may turn the blocks X. -/
def ItV (n F : Nat) (cs : Array Value) (N : Nat) (E : Nat → Array Value → World → Prop) (V : World) (l : Nat) (X : List Nat) : Prop := ∀ (J Jx : Nat → World → Prop),
  (∀ k A B Z, J k A → Kept Z A B → (∀ i ∈ Z, V.heap.size ≤ i ∧ NoD A i) → J k B) → (∀ k A B Z, Jx k A → Kept Z A B → (∀ i ∈ Z, V.heap.size ≤ i ∧ NoD A i) → Jx k B) →
  (∀ k x W, k < N → E k x W → J k W → V.heap.size ≤ W.heap.size → YieldAt Fence.wide 1 Try.prog l x W fun e W' => Kept X W W' ∧ ((e = .returned (.bool true) ∧ J (k + 1) W') ∨ (e = .returned (.bool false) ∧ Jx (k + 1) W'))) →
  J 0 V → CallsIn Fence.wide n Try.prog F (#[.func (.yield l) #[] #[]] ++ cs) V fun e W' => (∃ u, e = .returned u) ∧ Kept X V W' ∧ (J N W' ∨ ∃ k, k < N ∧ Jx (k + 1) W')
theorem wp_rangeV (n F : Nat) (cs : Array Value) (N m : Nat) (E : Nat → Array Value → World → Prop) (hE : ∀ k x W, E k x W → x.size = m) (X : List Nat) {gv : Operand} {ps : Array Tmp} {assign body : Code} {Q : Exit → Act → World → Prop} {a : Act} {w : World}
    (hg : a.eval gv = (Value.func (.func F) #[] cs)) (hcf : ∀ (vs : Array Value) (w : World), (callFunc F vs).run Try.prog w = .ok (.enter F vs) w) (hps : ps.size = m) (hX : ∀ k ∈ X, k < w.heap.size)
    (hit : ∀ V, Kept [] w V → w.heap.size + 2 = V.heap.size → ItV n F cs N E V (w.heap.size + 1) ((w.heap.size + 1) :: X))
    (I : Nat → World → Prop) (Ix : Code → Nat → World → Prop) (hI : ∀ k A B Z, I k A → Kept Z A B → (∀ i ∈ Z, w.heap.size ≤ i ∧ NoD A i) → I k B) (hIx : ∀ cd k A B Z, Ix cd k A → Kept Z A B → (∀ i ∈ Z, w.heap.size ≤ i ∧ NoD A i) → Ix cd k B) (h0 : I 0 w)
    (Fr : Nat → Act → World → Prop) (hFr : ∀ k a' A B, Fr k a' A → Kept [w.heap.size + 1] A B → Fr k a' B)
    (hassign : ∀ (l k : Nat) (x : Array Value) (W : World) (K : Act → World → Prop), k < N → E k x W → I k W → w.heap.size + 2 ≤ W.heap.size → (∀ a' W', Kept [] W W' → Fr k a' W' → K a' W') →
      assign.wpIn (Fence.wide.inRound l) 1 Try.prog (Exit.then K (fun _ _ _ => False)) { tmps := (ps.zip x).foldl (fun t (p, v) => t.setIfInBounds p v) a.tmps, defers := [] } W)
    (hbody : ∀ (l k : Nat) (a' : Act) (W : World), k < N → I k W → Fr k a' W → w.heap.size + 2 ≤ W.heap.size → body.wpIn (Fence.wide.inRound l) 1 Try.prog (postX X I Ix (k + 1) W) a' W)
    (hdone : ∀ (W : World), Kept X w W → w.heap.size + 2 ≤ W.heap.size → I N W → W.heap[w.heap.size]? = some (.deferred (some [])) → Q .normal { a with defers := { target := .collected w.heap.size, args := #[] } :: a.defers } W)
    (hstop : ∀ (cd : Code) (k : Nat) (W : World), k < N → Kept X w W → w.heap.size + 2 ≤ W.heap.size → Ix cd (k + 1) W → W.heap[w.heap.size]? = some (.deferred (some [])) → cd.wpIn Fence.wide (n + 1) Try.prog Q { a with defers := { target := .collected w.heap.size, args := #[] } :: a.defers } W) :
    (Code.rangeFunc gv ps assign body).wpIn Fence.wide (n + 1) Try.prog Q a w := by
  refine wpIn_rangeFunc ?_
  intro fn hfn
  obtain ⟨bk, hbk⟩ : ∃ bk : LoopState → Option Code → Loop, bk = fun st pe => { state := st, pending := pe, fn := fn, tmps := a.tmps, params := ps, assign := assign, body := body, defers := w.heap.size } := ⟨_, rfl⟩
  obtain ⟨V, hV⟩ : ∃ V, (w.alloc (.deferred (some []))).alloc (.loop (bk .ready none)) = V := ⟨_, rfl⟩
  have kV : Kept [] w V := by rw [← hV]; exact ((Kept.refl _ _).alloc _).alloc _
  have dV : V.heap[w.heap.size]? = some (.deferred (some [])) := by rw [← hV]; exact heap_alloc_old (heap_alloc_new w _)
  have sV : V.heap.size = w.heap.size + 2 := by rw [← hV, World.size_alloc, World.size_alloc]
  have lV : V.heap[w.heap.size + 1]? = some (.loop (bk .ready none)) := by
    rw [← hV]
    have e : (w.alloc (.deferred (some []))).heap.size = w.heap.size + 1 := World.size_alloc _ _
    rw [← e]
    exact heap_alloc_new _ _
  refine ⟨w.heap.size + 1, [{ target := .collected w.heap.size, args := #[] }], V, { target := .fn (.func F) cs, args := #[.func (.yield (w.heap.size + 1)) #[] #[]] }, V, F, #[.func (.yield (w.heap.size + 1)) #[] #[]] ++ cs, V, ?_, ?_, fun _ _ => trivial, ?_, fun _ => by omega, ?_⟩
  · rw [← hV, hbk]
    exact run_enterLoop_outer fn a.tmps ps assign body
  · simp only [resolve, hg]
    simp [go_sem]
  · simp [invoke, go_sem]
    exact hcf _ _
  have xl : ∀ i ∈ X, i ≠ w.heap.size + 1 ∧ i ≠ w.heap.size := fun i hi => by have := hX i hi; omega
  refine (hit V kV sV.symm (fun k W => I k W ∧ W.heap[w.heap.size + 1]? = some (.loop (bk .ready none)) ∧ W.heap[w.heap.size]? = some (.deferred (some [])))
    (fun k W => ∃ cd, Ix cd k W ∧ W.heap[w.heap.size + 1]? = some (.loop (bk .done (some cd))) ∧ W.heap[w.heap.size]? = some (.deferred (some []))) ?_ ?_ ?_ ⟨?_, lV, dV⟩).mono ?_
  · rintro k A B Z ⟨g1, g2, g3⟩ hk hz
    exact ⟨hI k A B Z g1 hk (fun i hi => ⟨by have := (hz i hi).1; omega, (hz i hi).2⟩), hk.heap g2 (fun e => by have := (hz _ e).1; omega), hk.heap g3 (fun e => by have := (hz _ e).1; omega)⟩
  · rintro k A B Z ⟨cd, g1, g2, g3⟩ hk hz
    exact ⟨cd, hIx cd k A B Z g1 hk (fun i hi => ⟨by have := (hz i hi).1; omega, (hz i hi).2⟩), hk.heap g2 (fun e => by have := (hz _ e).1; omega), hk.heap g3 (fun e => by have := (hz _ e).1; omega)⟩
  · rintro k x W hkN hx ⟨g1, g2, g3⟩ hsz
    have hy := run_yield (P := Try.prog) (args := x) g2 (by rw [hbk]; show x.size = ps.size; rw [hps]; exact hE k x W hx)
    rw [hbk] at hy
    refine ⟨fn, _, assign, body, hy, roundIn_of_wpIn hfn (hassign _ k x W _ hkN hx g1 (by omega) fun a' W' hk hF => ?_)⟩
    have l' := hk.heap g2 (by simp)
    have d' := hk.heap g3 (by simp)
    refine ⟨_, run_beginRound l' (by rw [hbk]), ?_⟩
    obtain ⟨W2, hW2⟩ : ∃ W2, W2 = W'.putObj (w.heap.size + 1) (.loop { bk .ready none with state := .busy }) := ⟨_, rfl⟩
    rw [← hW2]
    have l2 : W2.heap[w.heap.size + 1]? = some (.loop { bk .ready none with state := .busy }) := by rw [hW2]; exact World.putObj_heap_same (lt_of_block l')
    have d2 : W2.heap[w.heap.size]? = some (.deferred (some [])) := by rw [hW2]; exact (World.putObj_heap_other (by omega)).trans d'
    have k2 : Kept [w.heap.size + 1] W' W2 := by rw [hW2]; exact Kept.put1
    have hsz2 : w.heap.size + 2 ≤ W2.heap.size := by have := hk.size; have := k2.size; omega
    have i2 : I k W2 := hI k _ _ _ (hI k _ _ _ g1 hk (by simp)) k2 (fun i hi => by simp at hi; subst hi; exact ⟨by omega, noD_loop l'⟩)
    refine wpIn_mono (hbody _ k a' W2 hkN i2 (hFr k a' _ _ hF k2) hsz2) ?_
    have ends : ∀ (jump : Option Code) (W3 : World), Kept X W2 W3 → ∃ W4, (Instr.endRound (w.heap.size + 1) jump).run Try.prog W3 = .ok (.bool jump.isNone) W4 ∧ Kept [w.heap.size + 1] W3 W4 ∧ Kept ((w.heap.size + 1) :: X) W W4 ∧ W4.heap[w.heap.size + 1]? = some (.loop (bk (if jump.isNone then .ready else .done) jump)) ∧ W4.heap[w.heap.size]? = some (.deferred (some [])) ∧ NoD W3 (w.heap.size + 1) := by
      intro jump W3 hk3
      have l3 := hk3.heap l2 (fun e => (xl _ e).1 rfl)
      have d3 := hk3.heap d2 (fun e => (xl _ e).2 rfl)
      have hr := run_endRound (P := Try.prog) jump l3
      refine ⟨_, hr, Kept.put1, (((hk.mono (by simp)).trans (k2.mono (by simp))).trans (hk3.mono (fun i hi => List.mem_cons_of_mem _ hi))).trans (Kept.put1.mono (by simp)), ?_, (World.putObj_heap_other (by omega)).trans d3, noD_loop l3⟩
      rw [World.putObj_heap_same (lt_of_block l3), hbk]
    intro e a3 W3 hp
    obtain ⟨kp, hp⟩ := hp
    cases e with
    | normal =>
      obtain ⟨W4, hr, e4, e5, l4, d4, nd⟩ := ends none W3 kp
      exact ⟨_, _, hr, e5, .inl ⟨rfl, hI _ _ _ _ hp e4 (fun i hi => by simp at hi; subst hi; exact ⟨by omega, nd⟩), l4, d4⟩⟩
    | ret =>
      obtain ⟨W4, hr, e4, e5, l4, d4, nd⟩ := ends (some .ret) W3 kp
      exact ⟨_, _, hr, e5, .inr ⟨rfl, _, hIx _ _ _ _ _ hp e4 (fun i hi => by simp at hi; subst hi; exact ⟨by omega, nd⟩), l4, d4⟩⟩
    | exit id =>
      obtain ⟨W4, hr, e4, e5, l4, d4, nd⟩ := ends (some (.exit id)) W3 kp
      exact ⟨_, _, hr, e5, .inr ⟨rfl, _, hIx _ _ _ _ _ hp e4 (fun i hi => by simp at hi; subst hi; exact ⟨by omega, nd⟩), l4, d4⟩⟩
    | goto t =>
      obtain ⟨W4, hr, e4, e5, l4, d4, nd⟩ := ends (some (.goto t)) W3 kp
      exact ⟨_, _, hr, e5, .inr ⟨rfl, _, hIx _ _ _ _ _ hp e4 (fun i hi => by simp at hi; subst hi; exact ⟨by omega, nd⟩), l4, d4⟩⟩
    | panic ch => exact hp.elim
    | outgrown => exact hp.elim
  · exact hI 0 _ _ _ h0 kV (by simp)
  · rintro e W2 ⟨⟨u, rfl⟩, kw, h⟩
    have kX : Kept X w W2 := ((kV.mono (by simp)).trans kw).cut (fun i hi hl => by
      rcases List.mem_cons.1 hi with e | e
      · omega
      · exact e)
    have szW : w.heap.size + 2 ≤ W2.heap.size := by have := kw.size; omega
    have fin : ∀ (o' : Obj), Kept X w (W2.putObj (w.heap.size + 1) o') ∧ w.heap.size + 2 ≤ (W2.putObj (w.heap.size + 1) o').heap.size := fun o' => by
      refine ⟨((kX.mono (Y := (w.heap.size + 1) :: X) (fun i hi => List.mem_cons_of_mem _ hi)).trans (Kept.put1.mono (by simp))).cut (fun i hi hl => ?_), ?_⟩
      · rcases List.mem_cons.1 hi with e | e
        · omega
        · exact e
      · have := (Kept.put1 (A := W2) (l := w.heap.size + 1) (o' := o')).size
        omega
    rcases h with ⟨i2, l2, d2⟩ | ⟨k, hk, cd, i2, l2, d2⟩
    · have hr := run_endLoop (P := Try.prog) l2 (by rw [hbk]; simp)
      rw [hbk] at hr
      exact ⟨none, _, hr, hdone _ (fin _).1 (fin _).2 (hI _ _ _ _ i2 Kept.put1 (fun i hi => by simp at hi; subst hi; exact ⟨by omega, noD_loop l2⟩)) ((World.putObj_heap_other (by omega)).trans d2)⟩
    · have hr := run_endLoop (P := Try.prog) l2 (by rw [hbk]; simp)
      rw [hbk] at hr
      exact ⟨some cd, _, hr, hstop cd k _ hk (fin _).1 (fin _).2 (hIx _ _ _ _ _ i2 Kept.put1 (fun i hi => by simp at hi; subst hi; exact ⟨by omega, noD_loop l2⟩)) ((World.putObj_heap_other (by omega)).trans d2)⟩

/-- A range over what goes over nothing. -/
theorem wp_rangeE (n F : Nat) (cs : Array Value) {gv : Operand} {ps : Array Tmp} {assign body : Code} {Q : Exit → Act → World → Prop} {a : Act} {w : World}
    (hg : a.eval gv = (Value.func (.func F) #[] cs)) (hcf : ∀ (vs : Array Value) (w : World), (callFunc F vs).run Try.prog w = .ok (.enter F vs) w) (hI : ∀ lp V, Kept [] w V → CallsIn Fence.wide n Try.prog F (#[.func (.yield lp) #[] #[]] ++ cs) V fun e W' => (∃ v, e = .returned v) ∧ Kept [] V W')
    (hdone : ∀ (D : Nat) (W : World), w.heap.size ≤ D → Kept [] w W → W.heap[D]? = some (.deferred (some [])) → Q .normal { a with defers := { target := .collected D, args := #[] } :: a.defers } W) :
    (Code.rangeFunc gv ps assign body).wpIn Fence.wide (n + 1) Try.prog Q a w := by
  refine wpIn_rangeFunc ?_
  intro fn hfn
  obtain ⟨bk, hbk⟩ : ∃ bk : LoopState → Option Code → Loop, bk = fun st pe => { state := st, pending := pe, fn := fn, tmps := a.tmps, params := ps, assign := assign, body := body, defers := w.heap.size } := ⟨_, rfl⟩
  obtain ⟨V, hV⟩ : ∃ V, (w.alloc (.deferred (some []))).alloc (.loop (bk .ready none)) = V := ⟨_, rfl⟩
  have kV : Kept [] w V := by rw [← hV]; exact ((Kept.refl _ _).alloc _).alloc _
  have dV : V.heap[w.heap.size]? = some (.deferred (some [])) := by rw [← hV]; exact heap_alloc_old (heap_alloc_new w _)
  have lV : V.heap[w.heap.size + 1]? = some (.loop (bk .ready none)) := by
    rw [← hV]
    have e : (w.alloc (.deferred (some []))).heap.size = w.heap.size + 1 := World.size_alloc _ _
    rw [← e]
    exact heap_alloc_new _ _
  refine ⟨w.heap.size + 1, [{ target := .collected w.heap.size, args := #[] }], V, { target := .fn (.func F) cs, args := #[.func (.yield (w.heap.size + 1)) #[] #[]] }, V, F, #[.func (.yield (w.heap.size + 1)) #[] #[]] ++ cs, V, ?_, ?_, fun _ _ => trivial, ?_, fun _ => by omega, ?_⟩
  · rw [← hV, hbk]
    exact run_enterLoop_outer fn a.tmps ps assign body
  · simp only [resolve, hg]
    simp [go_sem]
  · simp [invoke, go_sem]
    exact hcf _ _
  refine (hI (w.heap.size + 1) V kV).mono ?_
  rintro e W2 ⟨⟨u, rfl⟩, k2⟩
  have l2 := k2.heap lV (by simp)
  have d2 := k2.heap dV (by simp)
  have hr := run_endLoop (P := Try.prog) l2 (by rw [hbk]; simp)
  rw [hbk] at hr
  exact ⟨none, _, hr, hdone _ _ (Nat.le_refl _) (kept_kept (B := w.heap.size) (kV.trans k2) (grownBy_putObj' _ _ _) (Nat.le_refl _) (fun r e => by cases e; omega)) ((World.putObj_heap_other (by omega)).trans d2)⟩
theorem _root_.Go.CallsIn.wide_any {n m : Nat} {P : Program} {f : FuncId} {args : Array Value} {w : World} {R : Ending → World → Prop} (h : CallsIn Fence.wide n P f args w R) : CallsIn Fence.wide m P f args w R := callsIn_wide.2 (callsIn_wide.1 h)
theorem ItV.any {n m F l N : Nat} {cs : Array Value} {E : Nat → Array Value → World → Prop} {V : World} {X : List Nat} (h : ItV n F cs N E V l X) : ItV m F cs N E V l X := fun J Jx h1 h2 h3 h4 => CallsIn.wide_any (h J Jx h1 h2 h3 h4)
theorem o_yield {l lp m k : Nat} {o : Oper} {a : Act} {w : World} {K : Act → World → Prop} {Q : Exit → Act → World → Prop} (t : Nat) (args : Array Operand) (ts : Array TypeId) (ho : o.op = .call { callee := .value (.tmp t), args := args, argTypes := ts }) (hf : a.eval (.tmp t) = .func (.yield lp) #[] #[]) (vs : Array Value) (hv : args.map a.eval = vs)
    {R : Ending → World → Prop} (hy : YieldAt Fence.wide m Try.prog lp vs w R) (hK : ∀ e w', R e w' → ∃ v, e = .returned v ∧ K (a.put o.dst v) w') : o.wpIn (Fence.wide.inRound l) k Try.prog a w K Q := by
  obtain ⟨fn, tmps, assign, body, hr, hR⟩ := hy
  subst hv
  refine ⟨fun f _ => trivial, ?_⟩
  rw [Fence.inRound_round, Oper.semAt_some l _ o (fun c e => by rw [ho] at e; cases e)]
  unfold execOp
  simp only [ho, resolve, hf]
  simp [invoke, go_sem, hr]
  refine ⟨?_, hR.1, fun c cs _ => ?_⟩
  · intro h; simp [Fence.wide] at h
  · obtain ⟨e, w', hre, hs⟩ := hR.2 c cs (room_wide _)
    obtain ⟨v, rfl, hk⟩ := hK e w' hre
    exact ⟨.returned v, w', hk, hs⟩
theorem inYield {l lp m k : Nat} {ops : Array Oper} {rest : List Oper} {o : Oper} {a : Act} {w : World} {Q : Exit → Act → World → Prop} (hw : Region.wanted o (yielded ops a.tmps) = true) (t : Nat) (args : Array Operand) (ts : Array TypeId) (ho : o.op = .call { callee := .value (.tmp t), args := args, argTypes := ts }) (hf : a.eval (.tmp t) = .func (.yield lp) #[] #[]) (vs : Array Value) (hv : args.map a.eval = vs)
    {R : Ending → World → Prop} (hy : YieldAt Fence.wide m Try.prog lp vs w R) (hK : ∀ e w', R e w' → ∃ v, e = .returned v ∧ wpListIn (Fence.wide.inRound l) k Try.prog ops Q rest (a.put o.dst v) w') : wpListIn (Fence.wide.inRound l) k Try.prog ops Q (o :: rest) a w :=
  wpListIn_want hw (o_yield t args ts ho hf vs hv hy hK)

end Go.Proofs.Ytbigongmlpoahaa
