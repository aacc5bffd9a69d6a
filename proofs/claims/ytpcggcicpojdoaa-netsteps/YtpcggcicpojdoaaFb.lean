/-
  A range over All: the round is told what it gets.
-/
import Derived.Test.YtpcggcicpojdoaaFa
import Derived.RangeFuncNested
namespace Go.Proofs.Ytpcggcicpojdoaa
open Go.RowKit Go.Shelf

/-- A range over All's letters. -/
theorem wp_rangeA (b mb : Nat) (v : Value) (N : Nn) (p1 p2 : Nat) {gv : Operand} {ps : Array Tmp} {assign body : Code} {Q : Exit → Act → World → Prop} {a : Act} {w : World}
    (hg : a.eval gv = .func (.func 56) #[] #[P0 p1, P0 p2]) (hps : ps.size = 1) (hN : Nt w b mb v N) (h1 : Blk w p1 23 [P0 b]) (h2 : Blk w p2 82 [.func (.func 53) #[] #[]])
    (I : List Lx → World → Prop) (Ix : Code → List Lx → World → Prop) (hI : OwnFrom w.heap.size I) (hIx : ∀ c, OwnFrom w.heap.size (Ix c)) (h0 : I [] w)
    (Fr : List Lx → Lx → Act → World → Prop) (hFr : ∀ pre x a', OwnFrom w.heap.size (fun (_ : Unit) W => Fr pre x a' W))
    (hassign : ∀ (l : Nat) (pre : List Lx) (x : Lx) (W : World) (K : Act → World → Prop), I pre W → Ey N.L w.heap.size pre x W → (∀ a' W', Kept [] W W' → Fr pre x a' W' → K a' W') →
      assign.wpIn (Fence.wide.inRound l) 1 Try.prog (Exit.then K (fun _ _ _ => False)) { tmps := (ps.zip (Lx.vals N.L x)).foldl (fun t (p, v) => t.setIfInBounds p v) a.tmps, defers := [] } W)
    (hbody : ∀ (l : Nat) (pre : List Lx) (x : Lx) (a' : Act) (W : World), Fr pre x a' W → body.wpIn (Fence.wide.inRound l) 1 Try.prog (ownPostG w.heap.size (KeptS x) I Ix (pre ++ [x]) W) a' W)
    (hdone : ∀ (D : Nat) (xs : List Lx) (W : World), w.heap.size ≤ D → Lx.done N.L xs → I xs W → W.heap[D]? = some (.deferred (some [])) → Q .normal { a with defers := { target := .collected D, args := #[] } :: a.defers } W)
    (hstop : ∀ (D : Nat) (c : Code) (pre : List Lx) (W : World), w.heap.size ≤ D → Lx.part N.L pre → Ix c pre W → W.heap[D]? = some (.deferred (some [])) → c.wpIn Fence.wide 3 Try.prog Q { a with defers := { target := .collected D, args := #[] } :: a.defers } W) :
    (Code.rangeFunc gv ps assign body).wpIn Fence.wide 3 Try.prog Q a w := by
  refine wpIn_rangeFunc ?_
  intro fn hfn
  obtain ⟨bk, hbk⟩ : ∃ bk : LoopState → Option Code → Loop, bk = fun st pe => { state := st, pending := pe, fn := fn, tmps := a.tmps, params := ps, assign := assign, body := body, defers := w.heap.size } := ⟨_, rfl⟩
  obtain ⟨V, hV⟩ : ∃ V, (w.alloc (.deferred (some []))).alloc (.loop (bk .ready none)) = V := ⟨_, rfl⟩
  have kV : Kept [] w V := by rw [← hV]; exact ((Kept.refl _ _).alloc _).alloc _
  have dV : V.heap[w.heap.size]? = some (.deferred (some [])) := by rw [← hV]; exact heap_alloc_old (heap_alloc_new w _)
  have lV : V.heap[w.heap.size + 1]? = some (.loop (bk .ready none)) := by
    rw [← hV]
    have e : (w.alloc (.deferred (some []))).heap.size = w.heap.size + 1 := World.size_alloc _ _
    rw [← e]
    exact heap_alloc_new _ _
  refine ⟨w.heap.size + 1, [{ target := .collected w.heap.size, args := #[] }], V, { target := .fn (.func 56) #[P0 p1, P0 p2], args := #[.func (.yield (w.heap.size + 1)) #[] #[]] }, V, 56, #[.func (.yield (w.heap.size + 1)) #[] #[], P0 p1, P0 p2], V, ?_, ?_, fun _ _ => trivial, ?_, fun _ => by omega, ?_⟩
  · rw [← hV, hbk]
    exact run_enterLoop_outer fn a.tmps ps assign body
  · simp only [resolve, hg]
    simp [go_sem]
  · simp [invoke, go_sem]
  -- what the iterator keeps for us: the invariant, and the book as it stands
  refine (thoseA_in 2 (by omega) (w.heap.size + 1) p1 p2 b mb v N
    (fun pre W => I pre W ∧ W.heap[w.heap.size + 1]? = some (.loop (bk .ready none)) ∧ W.heap[w.heap.size]? = some (.deferred (some [])))
    (fun pre W => ∃ c, Ix c pre W ∧ W.heap[w.heap.size + 1]? = some (.loop (bk .done (some c))) ∧ W.heap[w.heap.size]? = some (.deferred (some [])))
    V (hN.kept0 kV) (h1.kept kV (by simp)) (h2.kept kV (by simp)) ?_ ?_ ⟨?_, lV, dV⟩).mono ?_
  · rintro s A B ⟨g1, g2, g3⟩ hg
    have hk : Kept [] A B := Kept.of_grown hg (fun k e => by cases e)
    exact ⟨hI s A B none g1 hg (fun r e => by cases e), hk.heap g2 (by simp), hk.heap g3 (by simp)⟩
  · rintro pre x W ⟨g1, g2, g3⟩ hE
    have hE' : Ey N.L w.heap.size pre x W := ⟨hE.i, hE.pre, by obtain ⟨l, e1, e2, e3, e4⟩ := hE.l; exact ⟨l, e1, e2, e3, fun j hj => by have h8 := e4 j hj; have h9 := kV.size; omega⟩⟩
    have hy := run_yield (P := Try.prog) (args := Lx.vals N.L x) g2 (by rw [hbk]; show 1 = ps.size; exact hps.symm)
    rw [hbk] at hy
    refine ⟨fn, _, assign, body, hy, roundIn_of_wpIn hfn (hassign _ pre x W _ g1 hE' fun a' W' hk hF => ?_)⟩
    have l' := hk.heap g2 (by simp)
    have d' := hk.heap g3 (by simp)
    refine ⟨_, run_beginRound l' (by rw [hbk]), ?_⟩
    have l2 : (W'.putObj (w.heap.size + 1) (.loop { bk .ready none with state := .busy })).heap[w.heap.size + 1]? = some (.loop { bk .ready none with state := .busy }) := World.putObj_heap_same (lt_of_block l')
    have d2 : (W'.putObj (w.heap.size + 1) (.loop { bk .ready none with state := .busy })).heap[w.heap.size]? = some (.deferred (some [])) := (World.putObj_heap_other (by omega)).trans d'
    have s2 : KeptS x W (W'.putObj (w.heap.size + 1) (.loop { bk .ready none with state := .busy })) := (KeptS.of_kept hk).trans (KeptS.putObj _ l' rfl)
    refine wpIn_mono (hbody _ pre x a' _ ((hFr pre x a').putObj (s := ()) _ hF (by omega) l' rfl)) ?_
    -- how a round ends
    have ends : ∀ (jump : Option Code) (W3 : World), KeepsFrom w.heap.size (W'.putObj (w.heap.size + 1) (.loop { bk .ready none with state := .busy })) W3 → ∃ W4, (Instr.endRound (w.heap.size + 1) jump).run Try.prog W3 = .ok (.bool jump.isNone) W4 ∧ W4 = W3.putObj (w.heap.size + 1) (.loop (bk (if jump.isNone then .ready else .done) jump)) ∧ (∃ o : Obj, W3.heap[w.heap.size + 1]? = some o ∧ o.isCells = false) ∧ W4.heap[w.heap.size + 1]? = some (.loop (bk (if jump.isNone then .ready else .done) jump)) ∧ W4.heap[w.heap.size]? = some (.deferred (some [])) := by
      intro jump W3 hk3
      have l3 := hk3.same _ _ (by omega) l2 rfl
      have d3 := hk3.same _ _ (Nat.le_refl _) d2 rfl
      have hr := run_endRound (P := Try.prog) jump l3
      refine ⟨_, hr, by rw [hbk], ⟨_, l3, rfl⟩, ?_, (World.putObj_heap_other (by omega)).trans d3⟩
      rw [World.putObj_heap_same (lt_of_block l3), hbk]
    intro e a3 W3 hp
    cases e with
    | normal =>
      obtain ⟨k3, q3, i3⟩ := hp
      obtain ⟨W4, hr, e4, ⟨o3, l3, c3⟩, l4, d4⟩ := ends none W3 k3
      subst e4
      exact ⟨_, _, hr, .inl ⟨rfl, ⟨hI.putObj _ i3 (by omega) l3 c3, l4, d4⟩, (s2.trans q3).trans (KeptS.putObj _ l3 c3)⟩⟩
    | ret =>
      obtain ⟨k3, i3⟩ := hp
      obtain ⟨W4, hr, e4, ⟨o3, l3, c3⟩, l4, d4⟩ := ends (some .ret) W3 k3
      subst e4
      exact ⟨_, _, hr, .inr ⟨rfl, _, (hIx _).putObj _ i3 (by omega) l3 c3, l4, d4⟩⟩
    | exit id =>
      obtain ⟨k3, i3⟩ := hp
      obtain ⟨W4, hr, e4, ⟨o3, l3, c3⟩, l4, d4⟩ := ends (some (.exit id)) W3 k3
      subst e4
      exact ⟨_, _, hr, .inr ⟨rfl, _, (hIx _).putObj _ i3 (by omega) l3 c3, l4, d4⟩⟩
    | goto t =>
      obtain ⟨k3, i3⟩ := hp
      obtain ⟨W4, hr, e4, ⟨o3, l3, c3⟩, l4, d4⟩ := ends (some (.goto t)) W3 k3
      subst e4
      exact ⟨_, _, hr, .inr ⟨rfl, _, (hIx _).putObj _ i3 (by omega) l3 c3, l4, d4⟩⟩
    | panic ch => exact hp.elim
    | outgrown => exact hp.elim
  · rw [← hV]
    exact hI.alloc _ (hI.alloc _ h0)
  · rintro e W2 ⟨⟨u, rfl⟩, h⟩
    rcases h with ⟨xs, hS, i2, l2, d2⟩ | ⟨pre, hSp, c, i2, l2, d2⟩
    · have hr := run_endLoop (P := Try.prog) l2 (by rw [hbk]; simp)
      rw [hbk] at hr
      exact ⟨none, _, hr, hdone _ xs _ (Nat.le_refl _) hS (hI.putObj _ i2 (by omega) l2 rfl) ((World.putObj_heap_other (by omega)).trans d2)⟩
    · have hr := run_endLoop (P := Try.prog) l2 (by rw [hbk]; simp)
      rw [hbk] at hr
      exact ⟨some c, _, hr, hstop _ c pre _ (Nat.le_refl _) hSp ((hIx c).putObj _ i2 (by omega) l2 rfl) ((World.putObj_heap_other (by omega)).trans d2)⟩

end Go.Proofs.Ytpcggcicpojdoaa
