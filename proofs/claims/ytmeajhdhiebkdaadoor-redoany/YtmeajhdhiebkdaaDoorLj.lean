/-
  A range over what is laid: the round is told what it gets.
-/
import Derived.Test.YtmeajhdhiebkdaaDoorLi
import Derived.RangeFuncNested
import Derived.RangeFuncWrites
namespace Go.Proofs.YtmeajhdhiebkdaaDoor
set_option maxRecDepth 100000
open Go.RowKit Go.Shelf

theorem wp_rangeL (p1 p2 p3 p4 b g : Nat) (D : Dv.Dev) (J : Ar.Job) (nd st : Int) (S : List Rc.Rec) (hS : S = laidS D J nd st) {gv : Operand} {ps : Array Tmp} {assign body : Code} {Q : Exit → Act → World → Prop} {a : Act} {w : World}
    (hg : a.eval gv = lvV p1 p2 p3 p4) (hps : ps.size = 1) (hD : Dv.Dv w b g D) (hv : Lv w p1 p2 p3 p4 b J nd st) (hmay : J.may = true) (hnd : 0 ≤ nd ∧ nd < J.n) (hst : 1 ≤ st ∧ st ≤ 2147483647)
    (I : List Rc.Rec → World → Prop) (Ix : Code → List Rc.Rec → World → Prop) (hI : OwnFrom w.heap.size I) (hIx : ∀ c, OwnFrom w.heap.size (Ix c)) (h0 : I [] w)
    (Fr : Nat → Rc.Rec → Act → World → Prop) (hFr : ∀ k x a', OwnFrom w.heap.size (fun (_ : Unit) W => Fr k x a' W))
    (hassign : ∀ (l : Nat) (k : Nat) (x : Rc.Rec) (W : World) (K : Act → World → Prop), I (S.take k) W → S[k]? = some x → (∀ a' W', Kept [] W W' → Fr k x a' W' → K a' W') →
      assign.wpIn (Fence.wide.inRound l) 1 Tryd.prog (Exit.then K (fun _ _ _ => False)) { tmps := (ps.zip #[aggV (Rc.recC x)]).foldl (fun t (p, v) => t.setIfInBounds p v) a.tmps, defers := [] } W)
    (hbody : ∀ (l : Nat) (k : Nat) (x : Rc.Rec) (a' : Act) (W : World), S[k]? = some x → Fr k x a' W → body.wpIn (Fence.wide.inRound l) 1 Tryd.prog (ownPostG w.heap.size KeptJ I Ix (S.take (k + 1)) W) a' W)
    (hdone : ∀ (D : Nat) (W : World), w.heap.size ≤ D → I S W → W.heap[D]? = some (.deferred (some [])) → Q .normal { a with defers := { target := .collected D, args := #[] } :: a.defers } W)
    (hstop : ∀ (D : Nat) (c : Code) (k : Nat) (W : World), w.heap.size ≤ D → k < S.length → Ix c (S.take (k + 1)) W → W.heap[D]? = some (.deferred (some [])) → c.wpIn Fence.wide 3 Tryd.prog Q { a with defers := { target := .collected D, args := #[] } :: a.defers } W) :
    (Code.rangeFunc gv ps assign body).wpIn Fence.wide 3 Tryd.prog Q a w := by
  refine wpIn_rangeFunc ?_
  intro fn hfn
  obtain ⟨bk, hbk⟩ : ∃ bk : LoopState → Option Code → Loop, bk = fun st pe => { state := st, pending := pe, fn := fn, tmps := a.tmps, params := ps, assign := assign, body := body, defers := w.heap.size } := ⟨_, rfl⟩
  obtain ⟨V, hV⟩ : ∃ V, (w.alloc (.deferred (some []))).alloc (.loop (bk .ready none)) = V := ⟨_, rfl⟩
  have kV : Kept [] w V := by rw [← hV]; exact ((Kept.refl _ _).alloc _).alloc _
  have dV : V.heap[w.heap.size]? = some (.deferred (some [])) := by rw [← hV]; exact heap_alloc_old (heap_alloc_new w _)
  have lV : V.heap[w.heap.size + 1]? = some (.loop (bk .ready none)) := by
    rw [← hV]
    have e : (w.alloc (.deferred (some []))).heap.size = w.heap.size + 1 := World.size_alloc _ _
    rw [← e]
    exact heap_alloc_new _ _
  refine ⟨w.heap.size + 1, [{ target := .collected w.heap.size, args := #[] }], V, { target := .fn (.func 91) #[P0 p1, P0 p2, P0 p3, P0 p4], args := #[.func (.yield (w.heap.size + 1)) #[] #[]] }, V, 91, #[.func (.yield (w.heap.size + 1)) #[] #[], P0 p1, P0 p2, P0 p3, P0 p4], V, ?_, ?_, fun _ _ => trivial, ?_, fun _ => by omega, ?_⟩
  · rw [← hV, hbk]
    exact run_enterLoop_outer fn a.tmps ps assign body
  · simp only [resolve, hg, lvV]
    simp [go_sem]
  · simp [invoke, go_sem]
  -- what the iterator keeps for us: the invariant, and the book as it stands
  have hlaid := laid_in 2 (by omega) (w.heap.size + 1) p1 p2 p3 p4 b g D J nd st V (hD.kept kV (by simp) (by simp)) (hv.kept kV) hmay hnd hst
    (fun k W => I (S.take k) W ∧ W.heap[w.heap.size + 1]? = some (.loop (bk .ready none)) ∧ W.heap[w.heap.size]? = some (.deferred (some [])))
    (fun k W => ∃ c, Ix c (S.take k) W ∧ W.heap[w.heap.size + 1]? = some (.loop (bk .done (some c))) ∧ W.heap[w.heap.size]? = some (.deferred (some [])))
  rw [← hS] at hlaid
  refine (hlaid ?_ ?_ ⟨?_, lV, dV⟩).mono ?_
  · rintro s A B ⟨g1, g2, g3⟩ hg
    have hk : Kept [] A B := Kept.of_grown hg (fun k e => by cases e)
    exact ⟨hI _ A B none g1 hg (fun r e => by cases e), hk.heap g2 (by simp), hk.heap g3 (by simp)⟩
  · rintro k x W hx ⟨g1, g2, g3⟩
    have hy := run_yield (P := Tryd.prog) (args := #[aggV (Rc.recC x)]) g2 (by rw [hbk]; show 1 = ps.size; exact hps.symm)
    rw [hbk] at hy
    refine ⟨fn, _, assign, body, hy, roundIn_of_wpIn hfn (hassign _ k x W _ g1 hx fun a' W' hk hF => ?_)⟩
    have l' := hk.heap g2 (by simp)
    have d' := hk.heap g3 (by simp)
    refine ⟨_, run_beginRound l' (by rw [hbk]), ?_⟩
    have l2 : (W'.putObj (w.heap.size + 1) (.loop { bk .ready none with state := .busy })).heap[w.heap.size + 1]? = some (.loop { bk .ready none with state := .busy }) := World.putObj_heap_same (lt_of_block l')
    have d2 : (W'.putObj (w.heap.size + 1) (.loop { bk .ready none with state := .busy })).heap[w.heap.size]? = some (.deferred (some [])) := (World.putObj_heap_other (by omega)).trans d'
    have s2 : KeptJ W (W'.putObj (w.heap.size + 1) (.loop { bk .ready none with state := .busy })) := (KeptJ.of_kept hk).trans (KeptJ.putObj l' rfl)
    refine wpIn_mono (hbody _ k x a' _ hx ((hFr k x a').putObj (s := ()) _ hF (by omega) l' rfl)) ?_
    -- how a round ends
    have ends : ∀ (jump : Option Code) (W3 : World), KeepsFrom w.heap.size (W'.putObj (w.heap.size + 1) (.loop { bk .ready none with state := .busy })) W3 → ∃ W4, (Instr.endRound (w.heap.size + 1) jump).run Tryd.prog W3 = .ok (.bool jump.isNone) W4 ∧ W4 = W3.putObj (w.heap.size + 1) (.loop (bk (if jump.isNone then .ready else .done) jump)) ∧ (∃ o : Obj, W3.heap[w.heap.size + 1]? = some o ∧ o.isCells = false) ∧ W4.heap[w.heap.size + 1]? = some (.loop (bk (if jump.isNone then .ready else .done) jump)) ∧ W4.heap[w.heap.size]? = some (.deferred (some [])) := by
      intro jump W3 hk3
      have l3 := hk3.same _ _ (by omega) l2 rfl
      have d3 := hk3.same _ _ (Nat.le_refl _) d2 rfl
      have hr := run_endRound (P := Tryd.prog) jump l3
      refine ⟨_, hr, by rw [hbk], ⟨_, l3, rfl⟩, ?_, (World.putObj_heap_other (by omega)).trans d3⟩
      rw [World.putObj_heap_same (lt_of_block l3), hbk]
    intro e a3 W3 hp
    cases e with
    | normal =>
      obtain ⟨k3, q3, i3⟩ := hp
      obtain ⟨W4, hr, e4, ⟨o3, l3, c3⟩, l4, d4⟩ := ends none W3 k3
      subst e4
      exact ⟨_, _, hr, .inl ⟨rfl, ⟨hI.putObj _ i3 (by omega) l3 c3, l4, d4⟩, (s2.trans q3).trans (KeptJ.putObj l3 c3)⟩⟩
    | ret =>
      obtain ⟨k3, i3⟩ := hp
      obtain ⟨W4, hr, e4, ⟨o3, l3, c3⟩, l4, d4⟩ := ends (some .ret) W3 k3
      subst e4
      exact ⟨_, _, hr, .inr ⟨rfl, _, (hIx _).putObj _ i3 (by omega) l3 c3, l4, d4⟩⟩
    | exit id =>
      obtain ⟨k3, i3⟩ := hp
      obtain ⟨W4, hr, e4, ⟨o3, l3, c3⟩, l4, d4⟩ := ends (some (.exit id)) W3 k3
      subst e4
      exact ⟨_, _, hr, .inr ⟨rfl, _, (hIx _).putObj _ i3 (by omega) l3 c3, l4, d4⟩⟩
    | goto t =>
      obtain ⟨k3, i3⟩ := hp
      obtain ⟨W4, hr, e4, ⟨o3, l3, c3⟩, l4, d4⟩ := ends (some (.goto t)) W3 k3
      subst e4
      exact ⟨_, _, hr, .inr ⟨rfl, _, (hIx _).putObj _ i3 (by omega) l3 c3, l4, d4⟩⟩
    | panic ch => exact hp.elim
    | outgrown => exact hp.elim
  · rw [← hV]
    exact hI.alloc _ (hI.alloc _ h0)
  · rintro e W2 ⟨⟨u, rfl⟩, h⟩
    rcases h with ⟨i2, l2, d2⟩ | ⟨k, hk, c, i2, l2, d2⟩
    · rw [List.take_length] at i2
      have hr := run_endLoop (P := Tryd.prog) l2 (by rw [hbk]; simp)
      rw [hbk] at hr
      exact ⟨none, _, hr, hdone _ _ (Nat.le_refl _) (hI.putObj _ i2 (by omega) l2 rfl) ((World.putObj_heap_other (by omega)).trans d2)⟩
    · have hr := run_endLoop (P := Tryd.prog) l2 (by rw [hbk]; simp)
      rw [hbk] at hr
      exact ⟨some c, _, hr, hstop _ c k _ (Nat.le_refl _) hk ((hIx c).putObj _ i2 (by omega) l2 rfl) ((World.putObj_heap_other (by omega)).trans d2)⟩

end Go.Proofs.YtmeajhdhiebkdaaDoor
