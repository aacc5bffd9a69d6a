/-
  What ViewLooks' loop leans on.
-/
import Derived.Test.YtbpnnbbinhdoiaaDoorVu
import Derived.Test.YtbpnnbbinhdoiaaDoorVk
namespace Go.Proofs.YtbpnnbbinhdoiaaDoor
set_option maxRecDepth 100000
open Go.RowKit Go.Shelf
attribute [local go_sem] Oper.semAt_some


/-- A row of numbers that stands, older than B. -/
def Hu (w : World) (u : Value) (L : List Int) (B : Nat) (W : World) : Prop := Ints W w.heap.size u L ∧ ∀ k, u.ownBlock = some k → k < B
theorem Hu.kept {w W W' : World} {u : Value} {L : List Int} {B : Nat} (h : Hu w u L B W) (hk : Kept [] W W') : Hu w u L B W' := ⟨h.1.kept hk (by simp), h.2⟩
theorem Hu.wr {w W W' : World} {u : Value} {L : List Int} {B b : Nat} (h : Hu w u L B W) (hk : Kept [b] W W') (hb : B ≤ b) : Hu w u L B W' := ⟨h.1.kept hk (fun k e hm => by simp at hm; have := h.2 k e; omega), h.2⟩
theorem Hu.grown {w W W' : World} {row : Option Nat} {u : Value} {L : List Int} {B : Nat} (h : Hu w u L B W) (hg : W.grownBy W' row) (hr : ∀ r, row = some r → ∃ o : Obj, W.heap[r]? = some o ∧ o.isCells = false) : Hu w u L B W' := ⟨h.1.grown hg hr, h.2⟩
theorem Hu.of {w W : World} {u : Value} {L : List Int} (h : Ints W w.heap.size u L) : Hu w u L W.heap.size W := ⟨h, fun k e => by obtain ⟨_, cs, hc⟩ := h.block k e; exact lt_of_block hc⟩
theorem list_at {v : Vw} (hv : v.ms.length = 8) {k : Nat} {x : Nat × Int} (h : v.list[k]? = some x) : x.1 < 8 ∧ v.mem (x.1 : Int) = (true, x.2) := by
  have hm := List.mem_of_getElem? h
  unfold Vw.list at hm
  split at hm
  · obtain ⟨_, h2, h3⟩ := memF_lt _ _ _ hm
    have h8 : x.1 < 8 := by omega
    refine ⟨h8, ?_⟩
    have h4 := mem_at hv (n := (x.1 : Int)) (by omega) (by omega)
    rw [Nat.sub_zero] at h3
    rw [show ((x.1 : Int)).toNat = x.1 by omega, h3] at h4
    injection h4 with h4
    exact h4.symm
  · cases hm
/-- A range over the members that may be left by a break. -/
theorem wp_rangeB (p : Nat) (v : Vw) (S : List (Nat × Int)) (hS : S = v.list) {gv : Operand} {ps : Array Tmp} {assign body : Code} {Q : Exit → Act → World → Prop} {a : Act} {w : World}
    (hg : a.eval gv = .func (.func 40) #[] #[P0 p]) (hps : ps.size = 2) (hB : Blk w p 26 (vwC v)) (hF : First w) (hv : v.ms.length = 8)
    (I J : List (Nat × Int) → World → Prop) (hI : OwnFrom w.heap.size I) (hJ : OwnFrom w.heap.size J) (h0 : I [] w)
    (Fr : Nat → Nat × Int → Act → World → Prop) (hFr : ∀ k x a', OwnFrom w.heap.size (fun (_ : Unit) W => Fr k x a' W))
    (hassign : ∀ (l : Nat) (k : Nat) (x : Nat × Int) (W : World) (K : Act → World → Prop), I (S.take k) W → S[k]? = some x → (∀ a' W', Kept [] W W' → Fr k x a' W' → K a' W') →
      assign.wpIn (Fence.wide.inRound l) 1 Tryd.prog (Exit.then K (fun _ _ _ => False)) { tmps := (ps.zip #[.int .i64 x.1, .int .i64 x.2]).foldl (fun t (p, v) => t.setIfInBounds p v) a.tmps, defers := [] } W)
    (hbody : ∀ (l : Nat) (k : Nat) (x : Nat × Int) (a' : Act) (W : World), S[k]? = some x → Fr k x a' W → body.wpIn (Fence.wide.inRound l) 1 Tryd.prog (ownPostG w.heap.size KeptJ I (fun c pre W => c = .exit 2 ∧ J pre W) (S.take (k + 1)) W) a' W)
    (hend : ∀ (D : Nat) (pre : List (Nat × Int)) (W : World), w.heap.size ≤ D → ((pre = S ∧ I pre W) ∨ (pre.length ≤ S.length ∧ J pre W)) → W.heap[D]? = some (.deferred (some [])) → Q .normal { a with defers := { target := .collected D, args := #[] } :: a.defers } W)
    (hE : ∀ a W, Q .normal a W → (Code.exit 2).wpIn Fence.wide 3 Tryd.prog Q a W) :
    (Code.rangeFunc gv ps assign body).wpIn Fence.wide 3 Tryd.prog Q a w := by
  refine wp_rangeM p v S hS hg hps hB hF hv I (fun c pre W => c = .exit 2 ∧ J pre W) hI ?_ h0 Fr hFr hassign hbody ?_ ?_
  · intro c s A B row hs hg' hr
    exact ⟨hs.1, hJ s A B row hs.2 hg' hr⟩
  · intro D W hD hi hK
    exact hend D S W hD (.inl ⟨rfl, hi⟩) hK
  · rintro D c k W hD hk ⟨rfl, hj⟩ hK
    exact hE _ _ (hend D (S.take (k + 1)) W hD (.inr ⟨by rw [List.length_take]; omega, hj⟩) hK)
/-- How the law leaves: both marks are taken. -/
theorem all_leaves {w W : World} {D2 D br : Nat} {tmps : Array Value} (h6 : tmps[6]?.getD undef = P0 br) (hb : Blk W br 4 [.bool true]) (hk : Kept [] w W) (h2 : W.heap[D2]? = some (.deferred (some []))) (h1 : W.heap[D]? = some (.deferred (some []))) (hne : D ≠ D2) (g2 : w.heap.size ≤ D2) (g1 : w.heap.size ≤ D) :
    LeavesInM Fence.wide 3 Tryd.prog Tryd.f5 tmps (fun e w' => e = .returned (.bool true) ∧ Kept [] w w') [{ target := .collected D2, args := #[] }, { target := .collected D, args := #[] }] .returning W := by
  have h1' : (W.putObj D2 (.deferred none)).heap[D]? = some (.deferred (some [])) := by rw [World.putObj_heap_other hne]; exact h1
  have hb1 : Blk (W.putObj D2 (.deferred none)) br 4 [.bool true] := blk_grown hb (grownBy_putObj' W D2 _) (fun r e => by cases e; exact ⟨_, h2, rfl⟩)
  have hb2 : Blk ((W.putObj D2 (.deferred none)).putObj D (.deferred none)) br 4 [.bool true] := blk_grown hb1 (grownBy_putObj' _ D _) (fun r e => by cases e; exact ⟨_, h1', rfl⟩)
  have k1 : Kept [] w (W.putObj D2 (.deferred none)) := kept_kept (B := w.heap.size) hk (grownBy_putObj' _ D2 (.deferred none)) (Nat.le_refl _) (fun r e => by cases e; exact g2)
  have k2 : Kept [] w ((W.putObj D2 (.deferred none)).putObj D (.deferred none)) := kept_kept (B := w.heap.size) k1 (grownBy_putObj' _ D (.deferred none)) (Nat.le_refl _) (fun r e => by cases e; exact g1)
  refine ⟨by simp, .inl ⟨_, _, rfl, run_takeDeferred h2, ?_⟩⟩
  refine ⟨by simp, .inl ⟨_, _, rfl, run_takeDeferred h1', ?_⟩⟩
  exact ⟨_, res5 _ _ _ _ h6 hb2, rfl, k2⟩
/-- A mark that lies there. -/
def Mk (w W : World) (D : Nat) : Prop := w.heap.size ≤ D ∧ W.heap[D]? = some (.deferred (some []))
theorem Mk.kept {w W W' : World} {D : Nat} (h : Mk w W D) (hk : Kept [] W W') : Mk w W' D := ⟨h.1, hk.heap h.2 (by simp)⟩
theorem Mk.wr {w W W' : World} {D b T : Nat} {us : List Value} (h : Mk w W D) (hk : Kept [b] W W') (hb : Blk W b T us) : Mk w W' D := ⟨h.1, hk.heap h.2 (by
  simp only [List.mem_singleton]
  intro e
  subst e
  have := h.2
  unfold Blk at hb
  rw [hb] at this
  cases this)⟩
theorem Mk.grown {w W W' : World} {row : Option Nat} {D B : Nat} (h : Mk w W D) (hD : D < B) (hg : W.grownBy W' row) (hr : ∀ r, row = some r → B ≤ r) : Mk w W' D := ⟨h.1, by
  rw [hg.block D (lt_of_block h.2) (fun e => by have := hr D e.symm; omega)]
  exact h.2⟩
theorem Mk.lt {w W : World} {D : Nat} (h : Mk w W D) : D < W.heap.size := lt_of_block h.2

end Go.Proofs.YtbpnnbbinhdoiaaDoor
