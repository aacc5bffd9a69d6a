/-
  stands: what stays; one range over All.
-/
import Derived.Test.YtgnafbohikbpfaaTd
namespace Go.Proofs.Ytgnafbohikbpfaa
set_option maxRecDepth 100000
set_option linter.unusedSimpArgs false
open Go.RowKit Go.Shelf
attribute [local go_sem] Oper.semAt_some


/-- What stays through stands; B bounds the blocks that it speaks of. -/
structure Sv (w0 w W : World) (B b mb c b5 b6 bw bt : Nat) (P : Po) (leave : Int) (wv : Value) (turn : Int) (Ds : List Nat) : Prop where
  on : On w0 W b mb P
  hc : Blk W c 23 [P0 b]
  l5 : Blk W b5 3 [.int .i64 leave]
  o6 : Blk W b6 4 [.bool false]
  hw : Blk W bw 78 [wv]
  row : Fs W wv (allP P 16)
  ht : Blk W bt 3 [.int .i64 turn]
  kp : Kept [] w W
  lt : b < B ∧ mb < B ∧ c < B ∧ b5 < B ∧ b6 < B ∧ bw < B ∧ bt < B
  ge : w.heap.size ≤ B ∧ w.heap.size ≤ b6
  own : ∀ k, wv.ownBlock = some k → k < B
  d : ∀ D ∈ Ds, D < B ∧ w.heap.size ≤ D ∧ W.heap[D]? = some (.deferred (some []))
variable {w0 w W W' : World} {B b mb c b5 b6 bw bt bn : Nat} {P : Po} {leave turn : Int} {wv : Value} {Ds Z : List Nat}
theorem Sv.keep (h : Sv w0 w W B b mb c b5 b6 bw bt P leave wv turn Ds) (hk : Kept Z W W') (hz : ∀ i ∈ Z, B ≤ i) : Sv w0 w W' B b mb c b5 b6 bw bt P leave wv turn Ds := by
  have hl := h.lt
  have ne : ∀ j, j < B → j ∉ Z := fun j hj e => by have := hz j e; omega
  have hb0 := h.on.b0
  exact ⟨h.on.step hk (ne _ hl.1) (ne _ hl.2.1) (fun k hk2 => by have := hz k hk2; omega), h.hc.kept hk (ne _ hl.2.2.1), h.l5.kept hk (ne _ hl.2.2.2.1), h.o6.kept hk (ne _ hl.2.2.2.2.1), h.hw.kept hk (ne _ hl.2.2.2.2.2.1),
    h.row.kept hk (fun k e => ne _ (h.own k e)), h.ht.kept hk (ne _ hl.2.2.2.2.2.2), h.kp.fresh hk (fun i hi hlt => by have := hz i hi; have := h.ge.1; omega), hl, h.ge, h.own, fun D hD => ⟨(h.d D hD).1, (h.d D hD).2.1, hk.heap (h.d D hD).2.2 (ne _ (h.d D hD).1)⟩⟩
theorem Sv.step0 (h : Sv w0 w W B b mb c b5 b6 bw bt P leave wv turn Ds) (hk : Kept [] W W') : Sv w0 w W' B b mb c b5 b6 bw bt P leave wv turn Ds := h.keep hk (by simp)
theorem Sv.up {B' : Nat} (h : Sv w0 w W B b mb c b5 b6 bw bt P leave wv turn Ds) (hB : B ≤ B') : Sv w0 w W B' b mb c b5 b6 bw bt P leave wv turn Ds := by
  have hl := h.lt
  exact ⟨h.on, h.hc, h.l5, h.o6, h.hw, h.row, h.ht, h.kp, by omega, by have := h.ge; omega, fun k e => by have := h.own k e; omega, fun D hD => ⟨by have := (h.d D hD).1; omega, (h.d D hD).2⟩⟩
theorem Sv.mark {D : Nat} (h : Sv w0 w W B b mb c b5 b6 bw bt P leave wv turn Ds) (hD : B ≤ D) (hK : W.heap[D]? = some (.deferred (some []))) : Sv w0 w W (D + 1) b mb c b5 b6 bw bt P leave wv turn (D :: Ds) := by
  have h9 := h.up (B' := D + 1) (by omega)
  refine ⟨h9.on, h9.hc, h9.l5, h9.o6, h9.hw, h9.row, h9.ht, h9.kp, h9.lt, h9.ge, h9.own, fun D' h' => ?_⟩
  rcases List.mem_cons.1 h' with e | h'
  · rw [e]; exact ⟨by omega, by have := h.ge; omega, hK⟩
  · exact h9.d D' h'
/-- The turn's variable is another one, or its value. -/
theorem Sv.next {B' bt' : Nat} {turn' : Int} (h : Sv w0 w W B b mb c b5 b6 bw bt P leave wv turn Ds) (hB' : B ≤ B') (hb : bt' < B') (hB : Blk W bt' 3 [.int .i64 turn']) : Sv w0 w W B' b mb c b5 b6 bw bt' P leave wv turn' Ds := by
  have h9 := h.up hB'
  have hl := h9.lt
  exact ⟨h9.on, h9.hc, h9.l5, h9.o6, h9.hw, h9.row, hB, h9.kp, by omega, h9.ge, h9.own, h9.d⟩
/-- The frame at a round's beginning. -/
def ax (t : Array Value) (x : List Value) (bx : Nat) : Act := { tmps := (t.setIfInBounds 73 (aggV x)).setIfInBounds 16 (P0 bx), defers := [] }
/-- One range over All: gone through, or left where it must be. -/
theorem range_turn (id : Nat) (bn : Nat) {gv : Operand} {ps : Array Tmp} {assign body : Code} {Q : Exit → Act → World → Prop} {a : Act} {W0 : World}
    (hg : a.eval gv = fnV 49 c) (hps : ps = #[73]) (hS : Sv w0 w W0 B b mb c b5 b6 bw bt P leave wv turn Ds) (hn0 : Blk W0 bn 3 [.int .i64 0]) (hb : B ≤ bn)
    (hassign : ∀ (l : Nat) (x : List Value) (W : World) (K : Act → World → Prop), x.length = 102 → (∀ v ∈ x, v.oneCell' = true) → (∀ a' W' bx, Kept [] W W' → Blk W' bx 39 x → W.heap.size ≤ bx → a' = ax a.tmps x bx → K a' W') →
      assign.wpIn (Fence.wide.inRound l) 1 Try.prog (Exit.then K (fun _ _ _ => False)) { tmps := a.tmps.setIfInBounds 73 (aggV x), defers := [] } W)
    (hbody : ∀ (l k : Nat) (f : Fr) (bx : Nat) (W : World), (allP P 16)[k]? = some f → Sv w0 w W B b mb c b5 b6 bw bt P leave wv turn Ds → Blk W bn 3 [.int .i64 (k : Int)] → (turn = 0 → ¬ (1 ≤ k ∧ (k : Int) = leave)) → Blk W bx 39 f.C →
      body.wpIn (Fence.wide.inRound l) 1 Try.prog (fun e _ W3 => Kept [bn] W W3 ∧ Blk W3 bn 3 [.int .i64 ((k : Int) + 1)] ∧ ((e = .normal ∧ (turn = 0 → ¬ (k : Int) + 1 = leave)) ∨ (e = .exit id ∧ turn = 0 ∧ (k : Int) + 1 = leave))) (ax a.tmps f.C bx) W)
    (hdone : ∀ (n : Nat) (W : World), Sv w0 w W B b mb c b5 b6 bw bt P leave wv turn Ds → Blk W bn 3 [.int .i64 (n : Int)] → n ≤ (allP P 16).length → (n = (allP P 16).length ∨ (turn = 0 ∧ (n : Int) = leave)) → W.heap[W0.heap.size]? = some (.deferred (some [])) → W0.heap.size + 2 ≤ W.heap.size → Q .normal { a with defers := { target := .collected W0.heap.size, args := #[] } :: a.defers } W)
    (hE : ∀ a W, Q .normal a W → (Code.exit id).wpIn Fence.wide 3 Try.prog Q a W) : (Code.rangeFunc gv ps assign body).wpIn Fence.wide 3 Try.prog Q a W0 := by
  have hbl := hn0.lt
  have hBW : B ≤ W0.heap.size := by omega
  subst hps
  refine wp_rangeX 2 49 c (allC P) [bn] hg cg49 rfl (by simpa using hbl)
    (fun V hk hs => by
      obtain ⟨L, hp⟩ := (hS.step0 hk).on.pg
      exact all49_in 1 (W0.heap.size + 1) [W0.heap.size + 1, bn] (by intro k hk2; simp at hk2; omega) (hS.step0 hk).hc hp)
    (fun k W => Sv w0 w W B b mb c b5 b6 bw bt P leave wv turn Ds ∧ Blk W bn 3 [.int .i64 (k : Int)] ∧ (turn = 0 → ¬ (1 ≤ k ∧ (k : Int) = leave)))
    (fun cd k W => cd = .exit id ∧ turn = 0 ∧ (k : Int) = leave ∧ Sv w0 w W B b mb c b5 b6 bw bt P leave wv turn Ds ∧ Blk W bn 3 [.int .i64 (k : Int)]) ?_ ?_ ⟨hS, hn0, fun _ h => by omega⟩
    (fun k a' W => ∃ f bx, (allP P 16)[k]? = some f ∧ Blk W bx 39 f.C ∧ bx ≠ W0.heap.size + 1 ∧ a' = ax a.tmps f.C bx) ?_ ?_ ?_ ?_ ?_
  · rintro k A B' Z ⟨h1, h2, h3⟩ hk hz
    exact ⟨h1.keep hk (fun i hi => by have := hz i hi; omega), h2.kept hk (fun e => by have := hz _ e; omega), h3⟩
  · rintro cd k A B' Z ⟨h1, h2, h3, h4, h5⟩ hk hz
    exact ⟨h1, h2, h3, h4.keep hk (fun i hi => by have := hz i hi; omega), h5.kept hk (fun e => by have := hz _ e; omega)⟩
  · rintro k a' A B' ⟨f, bx, h1, h2, h3, h4⟩ hk
    exact ⟨f, bx, h1, h2.kept hk (by simpa using h3), h3, h4⟩
  · intro l k x W K hx hI hsz hK
    obtain ⟨f, hf, rfl⟩ : ∃ f, (allP P 16)[k]? = some f ∧ f.C = x := by
      unfold allC at hx
      rw [List.getElem?_map] at hx
      cases hq : (allP P 16)[k]? with
      | none => rw [hq] at hx; cases hx
      | some f => rw [hq] at hx; exact ⟨f, rfl, Option.some.inj hx⟩
    simp only [List.zip_toArray, List.zip_cons_cons, List.zip_nil_right, List.foldl_toArray, List.foldl_cons, List.foldl_nil]
    refine hassign l f.C W K f.len f.one (fun a' W' bx hk hbx hge e => hK a' W' hk ⟨f, bx, hf, hbx, by omega, e⟩)
  · rintro l k x a' W hx ⟨h1, h2, h3⟩ ⟨f, bx, hf, hbx, _, rfl⟩ hsz
    refine wpIn_mono (hbody l k f bx W hf h1 h2 h3 hbx) ?_
    rintro e a3 W3 ⟨hk, hn, h9⟩
    refine ⟨hk, ?_⟩
    have hS3 := h1.keep hk (fun i hi => by simp at hi; omega)
    rcases h9 with ⟨rfl, h9⟩ | ⟨rfl, h9, h8⟩
    · exact ⟨hS3, hn, fun e h => h9 e (by have := h.2; omega)⟩
    · exact ⟨rfl, h9, by omega, hS3, hn⟩
  · intro W hk hsz hI hD
    rw [allC_len] at hI
    exact hdone _ W hI.1 hI.2.1 (Nat.le_refl _) (.inl rfl) hD hsz
  · rintro cd k W hk hkX hsz ⟨rfl, h2, h3, h4, h5⟩ hD
    rw [allC_len] at hk
    exact hE _ _ (hdone (k + 1) W h4 h5 hk (.inr ⟨h2, h3⟩) hD hsz)

end Go.Proofs.Ytgnafbohikbpfaa
