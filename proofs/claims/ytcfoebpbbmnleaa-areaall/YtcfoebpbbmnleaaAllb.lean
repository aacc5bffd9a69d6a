/-
  What stays through the walk of AreaAll.
-/
import Derived.Test.YtcfoebpbbmnleaaAlla
import Derived.Test.YtcfoebpbbmnleaaTblq
namespace Go.Proofs.Ytcfoebpbbmnleaa
open Go.RowKit Go.Shelf
attribute [local go_sem] Oper.semAt_some

/-- What stays through the whole law: the variables that no round writes, and marks that were left. -/
structure AS (w : World) (j : Job) (leave : Int) (bl bw br q : Nat) (ao : Option Addr) (c : Nat) (Ds : List Nat) (W : World) : Prop where
  l : Blk W bl 3 [.int .i64 leave]
  v : Blk W bw 25 [.slice ao j.N c]
  r : Blk W br 4 [.bool false]
  jq : Blk W q 23 (jobC j)
  lst : Lst W j ao
  k : Kept [] w W
  ge : w.heap.size ≤ bl ∧ w.heap.size ≤ bw ∧ w.heap.size ≤ br ∧ w.heap.size ≤ q
  d : ∀ D ∈ Ds, w.heap.size ≤ D ∧ W.heap[D]? = some (.deferred (some []))
theorem AS.kept {w W W' : World} {j : Job} {leave : Int} {bl bw br q : Nat} {ao : Option Addr} {c : Nat} {Ds : List Nat} (h : AS w j leave bl bw br q ao c Ds W) (hk : Kept [] W W') : AS w j leave bl bw br q ao c Ds W' :=
  ⟨h.l.kept hk (by simp), h.v.kept hk (by simp), h.r.kept hk (by simp), h.jq.kept hk (by simp), h.lst.kept hk, h.k.trans hk, h.ge, fun D hD => ⟨(h.d D hD).1, hk.heap (h.d D hD).2 (by simp)⟩⟩
theorem blk_grown {W W' : World} {row : Option Nat} {b T : Nat} {us : List Value} (h : Blk W b T us) (hg : W.grownBy W' row) (hr : ∀ r, row = some r → ∃ o : Obj, W.heap[r]? = some o ∧ o.isCells = false) : Blk W' b T us := cells_kept h hg hr
theorem cell_grown {W W' : World} {row : Option Nat} {a : Addr} {v : Value} (h : W.cell? a = some v) (hg : W.grownBy W' row) (hr : ∀ r, row = some r → ∃ o : Obj, W.heap[r]? = some o ∧ o.isCells = false) : W'.cell? a = some v := by
  have hb := World.block_lt_of_cell? W a h
  rw [World.cell?_of_block (w := W) ?_]
  · exact h
  · refine hg.block _ hb ?_
    intro e
    obtain ⟨o, ho, hc⟩ := hr a.block e.symm
    unfold World.cell? at h
    rw [ho] at h
    cases o <;> simp [Obj.isCells] at hc h
theorem lst_grown {W W' : World} {row : Option Nat} {j : Job} {ao : Option Addr} (h : Lst W j ao) (hg : W.grownBy W' row) (hr : ∀ r, row = some r → ∃ o : Obj, W.heap[r]? = some o ∧ o.isCells = false) : Lst W' j ao := by
  intro k hk
  obtain ⟨g, e, hrg⟩ := h k hk
  exact ⟨g, e, fun i u hu => cell_grown (hrg i u hu) hg hr⟩
theorem AS.grown {w W W' : World} {row : Option Nat} {B : Nat} {j : Job} {leave : Int} {bl bw br q : Nat} {ao : Option Addr} {c : Nat} {Ds : List Nat} (h : AS w j leave bl bw br q ao c Ds W) (hg : W.grownBy W' row) (hB : w.heap.size ≤ B) (hD : ∀ D ∈ Ds, D < B) (hr : ∀ r, row = some r → B ≤ r ∧ ∃ o : Obj, W.heap[r]? = some o ∧ o.isCells = false) : AS w j leave bl bw br q ao c Ds W' := by
  have hr2 := fun r e => (hr r e).2
  refine ⟨blk_grown h.l hg hr2, blk_grown h.v hg hr2, blk_grown h.r hg hr2, blk_grown h.jq hg hr2, lst_grown h.lst hg hr2, kept_kept h.k hg hB (fun r e => (hr r e).1), h.ge, fun D hDm => ⟨(h.d D hDm).1, ?_⟩⟩
  rw [hg.block D (lt_of_block (h.d D hDm).2) ?_]
  · exact (h.d D hDm).2
  · intro e
    have := (hr D e.symm).1
    have := hD D hDm
    omega
theorem AS.set {w W : World} {j : Job} {leave : Int} {bl bw br q : Nat} {ao : Option Addr} {c : Nat} {Ds : List Nat} (h : AS w j leave bl bw br q ao c Ds W) {b T : Nat} {u : Value} (v : Value) (hb : Blk W b T [u]) (hw : w.heap.size ≤ b) (hne : b ≠ bl ∧ b ≠ bw ∧ b ≠ br ∧ b ≠ q) (hlst : ∀ g, ao = some ⟨g, 0, none⟩ → 0 < j.N → b ≠ g) : AS w j leave bl bw br q ao c Ds (W.setCell ⟨b, 0, none⟩ v) := by
  refine ⟨h.l.set_other (by omega) _, h.v.set_other (by omega) _, h.r.set_other (by omega) _, h.jq.set_other (by omega) _, ?_, h.k.setCell (p := ⟨b, 0, none⟩) (by simp; omega) _, h.ge, fun D hD => ⟨(h.d D hD).1, ?_⟩⟩
  · intro k hk
    obtain ⟨g, e, hr⟩ := h.lst k hk
    have := hlst g e (by omega)
    refine ⟨g, e, fun i u' hu => ?_⟩
    rw [World.cell?_of_block (w := W) (Below.heap_setCell _ _ _ _ (by simpa using Ne.symm this))]
    exact hr i u' hu
  · have hne2 : D ≠ b := by
      intro e; subst e
      have := (h.d _ hD).2
      rw [hb] at this; cases this
    rw [Below.heap_setCell _ _ _ _ (by simpa using hne2)]
    exact (h.d D hD).2
theorem AS.mark {w W : World} {j : Job} {leave : Int} {bl bw br q : Nat} {ao : Option Addr} {c D : Nat} {Ds : List Nat} (h : AS w j leave bl bw br q ao c Ds W) (hD : w.heap.size ≤ D) (hK : W.heap[D]? = some (.deferred (some []))) : AS w j leave bl bw br q ao c (D :: Ds) W :=
  ⟨h.l, h.v, h.r, h.jq, h.lst, h.k, h.ge, fun D' h' => by
    rcases List.mem_cons.1 h' with e | h'
    · rw [e]; exact ⟨hD, hK⟩
    · exact h.d D' h'⟩
theorem res4 (w : World) (b : Nat) (v : Bool) (tmps : Array Value) (h4 : tmps[4]?.getD undef = P0 b) (hb : Blk w b 4 [.bool v]) : (results Try.f4 tmps).run Try.prog w = .ok (.bool v) w := by
  have hc := fits_cell hb 0 _ rfl
  simp [results, Try.results4, h4, asAddr, go_sem, hc]
/-- How the law leaves: both marks are taken. -/
theorem all_leaves {w W : World} {D2 D br : Nat} {tmps : Array Value} (h4 : tmps[4]?.getD undef = P0 br) (hb : Blk W br 4 [.bool true]) (hk : Kept [] w W) (h2 : W.heap[D2]? = some (.deferred (some []))) (h1 : W.heap[D]? = some (.deferred (some []))) (hne : D ≠ D2) (g2 : w.heap.size ≤ D2) (g1 : w.heap.size ≤ D) :
    LeavesInM Fence.wide 3 Try.prog Try.f4 tmps (fun e w' => e = .returned (.bool true) ∧ Kept [] w w') [{ target := .collected D2, args := #[] }, { target := .collected D, args := #[] }] .returning W := by
  have h1' : (W.putObj D2 (.deferred none)).heap[D]? = some (.deferred (some [])) := by rw [World.putObj_heap_other hne]; exact h1
  have hb1 : Blk (W.putObj D2 (.deferred none)) br 4 [.bool true] := blk_grown hb (grownBy_putObj' W D2 _) (fun r e => by cases e; exact ⟨_, h2, rfl⟩)
  have hb2 : Blk ((W.putObj D2 (.deferred none)).putObj D (.deferred none)) br 4 [.bool true] := blk_grown hb1 (grownBy_putObj' _ D _) (fun r e => by cases e; exact ⟨_, h1', rfl⟩)
  have k1 : Kept [] w (W.putObj D2 (.deferred none)) := kept_kept (B := w.heap.size) hk (grownBy_putObj' _ D2 (.deferred none)) (Nat.le_refl _) (fun r e => by cases e; exact g2)
  have k2 : Kept [] w ((W.putObj D2 (.deferred none)).putObj D (.deferred none)) := kept_kept (B := w.heap.size) k1 (grownBy_putObj' _ D (.deferred none)) (Nat.le_refl _) (fun r e => by cases e; exact g1)
  refine ⟨by simp, .inl ⟨_, _, rfl, run_takeDeferred h2, ?_⟩⟩
  refine ⟨by simp, .inl ⟨_, _, rfl, run_takeDeferred h1', ?_⟩⟩
  exact ⟨_, res4 _ _ _ _ h4 hb2, rfl, k2⟩
theorem AS.lts {w W : World} {j : Job} {leave : Int} {bl bw br q : Nat} {ao : Option Addr} {c : Nat} {Ds : List Nat} (h : AS w j leave bl bw br q ao c Ds W) : bl < W.heap.size ∧ bw < W.heap.size ∧ br < W.heap.size ∧ q < W.heap.size ∧ (∀ D ∈ Ds, D < W.heap.size) ∧ ∀ g, ao = some ⟨g, 0, none⟩ → 0 < j.N → g < W.heap.size := by
  refine ⟨h.l.lt, h.v.lt, h.r.lt, h.jq.lt, fun D hD => lt_of_block (h.d D hD).2, fun g e hN => ?_⟩
  obtain ⟨g', e', hr⟩ := h.lst 0 hN
  rw [e] at e'
  cases e'
  exact World.block_lt_of_cell? W _ (hr 0 _ rfl)
/-- The round's variables: how many sectors were gone over, which turn it is. -/
structure AV (N : Nat) (leave : Int) (turn : Int) (bn bt : Nat) (pre : List Nat) (W : World) : Prop where
  rng : pre = List.range pre.length
  n : Blk W bn 3 [.int .i64 pre.length]
  t : Blk W bt 3 [.int .i64 turn]
  go : turn = 0 → ¬ (1 ≤ pre.length ∧ (pre.length : Int) = leave)
theorem AV.kept {W W' : World} {N : Nat} {leave turn : Int} {bn bt : Nat} {pre : List Nat} (h : AV N leave turn bn bt pre W) (hk : Kept [] W W') : AV N leave turn bn bt pre W' := ⟨h.rng, h.n.kept hk (by simp), h.t.kept hk (by simp), h.go⟩
theorem AV.grown {W W' : World} {row : Option Nat} {N : Nat} {leave turn : Int} {bn bt : Nat} {pre : List Nat} (h : AV N leave turn bn bt pre W) (hg : W.grownBy W' row) (hr : ∀ r, row = some r → ∃ o : Obj, W.heap[r]? = some o ∧ o.isCells = false) : AV N leave turn bn bt pre W' := ⟨h.rng, blk_grown h.n hg hr, blk_grown h.t hg hr, h.go⟩

theorem own_lt {w : World} {B : Nat} {v : Value} {j : Job} {ao : Option Addr} {c : Nat} (h : w.ownsRow B 37 4 v j.N (j.pre j.N)) : v = .slice ao j.N c → ∀ g, ao = some ⟨g, 0, none⟩ → 0 < j.N → g < w.heap.size := by
  intro hv g hg hN
  rcases h.2 with ⟨h1, h2⟩ | ⟨g', cap, cur, h1, h2, h3, h4⟩
  · omega
  · rw [hv] at h1
    cases h1
    cases hg
    exact lt_of_block h3
section
variable {o : Oper} {a : Act} {w : World} {K : Act → World → Prop} {Q : Exit → Act → World → Prop}
theorem o_load25 (x : Operand) (ho : o.op = .load 25 x) (p : Addr) (v : Value) (hx : a.eval x = .pointer (some p)) (hc : w.cell? p = some v) (h : K (a.put o.dst v) w) : o.wp Try.prog a w K Q := by
  unfold Oper.wp execOp
  simp only [ho, hx]
  simp [go_sem, hc]
  exact h
theorem o_len25 (t : Nat) (ho : o.op = .call { callee := .builtin .len, args := #[.tmp t], argTypes := #[25] }) (ao : Option Addr) (m c : Nat) (hx : a.eval (.tmp t) = .slice ao m c) (h : K (a.put o.dst (.int .i64 m)) w) : o.wp Try.prog a w K Q := by
  have hr : (Builtin.len_ #[25] o.type #[.slice ao m c]).run Try.prog w = .ok (.int .i64 m) w := by simp [Builtin.len_, go_sem]
  have hx' : a.tmps[t]?.getD undef = .slice ao m c := by simpa [Act.eval] using hx
  unfold Oper.wp execOp
  simp only [ho]
  simp [resolve, invoke, builtin, go_sem, hx', hr]
  exact h
theorem o_geq3 (x y : Operand) (ho : o.op = .binOp .geq 3 x y 3) (m n : Int) (hmn : m < n) (hx : a.eval x = .int .i64 m) (hy : a.eval y = .int .i64 n) (h : K (a.put o.dst (.bool false)) w) : o.wp Try.prog a w K Q := by
  have h1 : ¬ (n ≤ m) := by omega
  unfold Oper.wp execOp
  simp only [ho, hx, hy]
  simp [go_sem, h1]
  exact h
theorem o_neqT (x y : Operand) (ho : o.op = .binOp .neq 3 x y 3) (m n : Int) (hmn : ¬ m = n) (hx : a.eval x = .int .i64 m) (hy : a.eval y = .int .i64 n) (h : K (a.put o.dst (.bool true)) w) : o.wp Try.prog a w K Q := by
  have hb : (m != n) = true := by simp [hmn]
  unfold Oper.wp execOp
  simp only [ho, hx, hy]
  simp [go_sem, hb]
  exact h
theorem o_pickTrue (c x : Operand) (ho : o.op = .pick c (.const (.bool true)) x) (hc : a.eval c = .bool true) (h : K (a.put o.dst (.bool true)) w) : o.wp Try.prog a w K Q := by
  unfold Oper.wp execOp
  simp only [ho, hc]
  simp [go_sem]
  exact h
end
theorem keepsFrom_set {B : Nat} {W w3 : World} {b T : Nat} {us : List Value} (hk : Kept [] W w3) (hb : Blk w3 b T us) (v : Value) : KeepsFrom B W (w3.setCell ⟨b, 0, none⟩ v) := by
  refine KeepsOthers.from ⟨Nat.le_trans hk.size (by simp [World.setCell]), fun k o hko hc => ?_⟩ B
  have h1 := hk.heap hko (by simp)
  have hne : k ≠ b := by
    intro e; subst e; rw [hb] at h1; cases h1; simp [Obj.isCells] at hc
  rw [Below.heap_setCell _ _ _ _ (by simpa using hne)]
  exact h1

/-- One range over the iterator: gone through, or left where it must be. -/
theorem range_turn (w : World) (j : Job) (leave : Int) (bl bw br q : Nat) (ao : Option Addr) (c : Nat) (Ds : List Nat) (bn bt : Nat) (turn : Int) {g : Operand} {ps : Array Tmp} {assign body : Code} {Q : Exit → Act → World → Prop} {a : Act} {W0 : World}
    (hg : a.eval g = .func (.func 27) #[] #[P0 q]) (hps : ps.size = 2) (hS : AS w j leave bl bw br q ao c Ds W0) (hDs : ∀ D ∈ Ds, D < W0.heap.size) (hV : AV j.N leave turn bn bt [] W0) (Ax : Nat → Act → World → Prop) (hAx : ∀ x a', OwnFrom W0.heap.size (fun (_ : Unit) W => Ax x a' W))
    (hassign : ∀ (l : Nat) (x : Nat) (W : World) (K : Act → World → Prop), (∀ a' W', Kept [] W W' → Ax x a' W' → K a' W') →
      assign.wpIn (Fence.wide.inRound l) 1 Try.prog (Exit.then K (fun _ _ _ => False)) { tmps := (ps.zip (j.vals x)).foldl (fun t (p, v) => t.setIfInBounds p v) a.tmps, defers := [] } W)
    (hbody : ∀ (l : Nat) (pre : List Nat) (x : Nat) (a' : Act) (W : World), AS w j leave bl bw br q ao c Ds W → AV j.N leave turn bn bt pre W → Ax x a' W → pre.length < j.N →
      body.wpIn (Fence.wide.inRound l) 1 Try.prog (ownPostG W0.heap.size KeptJ (fun pre W => AS w j leave bl bw br q ao c Ds W ∧ AV j.N leave turn bn bt pre W)
        (fun cd pre W => (cd = .exit 2 ∧ turn = 0 ∧ AS w j leave bl bw br q ao c Ds W ∧ Blk W bn 3 [.int .i64 pre.length] ∧ Blk W bt 3 [.int .i64 turn] ∧ (pre.length : Int) = leave) ∨ (cd = .ret ∧ ¬ pre = List.range pre.length)) (pre ++ [x]) W) a' W)
    (hdone : ∀ (D n : Nat) (W : World), W0.heap.size ≤ D → AS w j leave bl bw br q ao c Ds W → Blk W bn 3 [.int .i64 n] → Blk W bt 3 [.int .i64 turn] → n ≤ j.N → (n = j.N ∨ (turn = 0 ∧ (n : Int) = leave)) → W.heap[D]? = some (.deferred (some [])) → Q .normal { a with defers := { target := .collected D, args := #[] } :: a.defers } W)
    (hE : ∀ a W, Q .normal a W → (Code.exit 2).wpIn Fence.wide 3 Try.prog Q a W) : (Code.rangeFunc g ps assign body).wpIn Fence.wide 3 Try.prog Q a W0 := by
  have hB : w.heap.size ≤ W0.heap.size := hS.k.size
  refine wpIn_rangeFunc_ownH rfl (by omega) (gf := 27) (lb := #[P0 q]) hg trivial cf27 (all_stops 2 (by omega) q j _ hS.jq) KeptJ.trans (keptJ_b _) (Below.refl _ _) (fun _ => by rw [hps]; rfl)
    (fun pre W => AS w j leave bl bw br q ao c Ds W ∧ AV j.N leave turn bn bt pre W)
    (fun cd pre W => (cd = .exit 2 ∧ turn = 0 ∧ AS w j leave bl bw br q ao c Ds W ∧ Blk W bn 3 [.int .i64 pre.length] ∧ Blk W bt 3 [.int .i64 turn] ∧ (pre.length : Int) = leave) ∨ (cd = .ret ∧ ¬ pre = List.range pre.length))
    (fun s A B row hs hg' hr => ⟨hs.1.grown hg' hB hDs hr, hs.2.grown hg' (fun r e => (hr r e).2)⟩) ?_ ⟨hS, hV⟩ Ax hAx ?_ ?_ ?_ ?_
  · intro cd s A B row hs hg' hr
    rcases hs with ⟨h1, h2, h3, h4, h5, h6⟩ | h
    · exact .inl ⟨h1, h2, h3.grown hg' hB hDs hr, blk_grown h4 hg' (fun r e => (hr r e).2), blk_grown h5 hg' (fun r e => (hr r e).2), h6⟩
    · exact .inr h
  · intro l pre x W K hI hK
    exact hassign l x W K (fun a' W' hk hA => hK a' W' (keepsFrom_of_kept hk) (KeptJ.of_kept hk) ⟨hI.1.kept hk, hI.2.kept hk⟩ hA)
  · intro l pre x a' W _ _ hI hA hlt
    exact hbody l pre x a' W hI.1 hI.2 hA hlt
  · rintro D xs W hD rfl hI hK
    have hn := hI.2.n
    rw [List.length_range] at hn
    exact hdone D j.N W hD hI.1 hn hI.2.t (Nat.le_refl _) (.inl rfl) hK
  · rintro D cd pre W hD ⟨k, hk, _, rfl⟩ hx hK
    rcases hx with ⟨rfl, h2, h3, h4, h5, h6⟩ | ⟨_, h⟩
    · rw [List.length_range] at h4 h6
      exact hE _ _ (hdone D k W hD h3 h4 h5 hk (.inr ⟨h2, h6⟩) hK)
    · exact absurd (by rw [List.length_range]) h

end Go.Proofs.Ytcfoebpbbmnleaa
