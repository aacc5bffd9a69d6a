/-
  What stays through the ranges of stands; one range.
-/
import Derived.Test.YtffflafalffifaaStda
import Derived.Test.YtffflafalffifaaNoth
namespace Go.Proofs.Ytffflafalffifaa.K
open Go.RowKit Go.Shelf
attribute [local go_sem] Oper.semAt_some

section
variable {F : Fence} {n : Nat} {ops : Array Oper} {rest : List Oper} {o o1 o2 : Oper} {a : Act} {w : World} {Q : Exit → Act → World → Prop}
theorem inVar {T : Nat} (z v : Value) (hr : ∀ w : World, (Instr.alloc T true (.tuple #[])).run Try.prog w = .ok (P0 w.heap.size) (w.alloc (.cells [z].toArray T))) (hst : ∀ (w : World) (b : Nat) (u : Value), Blk w b T [u] → (storeVar T ⟨b, 0, none⟩ v).run Try.prog w = .ok () (w.setCell ⟨b, 0, none⟩ v))
    (d : Nat) (hd : o1.dst = some d) (hF : ∀ f, F.fn f) (hg1 : o1.guard = none) (ho1 : o1.op = .alloc T) (hs1 : o1.semAt F.round a.eval = execOp a.eval o1) (y : Operand) (hg2 : o2.guard = none) (ho2 : o2.op = .store T (.tmp d) y) (hs2 : ∀ a : Act, o2.semAt F.round a.eval = execOp a.eval o2) (hd2 : o2.dst = none)
    (hx : (a.put (some d) (P0 w.heap.size)).eval (.tmp d) = P0 w.heap.size) (hy : (a.put (some d) (P0 w.heap.size)).eval y = v)
    (h : ∀ W b, b = w.heap.size → Blk W b T [v] → Kept [] w W → wpListIn F n Try.prog ops Q rest (a.put (some d) (P0 b)) W) : wpListIn F n Try.prog ops Q (o1 :: o2 :: rest) a w := by
  refine wpListIn_want (by simp [Region.wanted, hg1]) (wpIn_value (v := P0 w.heap.size) (w' := w.alloc (.cells [z].toArray T)) hF hs1 ?_ ?_)
  · unfold execOp
    simp only [ho1, Sem.run_bind, hr, Result.andThen_ok]
    rfl
  · rw [hd]
    have hb : Blk (w.alloc (.cells [z].toArray T)) w.heap.size T [z] := Blk.new w T [z]
    refine wpListIn_want (by simp [Region.wanted, hg2]) (wpIn_skip (w' := (w.alloc (.cells [z].toArray T)).setCell ⟨w.heap.size, 0, none⟩ v) hF (hs2 _) ?_ ?_)
    · unfold execOp
      simp only [ho2, hx, hy, Instr.storeAt, Instr.sureAddr, Sem.run_bind, Sem.run_pure, Result.andThen_ok, hst _ _ _ hb]
    · rw [hd2]
      exact h _ _ rfl (hb.one v) (((Kept.refl _ _).alloc _).setCell (p := ⟨w.heap.size, 0, none⟩) (by simp) _)
theorem inStore1 {T : Nat} (u v : Value) (hst : ∀ (w : World) (b : Nat) (u : Value), Blk w b T [u] → (storeVar T ⟨b, 0, none⟩ v).run Try.prog w = .ok () (w.setCell ⟨b, 0, none⟩ v)) (hF : ∀ f, F.fn f) (hg : o.guard = none) (x y : Operand) (ho : o.op = .store T x y) (hsem : o.semAt F.round a.eval = execOp a.eval o) (hd : o.dst = none)
    (b : Nat) (hx : a.eval x = P0 b) (hy : a.eval y = v) (hb : Blk w b T [u]) (h : ∀ W, Blk W b T [v] → W = w.setCell ⟨b, 0, none⟩ v → wpListIn F n Try.prog ops Q rest a W) : wpListIn F n Try.prog ops Q (o :: rest) a w := by
  refine wpListIn_want (by simp [Region.wanted, hg]) (wpIn_skip (w' := w.setCell ⟨b, 0, none⟩ v) hF hsem ?_ ?_)
  · unfold execOp
    simp only [ho, hx, hy, Instr.storeAt, Instr.sureAddr, Sem.run_bind, Sem.run_pure, Result.andThen_ok, hst _ _ _ hb]
  · rw [hd]
    exact h _ (hb.one v) rfl
theorem inNew {T m : Nat} (hT : Row T m) (zv : List Value) (hz : zv.length = m) (hr : ∀ w : World, (Instr.alloc T true (.tuple #[])).run Try.prog w = .ok (P0 w.heap.size) (w.alloc (.cells zv.toArray T)))
    (d : Nat) (hd : o1.dst = some d) (hF : ∀ f, F.fn f) (hg1 : o1.guard = none) (ho1 : o1.op = .alloc T) (hs1 : o1.semAt F.round a.eval = execOp a.eval o1) (y : Operand) (hg2 : o2.guard = none) (ho2 : o2.op = .store T (.tmp d) y) (hs2 : ∀ a : Act, o2.semAt F.round a.eval = execOp a.eval o2) (hd2 : o2.dst = none)
    (vs : List Value) (hl : vs.length = m) (h1 : ∀ v ∈ vs, v.oneCell' = true) (hx : (a.put (some d) (P0 w.heap.size)).eval (.tmp d) = P0 w.heap.size) (hy : (a.put (some d) (P0 w.heap.size)).eval y = aggV vs)
    (h : ∀ W b, b = w.heap.size → Blk W b T vs → Kept [] w W → wpListIn F n Try.prog ops Q rest (a.put (some d) (P0 b)) W) : wpListIn F n Try.prog ops Q (o1 :: o2 :: rest) a w := by
  refine wpListIn_want (by simp [Region.wanted, hg1]) (wpIn_value (v := P0 w.heap.size) (w' := w.alloc (.cells zv.toArray T)) hF hs1 ?_ ?_)
  · unfold execOp
    simp only [ho1, Sem.run_bind, hr, Result.andThen_ok]
    rfl
  · rw [hd]
    have hb : Blk (w.alloc (.cells zv.toArray T)) w.heap.size T zv := Blk.new w T zv
    refine wpListIn_want (by simp [Region.wanted, hg2]) (wpIn_skip (w' := (w.alloc (.cells zv.toArray T)).setCells w.heap.size 0 vs) hF (hs2 _) ?_ ?_)
    · obtain ⟨dd, g1, g2, g3⟩ := hT
      have := run_storeVar_mid (P := Try.prog) (w.alloc (.cells zv.toArray T)) w.heap.size 0 T vs.toArray (by simpa [hl] using hb.there (by omega)) (by simpa [hl] using g3) (all_oneCell_toArray h1)
      have hy' : (a.put (some d) (P0 w.heap.size)).eval y = .agg vs.toArray := hy
      unfold execOp
      simp only [ho2, hx, hy', Instr.storeAt, Instr.sureAddr, Sem.run_bind, Sem.run_pure, Result.andThen_ok, this]
    · rw [hd2]
      exact h _ _ rfl (hb.put (by omega)) (((Kept.refl _ _).alloc _).setCells _ _ (by omega))
end
theorem blk_grown {W W' : World} {row : Option Nat} {b T : Nat} {us : List Value} (h : Blk W b T us) (hg : W.grownBy W' row) (hr : ∀ r, row = some r → ∃ o : Obj, W.heap[r]? = some o ∧ o.isCells = false) : Blk W' b T us := cells_kept h hg hr
theorem o_neqT {o : Oper} {a : Act} {w : World} {K : Act → World → Prop} {Q : Exit → Act → World → Prop} (x y : Operand) (ho : o.op = .binOp .neq 3 x y 3) (m n : Int) (hmn : ¬ m = n) (hx : a.eval x = .int .i64 m) (hy : a.eval y = .int .i64 n) (h : K (a.put o.dst (.bool true)) w) : o.wp Try.prog a w K Q := by
  have hb : (m != n) = true := by simp [hmn]
  unfold Oper.wp execOp
  simp only [ho, hx, hy]
  simp [go_sem, hb]
  exact h
theorem o_pickTrue {o : Oper} {a : Act} {w : World} {K : Act → World → Prop} {Q : Exit → Act → World → Prop} (c x : Operand) (ho : o.op = .pick c (.const (.bool true)) x) (hc : a.eval c = .bool true) (h : K (a.put o.dst (.bool true)) w) : o.wp Try.prog a w K Q := by
  unfold Oper.wp execOp
  simp only [ho, hc]
  simp [go_sem]
  exact h
theorem keepsFrom_set {B : Nat} {W w3 : World} {b T : Nat} {us : List Value} (hk : Kept [] W w3) (hb : Blk w3 b T us) (v : Value) : KeepsFrom B W (w3.setCell ⟨b, 0, none⟩ v) := by
  refine KeepsOthers.from ⟨Nat.le_trans hk.size (by simp [World.setCell]), fun k o hko hc => ?_⟩ B
  have h1 := hk.heap hko (by simp)
  have hne : k ≠ b := by
    intro e; subst e; rw [hb] at h1; cases h1; simp [Obj.isCells] at hc
  rw [Below.heap_setCell _ _ _ _ (by simpa using hne)]
  exact h1
theorem o_idx36 {o : Oper} {a : Act} {w : World} {K : Act → World → Prop} {Q : Exit → Act → World → Prop} (x y : Operand) (ho : o.op = .indexAddr 36 x y) (g m c k : Nat) (hk : k < m) (hx : a.eval x = .slice (some ⟨g, 0, none⟩) m c) (hy : a.eval y = .int .i64 k) (h : K (a.put o.dst (.pointer (some ⟨g, k * 64, none⟩))) w) : o.wp Try.prog a w K Q := by
  unfold Oper.wp execOp
  simp only [ho, hx, hy]
  simp [go_sem, hk]
  exact h
theorem KeptC.setCell {A W : World} {b i t : Nat} {us : List Value} (h : KeptC [] A W) (hb : Blk W b t us) (ht : t ≠ 38) (v : Value) : KeptC [] A (W.setCell ⟨b, i, none⟩ v) := by
  refine ⟨Nat.le_trans h.size (by simp [World.setCell]), fun k cs p hk hx => ?_⟩
  have := h.block k cs p hk hx
  have hne : k ≠ b := by
    intro e; subst e
    rw [hb] at this; cases this; exact ht rfl
  rw [Below.heap_setCell _ _ _ _ (by simpa using hne)]; exact this
theorem Sv.grown {w W W' : World} {row : Option Nat} {B : Nat} {b4 b5 b6 r : Nat} {leave : Int} (h : Sv w W b4 b5 b6 r leave) (hg : W.grownBy W' row) (hB : w.heap.size ≤ B) (hr : ∀ r, row = some r → B ≤ r ∧ ∃ o : Obj, W.heap[r]? = some o ∧ o.isCells = false) : Sv w W' b4 b5 b6 r leave := by
  have hr2 := fun r e => (hr r e).2
  exact ⟨blk_grown h.r4 hg hr2, blk_grown h.l5 hg hr2, blk_grown h.o6 hg hr2, kept_kept h.k hg hB (fun r e => (hr r e).1), h.ge⟩
/-- What stays through the ranges: the variables that no round writes, and marks that were left. -/
structure AS (w : World) (leave : Int) (b b4 b5 b6 r q : Nat) (Ds : List Nat) (W : World) : Prop where
  sv : Sv w W b4 b5 b6 r leave
  jq : Blk W q 24 [P0 b]
  gq : w.heap.size ≤ q
  d : ∀ D ∈ Ds, w.heap.size ≤ D ∧ W.heap[D]? = some (.deferred (some []))
section
variable {w W W' : World} {leave : Int} {b b4 b5 b6 r q : Nat} {Ds : List Nat}
theorem AS.kept (h : AS w leave b b4 b5 b6 r q Ds W) (hk : Kept [] W W') : AS w leave b b4 b5 b6 r q Ds W' :=
  ⟨h.sv.step hk, h.jq.kept hk (by simp), h.gq, fun D hD => ⟨(h.d D hD).1, hk.heap (h.d D hD).2 (by simp)⟩⟩
theorem AS.grown {row : Option Nat} {B : Nat} (h : AS w leave b b4 b5 b6 r q Ds W) (hg : W.grownBy W' row) (hB : w.heap.size ≤ B) (hD : ∀ D ∈ Ds, D < B) (hr : ∀ r, row = some r → B ≤ r ∧ ∃ o : Obj, W.heap[r]? = some o ∧ o.isCells = false) : AS w leave b b4 b5 b6 r q Ds W' := by
  refine ⟨h.sv.grown hg hB hr, blk_grown h.jq hg (fun r e => (hr r e).2), h.gq, fun D hDm => ⟨(h.d D hDm).1, ?_⟩⟩
  rw [hg.block D (lt_of_block (h.d D hDm).2) ?_]
  · exact (h.d D hDm).2
  · intro e
    have := (hr D e.symm).1
    have := hD D hDm
    omega
theorem AS.set (h : AS w leave b b4 b5 b6 r q Ds W) {c T : Nat} {u : Value} (v : Value) (hb : Blk W c T [u]) (hw : w.heap.size ≤ c) (hne : c ≠ b4 ∧ c ≠ b5 ∧ c ≠ b6 ∧ c ≠ q) : AS w leave b b4 b5 b6 r q Ds (W.setCell ⟨c, 0, none⟩ v) := by
  refine ⟨⟨h.sv.r4.set_other (by omega) _, h.sv.l5.set_other (by omega) _, h.sv.o6.set_other (by omega) _, h.sv.k.setCell (p := ⟨c, 0, none⟩) (by simp; omega) _, h.sv.ge⟩, h.jq.set_other (by omega) _, h.gq, fun D hD => ⟨(h.d D hD).1, ?_⟩⟩
  have hne2 : D ≠ c := by
    intro e; subst e
    have := (h.d _ hD).2
    rw [hb] at this; cases this
  rw [Below.heap_setCell _ _ _ _ (by simpa using hne2)]
  exact (h.d D hD).2
theorem AS.mark {D : Nat} (h : AS w leave b b4 b5 b6 r q Ds W) (hD : w.heap.size ≤ D) (hK : W.heap[D]? = some (.deferred (some []))) : AS w leave b b4 b5 b6 r q (D :: Ds) W :=
  ⟨h.sv, h.jq, h.gq, fun D' h' => by
    rcases List.mem_cons.1 h' with e | h'
    · rw [e]; exact ⟨hD, hK⟩
    · exact h.d D' h'⟩
theorem AS.lts (h : AS w leave b b4 b5 b6 r q Ds W) : b4 < W.heap.size ∧ b5 < W.heap.size ∧ b6 < W.heap.size ∧ q < W.heap.size ∧ ∀ D ∈ Ds, D < W.heap.size :=
  ⟨h.sv.r4.lt, h.sv.l5.lt, h.sv.o6.lt, h.jq.lt, fun D hD => lt_of_block (h.d D hD).2⟩
end
theorem res13 (w : World) (b : Nat) (v : Bool) (tmps : Array Value) (h4 : tmps[6]?.getD undef = P0 b) (hb : Blk w b 4 [.bool v]) : (results Try.f13 tmps).run Try.prog w = .ok (.bool v) w := by
  have hc := fits_cell hb 0 _ rfl
  simp [results, Try.results13, h4, asAddr, go_sem, hc]
/-- How stands leaves: both marks are taken. -/
theorem all_leaves {w W : World} {D2 D br : Nat} {tmps : Array Value} (h4 : tmps[6]?.getD undef = P0 br) (hb : Blk W br 4 [.bool true]) (hk : Kept [] w W) (h2 : W.heap[D2]? = some (.deferred (some []))) (h1 : W.heap[D]? = some (.deferred (some []))) (hne : D ≠ D2) (g2 : w.heap.size ≤ D2) (g1 : w.heap.size ≤ D) :
    LeavesInM Fence.wide 3 Try.prog Try.f13 tmps (fun e w' => e = .returned (.bool true) ∧ Kept [] w w') [{ target := .collected D2, args := #[] }, { target := .collected D, args := #[] }] .returning W := by
  have h1' : (W.putObj D2 (.deferred none)).heap[D]? = some (.deferred (some [])) := by rw [World.putObj_heap_other hne]; exact h1
  have hb1 : Blk (W.putObj D2 (.deferred none)) br 4 [.bool true] := blk_grown hb (grownBy_putObj' W D2 _) (fun r e => by cases e; exact ⟨_, h2, rfl⟩)
  have hb2 : Blk ((W.putObj D2 (.deferred none)).putObj D (.deferred none)) br 4 [.bool true] := blk_grown hb1 (grownBy_putObj' _ D _) (fun r e => by cases e; exact ⟨_, h1', rfl⟩)
  have k1 : Kept [] w (W.putObj D2 (.deferred none)) := kept_kept (B := w.heap.size) hk (grownBy_putObj' _ D2 (.deferred none)) (Nat.le_refl _) (fun r e => by cases e; exact g2)
  have k2 : Kept [] w ((W.putObj D2 (.deferred none)).putObj D (.deferred none)) := kept_kept (B := w.heap.size) k1 (grownBy_putObj' _ D (.deferred none)) (Nat.le_refl _) (fun r e => by cases e; exact g1)
  refine ⟨by simp, .inl ⟨_, _, rfl, run_takeDeferred h2, ?_⟩⟩
  refine ⟨by simp, .inl ⟨_, _, rfl, run_takeDeferred h1', ?_⟩⟩
  exact ⟨_, res13 _ _ _ _ h4 hb2, rfl, k2⟩
abbrev Rw := Go.Proofs.Ytffflafalffifaa.Row
/-- The round's variables: how many sectors were gone over, which turn it is. -/
structure AV (S : List (List Int)) (hS : ∀ s ∈ S, Sec s) (leave : Int) (turn : Int) (bn bt : Nat) (pre : List Rw) (W : World) : Prop where
  rng : pre = rows S hS pre.length
  n : Blk W bn 3 [.int .i64 pre.length]
  t : Blk W bt 3 [.int .i64 turn]
  go : turn = 0 → ¬ (1 ≤ pre.length ∧ (pre.length : Int) = leave)
section
variable {S : List (List Int)} {hS : ∀ s ∈ S, Sec s} {leave turn : Int} {bn bt : Nat} {pre : List Rw} {W W' : World}
theorem AV.kept (h : AV S hS leave turn bn bt pre W) (hk : Kept [] W W') : AV S hS leave turn bn bt pre W' := ⟨h.rng, h.n.kept hk (by simp), h.t.kept hk (by simp), h.go⟩
theorem AV.grown {row : Option Nat} (h : AV S hS leave turn bn bt pre W) (hg : W.grownBy W' row) (hr : ∀ r, row = some r → ∃ o : Obj, W.heap[r]? = some o ∧ o.isCells = false) : AV S hS leave turn bn bt pre W' := ⟨h.rng, blk_grown h.n hg hr, blk_grown h.t hg hr, h.go⟩
end
theorem row_right {S : List (List Int)} {hS : ∀ s ∈ S, Sec s} {pre : List Rw} {x : Rw} (hp : pre = rows S hS pre.length) (hl : pre.length < S.length) (h1 : x.i = pre.length) (h2 : x.s = S[pre.length]) : pre ++ [x] = rows S hS (pre ++ [x]).length := by
  rw [List.length_append, List.length_singleton, rows_succ S hS _ hl, ← hp]
  obtain ⟨i, s, h⟩ := x
  simp only at h1 h2
  subst h1 h2
  rfl
theorem row_wrong {S : List (List Int)} {hS : ∀ s ∈ S, Sec s} {pre : List Rw} {x : Rw} (hl : pre.length < S.length) (h : ¬ (x.i = pre.length ∧ x.s = S[pre.length])) : ¬ pre ++ [x] = rows S hS (pre ++ [x]).length := by
  intro e
  rw [List.length_append, List.length_singleton, rows_succ S hS _ hl] at e
  have := List.append_inj_right' e rfl
  simp only [List.cons.injEq, and_true] at this
  exact h ⟨by rw [this], by rw [this]⟩
/-- The frame at a round's beginning. -/
def ax (t : Array Value) (x : Rw) (bx : Nat) : Act := { tmps := (((t.setIfInBounds 145 (.int .i64 x.i)).setIfInBounds 146 (secV x.s)).setIfInBounds 21 (.int .i64 x.i)).setIfInBounds 22 (P0 bx), defers := [] }
/-- One range over the iterator: gone through, or left where it must be. -/
theorem range_turn (w : World) (b g : Nat) (D : Dev) (leave : Int) (b4 b5 b6 r q : Nat) (Ds : List Nat) (bn bt : Nat) (turn : Int) {gv : Operand} {ps : Array Tmp} {assign body : Code} {Q : Exit → Act → World → Prop} {a : Act} {W0 : World}
    (hg : a.eval gv = .func (.func 58) #[] #[P0 q]) (hps : ps.size = 2) (hDv : Dv W0 b g D) (hS : AS w leave b b4 b5 b6 r q Ds W0) (hDs : ∀ D ∈ Ds, D < W0.heap.size) (hV : AV D.S hDv.ok.sec leave turn bn bt [] W0)
    (hassign : ∀ (l : Nat) (x : Rw) (W : World) (K : Act → World → Prop), (∀ a' W' bx, Kept [] W W' → Blk W' bx 38 (u8s x.s) → a' = ax a.tmps x bx → K a' W') →
      assign.wpIn (Fence.wide.inRound l) 1 Try.prog (Exit.then K (fun _ _ _ => False)) { tmps := (ps.zip x.vals).foldl (fun t (p, v) => t.setIfInBounds p v) a.tmps, defers := [] } W)
    (hbody : ∀ (l : Nat) (pre : List Rw) (x : Rw) (bx : Nat) (W : World), AS w leave b b4 b5 b6 r q Ds W → AV D.S hDv.ok.sec leave turn bn bt pre W → Blk W bx 38 (u8s x.s) → pre.length < D.S.length →
      body.wpIn (Fence.wide.inRound l) 1 Try.prog (ownPostG W0.heap.size (KeptC []) (fun pre W => AS w leave b b4 b5 b6 r q Ds W ∧ AV D.S hDv.ok.sec leave turn bn bt pre W)
        (fun cd pre W => (cd = .exit 8 ∧ turn = 0 ∧ AS w leave b b4 b5 b6 r q Ds W ∧ Blk W bn 3 [.int .i64 pre.length] ∧ Blk W bt 3 [.int .i64 turn] ∧ (pre.length : Int) = leave) ∨ (cd = .ret ∧ ¬ pre = rows D.S hDv.ok.sec pre.length)) (pre ++ [x]) W) (ax a.tmps x bx) W)
    (hdone : ∀ (E n : Nat) (W : World), W0.heap.size ≤ E → AS w leave b b4 b5 b6 r q Ds W → Blk W bn 3 [.int .i64 n] → Blk W bt 3 [.int .i64 turn] → n ≤ D.S.length → (n = D.S.length ∨ (turn = 0 ∧ (n : Int) = leave)) → W.heap[E]? = some (.deferred (some [])) → Q .normal { a with defers := { target := .collected E, args := #[] } :: a.defers } W)
    (hE : ∀ a W, Q .normal a W → (Code.exit 8).wpIn Fence.wide 3 Try.prog Q a W) : (Code.rangeFunc gv ps assign body).wpIn Fence.wide 3 Try.prog Q a W0 := by
  have hB : w.heap.size ≤ W0.heap.size := hS.sv.k.size
  refine wpIn_rangeFunc_ownH rfl (by omega) (gf := 58) (lb := #[P0 q]) hg trivial cf58 (all_stops 2 (by omega) q b g D _ hDv (fits_cell hS.jq 0 _ rfl)) KeptC.trans (keptC_b _) (Below.refl _ _) (fun _ => by rw [hps]; rfl)
    (fun pre W => AS w leave b b4 b5 b6 r q Ds W ∧ AV D.S hDv.ok.sec leave turn bn bt pre W)
    (fun cd pre W => (cd = .exit 8 ∧ turn = 0 ∧ AS w leave b b4 b5 b6 r q Ds W ∧ Blk W bn 3 [.int .i64 pre.length] ∧ Blk W bt 3 [.int .i64 turn] ∧ (pre.length : Int) = leave) ∨ (cd = .ret ∧ ¬ pre = rows D.S hDv.ok.sec pre.length))
    (fun s A B row hs hg' hr => ⟨hs.1.grown hg' hB hDs hr, hs.2.grown hg' (fun r e => (hr r e).2)⟩) ?_ ⟨hS, hV⟩ (fun x a' W => ∃ bx, Blk W bx 38 (u8s x.s) ∧ a' = ax a.tmps x bx) (fun x a' s A B row hs hg hr => by obtain ⟨bx, h1, h2⟩ := hs; exact ⟨bx, blk_grown h1 hg (fun r e => (hr r e).2), h2⟩) ?_ ?_ ?_ ?_
  · intro cd s A B row hs hg' hr
    rcases hs with ⟨h1, h2, h3, h4, h5, h6⟩ | h
    · exact .inl ⟨h1, h2, h3.grown hg' hB hDs hr, blk_grown h4 hg' (fun r e => (hr r e).2), blk_grown h5 hg' (fun r e => (hr r e).2), h6⟩
    · exact .inr h
  · intro l pre x W K hI hK
    exact hassign l x W K (fun a' W' bx hk hA e => hK a' W' (keepsFrom_of_kept hk) (KeptC.of_kept hk) ⟨hI.1.kept hk, hI.2.kept hk⟩ ⟨bx, hA, e⟩)
  · rintro l pre x a' W _ _ hI ⟨bx, hA, rfl⟩ hlt
    exact hbody l pre x bx W hI.1 hI.2 hA hlt
  · rintro E xs W hD rfl hI hK
    have hn := hI.2.n
    rw [rows_len] at hn
    exact hdone E D.S.length W hD hI.1 hn hI.2.t (Nat.le_refl _) (.inl rfl) hK
  · rintro E cd pre W hD ⟨k, hk, _, rfl⟩ hx hK
    rcases hx with ⟨rfl, h2, h3, h4, h5, h6⟩ | ⟨_, h⟩
    · rw [rows_len] at h4 h6
      exact hE _ _ (hdone E k W hD h3 h4 h5 hk (.inr ⟨h2, h6⟩) hK)
    · exact absurd (by rw [rows_len]) h

end Go.Proofs.Ytffflafalffifaa.K
