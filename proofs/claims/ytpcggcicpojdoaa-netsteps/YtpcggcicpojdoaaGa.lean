/-
  What stays through stands; one range over All.
-/
import Derived.Test.YtpcggcicpojdoaaFb
import Derived.Test.YtpcggcicpojdoaaFc
import Derived.Test.YtpcggcicpojdoaaFd
import Derived.Test.YtpcggcicpojdoaaTz
namespace Go.Proofs.Ytpcggcicpojdoaa
open Go.RowKit Go.Shelf
attribute [local go_sem] Oper.semAt_some

theorem zero3 (w : World) : (Instr.alloc 3 true (.tuple #[])).run Try.prog w = .ok (P0 w.heap.size) (w.alloc (.cells [Value.int .i64 0].toArray 3)) := by kernel_rfl
theorem zero4 (w : World) : (Instr.alloc 4 true (.tuple #[])).run Try.prog w = .ok (P0 w.heap.size) (w.alloc (.cells [Value.bool false].toArray 4)) := by kernel_rfl
theorem st3 (w : World) (b : Nat) (u : Value) (n : Int) (h : Blk w b 3 [u]) : (storeVar 3 ⟨b, 0, none⟩ (.int .i64 n)).run Try.prog w = .ok () (w.setCell ⟨b, 0, none⟩ (.int .i64 n)) := by
  have hc := fits_cell h 0 u rfl
  have hf := h.frozen 0
  simp [storeVar, go_sem, hc, hf]
theorem Blk.one {w : World} {b T : Nat} {u : Value} (h : Blk w b T [u]) (v : Value) : Blk (w.setCell ⟨b, 0, none⟩ v) b T [v] := h.set v
theorem run_box27 (r : Nat) (w : World) : (Instr.box 27 (P0 r)).run Try.prog w = .ok (P0 w.heap.size) (w.alloc (.cells [P0 r].toArray 27)) := by kernel_rfl
section
variable {ops : Array Oper} {rest : List Oper} {op o1 o2 : Oper} {a : Act} {w : World} {Q : Exit → Act → World → Prop}
theorem wpVar {T : Nat} (z v : Value) (hr : ∀ w : World, (Instr.alloc T true (.tuple #[])).run Try.prog w = .ok (P0 w.heap.size) (w.alloc (.cells [z].toArray T))) (hst : ∀ (w : World) (b : Nat) (u : Value), Blk w b T [u] → (storeVar T ⟨b, 0, none⟩ v).run Try.prog w = .ok () (w.setCell ⟨b, 0, none⟩ v))
    (d : Nat) (hd : o1.dst = some d) (hg1 : o1.guard = none) (ho1 : o1.op = .alloc T) (y : Operand) (hg2 : o2.guard = none) (ho2 : o2.op = .store T (.tmp d) y) (hd2 : o2.dst = none)
    (hx : (a.put (some d) (P0 w.heap.size)).eval (.tmp d) = P0 w.heap.size) (hy : (a.put (some d) (P0 w.heap.size)).eval y = v)
    (h : ∀ W b, b = w.heap.size → Blk W b T [v] → Kept [] w W → wpList Try.prog ops Q rest (a.put (some d) (P0 b)) W) : wpList Try.prog ops Q (o1 :: o2 :: rest) a w :=
  wpList_plain hg1 fun K hK => by
    have hb : Blk (w.alloc (.cells [z].toArray T)) w.heap.size T [z] := Blk.new w T [z]
    unfold Oper.wp execOp
    simp only [ho1, Sem.run_bind, hr, Result.andThen_ok]
    refine hK _ _ ?_
    rw [hd]
    refine wpList_plain hg2 fun K' hK' => ?_
    unfold Oper.wp execOp
    simp only [ho2, hx, hy, Instr.storeAt, Instr.sureAddr, Sem.run_bind, Sem.run_pure, Result.andThen_ok, hst _ _ _ hb]
    refine hK' _ _ ?_
    rw [hd2]
    exact h _ _ rfl (hb.one v) (((Kept.refl _ _).alloc _).setCell (p := ⟨w.heap.size, 0, none⟩) (by simp) _)
theorem wpStore1 {T : Nat} (u v : Value) (hst : ∀ (w : World) (b : Nat) (u : Value), Blk w b T [u] → (storeVar T ⟨b, 0, none⟩ v).run Try.prog w = .ok () (w.setCell ⟨b, 0, none⟩ v)) (hgd : op.guard = none) (x y : Operand) (ho : op.op = .store T x y) (hd : op.dst = none)
    (b : Nat) (hx : a.eval x = P0 b) (hy : a.eval y = v) (hb : Blk w b T [u]) (h : ∀ W, Blk W b T [v] → W = w.setCell ⟨b, 0, none⟩ v → wpList Try.prog ops Q rest a W) : wpList Try.prog ops Q (op :: rest) a w :=
  wpList_plain hgd fun K hK => by
    unfold Oper.wp execOp
    simp only [ho, hx, hy, Instr.storeAt, Instr.sureAddr, Sem.run_bind, Sem.run_pure, Result.andThen_ok, hst _ _ _ hb]
    refine hK _ _ ?_
    rw [hd]
    exact h _ (hb.one v) rfl
end
section
variable {o : Oper} {a : Act} {w : World} {K : Act → World → Prop} {Q : Exit → Act → World → Prop}
theorem o_load27 (x : Operand) (ho : o.op = .load 27 x) (p : Addr) (v : Value) (hx : a.eval x = .pointer (some p)) (hc : w.cell? p = some v) (h : K (a.put o.dst (v)) w) : o.wp Try.prog a w K Q := by
  unfold Oper.wp execOp
  simp only [ho, hx]
  simp [go_sem, hc]
  exact h
theorem o_geq3v (x y : Operand) (ho : o.op = .binOp .geq 3 x y 3) (m n : Int) (r : Bool) (hr : decide (n ≤ m) = r) (hx : a.eval x = .int .i64 m) (hy : a.eval y = .int .i64 n) (h : K (a.put o.dst (.bool r)) w) : o.wp Try.prog a w K Q := by
  subst hr
  unfold Oper.wp execOp
  simp only [ho, hx, hy]
  simp [go_sem]
  exact h
theorem o_neq4v (x y : Operand) (ho : o.op = .binOp .neq 4 x y 4) (m n r : Bool) (hr : (m == n) = r) (hx : a.eval x = .bool m) (hy : a.eval y = .bool n) (h : K (a.put o.dst (.bool (!r))) w) : o.wp Try.prog a w K Q := by
  subst hr
  unfold Oper.wp execOp
  simp only [ho, hx, hy]
  cases m <;> cases n <;> (simp [go_sem]; exact h)
end
section
variable {ops : Array Oper} {rest : List Oper} {op : Oper} {a : Act} {w : World} {Q : Exit → Act → World → Prop}
theorem wpNeq4G (x y : Operand) (ho : op.op = .binOp .neq 4 x y 4) (hw : Region.wanted op (yielded ops a.tmps) = true) (m : Bool) (hx : a.eval x = .bool m) (hy : a.eval y = .bool m) (h : wpList Try.prog ops Q rest (a.put op.dst (.bool false)) w) : wpList Try.prog ops Q (op :: rest) a w :=
  BigFrame.wpList_want hw fun K hK => o_neq4v x y ho m m true (by simp) hx hy (hK _ _ h)
end
section
variable {F : Fence} {n : Nat} {ops : Array Oper} {rest : List Oper} {o o1 o2 : Oper} {a : Act} {w : World} {Q : Exit → Act → World → Prop}
theorem inVar {T : Nat} (z v : Value) (hr : ∀ w : World, (Instr.alloc T true (.tuple #[])).run Try.prog w = .ok (P0 w.heap.size) (w.alloc (.cells [z].toArray T))) (hst : ∀ (w : World) (b : Nat) (u : Value), Blk w b T [u] → (storeVar T ⟨b, 0, none⟩ v).run Try.prog w = .ok () (w.setCell ⟨b, 0, none⟩ v))
    (d : Nat) (hd : o1.dst = some d) (hF : ∀ f, F.fn f) (hg1 : o1.guard = none) (ho1 : o1.op = .alloc T) (hs1 : o1.semAt F.round a.eval = execOp a.eval o1) (y : Operand) (hg2 : o2.guard = none) (ho2 : o2.op = .store T (.tmp d) y) (hs2 : ∀ a : Act, o2.semAt F.round a.eval = execOp a.eval o2) (hd2 : o2.dst = none)
    (hx : (a.put (some d) (P0 w.heap.size)).eval (.tmp d) = P0 w.heap.size) (hy : (a.put (some d) (P0 w.heap.size)).eval y = v)
    (h : ∀ W b, b = w.heap.size → Blk W b T [v] → Kept [] w W → wpListIn F n Try.prog ops Q rest (a.put (some d) (P0 b)) W) : wpListIn F n Try.prog ops Q (o1 :: o2 :: rest) a w := by
  refine wpListIn_want (by simp [Region.wanted, hg1]) (wpIn_value (v := P0 w.heap.size) (w' := w.alloc (.cells [z].toArray T)) hF hs1 ?_ ?_)
  · unfold execOp
    simp only [ho1, Sem.run_bind, hr, Result.andThen_ok]
    rfl
  · rw [hd]
    have hb : Blk (w.alloc (.cells [z].toArray T)) w.heap.size T [z] := Blk.new w T [z]
    refine wpListIn_want (by simp [Region.wanted, hg2]) (wpIn_skip (w' := (w.alloc (.cells [z].toArray T)).setCell ⟨w.heap.size, 0, none⟩ v) hF (hs2 _) ?_ ?_)
    · unfold execOp
      simp only [ho2, hx, hy, Instr.storeAt, Instr.sureAddr, Sem.run_bind, Sem.run_pure, Result.andThen_ok, hst _ _ _ hb]
    · rw [hd2]
      exact h _ _ rfl (hb.one v) (((Kept.refl _ _).alloc _).setCell (p := ⟨w.heap.size, 0, none⟩) (by simp) _)
theorem inStore1 {T : Nat} (u v : Value) (hst : ∀ (w : World) (b : Nat) (u : Value), Blk w b T [u] → (storeVar T ⟨b, 0, none⟩ v).run Try.prog w = .ok () (w.setCell ⟨b, 0, none⟩ v)) (hF : ∀ f, F.fn f) (hg : o.guard = none) (x y : Operand) (ho : o.op = .store T x y) (hsem : o.semAt F.round a.eval = execOp a.eval o) (hd : o.dst = none)
    (b : Nat) (hx : a.eval x = P0 b) (hy : a.eval y = v) (hb : Blk w b T [u]) (h : ∀ W, Blk W b T [v] → W = w.setCell ⟨b, 0, none⟩ v → wpListIn F n Try.prog ops Q rest a W) : wpListIn F n Try.prog ops Q (o :: rest) a w := by
  refine wpListIn_want (by simp [Region.wanted, hg]) (wpIn_skip (w' := w.setCell ⟨b, 0, none⟩ v) hF hsem ?_ ?_)
  · unfold execOp
    simp only [ho, hx, hy, Instr.storeAt, Instr.sureAddr, Sem.run_bind, Sem.run_pure, Result.andThen_ok, hst _ _ _ hb]
  · rw [hd]
    exact h _ (hb.one v) rfl
end
theorem keepsFrom_set {B : Nat} {W w3 : World} {b T : Nat} {us : List Value} (hk : Kept [] W w3) (hb : Blk w3 b T us) (v : Value) : KeepsFrom B W (w3.setCell ⟨b, 0, none⟩ v) := by
  refine KeepsOthers.from ⟨Nat.le_trans hk.size (by simp [World.setCell]), fun k o hko hc => ?_⟩ B
  have h1 := hk.heap hko (by simp)
  have hne : k ≠ b := by
    intro e; subst e; rw [hb] at h1; cases h1; simp [Obj.isCells] at hc
  rw [Below.heap_setCell _ _ _ _ (by simpa using hne)]
  exact h1
/-- What stays through stands. -/
structure Sv (w W : World) (b4 b5 b6 r : Nat) (leave : Int) : Prop where
  r4 : Blk W b4 27 [P0 r]
  l5 : Blk W b5 3 [.int .i64 leave]
  o6 : Blk W b6 4 [.bool false]
  k : Kept [] w W
  ge : w.heap.size ≤ b4 ∧ w.heap.size ≤ b5 ∧ w.heap.size ≤ b6
theorem Sv.step {w W W' : World} {b4 b5 b6 r : Nat} {leave : Int} (h : Sv w W b4 b5 b6 r leave) (hk : Kept [] W W') : Sv w W' b4 b5 b6 r leave :=
  ⟨h.r4.kept hk (by simp), h.l5.kept hk (by simp), h.o6.kept hk (by simp), h.k.trans hk, h.ge⟩
theorem blk_bod {W : World} {v : Value} {bs : List Int} (hB : Bod W v bs) {p T : Nat} {us : List Value} (hp : Blk W p T us) (hT : T ≠ 5) : p ∉ v.ownBlock.toList := by
  rw [Option.mem_toList]
  intro e
  obtain ⟨cs, hc⟩ := hB.block p e
  unfold Blk at hp
  rw [hp] at hc
  injection hc with hc
  injection hc with _ hc
  exact hT hc
theorem Sv.spoil {w W W' : World} {b4 b5 b6 r : Nat} {leave : Int} {v : Value} {bs : List Int} (h : Sv w W b4 b5 b6 r leave) (hB : Bod W v bs) (hg : ∀ k, v.ownBlock = some k → w.heap.size ≤ k) (hk : Kept v.ownBlock.toList W W') : Sv w W' b4 b5 b6 r leave :=
  ⟨h.r4.kept hk (blk_bod hB h.r4 (by decide)), h.l5.kept hk (blk_bod hB h.l5 (by decide)), h.o6.kept hk (blk_bod hB h.o6 (by decide)), h.k.fresh hk (fun i hi hl => by rw [Option.mem_toList] at hi; have := hg i hi; omega), h.ge⟩
theorem Sv.grown {w W W' : World} {row : Option Nat} {B : Nat} {b4 b5 b6 r : Nat} {leave : Int} (h : Sv w W b4 b5 b6 r leave) (hg : W.grownBy W' row) (hB : w.heap.size ≤ B) (hr : ∀ r, row = some r → B ≤ r ∧ ∃ o : Obj, W.heap[r]? = some o ∧ o.isCells = false) : Sv w W' b4 b5 b6 r leave := by
  have hr2 := fun r e => (hr r e).2
  exact ⟨blk_grown h.r4 hg hr2, blk_grown h.l5 hg hr2, blk_grown h.o6 hg hr2, kept_kept h.k hg hB (fun r e => (hr r e).1), h.ge⟩
/-- What stays through the ranges: the variables that no round writes, and marks that were left. -/
structure AS (w : World) (leave : Int) (b b4 b5 b6 r p1 p2 : Nat) (Ds : List Nat) (W : World) : Prop where
  sv : Sv w W b4 b5 b6 r leave
  j1 : Blk W p1 23 [P0 b]
  j2 : Blk W p2 82 [.func (.func 53) #[] #[]]
  d : ∀ D ∈ Ds, w.heap.size ≤ D ∧ W.heap[D]? = some (.deferred (some []))
section
variable {w W W' : World} {leave : Int} {b b4 b5 b6 r p1 p2 : Nat} {Ds : List Nat}
theorem AS.kept (h : AS w leave b b4 b5 b6 r p1 p2 Ds W) (hk : Kept [] W W') : AS w leave b b4 b5 b6 r p1 p2 Ds W' :=
  ⟨h.sv.step hk, h.j1.kept hk (by simp), h.j2.kept hk (by simp), fun D hD => ⟨(h.d D hD).1, hk.heap (h.d D hD).2 (by simp)⟩⟩
theorem AS.spoil {v : Value} {bs : List Int} (h : AS w leave b b4 b5 b6 r p1 p2 Ds W) (hB : Bod W v bs) (hg : ∀ k, v.ownBlock = some k → w.heap.size ≤ k) (hk : Kept v.ownBlock.toList W W') : AS w leave b b4 b5 b6 r p1 p2 Ds W' :=
  ⟨h.sv.spoil hB hg hk, h.j1.kept hk (blk_bod hB h.j1 (by decide)), h.j2.kept hk (blk_bod hB h.j2 (by decide)), fun D hD => ⟨(h.d D hD).1, hk.heap (h.d D hD).2 (by
    rw [Option.mem_toList]
    intro e
    obtain ⟨cs, hc⟩ := hB.block D e
    rw [(h.d D hD).2] at hc
    cases hc)⟩⟩
theorem AS.grown {row : Option Nat} {B : Nat} (h : AS w leave b b4 b5 b6 r p1 p2 Ds W) (hg : W.grownBy W' row) (hB : w.heap.size ≤ B) (hD : ∀ D ∈ Ds, D < B) (hr : ∀ r, row = some r → B ≤ r ∧ ∃ o : Obj, W.heap[r]? = some o ∧ o.isCells = false) : AS w leave b b4 b5 b6 r p1 p2 Ds W' := by
  refine ⟨h.sv.grown hg hB hr, blk_grown h.j1 hg (fun r e => (hr r e).2), blk_grown h.j2 hg (fun r e => (hr r e).2), fun D hDm => ⟨(h.d D hDm).1, ?_⟩⟩
  rw [hg.block D (lt_of_block (h.d D hDm).2) ?_]
  · exact (h.d D hDm).2
  · intro e
    have := (hr D e.symm).1
    have := hD D hDm
    omega
theorem AS.set (h : AS w leave b b4 b5 b6 r p1 p2 Ds W) {c T : Nat} {u : Value} (v : Value) (hb : Blk W c T [u]) (hw : w.heap.size ≤ c) (hne : c ≠ b4 ∧ c ≠ b5 ∧ c ≠ b6 ∧ c ≠ p1 ∧ c ≠ p2) : AS w leave b b4 b5 b6 r p1 p2 Ds (W.setCell ⟨c, 0, none⟩ v) := by
  refine ⟨⟨h.sv.r4.set_other (by omega) _, h.sv.l5.set_other (by omega) _, h.sv.o6.set_other (by omega) _, h.sv.k.setCell (p := ⟨c, 0, none⟩) (by simp; omega) _, h.sv.ge⟩, h.j1.set_other (by omega) _, h.j2.set_other (by omega) _, fun D hD => ⟨(h.d D hD).1, ?_⟩⟩
  have hne2 : D ≠ c := by
    intro e; subst e
    have := (h.d _ hD).2
    rw [hb] at this; cases this
  rw [Below.heap_setCell _ _ _ _ (by simpa using hne2)]
  exact (h.d D hD).2
theorem AS.mark {D : Nat} (h : AS w leave b b4 b5 b6 r p1 p2 Ds W) (hD : w.heap.size ≤ D) (hK : W.heap[D]? = some (.deferred (some []))) : AS w leave b b4 b5 b6 r p1 p2 (D :: Ds) W :=
  ⟨h.sv, h.j1, h.j2, fun D' h' => by
    rcases List.mem_cons.1 h' with e | h'
    · rw [e]; exact ⟨hD, hK⟩
    · exact h.d D' h'⟩
theorem AS.lts (h : AS w leave b b4 b5 b6 r p1 p2 Ds W) : b4 < W.heap.size ∧ b5 < W.heap.size ∧ b6 < W.heap.size ∧ p1 < W.heap.size ∧ p2 < W.heap.size ∧ ∀ D ∈ Ds, D < W.heap.size :=
  ⟨h.sv.r4.lt, h.sv.l5.lt, h.sv.o6.lt, h.j1.lt, h.j2.lt, fun D hD => lt_of_block (h.d D hD).2⟩
end
theorem res13 (w : World) (b : Nat) (v : Bool) (tmps : Array Value) (h4 : tmps[6]?.getD undef = P0 b) (hb : Blk w b 4 [.bool v]) : (results Try.f13 tmps).run Try.prog w = .ok (.bool v) w := by
  have hc := fits_cell hb 0 _ rfl
  simp [results, Try.results13, h4, asAddr, go_sem, hc]
/-- How stands leaves: both marks are taken. -/
theorem all_leaves {w W : World} {D2 D br : Nat} {tmps : Array Value} (h4 : tmps[6]?.getD undef = P0 br) (hb : Blk W br 4 [.bool true]) (hk : Kept [] w W) (h2 : W.heap[D2]? = some (.deferred (some []))) (h1 : W.heap[D]? = some (.deferred (some []))) (hne : D ≠ D2) (g2 : w.heap.size ≤ D2) (g1 : w.heap.size ≤ D) :
    LeavesInM Fence.wide 3 Try.prog Try.f13 tmps (fun e w' => e = .returned (.bool true) ∧ Kept [] w w') [{ target := .collected D2, args := #[] }, { target := .collected D, args := #[] }] .returning W := by
  have h1' : (W.putObj D2 (.deferred none)).heap[D]? = some (.deferred (some [])) := by rw [World.putObj_heap_other hne]; exact h1
  have hb1 : Blk (W.putObj D2 (.deferred none)) br 4 [.bool true] := blk_grown hb (grownBy_putObj' W D2 _) (fun r e => by cases e; exact ⟨_, h2, rfl⟩)
  have hb2 : Blk ((W.putObj D2 (.deferred none)).putObj D (.deferred none)) br 4 [.bool true] := blk_grown hb1 (grownBy_putObj' _ D _) (fun r e => by cases e; exact ⟨_, h1', rfl⟩)
  have k1 : Kept [] w (W.putObj D2 (.deferred none)) := kept_kept (B := w.heap.size) hk (grownBy_putObj' _ D2 (.deferred none)) (Nat.le_refl _) (fun r e => by cases e; exact g2)
  have k2 : Kept [] w ((W.putObj D2 (.deferred none)).putObj D (.deferred none)) := kept_kept (B := w.heap.size) k1 (grownBy_putObj' _ D (.deferred none)) (Nat.le_refl _) (fun r e => by cases e; exact g1)
  refine ⟨by simp, .inl ⟨_, _, rfl, run_takeDeferred h2, ?_⟩⟩
  refine ⟨by simp, .inl ⟨_, _, rfl, run_takeDeferred h1', ?_⟩⟩
  exact ⟨_, res13 _ _ _ _ h4 hb2, rfl, k2⟩
/-- The round's variables: how many letters were gone over, which turn it is. -/
structure AV (leave : Int) (turn : Int) (bn bt : Nat) (k : Nat) (W : World) : Prop where
  n : Blk W bn 3 [.int .i64 k]
  t : Blk W bt 3 [.int .i64 turn]
  go : turn = 0 → ¬ (1 ≤ k ∧ (k : Int) = leave)
theorem AV.kept {leave turn : Int} {bn bt k : Nat} {W W' : World} (h : AV leave turn bn bt k W) (hk : Kept [] W W') : AV leave turn bn bt k W' := ⟨h.n.kept hk (by simp), h.t.kept hk (by simp), h.go⟩
theorem AV.grown {leave turn : Int} {bn bt k : Nat} {W W' : World} {row : Option Nat} (h : AV leave turn bn bt k W) (hg : W.grownBy W' row) (hr : ∀ r, row = some r → ∃ o : Obj, W.heap[r]? = some o ∧ o.isCells = false) : AV leave turn bn bt k W' := ⟨blk_grown h.n hg hr, blk_grown h.t hg hr, h.go⟩
theorem AV.spoil {leave turn : Int} {bn bt k : Nat} {W W' : World} {v : Value} {bs : List Int} (h : AV leave turn bn bt k W) (hB : Bod W v bs) (hk : Kept v.ownBlock.toList W W') : AV leave turn bn bt k W' := ⟨h.n.kept hk (blk_bod hB h.n (by decide)), h.t.kept hk (blk_bod hB h.t (by decide)), h.go⟩
theorem bod_grown {W W' : World} {v : Value} {bs : List Int} {row : Option Nat} (h : Bod W v bs) (hg : W.grownBy W' row) (hr : ∀ r, row = some r → ∃ o : Obj, W.heap[r]? = some o ∧ o.isCells = false) : Bod W' v bs := ⟨owns_grown h.own hg hr, h.byte⟩
/-- What a round knows of its letter. -/
structure Rl (w : World) (F : List Ltr) (k : Nat) (x : Lx) (l : Ltr) (bx : Nat) (W : World) : Prop where
  at_ : F[k]? = some l
  bod : Bod W x.v l.bs
  ge : ∀ j, x.v.ownBlock = some j → w.heap.size ≤ j
  blk : Blk W bx 47 (l.D x.v)
/-- The frame at a round's beginning. -/
def ax (t : Array Value) (l : Ltr) (x : Lx) (bx : Nat) : Act := { tmps := (t.setIfInBounds 150 (aggV (l.D x.v))).setIfInBounds 24 (P0 bx), defers := [] }
/-- One range over All: gone through, or left where it must be. -/
theorem range_turn (id : Nat) (w : World) (b mb : Nat) (v : Value) (N : Nn) (leave : Int) (b4 b5 b6 r p1 p2 : Nat) (Ds : List Nat) (bn bt : Nat) (turn : Int) {gv : Operand} {ps : Array Tmp} {assign body : Code} {Q : Exit → Act → World → Prop} {a : Act} {W0 : World}
    (hg : a.eval gv = .func (.func 56) #[] #[P0 p1, P0 p2]) (hps : ps = #[150]) (hN : Nt W0 b mb v N) (hS : AS w leave b b4 b5 b6 r p1 p2 Ds W0) (hDs : ∀ D ∈ Ds, D < W0.heap.size) (hV : AV leave turn bn bt 0 W0)
    (hassign : ∀ (l : Nat) (x : Lx) (y : Ltr) (W : World) (K : Act → World → Prop), (∀ a' W' bx, Kept [] W W' → Blk W' bx 47 (y.D x.v) → a' = ax a.tmps y x bx → K a' W') →
      assign.wpIn (Fence.wide.inRound l) 1 Try.prog (Exit.then K (fun _ _ _ => False)) { tmps := a.tmps.setIfInBounds 150 (aggV (y.D x.v)), defers := [] } W)
    (hbody : ∀ (l : Nat) (pre : List Lx) (x : Lx) (y : Ltr) (bx : Nat) (W : World), AS w leave b b4 b5 b6 r p1 p2 Ds W → AV leave turn bn bt pre.length W → Rl w N.L pre.length x y bx W →
      body.wpIn (Fence.wide.inRound l) 1 Try.prog (ownPostG W0.heap.size (KeptS x) (fun pre W => AS w leave b b4 b5 b6 r p1 p2 Ds W ∧ AV leave turn bn bt pre.length W)
        (fun cd pre W => cd = .exit id ∧ turn = 0 ∧ AS w leave b b4 b5 b6 r p1 p2 Ds W ∧ Blk W bn 3 [.int .i64 pre.length] ∧ Blk W bt 3 [.int .i64 turn] ∧ (pre.length : Int) = leave) (pre ++ [x]) W) (ax a.tmps y x bx) W)
    (hdone : ∀ (E n : Nat) (W : World), W0.heap.size ≤ E → AS w leave b b4 b5 b6 r p1 p2 Ds W → Blk W bn 3 [.int .i64 n] → Blk W bt 3 [.int .i64 turn] → n ≤ N.L.length → (n = N.L.length ∨ (turn = 0 ∧ (n : Int) = leave)) → W.heap[E]? = some (.deferred (some [])) → Q .normal { a with defers := { target := .collected E, args := #[] } :: a.defers } W)
    (hE : ∀ a W, Q .normal a W → (Code.exit id).wpIn Fence.wide 3 Try.prog Q a W) : (Code.rangeFunc gv ps assign body).wpIn Fence.wide 3 Try.prog Q a W0 := by
  have hB : w.heap.size ≤ W0.heap.size := hS.sv.k.size
  refine wp_rangeA b mb v N p1 p2 hg (by rw [hps]; rfl) hN hS.j1 hS.j2
    (fun pre W => AS w leave b b4 b5 b6 r p1 p2 Ds W ∧ AV leave turn bn bt pre.length W)
    (fun cd pre W => cd = .exit id ∧ turn = 0 ∧ AS w leave b b4 b5 b6 r p1 p2 Ds W ∧ Blk W bn 3 [.int .i64 pre.length] ∧ Blk W bt 3 [.int .i64 turn] ∧ (pre.length : Int) = leave)
    (fun s A B row hs hg' hr => ⟨hs.1.grown hg' hB hDs hr, hs.2.grown hg' (fun r e => (hr r e).2)⟩) ?_ ⟨hS, hV⟩
    (fun pre x a' W => AS w leave b b4 b5 b6 r p1 p2 Ds W ∧ AV leave turn bn bt pre.length W ∧ ∃ y bx, Rl w N.L pre.length x y bx W ∧ a' = ax a.tmps y x bx) ?_ ?_ ?_ ?_ ?_
  · intro cd s A B row hs hg' hr
    obtain ⟨h1, h2, h3, h4, h5, h6⟩ := hs
    exact ⟨h1, h2, h3.grown hg' hB hDs hr, blk_grown h4 hg' (fun r e => (hr r e).2), blk_grown h5 hg' (fun r e => (hr r e).2), h6⟩
  · intro pre x a' s A B row hs hg' hr
    obtain ⟨h1, h2, y, bx, h3, h4⟩ := hs
    have hr2 : ∀ r, row = some r → ∃ o : Obj, A.heap[r]? = some o ∧ o.isCells = false := fun r e => (hr r e).2
    exact ⟨h1.grown hg' hB hDs hr, h2.grown hg' hr2, y, bx, ⟨h3.at_, bod_grown h3.bod hg' hr2, h3.ge, blk_grown h3.blk hg' hr2⟩, h4⟩
  · intro l pre x W K hI hEy hK
    obtain ⟨y, e1, e2, e3, e4⟩ := hEy.l
    have ev : Lx.vals N.L x = #[aggV (y.D x.v)] := by unfold Lx.vals; rw [e1]; rfl
    subst hps
    rw [ev]
    simp only [List.zip_toArray, List.zip_cons_cons, List.zip_nil_right, List.foldl_toArray, List.foldl_cons, List.foldl_nil]
    refine hassign l x y W K (fun a' W' bx hk hbx e => hK a' W' hk ⟨hI.1.kept hk, hI.2.kept hk, y, bx, ⟨by rw [← hEy.i]; exact e1, e2.kept hk (by simp), fun j hj => by have := e4 j hj; omega, hbx⟩, e⟩)
  · rintro l pre x a' W ⟨h1, h2, y, bx, h3, rfl⟩
    exact hbody l pre x y bx W h1 h2 h3
  · rintro E xs W hD hS2 hI hK
    have hlen : xs.length = N.L.length := by have := congrArg List.length hS2; rw [List.length_map, List.length_range] at this; exact this
    have hn := hI.2.n
    rw [hlen] at hn
    exact hdone E N.L.length W hD hI.1 hn hI.2.t (Nat.le_refl _) (.inl rfl) hK
  · rintro E cd pre W hD ⟨k, hk, _, hpk⟩ ⟨rfl, h2, h3, h4, h5, h6⟩ hK
    have hlen : pre.length = k := by have := congrArg List.length hpk; rw [List.length_map, List.length_range] at this; exact this
    exact hE _ _ (hdone E pre.length W hD h3 h4 h5 (by omega) (.inr ⟨h2, h6⟩) hK)

end Go.Proofs.Ytpcggcicpojdoaa
