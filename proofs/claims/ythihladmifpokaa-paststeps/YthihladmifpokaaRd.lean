/-
  find: the first mark of which something is so.
-/
import Derived.Test.YthihladmifpokaaRc
namespace Go.Proofs.Ythihladmifpokaa
set_option maxRecDepth 100000
set_option linter.unusedSimpArgs false
open Go.RowKit Go.Shelf
attribute [local go_sem] Oper.semAt_some

theorem zero4 (w : World) : (Instr.alloc 4 true (.tuple #[])).run Try.prog w = .ok (P0 w.heap.size) (w.alloc (.cells [Value.bool false].toArray 4)) := by kernel_rfl
theorem zero3w (w : World) : (Instr.alloc 3 true (.tuple #[])).run Try.prog w = .ok (P0 w.heap.size) (w.alloc (.cells [Value.int .i64 0].toArray 3)) := by kernel_rfl
theorem st1 {T : Nat} (hs : (Try.prog.info? T).map (·.size) = some 1) {v : Value} (h1 : One v) : ∀ (w : World) (b : Nat) (u : Value), Blk w b T [u] → (storeVar T ⟨b, 0, none⟩ v).run Try.prog w = .ok () (w.setCell ⟨b, 0, none⟩ v) := fun _ _ _ h => storeVar1 hs h (by simp) v h1.1 h1.2
section
variable {ops : Array Oper} {rest : List Oper} {o1 o2 op : Oper} {a : Act} {w : World} {Q : Exit → Act → World → Prop}
theorem wpVar {T : Nat} (z v : Value) (hr : ∀ w : World, (Instr.alloc T true (.tuple #[])).run Try.prog w = .ok (P0 w.heap.size) (w.alloc (.cells [z].toArray T))) (hst : ∀ (w : World) (b : Nat) (u : Value), Blk w b T [u] → (storeVar T ⟨b, 0, none⟩ v).run Try.prog w = .ok () (w.setCell ⟨b, 0, none⟩ v))
    (d : Nat) (hd : o1.dst = some d) (hg1 : o1.guard = none) (ho1 : o1.op = .alloc T) (y : Operand) (hg2 : o2.guard = none) (ho2 : o2.op = .store T (.tmp d) y) (hd2 : o2.dst = none)
    (hx : (a.put (some d) (P0 w.heap.size)).eval (.tmp d) = P0 w.heap.size) (hy : (a.put (some d) (P0 w.heap.size)).eval y = v)
    (h : ∀ W b, b = w.heap.size → Blk W b T [v] → Kept [] w W → wpList Try.prog ops Q rest (a.put (some d) (P0 b)) W) : wpList Try.prog ops Q (o1 :: o2 :: rest) a w :=
  wpList_plain hg1 fun K hK => by
    have hb : Blk (w.alloc (.cells [z].toArray T)) w.heap.size T [z] := Blk.new w T [z]
    unfold Oper.wp execOp
    simp only [ho1, Sem.run_bind, hr, Result.andThen_ok]
    refine hK _ _ ?_
    rw [hd]
    refine wpList_plain hg2 fun K' hK' => ?_
    unfold Oper.wp execOp
    simp only [ho2, hx, hy, Instr.storeAt, Instr.sureAddr, Sem.run_bind, Sem.run_pure, Result.andThen_ok, hst _ _ _ hb]
    refine hK' _ _ ?_
    rw [hd2]
    exact h _ _ rfl (hb.one v) (((Kept.refl _ _).alloc _).setCell (p := ⟨w.heap.size, 0, none⟩) (by simp) _)
end

section
variable {F : Fence} {n : Nat} {ops : Array Oper} {rest : List Oper} {o op : Oper} {a : Act} {w : World} {Q : Exit → Act → World → Prop}
theorem inStoreA {T m : Nat} (hT : Row T m) (hF : ∀ f, F.fn f) (hg : o.guard = none) (x y : Operand) (ho : o.op = .store T x y) (hsem : o.semAt F.round a.eval = execOp a.eval o) (hd : o.dst = none) (b : Nat) (vs us : List Value) (hx : a.eval x = P0 b) (hy : a.eval y = aggV vs) (hl : vs.length = m) (hu : us.length = m) (h1 : ∀ v ∈ vs, v.oneCell' = true) (hB : Blk w b T us)
    (h : ∀ W, Blk W b T vs → Kept [b] w W → wpListIn F n Try.prog ops Q rest a W) : wpListIn F n Try.prog ops Q (o :: rest) a w := by
  refine wpListIn_want (by simp [Region.wanted, hg]) (wpIn_skip (w' := w.setCells b 0 vs) hF hsem ?_ ?_)
  · obtain ⟨dd, g1, g2, g3⟩ := hT
    have := run_storeVar_mid (P := Try.prog) w b 0 T vs.toArray (by simpa [hl] using hB.there (by omega)) (by simpa [hl] using g3) (all_oneCell_toArray h1)
    have hy' : a.eval y = .agg vs.toArray := hy
    unfold execOp
    simp only [ho, hx, hy', Instr.storeAt, Instr.sureAddr, Sem.run_bind, Sem.run_pure, Result.andThen_ok, this]
  · rw [hd]
    exact h _ (hB.put (by omega)) ((Kept.refl _ _).setCells _ _ (by simp))
theorem wpBoxN {T : Nat} (hgd : op.guard = none) (x : Operand) (ho : op.op = .box T x) (g : FuncId) (cs : Array Value) (hx : a.eval x = fnV g cs)
    (h : ∀ W b, b = w.heap.size → Blk W b T [fnV g cs] → Kept [] w W → wpList Try.prog ops Q rest (a.put op.dst (P0 b)) W) : wpList Try.prog ops Q (op :: rest) a w :=
  wpList_plain hgd fun _ hK => by
    unfold Oper.wp execOp
    simp only [ho, hx]
    exact hK _ _ (h _ _ rfl (Blk.new w T _) ((Kept.refl _ _).alloc _))
end
/-- The first mark of which f is so. -/
def fndM (f : Mk → Bool) (L : List Mk) : Mk := (L.find? f).getD mk0
def fndB (f : Mk → Bool) (L : List Mk) : Bool := (L.find? f).isSome
theorem find_no {L : List Mk} {f : Mk → Bool} {k : Nat} {m : Mk} (h : (L.take k).find? f = none) (hm : L[k]? = some m) (hf : f m = false) : (L.take (k + 1)).find? f = none := by
  rw [List.take_add_one, hm, List.find?_append, h]
  simp [hf]
theorem find_yes {L : List Mk} {f : Mk → Bool} {k : Nat} {m : Mk} (h : (L.take k).find? f = none) (hm : L[k]? = some m) (hf : f m = true) : L.find? f = some m := by
  obtain ⟨hk, rfl⟩ := List.getElem?_eq_some_iff.1 hm
  have e : L = L.take k ++ L[k] :: L.drop (k + 1) := by simp
  refine (congrArg (List.find? f) e).trans ?_
  rw [List.find?_append, h, List.find?_cons, hf]
  rfl
theorem res36 (w : World) (b4 b5 : Nat) (x : Mk) (v : Bool) (tmps : Array Value) (h4 : tmps[4]?.getD undef = P0 b4) (h5 : tmps[5]?.getD undef = P0 b5) (hb4 : Blk w b4 54 x.C) (hb5 : Blk w b5 4 [.bool v]) : (results Try.f36 tmps).run Try.prog w = .ok (.tuple #[aggV x.C, .bool v]) w := by
  have hc := fits_cell hb5 0 _ rfl
  have c0 := fits_cell hb4 0 _ rfl
  have c1 := fits_cell hb4 1 _ rfl
  have c2 := fits_cell hb4 2 _ rfl
  simp [results, Try.results36, h4, h5, asAddr, go_sem, hc, c0, c1, c2]
  rfl
variable {w W W' V : World} {B b mb c b3 b4 b5 : Nat} {M L : List Mk} {so : Value} {x : Mk} {bv : Bool} {Z : List Nat} {f : Mk → Bool} {g : FuncId} {cs : Array Value}
/-- What stays through find: what is asked, what was found. -/
structure Fv (w W : World) (B b3 b4 b5 : Nat) (so : Value) (x : Mk) (bv : Bool) : Prop where
  h3 : Blk W b3 72 [so]
  h4 : Blk W b4 54 x.C
  h5 : Blk W b5 4 [.bool bv]
  kp : Kept [] w W
  lt : b3 < B ∧ b4 < B ∧ b5 < B
  ge : w.heap.size ≤ B ∧ w.heap.size ≤ b4 ∧ w.heap.size ≤ b5
  ne : b3 ≠ b4 ∧ b3 ≠ b5 ∧ b4 ≠ b5
theorem Fv.keep (h : Fv w W B b3 b4 b5 so x bv) (hk : Kept Z W W') (hz : ∀ i ∈ Z, B ≤ i) : Fv w W' B b3 b4 b5 so x bv := by
  have hl := h.lt
  have ne : ∀ j, j < B → j ∉ Z := fun j hj e => by have := hz j e; omega
  exact ⟨h.h3.kept hk (ne _ hl.1), h.h4.kept hk (ne _ hl.2.1), h.h5.kept hk (ne _ hl.2.2), h.kp.fresh hk (fun i hi hlt => by have := hz i hi; have := h.ge.1; omega), hl, h.ge, h.ne⟩
theorem Fv.step0 (h : Fv w W B b3 b4 b5 so x bv) (hk : Kept [] W W') : Fv w W' B b3 b4 b5 so x bv := h.keep hk (by simp)
/-- The frame at a round's beginning. -/
def ax (t : Array Value) (x : List Value) (bx : Nat) : Act := { tmps := (t.setIfInBounds 9 (aggV x)).setIfInBounds 6 (P0 bx), defers := [] }
/-- The range over All that find does: gone through, or left where it is found. -/
theorem range_find (id : Nat) {gv : Operand} {ps : Array Tmp} {assign body : Code} {Q : Exit → Act → World → Prop} {a : Act} {W0 : World}
    (hg : a.eval gv = fnV 45 #[P0 c]) (hps : ps = #[9]) (hS : Fv w W0 B b3 b4 b5 so mk0 false) (hB : B ≤ W0.heap.size) (hc : Blk W0 c 25 [P0 b]) (hP : Pg W0 b mb M) (hp : L.Perm M) (hs : Srt L)
    (hassign : ∀ (l : Nat) (x : Mk) (W : World) (K : Act → World → Prop), (∀ a' W' bx, Kept [] W W' → Blk W' bx 54 x.C → W.heap.size ≤ bx → a' = ax a.tmps x.C bx → K a' W') →
      assign.wpIn (Fence.wide.inRound l) 1 Try.prog (Exit.then K (fun _ _ _ => False)) { tmps := a.tmps.setIfInBounds 9 (aggV x.C), defers := [] } W)
    (hbody : ∀ (l k : Nat) (m : Mk) (bx : Nat) (W : World), L[k]? = some m → Fv w W B b3 b4 b5 so mk0 false → Blk W bx 54 m.C → B ≤ bx →
      body.wpIn (Fence.wide.inRound l) 1 Try.prog (fun e _ W3 => Kept [b4, b5] W W3 ∧ ((e = .normal ∧ f m = false ∧ Fv w W3 B b3 b4 b5 so mk0 false) ∨ (e = .exit id ∧ f m = true ∧ Fv w W3 B b3 b4 b5 so m true))) (ax a.tmps m.C bx) W)
    (hdone : ∀ (W : World), Fv w W B b3 b4 b5 so (fndM f L) (fndB f L) → W.heap[W0.heap.size]? = some (.deferred (some [])) → W0.heap.size + 2 ≤ W.heap.size → Q .normal { a with defers := { target := .collected W0.heap.size, args := #[] } :: a.defers } W)
    (hE : ∀ a W, Q .normal a W → (Code.exit id).wpIn Fence.wide 3 Try.prog Q a W) : (Code.rangeFunc gv ps assign body).wpIn Fence.wide 3 Try.prog Q a W0 := by
  subst hps
  have hl := hS.lt
  refine wp_rangeX 2 45 c (allC L) [b4, b5] hg cg45 rfl (by intro k hk; simp at hk; omega) ?hit
    (fun k W => Fv w W B b3 b4 b5 so mk0 false ∧ (L.take k).find? f = none)
    (fun cd k W => cd = .exit id ∧ ∃ m, L.find? f = some m ∧ Fv w W B b3 b4 b5 so m true) ?_ ?_ ⟨hS, by simp⟩
    (fun k a' W => ∃ m bx, L[k]? = some m ∧ Blk W bx 54 m.C ∧ W0.heap.size + 2 ≤ bx ∧ a' = ax a.tmps m.C bx) ?_ ?_ ?_ ?_ ?_
  case hit =>
    intro V hk hs2
    refine all45_in (W0.heap.size + 1) ((W0.heap.size + 1) :: [b4, b5]) (by intro k hk2; simp at hk2; omega) (hc.kept hk (by simp)) (hP.step hk (by simp) (by simp)) hp hs
  · rintro k A B' Z ⟨h1, h2⟩ hk hz
    exact ⟨h1.keep hk (fun i hi => by have := hz i hi; omega), h2⟩
  · rintro cd k A B' Z ⟨h1, m, h2, h3⟩ hk hz
    exact ⟨h1, m, h2, h3.keep hk (fun i hi => by have := hz i hi; omega)⟩
  · rintro k a' A B' ⟨m, bx, h1, h2, h3, h4⟩ hk
    exact ⟨m, bx, h1, h2.kept hk (by simp; omega), h3, h4⟩
  · intro l k x W K hx hI hsz hK
    obtain ⟨m, hm, rfl⟩ := allC_of hx
    simp only [List.zip_toArray, List.zip_cons_cons, List.zip_nil_right, List.foldl_toArray, List.foldl_cons, List.foldl_nil]
    exact hassign l m W K (fun a' W' bx hk hbx hge e => hK a' W' hk ⟨m, bx, hm, hbx, by omega, e⟩)
  · rintro l k x a' W hx ⟨h1, h2⟩ ⟨m, bx, hm, hbx, hge, rfl⟩ hsz
    refine wpIn_mono (hbody l k m bx W hm h1 hbx (by omega)) ?_
    rintro e a3 W3 ⟨hk, h9⟩
    refine ⟨hk, ?_⟩
    rcases h9 with ⟨rfl, h9, h8⟩ | ⟨rfl, h9, h8⟩
    · exact ⟨h8, find_no h2 hm h9⟩
    · exact ⟨rfl, m, find_yes h2 hm h9, h8⟩
  · intro W hk hsz hI hD
    rw [allC_len, List.take_length] at hI
    exact hdone W (by unfold fndM fndB; rw [hI.2]; exact hI.1) hD hsz
  · rintro cd k W hk hkX hsz ⟨rfl, m, h2, h3⟩ hD
    exact hE _ _ (hdone W (by unfold fndM fndB; rw [h2]; exact h3) hD hsz)

end Go.Proofs.Ythihladmifpokaa
