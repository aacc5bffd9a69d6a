/-
  The records that count, from the head on.
-/
import Derived.Test.YtmeajhdhiebkdaaDoorLj
import Derived.Test.YtmeajhdhiebkdaaDoorRcFol
namespace Go.Proofs.YtmeajhdhiebkdaaDoor
set_option maxRecDepth 100000
open Go.RowKit Go.Shelf
attribute [local go_sem] Oper.semAt_some

/-- The records that follow one another, up to the first that does not. -/
def standF (P : Int) : Rc.Rec → List Rc.Rec → List Rc.Rec
  | _, [] => []
  | a, r :: rs => if decide (P ≤ r.pg) || !Rc.folB a r then [] else r :: standF P r rs
def lastR (a : Rc.Rec) (pre : List Rc.Rec) : Rc.Rec := pre.getLast?.getD a
def ahead0 (nd ep st : Int) : Rc.Rec := ⟨nd, ep, st - 1, 0, 0, Rc.zs 96⟩
def standS (D : Dv.Dev) (J : Ar.Job) (nd st ep : Int) : List Rc.Rec := standF J.p (ahead0 nd ep st) (laidS D J nd st)
theorem blk_grown {W W' : World} {row : Option Nat} {b T : Nat} {us : List Value} (h : Blk W b T us) (hg : W.grownBy W' row) (hr : ∀ r, row = some r → ∃ o : Obj, W.heap[r]? = some o ∧ o.isCells = false) : Blk W' b T us := cells_kept h hg hr
theorem OwnO.grown {W W' : World} {row : Option Nat} {v : Value} {n : Nat} {xs : List Value} (h : OwnO W v n xs) (hg : W.grownBy W' row) (hr : ∀ r, row = some r → ∃ o : Obj, W.heap[r]? = some o ∧ o.isCells = false) : OwnO W' v n xs := by
  refine ⟨h.len, ?_⟩
  rcases h.lie with h2 | ⟨g, off, cap, cur, h1, h2, h3⟩
  · exact .inl h2
  · exact .inr ⟨g, off, cap, cur, h1, cells_kept h2 hg hr, h3⟩
theorem kept_kept {w W W' : World} {row : Option Nat} {B : Nat} (h : Kept [] w W) (hg : W.grownBy W' row) (hB : w.heap.size ≤ B) (hr : ∀ r, row = some r → B ≤ r) : Kept [] w W' :=
  h.fresh (X := row.toList) (Kept.of_grown hg (fun k e _ => by rw [e]; simp)) (fun i hi hl => by rw [Option.mem_toList] at hi; have := hr i hi; omega)
theorem keepsFrom_X {B : Nat} {W W' : World} {X : List Nat} (h : Kept X W W') (hX : ∀ k ∈ X, ∃ cs T p, W.heap[k]? = some (Obj.cells cs T p)) : KeepsFrom B W W' :=
  ⟨h.size, fun k o _ hk hc => by
    rw [h.block k (lt_of_block hk) (fun hm => by obtain ⟨cs, T, p, e⟩ := hX k hm; rw [hk] at e; cases e; simp [Obj.isCells] at hc)]
    exact hk⟩
theorem keepsFrom_of_kept {B : Nat} {W W' : World} (h : Kept [] W W') : KeepsFrom B W W' := keepsFrom_X h (by simp)
theorem KeptJ.keptX {A W W' : World} {X : List Nat} (h : KeptJ A W) (hk : Kept X W W') (hX : ∀ k ∈ X, ∀ cs T p, W.heap[k]? = some (Obj.cells cs T p) → T = 37 ∨ T = 45) : KeptJ A W' := by
  refine ⟨Nat.le_trans h.size hk.size, fun k cs T p h1 h2 hc => ?_⟩
  have h3 := h.block k cs T p h1 h2 hc
  rw [hk.block k (lt_of_block h3) (fun hm => by rcases hX k hm cs T p h3 with e | e; exact h1 e; exact h2 e)]
  exact h3
/-- What standing keeps along its rounds. -/
structure Si (w : World) (t5 t9 t10 : Nat) (J : Ar.Job) (pre : List Rc.Rec) (a : Rc.Rec) (W : World) : Prop where
  row : ∃ u, Blk W t9 37 [u] ∧ OwnO W u pre.length (cellsR pre) ∧ ∀ k, u.ownBlock = some k → w.heap.size ≤ k ∧ k ≠ t10
  ah : Blk W t10 45 (Rc.recC a)
  j : Blk W t5 23 (Ar.jobC J)
  k : Kept [] w W
  ab : Rc.Byts 96 a.bd ∧ Rc.I64 a.ls
theorem Si.kept {w : World} {t5 t9 t10 : Nat} {J : Ar.Job} {pre : List Rc.Rec} {a : Rc.Rec} {W W' : World} (h : Si w t5 t9 t10 J pre a W) (hk : Kept [] W W') : Si w t5 t9 t10 J pre a W' := by
  obtain ⟨u, h1, h2, h3⟩ := h.row
  exact ⟨⟨u, h1.kept hk (by simp), h2.kept hk (by simp), h3⟩, h.ah.kept hk (by simp), h.j.kept hk (by simp), h.k.trans hk, h.ab⟩
theorem Si.grown {w : World} {t5 t9 t10 : Nat} {J : Ar.Job} {pre : List Rc.Rec} {a : Rc.Rec} {W W' : World} {row : Option Nat} {B : Nat} (h : Si w t5 t9 t10 J pre a W) (hg : W.grownBy W' row) (hB : w.heap.size ≤ B) (hr : ∀ r, row = some r → B ≤ r ∧ ∃ o : Obj, W.heap[r]? = some o ∧ o.isCells = false) : Si w t5 t9 t10 J pre a W' := by
  obtain ⟨u, h1, h2, h3⟩ := h.row
  have hr2 : ∀ r, row = some r → ∃ o : Obj, W.heap[r]? = some o ∧ o.isCells = false := fun r e => (hr r e).2
  exact ⟨⟨u, blk_grown h1 hg hr2, h2.grown hg hr2, h3⟩, blk_grown h.ah hg hr2, blk_grown h.j hg hr2, kept_kept h.k hg hB (fun r e => (hr r e).1), h.ab⟩
theorem standF_step {P : Int} {a0 : Rc.Rec} {S pre : List Rc.Rec} {k : Nat} {r : Rc.Rec} (h : standF P a0 S = pre ++ standF P (lastR a0 pre) (S.drop k)) (hr : S[k]? = some r) :
    (¬ (decide (P ≤ r.pg) || !Rc.folB (lastR a0 pre) r) = true → standF P a0 S = (pre ++ [r]) ++ standF P (lastR a0 (pre ++ [r])) (S.drop (k + 1))) ∧ ((decide (P ≤ r.pg) || !Rc.folB (lastR a0 pre) r) = true → standF P a0 S = pre) := by
  have hk := (List.getElem?_eq_some_iff.1 hr).1
  have hd : S.drop k = r :: S.drop (k + 1) := by
    rw [List.drop_eq_getElem_cons hk]
    have := (List.getElem?_eq_some_iff.1 hr).2
    rw [this]
  rw [hd, standF] at h
  have hl : lastR a0 (pre ++ [r]) = r := by simp [lastR]
  constructor
  · intro hn
    rw [if_neg hn] at h
    rw [h, hl, List.append_assoc]
    rfl
  · intro hy
    rw [if_pos hy, List.append_nil] at h
    exact h
theorem build45h (w : World) (nd ep st : Int) : (Instr.build 45 #[(0, .int .i64 nd), (1, .int .i64 ep), (2, .int .i64 (st - 1))]).run Tryd.prog w = .ok (aggV (Rc.recC (ahead0 nd ep st))) w := by kernel_rfl
theorem alloc37 (w : World) : (Instr.alloc 37 true (.tuple #[])).run Tryd.prog w = .ok (P0 w.heap.size) (w.alloc (.cells [Value.slice none 0 0].toArray 37)) := by kernel_rfl
theorem fol83 (a b : Rc.Rec) (ha : Rc.I64 a.ls) (hb : Rc.I64 b.ls) (w : World) : Calls Tryd.prog 83 #[aggV (Rc.recC a), aggV (Rc.recC b)] w fun e w' => e = .returned (.bool (Rc.folB a b)) ∧ Kept [] w w' := Rc.follows24 a b ha hb w
theorem laidF_ok {D : Dv.Dev} (hD : D.Ok) (J : Ar.Job) (nd : Int) : ∀ (m : Nat) (s : Int), ∀ r ∈ laidF D J nd s m, r.Ok
  | 0, _ => by simp [laidF]
  | m + 1, s => by
    unfold laidF
    split
    · intro r hr
      rcases List.mem_cons.1 hr with rfl | hr
      · exact Rc.getR_ok (read_byts hD _) (read_byts hD _)
      · exact laidF_ok hD J nd m (s + 1) r hr
    · simp

end Go.Proofs.YtmeajhdhiebkdaaDoor
