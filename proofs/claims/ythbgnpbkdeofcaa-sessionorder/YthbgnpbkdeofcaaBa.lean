/-
  Rows of one's own, and bodies.
-/
import Derived.Test.YthbgnpbkdeofcaaKit
import Derived.Laws.AppendOwn
import Derived.Laws.AppendOwnNone
import Derived.OwnWalk
import Derived.MapKept
import Derived.WalkSpells
namespace Go.Proofs.Ythbgnpbkdeofcaa
open Go.RowKit

/-- The block that a slice lies in is none of X. -/
def Away (ao : Option Addr) (X : List Nat) : Prop := ∀ h off, ao = some ⟨h, off, none⟩ → h ∉ X
/-- A slice of values of one cell. -/
structure Vals (w : World) (ao : Option Addr) (m c : Nat) (vs : List Value) : Prop where
  len : vs.length = m
  cap : m ≤ c
  lies : vs ≠ [] → ∃ h off, ao = some ⟨h, off, none⟩ ∧ w.rangeAt h off vs
theorem Vals.kept {w w' : World} {ao : Option Addr} {m c : Nat} {vs : List Value} {X : List Nat} (h : Vals w ao m c vs) (hk : Kept X w w') (ha : Away ao X) : Vals w' ao m c vs := by
  refine ⟨h.len, h.cap, fun hne => ?_⟩
  obtain ⟨b, off, e, hr⟩ := h.lies hne
  exact ⟨b, off, e, fun j v hj => hk.cell (hr j v hj) (ha b off e)⟩
theorem grown_of_kept {w w' : World} (h : Kept [] w w') : w.grownBy w' none := ⟨h.os, h.tape, h.output, h.size, fun k hk _ => h.block k hk (by simp)⟩
theorem kept_kept {w W W' : World} {row : Option Nat} {B : Nat} (h : Kept [] w W) (hg : W.grownBy W' row) (hB : w.heap.size ≤ B) (hr : ∀ r, row = some r → B ≤ r) : Kept [] w W' :=
  ⟨hg.os.trans h.os, hg.tape.trans h.tape, hg.output.trans h.output, Nat.le_trans h.size hg.size, fun k hk hx => (hg.block k (Nat.lt_of_lt_of_le hk h.size) (fun e => by have := hr k e.symm; omega)).trans (h.block k hk hx)⟩




theorem kept_grown {w W W' : World} {row : Option Nat} (h : Kept [] w W) (hg : W.grownBy W' row) (hr : ∀ k, row = some k → w.heap.size ≤ k) : Kept [] w W' :=
  kept_kept (B := w.heap.size) h hg (Nat.le_refl _) hr
theorem owns_kept {w w' : World} {base e size n : Nat} {v : Value} {xs : List Value} (h : w.ownsRow base e size v n xs) (hk : Kept [] w w') : w'.ownsRow base e size v n xs :=
  h.kept (grown_of_kept hk) (by cases hv : v.ownBlock <;> simp)
/-- What a row of its own is, if it has elements. -/
theorem owns_blk {w : World} {base e : Nat} {v : Value} {xs : List Value} (h : w.ownsRow base e 1 v xs.length xs) (hne : xs ≠ []) : ∃ g ex, v = .slice (some ⟨g, 0, none⟩) xs.length (xs ++ ex).length ∧ base ≤ g ∧ Blk w g e (xs ++ ex) := by
  rcases h.2 with ⟨_, h2⟩ | ⟨g, cap, cur, h1, h2, h3, h4, h5, h6, h7⟩
  · exact absurd (List.length_eq_zero_iff.1 h2) hne
  · have e1 : cur.toList = xs ++ cur.toList.drop xs.length := by
      have := List.take_append_drop xs.length cur.toList
      rw [Nat.mul_one] at h7
      rw [h7] at this
      exact this.symm
    refine ⟨g, cur.toList.drop xs.length, ?_, h2, ?_⟩
    · rw [h1]
      congr 1
      rw [← e1, Array.length_toList]; omega
    · unfold Blk
      rw [← e1]
      exact h3
section
variable {ops : Array Oper} {rest : List Oper} {op : Oper} {a : Act} {w : World} {Q : Exit → Act → World → Prop}
theorem wpAppV {T e by8 : Nat} {z : Value} (hT : Try.prog.underlying T = some (.slice e)) (hI : (Try.prog.info? e).map (fun i => (i.zero, i.size, i.bytes)) = some (some z, 1, by8)) (hz : z.cells.size = 1) (h8 : by8 ≤ 8) (hgd : op.guard = none) (s x : Operand) (ho : op.op = .call { callee := .builtin .append, args := #[s, x], argTypes := #[T, T] })
    (B : Nat) (v : Value) (xs ys : List Value) (hs : a.eval s = v) (ao : Option Addr) (m c : Nat) (hx : a.eval x = .slice ao m c) (hnil : ao = none → m = 0 ∧ c = 0) (hys : Vals w ao m c ys) (hone : ∀ u ∈ ys, u.oneCell' = true) (hown : w.ownsRow B e 1 v xs.length xs) (hk : xs.length + m ≤ 1000000) (hB : B ≤ w.heap.size)
    (h : ∀ v' w', w'.ownsRow B e 1 v' (xs ++ ys).length (xs ++ ys) → w.grownBy w' v.ownBlock → wpList Try.prog ops Q rest (a.put op.dst v') w') : wpList Try.prog ops Q (op :: rest) a w := by
  obtain ⟨i0, hi, hz0, hz1, hz2⟩ := info_parts hI
  have hl := hys.len
  have hb8 : (xs.length + m) * by8 ≤ 140737488355328 := by
    have : (xs.length + m) * by8 ≤ 1000000 * 8 := Nat.mul_le_mul hk h8
    omega
  cases ao with
  | none =>
    obtain ⟨rfl, rfl⟩ := hnil rfl
    obtain rfl : ys = [] := List.length_eq_zero_iff.1 hl
    exact wpList_append_own_none hgd s x T ho B e i0 1 hT hi v _ _ hs hown hx (h v w (by rw [List.append_nil]; exact hown) ⟨rfl, rfl, rfl, Nat.le_refl _, fun _ _ _ => rfl⟩)
  | some ad =>
    refine wpList_append_own w hgd s x T ho B e i0 z 1 by8 hT hi hz0 hz1 hz2 hz (by decide) v xs.length xs hs hown ad m c ys hx (by omega) ?_ hone (by unfold maxLen; omega) hb8 hB ?_
    · intro j u hj
      obtain ⟨b, off, eq, hr⟩ := hys.lies (by intro e; subst e; simp at hj)
      cases eq
      rw [Addr.add_mid]
      exact hr j u hj
    · intro v' w' g1 g2 _
      rw [← hl, ← List.length_append] at g1
      exact h v' w' g1 g2
theorem wpBuildS1 {T e : Nat} (v : Value) (hr : ∀ w : World, (Instr.buildSlice T 1 #[(0, v)]).run Try.prog w = .ok (.slice (some ⟨w.heap.size, 0, none⟩) 1 1) (w.alloc (.cells [v].toArray e))) (hgd : op.guard = none) (x : Operand) (ho : op.op = .buildSlice T 1 #[(0, x)]) (hx : a.eval x = v)
    (h : ∀ W b, b = w.heap.size → Blk W b e [v] → Kept [] w W → wpList Try.prog ops Q rest (a.put op.dst (.slice (some ⟨b, 0, none⟩) 1 1)) W) : wpList Try.prog ops Q (op :: rest) a w :=
  wpList_plain hgd fun K hK => by
    unfold Oper.wp execOp
    simp only [ho, List.map_toArray, List.map_cons, List.map_nil, hx, Sem.run_bind, hr, Result.andThen_ok]
    exact hK _ _ (h _ _ rfl (Blk.new w e _) ((Kept.refl _ _).alloc _))
end
theorem blk_vals {w : World} {b e : Nat} {xs ex : List Value} (h : Blk w b e (xs ++ ex)) (ys zs : List Value) (hx : xs = ys ++ zs) : Vals w (some ⟨b, 0, none⟩) ys.length (xs ++ ex).length ys :=
  ⟨rfl, by rw [hx]; simp, fun _ => ⟨b, 0, rfl, h.rangeIn ys (fun j hj => by rw [Nat.zero_add, hx, List.append_assoc, List.getElem?_append_left hj])⟩⟩


theorem owns_keptX {w w' : World} {base e size n : Nat} {v : Value} {xs : List Value} {X : List Nat} (h : w.ownsRow base e size v n xs) (hk : Kept X w w') (hX : ∀ k, v.ownBlock = some k → k ∉ X) : w'.ownsRow base e size v n xs := by
  refine ⟨h.1, ?_⟩
  rcases h.2 with h2 | ⟨g, cap, cur, h1, h2, h3, h4⟩
  · exact .inl h2
  · exact .inr ⟨g, cap, cur, h1, h2, hk.heap h3 (hX g (by rw [h1]; rfl)), h4⟩
theorem owns_base {w : World} {base base' e size n : Nat} {v : Value} {xs : List Value} (h : w.ownsRow base e size v n xs) (hb : base' ≤ base) : w.ownsRow base' e size v n xs := by
  refine ⟨h.1, ?_⟩
  rcases h.2 with h2 | ⟨g, cap, cur, h1, h2, h3, h4⟩
  · exact .inl h2
  · exact .inr ⟨g, cap, cur, h1, by omega, h3, h4⟩
/-- A slice that a row of its own is, seen as a slice. -/
theorem owns_vals {w : World} {base e n : Nat} {v : Value} {xs : List Value} (h : w.ownsRow base e 1 v n xs) : ∃ ao c, v = .slice ao n c ∧ Vals w ao n c xs ∧ (ao = none → n = 0 ∧ c = 0) := by
  have h1 := h.1
  rcases h.2 with ⟨rfl, rfl⟩ | ⟨g, cap, cur, rfl, h2, h3, h4, h5, h6, h7⟩
  · exact ⟨none, 0, rfl, ⟨by omega, Nat.le_refl _, fun hne => absurd (List.length_eq_zero_iff.1 (by omega)) hne⟩, fun _ => ⟨rfl, rfl⟩⟩
  · refine ⟨some ⟨g, 0, none⟩, cap, rfl, ⟨by omega, h4, fun _ => ⟨g, 0, rfl, fun j u hj => ?_⟩⟩, fun e => by cases e⟩
    rw [Nat.zero_add, cell_of_block h3]
    have hlt : j < n := by have := (List.getElem?_eq_some_iff.1 hj).1; omega
    rw [← h7, Nat.mul_one, List.getElem?_take_of_lt hlt] at hj
    rw [← hj, Array.getElem?_toList]

/-- A body, in a block of its own. -/
structure Bod (W : World) (v : Value) (bs : List Int) : Prop where
  own : W.ownsRow 0 5 1 v bs.length (u8s bs)
  byte : ∀ x ∈ bs, 0 ≤ x ∧ x < 256
theorem Bod.one {W : World} {v : Value} {bs : List Int} (h : Bod W v bs) : v.oneCell' = true := by
  rcases h.own.2 with ⟨rfl, _⟩ | ⟨g, cap, cur, rfl, _⟩ <;> rfl
theorem Bod.kept {W W' : World} {v : Value} {bs : List Int} {X : List Nat} (h : Bod W v bs) (hk : Kept X W W') (hX : ∀ k, v.ownBlock = some k → k ∉ X) : Bod W' v bs := ⟨owns_keptX h.own hk hX, h.byte⟩
theorem Bod.sl {W : World} {v : Value} {bs : List Int} (h : Bod W v bs) : ∃ ao c, v = .slice ao bs.length c ∧ Vals W ao bs.length c (u8s bs) ∧ (ao = none → bs.length = 0 ∧ c = 0) := owns_vals h.own
theorem Bod.block {W : World} {v : Value} {bs : List Int} (h : Bod W v bs) : ∀ k, v.ownBlock = some k → ∃ cs, W.heap[k]? = some (.cells cs 5 (0, 0)) := by
  intro k hk
  rcases h.own.2 with ⟨rfl, _⟩ | ⟨g, cap, cur, rfl, _, h3, _⟩
  · cases hk
  · cases hk
    exact ⟨cur, h3⟩
theorem owns_block {W : World} {base e size n : Nat} {v : Value} {xs : List Value} (h : W.ownsRow base e size v n xs) : ∀ k, v.ownBlock = some k → ∃ cs, W.heap[k]? = some (.cells cs e (0, 0)) := by
  intro k hk
  rcases h.2 with ⟨rfl, _⟩ | ⟨g, cap, cur, rfl, _, h3, _⟩
  · cases hk
  · cases hk
    exact ⟨cur, h3⟩


end Go.Proofs.Ythbgnpbkdeofcaa
