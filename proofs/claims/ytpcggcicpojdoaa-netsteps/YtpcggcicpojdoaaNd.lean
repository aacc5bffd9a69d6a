/-
  A net as plain data, and how it stands in memory; laws for rows of one's own and for maps.
-/
import Derived.Test.YtpcggcicpojdoaaKit
import Derived.Laws.AppendOwn
import Derived.Laws.AppendOwnNone
import Derived.OwnWalk
import Derived.MapKept
import Derived.WalkSpells
namespace Go.Proofs.Ytpcggcicpojdoaa
open Go.RowKit

/-- The block that a slice lies in is none of X. -/
def Away (ao : Option Addr) (X : List Nat) : Prop := ∀ h off, ao = some ⟨h, off, none⟩ → h ∉ X
/-- A slice of values of one cell. -/
structure Vals (w : World) (ao : Option Addr) (m c : Nat) (vs : List Value) : Prop where
  len : vs.length = m
  cap : m ≤ c
  lies : vs ≠ [] → ∃ h off, ao = some ⟨h, off, none⟩ ∧ w.rangeAt h off vs
theorem Vals.kept {w w' : World} {ao : Option Addr} {m c : Nat} {vs : List Value} {X : List Nat} (h : Vals w ao m c vs) (hk : Kept X w w') (ha : Away ao X) : Vals w' ao m c vs := by
  refine ⟨h.len, h.cap, fun hne => ?_⟩
  obtain ⟨b, off, e, hr⟩ := h.lies hne
  exact ⟨b, off, e, fun j v hj => hk.cell (hr j v hj) (ha b off e)⟩
theorem grown_of_kept {w w' : World} (h : Kept [] w w') : w.grownBy w' none := ⟨h.os, h.tape, h.output, h.size, fun k hk _ => h.block k hk (by simp)⟩
theorem kept_kept {w W W' : World} {row : Option Nat} {B : Nat} (h : Kept [] w W) (hg : W.grownBy W' row) (hB : w.heap.size ≤ B) (hr : ∀ r, row = some r → B ≤ r) : Kept [] w W' :=
  ⟨hg.os.trans h.os, hg.tape.trans h.tape, hg.output.trans h.output, Nat.le_trans h.size hg.size, fun k hk hx => (hg.block k (Nat.lt_of_lt_of_le hk h.size) (fun e => by have := hr k e.symm; omega)).trans (h.block k hk hx)⟩




theorem kept_grown {w W W' : World} {row : Option Nat} (h : Kept [] w W) (hg : W.grownBy W' row) (hr : ∀ k, row = some k → w.heap.size ≤ k) : Kept [] w W' :=
  kept_kept (B := w.heap.size) h hg (Nat.le_refl _) hr
theorem owns_kept {w w' : World} {base e size n : Nat} {v : Value} {xs : List Value} (h : w.ownsRow base e size v n xs) (hk : Kept [] w w') : w'.ownsRow base e size v n xs :=
  h.kept (grown_of_kept hk) (by cases hv : v.ownBlock <;> simp)
/-- What a row of its own is, if it has elements. -/
theorem owns_blk {w : World} {base e : Nat} {v : Value} {xs : List Value} (h : w.ownsRow base e 1 v xs.length xs) (hne : xs ≠ []) : ∃ g ex, v = .slice (some ⟨g, 0, none⟩) xs.length (xs ++ ex).length ∧ base ≤ g ∧ Blk w g e (xs ++ ex) := by
  rcases h.2 with ⟨_, h2⟩ | ⟨g, cap, cur, h1, h2, h3, h4, h5, h6, h7⟩
  · exact absurd (List.length_eq_zero_iff.1 h2) hne
  · have e1 : cur.toList = xs ++ cur.toList.drop xs.length := by
      have := List.take_append_drop xs.length cur.toList
      rw [Nat.mul_one] at h7
      rw [h7] at this
      exact this.symm
    refine ⟨g, cur.toList.drop xs.length, ?_, h2, ?_⟩
    · rw [h1]
      congr 1
      rw [← e1, Array.length_toList]; omega
    · unfold Blk
      rw [← e1]
      exact h3
section
variable {ops : Array Oper} {rest : List Oper} {op : Oper} {a : Act} {w : World} {Q : Exit → Act → World → Prop}
theorem wpAppV {T e by8 : Nat} {z : Value} (hT : Try.prog.underlying T = some (.slice e)) (hI : (Try.prog.info? e).map (fun i => (i.zero, i.size, i.bytes)) = some (some z, 1, by8)) (hz : z.cells.size = 1) (h8 : by8 ≤ 8) (hgd : op.guard = none) (s x : Operand) (ho : op.op = .call { callee := .builtin .append, args := #[s, x], argTypes := #[T, T] })
    (B : Nat) (v : Value) (xs ys : List Value) (hs : a.eval s = v) (ao : Option Addr) (m c : Nat) (hx : a.eval x = .slice ao m c) (hnil : ao = none → m = 0 ∧ c = 0) (hys : Vals w ao m c ys) (hone : ∀ u ∈ ys, u.oneCell' = true) (hown : w.ownsRow B e 1 v xs.length xs) (hk : xs.length + m ≤ 1000000) (hB : B ≤ w.heap.size)
    (h : ∀ v' w', w'.ownsRow B e 1 v' (xs ++ ys).length (xs ++ ys) → w.grownBy w' v.ownBlock → wpList Try.prog ops Q rest (a.put op.dst v') w') : wpList Try.prog ops Q (op :: rest) a w := by
  obtain ⟨i0, hi, hz0, hz1, hz2⟩ := info_parts hI
  have hl := hys.len
  have hb8 : (xs.length + m) * by8 ≤ 140737488355328 := by
    have : (xs.length + m) * by8 ≤ 1000000 * 8 := Nat.mul_le_mul hk h8
    omega
  cases ao with
  | none =>
    obtain ⟨rfl, rfl⟩ := hnil rfl
    obtain rfl : ys = [] := List.length_eq_zero_iff.1 hl
    exact wpList_append_own_none hgd s x T ho B e i0 1 hT hi v _ _ hs hown hx (h v w (by rw [List.append_nil]; exact hown) ⟨rfl, rfl, rfl, Nat.le_refl _, fun _ _ _ => rfl⟩)
  | some ad =>
    refine wpList_append_own w hgd s x T ho B e i0 z 1 by8 hT hi hz0 hz1 hz2 hz (by decide) v xs.length xs hs hown ad m c ys hx (by omega) ?_ hone (by unfold maxLen; omega) hb8 hB ?_
    · intro j u hj
      obtain ⟨b, off, eq, hr⟩ := hys.lies (by intro e; subst e; simp at hj)
      cases eq
      rw [Addr.add_mid]
      exact hr j u hj
    · intro v' w' g1 g2 _
      rw [← hl, ← List.length_append] at g1
      exact h v' w' g1 g2
theorem wpBuildS1 {T e : Nat} (v : Value) (hr : ∀ w : World, (Instr.buildSlice T 1 #[(0, v)]).run Try.prog w = .ok (.slice (some ⟨w.heap.size, 0, none⟩) 1 1) (w.alloc (.cells [v].toArray e))) (hgd : op.guard = none) (x : Operand) (ho : op.op = .buildSlice T 1 #[(0, x)]) (hx : a.eval x = v)
    (h : ∀ W b, b = w.heap.size → Blk W b e [v] → Kept [] w W → wpList Try.prog ops Q rest (a.put op.dst (.slice (some ⟨b, 0, none⟩) 1 1)) W) : wpList Try.prog ops Q (op :: rest) a w :=
  wpList_plain hgd fun K hK => by
    unfold Oper.wp execOp
    simp only [ho, List.map_toArray, List.map_cons, List.map_nil, hx, Sem.run_bind, hr, Result.andThen_ok]
    exact hK _ _ (h _ _ rfl (Blk.new w e _) ((Kept.refl _ _).alloc _))
end
theorem blk_vals {w : World} {b e : Nat} {xs ex : List Value} (h : Blk w b e (xs ++ ex)) (ys zs : List Value) (hx : xs = ys ++ zs) : Vals w (some ⟨b, 0, none⟩) ys.length (xs ++ ex).length ys :=
  ⟨rfl, by rw [hx]; simp, fun _ => ⟨b, 0, rfl, h.rangeIn ys (fun j hj => by rw [Nat.zero_add, hx, List.append_assoc, List.getElem?_append_left hj])⟩⟩


theorem owns_keptX {w w' : World} {base e size n : Nat} {v : Value} {xs : List Value} {X : List Nat} (h : w.ownsRow base e size v n xs) (hk : Kept X w w') (hX : ∀ k, v.ownBlock = some k → k ∉ X) : w'.ownsRow base e size v n xs := by
  refine ⟨h.1, ?_⟩
  rcases h.2 with h2 | ⟨g, cap, cur, h1, h2, h3, h4⟩
  · exact .inl h2
  · exact .inr ⟨g, cap, cur, h1, h2, hk.heap h3 (hX g (by rw [h1]; rfl)), h4⟩
theorem owns_base {w : World} {base base' e size n : Nat} {v : Value} {xs : List Value} (h : w.ownsRow base e size v n xs) (hb : base' ≤ base) : w.ownsRow base' e size v n xs := by
  refine ⟨h.1, ?_⟩
  rcases h.2 with h2 | ⟨g, cap, cur, h1, h2, h3, h4⟩
  · exact .inl h2
  · exact .inr ⟨g, cap, cur, h1, by omega, h3, h4⟩
/-- A slice that a row of its own is, seen as a slice. -/
theorem owns_vals {w : World} {base e n : Nat} {v : Value} {xs : List Value} (h : w.ownsRow base e 1 v n xs) : ∃ ao c, v = .slice ao n c ∧ Vals w ao n c xs ∧ (ao = none → n = 0 ∧ c = 0) := by
  have h1 := h.1
  rcases h.2 with ⟨rfl, rfl⟩ | ⟨g, cap, cur, rfl, h2, h3, h4, h5, h6, h7⟩
  · exact ⟨none, 0, rfl, ⟨by omega, Nat.le_refl _, fun hne => absurd (List.length_eq_zero_iff.1 (by omega)) hne⟩, fun _ => ⟨rfl, rfl⟩⟩
  · refine ⟨some ⟨g, 0, none⟩, cap, rfl, ⟨by omega, h4, fun _ => ⟨g, 0, rfl, fun j u hj => ?_⟩⟩, fun e => by cases e⟩
    rw [Nat.zero_add, cell_of_block h3]
    have hlt : j < n := by have := (List.getElem?_eq_some_iff.1 hj).1; omega
    rw [← h7, Nat.mul_one, List.getElem?_take_of_lt hlt] at hj
    rw [← hj, Array.getElem?_toList]

/-- A letter: its number, from whom, to whom; the value of its body; its bytes. -/
structure Ltr where
  num : Int
  fr : Int
  to : Int
  v : Value
  bs : List Int
def Ltr.C (l : Ltr) : List Value := [.int .i64 l.num, .int .i64 l.fr, .int .i64 l.to, l.v]
theorem Ltr.lenC (l : Ltr) : l.C.length = 4 := rfl
/-- A body, in a block of its own. -/
structure Bod (W : World) (v : Value) (bs : List Int) : Prop where
  own : W.ownsRow 0 5 1 v bs.length (u8s bs)
  byte : ∀ x ∈ bs, 0 ≤ x ∧ x < 256
theorem Bod.one {W : World} {v : Value} {bs : List Int} (h : Bod W v bs) : v.oneCell' = true := by
  rcases h.own.2 with ⟨rfl, _⟩ | ⟨g, cap, cur, rfl, _⟩ <;> rfl
theorem Bod.kept {W W' : World} {v : Value} {bs : List Int} {X : List Nat} (h : Bod W v bs) (hk : Kept X W W') (hX : ∀ k, v.ownBlock = some k → k ∉ X) : Bod W' v bs := ⟨owns_keptX h.own hk hX, h.byte⟩
theorem Bod.sl {W : World} {v : Value} {bs : List Int} (h : Bod W v bs) : ∃ ao c, v = .slice ao bs.length c ∧ Vals W ao bs.length c (u8s bs) ∧ (ao = none → bs.length = 0 ∧ c = 0) := owns_vals h.own
theorem Bod.block {W : World} {v : Value} {bs : List Int} (h : Bod W v bs) : ∀ k, v.ownBlock = some k → ∃ cs, W.heap[k]? = some (.cells cs 5 (0, 0)) := by
  intro k hk
  rcases h.own.2 with ⟨rfl, _⟩ | ⟨g, cap, cur, rfl, _, h3, _⟩
  · cases hk
  · cases hk
    exact ⟨cur, h3⟩
theorem owns_block {W : World} {base e size n : Nat} {v : Value} {xs : List Value} (h : W.ownsRow base e size v n xs) : ∀ k, v.ownBlock = some k → ∃ cs, W.heap[k]? = some (.cells cs e (0, 0)) := by
  intro k hk
  rcases h.2 with ⟨rfl, _⟩ | ⟨g, cap, cur, rfl, _, h3, _⟩
  · cases hk
  · cases hk
    exact ⟨cur, h3⟩

structure Nn where
  nodes : Int
  last : Int
  L : List Ltr

def nums (L : List Ltr) : List Value := L.map fun l => .int .i64 l.num
theorem nums_len (L : List Ltr) : (nums L).length = L.length := by simp [nums]
theorem nums_one (L : List Ltr) : ∀ u ∈ nums L, u.oneCell' = true := by
  intro u hu
  obtain ⟨l, _, rfl⟩ := List.mem_map.1 hu
  rfl
def ents (L : List Ltr) : List (Value × Value) := L.map fun l => (.int .i64 l.num, aggV l.C)
def MapAt (W : World) (mb : Nat) (L : List Ltr) : Prop := ∃ es clock, W.heap[mb]? = some (.map es clock) ∧ es.toList.map (fun e => (e.key, e.val)) = ents L ∧ MapKept.Stamped es clock
theorem MapAt.kept {W W' : World} {mb : Nat} {L : List Ltr} {X : List Nat} (h : MapAt W mb L) (hk : Kept X W W') (hX : mb ∉ X) : MapAt W' mb L := by
  obtain ⟨es, c, h1, h2, hst⟩ := h
  exact ⟨es, c, hk.heap h1 hX, h2, hst⟩

/-- Where a number stands, and its letter. -/
def placeOf (k : Int) : List Ltr → Nat → Option (Nat × Ltr)
  | [], _ => none
  | l :: L, i => if k = l.num then some (i, l) else placeOf k L (i + 1)
theorem placeOf_some {k : Int} : ∀ {L : List Ltr} {i j : Nat} {l : Ltr}, placeOf k L i = some (j, l) → i ≤ j ∧ L[j - i]? = some l ∧ l.num = k := by
  intro L
  induction L with
  | nil => intro i j l h; cases h
  | cons x L ih =>
    intro i j l h
    unfold placeOf at h
    split at h
    · cases h
      exact ⟨Nat.le_refl _, by simp, by omega⟩
    · obtain ⟨h1, h2, h3⟩ := ih h
      refine ⟨by omega, ?_, h3⟩
      rw [show j - i = (j - (i + 1)) + 1 by omega]
      simpa using h2
theorem placeOf_none {k : Int} : ∀ {L : List Ltr} {i : Nat}, placeOf k L i = none → ∀ l ∈ L, l.num ≠ k := by
  intro L
  induction L with
  | nil => intro i h l hl; cases hl
  | cons x L ih =>
    intro i h l hl
    unfold placeOf at h
    split at h
    · cases h
    · rcases List.mem_cons.1 hl with rfl | hl
      · exact fun e => ‹¬ _› e.symm
      · exact ih h l hl
theorem placeOf_no {k : Int} : ∀ {L : List Ltr} {i : Nat}, (∀ l ∈ L, l.num ≠ k) → placeOf k L i = none := by
  intro L
  induction L with
  | nil => intro i _; rfl
  | cons x L ih =>
    intro i h
    unfold placeOf
    rw [if_neg (fun e => h x (List.mem_cons_self ..) e.symm)]
    exact ih fun l hl => h l (List.mem_cons_of_mem _ hl)

theorem find_now (k : Int) : ∀ (L : List Ltr) (es : List MapEntry) (i : Nat), es.map (fun e => (e.key, e.val)) = ents L → Instr.findNow (.int .i64) (.int .i64 k) es i = some ((placeOf k L i).map fun x => (x.1, aggV x.2.C)) := by
  intro L
  induction L with
  | nil => intro es i h; cases es with
    | nil => rfl
    | cons e es => simp [ents] at h
  | cons l L ih =>
    intro es i h
    cases es with
    | nil => simp [ents] at h
    | cons e es =>
      simp only [List.map_cons, ents, List.cons.injEq, Prod.mk.injEq] at h
      obtain ⟨⟨h1, h2⟩, h3⟩ := h
      unfold Instr.findNow placeOf
      rw [h1]
      simp only [Instr.sameNow, if_true]
      by_cases hk : k = l.num
      · simp [hk, h2]
      · rw [if_neg hk]
        have : (k == l.num) = false := by simpa using hk
        simp only [this]
        exact ih es (i + 1) h3

/-- A block that is put anew. -/
def putB (w : World) (r : Nat) (o : Obj) : World := { w with heap := w.heap.setIfInBounds r o }
theorem get_map {w : World} {r : Nat} {es : Array MapEntry} {c : Nat} (hb : w.heap[r]? = some (.map es c)) : (getObj r).run Try.prog w = .ok (.map es c) w := by simp [getObj, Sem.run, hb]
theorem set_map {w : World} {r : Nat} {es : Array MapEntry} {c : Nat} (o : Obj) (hb : w.heap[r]? = some (.map es c)) : (setObj r o).run Try.prog w = .ok () (putB w r o) := by simp [setObj, Sem.run, hb, putB]
theorem Try.map55 : Try.prog.underlying 55 = some (.map 2 47) := by kernel_rfl
theorem check2 (w : World) (em : Bool) (k : Int) : (Instr.checkKey em 10000 2 (.int .i64 k)).run Try.prog w = .ok () w := by cases em <;> kernel_rfl
theorem find2 (w : World) (k : Int) (L : List Ltr) (es : List MapEntry) (h : es.map (fun e => (e.key, e.val)) = ents L) : (Instr.findKey 2 (.int .i64 k) es).run Try.prog w = .ok ((placeOf k L 0).map fun x => (x.1, aggV x.2.C)) w := by
  unfold Instr.findKey
  simp [Sem.run_bind, run_underlying Try.underlying2, find_now k L es 0 h]
def zL : List Value := [.int .i64 0, .int .i64 0, .int .i64 0, .slice none 0 0]
theorem zero47 (w : World) : (zeroValue 47).run Try.prog w = .ok (aggV zL) w := by kernel_rfl
/-- What 'l, ok := m[k]' tells. -/
def lookV (k : Int) (L : List Ltr) : List Value := match placeOf k L 0 with
  | none => zL
  | some x => x.2.C
theorem run_look (w : World) (mb : Nat) (L : List Ltr) (k : Int) (h : MapAt w mb L) : (Instr.lookup 55 (.map (some mb)) (.int .i64 k) true).run Try.prog w = .ok (.tuple #[aggV (lookV k L), .bool (placeOf k L 0).isSome]) w := by
  obtain ⟨es, c, h1, h2, hst⟩ := h
  unfold Instr.lookup lookV
  simp only [Sem.run_bind, run_underlying Try.map55, Result.andThen_ok, get_map h1, Sem.run_pure, check2, find2 w k L _ h2]
  cases placeOf k L 0 with
  | none => simp; rfl
  | some x => simp
theorem run_look1 (w : World) (mb : Nat) (L : List Ltr) (k : Int) (h : MapAt w mb L) : (Instr.lookup 55 (.map (some mb)) (.int .i64 k) false).run Try.prog w = .ok (aggV (lookV k L)) w := by
  obtain ⟨es, c, h1, h2, hst⟩ := h
  unfold Instr.lookup lookV
  simp only [Sem.run_bind, run_underlying Try.map55, Result.andThen_ok, get_map h1, Sem.run_pure, check2, find2 w k L _ h2]
  cases placeOf k L 0 with
  | none => simp; rfl
  | some x => simp

theorem Kept.putB {X : List Nat} {a w : World} (h : Kept X a w) {r : Nat} (o : Obj) (hr : r ∈ X) : Kept X a (putB w r o) := by
  refine ⟨h.os, h.tape, h.output, by simp [Ytpcggcicpojdoaa.putB]; exact h.size, fun i hi hx => ?_⟩
  rw [← h.block i hi hx]
  simp only [Ytpcggcicpojdoaa.putB]
  rw [Array.getElem?_setIfInBounds_ne (by intro e; subst e; exact hx hr)]
theorem putB_at {w : World} {r : Nat} {o o' : Obj} (h : w.heap[r]? = some o) : (putB w r o').heap[r]? = some o' := by
  have := (Array.getElem?_eq_some_iff.1 h).1
  simp [putB, this]

theorem run_upd (w : World) (mb : Nat) (L : List Ltr) (l : Ltr) (h : MapAt w mb L) (hn : placeOf l.num L 0 = none) : ∃ w', (Instr.mapUpdate 55 (.map (some mb)) (.int .i64 l.num) (aggV l.C)).run Try.prog w = .ok () w' ∧ MapAt w' mb (L ++ [l]) ∧ Kept [mb] w w' := by
  obtain ⟨es, c, h1, h2, hst⟩ := h
  refine ⟨putB w mb (.map (es.push { key := .int .i64 l.num, val := aggV l.C, born := c }) (c + 1)), ?_, ⟨_, _, putB_at h1, ?_, MapKept.stamped_push hst ?_⟩, (Kept.refl _ _).putB _ (by simp)⟩
  · unfold Instr.mapUpdate
    simp only [Sem.run_bind, run_underlying Try.map55, Result.andThen_ok, get_map h1, check2, find2 w l.num L _ h2, hn, Option.map_none, set_map _ h1]
  · simp [ents, h2]
  · intro x hx e
    have hm : (x.key, x.val) ∈ es.toList.map (fun e => (e.key, e.val)) := List.mem_map.2 ⟨x, hx, rfl⟩
    rw [h2] at hm
    obtain ⟨l', hl', e'⟩ := List.mem_map.1 hm
    have h9 := congrArg Prod.fst e'
    rw [e] at h9
    simp at h9
    exact placeOf_none hn l' hl' h9
theorem ents_erase : ∀ (L : List Ltr) (es : List MapEntry) (i : Nat), es.map (fun e => (e.key, e.val)) = ents L → (es.eraseIdx i).map (fun e => (e.key, e.val)) = ents (L.eraseIdx i) := by
  intro L
  induction L with
  | nil => intro es i h; cases es with
    | nil => rfl
    | cons e es => simp [ents] at h
  | cons l L ih =>
    intro es i h
    cases es with
    | nil => simp [ents] at h
    | cons e es =>
      simp only [List.map_cons, ents, List.cons.injEq] at h
      cases i with
      | zero => exact h.2
      | succ i =>
        simp only [List.eraseIdx_cons_succ, List.map_cons, ents, List.cons.injEq]
        exact ⟨h.1, ih es i h.2⟩
theorem run_del (w : World) (mb : Nat) (L : List Ltr) (k : Int) (i : Nat) (l : Ltr) (h : MapAt w mb L) (hn : placeOf k L 0 = some (i, l)) : ∃ w', (Builtin.delete_ #[55, 2] 0 #[.map (some mb), .int .i64 k]).run Try.prog w = .ok (.tuple #[]) w' ∧ MapAt w' mb (L.eraseIdx i) ∧ Kept [mb] w w' := by
  obtain ⟨es, c, h1, h2, hst⟩ := h
  refine ⟨putB w mb (.map (es.eraseIdxIfInBounds i) c), ?_, ⟨_, _, putB_at h1, ?_, MapKept.stamped_erase hst i⟩, (Kept.refl _ _).putB _ (by simp)⟩
  · unfold Builtin.delete_
    simp [Sem.run_bind, run_underlying Try.map55, get_map h1, check2, find2 w k L _ h2, hn, set_map _ h1, putB]
  · rw [Array.toList_eraseIdxIfInBounds]
    exact ents_erase L _ i h2
theorem run_clr (w : World) (mb : Nat) (L : List Ltr) (h : MapAt w mb L) : ∃ w', (Builtin.clear_ #[55] 0 #[.map (some mb)]).run Try.prog w = .ok (.tuple #[]) w' ∧ MapAt w' mb [] ∧ Kept [mb] w w' := by
  obtain ⟨es, c, h1, h2, hst⟩ := h
  refine ⟨putB w mb (.map #[] c), ?_, ⟨_, _, putB_at h1, rfl, MapKept.stamped_empty _⟩, (Kept.refl _ _).putB _ (by simp)⟩
  unfold Builtin.clear_
  simp [Sem.run_bind, run_underlying Try.map55, get_map h1, set_map _ h1, putB]

/-- A net stands in memory. -/
structure Nt (W : World) (b mb : Nat) (v : Value) (N : Nn) : Prop where
  nodes : 1 ≤ N.nodes ∧ N.nodes ≤ 8
  head : Blk W b 58 [.int .i64 N.nodes, .int .i64 N.last, .map (some mb), v]
  map : MapAt W mb N.L
  ord : W.ownsRow 0 2 1 v N.L.length (nums N.L)
  body : ∀ l ∈ N.L, Bod W l.v l.bs
  last : 0 ≤ N.last
  many : N.L.length ≤ 4096
  num : ∀ l ∈ N.L, 1 ≤ l.num ∧ l.num ≤ N.last
  rise : N.L.Pairwise (fun a b => a.num < b.num)
  small : ∀ l ∈ N.L, l.bs.length ≤ 512
  ends : ∀ l ∈ N.L, (0 ≤ l.fr ∧ l.fr < N.nodes) ∧ 0 ≤ l.to ∧ l.to < N.nodes
/-- The blocks that a net writes. -/
def nX (b mb : Nat) (v : Value) : List Nat := b :: mb :: v.ownBlock.toList
theorem map_not_cells {W : World} {mb k : Nat} {L : List Ltr} {cs : Array Value} {e : TypeId} {p : Nat × Nat} (h : MapAt W mb L) (hk : W.heap[k]? = some (.cells cs e p)) : k ≠ mb := by
  obtain ⟨es, c, h1, _⟩ := h
  intro e
  subst e
  rw [h1] at hk
  cases hk
theorem Nt.away {W : World} {b mb : Nat} {v : Value} {N : Nn} (h : Nt W b mb v N) {u : Value} {bs : List Int} (hu : Bod W u bs) : ∀ k, u.ownBlock = some k → k ∉ nX b mb v := by
  intro k hk
  obtain ⟨cs, hc⟩ := hu.block k hk
  simp only [nX, List.mem_cons, Option.mem_toList, not_or]
  refine ⟨?_, map_not_cells h.map hc, ?_⟩
  · rintro rfl
    have := h.head
    unfold Blk at this
    rw [this] at hc
    cases hc
  · intro e
    obtain ⟨cs', hc'⟩ := owns_block h.ord k e
    rw [hc'] at hc
    cases hc
theorem Nt.kept {W W' : World} {b mb : Nat} {v : Value} {N : Nn} {X : List Nat} (h : Nt W b mb v N) (hk : Kept X W W') (hX : ∀ k, (∃ o, W.heap[k]? = some o ∧ k ∈ X) → k ∉ nX b mb v ∧ ∀ l ∈ N.L, l.v.ownBlock ≠ some k) : Nt W' b mb v N := by
  have hb : b ∉ X := fun hm => (hX b ⟨_, h.head, hm⟩).1 (by simp [nX])
  have hmb : mb ∉ X := fun hm => by
    obtain ⟨es, c, h1, _⟩ := h.map
    exact (hX mb ⟨_, h1, hm⟩).1 (by simp [nX])
  have hv : ∀ k, v.ownBlock = some k → k ∉ X := fun k e hm => by
    obtain ⟨cs, hc⟩ := owns_block h.ord k e
    exact (hX k ⟨_, hc, hm⟩).1 (by simp [nX, e])
  refine ⟨h.nodes, h.head.kept hk hb, h.map.kept hk hmb, owns_keptX h.ord hk hv, fun l hl => (h.body l hl).kept hk fun k e hm => ?_, h.last, h.many, h.num, h.rise, h.small, h.ends⟩
  obtain ⟨cs, hc⟩ := (h.body l hl).block k e
  exact (hX k ⟨_, hc, hm⟩).2 l hl e
theorem Nt.kept0 {W W' : World} {b mb : Nat} {v : Value} {N : Nn} (h : Nt W b mb v N) (hk : Kept [] W W') : Nt W' b mb v N := h.kept hk (fun k ⟨_, _, hm⟩ => by cases hm)
theorem Nt.lt {W : World} {b mb : Nat} {v : Value} {N : Nn} (h : Nt W b mb v N) : b < W.heap.size ∧ mb < W.heap.size ∧ ∀ k, v.ownBlock = some k → k < W.heap.size := by
  obtain ⟨es, c, h1, _⟩ := h.map
  refine ⟨h.head.lt, lt_of_block h1, fun k e => ?_⟩
  obtain ⟨cs, hc⟩ := owns_block h.ord k e
  exact lt_of_block hc

end Go.Proofs.Ytpcggcicpojdoaa
