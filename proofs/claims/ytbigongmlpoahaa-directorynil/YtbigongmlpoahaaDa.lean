/-
  The map of a directory's locks.
-/
import Derived.Test.YtbigongmlpoahaaKc
import Derived.MapKept
namespace Go.Proofs.Ytbigongmlpoahaa.D
set_option maxRecDepth 100000
set_option linter.unusedSimpArgs false
open Go.RowKit

/-- An entry: a page, and where its lock lies. -/
structure En where
  k : Int
  p : Nat
def ents (L : List En) : List (Value × Value) := L.map fun l => (.int .i64 l.k, P0 l.p)
def MapAt (W : World) (mb : Nat) (L : List En) : Prop := ∃ es clock, W.heap[mb]? = some (.map es clock) ∧ es.toList.map (fun e => (e.key, e.val)) = ents L ∧ MapKept.Stamped es clock
theorem MapAt.kept {W W' : World} {mb : Nat} {L : List En} {X : List Nat} (h : MapAt W mb L) (hk : Kept X W W') (hX : mb ∉ X) : MapAt W' mb L := by
  obtain ⟨es, c, h1, h2, hst⟩ := h
  exact ⟨es, c, hk.heap h1 hX, h2, hst⟩
def placeOf (k : Int) : List En → Nat → Option (Nat × En)
  | [], _ => none
  | l :: L, i => if k = l.k then some (i, l) else placeOf k L (i + 1)
theorem placeOf_some {k : Int} : ∀ {L : List En} {i j : Nat} {l : En}, placeOf k L i = some (j, l) → i ≤ j ∧ L[j - i]? = some l ∧ l.k = k := by
  intro L
  induction L with
  | nil => intro i j l h; cases h
  | cons x L ih =>
    intro i j l h
    unfold placeOf at h
    split at h
    · cases h
      exact ⟨Nat.le_refl _, by simp, by omega⟩
    · obtain ⟨h1, h2, h3⟩ := ih h
      refine ⟨by omega, ?_, h3⟩
      rw [show j - i = (j - (i + 1)) + 1 by omega]
      simpa using h2
theorem placeOf_none {k : Int} : ∀ {L : List En} {i : Nat}, placeOf k L i = none → ∀ l ∈ L, l.k ≠ k := by
  intro L
  induction L with
  | nil => intro i h l hl; cases hl
  | cons x L ih =>
    intro i h l hl
    unfold placeOf at h
    split at h
    · cases h
    · rcases List.mem_cons.1 hl with rfl | hl
      · exact fun e => ‹¬ _› e.symm
      · exact ih h l hl
theorem placeOf_no {k : Int} : ∀ {L : List En} {i : Nat}, (∀ l ∈ L, l.k ≠ k) → placeOf k L i = none := by
  intro L
  induction L with
  | nil => intro i _; rfl
  | cons x L ih =>
    intro i h
    unfold placeOf
    rw [if_neg (fun e => h x (List.mem_cons_self ..) e.symm)]
    exact ih fun l hl => h l (List.mem_cons_of_mem _ hl)
theorem find_now (k : Int) : ∀ (L : List En) (es : List MapEntry) (i : Nat), es.map (fun e => (e.key, e.val)) = ents L → Instr.findNow (.int .i64) (.int .i64 k) es i = some ((placeOf k L i).map fun x => (x.1, P0 x.2.p)) := by
  intro L
  induction L with
  | nil => intro es i h; cases es with
    | nil => rfl
    | cons e es => simp [ents] at h
  | cons l L ih =>
    intro es i h
    cases es with
    | nil => simp [ents] at h
    | cons e es =>
      simp only [List.map_cons, ents, List.cons.injEq, Prod.mk.injEq] at h
      obtain ⟨⟨h1, h2⟩, h3⟩ := h
      unfold Instr.findNow placeOf
      rw [h1]
      simp only [Instr.sameNow, if_true]
      by_cases hk : k = l.k
      · simp [hk, h2]
      · rw [if_neg hk]
        have : (k == l.k) = false := by simpa using hk
        simp only [this]
        exact ih es (i + 1) h3
def putB (w : World) (r : Nat) (o : Obj) : World := { w with heap := w.heap.setIfInBounds r o }
theorem get_map {w : World} {r : Nat} {es : Array MapEntry} {c : Nat} (hb : w.heap[r]? = some (.map es c)) : (getObj r).run Try.prog w = .ok (.map es c) w := by simp [getObj, Sem.run, hb]
theorem set_map {w : World} {r : Nat} {es : Array MapEntry} {c : Nat} (o : Obj) (hb : w.heap[r]? = some (.map es c)) : (setObj r o).run Try.prog w = .ok () (putB w r o) := by simp [setObj, Sem.run, hb, putB]
theorem map53 : Try.prog.underlying 53 = some (.map 3 88) := by kernel_rfl
theorem check3 (w : World) (em : Bool) (k : Int) : (Instr.checkKey em 10000 3 (.int .i64 k)).run Try.prog w = .ok () w := by cases em <;> kernel_rfl
theorem find3 (w : World) (k : Int) (L : List En) (es : List MapEntry) (h : es.map (fun e => (e.key, e.val)) = ents L) : (Instr.findKey 3 (.int .i64 k) es).run Try.prog w = .ok ((placeOf k L 0).map fun x => (x.1, P0 x.2.p)) w := by
  unfold Instr.findKey
  simp [Sem.run_bind, run_underlying Try.underlying3, find_now k L es 0 h]
theorem zero3 (w : World) : (zeroValue 3).run Try.prog w = .ok (.int .i64 0) w := by kernel_rfl
/-- What 'l, ok := m[k]' tells. -/
def lookV (k : Int) (L : List En) : Value := match placeOf k L 0 with
  | none => .pointer none
  | some x => P0 x.2.p
theorem zero88 (w : World) : (zeroValue 88).run Try.prog w = .ok (.pointer none) w := by kernel_rfl
theorem run_look (w : World) (mb : Nat) (L : List En) (k : Int) (h : MapAt w mb L) : (Instr.lookup 53 (.map (some mb)) (.int .i64 k) true).run Try.prog w = .ok (.tuple #[lookV k L, .bool (placeOf k L 0).isSome]) w := by
  obtain ⟨es, c, h1, h2, hst⟩ := h
  unfold Instr.lookup lookV
  simp only [Sem.run_bind, run_underlying map53, Result.andThen_ok, get_map h1, Sem.run_pure, check3, find3 w k L _ h2]
  cases placeOf k L 0 with
  | none => simp [zero88]
  | some x => simp
theorem run_look1 (w : World) (mb : Nat) (L : List En) (k : Int) (h : MapAt w mb L) : (Instr.lookup 53 (.map (some mb)) (.int .i64 k) false).run Try.prog w = .ok (lookV k L) w := by
  obtain ⟨es, c, h1, h2, hst⟩ := h
  unfold Instr.lookup lookV
  simp only [Sem.run_bind, run_underlying map53, Result.andThen_ok, get_map h1, Sem.run_pure, check3, find3 w k L _ h2]
  cases placeOf k L 0 with
  | none => simp [zero88]
  | some x => simp
theorem run_len (w : World) (mb : Nat) (L : List En) (h : MapAt w mb L) : (Builtin.len_ #[53] 3 #[.map (some mb)]).run Try.prog w = .ok (.int .i64 L.length) w := by
  obtain ⟨es, c, h1, h2, hst⟩ := h
  have hl : es.size = L.length := by
    have := congrArg List.length h2
    simpa [ents] using this
  unfold Builtin.len_
  simp [Sem.run_bind, run_underlying map53, get_map h1, goInt, hl]
theorem keptB {X : List Nat} {a w : World} (h : Kept X a w) {r : Nat} (o : Obj) (hr : r ∈ X) : Kept X a (putB w r o) := by
  refine ⟨h.os, h.tape, h.output, by simp [Ytbigongmlpoahaa.D.putB]; exact h.size, fun i hi hx => ?_⟩
  rw [← h.block i hi hx]
  simp only [Ytbigongmlpoahaa.D.putB]
  rw [Array.getElem?_setIfInBounds_ne (by intro e; subst e; exact hx hr)]
theorem putB_at {w : World} {r : Nat} {o o' : Obj} (h : w.heap[r]? = some o) : (putB w r o').heap[r]? = some o' := by
  have := (Array.getElem?_eq_some_iff.1 h).1
  simp [putB, this]
theorem run_upd (w : World) (mb : Nat) (L : List En) (l : En) (h : MapAt w mb L) (hn : placeOf l.k L 0 = none) : ∃ w', (Instr.mapUpdate 53 (.map (some mb)) (.int .i64 l.k) (P0 l.p)).run Try.prog w = .ok () w' ∧ MapAt w' mb (L ++ [l]) ∧ Kept [mb] w w' := by
  obtain ⟨es, c, h1, h2, hst⟩ := h
  refine ⟨putB w mb (.map (es.push { key := .int .i64 l.k, val := P0 l.p, born := c }) (c + 1)), ?_, ⟨_, _, putB_at h1, ?_, MapKept.stamped_push hst ?_⟩, keptB (Kept.refl _ _) _ (by simp)⟩
  · unfold Instr.mapUpdate
    simp only [Sem.run_bind, run_underlying map53, Result.andThen_ok, get_map h1, check3, find3 w l.k L _ h2, hn, Option.map_none, set_map _ h1]
  · simp [ents, h2]
  · intro x hx e
    have hm : (x.key, x.val) ∈ es.toList.map (fun e => (e.key, e.val)) := List.mem_map.2 ⟨x, hx, rfl⟩
    rw [h2] at hm
    obtain ⟨l', hl', e'⟩ := List.mem_map.1 hm
    have h9 := congrArg Prod.fst e'
    rw [e] at h9
    simp at h9
    exact placeOf_none hn l' hl' h9
theorem map_not_cells {W : World} {mb k : Nat} {L : List En} {cs : Array Value} {e : TypeId} {p : Nat × Nat} (h : MapAt W mb L) (hk : W.heap[k]? = some (.cells cs e p)) : k ≠ mb := by
  obtain ⟨es, c, h1, _⟩ := h
  intro e
  subst e
  rw [h1] at hk
  cases hk
theorem MapAt.drew {W : World} {mb : Nat} {L : List En} (h : MapAt W mb L) : MapAt W.drew mb L := h
theorem MapAt.lt {W : World} {mb : Nat} {L : List En} (h : MapAt W mb L) : mb < W.heap.size := by
  obtain ⟨es, c, h1, _⟩ := h
  exact (Array.getElem?_eq_some_iff.1 h1).1


end Go.Proofs.Ytbigongmlpoahaa.D
