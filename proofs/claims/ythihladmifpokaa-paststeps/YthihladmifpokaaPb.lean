/-
  A map of marks: looked up, laid, taken, emptied.
-/
import Derived.Test.YthihladmifpokaaPa
namespace Go.Proofs.Ythihladmifpokaa
set_option maxRecDepth 100000
set_option linter.unusedSimpArgs false
open Go.RowKit

def putB (w : World) (r : Nat) (o : Obj) : World := { w with heap := w.heap.setIfInBounds r o }
theorem get_map {w : World} {r : Nat} {es : Array MapEntry} {c : Nat} (hb : w.heap[r]? = some (.map es c)) : (getObj r).run Try.prog w = .ok (.map es c) w := by simp [getObj, Sem.run, hb]
theorem set_map {w : World} {r : Nat} {es : Array MapEntry} {c : Nat} (o : Obj) (hb : w.heap[r]? = some (.map es c)) : (setObj r o).run Try.prog w = .ok () (putB w r o) := by simp [setObj, Sem.run, hb, putB]
theorem map50 : Try.prog.underlying 50 = some (.map 67 2) := by kernel_rfl
theorem check67 (w : World) (em : Bool) (p s : Int) : (Instr.checkKey em 10000 67 (aggV (keyC p s))).run Try.prog w = .ok () w := by cases em <;> kernel_rfl
theorem zero2v (w : World) : (zeroValue 2).run Try.prog w = .ok (.int .i64 0) w := by kernel_rfl
def lookV (p s : Int) (L : List Mk) : Int := match placeOf p s L 0 with
  | none => 0
  | some x => x.2.f
theorem run_look (w : World) (mb : Nat) (L : List Mk) (p s : Int) (h : MapAt w mb L) : (Instr.lookup 50 (.map (some mb)) (aggV (keyC p s)) true).run Try.prog w = .ok (.tuple #[.int .i64 (lookV p s L), .bool (placeOf p s L 0).isSome]) w := by
  obtain ⟨es, c, h1, h2, hst⟩ := h
  unfold Instr.lookup lookV
  simp only [Sem.run_bind, run_underlying map50, Result.andThen_ok, get_map h1, Sem.run_pure, check67, find67 w p s L _ h2]
  cases placeOf p s L 0 with
  | none => simp [zero2v]
  | some x => simp
theorem Kept.putB {X : List Nat} {a w : World} (h : Kept X a w) {r : Nat} (o : Obj) (hr : r ∈ X) : Kept X a (putB w r o) := by
  refine ⟨h.os, h.tape, h.output, by simp [Ythihladmifpokaa.putB]; exact h.size, fun i hi hx => ?_⟩
  rw [← h.block i hi hx]
  simp only [Ythihladmifpokaa.putB]
  rw [Array.getElem?_setIfInBounds_ne (by intro e; subst e; exact hx hr)]
theorem putB_at {w : World} {r : Nat} {o o' : Obj} (h : w.heap[r]? = some o) : (putB w r o').heap[r]? = some o' := by
  have := (Array.getElem?_eq_some_iff.1 h).1
  simp [putB, this]
theorem key_at {L : List Mk} {es : List MapEntry} (h : es.map (fun e => (e.key, e.val)) = ents L) {x : MapEntry} (hx : x ∈ es) : ∃ l ∈ L, x.key = aggV l.K ∧ x.val = .int .i64 l.f := by
  have hm : (x.key, x.val) ∈ es.map (fun e => (e.key, e.val)) := List.mem_map.2 ⟨x, hx, rfl⟩
  rw [h] at hm
  obtain ⟨l, hl, e⟩ := List.mem_map.1 hm
  exact ⟨l, hl, (congrArg Prod.fst e).symm, (congrArg Prod.snd e).symm⟩
theorem key_inj {a b c e : Int} (h : aggV (keyC a b) = aggV (keyC c e)) : a = c ∧ b = e := by
  simp [aggV, keyC] at h
  exact h
theorem run_upd_new (w : World) (mb : Nat) (L : List Mk) (l : Mk) (h : MapAt w mb L) (hn : placeOf l.p l.s L 0 = none) : ∃ w', (Instr.mapUpdate 50 (.map (some mb)) (aggV l.K) (.int .i64 l.f)).run Try.prog w = .ok () w' ∧ MapAt w' mb (L ++ [l]) ∧ Kept [mb] w w' := by
  obtain ⟨es, c, h1, h2, hst⟩ := h
  refine ⟨putB w mb (.map (es.push { key := aggV l.K, val := .int .i64 l.f, born := c }) (c + 1)), ?_, ⟨_, _, putB_at h1, ?_, MapKept.stamped_push hst ?_⟩, (Kept.refl _ _).putB _ (by simp)⟩
  · unfold Instr.mapUpdate
    simp only [Sem.run_bind, run_underlying map50, Result.andThen_ok, get_map h1, show aggV l.K = aggV (keyC l.p l.s) from rfl, check67, find67 w l.p l.s L _ h2, hn, Option.map_none, set_map _ h1]
  · simp [ents, h2]
  · intro x hx e
    obtain ⟨l', hl', e1, _⟩ := key_at h2 hx
    rw [e] at e1
    have := key_inj e1
    exact placeOf_none hn l' hl' ⟨this.1.symm, this.2.symm⟩
theorem ents_modify : ∀ (L : List Mk) (es : List MapEntry) (i : Nat) (l : Mk), es.map (fun e => (e.key, e.val)) = ents L → (es.modify i (fun e => { e with key := aggV l.K, val := .int .i64 l.f })).map (fun e => (e.key, e.val)) = ents (L.set i l) := by
  intro L
  induction L with
  | nil => intro es i l h; cases es with
    | nil => simp [ents]
    | cons e es => simp [ents] at h
  | cons x L ih =>
    intro es i l h
    cases es with
    | nil => simp [ents] at h
    | cons e es =>
      simp only [List.map_cons, ents, List.cons.injEq] at h
      cases i with
      | zero => simp only [List.modify_zero_cons, List.set_cons_zero, List.map_cons, ents, List.cons.injEq]; exact ⟨trivial, h.2⟩
      | succ i =>
        simp only [List.modify_succ_cons, List.set_cons_succ, List.map_cons, ents, List.cons.injEq]
        exact ⟨h.1, ih es i l h.2⟩
theorem sameB (p s : Int) : Instr.sameBits 10000 (aggV (keyC p s)) (aggV (keyC p s)) = true := by
  simp [Instr.sameBits, aggV, keyC]
theorem entry_at {L : List Mk} {es : List MapEntry} {i : Nat} {x : Mk} (h : es.map (fun e => (e.key, e.val)) = ents L) (hx : L[i]? = some x) : ∃ e, es[i]? = some e ∧ e.key = aggV x.K := by
  have h1 := congrArg (fun l => l[i]?) h
  simp only [ents, List.getElem?_map, hx, Option.map_some] at h1
  cases hq : es[i]? with
  | none => rw [hq] at h1; cases h1
  | some e => rw [hq] at h1; simp at h1; exact ⟨e, rfl, h1.1⟩
theorem run_upd_old (w : World) (mb : Nat) (L : List Mk) (l x : Mk) (i : Nat) (h : MapAt w mb L) (hn : placeOf l.p l.s L 0 = some (i, x)) : ∃ w', (Instr.mapUpdate 50 (.map (some mb)) (aggV l.K) (.int .i64 l.f)).run Try.prog w = .ok () w' ∧ MapAt w' mb (L.set i l) ∧ Kept [mb] w w' := by
  obtain ⟨es, c, h1, h2, hst⟩ := h
  obtain ⟨_, hi, hp, hs⟩ := placeOf_some hn
  rw [Nat.sub_zero] at hi
  obtain ⟨e0, he0, hk0⟩ := entry_at h2 hi
  have hk1 : e0.key = aggV (keyC l.p l.s) := by rw [hk0]; show aggV (keyC x.p x.s) = _; rw [hp, hs]
  have he1 : es[i]? = some e0 := by rw [← Array.getElem?_toList]; exact he0
  refine ⟨putB w mb (.map (es.modify i fun e => { e with key := aggV (keyC l.p l.s), val := .int .i64 l.f }) c), ?_, ⟨_, _, putB_at h1, ?_, MapKept.stamped_modify hst i _ (fun e _ => rfl) (fun e _ hq => ?_)⟩, (Kept.refl _ _).putB _ (by simp)⟩
  · unfold Instr.mapUpdate
    simp only [Sem.run_bind, run_underlying map50, Result.andThen_ok, get_map h1, show aggV l.K = aggV (keyC l.p l.s) from rfl, check67, find67 w l.p l.s L _ h2, hn, Option.map_some, he1, Option.getD_some, hk1, Instr.keyThatStays, sameB, if_true, Sem.run_pure, set_map _ h1]
  · rw [Array.toList_modify]
    exact ents_modify L _ i l h2
  · rw [he1] at hq
    cases hq
    exact hk1.symm
theorem run_clear (w : World) (mb : Nat) (L : List Mk) (ty : TypeId) (h : MapAt w mb L) : ∃ w', (Builtin.clear_ #[50] ty #[.map (some mb)]).run Try.prog w = .ok (.tuple #[]) w' ∧ MapAt w' mb [] ∧ Kept [mb] w w' := by
  obtain ⟨es, c, h1, h2, hst⟩ := h
  refine ⟨putB w mb (.map #[] c), ?_, ⟨_, _, putB_at h1, rfl, MapKept.stamped_empty c⟩, (Kept.refl _ _).putB _ (by simp)⟩
  unfold Builtin.clear_
  simp [Sem.run_bind, run_underlying map50, get_map h1, set_map _ h1]
theorem map_not_cells {W : World} {mb k : Nat} {L : List Mk} {cs : Array Value} {e : TypeId} {p : Nat × Nat} (h : MapAt W mb L) (hk : W.heap[k]? = some (.cells cs e p)) : k ≠ mb := by
  obtain ⟨es, c, h1, _⟩ := h
  intro e
  subst e
  rw [h1] at hk
  cases hk
theorem MapAt.lt {W : World} {mb : Nat} {L : List Mk} (h : MapAt W mb L) : mb < W.heap.size := by
  obtain ⟨es, c, h1, _⟩ := h
  exact (Array.getElem?_eq_some_iff.1 h1).1
/-- No two entries have one key. -/
theorem MapAt.nd {W : World} {mb : Nat} {L : List Mk} (h : MapAt W mb L) : L.Pairwise (fun a b => ¬ (a.p = b.p ∧ a.s = b.s)) := by
  obtain ⟨es, c, h1, h2, hst⟩ := h
  have h3 := ((MapKept.stamped_iff es c).1 hst).2.2
  have h4 : (es.toList.map (fun e => (e.key, e.val))).Pairwise (fun x y => x.1 ≠ y.1) := List.pairwise_map.2 h3
  rw [h2, ents, List.pairwise_map] at h4
  exact h4.imp (fun {a b} hne e => hne (by show aggV a.K = aggV b.K; unfold Mk.K; rw [e.1, e.2]))
theorem run_len (w : World) (mb : Nat) (L : List Mk) (ty : TypeId) (h : MapAt w mb L) : (Builtin.len_ #[50] ty #[.map (some mb)]).run Try.prog w = .ok (.int .i64 (L.length : Int)) w := by
  obtain ⟨es, c, h1, h2, _⟩ := h
  have hl : es.size = L.length := by have := congrArg List.length h2; simpa [ents] using this
  unfold Builtin.len_
  simp [Sem.run_bind, run_underlying map50, get_map h1, goInt, hl]

end Go.Proofs.Ythihladmifpokaa
