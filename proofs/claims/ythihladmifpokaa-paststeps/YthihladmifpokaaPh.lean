/-
  A range over a map of marks: what is still to come is told by the marks themselves.
-/
import Derived.Test.YthihladmifpokaaPg
import Derived.Maps.Range
namespace Go.Proofs.Ythihladmifpokaa
set_option maxRecDepth 100000
set_option linter.unusedSimpArgs false
open Go.RowKit


variable {w W W' : World} {r b mb : Nat} {L : List Mk} {T : Mk → Bool} {l : Mk}
/-- An iterator at r over the map at mb; what T names is still to come. -/
def RI (W : World) (r mb : Nat) (L : List Mk) (T : Mk → Bool) : Prop := ∃ (es : Array MapEntry) (c since : Nat) (seen : Array Nat) (c0 : Nat),
  W.heap[mb]? = some (.map es c) ∧ es.toList.map (fun e => (e.key, e.val)) = ents L ∧ MapKept.Stamped es c ∧ W.heap[r]? = some (.mapIter (some mb) since seen c0) ∧ (∀ x ∈ es.toList, x.born < since) ∧ since ≤ c0 ∧ since ≤ c ∧
  ∀ x ∈ es.toList, ∀ l ∈ L, x.key = aggV l.K → seen.contains x.born = !(T l)
/-- What came last, and still stands. -/
def RE (W : World) (r mb : Nat) (l : Mk) : Prop := ∃ (es : Array MapEntry) (c since : Nat) (seen : Array Nat) (e : MapEntry),
  W.heap[mb]? = some (.map es c) ∧ W.heap[r]? = some (.mapIter (some mb) since (seen.push e.born) c) ∧ e ∈ es.toList ∧ (es.toList.map (·.born)).Nodup ∧ e.key = aggV l.K ∧ e.val = .int .i64 l.f
theorem RI.map (h : RI W r mb L T) : MapAt W mb L := by
  obtain ⟨es, c, _, _, _, h1, h2, h3, _⟩ := h
  exact ⟨es, c, h1, h2, h3⟩
theorem RI.step (h : RI W r mb L T) {X : List Nat} (hk : Kept X W W') (h1 : r ∉ X) (h2 : mb ∉ X) : RI W' r mb L T := by
  obtain ⟨es, c, s, sn, c0, a1, a2, a3, a4, a5, a6, a7, a8⟩ := h
  exact ⟨es, c, s, sn, c0, hk.heap a1 h2, a2, a3, hk.heap a4 h1, a5, a6, a7, a8⟩
theorem RE.step (h : RE W r mb l) {X : List Nat} (hk : Kept X W W') (h1 : r ∉ X) (h2 : mb ∉ X) : RE W' r mb l := by
  obtain ⟨es, c, s, sn, e, a1, a2, a3⟩ := h
  exact ⟨es, c, s, sn, e, hk.heap a1 h2, hk.heap a2 h1, a3⟩
theorem RI.ne (h : RI W r mb L T) : r ≠ mb := by
  obtain ⟨es, c, s, sn, c0, a1, a2, a3, a4, _⟩ := h
  intro e
  rw [e, a1] at a4
  cases a4
theorem RI.lt (h : RI W r mb L T) : r < W.heap.size := by
  obtain ⟨es, c, s, sn, c0, a1, a2, a3, a4, _⟩ := h
  exact (Array.getElem?_eq_some_iff.1 a4).1
/-- A mark's entry. -/
theorem ent_of {es : Array MapEntry} (h : es.toList.map (fun e => (e.key, e.val)) = ents L) (hl : l ∈ L) : ∃ x ∈ es.toList, x.key = aggV l.K ∧ x.val = .int .i64 l.f := by
  have hm : (aggV l.K, Value.int .i64 l.f) ∈ ents L := List.mem_map.2 ⟨l, hl, rfl⟩
  rw [← h] at hm
  obtain ⟨x, hx, e⟩ := List.mem_map.1 hm
  exact ⟨x, hx, congrArg Prod.fst e, congrArg Prod.snd e⟩
theorem mk_uniq {es : Array MapEntry} {c : Nat} (h : es.toList.map (fun e => (e.key, e.val)) = ents L) (hs : MapKept.Stamped es c) {a b : Mk} (ha : a ∈ L) (hb : b ∈ L) (hk : a.K = b.K) : a = b := by
  obtain ⟨x, hx, x1, x2⟩ := ent_of h ha
  obtain ⟨y, hy, y1, y2⟩ := ent_of h hb
  have e := entry_eq_of_key ((MapKept.stamped_iff es c).1 hs).2.2 hx hy (by rw [x1, y1, hk])
  subst e
  rw [x2] at y2
  cases a; cases b
  simp [Mk.K] at hk
  simp at y2
  simp [hk, y2]
theorem run_range50 (h : MapAt w mb L) : ∃ W, (Instr.range 50 (.map (some mb))).run Try.prog w = .ok (P0 w.heap.size) W ∧ RI W w.heap.size mb L (fun _ => true) ∧ Kept [] w W := by
  obtain ⟨es, c, h1, h2, h3⟩ := h
  refine ⟨_, run_range_map w 50 67 2 mb es c map50 h1, ⟨es, c, c, #[], c, ((Kept.refl [] w).alloc _).heap h1 (by simp), h2, h3, heap_alloc_new w _, ((MapKept.stamped_iff es c).1 h3).1, Nat.le_refl _, Nat.le_refl _, fun _ _ _ _ _ => by simp⟩, (Kept.refl _ _).alloc _⟩
theorem run_next50 (ty : TypeId) (h : RI w r mb L T) : ((∀ l ∈ L, T l = false) ∧ (Instr.next (P0 r) false ty).run Try.prog w = .ok (.tuple #[.bool false]) w) ∨
    ∃ l ∈ L, T l = true ∧ ∃ W, (Instr.next (P0 r) false ty).run Try.prog w = .ok (.tuple #[.bool true, aggV l.K, .int .i64 l.f]) W ∧ RI W r mb L (fun x => T x && !decide (x = l)) ∧ RE W r mb l ∧ Kept [r] w W := by
  have hne := h.ne
  have hrl := h.lt
  obtain ⟨es, c, s, sn, c0, a1, a2, a3, a4, a5, a6, a7, a8⟩ := h
  have hst := (MapKept.stamped_iff es c).1 a3
  rcases run_next_at (P := Try.prog) w ty r mb s c0 sn es c a4 a1 a5 a6 with ⟨h1, h2⟩ | ⟨e, he, w1, hw, h2⟩
  · refine .inl ⟨fun l hl => ?_, h2⟩
    obtain ⟨x, hx, x1, _⟩ := ent_of a2 hl
    have h3 := a8 x hx l hl x1
    rw [all_seen es sn h1 x hx] at h3
    simpa using h3.symm
  · have hm := mem_left he
    obtain ⟨l, hl, e1, e2⟩ := key_at a2 hm.1
    have h3 := a8 e hm.1 l hl e1
    rw [hm.2] at h3
    have hT : T l = true := by simpa using h3.symm
    have hk1 : Kept [r] w w1 := by
      rcases hw with rfl | rfl
      · exact Kept.refl _ _
      · exact (Kept.refl _ _).drew
    have hsb : ∀ o, ChangeMaps.setBlock w1 r o = putB w1 r o := fun _ => rfl
    have hk : Kept [r] w (putB w1 r (.mapIter (some mb) s (sn.push e.born) c)) := hk1.putB _ (by simp)
    have hr1 : w1.heap[r]? = some (.mapIter (some mb) s sn c0) := by rcases hw with rfl | rfl <;> exact a4
    have hr2 : (putB w1 r (.mapIter (some mb) s (sn.push e.born) c)).heap[r]? = some (.mapIter (some mb) s (sn.push e.born) c) := putB_at hr1
    have hm2 := hk.heap a1 (by simpa using Ne.symm hne)
    refine .inr ⟨l, hl, hT, _, by rw [h2, hsb, e1, e2], ⟨es, c, s, _, c, hm2, a2, a3, hr2, a5, a7, a7, fun x hx l' hl' hx' => ?_⟩, ⟨es, c, s, sn, e, hm2, hr2, hm.1, hst.2.1, e1, e2⟩, hk⟩
    rw [contains_push, a8 x hx l' hl' hx']
    by_cases hxe : x = e
    · subst hxe
      have : l' = l := mk_uniq a2 a3 hl' hl (by rw [hx'] at e1; have := key_inj e1; simp [Mk.K, this])
      subst this
      simp
    · have hb : (x.born == e.born) = false := by
        cases hc : x.born == e.born with
        | false => rfl
        | true => exact absurd (born_inj hst.2.1 hx hm.1 (beq_iff_eq.1 hc)) hxe
      have hl2 : ¬ l' = l := by
        intro e'
        subst e'
        exact hxe (entry_eq_of_key hst.2.2 hx hm.1 (by rw [hx', e1]))
      simp [hb, hl2]
theorem run_entry50 (h : RE w r mb l) : (Instr.entry (P0 r)).run Try.prog w = .ok (.tuple #[aggV l.K, .int .i64 l.f]) w := by
  obtain ⟨es, c, s, sn, e, a1, a2, a3, a4, a5, a6⟩ := h
  have h1 := run_entry_at (P := Try.prog) w r mb s sn es c e a2 a1 a3 a4
  rw [a5, a6] at h1
  exact h1
/-- How many are still to come. -/
def more (L : List Mk) (T : Mk → Bool) : Nat := (L.filter T).length
theorem more_less (hl : l ∈ L) (hT : T l = true) : more L (fun x => T x && !decide (x = l)) < more L T :=
  filter_lt T (fun x => T x && !decide (x = l)) (fun x hx => by simp at hx; exact hx.1) l hT (by simp) L hl
theorem run_rangeZ (w : World) : (Instr.range 50 (.map none)).run Try.prog w = .ok (P0 w.heap.size) (w.alloc (.mapIter none 0 #[] 0)) := run_range_nilMap w 50 67 2 map50

end Go.Proofs.Ythihladmifpokaa
