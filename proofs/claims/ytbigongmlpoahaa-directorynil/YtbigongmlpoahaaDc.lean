/-
  New.
-/
import Derived.Test.YtbigongmlpoahaaDb
namespace Go.Proofs.Ytbigongmlpoahaa.D
set_option maxRecDepth 100000
set_option linter.unusedSimpArgs false
open Go.RowKit


section
variable {ops : Array Oper} {rest : List Oper} {op o : Oper} {a : Act} {w : World} {K : Act → World → Prop} {Q : Exit → Act → World → Prop}
theorem wpMk53 (hgd : op.guard = none) (ho : op.op = .makeMap 53 none)
    (h : ∀ W mb, mb = w.heap.size → MapAt W mb [] → Kept [] w W → wpList Try.prog ops Q rest (a.put op.dst (.map (some mb))) W) : wpList Try.prog ops Q (op :: rest) a w :=
  wpList_plain hgd fun _ hK => by
    have hmk : Sem.run Try.prog (Instr.makeMap 53 none) w = .ok (.map (some w.heap.size)) (w.alloc (.map #[] 0)) := by kernel_rfl
    unfold Oper.wp execOp
    simp only [ho, Option.map_none, Sem.run_bind, hmk, Result.andThen_ok]
    exact hK _ _ (h _ _ rfl ⟨_, _, heap_alloc_new w _, rfl, MapKept.stamped_empty 0⟩ ((Kept.refl _ _).alloc _))
theorem o_look1 (x y : Operand) (ho : o.op = .lookup 53 x y false) (mb : Nat) (L : List En) (n : Int) (v : Value) (hv : lookV n L = v) (hM : MapAt w mb L) (hx : a.eval x = .map (some mb)) (hy : a.eval y = .int .i64 n) (h : K (a.put o.dst v) w) : o.wp Try.prog a w K Q := by
  subst hv
  unfold Oper.wp execOp
  simp only [ho, hx, hy, Sem.run_bind, run_look1 w mb L n hM, Result.andThen_ok]
  exact h
theorem o_look2 (x y : Operand) (ho : o.op = .lookup 53 x y true) (mb : Nat) (L : List En) (n : Int) (v : Value) (f : Bool) (hv : lookV n L = v) (hf : (placeOf n L 0).isSome = f) (hM : MapAt w mb L) (hx : a.eval x = .map (some mb)) (hy : a.eval y = .int .i64 n) (h : K (a.put o.dst (.tuple #[v, .bool f])) w) : o.wp Try.prog a w K Q := by
  subst hv
  subst hf
  unfold Oper.wp execOp
  simp only [ho, hx, hy, Sem.run_bind, run_look w mb L n hM, Result.andThen_ok]
  exact h
theorem wpLook1 (hw : Region.wanted op (yielded ops a.tmps) = true) (x y : Operand) (ho : op.op = .lookup 53 x y false) (mb : Nat) (L : List En) (n : Int) (v : Value) (hx : a.eval x = .map (some mb)) (hy : a.eval y = .int .i64 n) (hv : lookV n L = v) (hM : MapAt w mb L) (h : wpList Try.prog ops Q rest (a.put op.dst v) w) : wpList Try.prog ops Q (op :: rest) a w :=
  BigFrame.wpList_want hw fun _ hK => o_look1 x y ho mb L n v hv hM hx hy (hK _ _ h)
theorem wpLook2 (hgd : op.guard = none) (x y : Operand) (ho : op.op = .lookup 53 x y true) (mb : Nat) (L : List En) (n : Int) (v : Value) (f : Bool) (hx : a.eval x = .map (some mb)) (hy : a.eval y = .int .i64 n) (hv : lookV n L = v) (hf : (placeOf n L 0).isSome = f) (hM : MapAt w mb L) (h : wpList Try.prog ops Q rest (a.put op.dst (.tuple #[v, .bool f])) w) : wpList Try.prog ops Q (op :: rest) a w :=
  wpList_plain hgd fun _ hK => o_look2 x y ho mb L n v f hv hf hM hx hy (hK _ _ h)
theorem o_upd (m x y : Operand) (ho : o.op = .mapUpdate 53 m x y) (_ : o.dst = none) (mb : Nat) (L : List En) (l : En) (hm : a.eval m = .map (some mb)) (hx : a.eval x = .int .i64 l.k) (hy : a.eval y = P0 l.p) (hM : MapAt w mb L) (hn : placeOf l.k L 0 = none)
    (h : ∀ W, MapAt W mb (L ++ [l]) → Kept [mb] w W → K (a.put o.dst undef) W) : o.wp Try.prog a w K Q := by
  obtain ⟨w', hr, h1, h2⟩ := run_upd w mb L l hM hn
  unfold Oper.wp execOp
  simp only [ho, hm, hx, hy, Sem.run_bind, hr, Result.andThen_ok, Sem.run_pure]
  exact h w' h1 h2
theorem wpUpd (hgd : op.guard = none) (hd : op.dst = none) (m x y : Operand) (ho : op.op = .mapUpdate 53 m x y) (mb : Nat) (L : List En) (l : En) (hm : a.eval m = .map (some mb)) (hx : a.eval x = .int .i64 l.k) (hy : a.eval y = P0 l.p) (hM : MapAt w mb L) (hn : placeOf l.k L 0 = none)
    (h : ∀ W, MapAt W mb (L ++ [l]) → Kept [mb] w W → wpList Try.prog ops Q rest (a.put op.dst undef) W) : wpList Try.prog ops Q (op :: rest) a w :=
  wpList_plain hgd fun _ hK => o_upd m x y ho hd mb L l hm hx hy hM hn (fun W h1 h2 => hK _ _ (h W h1 h2))
end
theorem lookV_none {n : Int} {L : List En} (h : placeOf n L 0 = none) : lookV n L = .pointer none := by unfold lookV; rw [h]
theorem lookV_some {n : Int} {L : List En} {i : Nat} {x : En} (h : placeOf n L 0 = some (i, x)) : lookV n L = P0 x.p := by unfold lookV; rw [h]
/-- The lock of a page. -/
def lkOf (n : Int) (L : List Lk) : Option Lk := L.find? fun x => decide (x.k = n)
theorem place_lk (n : Int) : ∀ (L : List Lk) (i : Nat), (placeOf n (L.map Lk.e) i).map (fun x => x.2.p) = (lkOf n L).map (fun x => x.p) := by
  intro L
  induction L with
  | nil => intro i; rfl
  | cons x L ih =>
    intro i
    unfold lkOf
    simp only [List.map_cons, placeOf, Lk.e, List.find?_cons]
    by_cases h : n = x.k
    · have h' : decide (x.k = n) = true := by simp [h]
      rw [if_pos h, h']
      rfl
    · have h' : decide (x.k = n) = false := by simp; exact fun e => h e.symm
      rw [if_neg h, h']
      exact ih (i + 1)
theorem look_lk (n : Int) (L : List Lk) : lookV n (L.map Lk.e) = (match lkOf n L with | none => .pointer none | some x => P0 x.p) ∧ (placeOf n (L.map Lk.e) 0).isSome = (lkOf n L).isSome := by
  have h := place_lk n L 0
  unfold lookV
  cases h1 : placeOf n (L.map Lk.e) 0 with
  | none =>
    rw [h1] at h
    cases h2 : lkOf n L with
    | none => exact ⟨rfl, rfl⟩
    | some x => rw [h2] at h; cases h
  | some y =>
    rw [h1] at h
    cases h2 : lkOf n L with
    | none => rw [h2] at h; cases h
    | some x =>
      rw [h2] at h
      simp only [Option.map_some, Option.some.injEq] at h
      exact ⟨by show P0 y.2.p = P0 x.p; rw [h], rfl⟩
theorem lkOf_some {n : Int} {L : List Lk} {x : Lk} (h : lkOf n L = some x) : x ∈ L ∧ x.k = n := ⟨List.mem_of_find?_eq_some h, by simpa using List.find?_some h⟩
theorem lkOf_none {n : Int} {L : List Lk} (h : lkOf n L = none) : n ∉ L.map Lk.k := by
  intro hm
  obtain ⟨x, hx, e⟩ := List.mem_map.1 hm
  have := List.find?_eq_none.1 h x hx
  simp [e] at this
theorem place_none {n : Int} {L : List Lk} (h : lkOf n L = none) : placeOf n (L.map Lk.e) 0 = none := by
  refine placeOf_no fun l hl => ?_
  obtain ⟨x, hx, rfl⟩ := List.mem_map.1 hl
  intro e
  exact lkOf_none h (List.mem_map.2 ⟨x, hx, e⟩)
/-- A lock that was just made. -/
def Lk.new (n : Int) (p : Nat) : Lk := ⟨n, p, .slice none 0 0, lo0, []⟩
theorem new_lc {W : World} {p : Nat} {n : Int} (h : Blk W p 108 (lo0.C (.slice none 0 0))) : Lc 0 W (Lk.new n p) := ⟨h, Rw.nil _, lo0_gd⟩
/-- What New has made so far. -/
structure Nw (w W : World) (mb : Nat) (P : List Int) (L : List Lk) : Prop where
  map : MapAt W mb (L.map Lk.e)
  lk : ∀ x ∈ L, Blk W x.p 108 (lo0.C (.slice none 0 0)) ∧ x = Lk.new x.k x.p ∧ w.heap.size ≤ x.p
  may : ∀ n ∈ P, isP n = true
  keys : L.map Lk.k = P
  nd : P.Nodup
  ap : L.Pairwise fun x y => x.p ≠ y.p
  mb0 : w.heap.size ≤ mb
  k : Kept [] w W
variable {w W W' W2 : World} {mb p : Nat} {P : List Int} {L : List Lk} {n : Int}
theorem Nw.step0 (h : Nw w W mb P L) (hk : Kept [] W W') : Nw w W' mb P L := ⟨h.map.kept hk (by simp), fun x hx => ⟨(h.lk x hx).1.kept hk (by simp), (h.lk x hx).2⟩, h.may, h.keys, h.nd, h.ap, h.mb0, h.k.trans hk⟩
theorem Nw.add (h : Nw w W mb P L) (hp : p = W.heap.size) (hB : Blk W' p 108 (lo0.C (.slice none 0 0))) (hk : Kept [] W W') (hM : MapAt W2 mb ((L.map Lk.e) ++ [⟨n, p⟩])) (hk2 : Kept [mb] W' W2) (hn : isP n = true) (hl : lkOf n L = none) : Nw w W2 mb (P ++ [n]) (L ++ [Lk.new n p]) := by
  have hlt : ∀ x ∈ L, x.p < W.heap.size := fun x hx => (h.lk x hx).1.lt
  have hnm : ∀ {q : Nat} {us : List Value}, Blk W' q 108 us → q ∉ [mb] := fun {q us} hq e => by
    have := map_not_cells (h.map.kept hk (by simp)) hq
    simp at e
    exact this e
  refine ⟨by simpa [Lk.e, Lk.new] using hM, fun x hx => ?_, fun m hm => ?_, by simp [h.keys, Lk.new], ?_, ?_, h.mb0, (h.k.trans hk).fresh hk2 (fun i hi hlt => by simp at hi; have := h.mb0; omega)⟩
  · rcases List.mem_append.1 hx with hx | hx
    · have h1 := (h.lk x hx).1.kept hk (by simp)
      exact ⟨h1.kept hk2 (hnm h1), (h.lk x hx).2⟩
    · rw [List.mem_singleton] at hx
      subst hx
      exact ⟨hB.kept hk2 (hnm hB), rfl, by show w.heap.size ≤ p; have := h.k.size; omega⟩
  · rcases List.mem_append.1 hm with hm | hm
    · exact h.may m hm
    · rw [List.mem_singleton] at hm; rw [hm]; exact hn
  · rw [List.nodup_append]
    refine ⟨h.nd, by simp, fun a ha b hb e => ?_⟩
    rw [List.mem_singleton] at hb
    subst hb
    subst e
    rw [← h.keys] at ha
    exact lkOf_none hl ha
  · rw [List.pairwise_append]
    refine ⟨h.ap, List.pairwise_singleton _ _, fun x hx y hy => ?_⟩
    rw [List.mem_singleton] at hy
    subst hy
    have := hlt x hx
    show x.p ≠ p
    omega
theorem Nw.dg {b : Nat} (h : Nw w W mb P L) (hB : Blk W b 55 [.map (some mb)]) : Dg 0 W b mb L := by
  refine ⟨hB, h.map, fun x hx => ?_, fun x hx => ?_, by rw [h.keys]; exact h.nd, ?_⟩
  · have h1 := h.lk x hx
    rw [h1.2.1]
    exact new_lc h1.1
  · have := h.may x.k (by rw [← h.keys]; exact List.mem_map_of_mem hx)
    unfold isP at this
    simpa using this
  · refine h.ap.imp_of_mem ?_
    intro x y hx hy hne
    refine ⟨hne, fun i hi => ?_⟩
    rw [(h.lk x hx).2.1] at hi
    cases hi

end Go.Proofs.Ytbigongmlpoahaa.D
