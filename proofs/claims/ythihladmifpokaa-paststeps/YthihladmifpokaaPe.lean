/-
  New, Mark, Clear.
-/
import Derived.Test.YthihladmifpokaaPd
namespace Go.Proofs.Ythihladmifpokaa
set_option maxRecDepth 100000
set_option linter.unusedSimpArgs false
open Go.RowKit

theorem wpAny_tq1 {ops : Array Oper} {Q : Exit → Act → World → Prop} {a0 : Act} {w0 : World} (n : Nat) (hn : ops.size = n + 1) (hok : prefG ops n = true) (us : List (Option Value)) (hu : us.length = n + 1) (hg : guardsQ ops us = true)
    (hsl : ops.all (fun o => match o.dst with | none => true | some t => decide (t < a0.tmps.size)) = true)
    (hop : ∀ (j : Nat) (o : Oper), j < n → skipQ us j = false → ops[j]? = some o → ∀ a w, (∀ t : Nat, (ops.toList.take n).all (fun p => p.dst != some t) = true → a.eval (.tmp t) = a0.eval (.tmp t)) →
      (∀ (i t : Nat), o.after.any (fun e => Region.binds .any e && e.on == i) = true → ops[i]?.bind (·.dst) = some t → tq us i (a.eval (.tmp t)) w) → Kept [] w0 w →
      o.wp Try.prog a w (fun a' w' => ∃ v, a' = a.put o.dst v ∧ tq us j v w' ∧ Kept [] w w' ∧ ∀ i u, i < n → i ≠ j → tq us i u w → True) Q)
    (hQ : ∀ w, Kept [] w0 w → wpAny Try.prog .any ops Q 1 (lists n (n + 1)) (putAll a0 (ops.toList.take n) (valsQ (us.take n))) w) :
    wpAny Try.prog .any ops Q ops.size (Array.replicate ops.size false) a0 w0 := by
  refine wpAny_prefS n 1 (by omega) hok (tq us) (fun _ _ _ _ => True) (skipQ us) (fun j o i b _ ho hg' => guardsQ_some hg j o i b ho hg') (fun j o _ ho hg' => guardsQ_none hg j o ho hg') (fun j w h => skipQ_undef w h) (fun _ _ _ _ => trivial) (tq_kept us) hsl hop ?_
  intro vs w hlen hv _ hk
  have h2 : ∀ (j : Nat) v, vs[j]? = some v → tq (us.take n) j v w := by
    intro j v hj
    have h3 := hv j v hj
    have hjn : j < n := by have := (List.getElem?_eq_some_iff.1 hj).1; omega
    unfold tq at h3 ⊢
    rw [List.getElem?_take_of_lt hjn]
    exact h3
  obtain rfl := vs_tq h2 (by rw [hlen, List.length_take]; omega)
  exact hQ w hk

section
variable {ops : Array Oper} {rest : List Oper} {op o : Oper} {a : Act} {w : World} {K : Act → World → Prop} {Q : Exit → Act → World → Prop}
theorem run_min (w : World) (ts : Array TypeId) (ty : TypeId) (m n : Int) : (Builtin.min_ ts ty #[.int .i64 m, .int .i64 n]).run Try.prog w = .ok (.int .i64 (min m n)) w := by
  simp [Builtin.min_, Builtin.min2]
  by_cases hq : n < m
  · simp [hq]; omega
  · simp [hq]; omega
theorem o_min2 (x y : Operand) {ts : Array TypeId} (ho : o.op = .call { callee := .builtin .min, args := #[x, y], argTypes := ts }) (m n : Int) (hx : a.eval x = .int .i64 m) (hy : a.eval y = .int .i64 n) (h : K (a.put o.dst (.int .i64 (min m n))) w) : o.wp Try.prog a w K Q := by
  have hr := run_min w ts o.type m n
  unfold Oper.wp execOp
  simp only [ho, resolve, invoke, builtin, Sem.run_bind, Sem.run_pure, Result.andThen_ok, List.map_toArray, List.map_cons, List.map_nil, hx, hy, hr]
  exact h
theorem wpMk50 (hgd : op.guard = none) (ho : op.op = .makeMap 50 none)
    (h : ∀ W mb, mb = w.heap.size → MapAt W mb [] → Kept [] w W → wpList Try.prog ops Q rest (a.put op.dst (.map (some mb))) W) : wpList Try.prog ops Q (op :: rest) a w :=
  wpList_plain hgd fun _ hK => by
    have hmk : Sem.run Try.prog (Instr.makeMap 50 none) w = .ok (.map (some w.heap.size)) (w.alloc (.map #[] 0)) := by kernel_rfl
    unfold Oper.wp execOp
    simp only [ho, Option.map_none, Sem.run_bind, hmk, Result.andThen_ok]
    exact hK _ _ (h _ _ rfl ⟨_, _, heap_alloc_new w _, rfl, MapKept.stamped_empty 0⟩ ((Kept.refl _ _).alloc _))
theorem o_updN (m x y : Operand) (ho : o.op = .mapUpdate 50 m x y) (_ : o.dst = none) (mb : Nat) (L : List Mk) (l : Mk) (hm : a.eval m = .map (some mb)) (hx : a.eval x = aggV l.K) (hy : a.eval y = .int .i64 l.f) (hM : MapAt w mb L) (hn : placeOf l.p l.s L 0 = none)
    (h : ∀ W, MapAt W mb (L ++ [l]) → Kept [mb] w W → K (a.put o.dst undef) W) : o.wp Try.prog a w K Q := by
  obtain ⟨w', hr, h1, h2⟩ := run_upd_new w mb L l hM hn
  unfold Oper.wp execOp
  simp only [ho, hm, hx, hy, Sem.run_bind, hr, Result.andThen_ok, Sem.run_pure]
  exact h w' h1 h2
theorem o_updO (m x y : Operand) (ho : o.op = .mapUpdate 50 m x y) (_ : o.dst = none) (mb : Nat) (L : List Mk) (l z : Mk) (i : Nat) (hm : a.eval m = .map (some mb)) (hx : a.eval x = aggV l.K) (hy : a.eval y = .int .i64 l.f) (hM : MapAt w mb L) (hn : placeOf l.p l.s L 0 = some (i, z))
    (h : ∀ W, MapAt W mb (L.set i l) → Kept [mb] w W → K (a.put o.dst undef) W) : o.wp Try.prog a w K Q := by
  obtain ⟨w', hr, h1, h2⟩ := run_upd_old w mb L l z i hM hn
  unfold Oper.wp execOp
  simp only [ho, hm, hx, hy, Sem.run_bind, hr, Result.andThen_ok, Sem.run_pure]
  exact h w' h1 h2
end
variable {w W W' : World} {b mb : Nat} {L : List Mk} {v : Value}
theorem ok_nil : Ok [] := ⟨by simp, by simp⟩

end Go.Proofs.Ythihladmifpokaa
