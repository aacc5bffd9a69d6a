/-
  Delete out of the order.
-/
import Derived.Test.YtpcggcicpojdoaaNi
namespace Go.Proofs.Ytpcggcicpojdoaa
open Go.RowKit


theorem Try.sl56 : Try.prog.underlying 56 = some (.slice 2) := by kernel_rfl
theorem Try.zero2 : (Try.prog.info? 2).map (fun i => (i.zero, i.size, i.bytes)) = some (some (.int .i64 0), 1, 8) := by kernel_rfl
/-- An append that has room. -/
theorem o_room {o : Oper} {a : Act} {w : World} {K : Act → World → Prop} {Q : Exit → Act → World → Prop} (s x : Operand) (ho : o.op = .call { callee := .builtin .append, args := #[s, x], argTypes := #[56, 56] }) (g n cap off m c r : Nat) (hr0 : n + m = r) (xs ys zs ex : List Value) (hs : a.eval s = .slice (some ⟨g, 0, none⟩) n cap) (hx : a.eval x = .slice (some ⟨g, off, none⟩) m c)
    (hB : Blk w g 2 (xs ++ zs ++ ex)) (hn : xs.length = n) (hm : ys.length = m) (hz : zs.length = m) (hc : n + m ≤ cap) (h1 : ∀ u ∈ ys, u.oneCell' = true) (hy : ∀ j u, ys[j]? = some u → (xs ++ zs ++ ex)[off + j]? = some u)
    (h : ∀ W, Blk W g 2 (xs ++ ys ++ ex) → Kept [g] w W → K (a.put o.dst (.slice (some ⟨g, 0, none⟩) r cap)) W) : o.wp Try.prog a w K Q := by
  subst hr0
  obtain ⟨i, hi, hz0, hz1, hz2⟩ := info_parts Try.zero2
  have hr := run_append_room (P := Try.prog) w 56 o.type 2 i Try.sl56 hi g n cap (xs ++ zs ++ ex).toArray hB ⟨g, off, none⟩ m c ys (by rw [hz1]; omega) (fun j u hj => by
    have := hy j u hj
    rw [← hB.cell] at this
    rw [Addr.add_lit]
    exact this) h1 hc (by simp [hz1]; omega)
  have e : (((xs ++ zs ++ ex).toArray.toList.take (n * i.size) ++ ys ++ (xs ++ zs ++ ex).toArray.toList.drop (n * i.size + ys.length)).toArray) = (xs ++ ys ++ ex).toArray := by
    refine congrArg List.toArray ?_
    have t1 : (xs ++ zs ++ ex).take n = xs := by rw [List.append_assoc]; exact List.take_left' hn
    have t2 : (xs ++ zs ++ ex).drop (n + ys.length) = ex := List.drop_left' (by simp; omega)
    rw [hz1, Nat.mul_one]
    show (xs ++ zs ++ ex).take n ++ ys ++ (xs ++ zs ++ ex).drop (n + ys.length) = _
    rw [t1, t2]
  rw [e] at hr
  unfold Oper.wp execOp
  simp only [ho, resolve, invoke, builtin, Sem.run_bind, Sem.run_pure, Result.andThen_ok, List.map_toArray, List.map_cons, List.map_nil, hs, hx, hr]
  have hlt := hB.lt
  refine h _ ?_ ⟨rfl, rfl, rfl, ?_, ?_⟩
  · unfold Blk
    exact setRow_heap _ _ _ _ _ _ hB
  · simp [World.setRow]
  · intro k hk hne
    exact setRow_other _ _ _ _ (by simpa using hne)
/-- One last cell that is cleared. -/
theorem o_clr {o : Oper} {a : Act} {w : World} {K : Act → World → Prop} {Q : Exit → Act → World → Prop} (x : Operand) (ho : o.op = .call { callee := .builtin .clear, args := #[x], argTypes := #[56] }) (g i d c : Nat) (us : List Value) (hd : d = 1) (hx : a.eval x = .slice (some ⟨g, i, none⟩) d c) (hB : Blk w g 2 us) (hi : i < us.length)
    (h : ∀ W, Blk W g 2 (us.set i (.int .i64 0)) → Kept [g] w W → K (a.put o.dst (.tuple #[])) W) : o.wp Try.prog a w K Q := by
  subst hd
  have hc := hB.cell i
  rw [List.getElem?_eq_getElem hi] at hc
  have hf := hB.frozen i
  have hr : (Builtin.clear_ #[56] o.type #[.slice (some ⟨g, i, none⟩) 1 c]).run Try.prog w = .ok (.tuple #[]) (w.setCell ⟨g, i, none⟩ (.int .i64 0)) := by
    have hz : (zeroValue 2).run Try.prog w = .ok (.int .i64 0) w := by kernel_rfl
    have hzc : Builtin.zeroCells (Value.int .i64 0).cells 1 = #[.int .i64 0] := by kernel_rfl
    have g1 : ∀ j, j < [Value.int .i64 0].length → (w.cell? ⟨g, i + 0 + j, none⟩).isSome = true := by
      intro j hj
      have e : j = 0 := by simpa using hj
      subst e
      simp [hc]
    have g2 : ∀ j, j < [Value.int .i64 0].length → w.frozen? ⟨g, i + 0 + j, none⟩ = false := by
      intro j hj
      have e : j = 0 := by simpa using hj
      subst e
      simpa using hf
    have hst := run_storeCells_cells (P := Try.prog) g i [.int .i64 0] 0 w g1 g2 (fun v hv => by simp at hv; subst hv; rfl)
    have hz' : (zeroValue 2).run Try.prog w = .ok (.int .i64 0) w := hz
    simp [Builtin.clear_, Sem.run_bind, run_underlying Try.sl56, hz', hzc, hst]
    rfl
  unfold Oper.wp execOp
  simp only [ho, resolve, invoke, builtin, Sem.run_bind, Sem.run_pure, Result.andThen_ok, List.map_toArray, List.map_cons, List.map_nil, hx, hr]
  exact h _ (hB.set (i := i) _) ((Kept.refl _ _).setCell (by simp) _)

end Go.Proofs.Ytpcggcicpojdoaa
