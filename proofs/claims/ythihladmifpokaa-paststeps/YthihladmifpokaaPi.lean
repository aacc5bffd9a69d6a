/-
  Operations of a range over a map; deleting; calls of closures; maps.DeleteFunc as Discard calls it.
-/
import Derived.Test.YthihladmifpokaaPh
namespace Go.Proofs.Ythihladmifpokaa
set_option maxRecDepth 100000
set_option linter.unusedSimpArgs false
open Go.RowKit


abbrev fnV (f : FuncId) (cs : Array Value) : Value := .func (.func f) #[] cs
/-- A call of this function is just entered. -/
abbrev Ent (f : FuncId) : Prop := ∀ (vs : Array Value) (w : World), (callFunc f vs).run Try.prog w = .ok (.enter f vs) w
section
variable {ops : Array Oper} {rest : List Oper} {op o : Oper} {a : Act} {w : World} {K : Act → World → Prop} {Q : Exit → Act → World → Prop}
theorem wp_callC (f : FuncId) (t : Nat) (args : Array Operand) (ts : Array TypeId) (ho : o.op = .call { callee := .value (.tmp t), args := args, argTypes := ts }) (cs : Array Value) (hf : a.eval (.tmp t) = .func (.func f) #[] cs)
    (vs : Array Value) (hv : args.map a.eval = vs) (hcf : (callFunc f (vs ++ cs)).run Try.prog w = .ok (.enter f (vs ++ cs)) w) (h : Calls Try.prog f (vs ++ cs) w fun e w' => ∃ v, e = .returned v ∧ K (a.put o.dst v) w') : o.wp Try.prog a w K Q := by
  subst hv
  unfold Oper.wp execOp
  simp only [ho, resolve, hf]
  simp [invoke, go_sem, hcf]
  refine h.mono ?_
  rintro e w' ⟨v, rfl, hk⟩
  exact hk
theorem wpCallC {ops : Array Oper} {rest : List Oper} {op : Oper} {a : Act} {w : World} {Q : Exit → Act → World → Prop} (hgd : op.guard = none) (f : FuncId) (t : Nat) (args : Array Operand) (ts : Array TypeId) (ho : op.op = .call { callee := .value (.tmp t), args := args, argTypes := ts }) (cs : Array Value) (hf : a.eval (.tmp t) = fnV f cs) (vs us : Array Value) (hv : args.map a.eval = vs) (hu : vs ++ cs = us) (hcf : Ent f)
    (h : Calls Try.prog f us w fun e w' => ∃ v, e = .returned v ∧ wpList Try.prog ops Q rest (a.put op.dst v) w') : wpList Try.prog ops Q (op :: rest) a w :=
  wpList_plain hgd fun _ hK => wp_callC f t args ts ho cs hf vs hv (hcf _ _) (by
    subst hu
    refine h.mono ?_
    rintro e w' ⟨v, rfl, hk⟩
    exact ⟨v, rfl, hK _ _ hk⟩)
theorem wpRange50 (hgd : op.guard = none) (x : Operand) (ho : op.op = .range 50 x) (mb : Nat) (L : List Mk) (hx : a.eval x = .map (some mb)) (hM : MapAt w mb L)
    (h : ∀ W r, r = w.heap.size → RI W r mb L (fun _ => true) → Kept [] w W → wpList Try.prog ops Q rest (a.put op.dst (P0 r)) W) : wpList Try.prog ops Q (op :: rest) a w :=
  wpList_plain hgd fun _ hK => by
    obtain ⟨W, hr, h1, h2⟩ := run_range50 hM
    unfold Oper.wp execOp
    simp only [ho, hx, Sem.run_bind, hr, Result.andThen_ok, Sem.run_pure]
    exact hK _ _ (h W _ rfl h1 h2)
theorem wpNext50 (hgd : op.guard = none) (x : Operand) (ho : op.op = .next x false) (r mb : Nat) (L : List Mk) (T : Mk → Bool) (hx : a.eval x = P0 r) (hI : RI w r mb L T)
    (h0 : (∀ l ∈ L, T l = false) → wpList Try.prog ops Q rest (a.put op.dst (.tuple #[.bool false])) w)
    (h : ∀ W l, l ∈ L → T l = true → RI W r mb L (fun x => T x && !decide (x = l)) → RE W r mb l → Kept [r] w W → wpList Try.prog ops Q rest (a.put op.dst (.tuple #[.bool true, aggV l.K, .int .i64 l.f])) W) : wpList Try.prog ops Q (op :: rest) a w :=
  wpList_plain hgd fun _ hK => by
    unfold Oper.wp execOp
    rcases run_next50 op.type hI with ⟨h1, hr⟩ | ⟨l, hl, hT, W, hr, h1, h2, h3⟩
    · simp only [ho, hx, Sem.run_bind, hr, Result.andThen_ok, Sem.run_pure]
      exact hK _ _ (h0 h1)
    · simp only [ho, hx, Sem.run_bind, hr, Result.andThen_ok, Sem.run_pure]
      exact hK _ _ (h W l hl hT h1 h2 h3)
theorem wpEntry50 (hgd : op.guard = none) (x : Operand) (ho : op.op = .entry x) (r mb : Nat) (l : Mk) (hx : a.eval x = P0 r) (hE : RE w r mb l)
    (h : wpList Try.prog ops Q rest (a.put op.dst (.tuple #[aggV l.K, .int .i64 l.f])) w) : wpList Try.prog ops Q (op :: rest) a w :=
  wpList_plain hgd fun _ hK => by
    have hr := run_entry50 hE
    unfold Oper.wp execOp
    simp only [ho, hx, Sem.run_bind, hr, Result.andThen_ok, Sem.run_pure]
    exact hK _ _ h
end
variable {w W W' : World} {r b mb : Nat} {L : List Mk} {T : Mk → Bool} {l : Mk}
theorem ents_erase : ∀ (L : List Mk) (es : List MapEntry) (i : Nat), es.map (fun e => (e.key, e.val)) = ents L → (es.eraseIdx i).map (fun e => (e.key, e.val)) = ents (L.eraseIdx i) := by
  intro L
  induction L with
  | nil => intro es i h; cases es with
    | nil => rfl
    | cons e es => simp [ents] at h
  | cons l L ih =>
    intro es i h
    cases es with
    | nil => simp [ents] at h
    | cons e es =>
      simp only [List.map_cons, ents, List.cons.injEq] at h
      cases i with
      | zero => exact h.2
      | succ i =>
        simp only [List.eraseIdx_cons_succ, List.map_cons, ents, List.cons.injEq]
        exact ⟨h.1, ih es i h.2⟩
theorem erase_filter : ∀ (L : List Mk) (i : Nat) (l : Mk), L[i]? = some l → L.Nodup → L.eraseIdx i = L.filter (fun x => !decide (x = l))
  | [], i, l, h, _ => by simp at h
  | x :: L, 0, l, h, hn => by
    obtain rfl : x = l := by simpa using h
    have h1 := (List.nodup_cons.1 hn).1
    have h2 : L.filter (fun y => !decide (y = x)) = L := List.filter_eq_self.2 fun y hy => by
      have : ¬ y = x := fun e => h1 (e ▸ hy)
      simp [this]
    simp [h2]
  | x :: L, i + 1, l, h, hn => by
    have hl : L[i]? = some l := by simpa using h
    have h1 := List.nodup_cons.1 hn
    have h2 : ¬ x = l := fun e => h1.1 (e ▸ List.mem_of_getElem? hl)
    simp [h2, erase_filter L i l hl h1.2]
theorem MapAt.nodup (h : MapAt W mb L) : L.Nodup := h.nd.imp fun {a b} hne e => hne ⟨by rw [e], by rw [e]⟩
theorem run_del (w : World) (mb : Nat) (L : List Mk) (T : Mk → Bool) (l : Mk) (r : Nat) (ty : TypeId) (h : RI w r mb L T) (hl : l ∈ L) : ∃ W, (Builtin.delete_ #[50, 67] ty #[.map (some mb), aggV l.K]).run Try.prog w = .ok (.tuple #[]) W ∧ RI W r mb (L.filter (fun x => !decide (x = l))) T ∧ Kept [mb] w W := by
  have hne := h.ne
  have hnd := h.map.nodup
  obtain ⟨es, c, s, sn, c0, h1, h2, hst, a4, a5, a6, a7, a8⟩ := h
  obtain ⟨i, l', hp⟩ : ∃ i l', placeOf l.p l.s L 0 = some (i, l') := by
    cases hq : placeOf l.p l.s L 0 with
    | none => exact absurd ⟨rfl, rfl⟩ (placeOf_none hq l hl)
    | some x => exact ⟨x.1, x.2, rfl⟩
  obtain ⟨_, hi, e1, e2⟩ := placeOf_some hp
  rw [Nat.sub_zero] at hi
  have hll : l' = l := mk_uniq h2 hst (List.mem_of_getElem? hi) hl (by simp [Mk.K, e1, e2])
  subst hll
  have hes : ∀ x ∈ (es.eraseIdxIfInBounds i).toList, x ∈ es.toList := fun x hx => by
    rw [Array.toList_eraseIdxIfInBounds] at hx
    exact List.mem_of_mem_eraseIdx hx
  have hk : Kept [mb] w (putB w mb (.map (es.eraseIdxIfInBounds i) c)) := (Kept.refl _ _).putB _ (by simp)
  refine ⟨putB w mb (.map (es.eraseIdxIfInBounds i) c), ?_, ⟨_, c, s, sn, c0, putB_at h1, ?_, MapKept.stamped_erase hst i, hk.heap a4 (by simpa using hne), fun x hx => a5 x (hes x hx), a6, a7, fun x hx y hy => a8 x (hes x hx) y (List.mem_filter.1 hy).1⟩, hk⟩
  · unfold Builtin.delete_
    simp [Sem.run_bind, run_underlying map50, get_map h1, show aggV l'.K = aggV (keyC l'.p l'.s) from rfl, check67, find67 w l'.p l'.s L _ h2, hp, set_map _ h1, putB]
  · rw [Array.toList_eraseIdxIfInBounds, ents_erase L _ i h2, erase_filter L i l' hi hnd]
theorem len_filter (p : MapEntry → Bool) : ∀ (es : List MapEntry) (L : List Mk), es.map (fun e => (e.key, e.val)) = ents L → (∀ x ∈ es, ∀ l ∈ L, x.key = aggV l.K → p x = T l) → (es.filter p).length = (L.filter T).length
  | [], [], _, _ => rfl
  | [], _ :: _, h, _ => by simp [ents] at h
  | _ :: _, [], h, _ => by simp [ents] at h
  | e :: es, l :: L, h, hp => by
    simp only [List.map_cons, ents, List.cons.injEq, Prod.mk.injEq] at h
    have h1 := hp e (by simp) l (by simp) h.1.1
    have h2 := len_filter p es L h.2 fun x hx y hy => hp x (List.mem_cons_of_mem _ hx) y (List.mem_cons_of_mem _ hy)
    simp only [List.filter_cons, h1]
    cases T l <;> simp [h2]
theorem RI.left_eq (h : RI W r mb L T) : W.rangeLeft mb r = more L T := by
  obtain ⟨es, c, s, sn, c0, h1, h2, hst, a4, a5, a6, a7, a8⟩ := h
  unfold World.rangeLeft more
  rw [h1, a4]
  show (leftOf es sn).size = _
  unfold leftOf
  rw [← Array.length_toList, Array.toList_filter]
  exact len_filter _ es.toList L h2 fun x hx l hl hk => by rw [a8 x hx l hl hk]; simp

end Go.Proofs.Ythihladmifpokaa
