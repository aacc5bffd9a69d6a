/-
  The end of a region: two results are taken.
-/
import Derived.Test.YtffflafalffifaaApp
namespace Go.Proofs.Ytffflafalffifaa.K
open Go.RowKit

/-- A region that draws its order, by its table; its last operations apart. -/
theorem wpAny_tpk {ops : Array Oper} {Q : Exit → Act → World → Prop} {a0 : Act} {w0 : World} (n k : Nat) (hn : ops.size = n + k) (hok : prefG ops n = true) (us : List Fp) (hu : us.length = n) (hg : guardsP ops us = true)
    (hsl : ops.all (fun o => match o.dst with | none => true | some t => decide (t < a0.tmps.size)) = true)
    (hop : ∀ (j : Nat) (o : Oper), j < n → skipP us j = false → ops[j]? = some o → ∀ a w, (∀ t : Nat, (ops.toList.take n).all (fun p => p.dst != some t) = true → a.eval (.tmp t) = a0.eval (.tmp t)) →
      (∀ (i t : Nat), o.after.any (fun e => Region.binds .any e && e.on == i) = true → ops[i]?.bind (·.dst) = some t → tp us i (a.eval (.tmp t)) w) → Kept [] w0 w →
      o.wp Try.prog a w (fun a' w' => ∃ v, a' = a.put o.dst v ∧ tp us j v w' ∧ Kept [] w w' ∧ ∀ i u, i < n → i ≠ j → tp us i u w → True) Q)
    (hQ : ∀ x w, (∀ (j : Nat) p hp, us[j]? = some (.pr p hp) → p (x j) w) → Kept [] w0 w → wpAny Try.prog .any ops Q k (lists n (n + k)) (putAll a0 (ops.toList.take n) (valsP x 0 us)) w) :
    wpAny Try.prog .any ops Q ops.size (Array.replicate ops.size false) a0 w0 := by
  refine wpAny_prefS n k (by omega) hok (tp us) (fun _ _ _ _ => True) (skipP us) (fun j o i b _ ho hg' => guardsP_some hg j o i b ho hg') (fun j o _ ho hg' => guardsP_none hg j o ho hg') (fun j w h => skipP_undef w h) (fun _ _ _ _ => trivial) (tp_kept us) hsl hop ?_
  intro vs w hlen hv _ hk
  obtain ⟨x, hx⟩ := vs_tp us w vs 0 us (fun j f h => by simpa using h) (fun j v h => by have := hv j v h; simpa using this) (by omega)
  have hx := hx x (fun _ _ => rfl)
  have hf : ∀ (j : Nat) p hp, us[j]? = some (.pr p hp) → p (x j) w := by
    intro j p hp hj
    have h1 := valsP_at x us 0 j p hp hj
    rw [Nat.zero_add, ← hx] at h1
    exact pr_tp (hv j _ h1) hj
  rw [hx]
  exact hQ x w hf hk
theorem eval_put_ne {a : Act} {d t : Nat} {v : Value} (h : t ≠ d) : (a.put (some d) v).eval (.tmp t) = a.eval (.tmp t) := by
  simp only [Act.put, Act.eval]
  rw [Array.getD_eq_getD_getElem?, Array.getD_eq_getD_getElem?, Array.getElem?_setIfInBounds_ne (Ne.symm h)]
theorem eval_put_same {a : Act} {d : Nat} {v : Value} (h : d < a.tmps.size) : (a.put (some d) v).eval (.tmp d) = v := by
  simp only [Act.put, Act.eval]
  rw [Array.getD_eq_getD_getElem?, Array.getElem?_setIfInBounds_self_of_lt h]
  rfl
theorem putD_size (a : Act) (d : Nat) (v : Value) : (a.put (some d) v).tmps.size = a.tmps.size := by simp [Act.put]
theorem put_comm {a : Act} {d e : Nat} {u v : Value} (h : d ≠ e) : (a.put (some d) u).put (some e) v = (a.put (some e) v).put (some d) u := by
  simp only [Act.put]
  rw [Array.setIfInBounds_comm _ _ h]
/-- Two results are taken, in any order. -/
theorem tuple_tail {ops : Array Oper} {Q : Exit → Act → World → Prop} {a : Act} {w : World} (n t d0 d1 e0 e1 : Nat) (o0 o1 o2 o3 : Oper) (L : Array Bool)
    (g0 : ops[n]? = some o0) (g1 : ops[n + 1]? = some o1) (g2 : ops[n + 2]? = some o2) (g3 : ops[n + 3]? = some o3)
    (p0 : o0.op = .extract (.tmp t) 0) (p1 : o1.op = .extract (.tmp t) 1) (p2 : o2.op = .assign (.tmp d0)) (p3 : o3.op = .assign (.tmp d1))
    (q0 : o0.dst = some d0) (q1 : o1.dst = some d1) (q2 : o2.dst = some e0) (q3 : o3.dst = some e1) (s0 : o0.guard = none) (s1 : o1.guard = none) (s2 : o2.guard = none) (s3 : o3.guard = none)
    (r0 : Region.ready .any ops L = [n, n + 1]) (ra : Region.ready .any ops (L.setIfInBounds n true) = [n + 1, n + 2]) (rb : Region.ready .any ops (L.setIfInBounds (n + 1) true) = [n])
    (rab : Region.ready .any ops ((L.setIfInBounds n true).setIfInBounds (n + 1) true) = [n + 2]) (rba : Region.ready .any ops ((L.setIfInBounds (n + 1) true).setIfInBounds n true) = [n + 2]) (rac : Region.ready .any ops ((L.setIfInBounds n true).setIfInBounds (n + 2) true) = [n + 1])
    (rabc : Region.ready .any ops (((L.setIfInBounds n true).setIfInBounds (n + 1) true).setIfInBounds (n + 2) true) = [n + 3]) (rbac : Region.ready .any ops (((L.setIfInBounds (n + 1) true).setIfInBounds n true).setIfInBounds (n + 2) true) = [n + 3]) (racb : Region.ready .any ops (((L.setIfInBounds n true).setIfInBounds (n + 2) true).setIfInBounds (n + 1) true) = [n + 3])
    (f1 : Region.ready .any ops ((((L.setIfInBounds n true).setIfInBounds (n + 1) true).setIfInBounds (n + 2) true).setIfInBounds (n + 3) true) = []) (f2 : Region.ready .any ops ((((L.setIfInBounds (n + 1) true).setIfInBounds n true).setIfInBounds (n + 2) true).setIfInBounds (n + 3) true) = []) (f3 : Region.ready .any ops ((((L.setIfInBounds n true).setIfInBounds (n + 2) true).setIfInBounds (n + 1) true).setIfInBounds (n + 3) true) = [])
    (hd : d0 < a.tmps.size ∧ d1 < a.tmps.size) (hne : t ≠ d0 ∧ t ≠ d1 ∧ t ≠ e0 ∧ d0 ≠ d1 ∧ d0 ≠ e0 ∧ d1 ≠ e0) (v0 v1 : Value) (ht : a.eval (.tmp t) = .tuple #[v0, v1])
    (hQ : Q .normal ((((a.put (some d0) v0).put (some d1) v1).put (some e0) v0).put (some e1) v1) w) : wpAny Try.prog .any ops Q 4 L a w := by
  obtain ⟨n1, n2, n3, n4, n5, n6⟩ := hne
  have x0 : ∀ {b : Act} {K : Act → World → Prop}, b.eval (.tmp t) = .tuple #[v0, v1] → K (b.put (some d0) v0) w → o0.wp Try.prog b w K Q := fun hb hK => o_ext (.tmp t) 0 p0 _ v0 hb rfl (by rw [q0]; exact hK)
  have x1 : ∀ {b : Act} {K : Act → World → Prop}, b.eval (.tmp t) = .tuple #[v0, v1] → K (b.put (some d1) v1) w → o1.wp Try.prog b w K Q := fun hb hK => o_ext (.tmp t) 1 p1 _ v1 hb rfl (by rw [q1]; exact hK)
  have x2 : ∀ {b : Act} {K : Act → World → Prop}, b.eval (.tmp d0) = v0 → K (b.put (some e0) v0) w → o2.wp Try.prog b w K Q := fun hb hK => wp_assignV (.tmp d0) p2 v0 hb (by rw [q2]; exact hK)
  have x3 : ∀ {b : Act} {K : Act → World → Prop}, b.eval (.tmp d1) = v1 → K (b.put (some e1) v1) w → o3.wp Try.prog b w K Q := fun hb hK => wp_assignV (.tmp d1) p3 v1 hb (by rw [q3]; exact hK)
  refine wpAny_all r0 (by simp) ?_
  intro i hi
  rcases (show i = n ∨ i = n + 1 by simpa using hi) with rfl | rfl
  · refine wpOp_of g0 s0 (x0 ht ?_)
    refine wpAny_all ra (by simp) ?_
    intro j hj
    rcases (show j = i + 1 ∨ j = i + 2 by simpa using hj) with rfl | rfl
    · refine wpOp_of g1 s1 (x1 (by rw [eval_put_ne n1]; exact ht) ?_)
      refine wpAny_all rab (by simp) ?_
      intro j hj
      obtain rfl : j = i + 2 := by simpa using hj
      refine wpOp_of g2 s2 (x2 (by rw [eval_put_ne n4, eval_put_same hd.1]) ?_)
      refine wpAny_all rabc (by simp) ?_
      intro j hj
      obtain rfl : j = i + 3 := by simpa using hj
      refine wpOp_of g3 s3 (x3 (by rw [eval_put_ne n6, eval_put_same (by rw [putD_size]; exact hd.2)]) ?_)
      exact ⟨f1, hQ⟩
    · refine wpOp_of g2 s2 (x2 (eval_put_same hd.1) ?_)
      refine wpAny_all rac (by simp) ?_
      intro j hj
      obtain rfl : j = i + 1 := by simpa using hj
      refine wpOp_of g1 s1 (x1 (by rw [eval_put_ne n3, eval_put_ne n1]; exact ht) ?_)
      refine wpAny_all racb (by simp) ?_
      intro j hj
      obtain rfl : j = i + 3 := by simpa using hj
      refine wpOp_of g3 s3 (x3 (eval_put_same (by rw [putD_size, putD_size]; exact hd.2)) ?_)
      refine ⟨f3, ?_⟩
      rw [put_comm (Ne.symm n6)]
      exact hQ
  · refine wpOp_of g1 s1 (x1 ht ?_)
    refine wpAny_all rb (by simp) ?_
    intro j hj
    obtain rfl : j = n := by simpa using hj
    refine wpOp_of g0 s0 (x0 (by rw [eval_put_ne n2]; exact ht) ?_)
    refine wpAny_all rba (by simp) ?_
    intro i hi
    obtain rfl : i = j + 2 := by simpa using hi
    refine wpOp_of g2 s2 (x2 (eval_put_same (by rw [putD_size]; exact hd.1)) ?_)
    refine wpAny_all rbac (by simp) ?_
    intro i hi
    obtain rfl : i = j + 3 := by simpa using hi
    refine wpOp_of g3 s3 (x3 (by rw [eval_put_ne n6, eval_put_ne (Ne.symm n4), eval_put_same hd.2]) ?_)
    refine ⟨f2, ?_⟩
    rw [put_comm (a := a) (Ne.symm n4)]
    exact hQ

end Go.Proofs.Ytffflafalffifaa.K
