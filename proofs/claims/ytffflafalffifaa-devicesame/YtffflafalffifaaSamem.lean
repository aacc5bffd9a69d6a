/-
  Tables for regions whose values hang together. The walk of DeviceSame's law.
-/
import Derived.Test.YtffflafalffifaaDob
import Derived.Test.YtffflafalffifaaStps

namespace Go.Proofs.Ytffflafalffifaa.K
open Go.RowKit

def upd (x : Nat → Value) (j : Nat) (v : Value) : Nat → Value := fun i => if i = j then v else x i
theorem upd_same (x : Nat → Value) (j : Nat) (v : Value) : upd x j v j = v := if_pos rfl
theorem upd_ne {x : Nat → Value} {i j : Nat} {v : Value} (h : i ≠ j) : upd x j v i = x i := if_neg h
theorem valsP_eq (x : Nat → Value) (w : World) : ∀ (fs : List Fp) (k : Nat), (∀ (j : Nat) f, fs[j]? = some f → f.at (x (k + j)) w) → (List.range fs.length).map (fun j => x (k + j)) = valsP x k fs := by
  intro fs
  induction fs with
  | nil => intro k _; rfl
  | cons f fs ih =>
    intro k h
    have h0 := h 0 f rfl
    have h1 := ih (k + 1) (fun j g hj => by have := h (j + 1) g (by simpa using hj); rwa [show k + 1 + j = k + (j + 1) by omega])
    rw [List.length_cons, List.range_succ_eq_map, List.map_cons, List.map_map]
    have h2 : (List.range fs.length).map ((fun j => x (k + j)) ∘ Nat.succ) = valsP x (k + 1) fs := by
      rw [← h1]
      congr 1
      funext j
      simp only [Function.comp]
      congr 1
      omega
    rw [h2, Nat.add_zero]
    rw [Nat.add_zero] at h0
    cases f with
    | is u => rw [show x k = u from h0]; rfl
    | no => rw [show x k = undef from h0]; rfl
    | pr p hp => rfl
theorem wpAny_tx {ops : Array Oper} {Q : Exit → Act → World → Prop} {a0 : Act} {w0 : World} (hok : okW ops = true) (us : List Fp) (hu : us.length = ops.size) (hg : guardsP ops us = true)
    (hsl : ops.all (fun o => match o.dst with | none => true | some t => decide (t < a0.tmps.size)) = true) (J : Array Bool → (Nat → Value) → World → Prop) (hJ0 : ∀ x, J (Array.replicate ops.size false) x w0) (hJs : ∀ j l x w, skipP us j = true → l.size = ops.size → J l x w → J (l.setIfInBounds j true) (upd x j undef) w)
    (hop : ∀ (j : Nat) (o : Oper), j < ops.size → skipP us j = false → ops[j]? = some o → ∀ a w l x, l.size = ops.size → l.getD j false = false → J l x w → (∀ t : Nat, ops.toList.all (fun p => p.dst != some t) = true → a.eval (.tmp t) = a0.eval (.tmp t)) →
      (∀ (i t : Nat), o.after.any (fun e => Region.binds .any e && e.on == i) = true → ops[i]?.bind (·.dst) = some t → a.eval (.tmp t) = x i ∧ tp us i (a.eval (.tmp t)) w) → (∀ i : Nat, o.after.any (fun e => Region.binds .any e && e.on == i) = true → l.getD i false = true) →
      o.wp Try.prog a w (fun a' w' => ∃ v, a' = a.put o.dst v ∧ tp us j v w' ∧ Kept [] w w' ∧ J (l.setIfInBounds j true) (upd x j v) w') Q)
    (hQ : ∀ x l w, (∀ (j : Nat) p hp, us[j]? = some (.pr p hp) → p (x j) w) → (∀ j, j < ops.size → l.getD j false = true) → J l x w → Q .normal (putAll a0 ops.toList (valsP x 0 us)) w) :
    wpAny Try.prog .any ops Q ops.size (Array.replicate ops.size false) a0 w0 := by
  have K := okW_spec hok
  have hsl' : ∀ o ∈ ops, ∀ t, o.dst = some t → t < a0.tmps.size := by
    intro o ho t ht
    have := (Array.all_eq_true_iff_forall_mem.1 hsl) o ho
    rw [ht] at this
    simpa using this
  let I : Array Bool → Act → World → Prop := fun l a w => l.size = ops.size ∧ a.defers = a0.defers ∧ a.tmps.size = a0.tmps.size ∧ (∀ t, (∀ p ∈ ops.toList, p.dst ≠ some t) → a.tmps[t]? = a0.tmps[t]?) ∧
    ∃ x : Nat → Value, (∀ (j : Nat) (o : Oper) (t : Nat), ops[j]? = some o → o.dst = some t → l.getD j false = true → a.tmps[t]? = some (x j) ∧ tp us j (x j) w) ∧ J l x w
  have hrep : ∀ j, (Array.replicate ops.size false).getD j false = false := by
    intro j
    rw [Array.getD_eq_getD_getElem?, Array.getElem?_replicate]
    split <;> rfl
  refine wpAny_inv I ?_ ?_ ops.size _ a0 w0 ⟨by simp, rfl, rfl, fun _ _ => rfl, fun _ => undef, (fun j o t ho ht hl => by rw [hrep] at hl; cases hl), hJ0 _⟩ (by simp)
  · rintro l a w ⟨i1, i2, i3, i4, x, i5, i6⟩ j hj
    obtain ⟨hjl, o, ho, hdeps⟩ := mem_ready.1 hj
    have hjs : j < ops.size := (Array.getElem?_eq_some_iff.1 ho).1
    obtain ⟨t, ht⟩ := K.dst j o ho
    have htl : t < a.tmps.size := by rw [i3]; exact hsl' o (Array.mem_of_getElem? ho) t ht
    have hjf : l.getD j false = false := by
      simp only [Array.getD_eq_getD_getElem?] at hjl ⊢
      rw [Array.getElem?_eq_getElem (by omega)] at hjl ⊢
      simpa using hjl
    have hdep : ∀ i : Nat, o.after.any (fun e => Region.binds .any e && e.on == i) = true → l.getD i false = true := by
      intro i hi
      obtain ⟨k, hk, hb⟩ := Array.any_eq_true.1 hi
      have he := Array.getElem_mem hk
      obtain ⟨e, hee⟩ : ∃ e, o.after[k] = e := ⟨_, rfl⟩
      rw [hee] at hb he
      simp only [Bool.and_eq_true, beq_iff_eq] at hb
      have := hdeps e he hb.1
      rwa [hb.2] at this
    have hin : ∀ (i s : Nat), o.after.any (fun e => Region.binds .any e && e.on == i) = true → ops[i]?.bind (·.dst) = some s → a.eval (.tmp s) = x i ∧ tp us i (a.eval (.tmp s)) w := by
      intro i s hi hs
      cases hq : ops[i]? with
      | none => rw [hq] at hs; cases hs
      | some p =>
        rw [hq] at hs
        obtain ⟨hv, hf⟩ := i5 i p s hq hs (hdep i hi)
        have : a.eval (.tmp s) = x i := by simp [Act.eval, Array.getD_eq_getD_getElem?, hv]
        rw [this]
        exact ⟨rfl, hf⟩
    -- the state behind it
    have next : ∀ v w', tp us j v w' → Kept [] w w' → J (l.setIfInBounds j true) (upd x j v) w' → I (l.setIfInBounds j true) (a.put o.dst v) w' := by
      intro v w' hv hkk hJ
      rw [ht]
      refine ⟨by simp [i1], i2, by simp [Act.put, i3], ?_, upd x j v, ?_, hJ⟩
      · intro s hs
        have hne : t ≠ s := by
          intro e; subst e
          exact hs o (by simpa using Array.mem_of_getElem? ho) ht
        simp only [Act.put]
        rw [Array.getElem?_setIfInBounds_ne hne]
        exact i4 s hs
      · intro i p s hp hs hl
        rw [getD_setD (by omega)] at hl
        by_cases hij : i = j
        · subst hij
          rw [ho] at hp; cases hp
          rw [ht] at hs; cases hs
          rw [upd_same]
          exact ⟨by simp only [Act.put]; rw [Array.getElem?_setIfInBounds_self_of_lt htl], hv⟩
        · rw [if_neg hij] at hl
          obtain ⟨hu', hf⟩ := i5 i p s hp hs hl
          have hne : t ≠ s := by
            intro e; subst e
            rcases Nat.lt_or_gt_of_ne hij with h | h
            · exact K.apart i j p o h hp ho (by rw [hs, ht])
            · exact K.apart j i o p h ho hp (by rw [hs, ht])
          rw [upd_ne hij]
          exact ⟨by simp only [Act.put]; rw [Array.getElem?_setIfInBounds_ne hne]; exact hu', tp_kept us _ _ _ _ hf hkk⟩
    unfold wpOp
    rw [ho]
    simp only
    have hout : ∀ s : Nat, ops.toList.all (fun p => p.dst != some s) = true → a.eval (.tmp s) = a0.eval (.tmp s) := by
      intro s hs
      have := i4 s (fun p hp e => by
        have := (List.all_eq_true.1 hs) p hp
        rw [e] at this
        simp at this)
      simp [Act.eval, Array.getD_eq_getD_getElem?, this]
    have run : skipP us j = false → o.wp Try.prog a w (I (l.setIfInBounds j true)) Q := fun hsk =>
      Oper.wp_mono (fun a' w' ⟨v, e, hv, hkk, hJ⟩ => by rw [e]; exact next v w' hv hkk hJ) (hop j o hjs hsk ho a w l x i1 hjf i6 hout hin hdep)
    cases hgd : o.guard with
    | none =>
      rw [if_pos (by simp [Region.wanted, hgd])]
      exact .inl (run (guardsP_none hg j o ho hgd))
    | some ib =>
      obtain ⟨i, b⟩ := ib
      have ha := K.guard j o i b ho hgd
      have hli := hdep i ha
      have his : i < ops.size := by
        have : l.getD i false = true := hli
        rw [Array.getD_eq_getD_getElem?] at this
        by_cases h : i < ops.size
        · exact h
        · rw [Array.getElem?_eq_none (by omega)] at this; cases this
      obtain ⟨s, hs⟩ := K.dst i ops[i] (Array.getElem?_eq_getElem his)
      obtain ⟨hv, hf⟩ := i5 i _ s (Array.getElem?_eq_getElem his) hs hli
      have hes : ops[i]?.bind (·.dst) = some s := by rw [Array.getElem?_eq_getElem his]; exact hs
      rcases guardsP_some hg j o i b ho hgd with ⟨h1, h2⟩ | ⟨h1, h2⟩
      · have hvb := h2 _ w hf
        rw [hvb] at hv
        rw [if_pos (by simp [Region.wanted, hgd, yielded, hes, hv])]
        exact .inl (run h1)
      · have hvb := h2 _ w hf
        have hw : Region.wanted o (yielded ops a.tmps) = false := wanted_no hgd (yielded_of his hs hv) hvb
        rw [if_neg (by rw [hw]; simp)]
        exact next undef w (skipP_undef w h1) (Kept.refl _ _) (hJs j l x w h1 i1 i6)
  · rintro l a w ⟨i1, i2, i3, i4, x, i5, i6⟩ hr
    have hall : ∀ n j, j < n → j < ops.size → l.getD j false = true := by
      intro n
      induction n with
      | zero => intro j hj; omega
      | succ n ih =>
        intro j hj hjs
        cases hlj : l.getD j false with
        | true => rfl
        | false =>
          exfalso
          have hmem : j ∈ Region.ready .any ops l := by
            rw [mem_ready]
            refine ⟨?_, ops[j], Array.getElem?_eq_getElem hjs, fun e he hb => ?_⟩
            · simp only [Array.getD_eq_getD_getElem?] at hlj ⊢
              rw [Array.getElem?_eq_getElem (by omega)] at hlj ⊢
              simpa using hlj
            · have := K.back j ops[j] (Array.getElem?_eq_getElem hjs) e he hb
              exact ih e.on (by omega) (by omega)
          rw [hr] at hmem
          cases hmem
    have hl := fun j (hj : j < ops.size) => hall (j + 1) j (by omega) hj
    have hf : ∀ (j : Nat) (o : Oper) (t : Nat), ops[j]? = some o → o.dst = some t → a.tmps[t]? = some (x j) ∧ tp us j (x j) w := fun j o t ho ht => i5 j o t ho ht (hl j (Array.getElem?_eq_some_iff.1 ho).1)
    have hvs : ∀ j, j < ops.size → tp us j (x j) w := by
      intro j hj
      obtain ⟨t, ht⟩ := K.dst j ops[j] (Array.getElem?_eq_getElem hj)
      exact (hf j _ t (Array.getElem?_eq_getElem hj) ht).2
    have ha : a = putAll a0 ops.toList ((List.range ops.size).map x) := by
      have hs := putAll_size ops.toList ((List.range ops.size).map x) a0
      have hdst : ∀ (i j : Nat) (p q : Oper), ops.toList[i]? = some p → ops.toList[j]? = some q → i ≠ j → p.dst ≠ q.dst := by
        intro i j p q hp hq hij
        rw [Array.getElem?_toList] at hp hq
        rcases Nat.lt_or_gt_of_ne hij with h | h
        · exact K.apart i j p q h hp hq
        · exact fun e => K.apart j i q p h hq hp e.symm
      have ht : a.tmps = (putAll a0 ops.toList ((List.range ops.size).map x)).tmps := by
        apply Array.ext_getElem?
        intro t
        by_cases hx : ∃ (j : Nat) (o : Oper), ops[j]? = some o ∧ o.dst = some t
        · obtain ⟨j, o, ho, hd⟩ := hx
          have hjs : j < ops.size := (Array.getElem?_eq_some_iff.1 ho).1
          rw [(hf j o t ho hd).1, putAll_same ops.toList _ a0 j o (x j) t (by rw [Array.getElem?_toList]; exact ho) (by rw [List.getElem?_map, List.getElem?_range hjs]; rfl) hd (hsl' o (Array.mem_of_getElem? ho) t hd) hdst]
        · have hno : ∀ p ∈ ops.toList, p.dst ≠ some t := by
            intro p hp e
            obtain ⟨j, hj⟩ := List.mem_iff_getElem?.1 hp
            exact hx ⟨j, p, by rw [← Array.getElem?_toList]; exact hj, e⟩
          rw [i4 t hno, putAll_other ops.toList _ a0 t hno]
      cases a
      simp only at ht i2
      cases hp : putAll a0 ops.toList ((List.range ops.size).map x) with
      | mk tm df =>
        rw [hp] at ht hs
        simp only at ht hs
        rw [ht, i2, hs.2]
    have hx : (List.range ops.size).map x = valsP x 0 us := by
      have := valsP_eq x w us 0 (fun j f hj => by
        have hjs : j < ops.size := by have := (List.getElem?_eq_some_iff.1 hj).1; omega
        have := hvs j hjs
        unfold tp at this
        rw [hj] at this
        rw [Nat.zero_add]
        exact this)
      rw [← this, hu]
      congr 1
      funext j
      rw [Nat.zero_add]
    have hfa : ∀ (j : Nat) p hp, us[j]? = some (.pr p hp) → p (x j) w := by
      intro j p hp hj
      exact pr_tp (hvs j (by have := (List.getElem?_eq_some_iff.1 hj).1; omega)) hj
    rw [ha, hx]
    exact hQ x l w hfa hl i6

end Go.Proofs.Ytffflafalffifaa.K

namespace Go.Proofs.Ytffflafalffifaa.K
open Go.RowKit

/-- Two devices, and the document's two. -/
structure Tw (w W : World) (b g r sg eg : Nat) (D : Dev) (b2 g2 r2 sg2 eg2 : Nat) (D2 : Dev) : Prop where
  s : Sg w W b g r sg eg D
  s2 : Sg w W b2 g2 r2 sg2 eg2 D2
  dis : ∀ i j, (i = b ∨ i = g ∨ i = r ∨ i = sg ∨ i = eg) → (j = b2 ∨ j = g2 ∨ j = r2 ∨ j = sg2 ∨ j = eg2) → i ≠ j
  N : D.N = D2.N
theorem Tw.symm {w W : World} {b g r sg eg b2 g2 r2 sg2 eg2 : Nat} {D D2 : Dev} (h : Tw w W b g r sg eg D b2 g2 r2 sg2 eg2 D2) : Tw w W b2 g2 r2 sg2 eg2 D2 b g r sg eg D :=
  ⟨h.s2, h.s, fun i j hi hj e => h.dis j i hj hi e.symm, h.N.symm⟩
theorem Tw.step {w W W' : World} {b g r sg eg b2 g2 r2 sg2 eg2 : Nat} {D D2 : Dev} (h : Tw w W b g r sg eg D b2 g2 r2 sg2 eg2 D2) (hk : Kept [] W W') : Tw w W' b g r sg eg D b2 g2 r2 sg2 eg2 D2 :=
  ⟨h.s.step hk, h.s2.step hk, h.dis, h.N⟩
theorem Tw.do {w W W' : World} {b g r sg eg b2 g2 r2 sg2 eg2 b' g' r' sg' eg' : Nat} {D D2 D' : Dev} (h : Tw w W b g r sg eg D b2 g2 r2 sg2 eg2 D2) (hn : Nx D D') (hd : Dv W' b' g' D') (hr : Rv W' r' sg' eg' D') (ap : Ap w.heap.size b' g' r' sg' eg') (hk : Kept [b, g, r, sg, eg] W W') (hf : Frs W b g r sg eg b' g' r' sg' eg') : Tw w W' b' g' r' sg' eg' D' b2 g2 r2 sg2 eg2 D2 := by
  have hne : ∀ j, (j = b2 ∨ j = g2 ∨ j = r2 ∨ j = sg2 ∨ j = eg2) → j ∉ [b, g, r, sg, eg] := by
    intro j hj hm
    simp at hm
    exact h.dis j j hm hj rfl
  have h1 := h.s2.dv.lt
  have h2 := h.s2.rv.lt
  refine ⟨h.s.do hn hd hr ap hk, ⟨h.s2.dv.kept hk (hne _ (by simp)) (hne _ (by simp)), h.s2.rv.kept hk (hne _ (by simp)) (hne _ (by simp)) (hne _ (by simp)), h.s2.ap, h.s2.tz, (h.s.do hn hd hr ap hk).k⟩, ?_, by rw [hn.N]; exact h.N⟩
  intro i j hi hj e
  subst e
  by_cases ho : i = b ∨ i = g ∨ i = r ∨ i = sg ∨ i = eg
  · exact h.dis i i ho hj rfl
  · obtain ⟨f1, f2, f3, f4, f5⟩ := hf
    have hlt : i < W.heap.size := by omega
    have : W.heap.size ≤ i := by
      rcases hi with rfl | rfl | rfl | rfl | rfl
      · rcases f1 with rfl | f
        · exact absurd (by simp) ho
        · exact f
      · rcases f2 with rfl | f
        · exact absurd (by simp) ho
        · exact f
      · rcases f3 with rfl | f
        · exact absurd (by simp) ho
        · exact f
      · rcases f4 with rfl | f
        · exact absurd (by simp) ho
        · exact f
      · rcases f5 with rfl | f
        · exact absurd (by simp) ho
        · exact f
    omega
theorem same_selfD (D : Dev) : Dev.same D D = true := by simp [Dev.same]
section
variable {ops : Array Oper} {rest : List Oper} {op : Oper} {a : Act} {w : World} {Q : Exit → Act → World → Prop}
theorem wpEql4G (x y : Operand) (ho : op.op = .binOp .eql 4 x y 4) (hw : Region.wanted op (yielded ops a.tmps) = true) (m : Bool) (hx : a.eval x = .bool m) (hy : a.eval y = .bool m) (h : wpList Try.prog ops Q rest (a.put op.dst (.bool true)) w) : wpList Try.prog ops Q (op :: rest) a w :=
  BigFrame.wpList_want hw fun _ hK => o_eql4v x y ho m hx hy (hK _ _ h)
end
theorem cg9 (vs : Array Value) (w : World) : (callFunc 9 vs).run Try.prog w = .ok (.enter 9 vs) w := by kernel_rfl
/-- Two of the document's devices are made in one region. -/
structure J5 (V : World) (D : Dev) (l : Array Bool) (x : Nat → Value) (W : World) : Prop where
  k : Kept [] V W
  c : l.getD 9 false = true → l.getD 4 false = true
  one : l.getD 4 false = true → ∃ r sg eg, x 4 = P0 r ∧ V.heap.size ≤ r ∧ V.heap.size ≤ sg ∧ V.heap.size ≤ eg ∧ Rv W r sg eg D ∧ (l.getD 9 false = true → ∃ r2 sg2 eg2, x 9 = P0 r2 ∧ V.heap.size ≤ r2 ∧ V.heap.size ≤ sg2 ∧ V.heap.size ≤ eg2 ∧ Rv W r2 sg2 eg2 D ∧ ∀ i j, (i = r ∨ i = sg ∨ i = eg) → (j = r2 ∨ j = sg2 ∨ j = eg2) → i ≠ j)
  p : l.getD 10 false = true → l.getD 4 false = true ∧ x 10 = x 4
  q : l.getD 11 false = true → l.getD 9 false = true ∧ x 11 = x 9
theorem J5.same {V W : World} {D : Dev} {l : Array Bool} {x : Nat → Value} (h : J5 V D l x W) (j : Nat) (v : Value) (h4 : 4 ≠ j) (h9 : 9 ≠ j) (h10 : 10 ≠ j) (h11 : 11 ≠ j) : J5 V D (l.setIfInBounds j true) (upd x j v) W := by
  refine ⟨h.k, ?_, ?_, ?_, ?_⟩
  · rw [getD_oth h9, getD_oth h4]; exact h.c
  · rw [getD_oth h9, getD_oth h4, upd_ne h4, upd_ne h9]; exact h.one
  · rw [getD_oth h10, getD_oth h4, upd_ne h10, upd_ne h4]; exact h.p
  · rw [getD_oth h11, getD_oth h9, upd_ne h11, upd_ne h9]; exact h.q
theorem J5.first {V W W' : World} {D : Dev} {l : Array Bool} {x : Nat → Value} {r sg eg : Nat} (h : J5 V D l x W) (hl : l.getD 4 false = false) (hr : W.heap.size ≤ r ∧ W.heap.size ≤ sg ∧ W.heap.size ≤ eg) (hR : Rv W' r sg eg D) (hk : Kept [] W W') : J5 V D (l.setIfInBounds 4 true) (upd x 4 (P0 r)) W' := by
  have hs := h.k.size
  have h9 : l.getD 9 false = false := by
    cases h9 : l.getD 9 false with
    | false => rfl
    | true => rw [h.c h9] at hl; cases hl
  refine ⟨h.k.trans hk, ?_, ?_, ?_, ?_⟩
  · rw [getD_oth (by decide), h9]; intro h; cases h
  · intro _
    refine ⟨r, sg, eg, upd_same _ _ _, by omega, by omega, by omega, hR, ?_⟩
    rw [getD_oth (by decide), h9]; intro h; cases h
  · rw [getD_oth (by decide)]; intro h10; rw [(h.p h10).1] at hl; cases hl
  · rw [getD_oth (by decide), getD_oth (by decide), upd_ne (by decide), upd_ne (by decide)]; exact h.q
theorem J5.second {V W W' : World} {D : Dev} {l : Array Bool} {x : Nat → Value} {r2 sg2 eg2 : Nat} (h : J5 V D l x W) (h4 : l.getD 4 false = true) (h9 : l.getD 9 false = false) (hr : W.heap.size ≤ r2 ∧ W.heap.size ≤ sg2 ∧ W.heap.size ≤ eg2) (hR : Rv W' r2 sg2 eg2 D) (hk : Kept [] W W') : J5 V D (l.setIfInBounds 9 true) (upd x 9 (P0 r2)) W' := by
  have hs := h.k.size
  obtain ⟨r, sg, eg, e1, e2, e3, e4, e5, _⟩ := h.one h4
  have hlt := e5.lt
  refine ⟨h.k.trans hk, ?_, ?_, ?_, ?_⟩
  · intro _; rw [getD_oth (by decide)]; exact h4
  · intro _
    refine ⟨r, sg, eg, by rw [upd_ne (by decide)]; exact e1, e2, e3, e4, e5.kept hk (by simp) (by simp) (by simp), fun _ => ⟨r2, sg2, eg2, upd_same _ _ _, by omega, by omega, by omega, hR, fun i j hi hj e => by omega⟩⟩
  · rw [getD_oth (by decide), getD_oth (by decide), upd_ne (by decide), upd_ne (by decide)]; exact h.p
  · rw [getD_oth (by decide)]; intro h11; rw [(h.q h11).1] at h9; cases h9
theorem J5.asg10 {V W : World} {D : Dev} {l : Array Bool} {x : Nat → Value} {v : Value} (h : J5 V D l x W) (h4 : l.getD 4 false = true) (hv : v = x 4) : J5 V D (l.setIfInBounds 10 true) (upd x 10 v) W := by
  refine ⟨h.k, ?_, ?_, ?_, ?_⟩
  · rw [getD_oth (by decide), getD_oth (by decide)]; exact h.c
  · rw [getD_oth (by decide), getD_oth (by decide), upd_ne (by decide), upd_ne (by decide)]; exact h.one
  · intro _; rw [upd_same, upd_ne (by decide), getD_oth (by decide)]; exact ⟨h4, hv⟩
  · rw [getD_oth (by decide), getD_oth (by decide), upd_ne (by decide), upd_ne (by decide)]; exact h.q
theorem J5.asg11 {V W : World} {D : Dev} {l : Array Bool} {x : Nat → Value} {v : Value} (h : J5 V D l x W) (h9 : l.getD 9 false = true) (hv : v = x 9) : J5 V D (l.setIfInBounds 11 true) (upd x 11 v) W := by
  refine ⟨h.k, ?_, ?_, ?_, ?_⟩
  · rw [getD_oth (by decide), getD_oth (by decide)]; exact h.c
  · rw [getD_oth (by decide), getD_oth (by decide), upd_ne (by decide), upd_ne (by decide)]; exact h.one
  · rw [getD_oth (by decide), getD_oth (by decide), upd_ne (by decide), upd_ne (by decide)]; exact h.p
  · intro _; rw [upd_same, upd_ne (by decide), getD_oth (by decide)]; exact ⟨h9, hv⟩
set_option maxHeartbeats 2000000 in
set_option maxRecDepth 100000 in
theorem same_big (n0 n1 : Int) (ao : Option Addr) (m c : Nat) (ao2 : Option Addr) (m2 c2 : Nat) (w : World) (h64 : (64 : Int) < n0) : Calls Try.prog 5 #[aggV (sizeC n0 n1), .slice ao m c, .slice ao2 m2 c2] w fun e w' => e = .returned (.bool true) ∧ Kept [] w w' := by
  go_enter Try.func5, Try.ntmps5
  go_wp2_with (
    first
    | (refine wpBoxV (by rfl) (.tmp 0) (by rfl) (sizeC n0 n1) (by rfl) ?_
       intro W1 b3 e1 B1 K1
       have HB := hide B1
       have HK := hide K1
       obtain ⟨q0, q1⟩ := size_cells B1
       clear e1 B1 K1
       refine Stp.go ?_))
  constructor
  go_wp2_with (
    first
    | (go_at_call 11
       refine (known11 _).mono ?_
       rintro e V9 ⟨rfl, k9⟩
       replace HK := hide ((unhide HK).trans k9)
       clear k9))
  go_ret
  exact ⟨rfl, unhide HK⟩
set_option maxHeartbeats 2000000 in
set_option maxRecDepth 100000 in
theorem same_no (n0 n1 : Int) (ao : Option Addr) (m c : Nat) (ao2 : Option Addr) (m2 c2 : Nat) (X X2 : List Sx) (w : World) (h : newB n0 n1 = false) (hS : Scr w w.heap.size ao m c X) (hS2 : Scr w w.heap.size ao2 m2 c2 X2) (hm : m ≤ 9223372036854775807) (hm2 : m2 ≤ 9223372036854775807) (h64 : ¬ (64 : Int) < n0) : Calls Try.prog 5 #[aggV (sizeC n0 n1), .slice ao m c, .slice ao2 m2 c2] w fun e w' => e = .returned (.bool true) ∧ Kept [] w w' := by
  have HN := hide h
  have HS := hide hS
  have HS2 := hide hS2
  clear h hS hS2
  go_enter Try.func5, Try.ntmps5
  go_wp2_with (
    first
    | (refine wpBoxV (by rfl) (.tmp 0) (by rfl) (sizeC n0 n1) (by rfl) ?_
       intro W1 b3 e1 B1 K1
       have HB := hide B1
       have HK := hide K1
       obtain ⟨q0, q1⟩ := size_cells B1
       clear e1 B1 K1
       refine Stp.go ?_))
  constructor
  go_wp2_with (
    first
    | (go_at_call 12
       refine (much12 w.heap.size ao m c X _ ((unhide HS).kept (unhide HK) (by simp)) hm).mono ?_
       rintro e V3 ⟨⟨rm3, rfl⟩, k3⟩
       replace HB := hide ((unhide HB).kept k3 (by simp))
       replace HK := hide ((unhide HK).trans k3)
       clear q0 q1
       obtain ⟨q0, q1⟩ := size_cells (unhide HB)
       clear k3
       refine Stp.go ?_))
  constructor
  cases rm3 with
  | true =>
    go_wp2_with (
      first
      | (go_at_call 11
         refine (known11 _).mono ?_
         rintro e V9 ⟨rfl, k9⟩
         replace HK := hide ((unhide HK).trans k9)
         clear k9))
    go_ret
    exact ⟨rfl, unhide HK⟩
  | false =>
    go_wp2_with (
      first
      | (go_at_call 12
         refine (much12 w.heap.size ao2 m2 c2 X2 _ ((unhide HS2).kept (unhide HK) (by simp)) hm2).mono ?_
         rintro e V4 ⟨⟨rm4, rfl⟩, k4⟩
         replace HB := hide ((unhide HB).kept k4 (by simp))
         replace HK := hide ((unhide HK).trans k4)
         clear q0 q1
         obtain ⟨q0, q1⟩ := size_cells (unhide HB)
         clear k4
         refine Stp.go ?_))
    constructor
    cases rm4 with
    | true =>
      go_wp2_with (
        first
        | (go_at_call 11
           refine (known11 _).mono ?_
           rintro e V9 ⟨rfl, k9⟩
           replace HK := hide ((unhide HK).trans k9)
           clear k9))
      go_ret
      exact ⟨rfl, unhide HK⟩
    | false =>
      go_wp2_with (
        first
        | (go_at_call 9
           refine (r_new_no n0 n1 _ (unhide HN)).mono ?_
           rintro e V5 ⟨rfl, hw1⟩
           obtain rfl := hw1.symm
           clear hw1
           refine Stp.go ?_))
      constructor
      go_wp2_with (
        first
        | (go_at_call 11
           refine (known11 _).mono ?_
           rintro e V9 ⟨rfl, k9⟩
           replace HK := hide ((unhide HK).trans k9)
           clear k9))
      go_ret
      exact ⟨rfl, unhide HK⟩
set_option maxHeartbeats 8000000 in
set_option maxRecDepth 100000 in
theorem same_yes (n N : Nat) (ao : Option Addr) (m c : Nat) (ao2 : Option Addr) (m2 c2 : Nat) (X X2 : List Sx) (w : World) (h : newB n N = true) (hS : Scr w w.heap.size ao m c X) (hS2 : Scr w w.heap.size ao2 m2 c2 X2) (hm : m ≤ 9223372036854775807) (hm2 : m2 ≤ 9223372036854775807) (h64 : ¬ (64 : Int) < n) : Calls Try.prog 5 #[aggV (sizeC n N), .slice ao m c, .slice ao2 m2 c2] w fun e w' => e = .returned (.bool true) ∧ Kept [] w w' := by
  have HN := hide h
  have HS := hide hS
  have HS2 := hide hS2
  clear h hS hS2
  go_enter Try.func5, Try.ntmps5
  go_wp2_with (
    first
    | (refine wpBoxV (by rfl) (.tmp 0) (by rfl) (sizeC n N) (by rfl) ?_
       intro W1 b3 e1 B1 K1
       have HB := hide B1
       have HK := hide K1
       obtain ⟨q0, q1⟩ := size_cells B1
       clear e1 B1 K1
       refine Stp.go ?_))
  constructor
  go_wp2_with (
    first
    | (go_at_call 12
       refine (much12 w.heap.size ao m c X _ ((unhide HS).kept (unhide HK) (by simp)) hm).mono ?_
       rintro e V3 ⟨⟨rm3, rfl⟩, k3⟩
       replace HB := hide ((unhide HB).kept k3 (by simp))
       replace HK := hide ((unhide HK).trans k3)
       clear q0 q1
       obtain ⟨q0, q1⟩ := size_cells (unhide HB)
       clear k3
       refine Stp.go ?_))
  constructor
  cases rm3 with
  | true =>
    go_wp2_with (
      first
      | (go_at_call 11
         refine (known11 _).mono ?_
         rintro e V9 ⟨rfl, k9⟩
         replace HK := hide ((unhide HK).trans k9)
         clear k9))
    go_ret
    exact ⟨rfl, unhide HK⟩
  | false =>
    go_wp2_with (
      first
      | (go_at_call 12
         refine (much12 w.heap.size ao2 m2 c2 X2 _ ((unhide HS2).kept (unhide HK) (by simp)) hm2).mono ?_
         rintro e V4 ⟨⟨rm4, rfl⟩, k4⟩
         replace HB := hide ((unhide HB).kept k4 (by simp))
         replace HK := hide ((unhide HK).trans k4)
         clear q0 q1
         obtain ⟨q0, q1⟩ := size_cells (unhide HB)
         clear k4
         refine Stp.go ?_))
    constructor
    cases rm4 with
    | true =>
      go_wp2_with (
        first
        | (go_at_call 11
           refine (known11 _).mono ?_
           rintro e V9 ⟨rfl, k9⟩
           replace HK := hide ((unhide HK).trans k9)
           clear k9))
      go_ret
      exact ⟨rfl, unhide HK⟩
    | false =>
      go_wp2_with (
        first
        | (go_at_call 9
           refine (r_new_yes n N _ (unhide HN)).mono ?_
           rintro e V5 ⟨r0, s0, e0, rfl, _, _, _, _, k5⟩
           replace HB := hide ((unhide HB).kept k5 (by simp))
           replace HK := hide ((unhide HK).trans k5)
           clear q0 q1
           obtain ⟨q0, q1⟩ := size_cells (unhide HB)
           clear k5
           refine Stp.go ?_))
      constructor
      go_wp2_with (
        first
        | (go_at_call 8
           refine (new_yes n N _ (unhide HN)).mono ?_
           rintro e V6 ⟨b, g, rfl, hb1, hg1, hd1, k6⟩
           have HD := hide hd1
           have H1 : Hid (w.heap.size ≤ b ∧ w.heap.size ≤ g) := by have := (unhide HK).size; exact ⟨by omega, by omega⟩
           clear hb1 hg1 hd1
           replace HB := hide ((unhide HB).kept k6 (by simp))
           replace HK := hide ((unhide HK).trans k6)
           clear q0 q1
           obtain ⟨q0, q1⟩ := size_cells (unhide HB)
           clear k6
           refine Stp.go ?_))
      constructor
      go_wp2_with (
        first
        | (go_at_call 8
           refine (new_yes n N _ (unhide HN)).mono ?_
           rintro e V7 ⟨b2, g2, rfl, hb1, hg1, hd1, k7⟩
           have HD2 := hide hd1
           have H2 : Hid (w.heap.size ≤ b2 ∧ w.heap.size ≤ g2 ∧ b ≠ b2 ∧ b ≠ g2 ∧ g ≠ b2 ∧ g ≠ g2) := by have := (unhide HK).size; have := (unhide HD).lt; exact ⟨by omega, by omega, by omega, by omega, by omega, by omega⟩
           replace HD := hide ((unhide HD).kept k7 (by simp) (by simp))
           clear hb1 hg1 hd1
           replace HB := hide ((unhide HB).kept k7 (by simp))
           replace HK := hide ((unhide HK).trans k7)
           clear q0 q1
           obtain ⟨q0, q1⟩ := size_cells (unhide HB)
           clear k7
           refine Stp.go ?_))
      constructor
      go_wp2_with fail
      have C0 := hide q0
      have C1 := hide q1
      refine wp_region_any mixed (wpAny_tx (by kernel_rfl) [.is (.pointer (some ⟨b3, 0, none⟩)), .is (.int .i64 n), .is (.pointer (some ⟨b3, 1, none⟩)), .is (.int .i64 N), .pr (fun _ _ => True) (fun _ _ _ _ _ => trivial), .is (.pointer (some ⟨b3, 0, none⟩)), .is (.int .i64 n), .is (.pointer (some ⟨b3, 1, none⟩)), .is (.int .i64 N), .pr (fun _ _ => True) (fun _ _ _ _ _ => trivial), .pr (fun _ _ => True) (fun _ _ _ _ _ => trivial), .pr (fun _ _ => True) (fun _ _ _ _ _ => trivial)] rfl (by kernel_rfl) (by kernel_rfl) (J5 V7 (newDev n N)) ?_ ?_ ?_ ?_)
      · intro x
        have hrep : ∀ m j, (Array.replicate m false).getD j false = false := fun m j => by
          rw [Array.getD_eq_getD_getElem?, Array.getElem?_replicate]
          split <;> rfl
        exact ⟨⟨rfl, rfl, rfl, Nat.le_refl _, fun _ _ _ => rfl⟩, (fun h => by rw [hrep] at h; cases h), (fun h => by rw [hrep] at h; cases h), (fun h => by rw [hrep] at h; cases h), (fun h => by rw [hrep] at h; cases h)⟩
      · intro j l x w h _ _
        exfalso
        revert h
        match j with
        | 0 | 1 | 2 | 3 | 4 | 5 | 6 | 7 | 8 | 9 | 10 | 11 => intro h; cases h
        | (k + 12) => intro h; cases h
      · intro i o' hi hsk ho a' w2 ls x hls hlf hJ hout hin hdep
        match i, ho, hsk with
        | 0, ho, hsk =>
          obtain rfl := Option.some.inj ho
          exact o_idx22_0 (.tmp 3) rfl b3 ((hout 3 (by kernel_rfl)).trans rfl) ⟨_, rfl, tp_is _ _ _ _ rfl, Kept.refl _ _, J5.same hJ _ _ (by decide) (by decide) (by decide) (by decide)⟩
        | 1, ho, hsk =>
          obtain rfl := Option.some.inj ho
          have e0 : a'.eval (.tmp 52) = .pointer (some ⟨b3, 0, none⟩) := is_tp (w := w2) (hin 0 52 (by kernel_rfl) (by kernel_rfl)).2 rfl
          exact o_load3 (.tmp 52) rfl ⟨b3, 0, none⟩ _ e0 (hJ.k.cell (unhide C0) (by simp)) ⟨_, rfl, tp_is _ _ _ _ rfl, Kept.refl _ _, J5.same hJ _ _ (by decide) (by decide) (by decide) (by decide)⟩
        | 2, ho, hsk =>
          obtain rfl := Option.some.inj ho
          exact o_idx22_1 (.tmp 3) rfl b3 ((hout 3 (by kernel_rfl)).trans rfl) ⟨_, rfl, tp_is _ _ _ _ rfl, Kept.refl _ _, J5.same hJ _ _ (by decide) (by decide) (by decide) (by decide)⟩
        | 3, ho, hsk =>
          obtain rfl := Option.some.inj ho
          have e0 : a'.eval (.tmp 54) = .pointer (some ⟨b3, 1, none⟩) := is_tp (w := w2) (hin 2 54 (by kernel_rfl) (by kernel_rfl)).2 rfl
          exact o_load3 (.tmp 54) rfl ⟨b3, 1, none⟩ _ e0 (hJ.k.cell (unhide C1) (by simp)) ⟨_, rfl, tp_is _ _ _ _ rfl, Kept.refl _ _, J5.same hJ _ _ (by decide) (by decide) (by decide) (by decide)⟩
        | 4, ho, hsk =>
          obtain rfl := Option.some.inj ho
          have e0 : a'.eval (.tmp 53) = .int .i64 n := is_tp (w := w2) (hin 1 53 (by kernel_rfl) (by kernel_rfl)).2 rfl
          have e1 : a'.eval (.tmp 55) = .int .i64 N := is_tp (w := w2) (hin 3 55 (by kernel_rfl) (by kernel_rfl)).2 rfl
          refine wp_callF 9 _ _ rfl #[.int .i64 n, .int .i64 N] (by simp [e0, e1]) (cg9 _ _) ((r_new_yes n N _ (unhide HN)).mono ?_)
          rintro e w3 ⟨r, sg, eg, rfl, hr1, hs1, he1, hR, hk3⟩
          exact ⟨_, rfl, _, rfl, tp_pr _ _ _ _ _ _ rfl trivial, hk3, J5.first hJ hlf ⟨hr1, hs1, he1⟩ hR hk3⟩
        | 5, ho, hsk =>
          obtain rfl := Option.some.inj ho
          exact o_idx22_0 (.tmp 3) rfl b3 ((hout 3 (by kernel_rfl)).trans rfl) ⟨_, rfl, tp_is _ _ _ _ rfl, Kept.refl _ _, J5.same hJ _ _ (by decide) (by decide) (by decide) (by decide)⟩
        | 6, ho, hsk =>
          obtain rfl := Option.some.inj ho
          have e0 : a'.eval (.tmp 57) = .pointer (some ⟨b3, 0, none⟩) := is_tp (w := w2) (hin 5 57 (by kernel_rfl) (by kernel_rfl)).2 rfl
          exact o_load3 (.tmp 57) rfl ⟨b3, 0, none⟩ _ e0 (hJ.k.cell (unhide C0) (by simp)) ⟨_, rfl, tp_is _ _ _ _ rfl, Kept.refl _ _, J5.same hJ _ _ (by decide) (by decide) (by decide) (by decide)⟩
        | 7, ho, hsk =>
          obtain rfl := Option.some.inj ho
          exact o_idx22_1 (.tmp 3) rfl b3 ((hout 3 (by kernel_rfl)).trans rfl) ⟨_, rfl, tp_is _ _ _ _ rfl, Kept.refl _ _, J5.same hJ _ _ (by decide) (by decide) (by decide) (by decide)⟩
        | 8, ho, hsk =>
          obtain rfl := Option.some.inj ho
          have e0 : a'.eval (.tmp 59) = .pointer (some ⟨b3, 1, none⟩) := is_tp (w := w2) (hin 7 59 (by kernel_rfl) (by kernel_rfl)).2 rfl
          exact o_load3 (.tmp 59) rfl ⟨b3, 1, none⟩ _ e0 (hJ.k.cell (unhide C1) (by simp)) ⟨_, rfl, tp_is _ _ _ _ rfl, Kept.refl _ _, J5.same hJ _ _ (by decide) (by decide) (by decide) (by decide)⟩
        | 9, ho, hsk =>
          obtain rfl := Option.some.inj ho
          have e0 : a'.eval (.tmp 58) = .int .i64 n := is_tp (w := w2) (hin 6 58 (by kernel_rfl) (by kernel_rfl)).2 rfl
          have e1 : a'.eval (.tmp 60) = .int .i64 N := is_tp (w := w2) (hin 8 60 (by kernel_rfl) (by kernel_rfl)).2 rfl
          refine wp_callF 9 _ _ rfl #[.int .i64 n, .int .i64 N] (by simp [e0, e1]) (cg9 _ _) ((r_new_yes n N _ (unhide HN)).mono ?_)
          rintro e w3 ⟨r, sg, eg, rfl, hr1, hs1, he1, hR, hk3⟩
          exact ⟨_, rfl, _, rfl, tp_pr _ _ _ _ _ _ rfl trivial, hk3, J5.second hJ (hdep 4 (by kernel_rfl)) hlf ⟨hr1, hs1, he1⟩ hR hk3⟩
        | 10, ho, hsk =>
          obtain rfl := Option.some.inj ho
          have e0 := (hin 4 56 (by kernel_rfl) (by kernel_rfl)).1
          exact o_assignX (.tmp 56) rfl ⟨_, rfl, tp_pr _ _ _ _ _ _ rfl trivial, Kept.refl _ _, J5.asg10 hJ (hdep 4 (by kernel_rfl)) e0⟩
        | 11, ho, hsk =>
          obtain rfl := Option.some.inj ho
          have e0 := (hin 9 61 (by kernel_rfl) (by kernel_rfl)).1
          exact o_assignX (.tmp 61) rfl ⟨_, rfl, tp_pr _ _ _ _ _ _ rfl trivial, Kept.refl _ _, J5.asg11 hJ (hdep 9 (by kernel_rfl)) e0⟩
      intro xx ll w9 hf9 hl9 hJ9
      obtain ⟨r, sg, eg, x4, hr1, hs1, he1, hR, hrest⟩ := hJ9.one (hl9 4 (by decide))
      obtain ⟨r2, sg2, eg2, x9, hr2, hs2, he2, hR2, hdis⟩ := hrest (hl9 9 (by decide))
      have x10 := (hJ9.p (hl9 10 (by decide))).2
      have x11 := (hJ9.q (hl9 11 (by decide))).2
      rw [x4] at x10
      rw [x9] at x11
      simp only [valsP, Nat.reduceAdd, x4, x9, x10, x11, putAll, Act.put, List.setIfInBounds_toArray, List.set_cons_succ, List.set_cons_zero]
      have TW : Hid (Tw w w9 b g r sg eg (newDev n N) b2 g2 r2 sg2 eg2 (newDev n N)) := by
        have h1 := (unhide HD).lt
        have h2 := (unhide HD2).lt
        have h3 := (unhide HK).size
        have h4 := unhide H1
        have h5 := unhide H2
        have k9 := hJ9.k
        refine ⟨⟨(unhide HD).kept k9 (by simp) (by simp), hR, ⟨⟨by omega, by omega, by omega, by omega, by omega⟩, by omega, by omega, by omega, by omega, by omega, by omega⟩, tz_new n N, (unhide HK).trans k9⟩, ⟨(unhide HD2).kept k9 (by simp) (by simp), hR2, ⟨⟨by omega, by omega, by omega, by omega, by omega⟩, by omega, by omega, by omega, by omega, by omega, by omega⟩, tz_new n N, (unhide HK).trans k9⟩, ?_, rfl⟩
        intro i j hi hj e
        subst e
        by_cases hc : (i = r ∨ i = sg ∨ i = eg) ∧ (i = r2 ∨ i = sg2 ∨ i = eg2)
        · exact hdis i i hc.1 hc.2 rfl
        · omega
      clear hf9 hl9 hJ9 x4 x9 x10 x11 hr1 hs1 he1 hR hrest hr2 hs2 he2 hR2 hdis xx C0 C1 HD HD2 H1 H2
      go_wp2_with fail
      clear HB HK q0 q1 HN
      obtain ⟨D, D2, TW⟩ : ∃ D D2, Hid (Tw w w9 b g r sg eg D b2 g2 r2 sg2 eg2 D2) := ⟨_, _, TW⟩
      go_loopw [7, 11, 13, 14] (fun d rr ok i wr => ∃ b g r sg eg k : Nat, ∃ D : Dev, k ≤ m ∧ k ≤ 30 ∧ d = P0 b ∧ rr = P0 r ∧ ok = .bool true ∧ i = .int .i64 k ∧ Hid (Tw w wr b g r sg eg D b2 g2 r2 sg2 eg2 D2)) (fun _ _ _ i _ => 30 - (intOf i).toNat)
      case atStart => exact ⟨b, g, r, sg, eg, 0, D, by omega, by omega, rfl, rfl, rfl, rfl, TW⟩
      case round =>
        clear TW
        obtain ⟨b, g, r, sg, eg, k, D, hk, hk3, rfl, rfl, rfl, rfl, TW⟩ := hrel
        by_cases hlt : k < m
        · by_cases h30 : k < 30
          · obtain ⟨x, hx⟩ : ∃ x, X[k]? = some x := ⟨_, List.getElem?_eq_getElem (by rw [(unhide HS).len]; exact hlt)⟩
            have hS3 := (unhide HS).kept (unhide TW).s.k (by simp)
            obtain ⟨h, off, rfl, hg, hl⟩ := hS3.lies (by intro e; rw [e] at hx; simp at hx)
            have HR := hide (hl k x hx)
            have HX := hide (hS3.ok x (List.mem_of_getElem? hx))
            have hlC := C_len (unhide HX)
            have P14 := hide (do14 w.heap.size b g r sg eg D x wr (unhide TW).s.dv (unhide TW).s.rv (unhide TW).s.ap (unhide HX) (unhide TW).s.tz (unhide TW).s.k.size)
            clear hl hS3 hg HX
            go_wp2_with (
              first
              | (refine wpLoadA row40 (by rfl) (.tmp 86) (by rfl) h (off + k * 134) (by kernel_rfl) x.C hlC (unhide HR) ?_
                 refine Stp.go ?_))
            constructor
            go_wp2_with fail
            refine (unhide P14).mono ?_
            intro e V5 hdo
            obtain ⟨b', g', r', sg', eg', rfl, hd', hr', ap', k', fr'⟩ := hdo
            have TW2 := hide ((unhide TW).do (Nx.next D x) hd' hr' ap' k' fr')
            clear hd' hr' ap' k' fr' P14 HR TW
            go_wp2_with fail
            go_roundw
            case rel => exact ⟨b', g', r', sg', eg', k + 1, _, by omega, by omega, rfl, rfl, rfl, by go_num, TW2⟩
            case measure => simp [intOf]; omega
          · go_wp2_with fail
            go_loopw [9, 12, 13, 15] (fun d rr ok i wr => ∃ b2 g2 r2 sg2 eg2 k : Nat, ∃ D2 : Dev, k ≤ m2 ∧ k ≤ 30 ∧ d = P0 b2 ∧ rr = P0 r2 ∧ ok = .bool true ∧ i = .int .i64 k ∧ Hid (Tw w wr b g r sg eg D b2 g2 r2 sg2 eg2 D2)) (fun _ _ _ i _ => 30 - (intOf i).toNat)
            case atStart => exact ⟨b2, g2, r2, sg2, eg2, 0, D2, by omega, by omega, rfl, rfl, rfl, rfl, TW⟩
            case round =>
              clear TW
              obtain ⟨b2, g2, r2, sg2, eg2, k, D2, hk, hk3, rfl, rfl, rfl, rfl, TW⟩ := hrel
              by_cases hlt : k < m2
              · by_cases h30 : k < 30
                · obtain ⟨x, hx⟩ : ∃ x, X2[k]? = some x := ⟨_, List.getElem?_eq_getElem (by rw [(unhide HS2).len]; exact hlt)⟩
                  have hS3 := (unhide HS2).kept (unhide TW).s.k (by simp)
                  obtain ⟨h, off, rfl, hg, hl⟩ := hS3.lies (by intro e; rw [e] at hx; simp at hx)
                  have HR := hide (hl k x hx)
                  have HX := hide (hS3.ok x (List.mem_of_getElem? hx))
                  have hlC := C_len (unhide HX)
                  have P14 := hide (do14 w.heap.size b2 g2 r2 sg2 eg2 D2 x wr (unhide TW).symm.s.dv (unhide TW).symm.s.rv (unhide TW).symm.s.ap (unhide HX) (unhide TW).symm.s.tz (unhide TW).symm.s.k.size)
                  clear hl hS3 hg HX
                  go_wp2_with (
                    first
                    | (refine wpLoadA row40 (by rfl) (.tmp 110) (by rfl) h (off + k * 134) (by kernel_rfl) x.C hlC (unhide HR) ?_
                       refine Stp.go ?_))
                  constructor
                  go_wp2_with fail
                  refine (unhide P14).mono ?_
                  intro e V5 hdo
                  obtain ⟨b', g', r', sg', eg', rfl, hd', hr', ap', k', fr'⟩ := hdo
                  have TW2 := hide ((unhide TW).symm.do (Nx.next D2 x) hd' hr' ap' k' fr')
                  clear hd' hr' ap' k' fr' P14 HR TW
                  go_wp2_with fail
                  go_roundw
                  case rel => exact ⟨b', g', r', sg', eg', k + 1, _, by omega, by omega, rfl, rfl, rfl, by go_num, (unhide TW2).symm⟩
                  case measure => simp [intOf]; omega
                · go_wp2_with fail
                  have HK := hide (unhide TW).s.k
                  obtain ⟨sb, hsb⟩ : ∃ sb, Dev.same D D2 = sb := ⟨_, rfl⟩
                  have P17 : Hid (∀ W, Dv W b g D → Dv W b2 g2 D2 → Calls Try.prog 17 #[P0 b, P0 b2] W fun e w' => e = .returned (.bool sb) ∧ Kept [] W w') := fun W h h2 => by have := same17 b g b2 g2 D D2 W h h2; rw [hsb] at this; exact this
                  have P18 : Hid (∀ W, Rv W r sg eg D → Rv W r2 sg2 eg2 D2 → Calls Try.prog 18 #[P0 r, P0 r2] W fun e w' => e = .returned (.bool sb) ∧ Kept [] W w') := fun W h h2 => by have := r_same r sg eg r2 sg2 eg2 D D2 W h h2; rw [← same_rsame (unhide TW).N (unhide TW).s.tz (unhide TW).s2.tz, hsb] at this; exact this
                  have P19 : Hid (∀ W, Dv W b g D → Calls Try.prog 17 #[P0 b, P0 b] W fun e w' => e = .returned (.bool true) ∧ Kept [] W w') := fun W h => by have := same17 b g b g D D W h h; rw [same_selfD] at this; exact this
                  clear hsb
                  go_wp2_with (
                    first
                    | (go_at_call 17
                       refine (unhide P17 _ (unhide TW).s.dv (unhide TW).s2.dv).mono ?_
                       rintro e UP17 ⟨rfl, k9⟩
                       replace TW := hide ((unhide TW).step k9)
                       replace HK := hide ((unhide HK).trans k9)
                       clear k9 P17
                       refine Stp.go ?_))
                  constructor
                  go_wp2_with (
                    first
                    | (go_at_call 18
                       refine (unhide P18 _ (unhide TW).s.rv (unhide TW).s2.rv).mono ?_
                       rintro e UP18 ⟨rfl, k9⟩
                       replace TW := hide ((unhide TW).step k9)
                       replace HK := hide ((unhide HK).trans k9)
                       clear k9 P18
                       refine Stp.go ?_))
                  constructor
                  go_wp2_with (
                    first
                    | (refine wpEql4G (.tmp 120) (.tmp 123) (by rfl) (by kernel_rfl) sb (by kernel_rfl) (by kernel_rfl) ?_
                       refine Stp.go ?_))
                  constructor
                  go_wp2_with (
                    first
                    | (go_at_call 17
                       refine (unhide P19 _ (unhide TW).s.dv).mono ?_
                       rintro e UP19 ⟨rfl, k9⟩
                       replace TW := hide ((unhide TW).step k9)
                       replace HK := hide ((unhide HK).trans k9)
                       clear k9 P19
                       refine Stp.go ?_))
                  constructor
                  go_wp2_with (
                    first
                    | (go_at_call 11
                       refine (known11 _).mono ?_
                       rintro e V9 ⟨rfl, k9⟩
                       replace HK := hide ((unhide HK).trans k9)
                       clear k9))
                  go_ret
                  exact ⟨rfl, unhide HK⟩

              · go_wp2_with fail
                have HK := hide (unhide TW).s.k
                obtain ⟨sb, hsb⟩ : ∃ sb, Dev.same D D2 = sb := ⟨_, rfl⟩
                have P17 : Hid (∀ W, Dv W b g D → Dv W b2 g2 D2 → Calls Try.prog 17 #[P0 b, P0 b2] W fun e w' => e = .returned (.bool sb) ∧ Kept [] W w') := fun W h h2 => by have := same17 b g b2 g2 D D2 W h h2; rw [hsb] at this; exact this
                have P18 : Hid (∀ W, Rv W r sg eg D → Rv W r2 sg2 eg2 D2 → Calls Try.prog 18 #[P0 r, P0 r2] W fun e w' => e = .returned (.bool sb) ∧ Kept [] W w') := fun W h h2 => by have := r_same r sg eg r2 sg2 eg2 D D2 W h h2; rw [← same_rsame (unhide TW).N (unhide TW).s.tz (unhide TW).s2.tz, hsb] at this; exact this
                have P19 : Hid (∀ W, Dv W b g D → Calls Try.prog 17 #[P0 b, P0 b] W fun e w' => e = .returned (.bool true) ∧ Kept [] W w') := fun W h => by have := same17 b g b g D D W h h; rw [same_selfD] at this; exact this
                clear hsb
                go_wp2_with (
                  first
                  | (go_at_call 17
                     refine (unhide P17 _ (unhide TW).s.dv (unhide TW).s2.dv).mono ?_
                     rintro e UP17 ⟨rfl, k9⟩
                     replace TW := hide ((unhide TW).step k9)
                     replace HK := hide ((unhide HK).trans k9)
                     clear k9 P17
                     refine Stp.go ?_))
                constructor
                go_wp2_with (
                  first
                  | (go_at_call 18
                     refine (unhide P18 _ (unhide TW).s.rv (unhide TW).s2.rv).mono ?_
                     rintro e UP18 ⟨rfl, k9⟩
                     replace TW := hide ((unhide TW).step k9)
                     replace HK := hide ((unhide HK).trans k9)
                     clear k9 P18
                     refine Stp.go ?_))
                constructor
                go_wp2_with (
                  first
                  | (refine wpEql4G (.tmp 120) (.tmp 123) (by rfl) (by kernel_rfl) sb (by kernel_rfl) (by kernel_rfl) ?_
                     refine Stp.go ?_))
                constructor
                go_wp2_with (
                  first
                  | (go_at_call 17
                     refine (unhide P19 _ (unhide TW).s.dv).mono ?_
                     rintro e UP19 ⟨rfl, k9⟩
                     replace TW := hide ((unhide TW).step k9)
                     replace HK := hide ((unhide HK).trans k9)
                     clear k9 P19
                     refine Stp.go ?_))
                constructor
                go_wp2_with (
                  first
                  | (go_at_call 11
                     refine (known11 _).mono ?_
                     rintro e V9 ⟨rfl, k9⟩
                     replace HK := hide ((unhide HK).trans k9)
                     clear k9))
                go_ret
                exact ⟨rfl, unhide HK⟩


        · go_wp2_with fail
          go_loopw [9, 12, 13, 15] (fun d rr ok i wr => ∃ b2 g2 r2 sg2 eg2 k : Nat, ∃ D2 : Dev, k ≤ m2 ∧ k ≤ 30 ∧ d = P0 b2 ∧ rr = P0 r2 ∧ ok = .bool true ∧ i = .int .i64 k ∧ Hid (Tw w wr b g r sg eg D b2 g2 r2 sg2 eg2 D2)) (fun _ _ _ i _ => 30 - (intOf i).toNat)
          case atStart => exact ⟨b2, g2, r2, sg2, eg2, 0, D2, by omega, by omega, rfl, rfl, rfl, rfl, TW⟩
          case round =>
            clear TW
            obtain ⟨b2, g2, r2, sg2, eg2, k, D2, hk, hk3, rfl, rfl, rfl, rfl, TW⟩ := hrel
            by_cases hlt : k < m2
            · by_cases h30 : k < 30
              · obtain ⟨x, hx⟩ : ∃ x, X2[k]? = some x := ⟨_, List.getElem?_eq_getElem (by rw [(unhide HS2).len]; exact hlt)⟩
                have hS3 := (unhide HS2).kept (unhide TW).s.k (by simp)
                obtain ⟨h, off, rfl, hg, hl⟩ := hS3.lies (by intro e; rw [e] at hx; simp at hx)
                have HR := hide (hl k x hx)
                have HX := hide (hS3.ok x (List.mem_of_getElem? hx))
                have hlC := C_len (unhide HX)
                have P14 := hide (do14 w.heap.size b2 g2 r2 sg2 eg2 D2 x wr (unhide TW).symm.s.dv (unhide TW).symm.s.rv (unhide TW).symm.s.ap (unhide HX) (unhide TW).symm.s.tz (unhide TW).symm.s.k.size)
                clear hl hS3 hg HX
                go_wp2_with (
                  first
                  | (refine wpLoadA row40 (by rfl) (.tmp 110) (by rfl) h (off + k * 134) (by kernel_rfl) x.C hlC (unhide HR) ?_
                     refine Stp.go ?_))
                constructor
                go_wp2_with fail
                refine (unhide P14).mono ?_
                intro e V5 hdo
                obtain ⟨b', g', r', sg', eg', rfl, hd', hr', ap', k', fr'⟩ := hdo
                have TW2 := hide ((unhide TW).symm.do (Nx.next D2 x) hd' hr' ap' k' fr')
                clear hd' hr' ap' k' fr' P14 HR TW
                go_wp2_with fail
                go_roundw
                case rel => exact ⟨b', g', r', sg', eg', k + 1, _, by omega, by omega, rfl, rfl, rfl, by go_num, (unhide TW2).symm⟩
                case measure => simp [intOf]; omega
              · go_wp2_with fail
                have HK := hide (unhide TW).s.k
                obtain ⟨sb, hsb⟩ : ∃ sb, Dev.same D D2 = sb := ⟨_, rfl⟩
                have P17 : Hid (∀ W, Dv W b g D → Dv W b2 g2 D2 → Calls Try.prog 17 #[P0 b, P0 b2] W fun e w' => e = .returned (.bool sb) ∧ Kept [] W w') := fun W h h2 => by have := same17 b g b2 g2 D D2 W h h2; rw [hsb] at this; exact this
                have P18 : Hid (∀ W, Rv W r sg eg D → Rv W r2 sg2 eg2 D2 → Calls Try.prog 18 #[P0 r, P0 r2] W fun e w' => e = .returned (.bool sb) ∧ Kept [] W w') := fun W h h2 => by have := r_same r sg eg r2 sg2 eg2 D D2 W h h2; rw [← same_rsame (unhide TW).N (unhide TW).s.tz (unhide TW).s2.tz, hsb] at this; exact this
                have P19 : Hid (∀ W, Dv W b g D → Calls Try.prog 17 #[P0 b, P0 b] W fun e w' => e = .returned (.bool true) ∧ Kept [] W w') := fun W h => by have := same17 b g b g D D W h h; rw [same_selfD] at this; exact this
                clear hsb
                go_wp2_with (
                  first
                  | (go_at_call 17
                     refine (unhide P17 _ (unhide TW).s.dv (unhide TW).s2.dv).mono ?_
                     rintro e UP17 ⟨rfl, k9⟩
                     replace TW := hide ((unhide TW).step k9)
                     replace HK := hide ((unhide HK).trans k9)
                     clear k9 P17
                     refine Stp.go ?_))
                constructor
                go_wp2_with (
                  first
                  | (go_at_call 18
                     refine (unhide P18 _ (unhide TW).s.rv (unhide TW).s2.rv).mono ?_
                     rintro e UP18 ⟨rfl, k9⟩
                     replace TW := hide ((unhide TW).step k9)
                     replace HK := hide ((unhide HK).trans k9)
                     clear k9 P18
                     refine Stp.go ?_))
                constructor
                go_wp2_with (
                  first
                  | (refine wpEql4G (.tmp 120) (.tmp 123) (by rfl) (by kernel_rfl) sb (by kernel_rfl) (by kernel_rfl) ?_
                     refine Stp.go ?_))
                constructor
                go_wp2_with (
                  first
                  | (go_at_call 17
                     refine (unhide P19 _ (unhide TW).s.dv).mono ?_
                     rintro e UP19 ⟨rfl, k9⟩
                     replace TW := hide ((unhide TW).step k9)
                     replace HK := hide ((unhide HK).trans k9)
                     clear k9 P19
                     refine Stp.go ?_))
                constructor
                go_wp2_with (
                  first
                  | (go_at_call 11
                     refine (known11 _).mono ?_
                     rintro e V9 ⟨rfl, k9⟩
                     replace HK := hide ((unhide HK).trans k9)
                     clear k9))
                go_ret
                exact ⟨rfl, unhide HK⟩

            · go_wp2_with fail
              have HK := hide (unhide TW).s.k
              obtain ⟨sb, hsb⟩ : ∃ sb, Dev.same D D2 = sb := ⟨_, rfl⟩
              have P17 : Hid (∀ W, Dv W b g D → Dv W b2 g2 D2 → Calls Try.prog 17 #[P0 b, P0 b2] W fun e w' => e = .returned (.bool sb) ∧ Kept [] W w') := fun W h h2 => by have := same17 b g b2 g2 D D2 W h h2; rw [hsb] at this; exact this
              have P18 : Hid (∀ W, Rv W r sg eg D → Rv W r2 sg2 eg2 D2 → Calls Try.prog 18 #[P0 r, P0 r2] W fun e w' => e = .returned (.bool sb) ∧ Kept [] W w') := fun W h h2 => by have := r_same r sg eg r2 sg2 eg2 D D2 W h h2; rw [← same_rsame (unhide TW).N (unhide TW).s.tz (unhide TW).s2.tz, hsb] at this; exact this
              have P19 : Hid (∀ W, Dv W b g D → Calls Try.prog 17 #[P0 b, P0 b] W fun e w' => e = .returned (.bool true) ∧ Kept [] W w') := fun W h => by have := same17 b g b g D D W h h; rw [same_selfD] at this; exact this
              clear hsb
              go_wp2_with (
                first
                | (go_at_call 17
                   refine (unhide P17 _ (unhide TW).s.dv (unhide TW).s2.dv).mono ?_
                   rintro e UP17 ⟨rfl, k9⟩
                   replace TW := hide ((unhide TW).step k9)
                   replace HK := hide ((unhide HK).trans k9)
                   clear k9 P17
                   refine Stp.go ?_))
              constructor
              go_wp2_with (
                first
                | (go_at_call 18
                   refine (unhide P18 _ (unhide TW).s.rv (unhide TW).s2.rv).mono ?_
                   rintro e UP18 ⟨rfl, k9⟩
                   replace TW := hide ((unhide TW).step k9)
                   replace HK := hide ((unhide HK).trans k9)
                   clear k9 P18
                   refine Stp.go ?_))
              constructor
              go_wp2_with (
                first
                | (refine wpEql4G (.tmp 120) (.tmp 123) (by rfl) (by kernel_rfl) sb (by kernel_rfl) (by kernel_rfl) ?_
                   refine Stp.go ?_))
              constructor
              go_wp2_with (
                first
                | (go_at_call 17
                   refine (unhide P19 _ (unhide TW).s.dv).mono ?_
                   rintro e UP19 ⟨rfl, k9⟩
                   replace TW := hide ((unhide TW).step k9)
                   replace HK := hide ((unhide HK).trans k9)
                   clear k9 P19
                   refine Stp.go ?_))
              constructor
              go_wp2_with (
                first
                | (go_at_call 11
                   refine (known11 _).mono ?_
                   rintro e V9 ⟨rfl, k9⟩
                   replace HK := hide ((unhide HK).trans k9)
                   clear k9))
              go_ret
              exact ⟨rfl, unhide HK⟩


theorem same5 (n0 n1 : Int) (ao : Option Addr) (m c : Nat) (ao2 : Option Addr) (m2 c2 : Nat) (X X2 : List Sx) (w : World) (hS : Scr w w.heap.size ao m c X) (hS2 : Scr w w.heap.size ao2 m2 c2 X2) (hm : m ≤ 9223372036854775807) (hm2 : m2 ≤ 9223372036854775807) : Calls Try.prog 5 #[aggV (sizeC n0 n1), .slice ao m c, .slice ao2 m2 c2] w fun e w' => e = .returned (.bool true) ∧ Kept [] w w' := by
  by_cases h64 : (64 : Int) < n0
  · exact same_big n0 n1 ao m c ao2 m2 c2 w h64
  cases h : newB n0 n1 with
  | false => exact same_no n0 n1 ao m c ao2 m2 c2 X X2 w h hS hS2 hm hm2 h64
  | true =>
    obtain ⟨n, N, rfl, rfl⟩ := new_nat h
    exact same_yes n N ao m c ao2 m2 c2 X X2 w h hS hS2 hm hm2 h64

end Go.Proofs.Ytffflafalffifaa.K
