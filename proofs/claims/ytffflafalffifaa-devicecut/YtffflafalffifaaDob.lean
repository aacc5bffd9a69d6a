/-
  Tables for regions whose values are known by what holds of them, with edges that bind in one order alone. The walk of do: a device Of what there is. The walk of do: a Copy goes on.
-/
import Derived.Test.YtffflafalffifaaTabw
import Derived.Test.YtffflafalffifaaDoa

namespace Go.Proofs.Ytffflafalffifaa.K
open Go.RowKit

theorem wpAny_tv {ops : Array Oper} {Q : Exit → Act → World → Prop} {a0 : Act} {w0 : World} (hok : okW ops = true) (us : List Fp) (hu : us.length = ops.size) (hg : guardsP ops us = true)
    (hsl : ops.all (fun o => match o.dst with | none => true | some t => decide (t < a0.tmps.size)) = true) (J : Array Bool → World → Prop) (hJ0 : J (Array.replicate ops.size false) w0) (hJs : ∀ j l w, skipP us j = true → l.size = ops.size → J l w → J (l.setIfInBounds j true) w)
    (hop : ∀ (j : Nat) (o : Oper), j < ops.size → skipP us j = false → ops[j]? = some o → ∀ a w l, l.size = ops.size → l.getD j false = false → J l w → (∀ t : Nat, ops.toList.all (fun p => p.dst != some t) = true → a.eval (.tmp t) = a0.eval (.tmp t)) →
      (∀ (i t : Nat), o.after.any (fun e => Region.binds .any e && e.on == i) = true → ops[i]?.bind (·.dst) = some t → tp us i (a.eval (.tmp t)) w) → (∀ i : Nat, o.after.any (fun e => Region.binds .any e && e.on == i) = true → l.getD i false = true) →
      o.wp Try.prog a w (fun a' w' => ∃ v, a' = a.put o.dst v ∧ tp us j v w' ∧ Kept [] w w' ∧ J (l.setIfInBounds j true) w') Q)
    (hQ : ∀ x l w, (∀ (j : Nat) p hp, us[j]? = some (.pr p hp) → p (x j) w) → (∀ j, j < ops.size → l.getD j false = true) → J l w → Q .normal (putAll a0 ops.toList (valsP x 0 us)) w) :
    wpAny Try.prog .any ops Q ops.size (Array.replicate ops.size false) a0 w0 := by
  have K := okW_spec hok
  have hsl' : ∀ o ∈ ops, ∀ t, o.dst = some t → t < a0.tmps.size := by
    intro o ho t ht
    have := (Array.all_eq_true_iff_forall_mem.1 hsl) o ho
    rw [ht] at this
    simpa using this
  let I : Array Bool → Act → World → Prop := fun l a w => l.size = ops.size ∧ a.defers = a0.defers ∧ a.tmps.size = a0.tmps.size ∧ (∀ t, (∀ p ∈ ops.toList, p.dst ≠ some t) → a.tmps[t]? = a0.tmps[t]?) ∧
    (∀ (j : Nat) (o : Oper) (t : Nat), ops[j]? = some o → o.dst = some t → l.getD j false = true → ∃ v, a.tmps[t]? = some v ∧ tp us j v w) ∧ J l w
  have hrep : ∀ j, (Array.replicate ops.size false).getD j false = false := by
    intro j
    rw [Array.getD_eq_getD_getElem?, Array.getElem?_replicate]
    split <;> rfl
  refine wpAny_inv I ?_ ?_ ops.size _ a0 w0 ⟨by simp, rfl, rfl, fun _ _ => rfl, (fun j o t ho ht hl => by rw [hrep] at hl; cases hl), hJ0⟩ (by simp)
  · rintro l a w ⟨i1, i2, i3, i4, i5, i6⟩ j hj
    obtain ⟨hjl, o, ho, hdeps⟩ := mem_ready.1 hj
    have hjs : j < ops.size := (Array.getElem?_eq_some_iff.1 ho).1
    obtain ⟨t, ht⟩ := K.dst j o ho
    have htl : t < a.tmps.size := by rw [i3]; exact hsl' o (Array.mem_of_getElem? ho) t ht
    have hjf : l.getD j false = false := by
      simp only [Array.getD_eq_getD_getElem?] at hjl ⊢
      rw [Array.getElem?_eq_getElem (by omega)] at hjl ⊢
      simpa using hjl
    have hdep : ∀ i : Nat, o.after.any (fun e => Region.binds .any e && e.on == i) = true → l.getD i false = true := by
      intro i hi
      obtain ⟨k, hk, hb⟩ := Array.any_eq_true.1 hi
      have he := Array.getElem_mem hk
      obtain ⟨e, hee⟩ : ∃ e, o.after[k] = e := ⟨_, rfl⟩
      rw [hee] at hb he
      simp only [Bool.and_eq_true, beq_iff_eq] at hb
      have := hdeps e he hb.1
      rwa [hb.2] at this
    have hin : ∀ (i s : Nat), o.after.any (fun e => Region.binds .any e && e.on == i) = true → ops[i]?.bind (·.dst) = some s → tp us i (a.eval (.tmp s)) w := by
      intro i s hi hs
      cases hq : ops[i]? with
      | none => rw [hq] at hs; cases hs
      | some p =>
        rw [hq] at hs
        obtain ⟨v, hv, hf⟩ := i5 i p s hq hs (hdep i hi)
        have : a.eval (.tmp s) = v := by simp [Act.eval, Array.getD_eq_getD_getElem?, hv]
        rw [this]
        exact hf
    -- the state behind it
    have next : ∀ v w', tp us j v w' → Kept [] w w' → J (l.setIfInBounds j true) w' → I (l.setIfInBounds j true) (a.put o.dst v) w' := by
      intro v w' hv hkk hJ
      rw [ht]
      refine ⟨by simp [i1], i2, by simp [Act.put, i3], ?_, ?_, hJ⟩
      · intro s hs
        have hne : t ≠ s := by
          intro e; subst e
          exact hs o (by simpa using Array.mem_of_getElem? ho) ht
        simp only [Act.put]
        rw [Array.getElem?_setIfInBounds_ne hne]
        exact i4 s hs
      · intro i p s hp hs hl
        rw [getD_setD (by omega)] at hl
        by_cases hij : i = j
        · subst hij
          rw [ho] at hp; cases hp
          rw [ht] at hs; cases hs
          exact ⟨v, by simp only [Act.put]; rw [Array.getElem?_setIfInBounds_self_of_lt htl], hv⟩
        · rw [if_neg hij] at hl
          obtain ⟨u, hu', hf⟩ := i5 i p s hp hs hl
          have hne : t ≠ s := by
            intro e; subst e
            rcases Nat.lt_or_gt_of_ne hij with h | h
            · exact K.apart i j p o h hp ho (by rw [hs, ht])
            · exact K.apart j i o p h ho hp (by rw [hs, ht])
          exact ⟨u, by simp only [Act.put]; rw [Array.getElem?_setIfInBounds_ne hne]; exact hu', tp_kept us _ _ _ _ hf hkk⟩
    unfold wpOp
    rw [ho]
    simp only
    have hout : ∀ s : Nat, ops.toList.all (fun p => p.dst != some s) = true → a.eval (.tmp s) = a0.eval (.tmp s) := by
      intro s hs
      have := i4 s (fun p hp e => by
        have := (List.all_eq_true.1 hs) p hp
        rw [e] at this
        simp at this)
      simp [Act.eval, Array.getD_eq_getD_getElem?, this]
    have run : skipP us j = false → o.wp Try.prog a w (I (l.setIfInBounds j true)) Q := fun hsk =>
      Oper.wp_mono (fun a' w' ⟨v, e, hv, hkk, hJ⟩ => by rw [e]; exact next v w' hv hkk hJ) (hop j o hjs hsk ho a w l i1 hjf i6 hout hin hdep)
    cases hgd : o.guard with
    | none =>
      rw [if_pos (by simp [Region.wanted, hgd])]
      exact .inl (run (guardsP_none hg j o ho hgd))
    | some ib =>
      obtain ⟨i, b⟩ := ib
      have ha := K.guard j o i b ho hgd
      have hli := hdep i ha
      have his : i < ops.size := by
        have : l.getD i false = true := hli
        rw [Array.getD_eq_getD_getElem?] at this
        by_cases h : i < ops.size
        · exact h
        · rw [Array.getElem?_eq_none (by omega)] at this; cases this
      obtain ⟨s, hs⟩ := K.dst i ops[i] (Array.getElem?_eq_getElem his)
      obtain ⟨v, hv, hf⟩ := i5 i _ s (Array.getElem?_eq_getElem his) hs hli
      have hes : ops[i]?.bind (·.dst) = some s := by rw [Array.getElem?_eq_getElem his]; exact hs
      rcases guardsP_some hg j o i b ho hgd with ⟨h1, h2⟩ | ⟨h1, h2⟩
      · have hvb := h2 v w hf
        subst hvb
        rw [if_pos (by simp [Region.wanted, hgd, yielded, hes, hv])]
        exact .inl (run h1)
      · have hvb := h2 v w hf
        have hw : Region.wanted o (yielded ops a.tmps) = false := wanted_no hgd (yielded_of his hs hv) hvb
        rw [if_neg (by rw [hw]; simp)]
        exact next undef w (skipP_undef w h1) (Kept.refl _ _) (hJs j l w h1 i1 i6)
  · rintro l a w ⟨i1, i2, i3, i4, i5, i6⟩ hr
    have hall : ∀ n j, j < n → j < ops.size → l.getD j false = true := by
      intro n
      induction n with
      | zero => intro j hj; omega
      | succ n ih =>
        intro j hj hjs
        cases hlj : l.getD j false with
        | true => rfl
        | false =>
          exfalso
          have hmem : j ∈ Region.ready .any ops l := by
            rw [mem_ready]
            refine ⟨?_, ops[j], Array.getElem?_eq_getElem hjs, fun e he hb => ?_⟩
            · simp only [Array.getD_eq_getD_getElem?] at hlj ⊢
              rw [Array.getElem?_eq_getElem (by omega)] at hlj ⊢
              simpa using hlj
            · have := K.back j ops[j] (Array.getElem?_eq_getElem hjs) e he hb
              exact ih e.on (by omega) (by omega)
          rw [hr] at hmem
          cases hmem
    have hl := fun j (hj : j < ops.size) => hall (j + 1) j (by omega) hj
    have hval : ∀ (j : Nat), ∃ v, ∀ (o : Oper) (t : Nat), ops[j]? = some o → o.dst = some t → a.tmps[t]? = some v ∧ tp us j v w := by
      intro j
      by_cases hjs : j < ops.size
      · obtain ⟨t, ht⟩ := K.dst j ops[j] (Array.getElem?_eq_getElem hjs)
        obtain ⟨v, hv, hf⟩ := i5 j _ t (Array.getElem?_eq_getElem hjs) ht (hl j hjs)
        refine ⟨v, fun o t' ho ht' => ?_⟩
        rw [Array.getElem?_eq_getElem hjs] at ho
        cases ho
        rw [ht] at ht'
        cases ht'
        exact ⟨hv, hf⟩
      · exact ⟨undef, fun o t ho _ => absurd (Array.getElem?_eq_some_iff.1 ho).1 hjs⟩
    obtain ⟨f, hf⟩ := Classical.axiomOfChoice hval
    have hvs : ∀ (j : Nat) v, ((List.range ops.size).map f)[j]? = some v → tp us j v w := by
      intro j v hv
      have hj : j < ops.size := by have := (List.getElem?_eq_some_iff.1 hv).1; simpa using this
      rw [List.getElem?_map, List.getElem?_range hj] at hv
      obtain ⟨t, ht⟩ := K.dst j ops[j] (Array.getElem?_eq_getElem hj)
      have := (hf j _ t (Array.getElem?_eq_getElem hj) ht).2
      simp only [Option.map_some, Option.some.injEq] at hv
      rwa [hv] at this
    have ha : a = putAll a0 ops.toList ((List.range ops.size).map f) := by
      have hs := putAll_size ops.toList ((List.range ops.size).map f) a0
      have hdst : ∀ (i j : Nat) (p q : Oper), ops.toList[i]? = some p → ops.toList[j]? = some q → i ≠ j → p.dst ≠ q.dst := by
        intro i j p q hp hq hij
        rw [Array.getElem?_toList] at hp hq
        rcases Nat.lt_or_gt_of_ne hij with h | h
        · exact K.apart i j p q h hp hq
        · exact fun e => K.apart j i q p h hq hp e.symm
      have ht : a.tmps = (putAll a0 ops.toList ((List.range ops.size).map f)).tmps := by
        apply Array.ext_getElem?
        intro t
        by_cases hx : ∃ (j : Nat) (o : Oper), ops[j]? = some o ∧ o.dst = some t
        · obtain ⟨j, o, ho, hd⟩ := hx
          have hjs : j < ops.size := (Array.getElem?_eq_some_iff.1 ho).1
          rw [(hf j o t ho hd).1, putAll_same ops.toList _ a0 j o (f j) t (by rw [Array.getElem?_toList]; exact ho) (by rw [List.getElem?_map, List.getElem?_range hjs]; rfl) hd (hsl' o (Array.mem_of_getElem? ho) t hd) hdst]
        · have hno : ∀ p ∈ ops.toList, p.dst ≠ some t := by
            intro p hp e
            obtain ⟨j, hj⟩ := List.mem_iff_getElem?.1 hp
            exact hx ⟨j, p, by rw [← Array.getElem?_toList]; exact hj, e⟩
          rw [i4 t hno, putAll_other ops.toList _ a0 t hno]
      cases a
      simp only at ht i2
      cases hp : putAll a0 ops.toList ((List.range ops.size).map f) with
      | mk tm df =>
        rw [hp] at ht hs
        simp only at ht hs
        rw [ht, i2, hs.2]
    obtain ⟨x, hx⟩ := vs_tp us w ((List.range ops.size).map f) 0 us (fun j f h => by simpa using h) (fun j v h => by have := hvs j v h; simpa using this) (by simp; omega)
    have hx := hx x (fun _ _ => rfl)
    have hfa : ∀ (j : Nat) p hp, us[j]? = some (.pr p hp) → p (x j) w := by
      intro j p hp hj
      have h1 := valsP_at x us 0 j p hp hj
      rw [Nat.zero_add, ← hx] at h1
      exact pr_tp (hvs j _ h1) hj
    rw [ha, hx]
    exact hQ x l w hfa hl i6

end Go.Proofs.Ytffflafalffifaa.K

namespace Go.Proofs.Ytffflafalffifaa.K
open Go.RowKit

/-- No epochs beyond the nodes'. -/
def Tz (D : Dev) : Prop := D.E.drop D.N = List.replicate (8 - D.N) 0
theorem chunks_of_flat : ∀ (S : List (List Int)), (∀ s ∈ S, Sec s) → chunks S.length S.flatten = S := by
  intro S hS
  apply List.ext_getElem (by rw [chunks_len])
  intro i h1 h2
  obtain ⟨pre, post, e, hp⟩ := flat_range hS i h2
  simp only [chunks, List.getElem_map, List.getElem_range, chunk]
  have hl := (hS _ (List.getElem_mem h2)).1
  rw [e, ← hp, List.append_assoc, List.drop_left, List.take_left' hl]
theorem of_plain {D : Dev} (hok : D.Ok) (hz : Tz D) : ofDev D.S.flatten (D.E.take D.N) = Dev.plain D := by
  have hf := flat_len hok.sec
  have h8 := hok.e8
  have hn := hok.n1
  have hl : (D.E.take D.N).length = D.N := by rw [List.length_take]; omega
  unfold ofDev Dev.plain
  rw [hf, Nat.mul_div_cancel _ (by decide), chunks_of_flat _ hok.sec, hl]
  congr 1
  rw [← hz, List.take_append_drop]
theorem of_ok {D : Dev} (hok : D.Ok) : ofB D.S.flatten.length (D.E.take D.N) = true := by
  have hf := flat_len hok.sec
  have hn0 := hok.n0
  have hn1 := hok.n1
  have hs0 := hok.s0
  have hs1 := hok.s1
  have h8 := hok.e8
  have hl : (D.E.take D.N).length = D.N := by rw [List.length_take]; omega
  unfold ofB
  rw [hf, Nat.mul_div_cancel _ (by decide), hl]
  have h1 : (D.E.take D.N).all (fun e => decide (0 ≤ e ∧ e ≤ 2147483647)) = true := by
    rw [List.all_eq_true]
    intro e he
    simpa using hok.e0 e (List.mem_of_mem_take he)
  have h2 : newB (D.S.length : Nat) (D.N : Nat) = true := by simp [newB]; omega
  rw [h1, h2]
  simp
/-- Bytes that were made. -/
def PB (B : Nat) (l : List Int) (v : Value) (W : World) : Prop := W.ownsRow B 5 1 v l.length (u8s l)
theorem PB_kept (B : Nat) (l : List Int) : ∀ v w w', PB B l v w → Kept [] w w' → PB B l v w' := fun _ _ _ h hk => owns_kept h hk
theorem PB.vals {B : Nat} {l : List Int} {v : Value} {W : World} (h : PB B l v W) (hne : l ≠ []) : ∃ ao c, v = .slice ao l.length c ∧ Vals W ao l.length c (u8s l) := by
  have h' : W.ownsRow B 5 1 v (u8s l).length (u8s l) := by rw [u8s_len]; exact h
  obtain ⟨g, ex, hv, _, hb⟩ := owns_blk h' (by intro e; exact hne (List.length_eq_zero_iff.1 (by rw [← u8s_len, e]; rfl)))
  rw [u8s_len] at hv
  refine ⟨_, _, hv, ?_⟩
  have := blk_vals hb (u8s l) [] (by simp)
  rwa [u8s_len] at this
/-- The document's device that was made. -/
def PR (B : Nat) (D : Dev) (v : Value) (W : World) : Prop := ∃ r sg eg, v = P0 r ∧ B ≤ r ∧ B ≤ sg ∧ B ≤ eg ∧ Rv W r sg eg D
theorem PR_kept (B : Nat) (D : Dev) : ∀ v w w', PR B D v w → Kept [] w w' → PR B D v w' := by
  rintro v w w' ⟨r, sg, eg, h1, h2, h3, h4, h5⟩ hk
  exact ⟨r, sg, eg, h1, h2, h3, h4, h5.kept hk (by simp) (by simp) (by simp)⟩
theorem rv_eps {w : World} {r sg eg : Nat} {D : Dev} (h : Rv w r sg eg D) : ∃ ecap, w.cell? ⟨r, 1, none⟩ = some (.slice (some ⟨eg, 0, none⟩) D.N ecap) ∧ Vals w (some ⟨eg, 0, none⟩) D.N ecap ((D.E.take D.N).map (Value.int .i64)) := by
  obtain ⟨cap, ecap, ex, a1, a2, a3, a4⟩ := h.lay
  have h8 := h.ok.e8
  have hn := h.ok.n1
  have hl : ((D.E.take D.N).map (Value.int .i64)).length = D.N := by rw [List.length_map, List.length_take]; omega
  refine ⟨ecap, by rw [cell_of_block a1]; rfl, hl, a4, fun _ => ⟨eg, 0, rfl, fun j v hj => ?_⟩⟩
  rw [Nat.zero_add, cell_of_block a3, List.getElem?_toArray, List.getElem?_append_left (by have := (List.getElem?_eq_some_iff.1 hj).1; exact this)]
  exact hj
theorem o_neq24 {o : Oper} {a : Act} {w : World} {K : Act → World → Prop} {Q : Exit → Act → World → Prop} (x : Operand) (ho : o.op = .binOp .neq 24 x (.const (.pointer none)) 24) (b : Nat) (hx : a.eval x = P0 b) (h : K (a.put o.dst (.bool true)) w) : o.wp Try.prog a w K Q := by
  unfold Oper.wp execOp
  simp only [ho, hx]
  simp [go_sem]
  exact h
theorem cg16 (vs : Array Value) (w : World) : (callFunc 16 vs).run Try.prog w = .ok (.enter 16 vs) w := by kernel_rfl
theorem owns_base {W : World} {B C n : Nat} {v : Value} {xs : List Value} (h : W.ownsRow B 5 1 v n xs) (hC : C ≤ B) : W.ownsRow C 5 1 v n xs := by
  refine ⟨h.1, ?_⟩
  rcases h.2 with h1 | ⟨g, cap, cur, h1, h2, h3⟩
  · exact .inl h1
  · exact .inr ⟨g, cap, cur, h1, Nat.le_trans hC h2, h3⟩
set_option maxHeartbeats 2000000 in
set_option maxRecDepth 100000 in
theorem do_8 (B b g r sg eg : Nat) (D : Dev) (x : Sx) (w : World) (hD : Dv w b g D) (hR : Rv w r sg eg D) (ap : Ap B b g r sg eg) (hx : x.Ok w B) (hz : Tz D) (hB : B ≤ w.heap.size) (hk : x.kd = 8) : Calls Try.prog 14 #[P0 b, P0 r, aggV x.C] w (DoR B b g r sg eg (Dev.plain D) w) := by
  have hok := hD.ok
  have hn1 := hok.n1
  have hs0 := hok.s0
  have hs1 := hok.s1
  have hfl := flat_len hok.sec
  have HP := hide (of_plain hok hz)
  have HO := hide (of_ok hok)
  have NE : Hid (D.S.flatten ≠ []) := by intro e; rw [e] at hfl; simp at hfl; omega
  have HB : Hid (∀ x ∈ D.S.flatten, 0 ≤ x ∧ x < 256) := by
    intro x hx
    obtain ⟨s, hs, hxs⟩ := List.mem_flatten.1 hx
    exact (hok.sec s hs).2 x hxs
  have HL : Hid (D.S.flatten.length ≤ 140737488355328) := by show _ ≤ _; omega
  clear hfl
  have hlC := C_len hx
  have HX := hide hx
  have HD := hide hD
  have HR := hide hR
  have HA := hide ap
  have HK := hide hk
  clear hk
  clear hD hR ap hx
  go_enter Try.func14, Try.ntmps14
  go_wp2_with (
    first
    | (refine wpBoxV (by rfl) (.tmp 2) (by rfl) x.C (by rfl) ?_
       intro W1 b5 e1 B1 K1
       have G : Hid (Dg w W1 b g r sg eg D D b5 x) := ⟨(unhide HD).kept K1 (by simp) (by simp), (unhide HR).kept K1 (by simp) (by simp) (by simp), B1, K1.mono (by simp), by omega⟩
       have N5 := hide ((unhide G).apart (unhide HD) (unhide HR))
       obtain ⟨q0, q1, q2, q3, q4, q5⟩ := x_cells (unhide G).x5
       rw [unhide HK] at q0
       clear e1 B1 K1))
  obtain ⟨ecap, ce, ve⟩ := rv_eps (unhide G).rv
  have CE := hide ce
  have VE := hide ve
  clear ce ve q0 q1 q2 q3 q4 q5
  refine wp_region_any mixed (wpAny_tv (by kernel_rfl) [.is (P0 b), .pr (PB W1.heap.size D.S.flatten) (PB_kept _ _), .is (P0 r), .is (P0 r), .is (.pointer (some ⟨r, 1, none⟩)), .is (.slice (some ⟨eg, 0, none⟩) D.N ecap), .pr (PT W1.heap.size (Dev.plain D)) (PT_kept _ _), .pr (PT W1.heap.size (Dev.plain D)) (PT_kept _ _), .pr (PP W1.heap.size (Dev.plain D)) (PP_kept _ _), .is (.int .i64 0), .pr (PP W1.heap.size (Dev.plain D)) (PP_kept _ _), .is (.int .i64 0)] rfl (by kernel_rfl) (by kernel_rfl) (fun _ W' => Kept [] W1 W') ⟨rfl, rfl, rfl, Nat.le_refl _, fun _ _ _ => rfl⟩ (fun _ _ _ _ _ h => h) ?_ ?_)
  · intro i o' hi hsk ho a' w2 ls hls hlf hJ hout hin hdep
    match i, ho, hsk with
    | 0, ho, hsk =>
      obtain rfl := Option.some.inj ho
      exact wp_move (.tmp 0) rfl _ ((hout 0 (by kernel_rfl)).trans rfl) ⟨_, rfl, tp_is _ _ _ _ rfl, Kept.refl _ _, hJ⟩
    | 1, ho, hsk =>
      obtain rfl := Option.some.inj ho
      have e0 : a'.eval (.tmp 249) = P0 b := is_tp (w := w2) (hin 0 249 (by kernel_rfl) (by kernel_rfl)) rfl
      refine wp_callF 34 _ _ rfl #[P0 b] (by simp [e0]) (cg34 _ _) ((bytes34 b g D _ ((unhide G).dv.kept hJ (by simp) (by simp))).mono ?_)
      rintro e w3 ⟨v3, rfl, ho3, hk3⟩
      exact ⟨_, rfl, _, rfl, tp_pr _ _ _ _ _ _ rfl (owns_base ho3 hJ.size), hk3, hJ.trans hk3⟩
    | 2, ho, hsk =>
      obtain rfl := Option.some.inj ho
      exact wp_move (.tmp 1) rfl _ ((hout 1 (by kernel_rfl)).trans rfl) ⟨_, rfl, tp_is _ _ _ _ rfl, Kept.refl _ _, hJ⟩
    | 3, ho, hsk =>
      obtain rfl := Option.some.inj ho
      have e0 : a'.eval (.tmp 251) = P0 r := is_tp (w := w2) (hin 2 251 (by kernel_rfl) (by kernel_rfl)) rfl
      exact o_nil (.tmp 251) rfl _ e0 ⟨_, rfl, tp_is _ _ _ _ rfl, Kept.refl _ _, hJ⟩
    | 4, ho, hsk =>
      obtain rfl := Option.some.inj ho
      have e0 : a'.eval (.tmp 252) = P0 r := is_tp (w := w2) (hin 3 252 (by kernel_rfl) (by kernel_rfl)) rfl
      exact o_fld51_1 (.tmp 252) rfl r e0 ⟨_, rfl, tp_is _ _ _ _ rfl, Kept.refl _ _, hJ⟩
    | 5, ho, hsk =>
      obtain rfl := Option.some.inj ho
      have e0 : a'.eval (.tmp 253) = .pointer (some ⟨r, 1, none⟩) := is_tp (w := w2) (hin 4 253 (by kernel_rfl) (by kernel_rfl)) rfl
      exact o_load43 (.tmp 253) rfl ⟨r, 1, none⟩ _ e0 (hJ.cell (unhide CE) (by simp)) ⟨_, rfl, tp_is _ _ _ _ rfl, Kept.refl _ _, hJ⟩
    | 6, ho, hsk =>
      obtain rfl := Option.some.inj ho
      have e0 := pr_tp (w := w2) (hin 1 250 (by kernel_rfl) (by kernel_rfl)) rfl
      have e1 : a'.eval (.tmp 254) = .slice (some ⟨eg, 0, none⟩) D.N ecap := is_tp (w := w2) (hin 5 254 (by kernel_rfl) (by kernel_rfl)) rfl
      obtain ⟨ao, c, hv, hV⟩ := PB.vals e0 (unhide NE)
      refine wp_callF 15 _ _ rfl #[.slice ao D.S.flatten.length c, .slice (some ⟨eg, 0, none⟩) D.N ecap] (by simp [hv, e1]) (cg15 _ _) ((of_yes _ _ _ _ _ _ D.S.flatten (D.E.take D.N) _ (unhide HB) hV ((unhide VE).kept hJ (fun _ _ _ => by simp)) (unhide HL) (unhide HO)).mono ?_)
      rintro e w3 ⟨b2, g2, rfl, hb1, hb2, hb3, hk3⟩
      rw [unhide HP] at hb3
      exact ⟨_, rfl, _, rfl, tp_pr _ _ _ _ _ _ rfl ⟨b2, g2, rfl, Nat.le_trans hJ.size hb1, Nat.le_trans hJ.size hb2, hb3⟩, hk3, hJ.trans hk3⟩
    | 7, ho, hsk =>
      obtain rfl := Option.some.inj ho
      have e0 := pr_tp (w := w2) (hin 6 255 (by kernel_rfl) (by kernel_rfl)) rfl
      exact o_moveX (.tmp 255) rfl ⟨_, rfl, tp_pr _ _ _ _ _ _ rfl (e0), Kept.refl _ _, hJ⟩
    | 8, ho, hsk =>
      obtain rfl := Option.some.inj ho
      have e0 := pr_tp (w := w2) (hin 7 248 (by kernel_rfl) (by kernel_rfl)) rfl
      obtain ⟨b2, g2, eq, h1, h2, h3⟩ := e0
      exact o_ext (.tmp 248) 0 rfl _ _ eq rfl ⟨_, rfl, tp_pr _ _ _ _ _ _ rfl ⟨b2, g2, rfl, h1, h2, h3⟩, Kept.refl _ _, hJ⟩
    | 9, ho, hsk =>
      obtain rfl := Option.some.inj ho
      have e0 := pr_tp (w := w2) (hin 7 248 (by kernel_rfl) (by kernel_rfl)) rfl
      obtain ⟨b2, g2, eq, h1, h2, h3⟩ := e0
      exact o_ext (.tmp 248) 1 rfl _ _ eq rfl ⟨_, rfl, tp_is _ _ _ _ rfl, Kept.refl _ _, hJ⟩
    | 10, ho, hsk =>
      obtain rfl := Option.some.inj ho
      have e0 := pr_tp (w := w2) (hin 8 256 (by kernel_rfl) (by kernel_rfl)) rfl
      exact o_assignX (.tmp 256) rfl ⟨_, rfl, tp_pr _ _ _ _ _ _ rfl (e0), Kept.refl _ _, hJ⟩
    | 11, ho, hsk =>
      obtain rfl := Option.some.inj ho
      have e0 : a'.eval (.tmp 257) = .int .i64 0 := is_tp (w := w2) (hin 9 257 (by kernel_rfl) (by kernel_rfl)) rfl
      exact wp_assignV (.tmp 257) rfl _ e0 ⟨_, rfl, tp_is _ _ _ _ rfl, Kept.refl _ _, hJ⟩
  intro xx ll w9 hf9 hl9 hk9
  simp only [valsP, Nat.reduceAdd, putAll, Act.put, List.setIfInBounds_toArray, List.set_cons_succ, List.set_cons_zero]
  obtain ⟨b2, g2, hb12, hb1, hb2, hb3⟩ : PP W1.heap.size (Dev.plain D) (xx 10) w9 := hf9 10 _ _ rfl
  rw [hb12]
  obtain ⟨y1, hy1⟩ : ∃ y, xx 1 = y := ⟨_, rfl⟩
  obtain ⟨y2, hy2⟩ : ∃ y, xx 6 = y := ⟨_, rfl⟩
  obtain ⟨y3, hy3⟩ : ∃ y, xx 7 = y := ⟨_, rfl⟩
  obtain ⟨y4, hy4⟩ : ∃ y, xx 8 = y := ⟨_, rfl⟩
  rw [hy1, hy2, hy3, hy4]
  have hk99 : Kept [] W1 w9 := hk9
  have DV2 := hide hb3
  replace CE := hide (hk99.cell (unhide CE) (by simp))
  replace VE := hide ((unhide VE).kept hk99 (fun _ _ _ => by simp))
  have N2 : Hid (B ≤ b2 ∧ B ≤ g2 ∧ b2 < w9.heap.size ∧ g2 < w9.heap.size ∧ w.heap.size ≤ b2 ∧ w.heap.size ≤ g2) := by
    have h1 := (unhide G).k.size
    have h2 := hb3.lt
    exact ⟨by omega, by omega, h2.1, h2.2, by omega, by omega⟩
  have hW9 := hk99.size
  replace G := hide ((unhide G).step hk99)
  clear hb12 hy1 hy2 hy3 hy4 hf9 hb1 hb2 hb3 hk9 hk99 hl9 xx
  go_wp2_with fail
  refine wp_region_any mixed (wpAny_tv (by kernel_rfl) [.is (P0 b2), .is (P0 r), .pr (PB w9.heap.size D.S.flatten) (PB_kept _ _), .is (P0 r), .is (P0 r), .is (.pointer (some ⟨r, 1, none⟩)), .is (.slice (some ⟨eg, 0, none⟩) D.N ecap), .pr (PR w9.heap.size (Dev.plain D)) (PR_kept _ _), .is (P0 b2), .is (.bool true), .is (.bool true), .is (.int .i64 0), .is (.int .i64 0), .is (.bool true), .is (.bool true), .is (P0 b2), .pr (PR w9.heap.size (Dev.plain D)) (PR_kept _ _), .is (.bool true)] rfl (by kernel_rfl) (by kernel_rfl) (fun _ W' => Kept [] w9 W') ⟨rfl, rfl, rfl, Nat.le_refl _, fun _ _ _ => rfl⟩ (fun _ _ _ _ _ h => h) ?_ ?_)
  · intro i o' hi hsk ho a' w2 ls hls hlf hJ hout hin hdep
    match i, ho, hsk with
    | 0, ho, hsk =>
      obtain rfl := Option.some.inj ho
      exact wp_move (.tmp 23) rfl _ ((hout 23 (by kernel_rfl)).trans rfl) ⟨_, rfl, tp_is _ _ _ _ rfl, Kept.refl _ _, hJ⟩
    | 1, ho, hsk =>
      obtain rfl := Option.some.inj ho
      exact wp_move (.tmp 1) rfl _ ((hout 1 (by kernel_rfl)).trans rfl) ⟨_, rfl, tp_is _ _ _ _ rfl, Kept.refl _ _, hJ⟩
    | 2, ho, hsk =>
      obtain rfl := Option.some.inj ho
      have e0 : a'.eval (.tmp 259) = P0 r := is_tp (w := w2) (hin 1 259 (by kernel_rfl) (by kernel_rfl)) rfl
      refine wp_callF 35 _ _ rfl #[P0 r] (by simp [e0]) (cg35 _ _) ((r_bytes r sg eg D _ ((unhide G).rv.kept hJ (by simp) (by simp) (by simp))).mono ?_)
      rintro e w3 ⟨v3, rfl, ho3, hk3⟩
      exact ⟨_, rfl, _, rfl, tp_pr _ _ _ _ _ _ rfl (owns_base ho3 hJ.size), hk3, hJ.trans hk3⟩
    | 3, ho, hsk =>
      obtain rfl := Option.some.inj ho
      exact wp_move (.tmp 1) rfl _ ((hout 1 (by kernel_rfl)).trans rfl) ⟨_, rfl, tp_is _ _ _ _ rfl, Kept.refl _ _, hJ⟩
    | 4, ho, hsk =>
      obtain rfl := Option.some.inj ho
      have e0 : a'.eval (.tmp 261) = P0 r := is_tp (w := w2) (hin 3 261 (by kernel_rfl) (by kernel_rfl)) rfl
      exact o_nil (.tmp 261) rfl _ e0 ⟨_, rfl, tp_is _ _ _ _ rfl, Kept.refl _ _, hJ⟩
    | 5, ho, hsk =>
      obtain rfl := Option.some.inj ho
      have e0 : a'.eval (.tmp 262) = P0 r := is_tp (w := w2) (hin 4 262 (by kernel_rfl) (by kernel_rfl)) rfl
      exact o_fld51_1 (.tmp 262) rfl r e0 ⟨_, rfl, tp_is _ _ _ _ rfl, Kept.refl _ _, hJ⟩
    | 6, ho, hsk =>
      obtain rfl := Option.some.inj ho
      have e0 : a'.eval (.tmp 263) = .pointer (some ⟨r, 1, none⟩) := is_tp (w := w2) (hin 5 263 (by kernel_rfl) (by kernel_rfl)) rfl
      exact o_load43 (.tmp 263) rfl ⟨r, 1, none⟩ _ e0 (hJ.cell (unhide CE) (by simp)) ⟨_, rfl, tp_is _ _ _ _ rfl, Kept.refl _ _, hJ⟩
    | 7, ho, hsk =>
      obtain rfl := Option.some.inj ho
      have e0 := pr_tp (w := w2) (hin 2 260 (by kernel_rfl) (by kernel_rfl)) rfl
      have e1 : a'.eval (.tmp 264) = .slice (some ⟨eg, 0, none⟩) D.N ecap := is_tp (w := w2) (hin 6 264 (by kernel_rfl) (by kernel_rfl)) rfl
      obtain ⟨ao, c, hv, hV⟩ := PB.vals e0 (unhide NE)
      refine wp_callF 16 _ _ rfl #[.slice ao D.S.flatten.length c, .slice (some ⟨eg, 0, none⟩) D.N ecap] (by simp [hv, e1]) (cg16 _ _) ((r_of _ _ _ _ _ _ D.S.flatten (D.E.take D.N) _ (unhide HB) hV ((unhide VE).kept hJ (fun _ _ _ => by simp)) (unhide HL) (by omega)).mono ?_)
      rintro e w3 ⟨hk3, h7⟩
      obtain ⟨r2, s2, e2, rfl, hge, hR3⟩ : ∃ r2 s2 e2, e = .returned (P0 r2) ∧ (w2.heap.size ≤ r2 ∧ w2.heap.size ≤ s2 ∧ w2.heap.size ≤ e2) ∧ Rv w3 r2 s2 e2 (ofDev D.S.flatten (D.E.take D.N)) := by
        rcases h7 with ⟨h, _⟩ | ⟨_, h⟩
        · rw [unhide HO] at h; cases h
        · exact h
      rw [unhide HP] at hR3
      exact ⟨_, rfl, _, rfl, tp_pr _ _ _ _ _ _ rfl ⟨r2, s2, e2, rfl, Nat.le_trans hJ.size hge.1, Nat.le_trans hJ.size hge.2.1, Nat.le_trans hJ.size hge.2.2, hR3⟩, hk3, hJ.trans hk3⟩
    | 8, ho, hsk =>
      obtain rfl := Option.some.inj ho
      exact wp_move (.tmp 23) rfl _ ((hout 23 (by kernel_rfl)).trans rfl) ⟨_, rfl, tp_is _ _ _ _ rfl, Kept.refl _ _, hJ⟩
    | 9, ho, hsk =>
      obtain rfl := Option.some.inj ho
      have e0 : a'.eval (.tmp 266) = P0 b2 := is_tp (w := w2) (hin 8 266 (by kernel_rfl) (by kernel_rfl)) rfl
      exact o_neq24 (.tmp 266) rfl b2 e0 ⟨_, rfl, tp_is _ _ _ _ rfl, Kept.refl _ _, hJ⟩
    | 10, ho, hsk =>
      obtain rfl := Option.some.inj ho
      have e0 : a'.eval (.tmp 267) = .bool true := is_tp (w := w2) (hin 9 267 (by kernel_rfl) (by kernel_rfl)) rfl
      exact wp_move (.tmp 267) rfl _ e0 ⟨_, rfl, tp_is _ _ _ _ rfl, Kept.refl _ _, hJ⟩
    | 11, ho, hsk =>
      obtain rfl := Option.some.inj ho
      exact wp_move (.tmp 24) rfl _ ((hout 24 (by kernel_rfl)).trans rfl) ⟨_, rfl, tp_is _ _ _ _ rfl, Kept.refl _ _, hJ⟩
    | 12, ho, hsk =>
      obtain rfl := Option.some.inj ho
      have e0 : a'.eval (.tmp 269) = .int .i64 0 := is_tp (w := w2) (hin 11 269 (by kernel_rfl) (by kernel_rfl)) rfl
      refine wp_callF 10 _ _ rfl #[.int .i64 0] (by simp [e0]) (cg10 _ _) ((num10 _ _).mono ?_)
      rintro e w3 ⟨rfl, rfl⟩
      exact ⟨_, rfl, _, rfl, tp_is _ _ _ _ rfl, Kept.refl _ _, hJ⟩
    | 13, ho, hsk =>
      obtain rfl := Option.some.inj ho
      have e0 : a'.eval (.tmp 270) = .int .i64 0 := is_tp (w := w2) (hin 12 270 (by kernel_rfl) (by kernel_rfl)) rfl
      exact o_eql3 (.tmp 270) 0 rfl _ true (by simp) e0 ⟨_, rfl, tp_is _ _ _ _ rfl, Kept.refl _ _, hJ⟩
    | 14, ho, hsk =>
      obtain rfl := Option.some.inj ho
      have e0 : a'.eval (.tmp 268) = .bool true := is_tp (w := w2) (hin 10 268 (by kernel_rfl) (by kernel_rfl)) rfl
      have e1 : a'.eval (.tmp 271) = .bool true := is_tp (w := w2) (hin 13 271 (by kernel_rfl) (by kernel_rfl)) rfl
      exact o_pick (.tmp 268) (.tmp 271) rfl _ e0 e1 ⟨_, rfl, tp_is _ _ _ _ rfl, Kept.refl _ _, hJ⟩
    | 15, ho, hsk =>
      obtain rfl := Option.some.inj ho
      have e0 : a'.eval (.tmp 258) = P0 b2 := is_tp (w := w2) (hin 0 258 (by kernel_rfl) (by kernel_rfl)) rfl
      exact wp_assignV (.tmp 258) rfl _ e0 ⟨_, rfl, tp_is _ _ _ _ rfl, Kept.refl _ _, hJ⟩
    | 16, ho, hsk =>
      obtain rfl := Option.some.inj ho
      have e0 := pr_tp (w := w2) (hin 7 265 (by kernel_rfl) (by kernel_rfl)) rfl
      exact o_assignX (.tmp 265) rfl ⟨_, rfl, tp_pr _ _ _ _ _ _ rfl (e0), Kept.refl _ _, hJ⟩
    | 17, ho, hsk =>
      obtain rfl := Option.some.inj ho
      have e0 : a'.eval (.tmp 272) = .bool true := is_tp (w := w2) (hin 14 272 (by kernel_rfl) (by kernel_rfl)) rfl
      exact wp_assignV (.tmp 272) rfl _ e0 ⟨_, rfl, tp_is _ _ _ _ rfl, Kept.refl _ _, hJ⟩
  intro xx ll w8 hf9 hl9 hk8
  simp only [valsP, Nat.reduceAdd, putAll, Act.put, List.setIfInBounds_toArray, List.set_cons_succ, List.set_cons_zero]
  obtain ⟨r2, s2, e2, hr12, hr1, hr2, hr3, hr4⟩ : PR w9.heap.size (Dev.plain D) (xx 16) w8 := hf9 16 _ _ rfl
  rw [hr12]
  obtain ⟨y5, hy5⟩ : ∃ y, xx 2 = y := ⟨_, rfl⟩
  obtain ⟨y6, hy6⟩ : ∃ y, xx 7 = y := ⟨_, rfl⟩
  rw [hy5, hy6]
  have hk88 : Kept [] w9 w8 := hk8
  have G3 := hide ((unhide G).step hk88)
  have DV3 := hide ((unhide DV2).kept hk88 (by simp) (by simp))
  have RV3 := hide hr4
  have hap : Hid (Ap B b2 g2 r2 s2 e2) := by
    have h1 := unhide N2
    exact ⟨⟨h1.1, h1.2.1, by omega, by omega, by omega⟩, by omega, by omega, by omega, by omega, by omega, by omega⟩
  have hfr : Hid (Frs w b g r sg eg b2 g2 r2 s2 e2) := by
    have h1 := unhide N2
    have h2 := (unhide G).k.size
    exact ⟨.inr (by omega), .inr (by omega), .inr (by omega), .inr (by omega), .inr (by omega)⟩
  clear hr12 hy5 hy6 hf9 hr1 hr2 hr3 hr4 hk8 hk88 G CE VE hl9 xx
  go_wp2_with fail
  exact bodyPost_ret (res14 _ _ _ _ _ rfl rfl rfl) rfl ⟨b2, g2, r2, s2, e2, rfl, unhide DV3, unhide RV3, unhide hap, (unhide G3).k, unhide hfr⟩

end Go.Proofs.Ytffflafalffifaa.K

namespace Go.Proofs.Ytffflafalffifaa.K
open Go.RowKit

theorem same_self (D : Dev) : Dev.same D D = true := by simp [Dev.same]
/-- One sector as a slice that was made. -/
def PS (B : Nat) (s : List Int) (v : Value) (W : World) : Prop := ∃ q, v = .slice (some ⟨q, 0, none⟩) 1 1 ∧ B ≤ q ∧ Blk W q 38 (u8s s)
theorem PS_kept (B : Nat) (s : List Int) : ∀ v w w', PS B s v w → Kept [] w w' → PS B s v w' := by
  rintro v w w' ⟨q, h1, h2, h3⟩ hk
  exact ⟨q, h1, h2, h3.kept hk (by simp)⟩
theorem blk_secs {W : World} {q : Nat} {s : List Int} (hs : Sec s) (h : Blk W q 38 (u8s s)) : Secs W (some ⟨q, 0, none⟩) 1 1 [s] := by
  refine ⟨rfl, by simpa using hs, Nat.le_refl _, fun _ => ⟨q, 0, rfl, fun i hi => ?_⟩⟩
  obtain rfl : i = 0 := by simpa using hi
  simpa using h.range
section
variable {o : Oper} {a : Act} {w : World} {K : Act → World → Prop} {Q : Exit → Act → World → Prop}
theorem o_add2c (x : Operand) (c : Int) (ho : o.op = .binOp .add 2 x (.const (.int .i64 c)) 2) (m : Int) (hm : I64 (m + c)) (hx : a.eval x = .int .i64 m) (h : K (a.put o.dst (.int .i64 (m + c))) w) : o.wp Try.prog a w K Q := by
  have hw : IntKind.i64.wrap (m + c) = m + c := by rw [IntKind.wrap_i64]; unfold I64 at hm; omega
  unfold Oper.wp execOp
  simp only [ho, hx]
  simp [go_sem, hw]
  exact h
theorem o_sec1 (x : Operand) (ho : o.op = .buildSlice 36 1 #[(0, x)]) (s : List Int) (hs : Sec s) (hx : a.eval x = secV s) (h : K (a.put o.dst (.slice (some ⟨w.heap.size, 0, none⟩) 1 1)) (w.alloc (.cells (u8s s).toArray 38))) : o.wp Try.prog a w K Q :=
  wp_secs 1 _ ho [s] (by simpa using hs) rfl (by omega) (by omega) (by simp [hx]) (by simpa using h)
end
set_option maxHeartbeats 2000000 in
set_option maxRecDepth 100000 in
theorem do_7 (B b g r sg eg : Nat) (D : Dev) (x : Sx) (w : World) (hD : Dv w b g D) (hR : Rv w r sg eg D) (ap : Ap B b g r sg eg) (hx : x.Ok w B) (hB : B ≤ w.heap.size) (hk : x.kd = 7) : Calls Try.prog 14 #[P0 b, P0 r, aggV x.C] w (DoR B b g r sg eg (D) w) := by
  have hok := hD.ok
  have hn0 := hok.n0
  have hep := ep_le hok 0 (by omega)
  rw [show ((0 : Nat) : Int) = 0 from rfl] at hep
  have P17 : Hid (∀ {b2 g2 : Nat} (W : World), Dv W b2 g2 D → Dv W b g D → Calls Try.prog 17 #[P0 b2, P0 b] W fun e w' => e = .returned (.bool true) ∧ Kept [] W w') := fun W h1 h2 => by have := same17 _ _ b g D D W h1 h2; rw [same_self] at this; exact this
  obtain ⟨u1, u2, D2, hU⟩ : ∃ u1 u2 D2, D.up 0 = (u1, u2, D2) := ⟨_, _, _, rfl⟩
  have P27 := hide (fun W (h : Dv W b g D) => up27 b g D 0 W h)
  rw [hU] at P27
  clear hU
  have hlC := C_len hx
  have HX := hide hx
  have HD := hide hD
  have HR := hide hR
  have HA := hide ap
  have HK := hide hk
  clear hk
  clear hD hR ap hx
  go_enter Try.func14, Try.ntmps14
  go_wp2_with (
    first
    | (refine wpBoxV (by rfl) (.tmp 2) (by rfl) x.C (by rfl) ?_
       intro W1 b5 e1 B1 K1
       have G : Hid (Dg w W1 b g r sg eg D D b5 x) := ⟨(unhide HD).kept K1 (by simp) (by simp), (unhide HR).kept K1 (by simp) (by simp) (by simp), B1, K1.mono (by simp), by omega⟩
       have N5 := hide ((unhide G).apart (unhide HD) (unhide HR))
       obtain ⟨q0, q1, q2, q3, q4, q5⟩ := x_cells (unhide G).x5
       rw [unhide HK] at q0
       have HW1 : Hid (w.heap.size ≤ W1.heap.size) := K1.size
       clear e1 B1 K1
       refine Stp.go ?_))
  constructor
  go_wp2_with (
    first
    | (go_at_call 21
       refine (copy21 b g D _ (unhide G).dv).mono ?_
       rintro e V1 ⟨b2, g2, rfl, hb1, hb2, hb3, k1⟩
       replace G := hide ((unhide G).step k1)
       have DC := hide hb3
       have N2 : Hid (B ≤ b2 ∧ B ≤ g2 ∧ b2 ≠ b ∧ b2 ≠ g ∧ g2 ≠ b ∧ g2 ≠ g ∧ b2 ≠ r ∧ b2 ≠ sg ∧ b2 ≠ eg ∧ g2 ≠ r ∧ g2 ≠ sg ∧ g2 ≠ eg ∧ w.heap.size ≤ b2 ∧ w.heap.size ≤ g2) := by
         have h1 := (unhide HD).lt
         have h2 := (unhide HR).lt
         have h3 := ((Kept.refl [] w).size)
         have h4 := unhide HW1
         refine ⟨by omega, by omega, by omega, by omega, by omega, by omega, by omega, by omega, by omega, by omega, by omega, by omega, by omega, by omega⟩
       clear hb1 hb2 hb3 k1 q0 q1 q2 q3 q4 q5
       refine Stp.go ?_))
  constructor
  go_wp2_with (
    first
    | (go_at_call 17
       refine (unhide P17 _ (unhide DC) (unhide G).dv).mono ?_
       rintro e V2 ⟨rfl, k2⟩
       replace G := hide ((unhide G).step k2)
       replace DC := hide ((unhide DC).kept k2 (by simp) (by simp))
       clear k2
       refine Stp.go ?_))
  constructor
  go_wp2_with (
    first
    | (go_at_call 27
       refine (unhide P27 _ (unhide G).dv).mono ?_
       rintro e W5 ⟨rfl, d1, k1⟩
       replace DC := hide ((unhide DC).kept k1 (by have := unhide N2; simp; omega) (by have := unhide N2; simp; omega))
       replace G := hide ((unhide G).dstep (unhide HA) (unhide N5) d1 k1)
       clear d1 k1))
  obtain ⟨ecap, ce, ve⟩ := rv_eps (unhide G).rv
  have CE := hide ce
  have CP : Hid (W5.cell? ⟨eg, 0 + 0, none⟩ = some (.int .i64 (D.ep 0))) := by
    have := (unhide G).rv.epoch 0 (by omega)
    exact this
  clear ce ve
  refine wp_region_any mixed (wpAny_tpk 10 1 rfl (by kernel_rfl) [.is (P0 b), .is (P0 r), .is (P0 r), .is (.pointer (some ⟨r, 1, none⟩)), .is (.slice (some ⟨eg, 0, none⟩) D.N ecap), .is (.pointer (some ⟨eg, 0 + 0, none⟩)), .is (.int .i64 (D.ep 0)), .is (.int .i64 (D.ep 0 + 1)), .is (secV (fullS 5)), .pr (PS W5.heap.size (fullS 5)) (PS_kept _ _)] rfl (by kernel_rfl) (by kernel_rfl) ?_ ?_)
  · intro i o' hi hsk ho a' w2 hout hin hk2
    replace hk2 : Kept [] W5 w2 := ⟨hk2.os, hk2.tape, hk2.output, hk2.size, hk2.block⟩
    match i, ho, hsk with
    | 0, ho, hsk =>
      obtain rfl := Option.some.inj ho
      exact wp_move (.tmp 0) rfl _ ((hout 0 (by kernel_rfl)).trans rfl) ⟨_, rfl, tp_is _ _ _ _ rfl, Kept.refl _ _, fun _ _ _ _ _ => trivial⟩
    | 1, ho, hsk =>
      obtain rfl := Option.some.inj ho
      exact wp_move (.tmp 1) rfl _ ((hout 1 (by kernel_rfl)).trans rfl) ⟨_, rfl, tp_is _ _ _ _ rfl, Kept.refl _ _, fun _ _ _ _ _ => trivial⟩
    | 2, ho, hsk =>
      obtain rfl := Option.some.inj ho
      have e0 : a'.eval (.tmp 231) = P0 r := is_tp (hin 1 231 (by kernel_rfl) (by kernel_rfl)) rfl
      exact o_nil (.tmp 231) rfl _ e0 ⟨_, rfl, tp_is _ _ _ _ rfl, Kept.refl _ _, fun _ _ _ _ _ => trivial⟩
    | 3, ho, hsk =>
      obtain rfl := Option.some.inj ho
      have e0 : a'.eval (.tmp 232) = P0 r := is_tp (hin 2 232 (by kernel_rfl) (by kernel_rfl)) rfl
      exact o_fld51_1 (.tmp 232) rfl r e0 ⟨_, rfl, tp_is _ _ _ _ rfl, Kept.refl _ _, fun _ _ _ _ _ => trivial⟩
    | 4, ho, hsk =>
      obtain rfl := Option.some.inj ho
      have e0 : a'.eval (.tmp 233) = .pointer (some ⟨r, 1, none⟩) := is_tp (hin 3 233 (by kernel_rfl) (by kernel_rfl)) rfl
      exact o_load43 (.tmp 233) rfl ⟨r, 1, none⟩ _ e0 (hk2.cell (unhide CE) (by simp)) ⟨_, rfl, tp_is _ _ _ _ rfl, Kept.refl _ _, fun _ _ _ _ _ => trivial⟩
    | 5, ho, hsk =>
      obtain rfl := Option.some.inj ho
      have e0 : a'.eval (.tmp 234) = .slice (some ⟨eg, 0, none⟩) D.N ecap := is_tp (hin 4 234 (by kernel_rfl) (by kernel_rfl)) rfl
      exact o_idx43 (.tmp 234) (.const (.int .i64 0)) rfl eg 0 _ ecap 0 (by omega) e0 rfl ⟨_, rfl, tp_is _ _ _ _ rfl, Kept.refl _ _, fun _ _ _ _ _ => trivial⟩
    | 6, ho, hsk =>
      obtain rfl := Option.some.inj ho
      have e0 : a'.eval (.tmp 235) = .pointer (some ⟨eg, 0 + 0, none⟩) := is_tp (hin 5 235 (by kernel_rfl) (by kernel_rfl)) rfl
      exact o_load2 (.tmp 235) rfl ⟨eg, 0 + 0, none⟩ _ e0 (hk2.cell (unhide CP) (by simp)) ⟨_, rfl, tp_is _ _ _ _ rfl, Kept.refl _ _, fun _ _ _ _ _ => trivial⟩
    | 7, ho, hsk =>
      obtain rfl := Option.some.inj ho
      have e0 : a'.eval (.tmp 236) = .int .i64 (D.ep 0) := is_tp (hin 6 236 (by kernel_rfl) (by kernel_rfl)) rfl
      exact o_add2c (.tmp 236) 1 rfl _ (by unfold I64; omega) e0 ⟨_, rfl, tp_is _ _ _ _ rfl, Kept.refl _ _, fun _ _ _ _ _ => trivial⟩
    | 8, ho, hsk =>
      obtain rfl := Option.some.inj ho
      refine wp_callF 23 _ _ rfl #[.int .u8 5] (by simp; rfl) (ch23 _ _) ((full23 5 _ (by omega)).mono ?_)
      rintro e w3 ⟨rfl, hk3⟩
      exact ⟨_, rfl, _, rfl, tp_is _ _ _ _ rfl, hk3, fun _ _ _ _ _ => trivial⟩
    | 9, ho, hsk =>
      obtain rfl := Option.some.inj ho
      have e0 : a'.eval (.tmp 238) = secV (fullS 5) := is_tp (hin 8 238 (by kernel_rfl) (by kernel_rfl)) rfl
      exact o_sec1 (.tmp 238) rfl (fullS 5) (fullS_sec (by omega)) e0 ⟨_, rfl, tp_pr _ _ _ _ _ _ rfl ⟨_, rfl, hk2.size, Blk.new _ _ _⟩, (Kept.refl _ _).alloc _, fun _ _ _ _ _ => trivial⟩
  intro xx w9 hf9 hk9
  replace hk9 : Kept [] W5 w9 := ⟨hk9.os, hk9.tape, hk9.output, hk9.size, hk9.block⟩
  simp only [valsP, Nat.reduceAdd, List.take_succ_cons, List.take_zero, putAll, Act.put, List.setIfInBounds_toArray, List.set_cons_succ, List.set_cons_zero]
  obtain ⟨q, hq1, hq2, hq3⟩ : PS W5.heap.size (fullS 5) (xx 9) w9 := hf9 9 _ _ rfl
  rw [hq1]
  refine wpAny_all (rs := [10]) (by kernel_rfl) (by simp) ?_
  intro i hi
  obtain rfl : i = 10 := by simpa using hi
  have G9 := (unhide G).step hk9
  have hqn : q ≠ b ∧ q ≠ g := by
    have h1 := (unhide G).dv.lt
    omega
  obtain ⟨u3, D3, hU⟩ : ∃ u3 D3, D2.write 0 (D.ep 0 + 1) 0 [fullS 5] = (u3, D3) := ⟨_, _, rfl⟩
  have P22 := write22 b g D2 0 (D.ep 0 + 1) 0 (some ⟨q, 0, none⟩) 1 1 [fullS 5] w9 G9.dv (by omega) (by omega) (blk_secs (fullS_sec (by omega)) hq3) (fun h off e => by cases e; simp; omega)
  rw [hU] at P22
  refine wpOp_of rfl rfl (wp_callF 22 _ _ rfl #[P0 b, .int .i64 0, .int .i64 (D.ep 0 + 1), .int .i64 0, .slice (some ⟨q, 0, none⟩) 1 1] (by simp only [List.map_toArray, List.map_cons, List.map_nil]; rfl) (cg22 _ _) (P22.mono ?_))
  rintro e W7 ⟨rfl, d7, k7⟩
  refine ⟨_, rfl, wpAny_done (by kernel_rfl) ?_ _⟩
  replace DC := hide (((unhide DC).kept hk9 (by simp) (by simp)).kept k7 (by have := unhide N2; simp; omega) (by have := unhide N2; simp; omega))
  replace G := hide (G9.dstep (unhide HA) (unhide N5) d7 k7)
  simp only [Act.put, List.setIfInBounds_toArray]
  clear hf9 hq1 hq2 hq3 hk9 G9 hqn hU P22 d7 k7 CE CP xx
  go_wp2_with (
    first
    | (go_at_call 20
       refine (whole20 b g D3 _ (unhide G).dv).mono ?_
       rintro e W8 ⟨rfl, d8, k8⟩
       replace DC := hide ((unhide DC).kept k8 (by have := unhide N2; simp; omega) (by have := unhide N2; simp; omega))
       replace G := hide ((unhide G).dstep (unhide HA) (unhide N5) d8 k8)
       clear d8 k8))
  have hap : Ap B b2 g2 r sg eg := by
    have h1 := unhide N2
    have h2 := (unhide HA).ge
    exact ⟨⟨h1.1, h1.2.1, h2.2.2.1, h2.2.2.2.1, h2.2.2.2.2⟩, by omega, by omega, by omega, by omega, by omega, by omega⟩
  exact bodyPost_ret (res14 _ _ _ _ _ rfl rfl rfl) rfl ⟨b2, g2, r, sg, eg, rfl, unhide DC, (unhide G).rv, hap, (unhide G).k, (by have h1 := unhide N2; exact ⟨.inr (by omega), .inr (by omega), .inl rfl, .inl rfl, .inl rfl⟩)⟩

end Go.Proofs.Ytffflafalffifaa.K
