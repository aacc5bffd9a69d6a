/-
  A region that draws its order: a variable is read twice, and two new ones get what was read.
-/
import Derived.Test.YtkpkiibahfdomaaDoorGet
namespace Go.Proofs.YtkpkiibahfdomaaDoor
open Go.RowKit

/-- Whatever the order: what each operation keeps holds at the end. -/
theorem wpAny_inv {P : Program} {ops : Array Oper} {Q : Exit → Act → World → Prop} (I : Array Bool → Act → World → Prop) (hs : ∀ l a w, I l a w → ∀ j ∈ Region.ready .any ops l, wpOp P ops Q j (I (l.setIfInBounds j true)) a w)
    (he : ∀ l a w, I l a w → Region.ready .any ops l = [] → Q .normal a w) : ∀ (fuel : Nat) (l : Array Bool) (a : Act) (w : World), I l a w → (l.toList.filter (fun b => !b)).length ≤ fuel → wpAny P .any ops Q fuel l a w := by
  intro fuel
  induction fuel with
  | zero =>
    intro l a w hI hf
    have hr : Region.ready .any ops l = [] := by
      apply List.eq_nil_iff_forall_not_mem.2
      intro j hj
      have := unlisted_set (mem_ready.1 hj).1
      omega
    exact ⟨hr, he l a w hI hr⟩
  | succ fuel ih =>
    intro l a w hI hf
    refine ⟨he l a w hI, fun i hi => wpOp_mono (fun a w h => ih _ a w h ?_) (hs l a w hI i hi)⟩
    have := unlisted_set (mem_ready.1 hi).1
    omega

structure Two (w0 : World) (a0 : Act) (d0 d1 d2 d3 : Nat) (r : Rec) (l : Array Bool) (a : Act) (w : World) (qo qp : Nat) : Prop where
  size : l.size = 6
  df : a.defers = a0.defers
  ts : a.tmps.size = a0.tmps.size
  out : ∀ t, t ≠ d0 → t ≠ d1 → t ≠ d2 → t ≠ d3 → a.tmps[t]? = a0.tmps[t]?
  v0 : l.getD 0 false = true → a.tmps[d0]? = some (aggV (recC r))
  v1 : l.getD 1 false = true → a.tmps[d1]? = some (aggV (recC r))
  v2 : l.getD 2 false = true → a.tmps[d2]? = some (P0 qo) ∧ w0.heap.size ≤ qo ∧ Blk w qo 25 (if l.getD 4 false = true then recC r else recC zrec)
  v3 : l.getD 3 false = true → a.tmps[d3]? = some (P0 qp) ∧ w0.heap.size ≤ qp ∧ Blk w qp 25 (if l.getD 5 false = true then recC r else recC zrec)
  ne : l.getD 2 false = true → l.getD 3 false = true → qo ≠ qp
  n4 : l.getD 4 false = true → l.getD 2 false = true
  n5 : l.getD 5 false = true → l.getD 3 false = true
  k : Kept [] w0 w

theorem getD_set {l : Array Bool} (h : l.size = 6) {j : Nat} (hj : j < 6) (i : Nat) : (l.setIfInBounds j true).getD i false = if i = j then true else l.getD i false := by
  simp only [Array.getD_eq_getD_getElem?, Array.getElem?_setIfInBounds]
  by_cases e : j = i
  · subst e; simp [h, hj]
  · rw [if_neg e, if_neg (fun h => e h.symm)]
theorem evalT {a : Act} {t : Nat} {v : Value} (h : a.tmps[t]? = some v) : a.eval (.tmp t) = v := by simp [Act.eval, Array.getD_eq_getD_getElem?, h]
theorem not_of_unlisted {l : Array Bool} {j : Nat} (hs : l.size = 6) (hj : j < 6) (h : l.getD j true = false) : l.getD j false = false := by
  simp only [Array.getD_eq_getD_getElem?] at *
  rw [Array.getElem?_eq_getElem (by omega)] at *
  simpa using h

theorem ite_len {c : Bool} {r : Rec} (h : (recC r).length = 101) : (if c = true then recC r else recC zrec).length = 101 := by
  cases c
  · exact zrecl
  · exact h

theorem wp_two {id : Nat} {ops : Array Oper} {Q : Exit → Act → World → Prop} {a0 : Act} {w0 : World} (o0 o1 o2 o3 o4 o5 : Oper) (hops : ops = #[o0, o1, o2, o3, o4, o5]) (hg : ops.all (fun o => o.guard.isNone) = true) (x d0 d1 d2 d3 : Nat)
    (h0 : o0.op = .load 25 (.tmp x)) (h1 : o1.op = .load 25 (.tmp x)) (h2 : o2.op = .alloc 25) (h3 : o3.op = .alloc 25) (h4 : o4.op = .store 25 (.tmp d2) (.tmp d0)) (h5 : o5.op = .store 25 (.tmp d3) (.tmp d1))
    (e0 : o0.dst = some d0) (e1 : o1.dst = some d1) (e2 : o2.dst = some d2) (e3 : o3.dst = some d3) (e4 : o4.dst = none) (e5 : o5.dst = none)
    (hd : decide (d0 ≠ d1 ∧ d0 ≠ d2 ∧ d0 ≠ d3 ∧ d1 ≠ d2 ∧ d1 ≠ d3 ∧ d2 ≠ d3 ∧ x ≠ d0 ∧ x ≠ d1 ∧ x ≠ d2 ∧ x ≠ d3) = true) (hsz : decide (d0 < a0.tmps.size ∧ d1 < a0.tmps.size ∧ d2 < a0.tmps.size ∧ d3 < a0.tmps.size ∧ x < a0.tmps.size) = true)
    (ha4 : (o4.after.any (fun e => Region.binds .any e && e.on == 0) && o4.after.any (fun e => Region.binds .any e && e.on == 2)) = true)
    (ha5 : (o5.after.any (fun e => Region.binds .any e && e.on == 1) && o5.after.any (fun e => Region.binds .any e && e.on == 3)) = true)
    (hlate : (ops.all (fun o => o.after.all (fun e => !Region.binds .any e || decide (e.on < 5))) && [o0, o1, o2, o3].all (fun o => o.after.all (fun e => !Region.binds .any e)) && o4.after.all (fun e => !Region.binds .any e || decide (e.on < 4))) = true)
    (hm : Tryd.prog.follows .mixedOrders = true) (b : Nat) (r : Rec) (hx : a0.eval (.tmp x) = P0 b) (hB : Blk w0 b 25 (recC r)) (hl : (recC r).length = 101)
    (hQ : ∀ qo qp w, qo ≠ qp → w0.heap.size ≤ qo → w0.heap.size ≤ qp → Blk w qo 25 (recC r) → Blk w qp 25 (recC r) → Kept [] w0 w → Q .normal ((((a0.put (some d0) (aggV (recC r))).put (some d1) (aggV (recC r))).put (some d2) (P0 qo)).put (some d3) (P0 qp)) w) :
    (Code.region id ops true).wp Tryd.prog Q a0 w0 := by
  have hd := of_decide_eq_true hd
  have hsz := of_decide_eq_true hsz
  obtain ⟨q01, q02, q03, q12, q13, q23, x0, x1, x2, x3⟩ := hd
  obtain ⟨s0, s1, s2, s3, sx⟩ := hsz
  have gd : ∀ o ∈ ops, o.guard = none := fun o ho => by simpa using (Array.all_eq_true_iff_forall_mem.1 hg) o ho
  refine wp_region_any hm ?_
  have hkd : Kept [] w0 { w0 with drawn := w0.drawn + 1 } := ⟨rfl, rfl, rfl, Nat.le_refl _, fun _ _ _ => rfl⟩
  refine wpAny_inv (fun l a w => ∃ qo qp, Two w0 a0 d0 d1 d2 d3 r l a w qo qp) ?_ ?_ _ _ _ _ ?_ ?_
  · rintro l a w ⟨qo, qp, T⟩ j hj
    obtain ⟨hj1, o, ho, hafter⟩ := mem_ready.1 hj
    have hj6 : j < 6 := by
      have := (Array.getElem?_eq_some_iff.1 ho).1
      rw [hops] at this
      simpa using this
    have hnj := not_of_unlisted T.size hj6 hj1
    have hgo := gd o (Array.mem_of_getElem? ho)
    have hax : a.eval (.tmp x) = P0 b := by
      have := T.out x x0 x1 x2 x3
      rw [← hx]
      simp only [Act.eval, Array.getD_eq_getD_getElem?, this]
    have need : ∀ i, o.after.any (fun e => Region.binds .any e && e.on == i) = true → l.getD i false = true := by
      intro i hi
      obtain ⟨k, hk, hb⟩ := Array.any_eq_true.1 hi
      rw [Bool.and_eq_true, beq_iff_eq] at hb
      rw [← hb.2]
      exact hafter _ (Array.getElem_mem hk) hb.1
    refine wpOp_of ho hgo ?_
    have size' : (l.setIfInBounds j true).size = 6 := by simp [T.size]
    have G := fun i => getD_set T.size hj6 i
    have ho' : #[o0, o1, o2, o3, o4, o5][j]? = some o := by rw [← hops]; exact ho
    match j, ho' with
    | 0, ho' =>
      obtain rfl : o0 = o := Option.some.inj ho'
      refine wp_loadA row25 (.tmp x) h0 b 0 hax (recC r) hl (hB.kept T.k (by simp)).range ⟨qo, qp, ?_⟩
      rw [e0]
      exact { size := size', df := T.df, ts := by simp [Act.put, T.ts],
              out := fun t t0 t1 t2 t3 => by rw [put_other _ _ _ _ (by simp; exact fun h => t0 h.symm)]; exact T.out t t0 t1 t2 t3,
              v0 := fun _ => put_same _ _ _ (by rw [T.ts]; exact s0),
              v1 := fun h => by rw [put_other _ _ _ _ (by simp; exact q01)]; exact T.v1 (by simpa [G] using h),
              v2 := fun h => by rw [put_other _ _ _ _ (by simp; exact q02)]; simpa [G] using T.v2 (by simpa [G] using h),
              v3 := fun h => by rw [put_other _ _ _ _ (by simp; exact q03)]; simpa [G] using T.v3 (by simpa [G] using h),
              ne := fun h h' => T.ne (by simpa [G] using h) (by simpa [G] using h'), n4 := fun h => by simpa [G] using T.n4 (by simpa [G] using h), n5 := fun h => by simpa [G] using T.n5 (by simpa [G] using h), k := T.k }
    | 1, ho' =>
      obtain rfl : o1 = o := Option.some.inj ho'
      refine wp_loadA row25 (.tmp x) h1 b 0 hax (recC r) hl (hB.kept T.k (by simp)).range ⟨qo, qp, ?_⟩
      rw [e1]
      exact { size := size', df := T.df, ts := by simp [Act.put, T.ts],
              out := fun t t0 t1 t2 t3 => by rw [put_other _ _ _ _ (by simp; exact fun h => t1 h.symm)]; exact T.out t t0 t1 t2 t3,
              v0 := fun h => by rw [put_other _ _ _ _ (by simp; exact fun h => q01 h.symm)]; exact T.v0 (by simpa [G] using h),
              v1 := fun _ => put_same _ _ _ (by rw [T.ts]; exact s1),
              v2 := fun h => by rw [put_other _ _ _ _ (by simp; exact q12)]; simpa [G] using T.v2 (by simpa [G] using h),
              v3 := fun h => by rw [put_other _ _ _ _ (by simp; exact q13)]; simpa [G] using T.v3 (by simpa [G] using h),
              ne := fun h h' => T.ne (by simpa [G] using h) (by simpa [G] using h'), n4 := fun h => by simpa [G] using T.n4 (by simpa [G] using h), n5 := fun h => by simpa [G] using T.n5 (by simpa [G] using h), k := T.k }
    | 2, ho' =>
      obtain rfl : o2 = o := Option.some.inj ho'
      have h4f : l.getD 4 false = false := by cases hc : l.getD 4 false with
        | false => rfl
        | true => rw [T.n4 hc] at hnj; cases hnj
      have G4 : (l.setIfInBounds 2 true).getD 4 false = false := by rw [G, if_neg (by decide)]; exact h4f
      refine wp_allocA (recC zrec) zero25 h2 ⟨w.heap.size, qp, ?_⟩
      rw [e2]
      exact { size := size', df := T.df, ts := by simp [Act.put, T.ts],
              out := fun t t0 t1 t2 t3 => by rw [put_other _ _ _ _ (by simp; exact fun h => t2 h.symm)]; exact T.out t t0 t1 t2 t3,
              v0 := fun h => by rw [put_other _ _ _ _ (by simp; exact fun h => q02 h.symm)]; exact T.v0 (by simpa [G] using h),
              v1 := fun h => by rw [put_other _ _ _ _ (by simp; exact fun h => q12 h.symm)]; exact T.v1 (by simpa [G] using h),
              v2 := fun _ => ⟨put_same _ _ _ (by rw [T.ts]; exact s2), T.k.size, by rw [G4, if_neg (by decide)]; exact Blk.new' rfl⟩,
              v3 := fun h => by
                obtain ⟨g1, g2, g3⟩ := T.v3 (by simpa [G] using h)
                exact ⟨by rw [put_other _ _ _ _ (by simp; exact q23)]; exact g1, g2, by simpa [G] using g3.alloc _⟩,
              ne := fun _ h' => by
                obtain ⟨g1, g2, g3⟩ := T.v3 (by simpa [G] using h')
                have := g3.lt
                omega,
              n4 := fun h => by simp [G], n5 := fun h => by simpa [G] using T.n5 (by simpa [G] using h), k := T.k.alloc _ }
    | 3, ho' =>
      obtain rfl : o3 = o := Option.some.inj ho'
      have h5f : l.getD 5 false = false := by cases hc : l.getD 5 false with
        | false => rfl
        | true => rw [T.n5 hc] at hnj; cases hnj
      have G5 : (l.setIfInBounds 3 true).getD 5 false = false := by rw [G, if_neg (by decide)]; exact h5f
      refine wp_allocA (recC zrec) zero25 h3 ⟨qo, w.heap.size, ?_⟩
      rw [e3]
      exact { size := size', df := T.df, ts := by simp [Act.put, T.ts],
              out := fun t t0 t1 t2 t3 => by rw [put_other _ _ _ _ (by simp; exact fun h => t3 h.symm)]; exact T.out t t0 t1 t2 t3,
              v0 := fun h => by rw [put_other _ _ _ _ (by simp; exact fun h => q03 h.symm)]; exact T.v0 (by simpa [G] using h),
              v1 := fun h => by rw [put_other _ _ _ _ (by simp; exact fun h => q13 h.symm)]; exact T.v1 (by simpa [G] using h),
              v2 := fun h => by
                obtain ⟨g1, g2, g3⟩ := T.v2 (by simpa [G] using h)
                exact ⟨by rw [put_other _ _ _ _ (by simp; exact fun h => q23 h.symm)]; exact g1, g2, by simpa [G] using g3.alloc _⟩,
              v3 := fun _ => ⟨put_same _ _ _ (by rw [T.ts]; exact s3), T.k.size, by rw [G5, if_neg (by decide)]; exact Blk.new' rfl⟩,
              ne := fun h' _ => by
                obtain ⟨g1, g2, g3⟩ := T.v2 (by simpa [G] using h')
                have := g3.lt
                omega,
              n4 := fun h => by simpa [G] using T.n4 (by simpa [G] using h), n5 := fun h => by simp [G], k := T.k.alloc _ }
    | 4, ho' =>
      obtain rfl : o4 = o := Option.some.inj ho'
      rw [Bool.and_eq_true] at ha4
      have l0 := need 0 ha4.1
      have l2 := need 2 ha4.2
      obtain ⟨g1, g2, g3⟩ := T.v2 l2
      refine wp_storeN row25 (.tmp d2) (.tmp d0) h4 e4 qo 0 (recC r) (evalT g1) (evalT (T.v0 l0)) hl (recC_one _) (g3.there (by rw [ite_len hl]; omega)) ⟨qo, qp, ?_⟩
      exact { size := size', df := T.df, ts := T.ts, out := T.out, v0 := fun h => T.v0 (by simpa [G] using h), v1 := fun h => T.v1 (by simpa [G] using h),
              v2 := fun _ => ⟨g1, g2, by simp only [G, if_true]; exact g3.put (by rw [ite_len hl, hl])⟩,
              v3 := fun h => by
                obtain ⟨f1, f2, f3⟩ := T.v3 (by simpa [G] using h)
                exact ⟨f1, f2, by simpa [G] using f3.other (Ne.symm (T.ne l2 (by simpa [G] using h)))⟩,
              ne := fun h h' => T.ne (by simpa [G] using h) (by simpa [G] using h'), n4 := fun _ => by simpa [G] using l2, n5 := fun h => by simpa [G] using T.n5 (by simpa [G] using h), k := T.k.setCells _ _ (by omega) }
    | 5, ho' =>
      obtain rfl : o5 = o := Option.some.inj ho'
      rw [Bool.and_eq_true] at ha5
      have l1 := need 1 ha5.1
      have l3 := need 3 ha5.2
      obtain ⟨g1, g2, g3⟩ := T.v3 l3
      refine wp_storeN row25 (.tmp d3) (.tmp d1) h5 e5 qp 0 (recC r) (evalT g1) (evalT (T.v1 l1)) hl (recC_one _) (g3.there (by rw [ite_len hl]; omega)) ⟨qo, qp, ?_⟩
      exact { size := size', df := T.df, ts := T.ts, out := T.out, v0 := fun h => T.v0 (by simpa [G] using h), v1 := fun h => T.v1 (by simpa [G] using h),
              v2 := fun h => by
                obtain ⟨f1, f2, f3⟩ := T.v2 (by simpa [G] using h)
                exact ⟨f1, f2, by simpa [G] using f3.other (T.ne (by simpa [G] using h) l3)⟩,
              v3 := fun _ => ⟨g1, g2, by simp only [G, if_true]; exact g3.put (by rw [ite_len hl, hl])⟩,
              ne := fun h h' => T.ne (by simpa [G] using h) (by simpa [G] using h'), n4 := fun h => by simpa [G] using T.n4 (by simpa [G] using h), n5 := fun _ => by simpa [G] using l3, k := T.k.setCells _ _ (by omega) }
  · rintro l a w ⟨qo, qp, T⟩ hr
    rw [Bool.and_eq_true, Bool.and_eq_true] at hlate
    obtain ⟨⟨la, lb⟩, lc⟩ := hlate
    have lb' := List.all_eq_true.1 lb
    have lb0 := lb' o0 (by simp)
    have lb1 := lb' o1 (by simp)
    have lb2 := lb' o2 (by simp)
    have lb3 := lb' o3 (by simp)
    have all : ∀ (j : Nat) (o : Oper), ops[j]? = some o → (∀ e ∈ o.after, Region.binds .any e = true → l.getD e.on false = true) → l.getD j false = true := by
      intro j o ho hA
      cases hc : l.getD j false with
      | true => rfl
      | false =>
        have hj6 : j < l.size := by
          have := (Array.getElem?_eq_some_iff.1 ho).1
          rw [hops] at this
          rw [T.size]
          simpa using this
        have hm : j ∈ Region.ready .any ops l := mem_ready.2 ⟨by
          simp only [Array.getD_eq_getD_getElem?, Array.getElem?_eq_getElem hj6, Option.getD_some] at hc ⊢
          exact hc, o, ho, hA⟩
        rw [hr] at hm
        cases hm
    have free : ∀ {o : Oper}, o.after.all (fun e => !Region.binds .any e) = true → ∀ e ∈ o.after, Region.binds .any e = true → l.getD e.on false = true := by
      intro o h e he hb
      have := (Array.all_eq_true_iff_forall_mem.1 h) e he
      rw [hb] at this
      cases this
    have l0 := all 0 o0 (by rw [hops]; rfl) (free lb0)
    have l1 := all 1 o1 (by rw [hops]; rfl) (free lb1)
    have l2 := all 2 o2 (by rw [hops]; rfl) (free lb2)
    have l3 := all 3 o3 (by rw [hops]; rfl) (free lb3)
    have l4 := all 4 o4 (by rw [hops]; rfl) (fun e he hb => by
      have := (Array.all_eq_true_iff_forall_mem.1 lc) e he
      rw [hb] at this
      have hlt : e.on < 4 := by simpa using this
      generalize e.on = k at hlt ⊢
      match k, hlt with
      | 0, _ => exact l0
      | 1, _ => exact l1
      | 2, _ => exact l2
      | 3, _ => exact l3)
    have l5 := all 5 o5 (by rw [hops]; rfl) (fun e he hb => by
      have := (Array.all_eq_true_iff_forall_mem.1 ((Array.all_eq_true_iff_forall_mem.1 la) o5 (by rw [hops]; simp))) e he
      rw [hb] at this
      have hlt : e.on < 5 := by simpa using this
      generalize e.on = k at hlt ⊢
      match k, hlt with
      | 0, _ => exact l0
      | 1, _ => exact l1
      | 2, _ => exact l2
      | 3, _ => exact l3
      | 4, _ => exact l4)
    obtain ⟨a2, b2, c2⟩ := T.v2 l2
    obtain ⟨a3, b3, c3⟩ := T.v3 l3
    rw [l4] at c2
    rw [l5] at c3
    have := hQ qo qp w (T.ne l2 l3) b2 b3 c2 c3 T.k
    have ea : a = (((a0.put (some d0) (aggV (recC r))).put (some d1) (aggV (recC r))).put (some d2) (P0 qo)).put (some d3) (P0 qp) := by
      have e1 : a.tmps = ((((a0.put (some d0) (aggV (recC r))).put (some d1) (aggV (recC r))).put (some d2) (P0 qo)).put (some d3) (P0 qp)).tmps := by
        apply Array.ext_getElem?
        intro t
        by_cases t3 : t = d3
        · subst t3; rw [a3, put_same _ _ _ (by simp [Act.put, s3])]
        · rw [put_other _ _ _ _ (by simp; exact fun h => t3 h.symm)]
          by_cases t2 : t = d2
          · subst t2; rw [a2, put_same _ _ _ (by simp [Act.put, s2])]
          · rw [put_other _ _ _ _ (by simp; exact fun h => t2 h.symm)]
            by_cases t1 : t = d1
            · subst t1; rw [T.v1 l1, put_same _ _ _ (by simp [Act.put, s1])]
            · rw [put_other _ _ _ _ (by simp; exact fun h => t1 h.symm)]
              by_cases t0 : t = d0
              · subst t0; rw [T.v0 l0, put_same _ _ _ s0]
              · rw [put_other _ _ _ _ (by simp; exact fun h => t0 h.symm)]; exact T.out t t0 t1 t2 t3
      have e2 := T.df
      cases a
      simp only [Act.put] at e1 ⊢
      simp only at e2
      rw [e1, e2]
    rw [ea]
    exact this
  · refine ⟨0, 0, { size := by simp [hops], df := rfl, ts := rfl, out := fun _ _ _ _ _ => rfl, v0 := ?_, v1 := ?_, v2 := ?_, v3 := ?_, ne := ?_, n4 := ?_, n5 := ?_, k := hkd }⟩
    all_goals (intro h; simp [hops] at h)
  · refine Nat.le_trans (List.length_filter_le _ _) (by simp)

end Go.Proofs.YtkpkiibahfdomaaDoor
