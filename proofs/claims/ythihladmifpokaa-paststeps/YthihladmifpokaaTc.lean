/-
  The document's SameMarks, Bound, Oldest.
-/
import Derived.Test.YthihladmifpokaaTb
namespace Go.Proofs.Ythihladmifpokaa
set_option maxRecDepth 100000
set_option linter.unusedSimpArgs false
open Go.RowKit


section
variable {ops : Array Oper} {rest : List Oper} {op o : Oper} {a : Act} {w : World} {K : Act → World → Prop} {Q : Exit → Act → World → Prop}
theorem o_idx23S (x y : Operand) (ho : o.op = .indexAddr 23 x y) (ao : Option Addr) (c : Nat) (X : List Int) (j : Nat) (m : Int) (hx : a.eval x = .slice ao X.length c) (hy : a.eval y = .int .i64 j) (hI : RowS intC 1 w ao X) (hm : X[j]? = some m) (h : ∀ ad, w.cell? ad = some (.int .i64 m) → K (a.put o.dst (.pointer (some ad))) w) : o.wp Try.prog a w K Q := by
  obtain ⟨g, off, rfl, hc⟩ := hI j m hm
  have hj := (List.getElem?_eq_some_iff.1 hm).1
  have hjI : (j : Int) < X.length := by omega
  unfold Oper.wp execOp
  simp only [ho, hx, hy]
  simp [go_sem, hjI]
  exact h _ (by have h9 := hc 0 _ rfl; simpa using h9)
theorem wpIdx23S (hgd : op.guard = none) (x y : Operand) (ho : op.op = .indexAddr 23 x y) (ao : Option Addr) (c : Nat) (X : List Int) (j : Nat) (m : Int) (hx : a.eval x = .slice ao X.length c) (hy : a.eval y = .int .i64 j) (hI : RowS intC 1 w ao X) (hm : X[j]? = some m) (h : ∀ ad, w.cell? ad = some (.int .i64 m) → wpList Try.prog ops Q rest (a.put op.dst (.pointer (some ad))) w) : wpList Try.prog ops Q (op :: rest) a w :=
  wpList_plain hgd fun _ hK => o_idx23S x y ho ao c X j m hx hy hI hm (fun ad hp => hK _ _ (h ad hp))
end
variable {w W W' : World} {r : Nat} {v u : Value} {L D E : List Mk} {n : Int}
theorem range_kept {W W' : World} {X : List Nat} {g o : Nat} {vs : List Value} (h : W.rangeAt g o vs) (hk : Kept X W W') (hX : g ∉ X) : W'.rangeAt g o vs := fun j v hj => hk.cell (h j v hj) hX
theorem take_eq {D E : List Mk} {k : Nat} {x y : Mk} (h : D.take k = E.take k) (hx : D[k]? = some x) (hy : E[k]? = some y) (he : x = y) : D.take (k + 1) = E.take (k + 1) := by
  rw [List.take_add_one, List.take_add_one, h, hx, hy, he]
set_option maxHeartbeats 4000000 in
theorem rsame12 (h1 : Ms w v D) (h2 : Ms w u E) (hm : D.length ≤ 256) : Calls Try.prog 12 #[v, u] w fun e W => e = .returned (.bool (decide (D = E))) ∧ Kept [] w W := by
  obtain ⟨ao, cc, rfl, -, -⟩ := h1.sl
  obtain ⟨bo, cd, rfl, -, -⟩ := h2.sl
  have H1 := hide h1
  have H2 := hide h2
  clear h1 h2
  by_cases hl : D.length = E.length
  · have d1 : ((D.length : Int) != (E.length : Int)) = false := by simp [hl]
    have d2 : decide ((D.length : Int) = (E.length : Int)) = true := by simp [hl]
    go_enter Try.func12, Try.ntmps12
    go_wp2_with fail
    go_loopw [5] (fun xi wr => ∃ k : Nat, k ≤ D.length ∧ xi = .int .i64 k ∧ D.take k = E.take k ∧ Hid (Kept [] w wr)) (fun xi _ => D.length - (intOf xi).toNat)
    case atStart => exact ⟨0, by omega, rfl, rfl, Kept.refl _ _⟩
    case round =>
      obtain ⟨k, hk, rfl, ht, HK⟩ := hrel
      by_cases hkl : k < D.length
      · have hd : decide ((k : Int) < (D.length : Int)) = true := by simp; omega
        have hkE : k < E.length := by omega
        obtain ⟨x, hx⟩ : ∃ x, D[k]? = some x := ⟨_, List.getElem?_eq_getElem hkl⟩
        obtain ⟨y, hy⟩ : ∃ y, E[k]? = some y := ⟨_, List.getElem?_eq_getElem hkE⟩
        obtain ⟨g, off, c1, hv1, hr1⟩ := Ms.get (unhide H1) hx
        obtain ⟨q, oft, c2, hv2, hr2⟩ := Ms.get (unhide H2) hy
        obtain rfl : ao = some ⟨g, off, none⟩ := by injection hv1
        obtain rfl : bo = some ⟨q, oft, none⟩ := by injection hv2
        obtain rfl : cc = c1 := by injection hv1
        obtain rfl : cd = c2 := by injection hv2
        have HR1 := hide (range_kept hr1 (unhide HK) (by simp))
        have HR2 := hide (range_kept hr2 (unhide HK) (by simp))
        have HE : Hid (∀ W, (Op.equal 54 (aggV x.C) (aggV y.C)).run Try.prog W = .ok (decide (x = y)) W) := fun W => equal54 W x y
        have HT := hide ht
        have HXK := hide hx
        have HYK := hide hy
        clear hv1 hv2 hr1 hr2 hx hy ht
        by_cases e : x = y
        · rw [show decide (x = y) = true by simpa using e] at HE
          have HE2 := hide e
          clear e
          go_upto_region 6 with fail
          refine wp_region_any mixed (wpAny_tq 9 rfl (by kernel_rfl) [some (.slice (some ⟨g, off, none⟩) D.length cc), some (.int .i64 k), some (.pointer (some ⟨g, off + k * 3, none⟩)), some (aggV x.C), some (.slice (some ⟨q, oft, none⟩) E.length cd), some (.int .i64 k), some (.pointer (some ⟨q, oft + k * 3, none⟩)), some (aggV y.C), some (.bool false)] rfl (by kernel_rfl) (by kernel_rfl) ?_ ?_)
          · intro i o' hi hsk ho a' w2 hout hin hk2
            replace hk2 : Kept [] wr w2 := ⟨hk2.os, hk2.tape, hk2.output, hk2.size, hk2.block⟩
            match i, ho, hsk with
            | 0, ho, hsk =>
              obtain rfl := Option.some.inj ho
              exact wp_move (.tmp 0) rfl _ ((hout 0 (by kernel_rfl)).trans rfl) ⟨_, rfl, tq_is _ _ _ _ rfl, Kept.refl _ _, fun _ _ _ _ _ => trivial⟩
            | 1, ho, hsk =>
              obtain rfl := Option.some.inj ho
              exact wp_move (.tmp 5) rfl _ ((hout 5 (by kernel_rfl)).trans rfl) ⟨_, rfl, tq_is _ _ _ _ rfl, Kept.refl _ _, fun _ _ _ _ _ => trivial⟩
            | 2, ho, hsk =>
              obtain rfl := Option.some.inj ho
              have e0 : a'.eval (.tmp 17) = .slice (some ⟨g, off, none⟩) D.length cc := is_tq (hin 0 17 (by kernel_rfl) (by kernel_rfl)) rfl
              have e1 : a'.eval (.tmp 18) = .int .i64 k := is_tq (hin 1 18 (by kernel_rfl) (by kernel_rfl)) rfl
              exact o_idx28 (.tmp 17) (.tmp 18) rfl g off D.length cc k (by omega) e0 e1 ⟨_, rfl, tq_is _ _ _ _ rfl, Kept.refl _ _, fun _ _ _ _ _ => trivial⟩
            | 3, ho, hsk =>
              obtain rfl := Option.some.inj ho
              have e0 : a'.eval (.tmp 19) = .pointer (some ⟨g, off + k * 3, none⟩) := is_tq (hin 2 19 (by kernel_rfl) (by kernel_rfl)) rfl
              exact wp_loadA row54 (.tmp 19) rfl g (off + k * 3) e0 (x.C) (rfl) (range_kept (unhide HR1) hk2 (by simp)) ⟨_, rfl, tq_is _ _ _ _ rfl, Kept.refl _ _, fun _ _ _ _ _ => trivial⟩
            | 4, ho, hsk =>
              obtain rfl := Option.some.inj ho
              exact wp_move (.tmp 1) rfl _ ((hout 1 (by kernel_rfl)).trans rfl) ⟨_, rfl, tq_is _ _ _ _ rfl, Kept.refl _ _, fun _ _ _ _ _ => trivial⟩
            | 5, ho, hsk =>
              obtain rfl := Option.some.inj ho
              exact wp_move (.tmp 5) rfl _ ((hout 5 (by kernel_rfl)).trans rfl) ⟨_, rfl, tq_is _ _ _ _ rfl, Kept.refl _ _, fun _ _ _ _ _ => trivial⟩
            | 6, ho, hsk =>
              obtain rfl := Option.some.inj ho
              have e0 : a'.eval (.tmp 21) = .slice (some ⟨q, oft, none⟩) E.length cd := is_tq (hin 4 21 (by kernel_rfl) (by kernel_rfl)) rfl
              have e1 : a'.eval (.tmp 22) = .int .i64 k := is_tq (hin 5 22 (by kernel_rfl) (by kernel_rfl)) rfl
              exact o_idx28 (.tmp 21) (.tmp 22) rfl q oft E.length cd k (by omega) e0 e1 ⟨_, rfl, tq_is _ _ _ _ rfl, Kept.refl _ _, fun _ _ _ _ _ => trivial⟩
            | 7, ho, hsk =>
              obtain rfl := Option.some.inj ho
              have e0 : a'.eval (.tmp 23) = .pointer (some ⟨q, oft + k * 3, none⟩) := is_tq (hin 6 23 (by kernel_rfl) (by kernel_rfl)) rfl
              exact wp_loadA row54 (.tmp 23) rfl q (oft + k * 3) e0 (y.C) (rfl) (range_kept (unhide HR2) hk2 (by simp)) ⟨_, rfl, tq_is _ _ _ _ rfl, Kept.refl _ _, fun _ _ _ _ _ => trivial⟩
            | 8, ho, hsk =>
              obtain rfl := Option.some.inj ho
              have e0 : a'.eval (.tmp 20) = aggV x.C := is_tq (hin 3 20 (by kernel_rfl) (by kernel_rfl)) rfl
              have e1 : a'.eval (.tmp 24) = aggV y.C := is_tq (hin 7 24 (by kernel_rfl) (by kernel_rfl)) rfl
              exact o_neqA 54 54 guard54 (.tmp 20) (.tmp 24) rfl (x.C) (y.C) e0 e1 (true) (unhide HE _) ⟨_, rfl, tq_is _ _ _ _ rfl, Kept.refl _ _, fun _ _ _ _ _ => trivial⟩
          intro w9 hk9
          replace hk9 : Kept [] wr w9 := ⟨hk9.os, hk9.tape, hk9.output, hk9.size, hk9.block⟩
          simp only [valsQ, List.map_cons, List.map_nil, Option.getD_some, List.take_succ_cons, List.take_zero, putAll, Act.put, List.setIfInBounds_toArray, List.set_cons_succ, List.set_cons_zero]
          refine wpAny_done (by kernel_rfl) ?_ _
          replace HK := hide ((unhide HK).trans hk9)
          go_wp2_with fail
          go_roundw
          case rel => exact ⟨k + 1, by omega, by go_num, take_eq (unhide HT) (unhide HXK) (unhide HYK) (unhide HE2), HK⟩
          case measure => simp [intOf]; omega
        · rw [show decide (x = y) = false by simpa using e] at HE
          have HE2 : Hid (decide (D = E) = false) := by
            show _ = _
            rw [decide_eq_false_iff_not]
            intro h
            subst h
            have h8 := unhide HXK
            have h9 := unhide HYK
            rw [h8] at h9
            exact e (Option.some.inj h9)
          clear e
          go_upto_region 6 with fail
          refine wp_region_any mixed (wpAny_tq 9 rfl (by kernel_rfl) [some (.slice (some ⟨g, off, none⟩) D.length cc), some (.int .i64 k), some (.pointer (some ⟨g, off + k * 3, none⟩)), some (aggV x.C), some (.slice (some ⟨q, oft, none⟩) E.length cd), some (.int .i64 k), some (.pointer (some ⟨q, oft + k * 3, none⟩)), some (aggV y.C), some (.bool true)] rfl (by kernel_rfl) (by kernel_rfl) ?_ ?_)
          · intro i o' hi hsk ho a' w2 hout hin hk2
            replace hk2 : Kept [] wr w2 := ⟨hk2.os, hk2.tape, hk2.output, hk2.size, hk2.block⟩
            match i, ho, hsk with
            | 0, ho, hsk =>
              obtain rfl := Option.some.inj ho
              exact wp_move (.tmp 0) rfl _ ((hout 0 (by kernel_rfl)).trans rfl) ⟨_, rfl, tq_is _ _ _ _ rfl, Kept.refl _ _, fun _ _ _ _ _ => trivial⟩
            | 1, ho, hsk =>
              obtain rfl := Option.some.inj ho
              exact wp_move (.tmp 5) rfl _ ((hout 5 (by kernel_rfl)).trans rfl) ⟨_, rfl, tq_is _ _ _ _ rfl, Kept.refl _ _, fun _ _ _ _ _ => trivial⟩
            | 2, ho, hsk =>
              obtain rfl := Option.some.inj ho
              have e0 : a'.eval (.tmp 17) = .slice (some ⟨g, off, none⟩) D.length cc := is_tq (hin 0 17 (by kernel_rfl) (by kernel_rfl)) rfl
              have e1 : a'.eval (.tmp 18) = .int .i64 k := is_tq (hin 1 18 (by kernel_rfl) (by kernel_rfl)) rfl
              exact o_idx28 (.tmp 17) (.tmp 18) rfl g off D.length cc k (by omega) e0 e1 ⟨_, rfl, tq_is _ _ _ _ rfl, Kept.refl _ _, fun _ _ _ _ _ => trivial⟩
            | 3, ho, hsk =>
              obtain rfl := Option.some.inj ho
              have e0 : a'.eval (.tmp 19) = .pointer (some ⟨g, off + k * 3, none⟩) := is_tq (hin 2 19 (by kernel_rfl) (by kernel_rfl)) rfl
              exact wp_loadA row54 (.tmp 19) rfl g (off + k * 3) e0 (x.C) (rfl) (range_kept (unhide HR1) hk2 (by simp)) ⟨_, rfl, tq_is _ _ _ _ rfl, Kept.refl _ _, fun _ _ _ _ _ => trivial⟩
            | 4, ho, hsk =>
              obtain rfl := Option.some.inj ho
              exact wp_move (.tmp 1) rfl _ ((hout 1 (by kernel_rfl)).trans rfl) ⟨_, rfl, tq_is _ _ _ _ rfl, Kept.refl _ _, fun _ _ _ _ _ => trivial⟩
            | 5, ho, hsk =>
              obtain rfl := Option.some.inj ho
              exact wp_move (.tmp 5) rfl _ ((hout 5 (by kernel_rfl)).trans rfl) ⟨_, rfl, tq_is _ _ _ _ rfl, Kept.refl _ _, fun _ _ _ _ _ => trivial⟩
            | 6, ho, hsk =>
              obtain rfl := Option.some.inj ho
              have e0 : a'.eval (.tmp 21) = .slice (some ⟨q, oft, none⟩) E.length cd := is_tq (hin 4 21 (by kernel_rfl) (by kernel_rfl)) rfl
              have e1 : a'.eval (.tmp 22) = .int .i64 k := is_tq (hin 5 22 (by kernel_rfl) (by kernel_rfl)) rfl
              exact o_idx28 (.tmp 21) (.tmp 22) rfl q oft E.length cd k (by omega) e0 e1 ⟨_, rfl, tq_is _ _ _ _ rfl, Kept.refl _ _, fun _ _ _ _ _ => trivial⟩
            | 7, ho, hsk =>
              obtain rfl := Option.some.inj ho
              have e0 : a'.eval (.tmp 23) = .pointer (some ⟨q, oft + k * 3, none⟩) := is_tq (hin 6 23 (by kernel_rfl) (by kernel_rfl)) rfl
              exact wp_loadA row54 (.tmp 23) rfl q (oft + k * 3) e0 (y.C) (rfl) (range_kept (unhide HR2) hk2 (by simp)) ⟨_, rfl, tq_is _ _ _ _ rfl, Kept.refl _ _, fun _ _ _ _ _ => trivial⟩
            | 8, ho, hsk =>
              obtain rfl := Option.some.inj ho
              have e0 : a'.eval (.tmp 20) = aggV x.C := is_tq (hin 3 20 (by kernel_rfl) (by kernel_rfl)) rfl
              have e1 : a'.eval (.tmp 24) = aggV y.C := is_tq (hin 7 24 (by kernel_rfl) (by kernel_rfl)) rfl
              exact o_neqA 54 54 guard54 (.tmp 20) (.tmp 24) rfl (x.C) (y.C) e0 e1 (false) (unhide HE _) ⟨_, rfl, tq_is _ _ _ _ rfl, Kept.refl _ _, fun _ _ _ _ _ => trivial⟩
          intro w9 hk9
          replace hk9 : Kept [] wr w9 := ⟨hk9.os, hk9.tape, hk9.output, hk9.size, hk9.block⟩
          simp only [valsQ, List.map_cons, List.map_nil, Option.getD_some, List.take_succ_cons, List.take_zero, putAll, Act.put, List.setIfInBounds_toArray, List.set_cons_succ, List.set_cons_zero]
          refine wpAny_done (by kernel_rfl) ?_ _
          replace HK := hide ((unhide HK).trans hk9)
          go_wp2_with fail
          go_ret
          exact ⟨by rw [unhide HE2]; rfl, unhide HK⟩
      · obtain rfl : k = D.length := by omega
        have hd : decide ((D.length : Int) < (D.length : Int)) = false := by simp
        have HE2 : Hid (decide (D = E) = true) := by
          show _ = _
          rw [decide_eq_true_iff]
          rw [List.take_length, hl, List.take_length] at ht
          exact ht
        go_wp2_with fail
        go_ret
        exact ⟨by rw [unhide HE2]; rfl, unhide HK⟩
  · have d1 : ((D.length : Int) != (E.length : Int)) = true := by simp; omega
    have d2 : decide ((D.length : Int) = (E.length : Int)) = false := by simp; omega
    have HE2 : Hid (decide (D = E) = false) := by
      show _ = _
      rw [decide_eq_false_iff_not]
      intro h
      exact hl (by rw [h])
    go_enter Try.func12, Try.ntmps12
    go_wp2_with fail
    go_ret
    exact ⟨by rw [unhide HE2]; rfl, Kept.refl _ _⟩

end Go.Proofs.Ythihladmifpokaa
