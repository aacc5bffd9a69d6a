/-
  The document's Mark: the walk.
-/
import Derived.Test.YthihladmifpokaaTe
namespace Go.Proofs.Ythihladmifpokaa
set_option maxRecDepth 100000
set_option linter.unusedSimpArgs false
open Go.RowKit


variable {w W W' : World} {r : Nat} {v : Value} {L : List Mk} {p s f : Int}
theorem build54 (p s f : Int) (W : World) : (Instr.build 54 #[(0, .int .i64 p), (1, .int .i64 s), (2, .int .i64 f)]).run Try.prog W = .ok (aggV (⟨p, s, f⟩ : Mk).C) W := by kernel_rfl
theorem okM_no (h : okM p s f = false) : p < 0 ∨ (0 ≤ p ∧ p ≥ 16) ∨ (0 ≤ p ∧ p < 16 ∧ s < 1) ∨ (0 ≤ p ∧ p < 16 ∧ 1 ≤ s ∧ s > 2147483647) ∨ (0 ≤ p ∧ p < 16 ∧ 1 ≤ s ∧ s ≤ 2147483647 ∧ f < 1) ∨ (0 ≤ p ∧ p < 16 ∧ 1 ≤ s ∧ s ≤ 2147483647 ∧ 1 ≤ f ∧ f > 2147483647) := by
  rw [Bool.eq_false_iff] at h
  have h2 : ¬ ((0 ≤ p ∧ p < 16) ∧ (1 ≤ s ∧ s ≤ 2147483647) ∧ (1 ≤ f ∧ f ≤ 2147483647)) := fun e => h (by simp [okM, isPg, isSt]; omega)
  omega
theorem okM_yes (h : okM p s f = true) : (0 ≤ p ∧ p < 16) ∧ (1 ≤ s ∧ s ≤ 2147483647) ∧ (1 ≤ f ∧ f ≤ 2147483647) := by
  simp [okM, isPg, isSt] at h
  omega
theorem less41b {b : Bool} (x y : Mk) (w : World) (h : lessB x y = b) : Calls Try.prog 41 #[aggV x.C, aggV y.C] w fun e W => e = .returned (.bool b) ∧ Kept [] w W := by
  have h1 := less41 x y w
  rw [h] at h1
  exact h1
theorem rmark21_bad (r : Nat) (w : World) (h : okM p s f = false) : Calls Try.prog 21 #[P0 r, .int .i64 p, .int .i64 s, .int .i64 f] w fun e W => e = .returned (.int .i64 2) ∧ W = w := by
  rcases okM_no h with h1 | h1 | h1 | h1 | h1 | h1
  · have d0 : decide (p < 0) = true := by simp; omega
    clear h h1
    go_enter Try.func21, Try.ntmps21
    go_wp2_with fail
    go_ret
    exact ⟨rfl, rfl⟩
  · have d0 : decide (p < 0) = false := by simp; omega
    have d1 : decide (p ≥ 16) = true := by simp; omega
    clear h h1
    go_enter Try.func21, Try.ntmps21
    go_wp2_with fail
    go_ret
    exact ⟨rfl, rfl⟩
  · have d0 : decide (p < 0) = false := by simp; omega
    have d1 : decide (p ≥ 16) = false := by simp; omega
    have d2 : decide (s < 1) = true := by simp; omega
    clear h h1
    go_enter Try.func21, Try.ntmps21
    go_wp2_with fail
    go_ret
    exact ⟨rfl, rfl⟩
  · have d0 : decide (p < 0) = false := by simp; omega
    have d1 : decide (p ≥ 16) = false := by simp; omega
    have d2 : decide (s < 1) = false := by simp; omega
    have d3 : decide (s > 2147483647) = true := by simp; omega
    clear h h1
    go_enter Try.func21, Try.ntmps21
    go_wp2_with fail
    go_ret
    exact ⟨rfl, rfl⟩
  · have d0 : decide (p < 0) = false := by simp; omega
    have d1 : decide (p ≥ 16) = false := by simp; omega
    have d2 : decide (s < 1) = false := by simp; omega
    have d3 : decide (s > 2147483647) = false := by simp; omega
    have d4 : decide (f < 1) = true := by simp; omega
    clear h h1
    go_enter Try.func21, Try.ntmps21
    go_wp2_with fail
    go_ret
    exact ⟨rfl, rfl⟩
  · have d0 : decide (p < 0) = false := by simp; omega
    have d1 : decide (p ≥ 16) = false := by simp; omega
    have d2 : decide (s < 1) = false := by simp; omega
    have d3 : decide (s > 2147483647) = false := by simp; omega
    have d4 : decide (f < 1) = false := by simp; omega
    have d5 : decide (f > 2147483647) = true := by simp; omega
    clear h h1
    go_enter Try.func21, Try.ntmps21
    go_wp2_with fail
    go_ret
    exact ⟨rfl, rfl⟩
set_option maxHeartbeats 16000000 in
theorem rmark21_ok (h : Rp w r v L) (hok : okM p s f = true) : Calls Try.prog 21 #[P0 r, .int .i64 p, .int .i64 s, .int .i64 f] w fun e W => e = .returned (.int .i64 (rmarkP p s f L).1) ∧ (∃ u, Rp W r u (rmarkP p s f L).2 ∧ ∀ i, u.ownBlock = some i → v.ownBlock = some i ∨ w.heap.size ≤ i) ∧ Kept (r :: v.ownBlock.toList) w W := by
  obtain ⟨ao, cc, rfl, hlc, hno⟩ := h.row.sl
  have HLC := hide hlc
  have HNO := hide hno
  have hmany := h.many
  have HR := hide h
  have HLT : Hid (r < w.heap.size) := hide h.blk.lt
  have HLO : Hid (∀ i, (Value.slice ao L.length cc).ownBlock = some i → i < w.heap.size) := fun i hi => h.row.lt hi
  obtain ⟨x, hx⟩ : ∃ x : Mk, x = ⟨p, s, f⟩ := ⟨_, rfl⟩
  have HX := hide hx
  have hy := okM_yes hok
  have HRM1 : Hid (rmarkP p s f L = match L[posM x L]? with
    | some z => if z.p = p ∧ z.s = s then (0, L.set (posM x L) ⟨z.p, z.s, min z.f f⟩) else rputM x L
    | none => rputM x L) := by show _ = _; unfold rmarkP; rw [if_pos hok, hx]; rfl
  have d0 : decide (p < 0) = false := by simp; omega
  have d1 : decide (p ≥ 16) = false := by simp; omega
  have d2 : decide (s < 1) = false := by simp; omega
  have d3 : decide (s > 2147483647) = false := by simp; omega
  have d4 : decide (f < 1) = false := by simp; omega
  have d5 : decide (f > 2147483647) = false := by simp; omega
  clear h hok hx hy hlc hno
  go_enter Try.func21, Try.ntmps21
  go_wp2_with (
    first
    | (refine wpNew row54 mk0.C rfl zero54 9 rfl rfl rfl (.tmp 38) rfl rfl rfl x.C rfl x.one rfl (by rw [unhide HX]; rfl) ?_
       intro W1 y e2 B2 h3
       have HY := hide B2
       have HGY : Hid (w.heap.size ≤ y) := by show _ ≤ _; omega
       replace HR := hide ((unhide HR).step0 h3)
       have HK := hide h3
       clear e2 B2 h3
       refine Stp.go ?_))
  constructor
  go_upto_block 0 with fail
  clear d0 d1 d2 d3 d4 d5
  go_cut [10] from 39 to 58 (fun xk wc => xk = .int .i64 (posM x L) ∧ Hid (Kept [] w wc) ∧ Hid (Rp wc r (.slice ao L.length cc) L) ∧ Hid (Blk wc y 54 x.C))
  case first =>
    go_wp2_with fail
    go_loopw [10] (fun xk wr => ∃ k : Nat, k ≤ posM x L ∧ xk = .int .i64 k ∧ Hid (Kept [] w wr) ∧ Hid (Rp wr r (.slice ao L.length cc) L) ∧ Hid (Blk wr y 54 x.C)) (fun xk _ => L.length - (intOf xk).toNat)
    case atStart => exact ⟨0, by omega, rfl, HK, HR, HY⟩
    case round =>
      clear HK HR HY
      obtain ⟨k, hk, rfl, HK, HR, HY⟩ := hrel
      have hpl := posM_le x L
      by_cases hkl : k < L.length
      · obtain ⟨m, hm⟩ : ∃ m, L[k]? = some m := ⟨_, List.getElem?_eq_getElem hkl⟩
        obtain ⟨g, off, c1, hv1, hr1⟩ := (unhide HR).at hkl
        obtain rfl : ao = some ⟨g, off, none⟩ := by injection hv1
        obtain rfl : cc = c1 := by injection hv1
        have HRM := hide (hr1 k m hm)
        clear hv1 hr1
        by_cases hkp : k < posM x L
        · have HLS : Hid (lessB m x = true) := posM_lt hkp hm
          clear hm
          go_upto_region 7 with fail
          refine wp_region_any mixed (wpAny_tq 18 rfl (by kernel_rfl) [some (.int .i64 k), some (P0 r), some (P0 r), some (P0 r), some (.slice (some ⟨g, off, none⟩) L.length cc), some (.int .i64 L.length), some (.bool true), some (.bool true), some (P0 r), some (P0 r), some (P0 r), some (.slice (some ⟨g, off, none⟩) L.length cc), some (.int .i64 k), some (.pointer (some ⟨g, off + k * 3, none⟩)), some (aggV m.C), some (aggV x.C), some (.bool true), some (.bool true)] rfl (by kernel_rfl) (by kernel_rfl) ?_ ?_)
          · intro i o' hi hsk ho a' w2 hout hin hk2
            replace hk2 : Kept [] wr w2 := ⟨hk2.os, hk2.tape, hk2.output, hk2.size, hk2.block⟩
            match i, ho, hsk with
            | 0, ho, hsk =>
              obtain rfl := Option.some.inj ho
              exact wp_move (.tmp 10) rfl _ ((hout 10 (by kernel_rfl)).trans rfl) ⟨_, rfl, tq_is _ _ _ _ rfl, Kept.refl _ _, fun _ _ _ _ _ => trivial⟩
            | 1, ho, hsk =>
              obtain rfl := Option.some.inj ho
              exact wp_move (.tmp 0) rfl _ ((hout 0 (by kernel_rfl)).trans rfl) ⟨_, rfl, tq_is _ _ _ _ rfl, Kept.refl _ _, fun _ _ _ _ _ => trivial⟩
            | 2, ho, hsk =>
              obtain rfl := Option.some.inj ho
              have e0 : a'.eval (.tmp 40) = P0 r := is_tq (hin 1 40 (by kernel_rfl) (by kernel_rfl)) rfl
              exact o_nil (.tmp 40) rfl _ e0 ⟨_, rfl, tq_is _ _ _ _ rfl, Kept.refl _ _, fun _ _ _ _ _ => trivial⟩
            | 3, ho, hsk =>
              obtain rfl := Option.some.inj ho
              have e0 : a'.eval (.tmp 41) = P0 r := is_tq (hin 2 41 (by kernel_rfl) (by kernel_rfl)) rfl
              exact o_fld30_0 (.tmp 41) rfl r (0) (0) rfl e0 ⟨_, rfl, tq_is _ _ _ _ rfl, Kept.refl _ _, fun _ _ _ _ _ => trivial⟩
            | 4, ho, hsk =>
              obtain rfl := Option.some.inj ho
              have e0 : a'.eval (.tmp 42) = P0 r := is_tq (hin 3 42 (by kernel_rfl) (by kernel_rfl)) rfl
              exact o_load28 (.tmp 42) rfl _ _ e0 (fits_cell ((unhide HR).blk.kept hk2 (by simp)) 0 _ rfl) ⟨_, rfl, tq_is _ _ _ _ rfl, Kept.refl _ _, fun _ _ _ _ _ => trivial⟩
            | 5, ho, hsk =>
              obtain rfl := Option.some.inj ho
              have e0 : a'.eval (.tmp 43) = .slice (some ⟨g, off, none⟩) L.length cc := is_tq (hin 4 43 (by kernel_rfl) (by kernel_rfl)) rfl
              exact o_len28 (.tmp 43) rfl _ _ _ e0 ⟨_, rfl, tq_is _ _ _ _ rfl, Kept.refl _ _, fun _ _ _ _ _ => trivial⟩
            | 6, ho, hsk =>
              obtain rfl := Option.some.inj ho
              have e0 : a'.eval (.tmp 39) = .int .i64 k := is_tq (hin 0 39 (by kernel_rfl) (by kernel_rfl)) rfl
              have e1 : a'.eval (.tmp 44) = .int .i64 L.length := is_tq (hin 5 44 (by kernel_rfl) (by kernel_rfl)) rfl
              exact c_lss3 (.tmp 39) (.tmp 44) rfl _ _ (true) (by simp; omega) e0 e1 ⟨_, rfl, tq_is _ _ _ _ rfl, Kept.refl _ _, fun _ _ _ _ _ => trivial⟩
            | 7, ho, hsk =>
              obtain rfl := Option.some.inj ho
              have e0 : a'.eval (.tmp 45) = .bool true := is_tq (hin 6 45 (by kernel_rfl) (by kernel_rfl)) rfl
              exact wp_move (.tmp 45) rfl _ e0 ⟨_, rfl, tq_is _ _ _ _ rfl, Kept.refl _ _, fun _ _ _ _ _ => trivial⟩
            | 8, ho, hsk =>
              obtain rfl := Option.some.inj ho
              exact wp_move (.tmp 0) rfl _ ((hout 0 (by kernel_rfl)).trans rfl) ⟨_, rfl, tq_is _ _ _ _ rfl, Kept.refl _ _, fun _ _ _ _ _ => trivial⟩
            | 9, ho, hsk =>
              obtain rfl := Option.some.inj ho
              have e0 : a'.eval (.tmp 47) = P0 r := is_tq (hin 8 47 (by kernel_rfl) (by kernel_rfl)) rfl
              exact o_nil (.tmp 47) rfl _ e0 ⟨_, rfl, tq_is _ _ _ _ rfl, Kept.refl _ _, fun _ _ _ _ _ => trivial⟩
            | 10, ho, hsk =>
              obtain rfl := Option.some.inj ho
              have e0 : a'.eval (.tmp 48) = P0 r := is_tq (hin 9 48 (by kernel_rfl) (by kernel_rfl)) rfl
              exact o_fld30_0 (.tmp 48) rfl r (0) (0) rfl e0 ⟨_, rfl, tq_is _ _ _ _ rfl, Kept.refl _ _, fun _ _ _ _ _ => trivial⟩
            | 11, ho, hsk =>
              obtain rfl := Option.some.inj ho
              have e0 : a'.eval (.tmp 49) = P0 r := is_tq (hin 10 49 (by kernel_rfl) (by kernel_rfl)) rfl
              exact o_load28 (.tmp 49) rfl _ _ e0 (fits_cell ((unhide HR).blk.kept hk2 (by simp)) 0 _ rfl) ⟨_, rfl, tq_is _ _ _ _ rfl, Kept.refl _ _, fun _ _ _ _ _ => trivial⟩
            | 12, ho, hsk =>
              obtain rfl := Option.some.inj ho
              exact wp_move (.tmp 10) rfl _ ((hout 10 (by kernel_rfl)).trans rfl) ⟨_, rfl, tq_is _ _ _ _ rfl, Kept.refl _ _, fun _ _ _ _ _ => trivial⟩
            | 13, ho, hsk =>
              obtain rfl := Option.some.inj ho
              have e0 : a'.eval (.tmp 50) = .slice (some ⟨g, off, none⟩) L.length cc := is_tq (hin 11 50 (by kernel_rfl) (by kernel_rfl)) rfl
              have e1 : a'.eval (.tmp 51) = .int .i64 k := is_tq (hin 12 51 (by kernel_rfl) (by kernel_rfl)) rfl
              exact o_idx28 (.tmp 50) (.tmp 51) rfl g off L.length cc k (by omega) e0 e1 ⟨_, rfl, tq_is _ _ _ _ rfl, Kept.refl _ _, fun _ _ _ _ _ => trivial⟩
            | 14, ho, hsk =>
              obtain rfl := Option.some.inj ho
              have e0 : a'.eval (.tmp 52) = .pointer (some ⟨g, off + k * 3, none⟩) := is_tq (hin 13 52 (by kernel_rfl) (by kernel_rfl)) rfl
              exact wp_loadA row54 (.tmp 52) rfl g (off + k * 3) e0 (m.C) (rfl) (range_kept (unhide HRM) hk2 (by simp)) ⟨_, rfl, tq_is _ _ _ _ rfl, Kept.refl _ _, fun _ _ _ _ _ => trivial⟩
            | 15, ho, hsk =>
              obtain rfl := Option.some.inj ho
              exact wp_loadA row54 (.tmp 9) rfl y (0) ((hout 9 (by kernel_rfl)).trans rfl) (x.C) (rfl) (((unhide HY).kept hk2 (by simp)).range) ⟨_, rfl, tq_is _ _ _ _ rfl, Kept.refl _ _, fun _ _ _ _ _ => trivial⟩
            | 16, ho, hsk =>
              obtain rfl := Option.some.inj ho
              have e0 : a'.eval (.tmp 53) = aggV m.C := is_tq (hin 14 53 (by kernel_rfl) (by kernel_rfl)) rfl
              have e1 : a'.eval (.tmp 54) = aggV x.C := is_tq (hin 15 54 (by kernel_rfl) (by kernel_rfl)) rfl
              refine wp_callF 41 _ _ rfl #[aggV m.C, aggV x.C] (by simp [e0, e1]) (cg41 _ _) ((less41b m x _ (unhide HLS)).mono ?_)
              rintro e w3 ⟨rfl, hk3⟩
              exact ⟨_, rfl, _, rfl, tq_is _ _ _ _ rfl, hk3, fun _ _ _ _ _ => trivial⟩
            | 17, ho, hsk =>
              obtain rfl := Option.some.inj ho
              have e0 : a'.eval (.tmp 46) = .bool true := is_tq (hin 7 46 (by kernel_rfl) (by kernel_rfl)) rfl
              have e1 : a'.eval (.tmp 55) = .bool true := is_tq (hin 16 55 (by kernel_rfl) (by kernel_rfl)) rfl
              exact o_pick (.tmp 46) (.tmp 55) rfl _ e0 e1 ⟨_, rfl, tq_is _ _ _ _ rfl, Kept.refl _ _, fun _ _ _ _ _ => trivial⟩
          intro w9 hk9
          replace hk9 : Kept [] wr w9 := ⟨hk9.os, hk9.tape, hk9.output, hk9.size, hk9.block⟩
          simp only [valsQ, List.map_cons, List.map_nil, Option.getD_some, List.take_succ_cons, List.take_zero, putAll, Act.put, List.setIfInBounds_toArray, List.set_cons_succ, List.set_cons_zero]
          refine wpAny_done (by kernel_rfl) ?_ _
          replace HR := hide ((unhide HR).step0 hk9)
          replace HY := hide ((unhide HY).kept hk9 (by simp))
          replace HK := hide ((unhide HK).trans hk9)
          go_wp2_with fail
          go_roundw
          case rel => exact ⟨k + 1, by omega, by go_num, HK, HR, HY⟩
          case measure => simp [intOf]; omega
        · have hkE : posM x L = k := by omega
          have HKE := hide hkE
          have HLS : Hid (lessB m x = false) := posM_at (L := L) (by rw [hkE]; exact hm)
          clear hm
          go_upto_region 7 with fail
          refine wp_region_any mixed (wpAny_tq 18 rfl (by kernel_rfl) [some (.int .i64 k), some (P0 r), some (P0 r), some (P0 r), some (.slice (some ⟨g, off, none⟩) L.length cc), some (.int .i64 L.length), some (.bool true), some (.bool true), some (P0 r), some (P0 r), some (P0 r), some (.slice (some ⟨g, off, none⟩) L.length cc), some (.int .i64 k), some (.pointer (some ⟨g, off + k * 3, none⟩)), some (aggV m.C), some (aggV x.C), some (.bool false), some (.bool false)] rfl (by kernel_rfl) (by kernel_rfl) ?_ ?_)
          · intro i o' hi hsk ho a' w2 hout hin hk2
            replace hk2 : Kept [] wr w2 := ⟨hk2.os, hk2.tape, hk2.output, hk2.size, hk2.block⟩
            match i, ho, hsk with
            | 0, ho, hsk =>
              obtain rfl := Option.some.inj ho
              exact wp_move (.tmp 10) rfl _ ((hout 10 (by kernel_rfl)).trans rfl) ⟨_, rfl, tq_is _ _ _ _ rfl, Kept.refl _ _, fun _ _ _ _ _ => trivial⟩
            | 1, ho, hsk =>
              obtain rfl := Option.some.inj ho
              exact wp_move (.tmp 0) rfl _ ((hout 0 (by kernel_rfl)).trans rfl) ⟨_, rfl, tq_is _ _ _ _ rfl, Kept.refl _ _, fun _ _ _ _ _ => trivial⟩
            | 2, ho, hsk =>
              obtain rfl := Option.some.inj ho
              have e0 : a'.eval (.tmp 40) = P0 r := is_tq (hin 1 40 (by kernel_rfl) (by kernel_rfl)) rfl
              exact o_nil (.tmp 40) rfl _ e0 ⟨_, rfl, tq_is _ _ _ _ rfl, Kept.refl _ _, fun _ _ _ _ _ => trivial⟩
            | 3, ho, hsk =>
              obtain rfl := Option.some.inj ho
              have e0 : a'.eval (.tmp 41) = P0 r := is_tq (hin 2 41 (by kernel_rfl) (by kernel_rfl)) rfl
              exact o_fld30_0 (.tmp 41) rfl r (0) (0) rfl e0 ⟨_, rfl, tq_is _ _ _ _ rfl, Kept.refl _ _, fun _ _ _ _ _ => trivial⟩
            | 4, ho, hsk =>
              obtain rfl := Option.some.inj ho
              have e0 : a'.eval (.tmp 42) = P0 r := is_tq (hin 3 42 (by kernel_rfl) (by kernel_rfl)) rfl
              exact o_load28 (.tmp 42) rfl _ _ e0 (fits_cell ((unhide HR).blk.kept hk2 (by simp)) 0 _ rfl) ⟨_, rfl, tq_is _ _ _ _ rfl, Kept.refl _ _, fun _ _ _ _ _ => trivial⟩
            | 5, ho, hsk =>
              obtain rfl := Option.some.inj ho
              have e0 : a'.eval (.tmp 43) = .slice (some ⟨g, off, none⟩) L.length cc := is_tq (hin 4 43 (by kernel_rfl) (by kernel_rfl)) rfl
              exact o_len28 (.tmp 43) rfl _ _ _ e0 ⟨_, rfl, tq_is _ _ _ _ rfl, Kept.refl _ _, fun _ _ _ _ _ => trivial⟩
            | 6, ho, hsk =>
              obtain rfl := Option.some.inj ho
              have e0 : a'.eval (.tmp 39) = .int .i64 k := is_tq (hin 0 39 (by kernel_rfl) (by kernel_rfl)) rfl
              have e1 : a'.eval (.tmp 44) = .int .i64 L.length := is_tq (hin 5 44 (by kernel_rfl) (by kernel_rfl)) rfl
              exact c_lss3 (.tmp 39) (.tmp 44) rfl _ _ (true) (by simp; omega) e0 e1 ⟨_, rfl, tq_is _ _ _ _ rfl, Kept.refl _ _, fun _ _ _ _ _ => trivial⟩
            | 7, ho, hsk =>
              obtain rfl := Option.some.inj ho
              have e0 : a'.eval (.tmp 45) = .bool true := is_tq (hin 6 45 (by kernel_rfl) (by kernel_rfl)) rfl
              exact wp_move (.tmp 45) rfl _ e0 ⟨_, rfl, tq_is _ _ _ _ rfl, Kept.refl _ _, fun _ _ _ _ _ => trivial⟩
            | 8, ho, hsk =>
              obtain rfl := Option.some.inj ho
              exact wp_move (.tmp 0) rfl _ ((hout 0 (by kernel_rfl)).trans rfl) ⟨_, rfl, tq_is _ _ _ _ rfl, Kept.refl _ _, fun _ _ _ _ _ => trivial⟩
            | 9, ho, hsk =>
              obtain rfl := Option.some.inj ho
              have e0 : a'.eval (.tmp 47) = P0 r := is_tq (hin 8 47 (by kernel_rfl) (by kernel_rfl)) rfl
              exact o_nil (.tmp 47) rfl _ e0 ⟨_, rfl, tq_is _ _ _ _ rfl, Kept.refl _ _, fun _ _ _ _ _ => trivial⟩
            | 10, ho, hsk =>
              obtain rfl := Option.some.inj ho
              have e0 : a'.eval (.tmp 48) = P0 r := is_tq (hin 9 48 (by kernel_rfl) (by kernel_rfl)) rfl
              exact o_fld30_0 (.tmp 48) rfl r (0) (0) rfl e0 ⟨_, rfl, tq_is _ _ _ _ rfl, Kept.refl _ _, fun _ _ _ _ _ => trivial⟩
            | 11, ho, hsk =>
              obtain rfl := Option.some.inj ho
              have e0 : a'.eval (.tmp 49) = P0 r := is_tq (hin 10 49 (by kernel_rfl) (by kernel_rfl)) rfl
              exact o_load28 (.tmp 49) rfl _ _ e0 (fits_cell ((unhide HR).blk.kept hk2 (by simp)) 0 _ rfl) ⟨_, rfl, tq_is _ _ _ _ rfl, Kept.refl _ _, fun _ _ _ _ _ => trivial⟩
            | 12, ho, hsk =>
              obtain rfl := Option.some.inj ho
              exact wp_move (.tmp 10) rfl _ ((hout 10 (by kernel_rfl)).trans rfl) ⟨_, rfl, tq_is _ _ _ _ rfl, Kept.refl _ _, fun _ _ _ _ _ => trivial⟩
            | 13, ho, hsk =>
              obtain rfl := Option.some.inj ho
              have e0 : a'.eval (.tmp 50) = .slice (some ⟨g, off, none⟩) L.length cc := is_tq (hin 11 50 (by kernel_rfl) (by kernel_rfl)) rfl
              have e1 : a'.eval (.tmp 51) = .int .i64 k := is_tq (hin 12 51 (by kernel_rfl) (by kernel_rfl)) rfl
              exact o_idx28 (.tmp 50) (.tmp 51) rfl g off L.length cc k (by omega) e0 e1 ⟨_, rfl, tq_is _ _ _ _ rfl, Kept.refl _ _, fun _ _ _ _ _ => trivial⟩
            | 14, ho, hsk =>
              obtain rfl := Option.some.inj ho
              have e0 : a'.eval (.tmp 52) = .pointer (some ⟨g, off + k * 3, none⟩) := is_tq (hin 13 52 (by kernel_rfl) (by kernel_rfl)) rfl
              exact wp_loadA row54 (.tmp 52) rfl g (off + k * 3) e0 (m.C) (rfl) (range_kept (unhide HRM) hk2 (by simp)) ⟨_, rfl, tq_is _ _ _ _ rfl, Kept.refl _ _, fun _ _ _ _ _ => trivial⟩
            | 15, ho, hsk =>
              obtain rfl := Option.some.inj ho
              exact wp_loadA row54 (.tmp 9) rfl y (0) ((hout 9 (by kernel_rfl)).trans rfl) (x.C) (rfl) (((unhide HY).kept hk2 (by simp)).range) ⟨_, rfl, tq_is _ _ _ _ rfl, Kept.refl _ _, fun _ _ _ _ _ => trivial⟩
            | 16, ho, hsk =>
              obtain rfl := Option.some.inj ho
              have e0 : a'.eval (.tmp 53) = aggV m.C := is_tq (hin 14 53 (by kernel_rfl) (by kernel_rfl)) rfl
              have e1 : a'.eval (.tmp 54) = aggV x.C := is_tq (hin 15 54 (by kernel_rfl) (by kernel_rfl)) rfl
              refine wp_callF 41 _ _ rfl #[aggV m.C, aggV x.C] (by simp [e0, e1]) (cg41 _ _) ((less41b m x _ (unhide HLS)).mono ?_)
              rintro e w3 ⟨rfl, hk3⟩
              exact ⟨_, rfl, _, rfl, tq_is _ _ _ _ rfl, hk3, fun _ _ _ _ _ => trivial⟩
            | 17, ho, hsk =>
              obtain rfl := Option.some.inj ho
              have e0 : a'.eval (.tmp 46) = .bool true := is_tq (hin 7 46 (by kernel_rfl) (by kernel_rfl)) rfl
              have e1 : a'.eval (.tmp 55) = .bool false := is_tq (hin 16 55 (by kernel_rfl) (by kernel_rfl)) rfl
              exact o_pick (.tmp 46) (.tmp 55) rfl _ e0 e1 ⟨_, rfl, tq_is _ _ _ _ rfl, Kept.refl _ _, fun _ _ _ _ _ => trivial⟩
          intro w9 hk9
          replace hk9 : Kept [] wr w9 := ⟨hk9.os, hk9.tape, hk9.output, hk9.size, hk9.block⟩
          simp only [valsQ, List.map_cons, List.map_nil, Option.getD_some, List.take_succ_cons, List.take_zero, putAll, Act.put, List.setIfInBounds_toArray, List.set_cons_succ, List.set_cons_zero]
          refine wpAny_done (by kernel_rfl) ?_ _
          replace HR := hide ((unhide HR).step0 hk9)
          replace HY := hide ((unhide HY).kept hk9 (by simp))
          replace HK := hide ((unhide HK).trans hk9)
          go_wp2_with fail
          go_meet
          case rel => exact ⟨by rw [unhide HKE], HK, HR, HY⟩
      · have hkE : posM x L = k := by omega
        have HKE := hide hkE
        go_upto_region 7 with fail
        refine wp_region_any mixed (wpAny_tq 18 rfl (by kernel_rfl) [some (.int .i64 k), some (P0 r), some (P0 r), some (P0 r), some (.slice ao L.length cc), some (.int .i64 L.length), some (.bool false), some (.bool false), none, none, none, none, none, none, none, none, none, some (.bool false)] rfl (by kernel_rfl) (by kernel_rfl) ?_ ?_)
        · intro i o' hi hsk ho a' w2 hout hin hk2
          replace hk2 : Kept [] wr w2 := ⟨hk2.os, hk2.tape, hk2.output, hk2.size, hk2.block⟩
          match i, ho, hsk with
          | 0, ho, hsk =>
            obtain rfl := Option.some.inj ho
            exact wp_move (.tmp 10) rfl _ ((hout 10 (by kernel_rfl)).trans rfl) ⟨_, rfl, tq_is _ _ _ _ rfl, Kept.refl _ _, fun _ _ _ _ _ => trivial⟩
          | 1, ho, hsk =>
            obtain rfl := Option.some.inj ho
            exact wp_move (.tmp 0) rfl _ ((hout 0 (by kernel_rfl)).trans rfl) ⟨_, rfl, tq_is _ _ _ _ rfl, Kept.refl _ _, fun _ _ _ _ _ => trivial⟩
          | 2, ho, hsk =>
            obtain rfl := Option.some.inj ho
            have e0 : a'.eval (.tmp 40) = P0 r := is_tq (hin 1 40 (by kernel_rfl) (by kernel_rfl)) rfl
            exact o_nil (.tmp 40) rfl _ e0 ⟨_, rfl, tq_is _ _ _ _ rfl, Kept.refl _ _, fun _ _ _ _ _ => trivial⟩
          | 3, ho, hsk =>
            obtain rfl := Option.some.inj ho
            have e0 : a'.eval (.tmp 41) = P0 r := is_tq (hin 2 41 (by kernel_rfl) (by kernel_rfl)) rfl
            exact o_fld30_0 (.tmp 41) rfl r (0) (0) rfl e0 ⟨_, rfl, tq_is _ _ _ _ rfl, Kept.refl _ _, fun _ _ _ _ _ => trivial⟩
          | 4, ho, hsk =>
            obtain rfl := Option.some.inj ho
            have e0 : a'.eval (.tmp 42) = P0 r := is_tq (hin 3 42 (by kernel_rfl) (by kernel_rfl)) rfl
            exact o_load28 (.tmp 42) rfl _ _ e0 (fits_cell ((unhide HR).blk.kept hk2 (by simp)) 0 _ rfl) ⟨_, rfl, tq_is _ _ _ _ rfl, Kept.refl _ _, fun _ _ _ _ _ => trivial⟩
          | 5, ho, hsk =>
            obtain rfl := Option.some.inj ho
            have e0 : a'.eval (.tmp 43) = .slice ao L.length cc := is_tq (hin 4 43 (by kernel_rfl) (by kernel_rfl)) rfl
            exact o_len28 (.tmp 43) rfl _ _ _ e0 ⟨_, rfl, tq_is _ _ _ _ rfl, Kept.refl _ _, fun _ _ _ _ _ => trivial⟩
          | 6, ho, hsk =>
            obtain rfl := Option.some.inj ho
            have e0 : a'.eval (.tmp 39) = .int .i64 k := is_tq (hin 0 39 (by kernel_rfl) (by kernel_rfl)) rfl
            have e1 : a'.eval (.tmp 44) = .int .i64 L.length := is_tq (hin 5 44 (by kernel_rfl) (by kernel_rfl)) rfl
            exact c_lss3 (.tmp 39) (.tmp 44) rfl _ _ (false) (by simp; omega) e0 e1 ⟨_, rfl, tq_is _ _ _ _ rfl, Kept.refl _ _, fun _ _ _ _ _ => trivial⟩
          | 7, ho, hsk =>
            obtain rfl := Option.some.inj ho
            have e0 : a'.eval (.tmp 45) = .bool false := is_tq (hin 6 45 (by kernel_rfl) (by kernel_rfl)) rfl
            exact wp_move (.tmp 45) rfl _ e0 ⟨_, rfl, tq_is _ _ _ _ rfl, Kept.refl _ _, fun _ _ _ _ _ => trivial⟩
          | 8, ho, hsk =>
            cases hsk
          | 9, ho, hsk =>
            cases hsk
          | 10, ho, hsk =>
            cases hsk
          | 11, ho, hsk =>
            cases hsk
          | 12, ho, hsk =>
            cases hsk
          | 13, ho, hsk =>
            cases hsk
          | 14, ho, hsk =>
            cases hsk
          | 15, ho, hsk =>
            cases hsk
          | 16, ho, hsk =>
            cases hsk
          | 17, ho, hsk =>
            obtain rfl := Option.some.inj ho
            have e0 : a'.eval (.tmp 46) = .bool false := is_tq (hin 7 46 (by kernel_rfl) (by kernel_rfl)) rfl
            exact o_pickN (.tmp 46) (.tmp 55) rfl e0 ⟨_, rfl, tq_is _ _ _ _ rfl, Kept.refl _ _, fun _ _ _ _ _ => trivial⟩
        intro w9 hk9
        replace hk9 : Kept [] wr w9 := ⟨hk9.os, hk9.tape, hk9.output, hk9.size, hk9.block⟩
        simp only [valsQ, List.map_cons, List.map_nil, Option.getD_some, Option.getD_none, List.take_succ_cons, List.take_zero, putAll, Act.put, List.setIfInBounds_toArray, List.set_cons_succ, List.set_cons_zero]
        refine wpAny_done (by kernel_rfl) ?_ _
        replace HR := hide ((unhide HR).step0 hk9)
        replace HY := hide ((unhide HY).kept hk9 (by simp))
        replace HK := hide ((unhide HK).trans hk9)
        go_wp2_with fail
        go_meet
        case rel => exact ⟨by rw [unhide HKE], HK, HR, HY⟩
  case rest =>
    clear HK HR HY
    obtain ⟨rfl, HK, HR, HY⟩ := hcut
    have hpl := posM_le x L
    obtain ⟨k, hk⟩ : ∃ k, posM x L = k := ⟨_, rfl⟩
    rw [hk] at hpl HRM1 ⊢
    have HPK := hide hk
    clear hk
    have HPL := hide hpl
    have HRL : Hid (r < wc.heap.size) := hide (unhide HR).blk.lt
    by_cases hkl : k < L.length
    · have hd : decide ((k : Int) < (L.length : Int)) = true := by simp; omega
      obtain ⟨m, hm⟩ : ∃ m, L[k]? = some m := ⟨_, List.getElem?_eq_getElem hkl⟩
      have HMK := hide hm
      have HRM2 : Hid (rmarkP p s f L = if m.p = p ∧ m.s = s then (0, L.set k ⟨m.p, m.s, min m.f f⟩) else rputM x L) := by show _ = _; rw [unhide HRM1, hm]
      have cr := (unhide HR).cw
      clear hm
      by_cases h1 : m.p = p
      · have d1 : (m.p == p) = true := by simpa using h1
        have d2 : decide (m.p = p) = true := by simpa using h1
        by_cases h2 : m.s = s
        · have d3 : (m.s == s) = true := by simpa using h2
          have d4 : decide (m.s = s) = true := by simpa using h2
          have HPU : Hid (rmarkP p s f L = (0, L.set k ⟨m.p, m.s, min m.f f⟩)) := by show _ = _; rw [unhide HRM2, if_pos ⟨h1, h2⟩]
          clear h1 h2
          obtain ⟨g, off, c1, hv1, hr1⟩ := (unhide HR).at hkl
          obtain rfl : ao = some ⟨g, off, none⟩ := by injection hv1
          obtain rfl : cc = c1 := by injection hv1
          obtain ⟨cs, hcb, hcl, _⟩ := (unhide HR).row.cs
          have HCB := hide hcb
          have HKL := hide hkl
          have HCL : Hid (off + k * 3 + 2 < cs.length) := by have := unhide HLC; show _ < _; omega
          have HCF : Hid (cs[off + k * 3 + 2]? = some (.int .i64 m.f)) := by
            have h9 := (range_c (hr1 k m (unhide HMK))).2.2
            rw [cell_of_block hcb] at h9
            have h10 : cs[off + k * 3 + 2]? = some (.int .i64 m.f) := by simpa using h9
            exact h10
          have HRG : Hid (r ≠ g) := fun e => (unhide HR).ne (by rw [e]; rfl)
          clear hv1 hr1 hcb hcl
          go_wp2_with (
            first
            | (refine wpIdx28W (by rfl) (.tmp 70) (.tmp 71) rfl _ L k m rfl rfl (unhide HR).row (unhide HMK) ?_
               intro a oa hr
               obtain ⟨ca0, ca1, ca2⟩ := range_c hr
               clear hr
               refine Stp.go ?_))
          constructor
          go_wp2_with (
            first
            | (refine wpIdx28W (by rfl) (.tmp 82) (.tmp 83) rfl _ L k m rfl rfl (unhide HR).row (unhide HMK) ?_
               intro b ob hr
               obtain ⟨cb0, cb1, cb2⟩ := range_c hr
               clear hr
               refine Stp.go ?_))
          constructor
          go_upto_region 10 with fail
          refine wp_region_any mixed (wpAny_gx 18 rfl (by kernel_rfl) [some (P0 r), some (P0 r), some (P0 r), some (.slice (some ⟨g, off, none⟩) L.length cc), some (.int .i64 k), some (P0 r), some (P0 r), some (P0 r), some (.slice (some ⟨g, off, none⟩) L.length cc), some (.int .i64 k), some (.pointer (some ⟨g, off + k * 3, none⟩)), some (.pointer (some ⟨g, off + k * 3 + 2, none⟩)), some (.int .i64 m.f), some (.int .i64 f), some (.int .i64 (min m.f f)), some (.pointer (some ⟨g, off + k * 3, none⟩)), some (.pointer (some ⟨g, off + k * 3 + 2, none⟩)), none] rfl (by kernel_rfl) (fun l vs W => (SD1 [g] wc (fun d1 => [(g, 54, cond d1 (cs.set (off + k * 3 + 2) (.int .i64 (min m.f f))) cs)]) 17) (fun i => l.getD i false) vs W) ((Mm.one (unhide HCB)).drew) ?_ ?_)
          · intro ix o' hi ho a' w2 l vs hls hlf hJ hout hin hdep hnot
            match ix, ho with
            | 0, ho =>
              obtain rfl := Option.some.inj ho
              have e0 := hout 0 (by kernel_rfl)
              replace e0 : a'.eval (.tmp 0) = _ := e0.trans rfl
              exact wp_move (.tmp 0) rfl _ e0 ⟨_, rfl, told_of rfl, keepG (St := (SD1 [g] wc (fun d1 => [(g, 54, cond d1 (cs.set (off + k * 3 + 2) (.int .i64 (min m.f f))) cs)]) 17)) [17] SD1.loc (by omega) (by decide) hJ⟩
            | 1, ho =>
              obtain rfl := Option.some.inj ho
              have e0 : a'.eval (.tmp 90) = P0 r := by have h9 := hin 0 90 (by kernel_rfl) (by kernel_rfl); exact h9.1.trans (told_is _ h9.2 rfl)
              exact o_nil (.tmp 90) rfl _ e0 ⟨_, rfl, told_of rfl, keepG (St := (SD1 [g] wc (fun d1 => [(g, 54, cond d1 (cs.set (off + k * 3 + 2) (.int .i64 (min m.f f))) cs)]) 17)) [17] SD1.loc (by omega) (by decide) hJ⟩
            | 2, ho =>
              obtain rfl := Option.some.inj ho
              have e0 : a'.eval (.tmp 91) = P0 r := by have h9 := hin 1 91 (by kernel_rfl) (by kernel_rfl); exact h9.1.trans (told_is _ h9.2 rfl)
              exact o_fld30_0 (.tmp 91) rfl r (0) (0) rfl e0 ⟨_, rfl, told_of rfl, keepG (St := (SD1 [g] wc (fun d1 => [(g, 54, cond d1 (cs.set (off + k * 3 + 2) (.int .i64 (min m.f f))) cs)]) 17)) [17] SD1.loc (by omega) (by decide) hJ⟩
            | 3, ho =>
              obtain rfl := Option.some.inj ho
              have e0 : a'.eval (.tmp 92) = P0 r := by have h9 := hin 2 92 (by kernel_rfl) (by kernel_rfl); exact h9.1.trans (told_is _ h9.2 rfl)
              exact o_load28 (.tmp 92) rfl _ _ e0 (fits_cell ((unhide HR).blk.kept hJ.kept (by simpa using unhide HRG)) 0 _ rfl) ⟨_, rfl, told_of rfl, keepG (St := (SD1 [g] wc (fun d1 => [(g, 54, cond d1 (cs.set (off + k * 3 + 2) (.int .i64 (min m.f f))) cs)]) 17)) [17] SD1.loc (by omega) (by decide) hJ⟩
            | 4, ho =>
              obtain rfl := Option.some.inj ho
              have e0 := hout 10 (by kernel_rfl)
              replace e0 : a'.eval (.tmp 10) = _ := e0.trans rfl
              exact wp_move (.tmp 10) rfl _ e0 ⟨_, rfl, told_of rfl, keepG (St := (SD1 [g] wc (fun d1 => [(g, 54, cond d1 (cs.set (off + k * 3 + 2) (.int .i64 (min m.f f))) cs)]) 17)) [17] SD1.loc (by omega) (by decide) hJ⟩
            | 5, ho =>
              obtain rfl := Option.some.inj ho
              have e0 := hout 0 (by kernel_rfl)
              replace e0 : a'.eval (.tmp 0) = _ := e0.trans rfl
              exact wp_move (.tmp 0) rfl _ e0 ⟨_, rfl, told_of rfl, keepG (St := (SD1 [g] wc (fun d1 => [(g, 54, cond d1 (cs.set (off + k * 3 + 2) (.int .i64 (min m.f f))) cs)]) 17)) [17] SD1.loc (by omega) (by decide) hJ⟩
            | 6, ho =>
              obtain rfl := Option.some.inj ho
              have e0 : a'.eval (.tmp 95) = P0 r := by have h9 := hin 5 95 (by kernel_rfl) (by kernel_rfl); exact h9.1.trans (told_is _ h9.2 rfl)
              exact o_nil (.tmp 95) rfl _ e0 ⟨_, rfl, told_of rfl, keepG (St := (SD1 [g] wc (fun d1 => [(g, 54, cond d1 (cs.set (off + k * 3 + 2) (.int .i64 (min m.f f))) cs)]) 17)) [17] SD1.loc (by omega) (by decide) hJ⟩
            | 7, ho =>
              obtain rfl := Option.some.inj ho
              have e0 : a'.eval (.tmp 96) = P0 r := by have h9 := hin 6 96 (by kernel_rfl) (by kernel_rfl); exact h9.1.trans (told_is _ h9.2 rfl)
              exact o_fld30_0 (.tmp 96) rfl r (0) (0) rfl e0 ⟨_, rfl, told_of rfl, keepG (St := (SD1 [g] wc (fun d1 => [(g, 54, cond d1 (cs.set (off + k * 3 + 2) (.int .i64 (min m.f f))) cs)]) 17)) [17] SD1.loc (by omega) (by decide) hJ⟩
            | 8, ho =>
              obtain rfl := Option.some.inj ho
              have e0 : a'.eval (.tmp 97) = P0 r := by have h9 := hin 7 97 (by kernel_rfl) (by kernel_rfl); exact h9.1.trans (told_is _ h9.2 rfl)
              exact o_load28 (.tmp 97) rfl _ _ e0 (fits_cell ((unhide HR).blk.kept hJ.kept (by simpa using unhide HRG)) 0 _ rfl) ⟨_, rfl, told_of rfl, keepG (St := (SD1 [g] wc (fun d1 => [(g, 54, cond d1 (cs.set (off + k * 3 + 2) (.int .i64 (min m.f f))) cs)]) 17)) [17] SD1.loc (by omega) (by decide) hJ⟩
            | 9, ho =>
              obtain rfl := Option.some.inj ho
              have e0 := hout 10 (by kernel_rfl)
              replace e0 : a'.eval (.tmp 10) = _ := e0.trans rfl
              exact wp_move (.tmp 10) rfl _ e0 ⟨_, rfl, told_of rfl, keepG (St := (SD1 [g] wc (fun d1 => [(g, 54, cond d1 (cs.set (off + k * 3 + 2) (.int .i64 (min m.f f))) cs)]) 17)) [17] SD1.loc (by omega) (by decide) hJ⟩
            | 10, ho =>
              obtain rfl := Option.some.inj ho
              have e0 : a'.eval (.tmp 98) = .slice (some ⟨g, off, none⟩) L.length cc := by have h9 := hin 8 98 (by kernel_rfl) (by kernel_rfl); exact h9.1.trans (told_is _ h9.2 rfl)
              have e1 : a'.eval (.tmp 99) = .int .i64 k := by have h9 := hin 9 99 (by kernel_rfl) (by kernel_rfl); exact h9.1.trans (told_is _ h9.2 rfl)
              exact o_idx28 (.tmp 98) (.tmp 99) rfl g off L.length cc k (unhide HKL) e0 e1 ⟨_, rfl, told_of rfl, keepG (St := (SD1 [g] wc (fun d1 => [(g, 54, cond d1 (cs.set (off + k * 3 + 2) (.int .i64 (min m.f f))) cs)]) 17)) [17] SD1.loc (by omega) (by decide) hJ⟩
            | 11, ho =>
              obtain rfl := Option.some.inj ho
              have e0 : a'.eval (.tmp 100) = .pointer (some ⟨g, off + k * 3, none⟩) := by have h9 := hin 10 100 (by kernel_rfl) (by kernel_rfl); exact h9.1.trans (told_is _ h9.2 rfl)
              exact o_fld54_2 (.tmp 100) rfl g (off + k * 3) (off + k * 3 + 2) rfl e0 ⟨_, rfl, told_of rfl, keepG (St := (SD1 [g] wc (fun d1 => [(g, 54, cond d1 (cs.set (off + k * 3 + 2) (.int .i64 (min m.f f))) cs)]) 17)) [17] SD1.loc (by omega) (by decide) hJ⟩
            | 12, ho =>
              obtain rfl := Option.some.inj ho
              have e0 : a'.eval (.tmp 101) = .pointer (some ⟨g, off + k * 3 + 2, none⟩) := by have h9 := hin 11 101 (by kernel_rfl) (by kernel_rfl); exact h9.1.trans (told_is _ h9.2 rfl)
              exact o_load2 (.tmp 101) rfl _ _ e0 (fits_cell ((SD1.no hJ (hnot 17 (by kernel_rfl))).at 0 _ rfl) (off + k * 3 + 2) _ (unhide HCF)) ⟨_, rfl, told_of rfl, keepG (St := (SD1 [g] wc (fun d1 => [(g, 54, cond d1 (cs.set (off + k * 3 + 2) (.int .i64 (min m.f f))) cs)]) 17)) [17] SD1.loc (by omega) (by decide) hJ⟩
            | 13, ho =>
              obtain rfl := Option.some.inj ho
              have e0 := hout 3 (by kernel_rfl)
              replace e0 : a'.eval (.tmp 3) = _ := e0.trans rfl
              exact wp_move (.tmp 3) rfl _ e0 ⟨_, rfl, told_of rfl, keepG (St := (SD1 [g] wc (fun d1 => [(g, 54, cond d1 (cs.set (off + k * 3 + 2) (.int .i64 (min m.f f))) cs)]) 17)) [17] SD1.loc (by omega) (by decide) hJ⟩
            | 14, ho =>
              obtain rfl := Option.some.inj ho
              have e0 : a'.eval (.tmp 102) = .int .i64 m.f := by have h9 := hin 12 102 (by kernel_rfl) (by kernel_rfl); exact h9.1.trans (told_is _ h9.2 rfl)
              have e1 : a'.eval (.tmp 103) = .int .i64 f := by have h9 := hin 13 103 (by kernel_rfl) (by kernel_rfl); exact h9.1.trans (told_is _ h9.2 rfl)
              exact o_min2 (.tmp 102) (.tmp 103) rfl _ _ e0 e1 ⟨_, rfl, told_of rfl, keepG (St := (SD1 [g] wc (fun d1 => [(g, 54, cond d1 (cs.set (off + k * 3 + 2) (.int .i64 (min m.f f))) cs)]) 17)) [17] SD1.loc (by omega) (by decide) hJ⟩
            | 15, ho =>
              obtain rfl := Option.some.inj ho
              have e0 : a'.eval (.tmp 93) = .slice (some ⟨g, off, none⟩) L.length cc := by have h9 := hin 3 93 (by kernel_rfl) (by kernel_rfl); exact h9.1.trans (told_is _ h9.2 rfl)
              have e1 : a'.eval (.tmp 94) = .int .i64 k := by have h9 := hin 4 94 (by kernel_rfl) (by kernel_rfl); exact h9.1.trans (told_is _ h9.2 rfl)
              exact o_idx28 (.tmp 93) (.tmp 94) rfl g off L.length cc k (unhide HKL) e0 e1 ⟨_, rfl, told_of rfl, keepG (St := (SD1 [g] wc (fun d1 => [(g, 54, cond d1 (cs.set (off + k * 3 + 2) (.int .i64 (min m.f f))) cs)]) 17)) [17] SD1.loc (by omega) (by decide) hJ⟩
            | 16, ho =>
              obtain rfl := Option.some.inj ho
              have e0 : a'.eval (.tmp 105) = .pointer (some ⟨g, off + k * 3, none⟩) := by have h9 := hin 15 105 (by kernel_rfl) (by kernel_rfl); exact h9.1.trans (told_is _ h9.2 rfl)
              exact o_fld54_2 (.tmp 105) rfl g (off + k * 3) (off + k * 3 + 2) rfl e0 ⟨_, rfl, told_of rfl, keepG (St := (SD1 [g] wc (fun d1 => [(g, 54, cond d1 (cs.set (off + k * 3 + 2) (.int .i64 (min m.f f))) cs)]) 17)) [17] SD1.loc (by omega) (by decide) hJ⟩
            | 17, ho =>
              obtain rfl := Option.some.inj ho
              have e0 : a'.eval (.tmp 106) = .pointer (some ⟨g, off + k * 3 + 2, none⟩) := by have h9 := hin 16 106 (by kernel_rfl) (by kernel_rfl); exact h9.1.trans (told_is _ h9.2 rfl)
              have e1 : a'.eval (.tmp 104) = .int .i64 (min m.f f) := by have h9 := hin 14 104 (by kernel_rfl) (by kernel_rfl); exact h9.1.trans (told_is _ h9.2 rfl)
              exact o_st1 size2 (.tmp 106) (.tmp 104) rfl rfl g (off + k * 3 + 2) 0 (.int .i64 (min m.f f)) ⟨rfl, rfl⟩ e0 e1 (SD1.no hJ hlf) rfl (unhide HCL) rfl (fun W1 hM => ⟨undef, rfl, told_no rfl, nextG (St := (SD1 [g] wc (fun d1 => [(g, 54, cond d1 (cs.set (off + k * 3 + 2) (.int .i64 (min m.f f))) cs)]) 17)) (by omega) hM⟩)
          intro l_ vs4 V4 hl hJ htold
          have t0 : vs4 0 = P0 r := told_is _ (htold 0 (by decide)) rfl
          have t1 : vs4 1 = P0 r := told_is _ (htold 1 (by decide)) rfl
          have t2 : vs4 2 = P0 r := told_is _ (htold 2 (by decide)) rfl
          have t3 : vs4 3 = .slice (some ⟨g, off, none⟩) L.length cc := told_is _ (htold 3 (by decide)) rfl
          have t4 : vs4 4 = .int .i64 k := told_is _ (htold 4 (by decide)) rfl
          have t5 : vs4 5 = P0 r := told_is _ (htold 5 (by decide)) rfl
          have t6 : vs4 6 = P0 r := told_is _ (htold 6 (by decide)) rfl
          have t7 : vs4 7 = P0 r := told_is _ (htold 7 (by decide)) rfl
          have t8 : vs4 8 = .slice (some ⟨g, off, none⟩) L.length cc := told_is _ (htold 8 (by decide)) rfl
          have t9 : vs4 9 = .int .i64 k := told_is _ (htold 9 (by decide)) rfl
          have t10 : vs4 10 = .pointer (some ⟨g, off + k * 3, none⟩) := told_is _ (htold 10 (by decide)) rfl
          have t11 : vs4 11 = .pointer (some ⟨g, off + k * 3 + 2, none⟩) := told_is _ (htold 11 (by decide)) rfl
          have t12 : vs4 12 = .int .i64 m.f := told_is _ (htold 12 (by decide)) rfl
          have t13 : vs4 13 = .int .i64 f := told_is _ (htold 13 (by decide)) rfl
          have t14 : vs4 14 = .int .i64 (min m.f f) := told_is _ (htold 14 (by decide)) rfl
          have t15 : vs4 15 = .pointer (some ⟨g, off + k * 3, none⟩) := told_is _ (htold 15 (by decide)) rfl
          have t16 : vs4 16 = .pointer (some ⟨g, off + k * 3 + 2, none⟩) := told_is _ (htold 16 (by decide)) rfl
          rw [show (List.range 18).map vs4 = [vs4 0, vs4 1, vs4 2, vs4 3, vs4 4, vs4 5, vs4 6, vs4 7, vs4 8, vs4 9, vs4 10, vs4 11, vs4 12, vs4 13, vs4 14, vs4 15, vs4 16, vs4 17] from rfl]
          simp only [t0, t1, t2, t3, t4, t5, t6, t7, t8, t9, t10, t11, t12, t13, t14, t15, t16, putAll, Act.put, List.setIfInBounds_toArray, List.set_cons_succ, List.set_cons_zero]
          clear t0 t1 t2 t3 t4 t5 t6 t7 t8 t9 t10 t11 t12 t13 t14 t15 t16 htold
          have hM4 : Mm [g] wc V4 [(g, 54, cs.set (off + k * 3 + 2) (.int .i64 (min m.f f)))] := SD1.yes hJ (hl 17 (by decide))
          have HM4 := hide hM4
          clear hM4 hJ hl
          go_wp2_with fail
          go_ret
          have hk4 := (unhide HM4).kept
          refine ⟨by rw [unhide HPU]; rfl, ⟨.slice (some ⟨g, off, none⟩) L.length cc, ⟨(unhide HR).blk.kept hk4 (by simpa using unhide HRG), ?_, by rw [unhide HPU]; simpa using hmany⟩, fun i hi => .inl hi⟩, ?_⟩
          · rw [unhide HPU]
            exact Ms.put (unhide HR).row (unhide HMK) (unhide HCB) ((unhide HM4).at 0 _ rfl)
          · exact ((unhide HK).mono (by simp)).trans (hk4.mono (by intro i hi; simp at hi; subst hi; exact List.mem_cons_of_mem _ (by simp [Value.ownBlock])))
        · have d3 : (m.s == s) = false := by simpa using h2
          have d4 : decide (m.s = s) = false := by simpa using h2
          have HRP : Hid (rmarkP p s f L = rputM x L) := by show _ = _; rw [unhide HRM2, if_neg (fun e => h2 e.2)]
          clear h1 h2
          by_cases h256 : L.length = 256
          · have e1 : ((L.length : Int) == 256) = true := by simp; omega
            have e2 : decide ((L.length : Int) = 256) = true := by simp; omega
            have HPU : Hid (rmarkP p s f L = (5, L)) := by show _ = _; rw [unhide HRP]; unfold rputM; rw [if_pos h256]
            clear h256
            go_wp2_with (
              first
              | (refine wpIdx28W (by rfl) (.tmp 70) (.tmp 71) rfl _ L k m rfl rfl (unhide HR).row (unhide HMK) ?_
                 intro a oa hr
                 obtain ⟨ca0, ca1, ca2⟩ := range_c hr
                 clear hr
                 refine Stp.go ?_))
            constructor
            go_wp2_with (
              first
              | (refine wpIdx28W (by rfl) (.tmp 82) (.tmp 83) rfl _ L k m rfl rfl (unhide HR).row (unhide HMK) ?_
                 intro b ob hr
                 obtain ⟨cb0, cb1, cb2⟩ := range_c hr
                 clear hr
                 refine Stp.go ?_))
            constructor
            go_wp2_with fail
            go_ret
            exact ⟨by rw [unhide HPU]; rfl, ⟨_, by rw [unhide HPU]; exact unhide HR, fun i hi => .inl hi⟩, (unhide HK).mono (by simp)⟩
          · have e1 : ((L.length : Int) == 256) = false := by simp; omega
            have e2 : decide ((L.length : Int) = 256) = false := by simp; omega
            have HPU : Hid (rmarkP p s f L = (0, insM x L)) := by show _ = _; rw [unhide HRP]; unfold rputM; rw [if_neg h256]
            have HMN : Hid (L.length ≤ 255) := by show _ ≤ _; omega
            clear h256
            go_wp2_with (
              first
              | (refine wpIdx28W (by rfl) (.tmp 70) (.tmp 71) rfl _ L k m rfl rfl (unhide HR).row (unhide HMK) ?_
                 intro a oa hr
                 obtain ⟨ca0, ca1, ca2⟩ := range_c hr
                 clear hr
                 refine Stp.go ?_))
            constructor
            go_wp2_with (
              first
              | (refine wpIdx28W (by rfl) (.tmp 82) (.tmp 83) rfl _ L k m rfl rfl (unhide HR).row (unhide HMK) ?_
                 intro b ob hr
                 obtain ⟨cb0, cb1, cb2⟩ := range_c hr
                 clear hr
                 refine Stp.go ?_))
            constructor
            go_upto_region 14 with fail
            refine wp_region_any mixed (wpAny_gx 21 rfl (by kernel_rfl) [some (P0 r), some (P0 r), some (P0 r), some (P0 r), some (.slice ao L.length cc), some (.int .i64 k), some (.slice ao k cc), none, some (aggV x.C), none, none, some (P0 r), some (P0 r), some (P0 r), some (.slice ao L.length cc), some (.int .i64 k), some (restV 3 ao L.length cc k), none, some (P0 r), some (P0 r), none] rfl (by kernel_rfl) (fun l vs W => (S14 wc r L k x) (fun i => l.getD i false) vs W) (S14.start wc r L k x) ?_ ?_)
            · intro ix o' hi ho a' w2 l vs hls hlf hJ hout hin hdep hnot
              match ix, ho with
              | 0, ho =>
                obtain rfl := Option.some.inj ho
                have e0 := hout 0 (by kernel_rfl)
                replace e0 : a'.eval (.tmp 0) = _ := e0.trans rfl
                exact wp_move (.tmp 0) rfl _ e0 ⟨_, rfl, told_of rfl, keepG (St := (S14 wc r L k x)) [7, 9, 10, 17, 20] S14.loc (by omega) (by decide) hJ⟩
              | 1, ho =>
                obtain rfl := Option.some.inj ho
                have e0 := hout 0 (by kernel_rfl)
                replace e0 : a'.eval (.tmp 0) = _ := e0.trans rfl
                exact wp_move (.tmp 0) rfl _ e0 ⟨_, rfl, told_of rfl, keepG (St := (S14 wc r L k x)) [7, 9, 10, 17, 20] S14.loc (by omega) (by decide) hJ⟩
              | 2, ho =>
                obtain rfl := Option.some.inj ho
                have e0 : a'.eval (.tmp 114) = P0 r := by have h9 := hin 1 114 (by kernel_rfl) (by kernel_rfl); exact h9.1.trans (told_is _ h9.2 rfl)
                exact o_nil (.tmp 114) rfl _ e0 ⟨_, rfl, told_of rfl, keepG (St := (S14 wc r L k x)) [7, 9, 10, 17, 20] S14.loc (by omega) (by decide) hJ⟩
              | 3, ho =>
                obtain rfl := Option.some.inj ho
                have e0 : a'.eval (.tmp 115) = P0 r := by have h9 := hin 2 115 (by kernel_rfl) (by kernel_rfl); exact h9.1.trans (told_is _ h9.2 rfl)
                exact o_fld30_0 (.tmp 115) rfl r (0) (0) rfl e0 ⟨_, rfl, told_of rfl, keepG (St := (S14 wc r L k x)) [7, 9, 10, 17, 20] S14.loc (by omega) (by decide) hJ⟩
              | 4, ho =>
                obtain rfl := Option.some.inj ho
                have e0 : a'.eval (.tmp 116) = P0 r := by have h9 := hin 3 116 (by kernel_rfl) (by kernel_rfl); exact h9.1.trans (told_is _ h9.2 rfl)
                exact o_load28 (.tmp 116) rfl _ _ e0 (fits_cell ((unhide HR).blk.kept (hJ.k0 (hnot 20 (by kernel_rfl))) (by simp)) 0 _ rfl) ⟨_, rfl, told_of rfl, keepG (St := (S14 wc r L k x)) [7, 9, 10, 17, 20] S14.loc (by omega) (by decide) hJ⟩
              | 5, ho =>
                obtain rfl := Option.some.inj ho
                have e0 := hout 10 (by kernel_rfl)
                replace e0 : a'.eval (.tmp 10) = _ := e0.trans rfl
                exact wp_move (.tmp 10) rfl _ e0 ⟨_, rfl, told_of rfl, keepG (St := (S14 wc r L k x)) [7, 9, 10, 17, 20] S14.loc (by omega) (by decide) hJ⟩
              | 6, ho =>
                obtain rfl := Option.some.inj ho
                have e0 : a'.eval (.tmp 117) = .slice ao L.length cc := by have h9 := hin 4 117 (by kernel_rfl) (by kernel_rfl); exact h9.1.trans (told_is _ h9.2 rfl)
                have e1 : a'.eval (.tmp 118) = .int .i64 k := by have h9 := hin 5 118 (by kernel_rfl) (by kernel_rfl); exact h9.1.trans (told_is _ h9.2 rfl)
                exact o_head28 (.tmp 117) (.tmp 118) rfl ao L.length cc k (unhide HLC) (unhide HNO) (unhide HPL) e0 e1 ⟨_, rfl, told_of rfl, keepG (St := (S14 wc r L k x)) [7, 9, 10, 17, 20] S14.loc (by omega) (by decide) hJ⟩
              | 7, ho =>
                obtain rfl := Option.some.inj ho
                have e0 : a'.eval (.tmp 119) = .slice ao k cc := by have h9 := hin 6 119 (by kernel_rfl) (by kernel_rfl); exact h9.1.trans (told_is _ h9.2 rfl)
                refine o_appR el28 (.const (.slice none 0 0)) (.tmp 119) rfl (.slice none 0 0) 0 [] rfl (Rw.nil _) _ k (mkC (L.take k)) e0 (Ms.headR ((unhide HR).row.kept (hJ.k0 (hnot 20 (by kernel_rfl))) (fun _ _ => by simp)) k (unhide HPL)) (mkC_one _) (by have := unhide HPL; have := unhide HMN; first | omega | (simp; omega)) (by have := unhide HPL; have := unhide HMN; unfold maxLen; first | omega | (simp; omega)) (fun v1 W1 q1 q2 q3 q4 => ?_)
                exact ⟨_, rfl, told_no rfl, nextG (St := (S14 wc r L k x)) (by omega) (S14.m7 hJ (hnot 10 (by kernel_rfl)) (hnot 17 (by kernel_rfl)) (hnot 20 (by kernel_rfl)) (q1.ms (by have := unhide HPL; simp; omega) (by simp)) (fun i hi => by rcases q3 i hi with h8 | h8; cases h8; exact h8) q2)⟩
              | 8, ho =>
                obtain rfl := Option.some.inj ho
                have e0 := hout 9 (by kernel_rfl)
                replace e0 : a'.eval (.tmp 9) = _ := e0.trans rfl
                exact wp_loadA row54 (.tmp 9) rfl y (0) e0 (x.C) (rfl) (((unhide HY).kept (hJ.k0 (hnot 20 (by kernel_rfl))) (by simp)).range) ⟨_, rfl, told_of rfl, keepG (St := (S14 wc r L k x)) [7, 9, 10, 17, 20] S14.loc (by omega) (by decide) hJ⟩
              | 9, ho =>
                obtain rfl := Option.some.inj ho
                have e0 : a'.eval (.tmp 121) = aggV x.C := by have h9 := hin 8 121 (by kernel_rfl) (by kernel_rfl); exact h9.1.trans (told_is _ h9.2 rfl)
                refine o_bs28 (.tmp 121) rfl x e0 (fun W1 g1 q0 q1 q2 => ?_)
                exact ⟨_, rfl, told_no rfl, nextG (St := (S14 wc r L k x)) (by omega) (S14.m9 hJ (hnot 10 (by kernel_rfl)) (hnot 17 (by kernel_rfl)) (hnot 20 (by kernel_rfl)) (Ms.one q1) q2)⟩
              | 10, ho =>
                obtain rfl := Option.some.inj ho
                have e0 : a'.eval (.tmp 120) = vs 7 := (hin 7 120 (by kernel_rfl) (by kernel_rfl)).1
                have e1 : a'.eval (.tmp 122) = vs 9 := (hin 9 122 (by kernel_rfl) (by kernel_rfl)).1
                have h7 := hJ.a (hdep 7 (by kernel_rfl)) hlf
                have h9 := hJ.b (hdep 9 (by kernel_rfl)) hlf
                refine o_appR el28 (.tmp 120) (.tmp 122) rfl _ _ _ e0 h7.1 _ _ _ e1 h9 (mkC_one _) (by have := unhide HPL; have := unhide HMN; first | omega | (simp; omega)) (by have := unhide HPL; have := unhide HMN; unfold maxLen; first | omega | (simp; omega)) (fun v1 W1 q1 q2 q3 q4 => ?_)
                exact ⟨_, rfl, told_no rfl, nextG (St := (S14 wc r L k x)) (by omega) (S14.m10 hJ (hdep 7 (by kernel_rfl)) hlf (hnot 17 (by kernel_rfl)) (hnot 20 (by kernel_rfl)) (q1.ms (by simp) (by rw [mkC_app])) q2 q3)⟩
              | 11, ho =>
                obtain rfl := Option.some.inj ho
                have e0 := hout 0 (by kernel_rfl)
                replace e0 : a'.eval (.tmp 0) = _ := e0.trans rfl
                exact wp_move (.tmp 0) rfl _ e0 ⟨_, rfl, told_of rfl, keepG (St := (S14 wc r L k x)) [7, 9, 10, 17, 20] S14.loc (by omega) (by decide) hJ⟩
              | 12, ho =>
                obtain rfl := Option.some.inj ho
                have e0 : a'.eval (.tmp 124) = P0 r := by have h9 := hin 11 124 (by kernel_rfl) (by kernel_rfl); exact h9.1.trans (told_is _ h9.2 rfl)
                exact o_nil (.tmp 124) rfl _ e0 ⟨_, rfl, told_of rfl, keepG (St := (S14 wc r L k x)) [7, 9, 10, 17, 20] S14.loc (by omega) (by decide) hJ⟩
              | 13, ho =>
                obtain rfl := Option.some.inj ho
                have e0 : a'.eval (.tmp 125) = P0 r := by have h9 := hin 12 125 (by kernel_rfl) (by kernel_rfl); exact h9.1.trans (told_is _ h9.2 rfl)
                exact o_fld30_0 (.tmp 125) rfl r (0) (0) rfl e0 ⟨_, rfl, told_of rfl, keepG (St := (S14 wc r L k x)) [7, 9, 10, 17, 20] S14.loc (by omega) (by decide) hJ⟩
              | 14, ho =>
                obtain rfl := Option.some.inj ho
                have e0 : a'.eval (.tmp 126) = P0 r := by have h9 := hin 13 126 (by kernel_rfl) (by kernel_rfl); exact h9.1.trans (told_is _ h9.2 rfl)
                exact o_load28 (.tmp 126) rfl _ _ e0 (fits_cell ((unhide HR).blk.kept (hJ.k0 (hnot 20 (by kernel_rfl))) (by simp)) 0 _ rfl) ⟨_, rfl, told_of rfl, keepG (St := (S14 wc r L k x)) [7, 9, 10, 17, 20] S14.loc (by omega) (by decide) hJ⟩
              | 15, ho =>
                obtain rfl := Option.some.inj ho
                have e0 := hout 10 (by kernel_rfl)
                replace e0 : a'.eval (.tmp 10) = _ := e0.trans rfl
                exact wp_move (.tmp 10) rfl _ e0 ⟨_, rfl, told_of rfl, keepG (St := (S14 wc r L k x)) [7, 9, 10, 17, 20] S14.loc (by omega) (by decide) hJ⟩
              | 16, ho =>
                obtain rfl := Option.some.inj ho
                have e0 : a'.eval (.tmp 127) = .slice ao L.length cc := by have h9 := hin 14 127 (by kernel_rfl) (by kernel_rfl); exact h9.1.trans (told_is _ h9.2 rfl)
                have e1 : a'.eval (.tmp 128) = .int .i64 k := by have h9 := hin 15 128 (by kernel_rfl) (by kernel_rfl); exact h9.1.trans (told_is _ h9.2 rfl)
                exact o_rest28 (.tmp 127) (.tmp 128) rfl ao L.length cc k (unhide HLC) (unhide HNO) (unhide HPL) e0 e1 ⟨_, rfl, told_of rfl, keepG (St := (S14 wc r L k x)) [7, 9, 10, 17, 20] S14.loc (by omega) (by decide) hJ⟩
              | 17, ho =>
                obtain rfl := Option.some.inj ho
                have e0 : a'.eval (.tmp 123) = vs 10 := (hin 10 123 (by kernel_rfl) (by kernel_rfl)).1
                have e1 : a'.eval (.tmp 129) = restV 3 ao L.length cc k := by have h9 := hin 16 129 (by kernel_rfl) (by kernel_rfl); exact h9.1.trans (told_is _ h9.2 rfl)
                have h7 := hJ.c (hdep 10 (by kernel_rfl)) hlf
                refine o_appR el28 (.tmp 123) (.tmp 129) rfl _ _ _ e0 h7.1 _ _ _ e1 (Ms.tailR ((unhide HR).row.kept (hJ.k0 (hnot 20 (by kernel_rfl))) (fun _ _ => by simp)) k (unhide HPL)) (mkC_one _) (by have := unhide HPL; have := unhide HMN; first | omega | (simp; omega)) (by have := unhide HPL; have := unhide HMN; unfold maxLen; first | omega | (simp; omega)) (fun v1 W1 q1 q2 q3 q4 => ?_)
                exact ⟨_, rfl, told_no rfl, nextG (St := (S14 wc r L k x)) (by omega) (S14.m17 hJ (hdep 10 (by kernel_rfl)) hlf (hnot 20 (by kernel_rfl)) (q1.ms (by have := unhide HPL; simp; omega) (by simp only [mkC_app])) q2 q3)⟩
              | 18, ho =>
                obtain rfl := Option.some.inj ho
                have e0 : a'.eval (.tmp 113) = P0 r := by have h9 := hin 0 113 (by kernel_rfl) (by kernel_rfl); exact h9.1.trans (told_is _ h9.2 rfl)
                exact o_nil (.tmp 113) rfl _ e0 ⟨_, rfl, told_of rfl, keepG (St := (S14 wc r L k x)) [7, 9, 10, 17, 20] S14.loc (by omega) (by decide) hJ⟩
              | 19, ho =>
                obtain rfl := Option.some.inj ho
                have e0 : a'.eval (.tmp 131) = P0 r := by have h9 := hin 18 131 (by kernel_rfl) (by kernel_rfl); exact h9.1.trans (told_is _ h9.2 rfl)
                exact o_fld30_0 (.tmp 131) rfl r (0) (0) rfl e0 ⟨_, rfl, told_of rfl, keepG (St := (S14 wc r L k x)) [7, 9, 10, 17, 20] S14.loc (by omega) (by decide) hJ⟩
              | 20, ho =>
                obtain rfl := Option.some.inj ho
                have e0 : a'.eval (.tmp 132) = P0 r := by have h9 := hin 19 132 (by kernel_rfl) (by kernel_rfl); exact h9.1.trans (told_is _ h9.2 rfl)
                have e1 : a'.eval (.tmp 130) = vs 17 := (hin 17 130 (by kernel_rfl) (by kernel_rfl)).1
                have h7 := hJ.e (hdep 17 (by kernel_rfl))
                refine o_stB size28 (.tmp 132) (.tmp 130) rfl rfl r _ _ (Rw.one h7.1) e0 e1 ((unhide HR).blk.kept (hJ.k0 hlf) (by simp)) (fun W1 q1 q2 => ?_)
                exact ⟨undef, rfl, told_no rfl, nextG (St := (S14 wc r L k x)) (by omega) (S14.m20 hJ (unhide HRL) (hdep 17 (by kernel_rfl)) hlf q2 q1)⟩
            intro l_ vs4 V4 hl hJ htold
            have t0 : vs4 0 = P0 r := told_is _ (htold 0 (by decide)) rfl
            have t1 : vs4 1 = P0 r := told_is _ (htold 1 (by decide)) rfl
            have t2 : vs4 2 = P0 r := told_is _ (htold 2 (by decide)) rfl
            have t3 : vs4 3 = P0 r := told_is _ (htold 3 (by decide)) rfl
            have t4 : vs4 4 = .slice ao L.length cc := told_is _ (htold 4 (by decide)) rfl
            have t5 : vs4 5 = .int .i64 k := told_is _ (htold 5 (by decide)) rfl
            have t6 : vs4 6 = .slice ao k cc := told_is _ (htold 6 (by decide)) rfl
            have t8 : vs4 8 = aggV x.C := told_is _ (htold 8 (by decide)) rfl
            have t11 : vs4 11 = P0 r := told_is _ (htold 11 (by decide)) rfl
            have t12 : vs4 12 = P0 r := told_is _ (htold 12 (by decide)) rfl
            have t13 : vs4 13 = P0 r := told_is _ (htold 13 (by decide)) rfl
            have t14 : vs4 14 = .slice ao L.length cc := told_is _ (htold 14 (by decide)) rfl
            have t15 : vs4 15 = .int .i64 k := told_is _ (htold 15 (by decide)) rfl
            have t16 : vs4 16 = restV 3 ao L.length cc k := told_is _ (htold 16 (by decide)) rfl
            have t18 : vs4 18 = P0 r := told_is _ (htold 18 (by decide)) rfl
            have t19 : vs4 19 = P0 r := told_is _ (htold 19 (by decide)) rfl
            rw [show (List.range 21).map vs4 = [vs4 0, vs4 1, vs4 2, vs4 3, vs4 4, vs4 5, vs4 6, vs4 7, vs4 8, vs4 9, vs4 10, vs4 11, vs4 12, vs4 13, vs4 14, vs4 15, vs4 16, vs4 17, vs4 18, vs4 19, vs4 20] from rfl]
            simp only [t0, t1, t2, t3, t4, t5, t6, t8, t11, t12, t13, t14, t15, t16, t18, t19, putAll, Act.put, List.setIfInBounds_toArray, List.set_cons_succ, List.set_cons_zero]
            clear t0 t1 t2 t3 t4 t5 t6 t8 t11 t12 t13 t14 t15 t16 t18 t19 htold
            have h17 := hJ.e (hl 17 (by decide))
            have h20 := hJ.f (hl 20 (by decide))
            have HA := hide h17
            have HB := hide h20
            clear h17 h20 hJ hl
            go_wp2_with fail
            go_ret
            have hins : (rmarkP p s f L).2 = L.take k ++ [x] ++ L.drop k := by rw [unhide HPU]; unfold insM; rw [unhide HPK]
            refine ⟨by rw [unhide HPU]; rfl, ⟨vs4 17, ⟨(unhide HB).2, by rw [hins]; exact (unhide HA).1, by rw [hins]; have := unhide HMN; have := unhide HPL; simp; omega⟩, fun i hi => .inr (Nat.le_trans (unhide HK).size ((unhide HA).2 i hi))⟩, ?_⟩
            exact ((unhide HK).mono (by simp)).trans ((unhide HB).1.mono (by simp))
      · have d1 : (m.p == p) = false := by simpa using h1
        have d2 : decide (m.p = p) = false := by simpa using h1
        have HRP : Hid (rmarkP p s f L = rputM x L) := by show _ = _; rw [unhide HRM2, if_neg (fun e => h1 e.1)]
        clear h1
        by_cases h256 : L.length = 256
        · have e1 : ((L.length : Int) == 256) = true := by simp; omega
          have e2 : decide ((L.length : Int) = 256) = true := by simp; omega
          have HPU : Hid (rmarkP p s f L = (5, L)) := by show _ = _; rw [unhide HRP]; unfold rputM; rw [if_pos h256]
          clear h256
          go_wp2_with (
            first
            | (refine wpIdx28W (by rfl) (.tmp 70) (.tmp 71) rfl _ L k m rfl rfl (unhide HR).row (unhide HMK) ?_
               intro a oa hr
               obtain ⟨ca0, ca1, ca2⟩ := range_c hr
               clear hr
               refine Stp.go ?_))
          constructor
          go_wp2_with fail
          go_ret
          exact ⟨by rw [unhide HPU]; rfl, ⟨_, by rw [unhide HPU]; exact unhide HR, fun i hi => .inl hi⟩, (unhide HK).mono (by simp)⟩
        · have e1 : ((L.length : Int) == 256) = false := by simp; omega
          have e2 : decide ((L.length : Int) = 256) = false := by simp; omega
          have HPU : Hid (rmarkP p s f L = (0, insM x L)) := by show _ = _; rw [unhide HRP]; unfold rputM; rw [if_neg h256]
          have HMN : Hid (L.length ≤ 255) := by show _ ≤ _; omega
          clear h256
          go_wp2_with (
            first
            | (refine wpIdx28W (by rfl) (.tmp 70) (.tmp 71) rfl _ L k m rfl rfl (unhide HR).row (unhide HMK) ?_
               intro a oa hr
               obtain ⟨ca0, ca1, ca2⟩ := range_c hr
               clear hr
               refine Stp.go ?_))
          constructor
          go_upto_region 14 with fail
          refine wp_region_any mixed (wpAny_gx 21 rfl (by kernel_rfl) [some (P0 r), some (P0 r), some (P0 r), some (P0 r), some (.slice ao L.length cc), some (.int .i64 k), some (.slice ao k cc), none, some (aggV x.C), none, none, some (P0 r), some (P0 r), some (P0 r), some (.slice ao L.length cc), some (.int .i64 k), some (restV 3 ao L.length cc k), none, some (P0 r), some (P0 r), none] rfl (by kernel_rfl) (fun l vs W => (S14 wc r L k x) (fun i => l.getD i false) vs W) (S14.start wc r L k x) ?_ ?_)
          · intro ix o' hi ho a' w2 l vs hls hlf hJ hout hin hdep hnot
            match ix, ho with
            | 0, ho =>
              obtain rfl := Option.some.inj ho
              have e0 := hout 0 (by kernel_rfl)
              replace e0 : a'.eval (.tmp 0) = _ := e0.trans rfl
              exact wp_move (.tmp 0) rfl _ e0 ⟨_, rfl, told_of rfl, keepG (St := (S14 wc r L k x)) [7, 9, 10, 17, 20] S14.loc (by omega) (by decide) hJ⟩
            | 1, ho =>
              obtain rfl := Option.some.inj ho
              have e0 := hout 0 (by kernel_rfl)
              replace e0 : a'.eval (.tmp 0) = _ := e0.trans rfl
              exact wp_move (.tmp 0) rfl _ e0 ⟨_, rfl, told_of rfl, keepG (St := (S14 wc r L k x)) [7, 9, 10, 17, 20] S14.loc (by omega) (by decide) hJ⟩
            | 2, ho =>
              obtain rfl := Option.some.inj ho
              have e0 : a'.eval (.tmp 114) = P0 r := by have h9 := hin 1 114 (by kernel_rfl) (by kernel_rfl); exact h9.1.trans (told_is _ h9.2 rfl)
              exact o_nil (.tmp 114) rfl _ e0 ⟨_, rfl, told_of rfl, keepG (St := (S14 wc r L k x)) [7, 9, 10, 17, 20] S14.loc (by omega) (by decide) hJ⟩
            | 3, ho =>
              obtain rfl := Option.some.inj ho
              have e0 : a'.eval (.tmp 115) = P0 r := by have h9 := hin 2 115 (by kernel_rfl) (by kernel_rfl); exact h9.1.trans (told_is _ h9.2 rfl)
              exact o_fld30_0 (.tmp 115) rfl r (0) (0) rfl e0 ⟨_, rfl, told_of rfl, keepG (St := (S14 wc r L k x)) [7, 9, 10, 17, 20] S14.loc (by omega) (by decide) hJ⟩
            | 4, ho =>
              obtain rfl := Option.some.inj ho
              have e0 : a'.eval (.tmp 116) = P0 r := by have h9 := hin 3 116 (by kernel_rfl) (by kernel_rfl); exact h9.1.trans (told_is _ h9.2 rfl)
              exact o_load28 (.tmp 116) rfl _ _ e0 (fits_cell ((unhide HR).blk.kept (hJ.k0 (hnot 20 (by kernel_rfl))) (by simp)) 0 _ rfl) ⟨_, rfl, told_of rfl, keepG (St := (S14 wc r L k x)) [7, 9, 10, 17, 20] S14.loc (by omega) (by decide) hJ⟩
            | 5, ho =>
              obtain rfl := Option.some.inj ho
              have e0 := hout 10 (by kernel_rfl)
              replace e0 : a'.eval (.tmp 10) = _ := e0.trans rfl
              exact wp_move (.tmp 10) rfl _ e0 ⟨_, rfl, told_of rfl, keepG (St := (S14 wc r L k x)) [7, 9, 10, 17, 20] S14.loc (by omega) (by decide) hJ⟩
            | 6, ho =>
              obtain rfl := Option.some.inj ho
              have e0 : a'.eval (.tmp 117) = .slice ao L.length cc := by have h9 := hin 4 117 (by kernel_rfl) (by kernel_rfl); exact h9.1.trans (told_is _ h9.2 rfl)
              have e1 : a'.eval (.tmp 118) = .int .i64 k := by have h9 := hin 5 118 (by kernel_rfl) (by kernel_rfl); exact h9.1.trans (told_is _ h9.2 rfl)
              exact o_head28 (.tmp 117) (.tmp 118) rfl ao L.length cc k (unhide HLC) (unhide HNO) (unhide HPL) e0 e1 ⟨_, rfl, told_of rfl, keepG (St := (S14 wc r L k x)) [7, 9, 10, 17, 20] S14.loc (by omega) (by decide) hJ⟩
            | 7, ho =>
              obtain rfl := Option.some.inj ho
              have e0 : a'.eval (.tmp 119) = .slice ao k cc := by have h9 := hin 6 119 (by kernel_rfl) (by kernel_rfl); exact h9.1.trans (told_is _ h9.2 rfl)
              refine o_appR el28 (.const (.slice none 0 0)) (.tmp 119) rfl (.slice none 0 0) 0 [] rfl (Rw.nil _) _ k (mkC (L.take k)) e0 (Ms.headR ((unhide HR).row.kept (hJ.k0 (hnot 20 (by kernel_rfl))) (fun _ _ => by simp)) k (unhide HPL)) (mkC_one _) (by have := unhide HPL; have := unhide HMN; first | omega | (simp; omega)) (by have := unhide HPL; have := unhide HMN; unfold maxLen; first | omega | (simp; omega)) (fun v1 W1 q1 q2 q3 q4 => ?_)
              exact ⟨_, rfl, told_no rfl, nextG (St := (S14 wc r L k x)) (by omega) (S14.m7 hJ (hnot 10 (by kernel_rfl)) (hnot 17 (by kernel_rfl)) (hnot 20 (by kernel_rfl)) (q1.ms (by have := unhide HPL; simp; omega) (by simp)) (fun i hi => by rcases q3 i hi with h8 | h8; cases h8; exact h8) q2)⟩
            | 8, ho =>
              obtain rfl := Option.some.inj ho
              have e0 := hout 9 (by kernel_rfl)
              replace e0 : a'.eval (.tmp 9) = _ := e0.trans rfl
              exact wp_loadA row54 (.tmp 9) rfl y (0) e0 (x.C) (rfl) (((unhide HY).kept (hJ.k0 (hnot 20 (by kernel_rfl))) (by simp)).range) ⟨_, rfl, told_of rfl, keepG (St := (S14 wc r L k x)) [7, 9, 10, 17, 20] S14.loc (by omega) (by decide) hJ⟩
            | 9, ho =>
              obtain rfl := Option.some.inj ho
              have e0 : a'.eval (.tmp 121) = aggV x.C := by have h9 := hin 8 121 (by kernel_rfl) (by kernel_rfl); exact h9.1.trans (told_is _ h9.2 rfl)
              refine o_bs28 (.tmp 121) rfl x e0 (fun W1 g1 q0 q1 q2 => ?_)
              exact ⟨_, rfl, told_no rfl, nextG (St := (S14 wc r L k x)) (by omega) (S14.m9 hJ (hnot 10 (by kernel_rfl)) (hnot 17 (by kernel_rfl)) (hnot 20 (by kernel_rfl)) (Ms.one q1) q2)⟩
            | 10, ho =>
              obtain rfl := Option.some.inj ho
              have e0 : a'.eval (.tmp 120) = vs 7 := (hin 7 120 (by kernel_rfl) (by kernel_rfl)).1
              have e1 : a'.eval (.tmp 122) = vs 9 := (hin 9 122 (by kernel_rfl) (by kernel_rfl)).1
              have h7 := hJ.a (hdep 7 (by kernel_rfl)) hlf
              have h9 := hJ.b (hdep 9 (by kernel_rfl)) hlf
              refine o_appR el28 (.tmp 120) (.tmp 122) rfl _ _ _ e0 h7.1 _ _ _ e1 h9 (mkC_one _) (by have := unhide HPL; have := unhide HMN; first | omega | (simp; omega)) (by have := unhide HPL; have := unhide HMN; unfold maxLen; first | omega | (simp; omega)) (fun v1 W1 q1 q2 q3 q4 => ?_)
              exact ⟨_, rfl, told_no rfl, nextG (St := (S14 wc r L k x)) (by omega) (S14.m10 hJ (hdep 7 (by kernel_rfl)) hlf (hnot 17 (by kernel_rfl)) (hnot 20 (by kernel_rfl)) (q1.ms (by simp) (by rw [mkC_app])) q2 q3)⟩
            | 11, ho =>
              obtain rfl := Option.some.inj ho
              have e0 := hout 0 (by kernel_rfl)
              replace e0 : a'.eval (.tmp 0) = _ := e0.trans rfl
              exact wp_move (.tmp 0) rfl _ e0 ⟨_, rfl, told_of rfl, keepG (St := (S14 wc r L k x)) [7, 9, 10, 17, 20] S14.loc (by omega) (by decide) hJ⟩
            | 12, ho =>
              obtain rfl := Option.some.inj ho
              have e0 : a'.eval (.tmp 124) = P0 r := by have h9 := hin 11 124 (by kernel_rfl) (by kernel_rfl); exact h9.1.trans (told_is _ h9.2 rfl)
              exact o_nil (.tmp 124) rfl _ e0 ⟨_, rfl, told_of rfl, keepG (St := (S14 wc r L k x)) [7, 9, 10, 17, 20] S14.loc (by omega) (by decide) hJ⟩
            | 13, ho =>
              obtain rfl := Option.some.inj ho
              have e0 : a'.eval (.tmp 125) = P0 r := by have h9 := hin 12 125 (by kernel_rfl) (by kernel_rfl); exact h9.1.trans (told_is _ h9.2 rfl)
              exact o_fld30_0 (.tmp 125) rfl r (0) (0) rfl e0 ⟨_, rfl, told_of rfl, keepG (St := (S14 wc r L k x)) [7, 9, 10, 17, 20] S14.loc (by omega) (by decide) hJ⟩
            | 14, ho =>
              obtain rfl := Option.some.inj ho
              have e0 : a'.eval (.tmp 126) = P0 r := by have h9 := hin 13 126 (by kernel_rfl) (by kernel_rfl); exact h9.1.trans (told_is _ h9.2 rfl)
              exact o_load28 (.tmp 126) rfl _ _ e0 (fits_cell ((unhide HR).blk.kept (hJ.k0 (hnot 20 (by kernel_rfl))) (by simp)) 0 _ rfl) ⟨_, rfl, told_of rfl, keepG (St := (S14 wc r L k x)) [7, 9, 10, 17, 20] S14.loc (by omega) (by decide) hJ⟩
            | 15, ho =>
              obtain rfl := Option.some.inj ho
              have e0 := hout 10 (by kernel_rfl)
              replace e0 : a'.eval (.tmp 10) = _ := e0.trans rfl
              exact wp_move (.tmp 10) rfl _ e0 ⟨_, rfl, told_of rfl, keepG (St := (S14 wc r L k x)) [7, 9, 10, 17, 20] S14.loc (by omega) (by decide) hJ⟩
            | 16, ho =>
              obtain rfl := Option.some.inj ho
              have e0 : a'.eval (.tmp 127) = .slice ao L.length cc := by have h9 := hin 14 127 (by kernel_rfl) (by kernel_rfl); exact h9.1.trans (told_is _ h9.2 rfl)
              have e1 : a'.eval (.tmp 128) = .int .i64 k := by have h9 := hin 15 128 (by kernel_rfl) (by kernel_rfl); exact h9.1.trans (told_is _ h9.2 rfl)
              exact o_rest28 (.tmp 127) (.tmp 128) rfl ao L.length cc k (unhide HLC) (unhide HNO) (unhide HPL) e0 e1 ⟨_, rfl, told_of rfl, keepG (St := (S14 wc r L k x)) [7, 9, 10, 17, 20] S14.loc (by omega) (by decide) hJ⟩
            | 17, ho =>
              obtain rfl := Option.some.inj ho
              have e0 : a'.eval (.tmp 123) = vs 10 := (hin 10 123 (by kernel_rfl) (by kernel_rfl)).1
              have e1 : a'.eval (.tmp 129) = restV 3 ao L.length cc k := by have h9 := hin 16 129 (by kernel_rfl) (by kernel_rfl); exact h9.1.trans (told_is _ h9.2 rfl)
              have h7 := hJ.c (hdep 10 (by kernel_rfl)) hlf
              refine o_appR el28 (.tmp 123) (.tmp 129) rfl _ _ _ e0 h7.1 _ _ _ e1 (Ms.tailR ((unhide HR).row.kept (hJ.k0 (hnot 20 (by kernel_rfl))) (fun _ _ => by simp)) k (unhide HPL)) (mkC_one _) (by have := unhide HPL; have := unhide HMN; first | omega | (simp; omega)) (by have := unhide HPL; have := unhide HMN; unfold maxLen; first | omega | (simp; omega)) (fun v1 W1 q1 q2 q3 q4 => ?_)
              exact ⟨_, rfl, told_no rfl, nextG (St := (S14 wc r L k x)) (by omega) (S14.m17 hJ (hdep 10 (by kernel_rfl)) hlf (hnot 20 (by kernel_rfl)) (q1.ms (by have := unhide HPL; simp; omega) (by simp only [mkC_app])) q2 q3)⟩
            | 18, ho =>
              obtain rfl := Option.some.inj ho
              have e0 : a'.eval (.tmp 113) = P0 r := by have h9 := hin 0 113 (by kernel_rfl) (by kernel_rfl); exact h9.1.trans (told_is _ h9.2 rfl)
              exact o_nil (.tmp 113) rfl _ e0 ⟨_, rfl, told_of rfl, keepG (St := (S14 wc r L k x)) [7, 9, 10, 17, 20] S14.loc (by omega) (by decide) hJ⟩
            | 19, ho =>
              obtain rfl := Option.some.inj ho
              have e0 : a'.eval (.tmp 131) = P0 r := by have h9 := hin 18 131 (by kernel_rfl) (by kernel_rfl); exact h9.1.trans (told_is _ h9.2 rfl)
              exact o_fld30_0 (.tmp 131) rfl r (0) (0) rfl e0 ⟨_, rfl, told_of rfl, keepG (St := (S14 wc r L k x)) [7, 9, 10, 17, 20] S14.loc (by omega) (by decide) hJ⟩
            | 20, ho =>
              obtain rfl := Option.some.inj ho
              have e0 : a'.eval (.tmp 132) = P0 r := by have h9 := hin 19 132 (by kernel_rfl) (by kernel_rfl); exact h9.1.trans (told_is _ h9.2 rfl)
              have e1 : a'.eval (.tmp 130) = vs 17 := (hin 17 130 (by kernel_rfl) (by kernel_rfl)).1
              have h7 := hJ.e (hdep 17 (by kernel_rfl))
              refine o_stB size28 (.tmp 132) (.tmp 130) rfl rfl r _ _ (Rw.one h7.1) e0 e1 ((unhide HR).blk.kept (hJ.k0 hlf) (by simp)) (fun W1 q1 q2 => ?_)
              exact ⟨undef, rfl, told_no rfl, nextG (St := (S14 wc r L k x)) (by omega) (S14.m20 hJ (unhide HRL) (hdep 17 (by kernel_rfl)) hlf q2 q1)⟩
          intro l_ vs4 V4 hl hJ htold
          have t0 : vs4 0 = P0 r := told_is _ (htold 0 (by decide)) rfl
          have t1 : vs4 1 = P0 r := told_is _ (htold 1 (by decide)) rfl
          have t2 : vs4 2 = P0 r := told_is _ (htold 2 (by decide)) rfl
          have t3 : vs4 3 = P0 r := told_is _ (htold 3 (by decide)) rfl
          have t4 : vs4 4 = .slice ao L.length cc := told_is _ (htold 4 (by decide)) rfl
          have t5 : vs4 5 = .int .i64 k := told_is _ (htold 5 (by decide)) rfl
          have t6 : vs4 6 = .slice ao k cc := told_is _ (htold 6 (by decide)) rfl
          have t8 : vs4 8 = aggV x.C := told_is _ (htold 8 (by decide)) rfl
          have t11 : vs4 11 = P0 r := told_is _ (htold 11 (by decide)) rfl
          have t12 : vs4 12 = P0 r := told_is _ (htold 12 (by decide)) rfl
          have t13 : vs4 13 = P0 r := told_is _ (htold 13 (by decide)) rfl
          have t14 : vs4 14 = .slice ao L.length cc := told_is _ (htold 14 (by decide)) rfl
          have t15 : vs4 15 = .int .i64 k := told_is _ (htold 15 (by decide)) rfl
          have t16 : vs4 16 = restV 3 ao L.length cc k := told_is _ (htold 16 (by decide)) rfl
          have t18 : vs4 18 = P0 r := told_is _ (htold 18 (by decide)) rfl
          have t19 : vs4 19 = P0 r := told_is _ (htold 19 (by decide)) rfl
          rw [show (List.range 21).map vs4 = [vs4 0, vs4 1, vs4 2, vs4 3, vs4 4, vs4 5, vs4 6, vs4 7, vs4 8, vs4 9, vs4 10, vs4 11, vs4 12, vs4 13, vs4 14, vs4 15, vs4 16, vs4 17, vs4 18, vs4 19, vs4 20] from rfl]
          simp only [t0, t1, t2, t3, t4, t5, t6, t8, t11, t12, t13, t14, t15, t16, t18, t19, putAll, Act.put, List.setIfInBounds_toArray, List.set_cons_succ, List.set_cons_zero]
          clear t0 t1 t2 t3 t4 t5 t6 t8 t11 t12 t13 t14 t15 t16 t18 t19 htold
          have h17 := hJ.e (hl 17 (by decide))
          have h20 := hJ.f (hl 20 (by decide))
          have HA := hide h17
          have HB := hide h20
          clear h17 h20 hJ hl
          go_wp2_with fail
          go_ret
          have hins : (rmarkP p s f L).2 = L.take k ++ [x] ++ L.drop k := by rw [unhide HPU]; unfold insM; rw [unhide HPK]
          refine ⟨by rw [unhide HPU]; rfl, ⟨vs4 17, ⟨(unhide HB).2, by rw [hins]; exact (unhide HA).1, by rw [hins]; have := unhide HMN; have := unhide HPL; simp; omega⟩, fun i hi => .inr (Nat.le_trans (unhide HK).size ((unhide HA).2 i hi))⟩, ?_⟩
          exact ((unhide HK).mono (by simp)).trans ((unhide HB).1.mono (by simp))
    · have hkE : k = L.length := by omega
      have hd : decide ((k : Int) < (L.length : Int)) = false := by simp; omega
      have HRP : Hid (rmarkP p s f L = rputM x L) := by show _ = _; rw [unhide HRM1, List.getElem?_eq_none (by omega)]
      have cr := (unhide HR).cw
      by_cases h256 : L.length = 256
      · have e1 : ((L.length : Int) == 256) = true := by simp; omega
        have e2 : decide ((L.length : Int) = 256) = true := by simp; omega
        have HPU : Hid (rmarkP p s f L = (5, L)) := by show _ = _; rw [unhide HRP]; unfold rputM; rw [if_pos h256]
        clear h256
        go_wp2_with fail
        go_ret
        exact ⟨by rw [unhide HPU]; rfl, ⟨_, by rw [unhide HPU]; exact unhide HR, fun i hi => .inl hi⟩, (unhide HK).mono (by simp)⟩
      · have e1 : ((L.length : Int) == 256) = false := by simp; omega
        have e2 : decide ((L.length : Int) = 256) = false := by simp; omega
        have HPU : Hid (rmarkP p s f L = (0, insM x L)) := by show _ = _; rw [unhide HRP]; unfold rputM; rw [if_neg h256]
        have HMN : Hid (L.length ≤ 255) := by show _ ≤ _; omega
        clear h256
        go_upto_region 14 with fail
        refine wp_region_any mixed (wpAny_gx 21 rfl (by kernel_rfl) [some (P0 r), some (P0 r), some (P0 r), some (P0 r), some (.slice ao L.length cc), some (.int .i64 k), some (.slice ao k cc), none, some (aggV x.C), none, none, some (P0 r), some (P0 r), some (P0 r), some (.slice ao L.length cc), some (.int .i64 k), some (restV 3 ao L.length cc k), none, some (P0 r), some (P0 r), none] rfl (by kernel_rfl) (fun l vs W => (S14 wc r L k x) (fun i => l.getD i false) vs W) (S14.start wc r L k x) ?_ ?_)
        · intro ix o' hi ho a' w2 l vs hls hlf hJ hout hin hdep hnot
          match ix, ho with
          | 0, ho =>
            obtain rfl := Option.some.inj ho
            have e0 := hout 0 (by kernel_rfl)
            replace e0 : a'.eval (.tmp 0) = _ := e0.trans rfl
            exact wp_move (.tmp 0) rfl _ e0 ⟨_, rfl, told_of rfl, keepG (St := (S14 wc r L k x)) [7, 9, 10, 17, 20] S14.loc (by omega) (by decide) hJ⟩
          | 1, ho =>
            obtain rfl := Option.some.inj ho
            have e0 := hout 0 (by kernel_rfl)
            replace e0 : a'.eval (.tmp 0) = _ := e0.trans rfl
            exact wp_move (.tmp 0) rfl _ e0 ⟨_, rfl, told_of rfl, keepG (St := (S14 wc r L k x)) [7, 9, 10, 17, 20] S14.loc (by omega) (by decide) hJ⟩
          | 2, ho =>
            obtain rfl := Option.some.inj ho
            have e0 : a'.eval (.tmp 114) = P0 r := by have h9 := hin 1 114 (by kernel_rfl) (by kernel_rfl); exact h9.1.trans (told_is _ h9.2 rfl)
            exact o_nil (.tmp 114) rfl _ e0 ⟨_, rfl, told_of rfl, keepG (St := (S14 wc r L k x)) [7, 9, 10, 17, 20] S14.loc (by omega) (by decide) hJ⟩
          | 3, ho =>
            obtain rfl := Option.some.inj ho
            have e0 : a'.eval (.tmp 115) = P0 r := by have h9 := hin 2 115 (by kernel_rfl) (by kernel_rfl); exact h9.1.trans (told_is _ h9.2 rfl)
            exact o_fld30_0 (.tmp 115) rfl r (0) (0) rfl e0 ⟨_, rfl, told_of rfl, keepG (St := (S14 wc r L k x)) [7, 9, 10, 17, 20] S14.loc (by omega) (by decide) hJ⟩
          | 4, ho =>
            obtain rfl := Option.some.inj ho
            have e0 : a'.eval (.tmp 116) = P0 r := by have h9 := hin 3 116 (by kernel_rfl) (by kernel_rfl); exact h9.1.trans (told_is _ h9.2 rfl)
            exact o_load28 (.tmp 116) rfl _ _ e0 (fits_cell ((unhide HR).blk.kept (hJ.k0 (hnot 20 (by kernel_rfl))) (by simp)) 0 _ rfl) ⟨_, rfl, told_of rfl, keepG (St := (S14 wc r L k x)) [7, 9, 10, 17, 20] S14.loc (by omega) (by decide) hJ⟩
          | 5, ho =>
            obtain rfl := Option.some.inj ho
            have e0 := hout 10 (by kernel_rfl)
            replace e0 : a'.eval (.tmp 10) = _ := e0.trans rfl
            exact wp_move (.tmp 10) rfl _ e0 ⟨_, rfl, told_of rfl, keepG (St := (S14 wc r L k x)) [7, 9, 10, 17, 20] S14.loc (by omega) (by decide) hJ⟩
          | 6, ho =>
            obtain rfl := Option.some.inj ho
            have e0 : a'.eval (.tmp 117) = .slice ao L.length cc := by have h9 := hin 4 117 (by kernel_rfl) (by kernel_rfl); exact h9.1.trans (told_is _ h9.2 rfl)
            have e1 : a'.eval (.tmp 118) = .int .i64 k := by have h9 := hin 5 118 (by kernel_rfl) (by kernel_rfl); exact h9.1.trans (told_is _ h9.2 rfl)
            exact o_head28 (.tmp 117) (.tmp 118) rfl ao L.length cc k (unhide HLC) (unhide HNO) (unhide HPL) e0 e1 ⟨_, rfl, told_of rfl, keepG (St := (S14 wc r L k x)) [7, 9, 10, 17, 20] S14.loc (by omega) (by decide) hJ⟩
          | 7, ho =>
            obtain rfl := Option.some.inj ho
            have e0 : a'.eval (.tmp 119) = .slice ao k cc := by have h9 := hin 6 119 (by kernel_rfl) (by kernel_rfl); exact h9.1.trans (told_is _ h9.2 rfl)
            refine o_appR el28 (.const (.slice none 0 0)) (.tmp 119) rfl (.slice none 0 0) 0 [] rfl (Rw.nil _) _ k (mkC (L.take k)) e0 (Ms.headR ((unhide HR).row.kept (hJ.k0 (hnot 20 (by kernel_rfl))) (fun _ _ => by simp)) k (unhide HPL)) (mkC_one _) (by have := unhide HPL; have := unhide HMN; first | omega | (simp; omega)) (by have := unhide HPL; have := unhide HMN; unfold maxLen; first | omega | (simp; omega)) (fun v1 W1 q1 q2 q3 q4 => ?_)
            exact ⟨_, rfl, told_no rfl, nextG (St := (S14 wc r L k x)) (by omega) (S14.m7 hJ (hnot 10 (by kernel_rfl)) (hnot 17 (by kernel_rfl)) (hnot 20 (by kernel_rfl)) (q1.ms (by have := unhide HPL; simp; omega) (by simp)) (fun i hi => by rcases q3 i hi with h8 | h8; cases h8; exact h8) q2)⟩
          | 8, ho =>
            obtain rfl := Option.some.inj ho
            have e0 := hout 9 (by kernel_rfl)
            replace e0 : a'.eval (.tmp 9) = _ := e0.trans rfl
            exact wp_loadA row54 (.tmp 9) rfl y (0) e0 (x.C) (rfl) (((unhide HY).kept (hJ.k0 (hnot 20 (by kernel_rfl))) (by simp)).range) ⟨_, rfl, told_of rfl, keepG (St := (S14 wc r L k x)) [7, 9, 10, 17, 20] S14.loc (by omega) (by decide) hJ⟩
          | 9, ho =>
            obtain rfl := Option.some.inj ho
            have e0 : a'.eval (.tmp 121) = aggV x.C := by have h9 := hin 8 121 (by kernel_rfl) (by kernel_rfl); exact h9.1.trans (told_is _ h9.2 rfl)
            refine o_bs28 (.tmp 121) rfl x e0 (fun W1 g1 q0 q1 q2 => ?_)
            exact ⟨_, rfl, told_no rfl, nextG (St := (S14 wc r L k x)) (by omega) (S14.m9 hJ (hnot 10 (by kernel_rfl)) (hnot 17 (by kernel_rfl)) (hnot 20 (by kernel_rfl)) (Ms.one q1) q2)⟩
          | 10, ho =>
            obtain rfl := Option.some.inj ho
            have e0 : a'.eval (.tmp 120) = vs 7 := (hin 7 120 (by kernel_rfl) (by kernel_rfl)).1
            have e1 : a'.eval (.tmp 122) = vs 9 := (hin 9 122 (by kernel_rfl) (by kernel_rfl)).1
            have h7 := hJ.a (hdep 7 (by kernel_rfl)) hlf
            have h9 := hJ.b (hdep 9 (by kernel_rfl)) hlf
            refine o_appR el28 (.tmp 120) (.tmp 122) rfl _ _ _ e0 h7.1 _ _ _ e1 h9 (mkC_one _) (by have := unhide HPL; have := unhide HMN; first | omega | (simp; omega)) (by have := unhide HPL; have := unhide HMN; unfold maxLen; first | omega | (simp; omega)) (fun v1 W1 q1 q2 q3 q4 => ?_)
            exact ⟨_, rfl, told_no rfl, nextG (St := (S14 wc r L k x)) (by omega) (S14.m10 hJ (hdep 7 (by kernel_rfl)) hlf (hnot 17 (by kernel_rfl)) (hnot 20 (by kernel_rfl)) (q1.ms (by simp) (by rw [mkC_app])) q2 q3)⟩
          | 11, ho =>
            obtain rfl := Option.some.inj ho
            have e0 := hout 0 (by kernel_rfl)
            replace e0 : a'.eval (.tmp 0) = _ := e0.trans rfl
            exact wp_move (.tmp 0) rfl _ e0 ⟨_, rfl, told_of rfl, keepG (St := (S14 wc r L k x)) [7, 9, 10, 17, 20] S14.loc (by omega) (by decide) hJ⟩
          | 12, ho =>
            obtain rfl := Option.some.inj ho
            have e0 : a'.eval (.tmp 124) = P0 r := by have h9 := hin 11 124 (by kernel_rfl) (by kernel_rfl); exact h9.1.trans (told_is _ h9.2 rfl)
            exact o_nil (.tmp 124) rfl _ e0 ⟨_, rfl, told_of rfl, keepG (St := (S14 wc r L k x)) [7, 9, 10, 17, 20] S14.loc (by omega) (by decide) hJ⟩
          | 13, ho =>
            obtain rfl := Option.some.inj ho
            have e0 : a'.eval (.tmp 125) = P0 r := by have h9 := hin 12 125 (by kernel_rfl) (by kernel_rfl); exact h9.1.trans (told_is _ h9.2 rfl)
            exact o_fld30_0 (.tmp 125) rfl r (0) (0) rfl e0 ⟨_, rfl, told_of rfl, keepG (St := (S14 wc r L k x)) [7, 9, 10, 17, 20] S14.loc (by omega) (by decide) hJ⟩
          | 14, ho =>
            obtain rfl := Option.some.inj ho
            have e0 : a'.eval (.tmp 126) = P0 r := by have h9 := hin 13 126 (by kernel_rfl) (by kernel_rfl); exact h9.1.trans (told_is _ h9.2 rfl)
            exact o_load28 (.tmp 126) rfl _ _ e0 (fits_cell ((unhide HR).blk.kept (hJ.k0 (hnot 20 (by kernel_rfl))) (by simp)) 0 _ rfl) ⟨_, rfl, told_of rfl, keepG (St := (S14 wc r L k x)) [7, 9, 10, 17, 20] S14.loc (by omega) (by decide) hJ⟩
          | 15, ho =>
            obtain rfl := Option.some.inj ho
            have e0 := hout 10 (by kernel_rfl)
            replace e0 : a'.eval (.tmp 10) = _ := e0.trans rfl
            exact wp_move (.tmp 10) rfl _ e0 ⟨_, rfl, told_of rfl, keepG (St := (S14 wc r L k x)) [7, 9, 10, 17, 20] S14.loc (by omega) (by decide) hJ⟩
          | 16, ho =>
            obtain rfl := Option.some.inj ho
            have e0 : a'.eval (.tmp 127) = .slice ao L.length cc := by have h9 := hin 14 127 (by kernel_rfl) (by kernel_rfl); exact h9.1.trans (told_is _ h9.2 rfl)
            have e1 : a'.eval (.tmp 128) = .int .i64 k := by have h9 := hin 15 128 (by kernel_rfl) (by kernel_rfl); exact h9.1.trans (told_is _ h9.2 rfl)
            exact o_rest28 (.tmp 127) (.tmp 128) rfl ao L.length cc k (unhide HLC) (unhide HNO) (unhide HPL) e0 e1 ⟨_, rfl, told_of rfl, keepG (St := (S14 wc r L k x)) [7, 9, 10, 17, 20] S14.loc (by omega) (by decide) hJ⟩
          | 17, ho =>
            obtain rfl := Option.some.inj ho
            have e0 : a'.eval (.tmp 123) = vs 10 := (hin 10 123 (by kernel_rfl) (by kernel_rfl)).1
            have e1 : a'.eval (.tmp 129) = restV 3 ao L.length cc k := by have h9 := hin 16 129 (by kernel_rfl) (by kernel_rfl); exact h9.1.trans (told_is _ h9.2 rfl)
            have h7 := hJ.c (hdep 10 (by kernel_rfl)) hlf
            refine o_appR el28 (.tmp 123) (.tmp 129) rfl _ _ _ e0 h7.1 _ _ _ e1 (Ms.tailR ((unhide HR).row.kept (hJ.k0 (hnot 20 (by kernel_rfl))) (fun _ _ => by simp)) k (unhide HPL)) (mkC_one _) (by have := unhide HPL; have := unhide HMN; first | omega | (simp; omega)) (by have := unhide HPL; have := unhide HMN; unfold maxLen; first | omega | (simp; omega)) (fun v1 W1 q1 q2 q3 q4 => ?_)
            exact ⟨_, rfl, told_no rfl, nextG (St := (S14 wc r L k x)) (by omega) (S14.m17 hJ (hdep 10 (by kernel_rfl)) hlf (hnot 20 (by kernel_rfl)) (q1.ms (by have := unhide HPL; simp; omega) (by simp only [mkC_app])) q2 q3)⟩
          | 18, ho =>
            obtain rfl := Option.some.inj ho
            have e0 : a'.eval (.tmp 113) = P0 r := by have h9 := hin 0 113 (by kernel_rfl) (by kernel_rfl); exact h9.1.trans (told_is _ h9.2 rfl)
            exact o_nil (.tmp 113) rfl _ e0 ⟨_, rfl, told_of rfl, keepG (St := (S14 wc r L k x)) [7, 9, 10, 17, 20] S14.loc (by omega) (by decide) hJ⟩
          | 19, ho =>
            obtain rfl := Option.some.inj ho
            have e0 : a'.eval (.tmp 131) = P0 r := by have h9 := hin 18 131 (by kernel_rfl) (by kernel_rfl); exact h9.1.trans (told_is _ h9.2 rfl)
            exact o_fld30_0 (.tmp 131) rfl r (0) (0) rfl e0 ⟨_, rfl, told_of rfl, keepG (St := (S14 wc r L k x)) [7, 9, 10, 17, 20] S14.loc (by omega) (by decide) hJ⟩
          | 20, ho =>
            obtain rfl := Option.some.inj ho
            have e0 : a'.eval (.tmp 132) = P0 r := by have h9 := hin 19 132 (by kernel_rfl) (by kernel_rfl); exact h9.1.trans (told_is _ h9.2 rfl)
            have e1 : a'.eval (.tmp 130) = vs 17 := (hin 17 130 (by kernel_rfl) (by kernel_rfl)).1
            have h7 := hJ.e (hdep 17 (by kernel_rfl))
            refine o_stB size28 (.tmp 132) (.tmp 130) rfl rfl r _ _ (Rw.one h7.1) e0 e1 ((unhide HR).blk.kept (hJ.k0 hlf) (by simp)) (fun W1 q1 q2 => ?_)
            exact ⟨undef, rfl, told_no rfl, nextG (St := (S14 wc r L k x)) (by omega) (S14.m20 hJ (unhide HRL) (hdep 17 (by kernel_rfl)) hlf q2 q1)⟩
        intro l_ vs4 V4 hl hJ htold
        have t0 : vs4 0 = P0 r := told_is _ (htold 0 (by decide)) rfl
        have t1 : vs4 1 = P0 r := told_is _ (htold 1 (by decide)) rfl
        have t2 : vs4 2 = P0 r := told_is _ (htold 2 (by decide)) rfl
        have t3 : vs4 3 = P0 r := told_is _ (htold 3 (by decide)) rfl
        have t4 : vs4 4 = .slice ao L.length cc := told_is _ (htold 4 (by decide)) rfl
        have t5 : vs4 5 = .int .i64 k := told_is _ (htold 5 (by decide)) rfl
        have t6 : vs4 6 = .slice ao k cc := told_is _ (htold 6 (by decide)) rfl
        have t8 : vs4 8 = aggV x.C := told_is _ (htold 8 (by decide)) rfl
        have t11 : vs4 11 = P0 r := told_is _ (htold 11 (by decide)) rfl
        have t12 : vs4 12 = P0 r := told_is _ (htold 12 (by decide)) rfl
        have t13 : vs4 13 = P0 r := told_is _ (htold 13 (by decide)) rfl
        have t14 : vs4 14 = .slice ao L.length cc := told_is _ (htold 14 (by decide)) rfl
        have t15 : vs4 15 = .int .i64 k := told_is _ (htold 15 (by decide)) rfl
        have t16 : vs4 16 = restV 3 ao L.length cc k := told_is _ (htold 16 (by decide)) rfl
        have t18 : vs4 18 = P0 r := told_is _ (htold 18 (by decide)) rfl
        have t19 : vs4 19 = P0 r := told_is _ (htold 19 (by decide)) rfl
        rw [show (List.range 21).map vs4 = [vs4 0, vs4 1, vs4 2, vs4 3, vs4 4, vs4 5, vs4 6, vs4 7, vs4 8, vs4 9, vs4 10, vs4 11, vs4 12, vs4 13, vs4 14, vs4 15, vs4 16, vs4 17, vs4 18, vs4 19, vs4 20] from rfl]
        simp only [t0, t1, t2, t3, t4, t5, t6, t8, t11, t12, t13, t14, t15, t16, t18, t19, putAll, Act.put, List.setIfInBounds_toArray, List.set_cons_succ, List.set_cons_zero]
        clear t0 t1 t2 t3 t4 t5 t6 t8 t11 t12 t13 t14 t15 t16 t18 t19 htold
        have h17 := hJ.e (hl 17 (by decide))
        have h20 := hJ.f (hl 20 (by decide))
        have HA := hide h17
        have HB := hide h20
        clear h17 h20 hJ hl
        go_wp2_with fail
        go_ret
        have hins : (rmarkP p s f L).2 = L.take k ++ [x] ++ L.drop k := by rw [unhide HPU]; unfold insM; rw [unhide HPK]
        refine ⟨by rw [unhide HPU]; rfl, ⟨vs4 17, ⟨(unhide HB).2, by rw [hins]; exact (unhide HA).1, by rw [hins]; have := unhide HMN; have := unhide HPL; simp; omega⟩, fun i hi => .inr (Nat.le_trans (unhide HK).size ((unhide HA).2 i hi))⟩, ?_⟩
        exact ((unhide HK).mono (by simp)).trans ((unhide HB).1.mono (by simp))

end Go.Proofs.Ythihladmifpokaa
