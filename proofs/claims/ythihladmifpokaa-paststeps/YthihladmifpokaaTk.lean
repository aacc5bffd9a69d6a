/-
  The document's Bound, Oldest.
-/
import Derived.Test.YthihladmifpokaaTh
import Derived.Deep.CutBlock
namespace Go.Proofs.Ythihladmifpokaa
set_option maxRecDepth 100000
set_option linter.unusedSimpArgs false
open Go.RowKit


variable {w W W' : World} {r : Nat} {v : Value} {L D : List Mk} {n : Int} {F : List Int} {x y m : Mk}
theorem minM_app (n : Int) (y : Mk) : ∀ D : List Mk, minM n (fun _ => false) (D ++ [y]) = min (minM n (fun _ => false) D) y.f
  | [] => by simp [minM]; omega
  | x :: D => by
    have ih := minM_app n y D
    simp only [List.cons_append, minM, Bool.false_eq_true, if_false, ih]
    omega
theorem boundF_min (a : Int) : ∀ (F : List Int) (c : Int), boundF (min a c) F = min a (boundF c F)
  | [], c => rfl
  | f :: F, c => by
    unfold boundF
    split
    · rw [show min (min a c) f = min a (min c f) by omega]
      exact boundF_min a F _
    · exact boundF_min a F _
theorem bound_comm (n : Int) (F : List Int) : ∀ L : List Mk, boundF (minM n (fun _ => false) L) F = boundP n F L
  | [] => rfl
  | l :: L => by
    have ih := bound_comm n F L
    unfold boundP at *
    simp only [minM, Bool.false_eq_true, if_false]
    rw [boundF_min, ih]
theorem boundP_perm {M : List Mk} (h : L.Perm M) : boundP n F L = boundP n F M := minM_perm _ h
set_option maxHeartbeats 4000000 in
theorem rbound27 (h : Rp w r v L) (n : Int) (ao : Option Addr) (cf : Nat) (hF : RowS intC 1 w ao F) (hF40 : F.length ≤ 40) : Calls Try.prog 27 #[P0 r, .int .i64 n, .slice ao F.length cf] w fun e W => e = .returned (.int .i64 (boundP n F L)) ∧ W = w := by
  obtain ⟨bo, cc, rfl⟩ := h.sl
  rw [← bound_comm]
  have hmany := h.many
  have HR := hide h
  have HF := hide hF
  have cr := h.cw
  clear h hF
  go_enter Try.func27, Try.ntmps27
  go_upto_block 0 with fail
  go_cut [1, 7] from 9 to 31 (fun x1 x7 wc => x1 = .int .i64 (minM n (fun _ => false) L) ∧ w = wc)
  case first =>
    go_wp2_with fail
    go_loopw [1, 7] (fun x1 x7 wr => ∃ k : Nat, k ≤ L.length ∧ x7 = .int .i64 k ∧ x1 = .int .i64 (minM n (fun _ => false) (L.take k)) ∧ w = wr) (fun _ x7 _ => L.length - (intOf x7).toNat)
    case atStart => exact ⟨0, by omega, rfl, rfl, rfl⟩
    case round =>
      obtain ⟨k, hk, rfl, rfl, rfl⟩ := hrel
      by_cases hkl : k < L.length
      · have hd : decide ((k : Int) < (L.length : Int)) = true := by simp; omega
        obtain ⟨m, hm⟩ : ∃ m, L[k]? = some m := ⟨_, List.getElem?_eq_getElem hkl⟩
        have HMK := hide hm
        have HB : Hid (minM n (fun _ => false) (L.take (k + 1)) = min (minM n (fun _ => false) (L.take k)) m.f) := by show _ = _; rw [List.take_add_one, hm]; exact minM_app _ _ _
        clear hm
        go_wp2_with (
          first
          | (refine wpIdx28 rfl (.tmp 26) (.tmp 27) rfl _ L k m rfl rfl (unhide HR).row (unhide HMK) ?_
             intro g o' hr
             obtain ⟨c0, c1, c2⟩ := range_c hr
             clear hr
             refine Stp.go ?_))
        constructor
        go_wp2_with (
          first
          | (refine wpMin2 rfl (.tmp 22) (.tmp 30) rfl _ _ rfl rfl ?_
             refine Stp.go ?_))
        constructor
        go_wp2_with fail
        go_roundw
        case rel => exact ⟨k + 1, by omega, by go_num, by rw [unhide HB], trivial⟩
        case measure => simp [intOf]; omega
      · obtain rfl : k = L.length := by omega
        have hd : decide ((L.length : Int) < (L.length : Int)) = false := by simp
        go_wp2_with fail
        go_meet
        case rel => exact ⟨by rw [List.take_length], rfl⟩
  case rest =>
    obtain ⟨rfl, rfl⟩ := hcut
    obtain ⟨b, hb⟩ : ∃ b, minM n (fun _ => false) L = b := ⟨_, rfl⟩
    rw [hb]
    have HBB := hide hb
    clear hb cr
    go_wp2_with fail
    go_loopw [1, 8] (fun x1 x8 wr => ∃ k : Nat, k ≤ F.length ∧ x8 = .int .i64 k ∧ x1 = .int .i64 (boundF b (F.take k)) ∧ w = wr) (fun _ x8 _ => F.length - (intOf x8).toNat)
    case atStart => exact ⟨0, by omega, rfl, rfl, rfl⟩
    case round =>
      obtain ⟨k, hk, rfl, rfl, rfl⟩ := hrel
      by_cases hkl : k < F.length
      · have hd : decide ((k : Int) < (F.length : Int)) = true := by simp; omega
        obtain ⟨f, hf⟩ : ∃ f, F[k]? = some f := ⟨_, List.getElem?_eq_getElem hkl⟩
        have HT : Hid (F.take (k + 1) = F.take k ++ [f]) := by show _ = _; rw [List.take_add_one, hf]; rfl
        have HFK := hide hf
        by_cases h1 : 1 ≤ f
        · have d1 : decide (f ≥ 1) = true := by simpa using h1
          have HB : Hid (boundF b (F.take (k + 1)) = min (boundF b (F.take k)) f) := by show _ = _; rw [unhide HT, boundF_app, if_pos h1]
          clear hf h1
          go_wp2_with (
            first
            | (refine wpIdx23S rfl (.tmp 38) (.tmp 39) rfl _ _ F k f rfl rfl (unhide HF) (unhide HFK) ?_
               intro ad38 hc38
               refine Stp.go ?_))
          constructor
          go_wp2_with (
            first
            | (refine wpIdx23S rfl (.tmp 44) (.tmp 45) rfl _ _ F k f rfl rfl (unhide HF) (unhide HFK) ?_
               intro ad44 hc44
               refine Stp.go ?_))
          constructor
          go_wp2_with (
            first
            | (refine wpMin2 rfl (.tmp 43) (.tmp 47) rfl _ _ rfl rfl ?_
               refine Stp.go ?_))
          constructor
          go_wp2_with fail
          go_roundw
          case rel => exact ⟨k + 1, by omega, by go_num, by rw [unhide HB], trivial⟩
          case measure => simp [intOf]; omega
        · have d1 : decide (f ≥ 1) = false := by simpa using h1
          have HB : Hid (boundF b (F.take (k + 1)) = boundF b (F.take k)) := by show _ = _; rw [unhide HT, boundF_app, if_neg h1]
          clear hf h1
          go_wp2_with (
            first
            | (refine wpIdx23S rfl (.tmp 38) (.tmp 39) rfl _ _ F k f rfl rfl (unhide HF) (unhide HFK) ?_
               intro ad38 hc38
               refine Stp.go ?_))
          constructor
          go_wp2_with fail
          go_roundw
          case rel => exact ⟨k + 1, by omega, by go_num, by rw [unhide HB], trivial⟩
          case measure => simp [intOf]; omega
      · obtain rfl : k = F.length := by omega
        have hd : decide ((F.length : Int) < (F.length : Int)) = false := by simp
        go_wp2_with fail
        go_ret
        exact ⟨by rw [List.take_length, unhide HBB]; rfl, rfl⟩
/-- The first of those that have the least First. -/
def Old (D : List Mk) (x : Mk) : Prop := D.find? (ofF (leastF D)) = some x ∧ x.f = leastF D
theorem leastF_app (D : List Mk) (y : Mk) : leastF (D ++ [y]) = min (leastF D) y.f := minM_app _ _ _
theorem blk_type' {b T T' : Nat} {us us' : List Value} (h1 : Blk W b T us) (h2 : Blk W b T' us') : T = T' := by
  unfold Blk at h1 h2
  rw [h1] at h2
  injection h2 with h2
  injection h2
theorem Old.one (h : x.f ≤ 2147483647) : Old [x] x := by
  have h1 : leastF [x] = x.f := by
    have := leastF_app [] x
    rw [List.nil_append] at this
    rw [this, show leastF [] = 2147483647 from rfl]
    omega
  refine ⟨?_, h1.symm⟩
  rw [h1]
  simp [ofF]
theorem Old.new (h : Old D x) (hy : y.f < x.f) : Old (D ++ [y]) y := by
  have h1 : leastF (D ++ [y]) = y.f := by rw [leastF_app, ← h.2]; omega
  refine ⟨?_, h1.symm⟩
  rw [h1, List.find?_append]
  have h2 : D.find? (ofF y.f) = none := by
    rw [List.find?_eq_none]
    intro z hz
    have h3 := minM_l 2147483647 D z hz
    have h4 : leastF D ≤ z.f := h3
    rw [← h.2] at h4
    simp [ofF]
    omega
  rw [h2]
  simp [ofF]
theorem Old.keep (h : Old D x) (hy : ¬ y.f < x.f) : Old (D ++ [y]) x := by
  have h1 : leastF (D ++ [y]) = leastF D := by rw [leastF_app, ← h.2]; omega
  refine ⟨?_, by rw [h1]; exact h.2⟩
  rw [h1, List.find?_append, h.1]
  rfl
theorem Old.fnd (h : Old D x) : fndM (ofF (leastF D)) D = x ∧ fndB (ofF (leastF D)) D = true := by
  unfold fndM fndB
  rw [h.1]
  exact ⟨rfl, rfl⟩
theorem res26 (w : World) (z : Nat) (vs : List Value) (e : Bool) (tmps : Array Value) (h2 : tmps[2]?.getD undef = P0 z) (h3 : tmps[3]?.getD undef = .bool e) (hl : vs.length = 3) (hb : Blk w z 54 vs) : (results Try.f26 tmps).run Try.prog w = .ok (.tuple #[aggV vs, .bool e]) w := by
  have := loadV row54 hl hb
  simp [results, Try.results26, h2, h3, this, asAddr]
theorem build54z (w : World) : (Instr.build 54 #[]).run Try.prog w = .ok (aggV mk0.C) w := by kernel_rfl
set_option maxHeartbeats 8000000 in
theorem rold26 (h : Rp w r v L) (hf : ∀ l ∈ L, l.f ≤ 2147483647) : Calls Try.prog 26 #[P0 r] w fun e W => e = .returned (.tuple #[aggV (fndM (ofF (leastF L)) L).C, .bool (fndB (ofF (leastF L)) L)]) ∧ Kept [] w W := by
  obtain ⟨ao, cc, rfl⟩ := h.sl
  have hmany := h.many
  have HROW : Hid (∀ i, (Value.slice ao L.length cc).ownBlock = some i → i < w.heap.size) := fun i hi => h.row.lt hi
  have HR := hide h
  have HF := hide hf
  clear h hf
  cases hL : L with
  | nil =>
    subst hL
    have q1 : (((([] : List Mk).length : Nat) : Int) == 0) = true := by decide
    go_enter Try.func26, Try.ntmps26
    go_wp2_with (
      first
      | (refine wpAllocW mk0.C zero54 2 rfl rfl rfl ?_
         intro W1 z e2 B2 K2
         have HZ := hide B2
         have HG : Hid (w.heap.size ≤ z) := by show _ ≤ _; omega
         replace HR := hide ((unhide HR).step0 K2)
         have HK := hide K2
         have cr := (unhide HR).cw
         clear e2 B2 K2
         refine Stp.go ?_))
    constructor
    go_wp2_with (
      first
      | (refine wpBuildZ mk0.C build54z rfl rfl ?_
         refine Stp.go ?_))
    constructor
    go_wp2_with (
      first
      | (refine wpStoreA row54 rfl (.tmp 2) (.tmp 16) rfl z 0 (mk0.C) rfl rfl rfl (mk0.one) ((unhide HZ).there (Nat.le_refl _)) ?_
         obtain ⟨W8, hW⟩ : ∃ W, W = W1.setCells z 0 (mk0.C) := ⟨_, rfl⟩
         have HS : Hid (Blk W8 z 54 (mk0.C)) := by rw [hW]; exact (unhide HZ).put rfl
         have HKS : Hid (Kept [z] W1 W8) := by rw [hW]; exact (Kept.refl _ _).setCells _ _ (by simp)
         rw [← hW]
         clear hW
         refine Stp.go ?_))
    constructor
    go_wp2_with fail
    refine bodyPost_ret (res26 _ _ _ _ _ rfl rfl rfl (unhide HS)) rfl ?_
    exact ⟨rfl, (unhide HK).fresh (unhide HKS) (fun i hi hl => by simp at hi; have := unhide HG; omega)⟩
  | cons m0 L0 =>
    rw [← hL]
    have hl1 : 1 ≤ L.length := by rw [hL]; simp
    have hm0 : L[0]? = some m0 := by rw [hL]; rfl
    have HM0 := hide hm0
    have HO : Hid (Old (L.take 1) m0) := by
      have e : L.take 1 = [m0] := by rw [hL]; simp
      show Old _ _
      rw [e]
      exact Old.one ((unhide HF) m0 (by rw [hL]; simp))
    clear hL hm0
    have q1 : ((L.length : Int) == 0) = false := by rw [beq_eq_false_iff_ne]; omega
    have q2 : decide ((L.length : Int) = 0) = false := decide_eq_false (by omega)
    go_enter Try.func26, Try.ntmps26
    go_wp2_with (
      first
      | (refine wpAllocW mk0.C zero54 2 rfl rfl rfl ?_
         intro W1 z e2 B2 K2
         have HZ := hide B2
         have HG : Hid (w.heap.size ≤ z) := by show _ ≤ _; omega
         replace HR := hide ((unhide HR).step0 K2)
         have HK := hide K2
         have cr := (unhide HR).cw
         clear e2 B2 K2
         refine Stp.go ?_))
    constructor
    go_wp2_with (
      first
      | (refine wpIdx28 rfl (.tmp 20) (.const (.int .i64 0)) rfl _ L 0 m0 rfl rfl (unhide HR).row (unhide HM0) ?_
         intro g0 o0 hr
         have H0 := hide hr
         clear hr
         refine Stp.go ?_))
    constructor
    go_wp2_with (
      first
      | (refine wpLoadA row54 rfl (.tmp 21) rfl g0 o0 rfl m0.C rfl (unhide H0) ?_
         refine Stp.go ?_))
    constructor
    go_wp2_with (
      first
      | (refine wpNew row54 mk0.C rfl zero54 4 rfl rfl rfl (.tmp 22) rfl rfl rfl m0.C rfl m0.one rfl rfl ?_
         intro W2 y e2 B2 K2
         have HY := hide B2
         have HGY : Hid (w.heap.size ≤ y ∧ y ≠ z) := by have := (unhide HZ).lt; have := (unhide HK).size; show _ ∧ _; omega
         replace HR := hide ((unhide HR).step0 K2)
         replace HZ := hide ((unhide HZ).kept K2 (by simp))
         replace HK := hide ((unhide HK).trans K2)
         clear e2 B2 K2 cr
         have cr := (unhide HR).cw
         refine Stp.go ?_))
    constructor
    go_wp2_with fail
    go_loopw [5] (fun x5 wr => ∃ (k : Nat) (x : Mk), 1 ≤ k ∧ k ≤ L.length ∧ x5 = .int .i64 k ∧ Hid (Rp wr r (.slice ao L.length cc) L) ∧ Hid (Kept [] w wr) ∧ Hid (Blk wr z 54 mk0.C) ∧ Hid (Blk wr y 54 x.C) ∧ Hid (Old (L.take k) x)) (fun x5 _ => L.length - (intOf x5).toNat)
    case atStart => exact ⟨1, m0, by omega, by omega, rfl, HR, HK, HZ, HY, HO⟩
    case round =>
      clear HR HK HZ HY HO cr
      obtain ⟨k, x, hk1, hk, rfl, HR, HK, HZ, HY, HO⟩ := hrel
      have cr := (unhide HR).cw
      by_cases hkl : k < L.length
      · have hd : decide ((k : Int) < (L.length : Int)) = true := by simp; omega
        obtain ⟨m, hm⟩ : ∃ m, L[k]? = some m := ⟨_, List.getElem?_eq_getElem hkl⟩
        have HMK := hide hm
        have HTK : Hid (L.take (k + 1) = L.take k ++ [m]) := by show _ = _; rw [List.take_add_one, hm]; rfl
        obtain ⟨g, off, c1, hv1, hr1⟩ := (unhide HR).at hkl
        have HRM := hide (hr1 k m hm)
        obtain rfl : ao = some ⟨g, off, none⟩ := by injection hv1
        obtain rfl : cc = c1 := by injection hv1
        clear hm hv1 hr1
        by_cases h1 : m.f < x.f
        · have HLT : Hid (decide (m.f < x.f) = true) := by show _ = _; simpa using h1
          have HO2 : Hid (Old (L.take (k + 1)) m) := by show Old _ _; rw [unhide HTK]; exact (unhide HO).new h1
          clear h1
          go_upto_region 7 with fail
          refine wp_region_any mixed (wpAny_tq 11 rfl (by kernel_rfl) [some (P0 r), some (P0 r), some (P0 r), some (.slice (some ⟨g, off, none⟩) L.length cc), some (.int .i64 k), some (.pointer (some ⟨g, off + k * 3, none⟩)), some (.pointer (some ⟨g, off + k * 3 + 2, none⟩)), some (.int .i64 m.f), some (.pointer (some ⟨y, 2, none⟩)), some (.int .i64 x.f), some (.bool true)] rfl (by kernel_rfl) (by kernel_rfl) ?_ ?_)
          · intro i o' hi hsk ho a' w2 hout hin hk2
            replace hk2 : Kept [] wr w2 := ⟨hk2.os, hk2.tape, hk2.output, hk2.size, hk2.block⟩
            match i, ho, hsk with
            | 0, ho, hsk =>
              obtain rfl := Option.some.inj ho
              exact wp_move (.tmp 0) rfl _ ((hout 0 (by kernel_rfl)).trans rfl) ⟨_, rfl, tq_is _ _ _ _ rfl, Kept.refl _ _, fun _ _ _ _ _ => trivial⟩
            | 1, ho, hsk =>
              obtain rfl := Option.some.inj ho
              have e0 : a'.eval (.tmp 32) = P0 r := is_tq (hin 0 32 (by kernel_rfl) (by kernel_rfl)) rfl
              exact o_nil (.tmp 32) rfl _ e0 ⟨_, rfl, tq_is _ _ _ _ rfl, Kept.refl _ _, fun _ _ _ _ _ => trivial⟩
            | 2, ho, hsk =>
              obtain rfl := Option.some.inj ho
              have e0 : a'.eval (.tmp 33) = P0 r := is_tq (hin 1 33 (by kernel_rfl) (by kernel_rfl)) rfl
              exact o_fld30_0 (.tmp 33) rfl r (0) (0) rfl e0 ⟨_, rfl, tq_is _ _ _ _ rfl, Kept.refl _ _, fun _ _ _ _ _ => trivial⟩
            | 3, ho, hsk =>
              obtain rfl := Option.some.inj ho
              have e0 : a'.eval (.tmp 34) = P0 r := is_tq (hin 2 34 (by kernel_rfl) (by kernel_rfl)) rfl
              exact o_load28 (.tmp 34) rfl _ _ e0 (fits_cell ((unhide HR).blk.kept hk2 (by simp)) 0 _ rfl) ⟨_, rfl, tq_is _ _ _ _ rfl, Kept.refl _ _, fun _ _ _ _ _ => trivial⟩
            | 4, ho, hsk =>
              obtain rfl := Option.some.inj ho
              exact wp_move (.tmp 5) rfl _ ((hout 5 (by kernel_rfl)).trans rfl) ⟨_, rfl, tq_is _ _ _ _ rfl, Kept.refl _ _, fun _ _ _ _ _ => trivial⟩
            | 5, ho, hsk =>
              obtain rfl := Option.some.inj ho
              have e0 : a'.eval (.tmp 35) = .slice (some ⟨g, off, none⟩) L.length cc := is_tq (hin 3 35 (by kernel_rfl) (by kernel_rfl)) rfl
              have e1 : a'.eval (.tmp 36) = .int .i64 k := is_tq (hin 4 36 (by kernel_rfl) (by kernel_rfl)) rfl
              exact o_idx28 (.tmp 35) (.tmp 36) rfl g off L.length cc k (by omega) e0 e1 ⟨_, rfl, tq_is _ _ _ _ rfl, Kept.refl _ _, fun _ _ _ _ _ => trivial⟩
            | 6, ho, hsk =>
              obtain rfl := Option.some.inj ho
              have e0 : a'.eval (.tmp 37) = .pointer (some ⟨g, off + k * 3, none⟩) := is_tq (hin 5 37 (by kernel_rfl) (by kernel_rfl)) rfl
              exact o_fld54_2 (.tmp 37) rfl g (off + k * 3) (off + k * 3 + 2) rfl e0 ⟨_, rfl, tq_is _ _ _ _ rfl, Kept.refl _ _, fun _ _ _ _ _ => trivial⟩
            | 7, ho, hsk =>
              obtain rfl := Option.some.inj ho
              have e0 : a'.eval (.tmp 38) = .pointer (some ⟨g, off + k * 3 + 2, none⟩) := is_tq (hin 6 38 (by kernel_rfl) (by kernel_rfl)) rfl
              exact o_load2 (.tmp 38) rfl _ _ e0 ((range_c (range_kept (unhide HRM) hk2 (by simp))).2.2) ⟨_, rfl, tq_is _ _ _ _ rfl, Kept.refl _ _, fun _ _ _ _ _ => trivial⟩
            | 8, ho, hsk =>
              obtain rfl := Option.some.inj ho
              exact o_fld54_2 (.tmp 4) rfl y (0) (2) rfl ((hout 4 (by kernel_rfl)).trans rfl) ⟨_, rfl, tq_is _ _ _ _ rfl, Kept.refl _ _, fun _ _ _ _ _ => trivial⟩
            | 9, ho, hsk =>
              obtain rfl := Option.some.inj ho
              have e0 : a'.eval (.tmp 40) = .pointer (some ⟨y, 2, none⟩) := is_tq (hin 8 40 (by kernel_rfl) (by kernel_rfl)) rfl
              exact o_load2 (.tmp 40) rfl _ _ e0 (fits_cell ((unhide HY).kept hk2 (by simp)) 2 _ rfl) ⟨_, rfl, tq_is _ _ _ _ rfl, Kept.refl _ _, fun _ _ _ _ _ => trivial⟩
            | 10, ho, hsk =>
              obtain rfl := Option.some.inj ho
              have e0 : a'.eval (.tmp 39) = .int .i64 m.f := is_tq (hin 7 39 (by kernel_rfl) (by kernel_rfl)) rfl
              have e1 : a'.eval (.tmp 41) = .int .i64 x.f := is_tq (hin 9 41 (by kernel_rfl) (by kernel_rfl)) rfl
              exact c_lss2 (.tmp 39) (.tmp 41) rfl _ _ (true) (unhide HLT) e0 e1 ⟨_, rfl, tq_is _ _ _ _ rfl, Kept.refl _ _, fun _ _ _ _ _ => trivial⟩
          intro w9 hk9
          replace hk9 : Kept [] wr w9 := ⟨hk9.os, hk9.tape, hk9.output, hk9.size, hk9.block⟩
          simp only [valsQ, List.map_cons, List.map_nil, Option.getD_some, List.take_succ_cons, List.take_zero, putAll, Act.put, List.setIfInBounds_toArray, List.set_cons_succ, List.set_cons_zero]
          refine wpAny_done (by kernel_rfl) ?_ _
          replace HR := hide ((unhide HR).step0 hk9)
          replace HZ := hide ((unhide HZ).kept hk9 (by simp))
          replace HY := hide ((unhide HY).kept hk9 (by simp))
          replace HK := hide ((unhide HK).trans hk9)
          clear cr
          have cr := (unhide HR).cw
          go_wp2_with (
            first
            | (refine wpIdx28 rfl (.tmp 46) (.tmp 47) rfl _ L k m rfl rfl (unhide HR).row (unhide HMK) ?_
               intro g1 o1 hr
               have H1 := hide hr
               clear hr
               refine Stp.go ?_))
          constructor
          go_wp2_with (
            first
            | (refine wpLoadA row54 rfl (.tmp 48) rfl g1 o1 rfl m.C rfl (unhide H1) ?_
               refine Stp.go ?_))
          constructor
          go_wp2_with (
            first
            | (refine wpStoreA row54 rfl (.tmp 4) (.tmp 49) rfl y 0 (m.C) rfl rfl rfl (m.one) ((unhide HY).there (Nat.le_refl _)) ?_
               obtain ⟨W9, hW⟩ : ∃ W, W = w9.setCells y 0 (m.C) := ⟨_, rfl⟩
               have HS : Hid (Blk W9 y 54 (m.C)) := by rw [hW]; exact (unhide HY).put rfl
               have HKS : Hid (Kept [y] w9 W9) := by rw [hW]; exact (Kept.refl _ _).setCells _ _ (by simp)
               rw [← hW]
               clear hW
               replace HR := hide ((unhide HR).step (unhide HKS) (fun e => by have h8 := (unhide HR).blk; have h9 := unhide HY; simp at e; rw [e] at h8; exact absurd (blk_type' h8 h9) (by decide)) (fun i hi e => by have h9 := (unhide HROW) i hi; have h8 := (unhide HGY).1; simp at e; omega))
               replace HZ := hide ((unhide HZ).kept (unhide HKS) (by simpa using Ne.symm (unhide HGY).2))
               replace HK := hide ((unhide HK).fresh (unhide HKS) (fun i hi hl => by simp at hi; have := (unhide HGY).1; omega))
               refine Stp.go ?_))
          constructor
          go_wp2_with fail
          go_roundw
          case rel => exact ⟨k + 1, m, by omega, by omega, by go_num, HR, HK, HZ, HS, HO2⟩
          case measure => simp [intOf]; omega
        · have HLT : Hid (decide (m.f < x.f) = false) := by show _ = _; simpa using h1
          have HO2 : Hid (Old (L.take (k + 1)) x) := by show Old _ _; rw [unhide HTK]; exact (unhide HO).keep h1
          clear h1
          go_upto_region 7 with fail
          refine wp_region_any mixed (wpAny_tq 11 rfl (by kernel_rfl) [some (P0 r), some (P0 r), some (P0 r), some (.slice (some ⟨g, off, none⟩) L.length cc), some (.int .i64 k), some (.pointer (some ⟨g, off + k * 3, none⟩)), some (.pointer (some ⟨g, off + k * 3 + 2, none⟩)), some (.int .i64 m.f), some (.pointer (some ⟨y, 2, none⟩)), some (.int .i64 x.f), some (.bool false)] rfl (by kernel_rfl) (by kernel_rfl) ?_ ?_)
          · intro i o' hi hsk ho a' w2 hout hin hk2
            replace hk2 : Kept [] wr w2 := ⟨hk2.os, hk2.tape, hk2.output, hk2.size, hk2.block⟩
            match i, ho, hsk with
            | 0, ho, hsk =>
              obtain rfl := Option.some.inj ho
              exact wp_move (.tmp 0) rfl _ ((hout 0 (by kernel_rfl)).trans rfl) ⟨_, rfl, tq_is _ _ _ _ rfl, Kept.refl _ _, fun _ _ _ _ _ => trivial⟩
            | 1, ho, hsk =>
              obtain rfl := Option.some.inj ho
              have e0 : a'.eval (.tmp 32) = P0 r := is_tq (hin 0 32 (by kernel_rfl) (by kernel_rfl)) rfl
              exact o_nil (.tmp 32) rfl _ e0 ⟨_, rfl, tq_is _ _ _ _ rfl, Kept.refl _ _, fun _ _ _ _ _ => trivial⟩
            | 2, ho, hsk =>
              obtain rfl := Option.some.inj ho
              have e0 : a'.eval (.tmp 33) = P0 r := is_tq (hin 1 33 (by kernel_rfl) (by kernel_rfl)) rfl
              exact o_fld30_0 (.tmp 33) rfl r (0) (0) rfl e0 ⟨_, rfl, tq_is _ _ _ _ rfl, Kept.refl _ _, fun _ _ _ _ _ => trivial⟩
            | 3, ho, hsk =>
              obtain rfl := Option.some.inj ho
              have e0 : a'.eval (.tmp 34) = P0 r := is_tq (hin 2 34 (by kernel_rfl) (by kernel_rfl)) rfl
              exact o_load28 (.tmp 34) rfl _ _ e0 (fits_cell ((unhide HR).blk.kept hk2 (by simp)) 0 _ rfl) ⟨_, rfl, tq_is _ _ _ _ rfl, Kept.refl _ _, fun _ _ _ _ _ => trivial⟩
            | 4, ho, hsk =>
              obtain rfl := Option.some.inj ho
              exact wp_move (.tmp 5) rfl _ ((hout 5 (by kernel_rfl)).trans rfl) ⟨_, rfl, tq_is _ _ _ _ rfl, Kept.refl _ _, fun _ _ _ _ _ => trivial⟩
            | 5, ho, hsk =>
              obtain rfl := Option.some.inj ho
              have e0 : a'.eval (.tmp 35) = .slice (some ⟨g, off, none⟩) L.length cc := is_tq (hin 3 35 (by kernel_rfl) (by kernel_rfl)) rfl
              have e1 : a'.eval (.tmp 36) = .int .i64 k := is_tq (hin 4 36 (by kernel_rfl) (by kernel_rfl)) rfl
              exact o_idx28 (.tmp 35) (.tmp 36) rfl g off L.length cc k (by omega) e0 e1 ⟨_, rfl, tq_is _ _ _ _ rfl, Kept.refl _ _, fun _ _ _ _ _ => trivial⟩
            | 6, ho, hsk =>
              obtain rfl := Option.some.inj ho
              have e0 : a'.eval (.tmp 37) = .pointer (some ⟨g, off + k * 3, none⟩) := is_tq (hin 5 37 (by kernel_rfl) (by kernel_rfl)) rfl
              exact o_fld54_2 (.tmp 37) rfl g (off + k * 3) (off + k * 3 + 2) rfl e0 ⟨_, rfl, tq_is _ _ _ _ rfl, Kept.refl _ _, fun _ _ _ _ _ => trivial⟩
            | 7, ho, hsk =>
              obtain rfl := Option.some.inj ho
              have e0 : a'.eval (.tmp 38) = .pointer (some ⟨g, off + k * 3 + 2, none⟩) := is_tq (hin 6 38 (by kernel_rfl) (by kernel_rfl)) rfl
              exact o_load2 (.tmp 38) rfl _ _ e0 ((range_c (range_kept (unhide HRM) hk2 (by simp))).2.2) ⟨_, rfl, tq_is _ _ _ _ rfl, Kept.refl _ _, fun _ _ _ _ _ => trivial⟩
            | 8, ho, hsk =>
              obtain rfl := Option.some.inj ho
              exact o_fld54_2 (.tmp 4) rfl y (0) (2) rfl ((hout 4 (by kernel_rfl)).trans rfl) ⟨_, rfl, tq_is _ _ _ _ rfl, Kept.refl _ _, fun _ _ _ _ _ => trivial⟩
            | 9, ho, hsk =>
              obtain rfl := Option.some.inj ho
              have e0 : a'.eval (.tmp 40) = .pointer (some ⟨y, 2, none⟩) := is_tq (hin 8 40 (by kernel_rfl) (by kernel_rfl)) rfl
              exact o_load2 (.tmp 40) rfl _ _ e0 (fits_cell ((unhide HY).kept hk2 (by simp)) 2 _ rfl) ⟨_, rfl, tq_is _ _ _ _ rfl, Kept.refl _ _, fun _ _ _ _ _ => trivial⟩
            | 10, ho, hsk =>
              obtain rfl := Option.some.inj ho
              have e0 : a'.eval (.tmp 39) = .int .i64 m.f := is_tq (hin 7 39 (by kernel_rfl) (by kernel_rfl)) rfl
              have e1 : a'.eval (.tmp 41) = .int .i64 x.f := is_tq (hin 9 41 (by kernel_rfl) (by kernel_rfl)) rfl
              exact c_lss2 (.tmp 39) (.tmp 41) rfl _ _ (false) (unhide HLT) e0 e1 ⟨_, rfl, tq_is _ _ _ _ rfl, Kept.refl _ _, fun _ _ _ _ _ => trivial⟩
          intro w9 hk9
          replace hk9 : Kept [] wr w9 := ⟨hk9.os, hk9.tape, hk9.output, hk9.size, hk9.block⟩
          simp only [valsQ, List.map_cons, List.map_nil, Option.getD_some, List.take_succ_cons, List.take_zero, putAll, Act.put, List.setIfInBounds_toArray, List.set_cons_succ, List.set_cons_zero]
          refine wpAny_done (by kernel_rfl) ?_ _
          replace HR := hide ((unhide HR).step0 hk9)
          replace HZ := hide ((unhide HZ).kept hk9 (by simp))
          replace HY := hide ((unhide HY).kept hk9 (by simp))
          replace HK := hide ((unhide HK).trans hk9)
          clear cr
          have cr := (unhide HR).cw
          go_wp2_with fail
          go_roundw
          case rel => exact ⟨k + 1, x, by omega, by omega, by go_num, HR, HK, HZ, HY, HO2⟩
          case measure => simp [intOf]; omega
      · obtain rfl : k = L.length := by omega
        have hd : decide ((L.length : Int) < (L.length : Int)) = false := by simp
        have HO2 : Hid (Old L x) := by have := unhide HO; rw [List.take_length] at this; exact this
        go_wp2_with (
          first
          | (refine wpLoadA row54 rfl (.tmp 4) rfl y 0 rfl x.C rfl (unhide HY).range ?_
             refine Stp.go ?_))
        constructor
        go_wp2_with (
          first
          | (refine wpStoreA row54 rfl (.tmp 2) (.tmp 50) rfl z 0 (x.C) rfl rfl rfl (x.one) ((unhide HZ).there (Nat.le_refl _)) ?_
             obtain ⟨W8, hW⟩ : ∃ W, W = wr.setCells z 0 (x.C) := ⟨_, rfl⟩
             have HS : Hid (Blk W8 z 54 (x.C)) := by rw [hW]; exact (unhide HZ).put rfl
             have HKS : Hid (Kept [z] wr W8) := by rw [hW]; exact (Kept.refl _ _).setCells _ _ (by simp)
             rw [← hW]
             clear hW
             refine Stp.go ?_))
        constructor
        go_wp2_with fail
        refine bodyPost_ret (res26 _ _ _ _ _ rfl rfl rfl (unhide HS)) rfl ?_
        exact ⟨by rw [(unhide HO2).fnd.1, (unhide HO2).fnd.2], (unhide HK).fresh (unhide HKS) (fun i hi hl => by simp at hi; have := unhide HG; omega)⟩

end Go.Proofs.Ythihladmifpokaa
