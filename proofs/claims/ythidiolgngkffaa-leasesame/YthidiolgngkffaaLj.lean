/-
  tellSuspected, Suspected, the document's Suspected, SameInts.
-/
import Derived.Test.YthidiolgngkffaaLi
namespace Go.Proofs.Ythidiolgngkffaa
set_option maxRecDepth 100000
open Go.RowKit

set_option maxHeartbeats 2000000 in
theorem tell42 {A : Int} (v : Wt) (b c base : Nat) (u : Value) (w : World) (hB : Blk w b 65 v.C) (hv : v.Ok A) (hC : Blk w c 70 [u]) (hI : Ints w base u []) (hb : b < base) (hc : base ≤ c) (hw : base ≤ w.heap.size) : Calls Try.prog 42 #[P0 b, .func (.func 43) #[] #[P0 c]] w fun e w' => e = .returned (.tuple #[]) ∧ ∃ u', Blk w' c 70 [u'] ∧ Ints w' base u' (v.sus v.n.toNat) ∧ Below base w w' := by
  have P39 := hide (none_is v b w hB hv.n.1)
  have c0 := hB.n
  obtain ⟨n1, n8⟩ := hv.n
  have H0 := hide hB
  have HC := hide hC
  have HI := hide hI
  clear hB hC hI
  go_enter Try.func42, Try.ntmps42
  go_wp2_with fail
  go_step3
  go_wp2_with (
    first
    | (go_at_call 39
       refine (unhide P39).mono ?_
       rintro e w2 ⟨rfl, q2⟩
       replace q2 := q2.symm
       subst q2
       clear P39
       refine Stp.go ?_))
  constructor
  go_wp2_with fail
  go_step3
  go_wp2_with fail
  go_loopw [11] (fun i wr => ∃ (j : Nat) (u : Value), (j : Int) ≤ v.n ∧ i = .int .i64 j ∧ Hid (Blk wr c 70 [u]) ∧ Hid (Ints wr base u (v.sus j)) ∧ Hid (Below base w wr)) (fun i _ => 8 - (intOf i).toNat)
  case atStart => exact ⟨0, u, by omega, rfl, HC, HI, Below.refl _ _⟩
  case round =>
    clear c0 HC HI
    obtain ⟨j, u, hj, rfl, HC, HI, HW⟩ := hrel
    have HB : Hid (Blk wr b 65 v.C) := hide ((unhide H0).below (unhide HW) hb)
    by_cases hlt : (j : Int) < v.n
    · have hltI : (j : Int) < v.n := by omega
      have hd : decide ((j : Int) < v.n) = true := by simpa using hltI
      have hh : v.has (j : Int) = true := by simp [Wt.has]; omega
      have HH := hide hh
      have HJ : Hid (0 ≤ (j : Int) ∧ (j : Int) < 8) := hide (has_lt hv hh)
      obtain ⟨ag, hag⟩ : ∃ ag, ag = (v.lk (j : Int)).age := ⟨_, rfl⟩
      have HAG := hide hag
      have HSU : Hid (v.sus (j + 1) = v.sus j ++ (if v.p ≤ ag then [(j : Int)] else [])) := by
        show _ = _
        rw [hag]
        rfl
      have HLN : Hid ((v.sus j).length ≤ 1000) := by have := sus_len v j; show _ ≤ _; omega
      clear hh hag
      by_cases hs : ag < v.p
      · have HD : Hid (decide (ag < v.p) = true) := hide (by simpa using hs)
        have HS2 : Hid (v.sus (j + 1) = v.sus j) := by show _ = _; rw [unhide HSU, if_neg (by omega), List.append_nil]
        clear hs
        go_wp2_with fail
        refine wp_region_any mixed (wpAny_tq 12 rfl (by kernel_rfl) [some (P0 b), some (.int .i64 j), some (P0 b), some (.pointer (some ⟨b, 0 + 2, none⟩)), some (.pointer (some ⟨b, 2 + (j : Int).toNat * 5, none⟩)), some (.pointer (some ⟨b, 2 + (j : Int).toNat * 5 + 4, none⟩)), some (.int .i64 ag), some (P0 b), some (P0 b), some (.pointer (some ⟨b, 0 + 1, none⟩)), some (.int .i64 v.p), some (.bool true)] rfl (by kernel_rfl) (by kernel_rfl) ?_ ?_)
        · intro i o' hi hsk ho a' w2 hout hin hk2
          replace hk2 : Kept [] wr w2 := ⟨hk2.os, hk2.tape, hk2.output, hk2.size, hk2.block⟩
          match i, ho, hsk with
          | 0, ho, hsk =>
            obtain rfl := Option.some.inj ho
            exact wp_move (.tmp 0) rfl _ ((hout 0 (by kernel_rfl)).trans rfl) ⟨_, rfl, tq_is _ _ _ _ rfl, Kept.refl _ _, fun _ _ _ _ _ => trivial⟩
          | 1, ho, hsk =>
            obtain rfl := Option.some.inj ho
            exact wp_move (.tmp 4) rfl _ ((hout 4 (by kernel_rfl)).trans rfl) ⟨_, rfl, tq_is _ _ _ _ rfl, Kept.refl _ _, fun _ _ _ _ _ => trivial⟩
          | 2, ho, hsk =>
            obtain rfl := Option.some.inj ho
            have e0 : a'.eval (.tmp 14) = P0 b := is_tq (hin 0 14 (by kernel_rfl) (by kernel_rfl)) rfl
            exact o_nil (.tmp 14) rfl _ e0 ⟨_, rfl, tq_is _ _ _ _ rfl, Kept.refl _ _, fun _ _ _ _ _ => trivial⟩
          | 3, ho, hsk =>
            obtain rfl := Option.some.inj ho
            have e0 : a'.eval (.tmp 16) = P0 b := is_tq (hin 2 16 (by kernel_rfl) (by kernel_rfl)) rfl
            exact o_fld65_2 (.tmp 16) rfl b 0 e0 ⟨_, rfl, tq_is _ _ _ _ rfl, Kept.refl _ _, fun _ _ _ _ _ => trivial⟩
          | 4, ho, hsk =>
            obtain rfl := Option.some.inj ho
            have e0 : a'.eval (.tmp 17) = .pointer (some ⟨b, 0 + 2, none⟩) := is_tq (hin 3 17 (by kernel_rfl) (by kernel_rfl)) rfl
            have e1 : a'.eval (.tmp 15) = .int .i64 j := is_tq (hin 1 15 (by kernel_rfl) (by kernel_rfl)) rfl
            exact o_idx63 (.tmp 17) (.tmp 15) rfl b j (unhide HJ).1 (unhide HJ).2 e0 e1 ⟨_, rfl, tq_is _ _ _ _ rfl, Kept.refl _ _, fun _ _ _ _ _ => trivial⟩
          | 5, ho, hsk =>
            obtain rfl := Option.some.inj ho
            have e0 : a'.eval (.tmp 18) = .pointer (some ⟨b, 2 + (j : Int).toNat * 5, none⟩) := is_tq (hin 4 18 (by kernel_rfl) (by kernel_rfl)) rfl
            exact o_fld62_2 (.tmp 18) rfl b _ e0 ⟨_, rfl, tq_is _ _ _ _ rfl, Kept.refl _ _, fun _ _ _ _ _ => trivial⟩
          | 6, ho, hsk =>
            obtain rfl := Option.some.inj ho
            have e0 : a'.eval (.tmp 19) = .pointer (some ⟨b, 2 + (j : Int).toNat * 5 + 4, none⟩) := is_tq (hin 5 19 (by kernel_rfl) (by kernel_rfl)) rfl
            exact o_load3 (.tmp 19) rfl _ _ e0 (by rw [unhide HAG]; exact ((unhide HB).kept hk2 (by simp)).age hv (unhide HH)) ⟨_, rfl, tq_is _ _ _ _ rfl, Kept.refl _ _, fun _ _ _ _ _ => trivial⟩
          | 7, ho, hsk =>
            obtain rfl := Option.some.inj ho
            exact wp_move (.tmp 0) rfl _ ((hout 0 (by kernel_rfl)).trans rfl) ⟨_, rfl, tq_is _ _ _ _ rfl, Kept.refl _ _, fun _ _ _ _ _ => trivial⟩
          | 8, ho, hsk =>
            obtain rfl := Option.some.inj ho
            have e0 : a'.eval (.tmp 21) = P0 b := is_tq (hin 7 21 (by kernel_rfl) (by kernel_rfl)) rfl
            exact o_nil (.tmp 21) rfl _ e0 ⟨_, rfl, tq_is _ _ _ _ rfl, Kept.refl _ _, fun _ _ _ _ _ => trivial⟩
          | 9, ho, hsk =>
            obtain rfl := Option.some.inj ho
            have e0 : a'.eval (.tmp 22) = P0 b := is_tq (hin 8 22 (by kernel_rfl) (by kernel_rfl)) rfl
            exact o_fld65_1 (.tmp 22) rfl b 0 e0 ⟨_, rfl, tq_is _ _ _ _ rfl, Kept.refl _ _, fun _ _ _ _ _ => trivial⟩
          | 10, ho, hsk =>
            obtain rfl := Option.some.inj ho
            have e0 : a'.eval (.tmp 23) = .pointer (some ⟨b, 0 + 1, none⟩) := is_tq (hin 9 23 (by kernel_rfl) (by kernel_rfl)) rfl
            exact o_load3 (.tmp 23) rfl _ _ e0 (((unhide HB).kept hk2 (by simp)).p) ⟨_, rfl, tq_is _ _ _ _ rfl, Kept.refl _ _, fun _ _ _ _ _ => trivial⟩
          | 11, ho, hsk =>
            obtain rfl := Option.some.inj ho
            have e0 : a'.eval (.tmp 20) = .int .i64 ag := is_tq (hin 6 20 (by kernel_rfl) (by kernel_rfl)) rfl
            have e1 : a'.eval (.tmp 24) = .int .i64 v.p := is_tq (hin 10 24 (by kernel_rfl) (by kernel_rfl)) rfl
            exact o_lss3 (.tmp 20) (.tmp 24) rfl _ _ _ (unhide HD) e0 e1 ⟨_, rfl, tq_is _ _ _ _ rfl, Kept.refl _ _, fun _ _ _ _ _ => trivial⟩
        intro w9 hk9
        replace hk9 : Kept [] wr w9 := ⟨hk9.os, hk9.tape, hk9.output, hk9.size, hk9.block⟩
        simp only [valsQ, List.map_cons, List.map_nil, Option.getD_some, List.take_succ_cons, List.take_zero, putAll, Act.put, List.setIfInBounds_toArray, List.set_cons_succ, List.set_cons_zero]
        refine wpAny_done (by kernel_rfl) ?_ _
        go_wp2_with fail
        go_roundw
        case rel => exact ⟨j + 1, u, by omega, by go_num, (unhide HC).kept hk9 (by simp), by rw [unhide HS2]; exact (unhide HI).kept hk9 (by simp), (unhide HW).trans (Below.ofKept hk9 (by simp) (Nat.le_trans hw (unhide HW).size))⟩
        case measure => simp [intOf]; omega
      · have HD : Hid (decide (ag < v.p) = false) := hide (by simpa using hs)
        have HS2 : Hid (v.sus (j + 1) = v.sus j ++ [(j : Int)]) := by show _ = _; rw [unhide HSU, if_pos (by omega)]
        clear hs
        go_wp2_with fail
        refine wp_region_any mixed (wpAny_tq 12 rfl (by kernel_rfl) [some (P0 b), some (.int .i64 j), some (P0 b), some (.pointer (some ⟨b, 0 + 2, none⟩)), some (.pointer (some ⟨b, 2 + (j : Int).toNat * 5, none⟩)), some (.pointer (some ⟨b, 2 + (j : Int).toNat * 5 + 4, none⟩)), some (.int .i64 ag), some (P0 b), some (P0 b), some (.pointer (some ⟨b, 0 + 1, none⟩)), some (.int .i64 v.p), some (.bool false)] rfl (by kernel_rfl) (by kernel_rfl) ?_ ?_)
        · intro i o' hi hsk ho a' w2 hout hin hk2
          replace hk2 : Kept [] wr w2 := ⟨hk2.os, hk2.tape, hk2.output, hk2.size, hk2.block⟩
          match i, ho, hsk with
          | 0, ho, hsk =>
            obtain rfl := Option.some.inj ho
            exact wp_move (.tmp 0) rfl _ ((hout 0 (by kernel_rfl)).trans rfl) ⟨_, rfl, tq_is _ _ _ _ rfl, Kept.refl _ _, fun _ _ _ _ _ => trivial⟩
          | 1, ho, hsk =>
            obtain rfl := Option.some.inj ho
            exact wp_move (.tmp 4) rfl _ ((hout 4 (by kernel_rfl)).trans rfl) ⟨_, rfl, tq_is _ _ _ _ rfl, Kept.refl _ _, fun _ _ _ _ _ => trivial⟩
          | 2, ho, hsk =>
            obtain rfl := Option.some.inj ho
            have e0 : a'.eval (.tmp 14) = P0 b := is_tq (hin 0 14 (by kernel_rfl) (by kernel_rfl)) rfl
            exact o_nil (.tmp 14) rfl _ e0 ⟨_, rfl, tq_is _ _ _ _ rfl, Kept.refl _ _, fun _ _ _ _ _ => trivial⟩
          | 3, ho, hsk =>
            obtain rfl := Option.some.inj ho
            have e0 : a'.eval (.tmp 16) = P0 b := is_tq (hin 2 16 (by kernel_rfl) (by kernel_rfl)) rfl
            exact o_fld65_2 (.tmp 16) rfl b 0 e0 ⟨_, rfl, tq_is _ _ _ _ rfl, Kept.refl _ _, fun _ _ _ _ _ => trivial⟩
          | 4, ho, hsk =>
            obtain rfl := Option.some.inj ho
            have e0 : a'.eval (.tmp 17) = .pointer (some ⟨b, 0 + 2, none⟩) := is_tq (hin 3 17 (by kernel_rfl) (by kernel_rfl)) rfl
            have e1 : a'.eval (.tmp 15) = .int .i64 j := is_tq (hin 1 15 (by kernel_rfl) (by kernel_rfl)) rfl
            exact o_idx63 (.tmp 17) (.tmp 15) rfl b j (unhide HJ).1 (unhide HJ).2 e0 e1 ⟨_, rfl, tq_is _ _ _ _ rfl, Kept.refl _ _, fun _ _ _ _ _ => trivial⟩
          | 5, ho, hsk =>
            obtain rfl := Option.some.inj ho
            have e0 : a'.eval (.tmp 18) = .pointer (some ⟨b, 2 + (j : Int).toNat * 5, none⟩) := is_tq (hin 4 18 (by kernel_rfl) (by kernel_rfl)) rfl
            exact o_fld62_2 (.tmp 18) rfl b _ e0 ⟨_, rfl, tq_is _ _ _ _ rfl, Kept.refl _ _, fun _ _ _ _ _ => trivial⟩
          | 6, ho, hsk =>
            obtain rfl := Option.some.inj ho
            have e0 : a'.eval (.tmp 19) = .pointer (some ⟨b, 2 + (j : Int).toNat * 5 + 4, none⟩) := is_tq (hin 5 19 (by kernel_rfl) (by kernel_rfl)) rfl
            exact o_load3 (.tmp 19) rfl _ _ e0 (by rw [unhide HAG]; exact ((unhide HB).kept hk2 (by simp)).age hv (unhide HH)) ⟨_, rfl, tq_is _ _ _ _ rfl, Kept.refl _ _, fun _ _ _ _ _ => trivial⟩
          | 7, ho, hsk =>
            obtain rfl := Option.some.inj ho
            exact wp_move (.tmp 0) rfl _ ((hout 0 (by kernel_rfl)).trans rfl) ⟨_, rfl, tq_is _ _ _ _ rfl, Kept.refl _ _, fun _ _ _ _ _ => trivial⟩
          | 8, ho, hsk =>
            obtain rfl := Option.some.inj ho
            have e0 : a'.eval (.tmp 21) = P0 b := is_tq (hin 7 21 (by kernel_rfl) (by kernel_rfl)) rfl
            exact o_nil (.tmp 21) rfl _ e0 ⟨_, rfl, tq_is _ _ _ _ rfl, Kept.refl _ _, fun _ _ _ _ _ => trivial⟩
          | 9, ho, hsk =>
            obtain rfl := Option.some.inj ho
            have e0 : a'.eval (.tmp 22) = P0 b := is_tq (hin 8 22 (by kernel_rfl) (by kernel_rfl)) rfl
            exact o_fld65_1 (.tmp 22) rfl b 0 e0 ⟨_, rfl, tq_is _ _ _ _ rfl, Kept.refl _ _, fun _ _ _ _ _ => trivial⟩
          | 10, ho, hsk =>
            obtain rfl := Option.some.inj ho
            have e0 : a'.eval (.tmp 23) = .pointer (some ⟨b, 0 + 1, none⟩) := is_tq (hin 9 23 (by kernel_rfl) (by kernel_rfl)) rfl
            exact o_load3 (.tmp 23) rfl _ _ e0 (((unhide HB).kept hk2 (by simp)).p) ⟨_, rfl, tq_is _ _ _ _ rfl, Kept.refl _ _, fun _ _ _ _ _ => trivial⟩
          | 11, ho, hsk =>
            obtain rfl := Option.some.inj ho
            have e0 : a'.eval (.tmp 20) = .int .i64 ag := is_tq (hin 6 20 (by kernel_rfl) (by kernel_rfl)) rfl
            have e1 : a'.eval (.tmp 24) = .int .i64 v.p := is_tq (hin 10 24 (by kernel_rfl) (by kernel_rfl)) rfl
            exact o_lss3 (.tmp 20) (.tmp 24) rfl _ _ _ (unhide HD) e0 e1 ⟨_, rfl, tq_is _ _ _ _ rfl, Kept.refl _ _, fun _ _ _ _ _ => trivial⟩
        intro w9 hk9
        replace hk9 : Kept [] wr w9 := ⟨hk9.os, hk9.tape, hk9.output, hk9.size, hk9.block⟩
        simp only [valsQ, List.map_cons, List.map_nil, Option.getD_some, List.take_succ_cons, List.take_zero, putAll, Act.put, List.setIfInBounds_toArray, List.set_cons_succ, List.set_cons_zero]
        refine wpAny_done (by kernel_rfl) ?_ _
        have HC2 : Hid (Blk w9 c 70 [u]) := (unhide HC).kept hk9 (by simp)
        have HI2 : Hid (Ints w9 base u (v.sus j)) := (unhide HI).kept hk9 (by simp)
        have HW2 : Hid (Below base w w9) := (unhide HW).trans (Below.ofKept hk9 (by simp) (Nat.le_trans hw (unhide HW).size))
        clear hk9
        go_wp2_with (
          first
          | (go_at_call 43
             refine (tell43 base c j u (v.sus j) _ (unhide HC2) (unhide HI2) hc (unhide HLN) (Nat.le_trans hw (unhide HW2).size)).mono ?_
             rintro e W9 ⟨rfl, u9, B9, I9, K9⟩
             have HC3 := hide B9
             have HI3 := hide I9
             have HW3 : Hid (Below base w W9) := (unhide HW2).trans K9
             clear B9 I9 K9))
        go_roundw
        case rel => exact ⟨j + 1, u9, by omega, by go_num, HC3, by rw [unhide HS2]; exact HI3, HW3⟩
        case measure => simp [intOf]; omega
    · have hd : decide ((j : Int) < v.n) = false := by simp; omega
      have HJN : Hid (v.n.toNat = j) := by show _ = _; omega
      go_wp2_with fail
      try rw [Exit.noGoto_ret]
      go_end0
      exact ⟨rfl, u, unhide HC, by rw [unhide HJN]; exact unhide HI, unhide HW⟩
set_option maxHeartbeats 2000000 in
theorem zero70 (w : World) : (Instr.alloc 70 true (.tuple #[])).run Try.prog w = .ok (P0 w.heap.size) (w.alloc (.cells [Value.slice none 0 0].toArray 70)) := by kernel_rfl
theorem sus28 {A : Int} (v : Wt) (b : Nat) (w : World) (hB : Blk w b 65 v.C) (hv : v.Ok A) : Calls Try.prog 28 #[P0 b] w fun e w' => ∃ u, e = .returned u ∧ Ints w' w.heap.size u (v.sus v.n.toNat) ∧ Kept [] w w' := by
  have HB := hide hB
  clear hB
  go_enter Try.func28, Try.ntmps28
  go_wp2_with (
    first
    | (refine wpAllocW [Value.slice none 0 0] zero70 3 rfl rfl rfl ?_
       intro W1 b1 e1 B1 K1
       have H1 := hide B1
       have HK1 := hide K1
       have HE1 := hide e1
       clear e1 B1 K1
       refine Stp.go ?_))
  constructor
  go_wp2_with (
    first
    | (go_at_call 42
       refine (tell42 v b b1 w.heap.size _ _ ((unhide HB).kept (unhide HK1) (by simp)) hv (unhide H1) (Ints.nil _ _) (unhide HB).lt (Nat.le_of_eq (unhide HE1).symm) (unhide HK1).size).mono ?_
       rintro e W2 ⟨rfl, u, B2, I2, K2⟩
       have c2 := fits_cell B2 0 _ rfl
       have HI2 := hide I2
       have HK2 : Hid (Kept [] w W2) := Below.toKept ((unhide HK1).to_below.trans K2)
       clear B2 I2 K2
       refine Stp.go ?_))
  constructor
  go_wp2_with fail
  go_ret
  exact ⟨_, rfl, unhide HI2, unhide HK2⟩
theorem sus_no (p : Value) (w : World) (h : ∀ W, Kept [] w W → Calls Try.prog 39 #[p] W fun e w' => e = .returned (.bool true) ∧ w' = W) : Calls Try.prog 28 #[p] w fun e w' => e = .returned (.slice none 0 0) ∧ Kept [] w w' := by
  have P42 : ∀ c W, Kept [] w W → Hid (Calls Try.prog 42 #[p, .func (.func 43) #[] #[P0 c]] W fun e w' => e = .returned (.tuple #[]) ∧ w' = W) := by
    intro c W hW
    have P39 := hide (h W hW)
    show Calls _ _ _ _ _
    go_enter Try.func42, Try.ntmps42
    go_wp2_with fail
    go_step3
    go_wp2_with (
      first
      | (go_at_call 39
         refine (unhide P39).mono ?_
         rintro e w2 ⟨rfl, q2⟩
         replace q2 := q2.symm
         subst q2
         clear P39))
    rw [Exit.noGoto_ret]
    refine bodyPost_ret (results_none rfl _ _ _) rfl ?_
    exact ⟨rfl, rfl⟩
  clear h
  go_enter Try.func28, Try.ntmps28
  go_wp2_with (
    first
    | (refine wpAllocW [Value.slice none 0 0] zero70 3 rfl rfl rfl ?_
       intro W1 b1 e1 B1 K1
       have H1 := hide B1
       have HK1 := hide K1
       clear e1 B1 K1
       refine Stp.go ?_))
  constructor
  go_wp2_with (
    first
    | (go_at_call 42
       refine (unhide (P42 b1 _ (unhide HK1))).mono ?_
       rintro e W2 ⟨rfl, q2⟩
       replace q2 := q2.symm
       subst q2
       have c2 := fits_cell (unhide H1) 0 _ rfl
       clear P42
       refine Stp.go ?_))
  constructor
  go_wp2_with fail
  go_ret
  exact ⟨rfl, unhide HK1⟩
set_option maxHeartbeats 2000000 in
theorem rsus38 {A : Int} (v : Wt) (b : Nat) (w : World) (hB : Blk w b 79 v.C) (hv : v.Ok A) : Calls Try.prog 38 #[P0 b] w fun e w' => ∃ u, e = .returned u ∧ Ints w' w.heap.size u (v.sus v.n.toNat) ∧ Kept [] w w' := by
  obtain ⟨n1, n8⟩ := hv.n
  have H0 := hide hB
  clear hB
  go_enter Try.func38, Try.ntmps38
  go_wp2_with fail
  go_loopw [3, 4] (fun u i wr => ∃ (j : Nat) (xu : Value), (j : Int) ≤ v.n ∧ i = .int .i64 j ∧ xu = u ∧ Hid (Ints wr w.heap.size xu (v.sus j)) ∧ Hid (Kept [] w wr)) (fun _ i _ => 8 - (intOf i).toNat)
  case atStart => exact ⟨0, _, by omega, rfl, rfl, Ints.nil _ _, Kept.refl _ _⟩
  case round =>
    obtain ⟨j, xu, hj, rfl, rfl, HI, HW⟩ := hrel
    have HB : Hid (Blk wr b 79 v.C) := hide ((unhide H0).kept (unhide HW) (by simp))
    have c0 := (unhide HB).n
    by_cases hlt : (j : Int) < v.n
    · have hltI : (j : Int) < v.n := by omega
      have hd : decide ((j : Int) < v.n) = true := by simpa using hltI
      have hh : v.has (j : Int) = true := by simp [Wt.has]; omega
      have HH := hide hh
      have HJ : Hid (0 ≤ (j : Int) ∧ (j : Int) < 8) := hide (has_lt hv hh)
      obtain ⟨ag, hag⟩ : ∃ ag, ag = (v.lk (j : Int)).age := ⟨_, rfl⟩
      have HAG := hide hag
      have HSU : Hid (v.sus (j + 1) = v.sus j ++ (if v.p ≤ ag then [(j : Int)] else [])) := by
        show _ = _
        rw [hag]
        rfl
      have HLN : Hid ((v.sus j).length ≤ 1000) := by have := sus_len v j; show _ ≤ _; omega
      clear hh hag
      by_cases hs : v.p ≤ ag
      · have HD : Hid (decide (v.p ≤ ag) = true) := hide (by simpa using hs)
        have HS2 : Hid (v.sus (j + 1) = v.sus j ++ [(j : Int)]) := by show _ = _; rw [unhide HSU, if_pos hs]
        clear hs
        go_wp2_with fail
        clear c0
        refine wp_region_any mixed (wpAny_tq 12 rfl (by kernel_rfl) [some (P0 b), some (.int .i64 j), some (P0 b), some (.pointer (some ⟨b, 0 + 2, none⟩)), some (.pointer (some ⟨b, 2 + (j : Int).toNat * 5, none⟩)), some (.pointer (some ⟨b, 2 + (j : Int).toNat * 5 + 4, none⟩)), some (.int .i64 ag), some (P0 b), some (P0 b), some (.pointer (some ⟨b, 0 + 1, none⟩)), some (.int .i64 v.p), some (.bool true)] rfl (by kernel_rfl) (by kernel_rfl) ?_ ?_)
        · intro i o' hi hsk ho a' w2 hout hin hk2
          replace hk2 : Kept [] wr w2 := ⟨hk2.os, hk2.tape, hk2.output, hk2.size, hk2.block⟩
          match i, ho, hsk with
          | 0, ho, hsk =>
            obtain rfl := Option.some.inj ho
            exact wp_move (.tmp 0) rfl _ ((hout 0 (by kernel_rfl)).trans rfl) ⟨_, rfl, tq_is _ _ _ _ rfl, Kept.refl _ _, fun _ _ _ _ _ => trivial⟩
          | 1, ho, hsk =>
            obtain rfl := Option.some.inj ho
            exact wp_move (.tmp 4) rfl _ ((hout 4 (by kernel_rfl)).trans rfl) ⟨_, rfl, tq_is _ _ _ _ rfl, Kept.refl _ _, fun _ _ _ _ _ => trivial⟩
          | 2, ho, hsk =>
            obtain rfl := Option.some.inj ho
            have e0 : a'.eval (.tmp 17) = P0 b := is_tq (hin 0 17 (by kernel_rfl) (by kernel_rfl)) rfl
            exact o_nil (.tmp 17) rfl _ e0 ⟨_, rfl, tq_is _ _ _ _ rfl, Kept.refl _ _, fun _ _ _ _ _ => trivial⟩
          | 3, ho, hsk =>
            obtain rfl := Option.some.inj ho
            have e0 : a'.eval (.tmp 19) = P0 b := is_tq (hin 2 19 (by kernel_rfl) (by kernel_rfl)) rfl
            exact o_fld79_2 (.tmp 19) rfl b 0 e0 ⟨_, rfl, tq_is _ _ _ _ rfl, Kept.refl _ _, fun _ _ _ _ _ => trivial⟩
          | 4, ho, hsk =>
            obtain rfl := Option.some.inj ho
            have e0 : a'.eval (.tmp 20) = .pointer (some ⟨b, 0 + 2, none⟩) := is_tq (hin 3 20 (by kernel_rfl) (by kernel_rfl)) rfl
            have e1 : a'.eval (.tmp 18) = .int .i64 j := is_tq (hin 1 18 (by kernel_rfl) (by kernel_rfl)) rfl
            exact o_idx77 (.tmp 20) (.tmp 18) rfl b j (unhide HJ).1 (unhide HJ).2 e0 e1 ⟨_, rfl, tq_is _ _ _ _ rfl, Kept.refl _ _, fun _ _ _ _ _ => trivial⟩
          | 5, ho, hsk =>
            obtain rfl := Option.some.inj ho
            have e0 : a'.eval (.tmp 21) = .pointer (some ⟨b, 2 + (j : Int).toNat * 5, none⟩) := is_tq (hin 4 21 (by kernel_rfl) (by kernel_rfl)) rfl
            exact o_fld76_2 (.tmp 21) rfl b _ e0 ⟨_, rfl, tq_is _ _ _ _ rfl, Kept.refl _ _, fun _ _ _ _ _ => trivial⟩
          | 6, ho, hsk =>
            obtain rfl := Option.some.inj ho
            have e0 : a'.eval (.tmp 22) = .pointer (some ⟨b, 2 + (j : Int).toNat * 5 + 4, none⟩) := is_tq (hin 5 22 (by kernel_rfl) (by kernel_rfl)) rfl
            exact o_load3 (.tmp 22) rfl _ _ e0 (by rw [unhide HAG]; exact ((unhide HB).kept hk2 (by simp)).age hv (unhide HH)) ⟨_, rfl, tq_is _ _ _ _ rfl, Kept.refl _ _, fun _ _ _ _ _ => trivial⟩
          | 7, ho, hsk =>
            obtain rfl := Option.some.inj ho
            exact wp_move (.tmp 0) rfl _ ((hout 0 (by kernel_rfl)).trans rfl) ⟨_, rfl, tq_is _ _ _ _ rfl, Kept.refl _ _, fun _ _ _ _ _ => trivial⟩
          | 8, ho, hsk =>
            obtain rfl := Option.some.inj ho
            have e0 : a'.eval (.tmp 24) = P0 b := is_tq (hin 7 24 (by kernel_rfl) (by kernel_rfl)) rfl
            exact o_nil (.tmp 24) rfl _ e0 ⟨_, rfl, tq_is _ _ _ _ rfl, Kept.refl _ _, fun _ _ _ _ _ => trivial⟩
          | 9, ho, hsk =>
            obtain rfl := Option.some.inj ho
            have e0 : a'.eval (.tmp 25) = P0 b := is_tq (hin 8 25 (by kernel_rfl) (by kernel_rfl)) rfl
            exact o_fld79_1 (.tmp 25) rfl b 0 e0 ⟨_, rfl, tq_is _ _ _ _ rfl, Kept.refl _ _, fun _ _ _ _ _ => trivial⟩
          | 10, ho, hsk =>
            obtain rfl := Option.some.inj ho
            have e0 : a'.eval (.tmp 26) = .pointer (some ⟨b, 0 + 1, none⟩) := is_tq (hin 9 26 (by kernel_rfl) (by kernel_rfl)) rfl
            exact o_load3 (.tmp 26) rfl _ _ e0 (((unhide HB).kept hk2 (by simp)).p) ⟨_, rfl, tq_is _ _ _ _ rfl, Kept.refl _ _, fun _ _ _ _ _ => trivial⟩
          | 11, ho, hsk =>
            obtain rfl := Option.some.inj ho
            have e0 : a'.eval (.tmp 23) = .int .i64 ag := is_tq (hin 6 23 (by kernel_rfl) (by kernel_rfl)) rfl
            have e1 : a'.eval (.tmp 27) = .int .i64 v.p := is_tq (hin 10 27 (by kernel_rfl) (by kernel_rfl)) rfl
            exact o_geq3 (.tmp 23) (.tmp 27) rfl _ _ _ (unhide HD) e0 e1 ⟨_, rfl, tq_is _ _ _ _ rfl, Kept.refl _ _, fun _ _ _ _ _ => trivial⟩
        intro w9 hk9
        replace hk9 : Kept [] wr w9 := ⟨hk9.os, hk9.tape, hk9.output, hk9.size, hk9.block⟩
        simp only [valsQ, List.map_cons, List.map_nil, Option.getD_some, List.take_succ_cons, List.take_zero, putAll, Act.put, List.setIfInBounds_toArray, List.set_cons_succ, List.set_cons_zero]
        refine wpAny_done (by kernel_rfl) ?_ _
        have HI2 : Hid (Ints w9 w.heap.size xu (v.sus j)) := (unhide HI).kept hk9 (by simp)
        have HW2 : Hid (Kept [] w w9) := (unhide HW).trans hk9
        clear hk9
        go_wp2_with (
          first
          | (refine wpApp70 rfl rfl (.tmp 30) 31 rfl rfl (.tmp 29) rfl xu w.heap.size (v.sus j) j rfl (fun _ => rfl) (fun _ => rfl) (unhide HI2) (unhide HW2).size (unhide HLN) ?_
             intro v' W1 I1 K1
             have HI3 := hide I1
             have HW3 : Hid (Kept [] w W1) := (unhide HW2).fresh K1 (fun i hi hl => by rw [Option.mem_toList] at hi; have := ((unhide HI2).block i hi).1; omega)
             clear I1 K1
             refine Stp.go ?_))
        constructor
        go_wp2_with fail
        go_roundw
        case rel => exact ⟨j + 1, _, by omega, by go_num, rfl, by rw [unhide HS2]; exact HI3, HW3⟩
        case measure => simp [intOf]; omega
      · have HD : Hid (decide (v.p ≤ ag) = false) := hide (by simpa using hs)
        have HS2 : Hid (v.sus (j + 1) = v.sus j) := by show _ = _; rw [unhide HSU, if_neg hs, List.append_nil]
        clear hs
        go_wp2_with fail
        clear c0
        refine wp_region_any mixed (wpAny_tq 12 rfl (by kernel_rfl) [some (P0 b), some (.int .i64 j), some (P0 b), some (.pointer (some ⟨b, 0 + 2, none⟩)), some (.pointer (some ⟨b, 2 + (j : Int).toNat * 5, none⟩)), some (.pointer (some ⟨b, 2 + (j : Int).toNat * 5 + 4, none⟩)), some (.int .i64 ag), some (P0 b), some (P0 b), some (.pointer (some ⟨b, 0 + 1, none⟩)), some (.int .i64 v.p), some (.bool false)] rfl (by kernel_rfl) (by kernel_rfl) ?_ ?_)
        · intro i o' hi hsk ho a' w2 hout hin hk2
          replace hk2 : Kept [] wr w2 := ⟨hk2.os, hk2.tape, hk2.output, hk2.size, hk2.block⟩
          match i, ho, hsk with
          | 0, ho, hsk =>
            obtain rfl := Option.some.inj ho
            exact wp_move (.tmp 0) rfl _ ((hout 0 (by kernel_rfl)).trans rfl) ⟨_, rfl, tq_is _ _ _ _ rfl, Kept.refl _ _, fun _ _ _ _ _ => trivial⟩
          | 1, ho, hsk =>
            obtain rfl := Option.some.inj ho
            exact wp_move (.tmp 4) rfl _ ((hout 4 (by kernel_rfl)).trans rfl) ⟨_, rfl, tq_is _ _ _ _ rfl, Kept.refl _ _, fun _ _ _ _ _ => trivial⟩
          | 2, ho, hsk =>
            obtain rfl := Option.some.inj ho
            have e0 : a'.eval (.tmp 17) = P0 b := is_tq (hin 0 17 (by kernel_rfl) (by kernel_rfl)) rfl
            exact o_nil (.tmp 17) rfl _ e0 ⟨_, rfl, tq_is _ _ _ _ rfl, Kept.refl _ _, fun _ _ _ _ _ => trivial⟩
          | 3, ho, hsk =>
            obtain rfl := Option.some.inj ho
            have e0 : a'.eval (.tmp 19) = P0 b := is_tq (hin 2 19 (by kernel_rfl) (by kernel_rfl)) rfl
            exact o_fld79_2 (.tmp 19) rfl b 0 e0 ⟨_, rfl, tq_is _ _ _ _ rfl, Kept.refl _ _, fun _ _ _ _ _ => trivial⟩
          | 4, ho, hsk =>
            obtain rfl := Option.some.inj ho
            have e0 : a'.eval (.tmp 20) = .pointer (some ⟨b, 0 + 2, none⟩) := is_tq (hin 3 20 (by kernel_rfl) (by kernel_rfl)) rfl
            have e1 : a'.eval (.tmp 18) = .int .i64 j := is_tq (hin 1 18 (by kernel_rfl) (by kernel_rfl)) rfl
            exact o_idx77 (.tmp 20) (.tmp 18) rfl b j (unhide HJ).1 (unhide HJ).2 e0 e1 ⟨_, rfl, tq_is _ _ _ _ rfl, Kept.refl _ _, fun _ _ _ _ _ => trivial⟩
          | 5, ho, hsk =>
            obtain rfl := Option.some.inj ho
            have e0 : a'.eval (.tmp 21) = .pointer (some ⟨b, 2 + (j : Int).toNat * 5, none⟩) := is_tq (hin 4 21 (by kernel_rfl) (by kernel_rfl)) rfl
            exact o_fld76_2 (.tmp 21) rfl b _ e0 ⟨_, rfl, tq_is _ _ _ _ rfl, Kept.refl _ _, fun _ _ _ _ _ => trivial⟩
          | 6, ho, hsk =>
            obtain rfl := Option.some.inj ho
            have e0 : a'.eval (.tmp 22) = .pointer (some ⟨b, 2 + (j : Int).toNat * 5 + 4, none⟩) := is_tq (hin 5 22 (by kernel_rfl) (by kernel_rfl)) rfl
            exact o_load3 (.tmp 22) rfl _ _ e0 (by rw [unhide HAG]; exact ((unhide HB).kept hk2 (by simp)).age hv (unhide HH)) ⟨_, rfl, tq_is _ _ _ _ rfl, Kept.refl _ _, fun _ _ _ _ _ => trivial⟩
          | 7, ho, hsk =>
            obtain rfl := Option.some.inj ho
            exact wp_move (.tmp 0) rfl _ ((hout 0 (by kernel_rfl)).trans rfl) ⟨_, rfl, tq_is _ _ _ _ rfl, Kept.refl _ _, fun _ _ _ _ _ => trivial⟩
          | 8, ho, hsk =>
            obtain rfl := Option.some.inj ho
            have e0 : a'.eval (.tmp 24) = P0 b := is_tq (hin 7 24 (by kernel_rfl) (by kernel_rfl)) rfl
            exact o_nil (.tmp 24) rfl _ e0 ⟨_, rfl, tq_is _ _ _ _ rfl, Kept.refl _ _, fun _ _ _ _ _ => trivial⟩
          | 9, ho, hsk =>
            obtain rfl := Option.some.inj ho
            have e0 : a'.eval (.tmp 25) = P0 b := is_tq (hin 8 25 (by kernel_rfl) (by kernel_rfl)) rfl
            exact o_fld79_1 (.tmp 25) rfl b 0 e0 ⟨_, rfl, tq_is _ _ _ _ rfl, Kept.refl _ _, fun _ _ _ _ _ => trivial⟩
          | 10, ho, hsk =>
            obtain rfl := Option.some.inj ho
            have e0 : a'.eval (.tmp 26) = .pointer (some ⟨b, 0 + 1, none⟩) := is_tq (hin 9 26 (by kernel_rfl) (by kernel_rfl)) rfl
            exact o_load3 (.tmp 26) rfl _ _ e0 (((unhide HB).kept hk2 (by simp)).p) ⟨_, rfl, tq_is _ _ _ _ rfl, Kept.refl _ _, fun _ _ _ _ _ => trivial⟩
          | 11, ho, hsk =>
            obtain rfl := Option.some.inj ho
            have e0 : a'.eval (.tmp 23) = .int .i64 ag := is_tq (hin 6 23 (by kernel_rfl) (by kernel_rfl)) rfl
            have e1 : a'.eval (.tmp 27) = .int .i64 v.p := is_tq (hin 10 27 (by kernel_rfl) (by kernel_rfl)) rfl
            exact o_geq3 (.tmp 23) (.tmp 27) rfl _ _ _ (unhide HD) e0 e1 ⟨_, rfl, tq_is _ _ _ _ rfl, Kept.refl _ _, fun _ _ _ _ _ => trivial⟩
        intro w9 hk9
        replace hk9 : Kept [] wr w9 := ⟨hk9.os, hk9.tape, hk9.output, hk9.size, hk9.block⟩
        simp only [valsQ, List.map_cons, List.map_nil, Option.getD_some, List.take_succ_cons, List.take_zero, putAll, Act.put, List.setIfInBounds_toArray, List.set_cons_succ, List.set_cons_zero]
        refine wpAny_done (by kernel_rfl) ?_ _
        go_wp2_with fail
        go_roundw
        case rel => exact ⟨j + 1, _, by omega, by go_num, rfl, by rw [unhide HS2]; exact (unhide HI).kept hk9 (by simp), (unhide HW).trans hk9⟩
        case measure => simp [intOf]; omega
    · have hd : decide ((j : Int) < v.n) = false := by simp; omega
      have HJN : Hid (v.n.toNat = j) := by show _ = _; omega
      go_wp2_with fail
      go_ret
      exact ⟨_, rfl, by rw [unhide HJN]; exact unhide HI, unhide HW⟩
section
variable {o : Oper} {a : Act} {w : World} {K : Act → World → Prop} {Q : Exit → Act → World → Prop}
theorem o_idx70 (x y : Operand) (ho : o.op = .indexAddr 70 x y) (g m c k : Nat) (hk : k < m) (hx : a.eval x = .slice (some ⟨g, 0, none⟩) m c) (hy : a.eval y = .int .i64 k) (h : K (a.put o.dst (.pointer (some ⟨g, k, none⟩))) w) : o.wp Try.prog a w K Q := by
  unfold Oper.wp execOp
  simp only [ho, hx, hy]
  simp [go_sem, hk]
  exact h
theorem o_neqI (x y : Operand) (ho : o.op = .binOp .neq 3 x y 3) (m : Int) (hx : a.eval x = .int .i64 m) (hy : a.eval y = .int .i64 m) (h : K (a.put o.dst (.bool false)) w) : o.wp Try.prog a w K Q := by
  unfold Oper.wp execOp
  simp only [ho, hx, hy]
  simp [go_sem]
  exact h
end
set_option maxHeartbeats 2000000 in
theorem same37 (u1 u2 : Value) (B1 B2 : Nat) (L : List Int) (w : World) (h1 : Ints w B1 u1 L) (h2 : Ints w B2 u2 L) (hL : L.length ≤ 1000) : Calls Try.prog 37 #[u1, u2] w fun e w' => e = .returned (.bool true) ∧ Kept [] w w' := by
  obtain ⟨N, hN⟩ : ∃ N, N = L.length := ⟨_, rfl⟩
  have HI1 := hide h1
  have HI2 := hide h2
  have HN := hide hN
  obtain ⟨a1, c1, rfl⟩ := h1.sl
  obtain ⟨a2, c2, rfl⟩ := h2.sl
  rw [← hN] at HI1 HI2 hL ⊢
  clear h1 h2 hN
  go_enter Try.func37, Try.ntmps37
  go_wp2_with fail
  go_loopw [5] (fun i wr => ∃ j : Nat, j ≤ N ∧ i = .int .i64 j ∧ Hid (Kept [] w wr)) (fun i _ => N - (intOf i).toNat)
  case atStart => exact ⟨0, by omega, rfl, Kept.refl _ _⟩
  case round =>
    obtain ⟨j, hj, rfl, HK⟩ := hrel
    by_cases hlt : j < N
    · have hjL : j < L.length := by have := unhide HN; omega
      obtain ⟨x, hx⟩ : ∃ x, L[j]? = some x := ⟨_, List.getElem?_eq_getElem hjL⟩
      obtain ⟨g1, d1, e1, hc1⟩ := ((unhide HI1).kept (unhide HK) (by simp)).get hx
      obtain ⟨g2, d2, e2, hc2⟩ := ((unhide HI2).kept (unhide HK) (by simp)).get hx
      injection e1 with e1 _ _
      injection e2 with e2 _ _
      subst e1 e2
      have H1 := hide hc1
      have H2 := hide hc2
      have HLT := hide hlt
      have hltI : (j : Int) < (N : Int) := by omega
      have hd : decide ((j : Int) < (N : Int)) = true := by simpa using hltI
      clear hx hc1 hc2 hjL
      go_wp2_with fail
      refine wp_region_any mixed (wpAny_tq 9 rfl (by kernel_rfl) [some (.slice (some ⟨g1, 0, none⟩) N c1), some (.int .i64 j), some (.pointer (some ⟨g1, j, none⟩)), some (.int .i64 x), some (.slice (some ⟨g2, 0, none⟩) N c2), some (.int .i64 j), some (.pointer (some ⟨g2, j, none⟩)), some (.int .i64 x), some (.bool false)] rfl (by kernel_rfl) (by kernel_rfl) ?_ ?_)
      · intro i o' hi hsk ho a' w2 hout hin hk2
        replace hk2 : Kept [] wr w2 := ⟨hk2.os, hk2.tape, hk2.output, hk2.size, hk2.block⟩
        match i, ho, hsk with
        | 0, ho, hsk =>
          obtain rfl := Option.some.inj ho
          exact wp_move (.tmp 0) rfl _ ((hout 0 (by kernel_rfl)).trans rfl) ⟨_, rfl, tq_is _ _ _ _ rfl, Kept.refl _ _, fun _ _ _ _ _ => trivial⟩
        | 1, ho, hsk =>
          obtain rfl := Option.some.inj ho
          exact wp_move (.tmp 5) rfl _ ((hout 5 (by kernel_rfl)).trans rfl) ⟨_, rfl, tq_is _ _ _ _ rfl, Kept.refl _ _, fun _ _ _ _ _ => trivial⟩
        | 2, ho, hsk =>
          obtain rfl := Option.some.inj ho
          have e0 : a'.eval (.tmp 17) = .slice (some ⟨g1, 0, none⟩) N c1 := is_tq (hin 0 17 (by kernel_rfl) (by kernel_rfl)) rfl
          have e1 : a'.eval (.tmp 18) = .int .i64 j := is_tq (hin 1 18 (by kernel_rfl) (by kernel_rfl)) rfl
          exact o_idx70 (.tmp 17) (.tmp 18) rfl g1 N c1 j (unhide HLT) e0 e1 ⟨_, rfl, tq_is _ _ _ _ rfl, Kept.refl _ _, fun _ _ _ _ _ => trivial⟩
        | 3, ho, hsk =>
          obtain rfl := Option.some.inj ho
          have e0 : a'.eval (.tmp 19) = .pointer (some ⟨g1, j, none⟩) := is_tq (hin 2 19 (by kernel_rfl) (by kernel_rfl)) rfl
          exact o_load3 (.tmp 19) rfl _ _ e0 (hk2.cell (unhide H1) (by simp)) ⟨_, rfl, tq_is _ _ _ _ rfl, Kept.refl _ _, fun _ _ _ _ _ => trivial⟩
        | 4, ho, hsk =>
          obtain rfl := Option.some.inj ho
          exact wp_move (.tmp 1) rfl _ ((hout 1 (by kernel_rfl)).trans rfl) ⟨_, rfl, tq_is _ _ _ _ rfl, Kept.refl _ _, fun _ _ _ _ _ => trivial⟩
        | 5, ho, hsk =>
          obtain rfl := Option.some.inj ho
          exact wp_move (.tmp 5) rfl _ ((hout 5 (by kernel_rfl)).trans rfl) ⟨_, rfl, tq_is _ _ _ _ rfl, Kept.refl _ _, fun _ _ _ _ _ => trivial⟩
        | 6, ho, hsk =>
          obtain rfl := Option.some.inj ho
          have e0 : a'.eval (.tmp 21) = .slice (some ⟨g2, 0, none⟩) N c2 := is_tq (hin 4 21 (by kernel_rfl) (by kernel_rfl)) rfl
          have e1 : a'.eval (.tmp 22) = .int .i64 j := is_tq (hin 5 22 (by kernel_rfl) (by kernel_rfl)) rfl
          exact o_idx70 (.tmp 21) (.tmp 22) rfl g2 N c2 j (unhide HLT) e0 e1 ⟨_, rfl, tq_is _ _ _ _ rfl, Kept.refl _ _, fun _ _ _ _ _ => trivial⟩
        | 7, ho, hsk =>
          obtain rfl := Option.some.inj ho
          have e0 : a'.eval (.tmp 23) = .pointer (some ⟨g2, j, none⟩) := is_tq (hin 6 23 (by kernel_rfl) (by kernel_rfl)) rfl
          exact o_load3 (.tmp 23) rfl _ _ e0 (hk2.cell (unhide H2) (by simp)) ⟨_, rfl, tq_is _ _ _ _ rfl, Kept.refl _ _, fun _ _ _ _ _ => trivial⟩
        | 8, ho, hsk =>
          obtain rfl := Option.some.inj ho
          have e0 : a'.eval (.tmp 20) = .int .i64 x := is_tq (hin 3 20 (by kernel_rfl) (by kernel_rfl)) rfl
          have e1 : a'.eval (.tmp 24) = .int .i64 x := is_tq (hin 7 24 (by kernel_rfl) (by kernel_rfl)) rfl
          exact o_neqI (.tmp 20) (.tmp 24) rfl x e0 e1 ⟨_, rfl, tq_is _ _ _ _ rfl, Kept.refl _ _, fun _ _ _ _ _ => trivial⟩
      intro w9 hk9
      replace hk9 : Kept [] wr w9 := ⟨hk9.os, hk9.tape, hk9.output, hk9.size, hk9.block⟩
      simp only [valsQ, List.map_cons, List.map_nil, Option.getD_some, List.take_succ_cons, List.take_zero, putAll, Act.put, List.setIfInBounds_toArray, List.set_cons_succ, List.set_cons_zero]
      refine wpAny_done (by kernel_rfl) ?_ _
      go_wp2_with fail
      go_roundw
      case rel => exact ⟨j + 1, by omega, by go_num, hide ((unhide HK).trans hk9)⟩
      case measure => simp [intOf]; omega
    · have hd : decide ((j : Int) < (N : Int)) = false := by simp; omega
      go_wp2_with fail
      go_ret
      exact ⟨rfl, unhide HK⟩


end Go.Proofs.Ythidiolgngkffaa
