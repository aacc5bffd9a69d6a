/-
  The victim.
-/
import Derived.Test.YtgnafbohikbpfaaQk
namespace Go.Proofs.Ytgnafbohikbpfaa
set_option maxRecDepth 100000
set_option linter.unusedSimpArgs false
open Go.RowKit


variable {w W W' : World} {b mb : Nat} {P Q : Po} {L : List En} {pg : Int} {q k : Nat}
/-- Which place the hand comes to, by steps. -/
def Po.vat (P : Po) (k : Nat) : Nat := (P.h + k) % P.m
/-- A place that is passed, whatever was used. -/
def Pl.out (x : Pl) : Bool := decide (x.f.md = 0) || decide (0 < x.pn)
/-- The places behind k steps. -/
def Po.vS (P : Po) : Nat → Nat → Pl
  | 0 => P.S
  | k + 1 => if (Po.vS P k (P.vat k)).out = true then Po.vS P k else upd (Po.vS P k) (P.vat k) ⟨(Po.vS P k (P.vat k)).f, (Po.vS P k (P.vat k)).pn, false⟩
def Po.vQ (P : Po) (k : Nat) : Po := ⟨P.m, P.h, P.vS k⟩
/-- Does the hand stop at its step k? -/
def Po.stop (P : Po) (k : Nat) : Bool := !(P.vS k (P.vat k)).out && !(P.vS k (P.vat k)).us
def vTo (P : Po) : Nat → Option Nat
  | 0 => none
  | n + 1 => match vTo P n with
    | some k => some k
    | none => if P.stop n = true then some n else none
theorem vTo_none {P : Po} : ∀ n, (∀ j, j < n → P.stop j = false) → vTo P n = none
  | 0, _ => rfl
  | n + 1, h => by unfold vTo; rw [vTo_none n (fun j hj => h j (by omega))]; simp only; rw [if_neg (by rw [h n (by omega)]; simp)]
theorem vTo_some {P : Po} {k : Nat} (h : ∀ j, j < k → P.stop j = false) (hk : P.stop k = true) : ∀ n, k < n → vTo P n = some k
  | 0, h0 => by omega
  | n + 1, h0 => by
    unfold vTo
    by_cases e : k < n
    · rw [vTo_some h hk n e]
    · obtain rfl : k = n := by omega
      rw [vTo_none k h]; simp only; rw [if_pos hk]
/-- The victim: what stands behind it, its page. -/
def Po.vic (P : Po) : Po × Int × Bool := match vTo P (2 * P.m) with
  | some k => (⟨P.m, (P.vat k + 1) % P.m, P.vS k⟩, (P.vS k (P.vat k)).f.pg, true)
  | none => (P.vQ (2 * P.m), 0, false)
theorem vS_f (P : Po) : ∀ k j, (P.vS k j).f = (P.S j).f ∧ (P.vS k j).pn = (P.S j).pn ∧ ((P.S j).f.md = 0 → P.vS k j = P.S j)
  | 0, j => ⟨rfl, rfl, fun _ => rfl⟩
  | k + 1, j => by
    have ih := vS_f P k j
    unfold Po.vS
    split
    · exact ih
    · rename_i ho
      by_cases e : j = P.vat k
      · subst e
        rw [upd_same]
        refine ⟨ih.1, ih.2.1, fun h => ?_⟩
        exfalso
        apply ho
        unfold Pl.out
        rw [ih.1, h]; rfl
      · rw [upd_ne _ _ e]; exact ih
theorem vQ_lk (k : Nat) {hh : Nat} (hh0 : hh < P.m) : Lk P ⟨P.m, hh, P.vS k⟩ := ⟨rfl, fun j => (vS_f P k j).1, fun j hj => (vS_f P k j).2.2 hj, hh0⟩
theorem vat_lt (h : P.Ok) (k : Nat) : P.vat k < P.m := Nat.mod_lt _ (by have := h.m; omega)
theorem vS_out (h : (P.vS k (P.vat k)).out = true) : P.vS (k + 1) = P.vS k := by rw [Po.vS, if_pos h]
theorem vS_in (h : (P.vS k (P.vat k)).out = false) : P.vQ (k + 1) = (P.vQ k).up (P.vat k) ⟨(P.vS k (P.vat k)).f, (P.vS k (P.vat k)).pn, false⟩ := by
  unfold Po.vQ Po.up
  rw [Po.vS, if_neg (by rw [h]; simp)]
theorem vS_idle (h : (P.vS k (P.vat k)).us = false) : P.vQ (k + 1) = P.vQ k := by
  unfold Po.vQ
  rw [Po.vS]
  split
  · rfl
  · congr 1
    have e : (⟨(P.vS k (P.vat k)).f, (P.vS k (P.vat k)).pn, false⟩ : Pl) = P.vS k (P.vat k) := by rw [← h]
    rw [e, upd_self]
theorem victim17_z (v : Value) (h : Nil w v) : Calls Try.prog 17 #[v] w fun e w' => e = .returned (.tuple #[.int .i64 0, .bool false]) ∧ w' = w := by
  have P41 := hide (none41_z w v h)
  clear h
  go_enter Try.func17, Try.ntmps17
  go_wp2_with fail
  go_step3
  go_wp2_with (
    first
    | (go_at_call 41
       refine (unhide P41).mono ?_
       rintro e W9 ⟨rfl, q9⟩
       replace q9 := q9.symm
       subst q9
       clear P41
       refine Stp.go ?_))
  constructor
  go_wp2_with fail
  try rw [Exit.noGoto_ret]
  go_ret2
  exact ⟨rfl, rfl⟩
theorem mod_cast' (q m : Nat) : ((q : Int) + 1) % (m : Int) = (((q + 1) % m : Nat) : Int) := by
  rw [Int.natCast_emod]; rfl
set_option maxHeartbeats 2000000 in
theorem victim17 (h : Pg w b mb P L) : Calls Try.prog 17 #[P0 b] w fun e w' => e = .returned (.tuple #[.int .i64 P.vic.2.1, .bool P.vic.2.2]) ∧ Pg w' b mb P.vic.1 L ∧ Kept [b] w w' := by
  have P41 := hide (none41 w h)
  have hm := h.ok.m
  have HOK := hide h.ok
  have cm := h.cm
  have HS : Hid (Pg w b mb (P.vQ 0) L) := h
  have HK := hide (Kept.refl [b] w)
  clear h
  go_enter Try.func17, Try.ntmps17
  go_wp2_with fail
  go_step3
  go_wp2_with (
    first
    | (go_at_call 41
       refine (unhide P41).mono ?_
       rintro e W9 ⟨rfl, q9⟩
       replace q9 := q9.symm
       subst q9
       clear P41
       refine Stp.go ?_))
  constructor
  go_wp2_with fail
  go_step3
  go_wp2_with fail
  clear cm
  go_loopw [14] (fun xi wr => ∃ k : Nat, k ≤ 2 * P.m ∧ xi = .int .i64 k ∧ Hid (∀ j, j < k → P.stop j = false) ∧ Hid (Pg wr b mb (P.vQ k) L) ∧ Hid (Kept [b] w wr)) (fun xi _ => 2 * P.m - (intOf xi).toNat)
  case atStart => exact ⟨0, by omega, rfl, fun j hj => by omega, HS, HK⟩
  case round =>
    clear HS HK
    obtain ⟨k, hk, rfl, HI, HS, HK⟩ := hrel
    by_cases hlt : k < 2 * P.m
    · have hd : decide ((k : Int) < 2 * (P.m : Int)) = true := by simp; omega
      obtain ⟨q, hq⟩ : ∃ q, q = P.vat k := ⟨_, rfl⟩
      have hqm : q < P.m := by rw [hq]; exact vat_lt (unhide HOK) k
      have hq16 : q < 16 := by omega
      have hqI : (q : Int) < 16 := by omega
      have hh : P.h < P.m := (unhide HOK).h
      have HV : Hid ((q : Int) = ((P.h : Int) + (k : Int)) % (P.m : Int)) := by show _ = _; rw [hq]; unfold Po.vat; rw [Int.natCast_emod]; rfl
      have HQ := hide hq
      obtain ⟨S, hS⟩ : ∃ S, S = P.vS k := ⟨_, rfl⟩
      have HSS := hide hS
      clear hq hS
      go_wp2_with fail
      refine wp_region_any mixed (wpAny_tq 12 rfl (by kernel_rfl) [some (P0 b), some (P0 b), some (.pointer (some ⟨b, 1665, none⟩)), some (.int .i64 P.h), some (.int .i64 k), some (.int .i64 (P.h + k)), some (P0 b), some (P0 b), some (.pointer (some ⟨b, 1664, none⟩)), some (.int .i64 P.m), some (.int .i64 q), some (.int .i64 q)] rfl (by kernel_rfl) (by kernel_rfl) ?_ ?_)
      · intro i o' hi hsk ho a' w2 hout hin hk2
        replace hk2 : Kept [] wr w2 := ⟨hk2.os, hk2.tape, hk2.output, hk2.size, hk2.block⟩
        match i, ho, hsk with
        | 0, ho, hsk =>
          obtain rfl := Option.some.inj ho
          exact wp_move (.tmp 0) rfl _ ((hout 0 (by kernel_rfl)).trans rfl) ⟨_, rfl, tq_is _ _ _ _ rfl, Kept.refl _ _, fun _ _ _ _ _ => trivial⟩
        | 1, ho, hsk =>
          obtain rfl := Option.some.inj ho
          have e0 : a'.eval (.tmp 17) = P0 b := is_tq (hin 0 17 (by kernel_rfl) (by kernel_rfl)) rfl
          exact o_nil (.tmp 17) rfl _ e0 ⟨_, rfl, tq_is _ _ _ _ rfl, Kept.refl _ _, fun _ _ _ _ _ => trivial⟩
        | 2, ho, hsk =>
          obtain rfl := Option.some.inj ho
          have e0 : a'.eval (.tmp 18) = P0 b := is_tq (hin 1 18 (by kernel_rfl) (by kernel_rfl)) rfl
          exact o_fld70_2 (.tmp 18) rfl b (0) (1665) rfl e0 ⟨_, rfl, tq_is _ _ _ _ rfl, Kept.refl _ _, fun _ _ _ _ _ => trivial⟩
        | 3, ho, hsk =>
          obtain rfl := Option.some.inj ho
          have e0 : a'.eval (.tmp 19) = .pointer (some ⟨b, 1665, none⟩) := is_tq (hin 2 19 (by kernel_rfl) (by kernel_rfl)) rfl
          exact o_load3 (.tmp 19) rfl _ _ e0 (hk2.cell (unhide HS).ch (by simp)) ⟨_, rfl, tq_is _ _ _ _ rfl, Kept.refl _ _, fun _ _ _ _ _ => trivial⟩
        | 4, ho, hsk =>
          obtain rfl := Option.some.inj ho
          exact wp_move (.tmp 4) rfl _ ((hout 4 (by kernel_rfl)).trans rfl) ⟨_, rfl, tq_is _ _ _ _ rfl, Kept.refl _ _, fun _ _ _ _ _ => trivial⟩
        | 5, ho, hsk =>
          obtain rfl := Option.some.inj ho
          have e0 : a'.eval (.tmp 20) = .int .i64 P.h := is_tq (hin 3 20 (by kernel_rfl) (by kernel_rfl)) rfl
          have e1 : a'.eval (.tmp 21) = .int .i64 k := is_tq (hin 4 21 (by kernel_rfl) (by kernel_rfl)) rfl
          exact c_add3 (.tmp 20) (.tmp 21) rfl _ _ (by omega) e0 e1 ⟨_, rfl, tq_is _ _ _ _ rfl, Kept.refl _ _, fun _ _ _ _ _ => trivial⟩
        | 6, ho, hsk =>
          obtain rfl := Option.some.inj ho
          exact wp_move (.tmp 0) rfl _ ((hout 0 (by kernel_rfl)).trans rfl) ⟨_, rfl, tq_is _ _ _ _ rfl, Kept.refl _ _, fun _ _ _ _ _ => trivial⟩
        | 7, ho, hsk =>
          obtain rfl := Option.some.inj ho
          have e0 : a'.eval (.tmp 23) = P0 b := is_tq (hin 6 23 (by kernel_rfl) (by kernel_rfl)) rfl
          exact o_nil (.tmp 23) rfl _ e0 ⟨_, rfl, tq_is _ _ _ _ rfl, Kept.refl _ _, fun _ _ _ _ _ => trivial⟩
        | 8, ho, hsk =>
          obtain rfl := Option.some.inj ho
          have e0 : a'.eval (.tmp 24) = P0 b := is_tq (hin 7 24 (by kernel_rfl) (by kernel_rfl)) rfl
          exact o_fld70_1 (.tmp 24) rfl b (0) (1664) rfl e0 ⟨_, rfl, tq_is _ _ _ _ rfl, Kept.refl _ _, fun _ _ _ _ _ => trivial⟩
        | 9, ho, hsk =>
          obtain rfl := Option.some.inj ho
          have e0 : a'.eval (.tmp 25) = .pointer (some ⟨b, 1664, none⟩) := is_tq (hin 8 25 (by kernel_rfl) (by kernel_rfl)) rfl
          exact o_load3 (.tmp 25) rfl _ _ e0 (hk2.cell (unhide HS).cm (by simp)) ⟨_, rfl, tq_is _ _ _ _ rfl, Kept.refl _ _, fun _ _ _ _ _ => trivial⟩
        | 10, ho, hsk =>
          obtain rfl := Option.some.inj ho
          have e0 : a'.eval (.tmp 22) = .int .i64 (P.h + k) := is_tq (hin 5 22 (by kernel_rfl) (by kernel_rfl)) rfl
          have e1 : a'.eval (.tmp 26) = .int .i64 P.m := is_tq (hin 9 26 (by kernel_rfl) (by kernel_rfl)) rfl
          exact c_rem3 (.tmp 22) (.tmp 26) rfl _ _ _ (unhide HV) (by omega) (by omega) e0 e1 ⟨_, rfl, tq_is _ _ _ _ rfl, Kept.refl _ _, fun _ _ _ _ _ => trivial⟩
        | 11, ho, hsk =>
          obtain rfl := Option.some.inj ho
          have e0 : a'.eval (.tmp 27) = .int .i64 q := is_tq (hin 10 27 (by kernel_rfl) (by kernel_rfl)) rfl
          exact wp_assignV (.tmp 27) rfl _ e0 ⟨_, rfl, tq_is _ _ _ _ rfl, Kept.refl _ _, fun _ _ _ _ _ => trivial⟩
      intro w9 hk9
      replace hk9 : Kept [] wr w9 := ⟨hk9.os, hk9.tape, hk9.output, hk9.size, hk9.block⟩
      simp only [valsQ, List.map_cons, List.map_nil, Option.getD_some, List.take_succ_cons, List.take_zero, putAll, Act.put, List.setIfInBounds_toArray, List.set_cons_succ, List.set_cons_zero]
      refine wpAny_done (by kernel_rfl) ?_ _
      replace HS := hide ((unhide HS).step hk9 (by simp) (by simp))
      replace HK := hide ((unhide HK).trans (hk9.mono (by simp)))
      clear hk9
      have P43 : Hid (Calls Try.prog 43 #[.pointer (some ⟨b, q * 104, none⟩)] w9 fun e w' => e = .returned (.bool (decide ((S q).f.md = 0))) ∧ w' = w9) := by have h9 := free43 w9 (unhide HS) q hq16; rw [unhide HSS]; exact h9
      have cpn : w9.cell? ⟨b, q * 104 + 102, none⟩ = some (.int .i64 ((S q).pn : Int)) := by have h9 := (unhide HS).cpn hq16; rw [unhide HSS]; exact h9
      have cus : w9.cell? ⟨b, q * 104 + 103, none⟩ = some (.bool (S q).us) := by have h9 := (unhide HS).cus hq16; rw [unhide HSS]; exact h9
      have cpg : w9.cell? ⟨b, q * 104, none⟩ = some (.int .i64 (S q).f.pg) := by have h9 := (unhide HS).cpg hq16; rw [unhide HSS]; exact h9
      have cm := (unhide HS).cm
      by_cases h1 : (S q).f.md = 0
      · rw [decide_eq_true h1] at P43
        have HO : Hid ((P.vS k (P.vat k)).out = true) := by show _ = _; rw [← unhide HQ, ← unhide HSS]; unfold Pl.out; rw [h1]; rfl
        clear cpn cus cpg h1
        go_wp2_with (
          first
          | (go_at_call 43
             refine (unhide P43).mono ?_
             rintro e W9 ⟨rfl, q9⟩
             replace q9 := q9.symm
             subst q9
             clear P43
             refine Stp.go ?_))
        constructor
        go_wp2_with fail
        go_roundw
        case rel => exact ⟨k + 1, by omega, by go_num, (fun j hj => by
          by_cases e : j = k
          · subst e; show P.stop j = false; unfold Po.stop; rw [unhide HO]; rfl
          · exact unhide HI j (by omega)), (by show Pg _ _ _ (P.vQ (k + 1)) _; rw [show P.vQ (k + 1) = P.vQ k from by unfold Po.vQ; rw [vS_out (unhide HO)]]; exact unhide HS), HK⟩
        case measure => simp [intOf]; omega
      · rw [decide_eq_false h1] at P43
        by_cases h2 : 0 < (S q).pn
        · have HO : Hid ((P.vS k (P.vat k)).out = true) := by show _ = _; rw [← unhide HQ, ← unhide HSS]; unfold Pl.out; rw [decide_eq_true h2]; simp
          have g2 : decide (((S q).pn : Int) > 0) = true := by simp; exact h2
          have g3 : decide ((0 : Int) < ((S q).pn : Int)) = true := by simp; exact h2
          have g4 : decide (0 < (S q).pn) = true := by simp; exact h2
          clear cus cpg h1 h2
          go_wp2_with (
            first
            | (go_at_call 43
               refine (unhide P43).mono ?_
               rintro e W9 ⟨rfl, q9⟩
               replace q9 := q9.symm
               subst q9
               clear P43
               refine Stp.go ?_))
          constructor
          go_wp2_with fail
          go_roundw
          case rel => exact ⟨k + 1, by omega, by go_num, (fun j hj => by
            by_cases e : j = k
            · subst e; show P.stop j = false; unfold Po.stop; rw [unhide HO]; rfl
            · exact unhide HI j (by omega)), (by show Pg _ _ _ (P.vQ (k + 1)) _; rw [show P.vQ (k + 1) = P.vQ k from by unfold Po.vQ; rw [vS_out (unhide HO)]]; exact unhide HS), HK⟩
          case measure => simp [intOf]; omega
        · have HO : Hid ((P.vS k (P.vat k)).out = false) := by show _ = _; rw [← unhide HQ, ← unhide HSS]; unfold Pl.out; rw [decide_eq_false h1, decide_eq_false h2]; rfl
          have g2 : decide (((S q).pn : Int) > 0) = false := by simp; omega
          have g3 : decide ((0 : Int) < ((S q).pn : Int)) = false := by simp; omega
          have g4 : decide (0 < (S q).pn) = false := by simp; omega
          clear h1 h2
          cases hu : (S q).us with
          | true =>
            rw [hu] at cus
            have HT : Hid (P.stop k = false) := by show _ = _; unfold Po.stop; rw [← unhide HQ, ← unhide HSS, hu]; simp
            clear hu cpg
            obtain ⟨c0, hc0⟩ : ∃ c, c = (P.vQ k).C (.map (some mb)) := ⟨_, rfl⟩
            have HL0 : Hid (c0.length = 1667) := by show _ = _; rw [hc0, Po.len]
            have HB0 : Hid (Blk w9 b 70 c0) := by rw [hc0]; exact (unhide HS).blk
            obtain ⟨c1, hc1⟩ : ∃ c, c = ((P.vQ k).up q ⟨(P.vS k (P.vat k)).f, (P.vS k (P.vat k)).pn, false⟩).C (.map (some mb)) := ⟨_, rfl⟩
            have HC1 : Hid (c0.set (q * 104 + 103) (.bool false) = c1) := by
              show _ = _
              rw [hc0, hc1]
              exact (P.vQ k).set_up _ hq16 (by omega) (by rw [← unhide HQ]; exact Pl.set_us _ false)
            have HC2 := hide hc1
            clear hc0 hc1
            go_wp2_with (
              first
              | (go_at_call 43
                 refine (unhide P43).mono ?_
                 rintro e W9 ⟨rfl, q9⟩
                 replace q9 := q9.symm
                 subst q9
                 clear P43
                 refine Stp.go ?_))
            constructor
            go_wp2_with (
              first
              | (refine wpStoreV1 size4 rfl (.tmp 50) (.const (.bool false)) rfl rfl b (q * 104 + 103) (.bool false) ⟨rfl, rfl⟩ rfl rfl (unhide HB0) (by have := unhide HL0; omega) ?_
                 intro W7 B7 K7
                 have HB7 := hide B7
                 have HK7 := hide K7
                 clear B7 K7
                 refine Stp.go ?_))
            constructor
            go_wp2_with fail
            go_roundw
            case rel =>
              have hB := unhide HB7
              rw [unhide HC1] at hB
              have h9 : Pg W7 b mb (P.vQ (k + 1)) L := by
                rw [vS_in (unhide HO)]
                rw [unhide HC2] at hB
                refine (unhide HS).lk ((unhide HS).map.kept (unhide HK7) (by have := (unhide HS).ne; simp; exact fun e => this e.symm)) (by have h8 := hB; rw [← unhide HQ] at h8 ⊢; exact h8) (Lk.up (unhide HS).ok rfl ?_)
                intro e
                have h8 := unhide HO
                unfold Pl.out at h8
                have e2 : (P.vS k (P.vat k)).f.md = 0 := e
                rw [e2] at h8
                simp at h8
              exact ⟨k + 1, by omega, by go_num, (fun j hj => by
                by_cases e : j = k
                · subst e; exact unhide HT
                · exact unhide HI j (by omega)), h9, (unhide HK).trans (unhide HK7)⟩
            case measure => simp [intOf]; omega
          | false =>
            rw [hu] at cus
            have HT : Hid (P.stop k = true) := by show _ = _; unfold Po.stop; rw [unhide HO, ← unhide HQ, ← unhide HSS, hu]; rfl
            clear hu
            obtain ⟨c0, hc0⟩ : ∃ c, c = (P.vQ k).C (.map (some mb)) := ⟨_, rfl⟩
            have HL0 : Hid (c0.length = 1667) := by show _ = _; rw [hc0, Po.len]
            have HB0 : Hid (Blk w9 b 70 c0) := by rw [hc0]; exact (unhide HS).blk
            obtain ⟨c1, hc1⟩ : ∃ c, c = Po.C ⟨P.m, (q + 1) % P.m, P.vS k⟩ (.map (some mb)) := ⟨_, rfl⟩
            have HC1 : Hid (c0.set 1665 (.int .i64 (((q + 1) % P.m : Nat) : Int)) = c1) := by show _ = _; rw [hc0, hc1]; exact Po.set_h _ _ _
            have HC2 := hide hc1
            clear hc0 hc1
            have HPG : Hid (∀ W, Blk W b 70 c1 → W.cell? ⟨b, q * 104, none⟩ = some (.int .i64 (S q).f.pg)) := fun W hB => by
              rw [unhide HC2] at hB
              have h9 := fits_cell hB (q * 104 + 0) _ (by rw [Po.at _ _ q 0 hq16 (by omega), Pl.at_f _ 0 (by omega)]; rfl)
              rw [unhide HSS]; exact h9
            clear cpg
            have hm0 : ¬ (P.m = 0) := by omega
            have hm1 : ¬ ((P.m : Int) = 0) := by omega
            have hm2 : ((P.m : Int) == 0) = false := by simp; omega
            have hm3 : decide ((P.m : Int) = 0) = false := by simp; omega
            go_wp2_with (
              first
              | (go_at_call 43
                 refine (unhide P43).mono ?_
                 rintro e W9 ⟨rfl, q9⟩
                 replace q9 := q9.symm
                 subst q9
                 clear P43
                 refine Stp.go ?_))
            constructor
            go_wp2_with (
              first
              | (refine wpStoreV1 size3 rfl (.tmp 60) (.tmp 58) rfl rfl b 1665 (.int .i64 (((q + 1) % P.m : Nat) : Int)) ⟨rfl, rfl⟩ rfl (congrArg (Value.int .i64) (mod_cast' q P.m)) (unhide HB0) (by have := unhide HL0; omega) ?_
                 intro W7 B7 K7
                 have HB7 := hide B7
                 have HK7 := hide K7
                 have cpg := unhide HPG _ (by rw [← unhide HC1]; exact B7)
                 clear B7 K7
                 refine Stp.go ?_))
            constructor
            go_wp2_with fail
            try rw [Exit.noGoto_ret]
            go_ret2
            have HE : P.vic = (⟨P.m, (P.vat k + 1) % P.m, P.vS k⟩, (P.vS k (P.vat k)).f.pg, true) := by unfold Po.vic; rw [vTo_some (unhide HI) (unhide HT) _ hlt]
            rw [HE]
            have hB := unhide HB7
            rw [unhide HC1, unhide HC2] at hB
            refine ⟨by rw [unhide HSS, unhide HQ]; rfl, ?_, (unhide HK).trans (unhide HK7)⟩
            rw [← unhide HQ]
            have hl0 : Lk P (P.vQ k) := vQ_lk k (unhide HOK).h
            refine ⟨hB, (unhide HS).map.kept (unhide HK7) (by have := (unhide HS).ne; simp; exact fun e => this e.symm), (vQ_lk k (Nat.mod_lt _ (by omega))).ok (unhide HOK), ?_⟩
            exact ⟨(unhide HS).wh.at_, (unhide HS).wh.has, (unhide HS).wh.nd, (unhide HS).wh.ln⟩
    · obtain rfl : k = 2 * P.m := by omega
      have hd : decide ((2 * (P.m : Int)) < 2 * (P.m : Int)) = false := by simp
      have HE : Hid (P.vic = (P.vQ (2 * P.m), 0, false)) := by show _ = _; unfold Po.vic; rw [vTo_none _ (unhide HI)]
      go_wp2_with fail
      try rw [Exit.noGoto_ret]
      go_ret2
      rw [unhide HE]
      exact ⟨rfl, unhide HS, unhide HK⟩

end Go.Proofs.Ytgnafbohikbpfaa
