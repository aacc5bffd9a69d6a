/-
  The walk of Same of two devices.
-/
import Derived.Test.YtffflafalffifaaOpd
import Derived.Test.YtffflafalffifaaSame
import Derived.Test.YtffflafalffifaaCopy
namespace Go.Proofs.Ytffflafalffifaa.K
open Go.RowKit

/-- Are two devices the same? -/
def Dev.same (D D2 : Dev) : Bool := decide (D.N = D2.N) && (decide (D.E = D2.E) && decide (D.S = D2.S))
theorem dv_secs {w : World} {b g : Nat} {D : Dev} (h : Dv w b g D) : ∃ cap, Head w b g cap D ∧ Secs w (some ⟨g, 0, none⟩) D.S.length cap D.S := by
  obtain ⟨cap, hh, ex, hb1, hb2, hb3, hb4⟩ := h.lay
  exact ⟨cap, hh, secs_block h.ok.sec rfl hb1 cap hb2⟩
theorem head_eps {w : World} {b g cap : Nat} {D : Dev} (h : Head w b g cap D) (hok : D.Ok) : w.rangeAt b 2 (i64s D.E) := by
  intro j v hj
  rw [cell_of_block h]
  have hl : j < 8 := by have := (List.getElem?_eq_some_iff.1 hj).1; rw [i64s_len, hok.e8] at this; exact this
  have e1 : (devCells D g cap).toArray[2 + j]? = (D.E.map (Value.int .i64))[j]? := by
    rw [List.getElem?_toArray]
    unfold devCells
    rw [List.append_assoc, List.getElem?_append_right (by simp), List.getElem?_append_left (by simp [hok.e8]; omega)]
    simp
  exact e1.trans hj
theorem head_kept {w w' : World} {b g cap : Nat} {D : Dev} (h : Head w b g cap D) (hk : Kept [] w w') : Head w' b g cap D := hk.heap h (by simp)
set_option maxHeartbeats 2000000 in
set_option maxRecDepth 100000 in
theorem same_N (b g b2 g2 : Nat) (D D2 : Dev) (w : World) (h : Dv w b g D) (h2 : Dv w b2 g2 D2) (hN : decide ((D.N : Int) = D2.N) = false) : Calls Try.prog 17 #[P0 b, P0 b2] w fun e w' => e = .returned (.bool false) ∧ Kept [] w w' := by
  have hok := h.ok
  have hok2 := h2.ok
  have h4 : D.S.length ≤ 1000000 := by have := hok.s1; omega
  have h5 : D2.S.length ≤ 1000000 := by have := hok2.s1; omega
  have lE : (i64s D.E).length = 8 := by rw [i64s_len, hok.e8]
  have lE2 : (i64s D2.E).length = 8 := by rw [i64s_len, hok2.e8]
  obtain ⟨cap, hh, hs⟩ := dv_secs h
  obtain ⟨cap2, hh2, hs2⟩ := dv_secs h2
  have HA := hide (hh.cells hok).2.1
  have HB := hide (hh2.cells hok2).2.1
  have CA := hide (hh.cells hok).1
  have CB := hide (hh2.cells hok2).1
  have GA := hide hh
  have GB := hide hh2
  have SA := hide hs
  have SB := hide hs2
  have HH := hide h
  have HH2 := hide h2
  have EN := hide hN
  clear hh hh2 hs hs2 h h2 hN
  go_enter Try.func17, Try.ntmps17
  go_wp2_with (
    first
    | (go_at_call 48
       refine (none_no b g D _ (unhide HH)).mono ?_
       rintro e w' ⟨rfl, hww⟩
       obtain rfl := hww.symm
       refine Stp.go ?_))
  constructor
  go_wp2_with (
    first
    | (go_at_call 48
       refine (none_no b2 g2 D2 _ (unhide HH2)).mono ?_
       rintro e w' ⟨rfl, hww⟩
       obtain rfl := hww.symm))
  refine wp_region_any mixed (wpAny_tq 32 rfl (by kernel_rfl) [some (P0 b), some (P0 b), some (.pointer (some ⟨b, 1, none⟩)), some (.int .i64 D.N), some (P0 b2), some (P0 b2), some (.pointer (some ⟨b2, 1, none⟩)), some (.int .i64 D2.N), some (.bool false), some (.bool false), none, none, none, none, none, none, none, none, none, some (.bool false), some (.bool false), none, none, none, none, none, none, none, none, none, some (.bool false), some (.bool false)] rfl (by kernel_rfl) (by kernel_rfl) ?_ ?_)
  · intro i o' hi hsk ho a' w2 hout hin hk2
    replace hk2 : Kept [] w w2 := ⟨hk2.os, hk2.tape, hk2.output, hk2.size, hk2.block⟩
    match i, ho, hsk with
    | 0, ho, hsk =>
      obtain rfl := Option.some.inj ho
      exact wp_move (.tmp 0) rfl _ ((hout 0 (by kernel_rfl)).trans rfl) ⟨_, rfl, tq_is _ _ _ _ rfl, Kept.refl _ _, fun _ _ _ _ _ => trivial⟩
    | 1, ho, hsk =>
      obtain rfl := Option.some.inj ho
      have e0 : a'.eval (.tmp 17) = P0 b := is_tq (hin 0 17 (by kernel_rfl) (by kernel_rfl)) rfl
      exact o_nil (.tmp 17) rfl _ e0 ⟨_, rfl, tq_is _ _ _ _ rfl, Kept.refl _ _, fun _ _ _ _ _ => trivial⟩
    | 2, ho, hsk =>
      obtain rfl := Option.some.inj ho
      have e0 : a'.eval (.tmp 18) = P0 b := is_tq (hin 1 18 (by kernel_rfl) (by kernel_rfl)) rfl
      exact o_fld67_1 (.tmp 18) rfl b e0 ⟨_, rfl, tq_is _ _ _ _ rfl, Kept.refl _ _, fun _ _ _ _ _ => trivial⟩
    | 3, ho, hsk =>
      obtain rfl := Option.some.inj ho
      have e0 : a'.eval (.tmp 19) = .pointer (some ⟨b, 1, none⟩) := is_tq (hin 2 19 (by kernel_rfl) (by kernel_rfl)) rfl
      exact o_load3 (.tmp 19) rfl ⟨b, 1, none⟩ _ e0 (hk2.cell (unhide HA) (by simp)) ⟨_, rfl, tq_is _ _ _ _ rfl, Kept.refl _ _, fun _ _ _ _ _ => trivial⟩
    | 4, ho, hsk =>
      obtain rfl := Option.some.inj ho
      exact wp_move (.tmp 1) rfl _ ((hout 1 (by kernel_rfl)).trans rfl) ⟨_, rfl, tq_is _ _ _ _ rfl, Kept.refl _ _, fun _ _ _ _ _ => trivial⟩
    | 5, ho, hsk =>
      obtain rfl := Option.some.inj ho
      have e0 : a'.eval (.tmp 21) = P0 b2 := is_tq (hin 4 21 (by kernel_rfl) (by kernel_rfl)) rfl
      exact o_nil (.tmp 21) rfl _ e0 ⟨_, rfl, tq_is _ _ _ _ rfl, Kept.refl _ _, fun _ _ _ _ _ => trivial⟩
    | 6, ho, hsk =>
      obtain rfl := Option.some.inj ho
      have e0 : a'.eval (.tmp 22) = P0 b2 := is_tq (hin 5 22 (by kernel_rfl) (by kernel_rfl)) rfl
      exact o_fld67_1 (.tmp 22) rfl b2 e0 ⟨_, rfl, tq_is _ _ _ _ rfl, Kept.refl _ _, fun _ _ _ _ _ => trivial⟩
    | 7, ho, hsk =>
      obtain rfl := Option.some.inj ho
      have e0 : a'.eval (.tmp 23) = .pointer (some ⟨b2, 1, none⟩) := is_tq (hin 6 23 (by kernel_rfl) (by kernel_rfl)) rfl
      exact o_load3 (.tmp 23) rfl ⟨b2, 1, none⟩ _ e0 (hk2.cell (unhide HB) (by simp)) ⟨_, rfl, tq_is _ _ _ _ rfl, Kept.refl _ _, fun _ _ _ _ _ => trivial⟩
    | 8, ho, hsk =>
      obtain rfl := Option.some.inj ho
      have e0 : a'.eval (.tmp 20) = .int .i64 D.N := is_tq (hin 3 20 (by kernel_rfl) (by kernel_rfl)) rfl
      have e1 : a'.eval (.tmp 24) = .int .i64 D2.N := is_tq (hin 7 24 (by kernel_rfl) (by kernel_rfl)) rfl
      exact o_eql3v (.tmp 20) (.tmp 24) rfl _ _ false (unhide EN) e0 e1 ⟨_, rfl, tq_is _ _ _ _ rfl, Kept.refl _ _, fun _ _ _ _ _ => trivial⟩
    | 9, ho, hsk =>
      obtain rfl := Option.some.inj ho
      have e0 : a'.eval (.tmp 25) = .bool false := is_tq (hin 8 25 (by kernel_rfl) (by kernel_rfl)) rfl
      exact wp_move (.tmp 25) rfl _ e0 ⟨_, rfl, tq_is _ _ _ _ rfl, Kept.refl _ _, fun _ _ _ _ _ => trivial⟩
    | 10, ho, hsk =>
      cases hsk
    | 11, ho, hsk =>
      cases hsk
    | 12, ho, hsk =>
      cases hsk
    | 13, ho, hsk =>
      cases hsk
    | 14, ho, hsk =>
      cases hsk
    | 15, ho, hsk =>
      cases hsk
    | 16, ho, hsk =>
      cases hsk
    | 17, ho, hsk =>
      cases hsk
    | 18, ho, hsk =>
      cases hsk
    | 19, ho, hsk =>
      obtain rfl := Option.some.inj ho
      have e0 : a'.eval (.tmp 26) = .bool false := is_tq (hin 9 26 (by kernel_rfl) (by kernel_rfl)) rfl
      exact o_pickN (.tmp 26) (.tmp 35) rfl e0 ⟨_, rfl, tq_is _ _ _ _ rfl, Kept.refl _ _, fun _ _ _ _ _ => trivial⟩
    | 20, ho, hsk =>
      obtain rfl := Option.some.inj ho
      have e0 : a'.eval (.tmp 36) = .bool false := is_tq (hin 19 36 (by kernel_rfl) (by kernel_rfl)) rfl
      exact wp_move (.tmp 36) rfl _ e0 ⟨_, rfl, tq_is _ _ _ _ rfl, Kept.refl _ _, fun _ _ _ _ _ => trivial⟩
    | 21, ho, hsk =>
      cases hsk
    | 22, ho, hsk =>
      cases hsk
    | 23, ho, hsk =>
      cases hsk
    | 24, ho, hsk =>
      cases hsk
    | 25, ho, hsk =>
      cases hsk
    | 26, ho, hsk =>
      cases hsk
    | 27, ho, hsk =>
      cases hsk
    | 28, ho, hsk =>
      cases hsk
    | 29, ho, hsk =>
      cases hsk
    | 30, ho, hsk =>
      obtain rfl := Option.some.inj ho
      have e0 : a'.eval (.tmp 37) = .bool false := is_tq (hin 20 37 (by kernel_rfl) (by kernel_rfl)) rfl
      exact o_pickN (.tmp 37) (.tmp 46) rfl e0 ⟨_, rfl, tq_is _ _ _ _ rfl, Kept.refl _ _, fun _ _ _ _ _ => trivial⟩
    | 31, ho, hsk =>
      obtain rfl := Option.some.inj ho
      have e0 : a'.eval (.tmp 47) = .bool false := is_tq (hin 30 47 (by kernel_rfl) (by kernel_rfl)) rfl
      exact wp_assignV (.tmp 47) rfl _ e0 ⟨_, rfl, tq_is _ _ _ _ rfl, Kept.refl _ _, fun _ _ _ _ _ => trivial⟩
  intro w9 hk9
  replace hk9 : Kept [] w w9 := ⟨hk9.os, hk9.tape, hk9.output, hk9.size, hk9.block⟩
  simp only [valsQ, List.map_cons, List.map_nil, Option.getD_some, Option.getD_none, List.take_succ_cons, List.take_zero, putAll, Act.put, List.setIfInBounds_toArray, List.set_cons_succ, List.set_cons_zero]
  refine wpAny_done (by kernel_rfl) ?_ _
  go_wp2_with fail
  go_ret
  exact ⟨rfl, hk9⟩
set_option maxHeartbeats 2000000 in
set_option maxRecDepth 100000 in
theorem same_E (b g b2 g2 : Nat) (D D2 : Dev) (w : World) (h : Dv w b g D) (h2 : Dv w b2 g2 D2) (hN : decide ((D.N : Int) = D2.N) = true) (hE : decide (D.E = D2.E) = false) : Calls Try.prog 17 #[P0 b, P0 b2] w fun e w' => e = .returned (.bool false) ∧ Kept [] w w' := by
  have hok := h.ok
  have hok2 := h2.ok
  have h4 : D.S.length ≤ 1000000 := by have := hok.s1; omega
  have h5 : D2.S.length ≤ 1000000 := by have := hok2.s1; omega
  have lE : (i64s D.E).length = 8 := by rw [i64s_len, hok.e8]
  have lE2 : (i64s D2.E).length = 8 := by rw [i64s_len, hok2.e8]
  obtain ⟨cap, hh, hs⟩ := dv_secs h
  obtain ⟨cap2, hh2, hs2⟩ := dv_secs h2
  have HA := hide (hh.cells hok).2.1
  have HB := hide (hh2.cells hok2).2.1
  have CA := hide (hh.cells hok).1
  have CB := hide (hh2.cells hok2).1
  have GA := hide hh
  have GB := hide hh2
  have SA := hide hs
  have SB := hide hs2
  have HH := hide h
  have HH2 := hide h2
  have EN := hide hN
  have EE := hide hE
  clear hh hh2 hs hs2 h h2 hN hE
  go_enter Try.func17, Try.ntmps17
  go_wp2_with (
    first
    | (go_at_call 48
       refine (none_no b g D _ (unhide HH)).mono ?_
       rintro e w' ⟨rfl, hww⟩
       obtain rfl := hww.symm
       refine Stp.go ?_))
  constructor
  go_wp2_with (
    first
    | (go_at_call 48
       refine (none_no b2 g2 D2 _ (unhide HH2)).mono ?_
       rintro e w' ⟨rfl, hww⟩
       obtain rfl := hww.symm))
  refine wp_region_any mixed (wpAny_tq 32 rfl (by kernel_rfl) [some (P0 b), some (P0 b), some (.pointer (some ⟨b, 1, none⟩)), some (.int .i64 D.N), some (P0 b2), some (P0 b2), some (.pointer (some ⟨b2, 1, none⟩)), some (.int .i64 D2.N), some (.bool true), some (.bool true), some (P0 b), some (P0 b), some (.pointer (some ⟨b, 2, none⟩)), some (aggV (i64s D.E)), some (P0 b2), some (P0 b2), some (.pointer (some ⟨b2, 2, none⟩)), some (aggV (i64s D2.E)), some (.bool false), some (.bool false), some (.bool false), none, none, none, none, none, none, none, none, none, some (.bool false), some (.bool false)] rfl (by kernel_rfl) (by kernel_rfl) ?_ ?_)
  · intro i o' hi hsk ho a' w2 hout hin hk2
    replace hk2 : Kept [] w w2 := ⟨hk2.os, hk2.tape, hk2.output, hk2.size, hk2.block⟩
    match i, ho, hsk with
    | 0, ho, hsk =>
      obtain rfl := Option.some.inj ho
      exact wp_move (.tmp 0) rfl _ ((hout 0 (by kernel_rfl)).trans rfl) ⟨_, rfl, tq_is _ _ _ _ rfl, Kept.refl _ _, fun _ _ _ _ _ => trivial⟩
    | 1, ho, hsk =>
      obtain rfl := Option.some.inj ho
      have e0 : a'.eval (.tmp 17) = P0 b := is_tq (hin 0 17 (by kernel_rfl) (by kernel_rfl)) rfl
      exact o_nil (.tmp 17) rfl _ e0 ⟨_, rfl, tq_is _ _ _ _ rfl, Kept.refl _ _, fun _ _ _ _ _ => trivial⟩
    | 2, ho, hsk =>
      obtain rfl := Option.some.inj ho
      have e0 : a'.eval (.tmp 18) = P0 b := is_tq (hin 1 18 (by kernel_rfl) (by kernel_rfl)) rfl
      exact o_fld67_1 (.tmp 18) rfl b e0 ⟨_, rfl, tq_is _ _ _ _ rfl, Kept.refl _ _, fun _ _ _ _ _ => trivial⟩
    | 3, ho, hsk =>
      obtain rfl := Option.some.inj ho
      have e0 : a'.eval (.tmp 19) = .pointer (some ⟨b, 1, none⟩) := is_tq (hin 2 19 (by kernel_rfl) (by kernel_rfl)) rfl
      exact o_load3 (.tmp 19) rfl ⟨b, 1, none⟩ _ e0 (hk2.cell (unhide HA) (by simp)) ⟨_, rfl, tq_is _ _ _ _ rfl, Kept.refl _ _, fun _ _ _ _ _ => trivial⟩
    | 4, ho, hsk =>
      obtain rfl := Option.some.inj ho
      exact wp_move (.tmp 1) rfl _ ((hout 1 (by kernel_rfl)).trans rfl) ⟨_, rfl, tq_is _ _ _ _ rfl, Kept.refl _ _, fun _ _ _ _ _ => trivial⟩
    | 5, ho, hsk =>
      obtain rfl := Option.some.inj ho
      have e0 : a'.eval (.tmp 21) = P0 b2 := is_tq (hin 4 21 (by kernel_rfl) (by kernel_rfl)) rfl
      exact o_nil (.tmp 21) rfl _ e0 ⟨_, rfl, tq_is _ _ _ _ rfl, Kept.refl _ _, fun _ _ _ _ _ => trivial⟩
    | 6, ho, hsk =>
      obtain rfl := Option.some.inj ho
      have e0 : a'.eval (.tmp 22) = P0 b2 := is_tq (hin 5 22 (by kernel_rfl) (by kernel_rfl)) rfl
      exact o_fld67_1 (.tmp 22) rfl b2 e0 ⟨_, rfl, tq_is _ _ _ _ rfl, Kept.refl _ _, fun _ _ _ _ _ => trivial⟩
    | 7, ho, hsk =>
      obtain rfl := Option.some.inj ho
      have e0 : a'.eval (.tmp 23) = .pointer (some ⟨b2, 1, none⟩) := is_tq (hin 6 23 (by kernel_rfl) (by kernel_rfl)) rfl
      exact o_load3 (.tmp 23) rfl ⟨b2, 1, none⟩ _ e0 (hk2.cell (unhide HB) (by simp)) ⟨_, rfl, tq_is _ _ _ _ rfl, Kept.refl _ _, fun _ _ _ _ _ => trivial⟩
    | 8, ho, hsk =>
      obtain rfl := Option.some.inj ho
      have e0 : a'.eval (.tmp 20) = .int .i64 D.N := is_tq (hin 3 20 (by kernel_rfl) (by kernel_rfl)) rfl
      have e1 : a'.eval (.tmp 24) = .int .i64 D2.N := is_tq (hin 7 24 (by kernel_rfl) (by kernel_rfl)) rfl
      exact o_eql3v (.tmp 20) (.tmp 24) rfl _ _ true (unhide EN) e0 e1 ⟨_, rfl, tq_is _ _ _ _ rfl, Kept.refl _ _, fun _ _ _ _ _ => trivial⟩
    | 9, ho, hsk =>
      obtain rfl := Option.some.inj ho
      have e0 : a'.eval (.tmp 25) = .bool true := is_tq (hin 8 25 (by kernel_rfl) (by kernel_rfl)) rfl
      exact wp_move (.tmp 25) rfl _ e0 ⟨_, rfl, tq_is _ _ _ _ rfl, Kept.refl _ _, fun _ _ _ _ _ => trivial⟩
    | 10, ho, hsk =>
      obtain rfl := Option.some.inj ho
      exact wp_move (.tmp 0) rfl _ ((hout 0 (by kernel_rfl)).trans rfl) ⟨_, rfl, tq_is _ _ _ _ rfl, Kept.refl _ _, fun _ _ _ _ _ => trivial⟩
    | 11, ho, hsk =>
      obtain rfl := Option.some.inj ho
      have e0 : a'.eval (.tmp 27) = P0 b := is_tq (hin 10 27 (by kernel_rfl) (by kernel_rfl)) rfl
      exact o_nil (.tmp 27) rfl _ e0 ⟨_, rfl, tq_is _ _ _ _ rfl, Kept.refl _ _, fun _ _ _ _ _ => trivial⟩
    | 12, ho, hsk =>
      obtain rfl := Option.some.inj ho
      have e0 : a'.eval (.tmp 28) = P0 b := is_tq (hin 11 28 (by kernel_rfl) (by kernel_rfl)) rfl
      exact o_fld67_2 (.tmp 28) rfl b e0 ⟨_, rfl, tq_is _ _ _ _ rfl, Kept.refl _ _, fun _ _ _ _ _ => trivial⟩
    | 13, ho, hsk =>
      obtain rfl := Option.some.inj ho
      have e0 : a'.eval (.tmp 29) = .pointer (some ⟨b, 2, none⟩) := is_tq (hin 12 29 (by kernel_rfl) (by kernel_rfl)) rfl
      exact wp_loadA row63 (.tmp 29) rfl b 2 e0 (i64s D.E) lE (head_eps (head_kept (unhide GA) hk2) hok) ⟨_, rfl, tq_is _ _ _ _ rfl, Kept.refl _ _, fun _ _ _ _ _ => trivial⟩
    | 14, ho, hsk =>
      obtain rfl := Option.some.inj ho
      exact wp_move (.tmp 1) rfl _ ((hout 1 (by kernel_rfl)).trans rfl) ⟨_, rfl, tq_is _ _ _ _ rfl, Kept.refl _ _, fun _ _ _ _ _ => trivial⟩
    | 15, ho, hsk =>
      obtain rfl := Option.some.inj ho
      have e0 : a'.eval (.tmp 31) = P0 b2 := is_tq (hin 14 31 (by kernel_rfl) (by kernel_rfl)) rfl
      exact o_nil (.tmp 31) rfl _ e0 ⟨_, rfl, tq_is _ _ _ _ rfl, Kept.refl _ _, fun _ _ _ _ _ => trivial⟩
    | 16, ho, hsk =>
      obtain rfl := Option.some.inj ho
      have e0 : a'.eval (.tmp 32) = P0 b2 := is_tq (hin 15 32 (by kernel_rfl) (by kernel_rfl)) rfl
      exact o_fld67_2 (.tmp 32) rfl b2 e0 ⟨_, rfl, tq_is _ _ _ _ rfl, Kept.refl _ _, fun _ _ _ _ _ => trivial⟩
    | 17, ho, hsk =>
      obtain rfl := Option.some.inj ho
      have e0 : a'.eval (.tmp 33) = .pointer (some ⟨b2, 2, none⟩) := is_tq (hin 16 33 (by kernel_rfl) (by kernel_rfl)) rfl
      exact wp_loadA row63 (.tmp 33) rfl b2 2 e0 (i64s D2.E) lE2 (head_eps (head_kept (unhide GB) hk2) hok2) ⟨_, rfl, tq_is _ _ _ _ rfl, Kept.refl _ _, fun _ _ _ _ _ => trivial⟩
    | 18, ho, hsk =>
      obtain rfl := Option.some.inj ho
      have e0 : a'.eval (.tmp 30) = aggV (i64s D.E) := is_tq (hin 13 30 (by kernel_rfl) (by kernel_rfl)) rfl
      have e1 : a'.eval (.tmp 34) = aggV (i64s D2.E) := is_tq (hin 17 34 (by kernel_rfl) (by kernel_rfl)) rfl
      exact o_eqlA 63 63 guard63 (.tmp 30) (.tmp 34) rfl (i64s D.E) (i64s D2.E) e0 e1 false ((equal63 _ D.E D2.E hok.e8 hok2.e8).trans (by rw [unhide EE])) ⟨_, rfl, tq_is _ _ _ _ rfl, Kept.refl _ _, fun _ _ _ _ _ => trivial⟩
    | 19, ho, hsk =>
      obtain rfl := Option.some.inj ho
      have e0 : a'.eval (.tmp 26) = .bool true := is_tq (hin 9 26 (by kernel_rfl) (by kernel_rfl)) rfl
      have e1 : a'.eval (.tmp 35) = .bool false := is_tq (hin 18 35 (by kernel_rfl) (by kernel_rfl)) rfl
      exact o_pick (.tmp 26) (.tmp 35) rfl _ e0 e1 ⟨_, rfl, tq_is _ _ _ _ rfl, Kept.refl _ _, fun _ _ _ _ _ => trivial⟩
    | 20, ho, hsk =>
      obtain rfl := Option.some.inj ho
      have e0 : a'.eval (.tmp 36) = .bool false := is_tq (hin 19 36 (by kernel_rfl) (by kernel_rfl)) rfl
      exact wp_move (.tmp 36) rfl _ e0 ⟨_, rfl, tq_is _ _ _ _ rfl, Kept.refl _ _, fun _ _ _ _ _ => trivial⟩
    | 21, ho, hsk =>
      cases hsk
    | 22, ho, hsk =>
      cases hsk
    | 23, ho, hsk =>
      cases hsk
    | 24, ho, hsk =>
      cases hsk
    | 25, ho, hsk =>
      cases hsk
    | 26, ho, hsk =>
      cases hsk
    | 27, ho, hsk =>
      cases hsk
    | 28, ho, hsk =>
      cases hsk
    | 29, ho, hsk =>
      cases hsk
    | 30, ho, hsk =>
      obtain rfl := Option.some.inj ho
      have e0 : a'.eval (.tmp 37) = .bool false := is_tq (hin 20 37 (by kernel_rfl) (by kernel_rfl)) rfl
      exact o_pickN (.tmp 37) (.tmp 46) rfl e0 ⟨_, rfl, tq_is _ _ _ _ rfl, Kept.refl _ _, fun _ _ _ _ _ => trivial⟩
    | 31, ho, hsk =>
      obtain rfl := Option.some.inj ho
      have e0 : a'.eval (.tmp 47) = .bool false := is_tq (hin 30 47 (by kernel_rfl) (by kernel_rfl)) rfl
      exact wp_assignV (.tmp 47) rfl _ e0 ⟨_, rfl, tq_is _ _ _ _ rfl, Kept.refl _ _, fun _ _ _ _ _ => trivial⟩
  intro w9 hk9
  replace hk9 : Kept [] w w9 := ⟨hk9.os, hk9.tape, hk9.output, hk9.size, hk9.block⟩
  simp only [valsQ, List.map_cons, List.map_nil, Option.getD_some, Option.getD_none, List.take_succ_cons, List.take_zero, putAll, Act.put, List.setIfInBounds_toArray, List.set_cons_succ, List.set_cons_zero]
  refine wpAny_done (by kernel_rfl) ?_ _
  go_wp2_with fail
  go_ret
  exact ⟨rfl, hk9⟩
set_option maxHeartbeats 2000000 in
set_option maxRecDepth 100000 in
theorem same_S (b g b2 g2 : Nat) (D D2 : Dev) (w : World) (h : Dv w b g D) (h2 : Dv w b2 g2 D2) (hN : decide ((D.N : Int) = D2.N) = true) (hE : decide (D.E = D2.E) = true) : Calls Try.prog 17 #[P0 b, P0 b2] w fun e w' => e = .returned (.bool (decide (D.S = D2.S))) ∧ Kept [] w w' := by
  have hok := h.ok
  have hok2 := h2.ok
  have h4 : D.S.length ≤ 1000000 := by have := hok.s1; omega
  have h5 : D2.S.length ≤ 1000000 := by have := hok2.s1; omega
  have lE : (i64s D.E).length = 8 := by rw [i64s_len, hok.e8]
  have lE2 : (i64s D2.E).length = 8 := by rw [i64s_len, hok2.e8]
  obtain ⟨cap, hh, hs⟩ := dv_secs h
  obtain ⟨cap2, hh2, hs2⟩ := dv_secs h2
  have HA := hide (hh.cells hok).2.1
  have HB := hide (hh2.cells hok2).2.1
  have CA := hide (hh.cells hok).1
  have CB := hide (hh2.cells hok2).1
  have GA := hide hh
  have GB := hide hh2
  have SA := hide hs
  have SB := hide hs2
  have HH := hide h
  have HH2 := hide h2
  have EN := hide hN
  have EE := hide hE
  clear hh hh2 hs hs2 h h2 hN hE
  go_enter Try.func17, Try.ntmps17
  go_wp2_with (
    first
    | (go_at_call 48
       refine (none_no b g D _ (unhide HH)).mono ?_
       rintro e w' ⟨rfl, hww⟩
       obtain rfl := hww.symm
       refine Stp.go ?_))
  constructor
  go_wp2_with (
    first
    | (go_at_call 48
       refine (none_no b2 g2 D2 _ (unhide HH2)).mono ?_
       rintro e w' ⟨rfl, hww⟩
       obtain rfl := hww.symm))
  refine wp_region_any mixed (wpAny_tq 32 rfl (by kernel_rfl) [some (P0 b), some (P0 b), some (.pointer (some ⟨b, 1, none⟩)), some (.int .i64 D.N), some (P0 b2), some (P0 b2), some (.pointer (some ⟨b2, 1, none⟩)), some (.int .i64 D2.N), some (.bool true), some (.bool true), some (P0 b), some (P0 b), some (.pointer (some ⟨b, 2, none⟩)), some (aggV (i64s D.E)), some (P0 b2), some (P0 b2), some (.pointer (some ⟨b2, 2, none⟩)), some (aggV (i64s D2.E)), some (.bool true), some (.bool true), some (.bool true), some (P0 b), some (P0 b), some (.pointer (some ⟨b, 0, none⟩)), some (.slice (some ⟨g, 0, none⟩) D.S.length cap), some (P0 b2), some (P0 b2), some (.pointer (some ⟨b2, 0, none⟩)), some (.slice (some ⟨g2, 0, none⟩) D2.S.length cap2), some (.bool (decide (D.S = D2.S))), some (.bool (decide (D.S = D2.S))), some (.bool (decide (D.S = D2.S)))] rfl (by kernel_rfl) (by kernel_rfl) ?_ ?_)
  · intro i o' hi hsk ho a' w2 hout hin hk2
    replace hk2 : Kept [] w w2 := ⟨hk2.os, hk2.tape, hk2.output, hk2.size, hk2.block⟩
    match i, ho, hsk with
    | 0, ho, hsk =>
      obtain rfl := Option.some.inj ho
      exact wp_move (.tmp 0) rfl _ ((hout 0 (by kernel_rfl)).trans rfl) ⟨_, rfl, tq_is _ _ _ _ rfl, Kept.refl _ _, fun _ _ _ _ _ => trivial⟩
    | 1, ho, hsk =>
      obtain rfl := Option.some.inj ho
      have e0 : a'.eval (.tmp 17) = P0 b := is_tq (hin 0 17 (by kernel_rfl) (by kernel_rfl)) rfl
      exact o_nil (.tmp 17) rfl _ e0 ⟨_, rfl, tq_is _ _ _ _ rfl, Kept.refl _ _, fun _ _ _ _ _ => trivial⟩
    | 2, ho, hsk =>
      obtain rfl := Option.some.inj ho
      have e0 : a'.eval (.tmp 18) = P0 b := is_tq (hin 1 18 (by kernel_rfl) (by kernel_rfl)) rfl
      exact o_fld67_1 (.tmp 18) rfl b e0 ⟨_, rfl, tq_is _ _ _ _ rfl, Kept.refl _ _, fun _ _ _ _ _ => trivial⟩
    | 3, ho, hsk =>
      obtain rfl := Option.some.inj ho
      have e0 : a'.eval (.tmp 19) = .pointer (some ⟨b, 1, none⟩) := is_tq (hin 2 19 (by kernel_rfl) (by kernel_rfl)) rfl
      exact o_load3 (.tmp 19) rfl ⟨b, 1, none⟩ _ e0 (hk2.cell (unhide HA) (by simp)) ⟨_, rfl, tq_is _ _ _ _ rfl, Kept.refl _ _, fun _ _ _ _ _ => trivial⟩
    | 4, ho, hsk =>
      obtain rfl := Option.some.inj ho
      exact wp_move (.tmp 1) rfl _ ((hout 1 (by kernel_rfl)).trans rfl) ⟨_, rfl, tq_is _ _ _ _ rfl, Kept.refl _ _, fun _ _ _ _ _ => trivial⟩
    | 5, ho, hsk =>
      obtain rfl := Option.some.inj ho
      have e0 : a'.eval (.tmp 21) = P0 b2 := is_tq (hin 4 21 (by kernel_rfl) (by kernel_rfl)) rfl
      exact o_nil (.tmp 21) rfl _ e0 ⟨_, rfl, tq_is _ _ _ _ rfl, Kept.refl _ _, fun _ _ _ _ _ => trivial⟩
    | 6, ho, hsk =>
      obtain rfl := Option.some.inj ho
      have e0 : a'.eval (.tmp 22) = P0 b2 := is_tq (hin 5 22 (by kernel_rfl) (by kernel_rfl)) rfl
      exact o_fld67_1 (.tmp 22) rfl b2 e0 ⟨_, rfl, tq_is _ _ _ _ rfl, Kept.refl _ _, fun _ _ _ _ _ => trivial⟩
    | 7, ho, hsk =>
      obtain rfl := Option.some.inj ho
      have e0 : a'.eval (.tmp 23) = .pointer (some ⟨b2, 1, none⟩) := is_tq (hin 6 23 (by kernel_rfl) (by kernel_rfl)) rfl
      exact o_load3 (.tmp 23) rfl ⟨b2, 1, none⟩ _ e0 (hk2.cell (unhide HB) (by simp)) ⟨_, rfl, tq_is _ _ _ _ rfl, Kept.refl _ _, fun _ _ _ _ _ => trivial⟩
    | 8, ho, hsk =>
      obtain rfl := Option.some.inj ho
      have e0 : a'.eval (.tmp 20) = .int .i64 D.N := is_tq (hin 3 20 (by kernel_rfl) (by kernel_rfl)) rfl
      have e1 : a'.eval (.tmp 24) = .int .i64 D2.N := is_tq (hin 7 24 (by kernel_rfl) (by kernel_rfl)) rfl
      exact o_eql3v (.tmp 20) (.tmp 24) rfl _ _ true (unhide EN) e0 e1 ⟨_, rfl, tq_is _ _ _ _ rfl, Kept.refl _ _, fun _ _ _ _ _ => trivial⟩
    | 9, ho, hsk =>
      obtain rfl := Option.some.inj ho
      have e0 : a'.eval (.tmp 25) = .bool true := is_tq (hin 8 25 (by kernel_rfl) (by kernel_rfl)) rfl
      exact wp_move (.tmp 25) rfl _ e0 ⟨_, rfl, tq_is _ _ _ _ rfl, Kept.refl _ _, fun _ _ _ _ _ => trivial⟩
    | 10, ho, hsk =>
      obtain rfl := Option.some.inj ho
      exact wp_move (.tmp 0) rfl _ ((hout 0 (by kernel_rfl)).trans rfl) ⟨_, rfl, tq_is _ _ _ _ rfl, Kept.refl _ _, fun _ _ _ _ _ => trivial⟩
    | 11, ho, hsk =>
      obtain rfl := Option.some.inj ho
      have e0 : a'.eval (.tmp 27) = P0 b := is_tq (hin 10 27 (by kernel_rfl) (by kernel_rfl)) rfl
      exact o_nil (.tmp 27) rfl _ e0 ⟨_, rfl, tq_is _ _ _ _ rfl, Kept.refl _ _, fun _ _ _ _ _ => trivial⟩
    | 12, ho, hsk =>
      obtain rfl := Option.some.inj ho
      have e0 : a'.eval (.tmp 28) = P0 b := is_tq (hin 11 28 (by kernel_rfl) (by kernel_rfl)) rfl
      exact o_fld67_2 (.tmp 28) rfl b e0 ⟨_, rfl, tq_is _ _ _ _ rfl, Kept.refl _ _, fun _ _ _ _ _ => trivial⟩
    | 13, ho, hsk =>
      obtain rfl := Option.some.inj ho
      have e0 : a'.eval (.tmp 29) = .pointer (some ⟨b, 2, none⟩) := is_tq (hin 12 29 (by kernel_rfl) (by kernel_rfl)) rfl
      exact wp_loadA row63 (.tmp 29) rfl b 2 e0 (i64s D.E) lE (head_eps (head_kept (unhide GA) hk2) hok) ⟨_, rfl, tq_is _ _ _ _ rfl, Kept.refl _ _, fun _ _ _ _ _ => trivial⟩
    | 14, ho, hsk =>
      obtain rfl := Option.some.inj ho
      exact wp_move (.tmp 1) rfl _ ((hout 1 (by kernel_rfl)).trans rfl) ⟨_, rfl, tq_is _ _ _ _ rfl, Kept.refl _ _, fun _ _ _ _ _ => trivial⟩
    | 15, ho, hsk =>
      obtain rfl := Option.some.inj ho
      have e0 : a'.eval (.tmp 31) = P0 b2 := is_tq (hin 14 31 (by kernel_rfl) (by kernel_rfl)) rfl
      exact o_nil (.tmp 31) rfl _ e0 ⟨_, rfl, tq_is _ _ _ _ rfl, Kept.refl _ _, fun _ _ _ _ _ => trivial⟩
    | 16, ho, hsk =>
      obtain rfl := Option.some.inj ho
      have e0 : a'.eval (.tmp 32) = P0 b2 := is_tq (hin 15 32 (by kernel_rfl) (by kernel_rfl)) rfl
      exact o_fld67_2 (.tmp 32) rfl b2 e0 ⟨_, rfl, tq_is _ _ _ _ rfl, Kept.refl _ _, fun _ _ _ _ _ => trivial⟩
    | 17, ho, hsk =>
      obtain rfl := Option.some.inj ho
      have e0 : a'.eval (.tmp 33) = .pointer (some ⟨b2, 2, none⟩) := is_tq (hin 16 33 (by kernel_rfl) (by kernel_rfl)) rfl
      exact wp_loadA row63 (.tmp 33) rfl b2 2 e0 (i64s D2.E) lE2 (head_eps (head_kept (unhide GB) hk2) hok2) ⟨_, rfl, tq_is _ _ _ _ rfl, Kept.refl _ _, fun _ _ _ _ _ => trivial⟩
    | 18, ho, hsk =>
      obtain rfl := Option.some.inj ho
      have e0 : a'.eval (.tmp 30) = aggV (i64s D.E) := is_tq (hin 13 30 (by kernel_rfl) (by kernel_rfl)) rfl
      have e1 : a'.eval (.tmp 34) = aggV (i64s D2.E) := is_tq (hin 17 34 (by kernel_rfl) (by kernel_rfl)) rfl
      exact o_eqlA 63 63 guard63 (.tmp 30) (.tmp 34) rfl (i64s D.E) (i64s D2.E) e0 e1 true ((equal63 _ D.E D2.E hok.e8 hok2.e8).trans (by rw [unhide EE])) ⟨_, rfl, tq_is _ _ _ _ rfl, Kept.refl _ _, fun _ _ _ _ _ => trivial⟩
    | 19, ho, hsk =>
      obtain rfl := Option.some.inj ho
      have e0 : a'.eval (.tmp 26) = .bool true := is_tq (hin 9 26 (by kernel_rfl) (by kernel_rfl)) rfl
      have e1 : a'.eval (.tmp 35) = .bool true := is_tq (hin 18 35 (by kernel_rfl) (by kernel_rfl)) rfl
      exact o_pick (.tmp 26) (.tmp 35) rfl _ e0 e1 ⟨_, rfl, tq_is _ _ _ _ rfl, Kept.refl _ _, fun _ _ _ _ _ => trivial⟩
    | 20, ho, hsk =>
      obtain rfl := Option.some.inj ho
      have e0 : a'.eval (.tmp 36) = .bool true := is_tq (hin 19 36 (by kernel_rfl) (by kernel_rfl)) rfl
      exact wp_move (.tmp 36) rfl _ e0 ⟨_, rfl, tq_is _ _ _ _ rfl, Kept.refl _ _, fun _ _ _ _ _ => trivial⟩
    | 21, ho, hsk =>
      obtain rfl := Option.some.inj ho
      exact wp_move (.tmp 0) rfl _ ((hout 0 (by kernel_rfl)).trans rfl) ⟨_, rfl, tq_is _ _ _ _ rfl, Kept.refl _ _, fun _ _ _ _ _ => trivial⟩
    | 22, ho, hsk =>
      obtain rfl := Option.some.inj ho
      have e0 : a'.eval (.tmp 38) = P0 b := is_tq (hin 21 38 (by kernel_rfl) (by kernel_rfl)) rfl
      exact o_nil (.tmp 38) rfl _ e0 ⟨_, rfl, tq_is _ _ _ _ rfl, Kept.refl _ _, fun _ _ _ _ _ => trivial⟩
    | 23, ho, hsk =>
      obtain rfl := Option.some.inj ho
      have e0 : a'.eval (.tmp 39) = P0 b := is_tq (hin 22 39 (by kernel_rfl) (by kernel_rfl)) rfl
      exact o_fld67_0 (.tmp 39) rfl b e0 ⟨_, rfl, tq_is _ _ _ _ rfl, Kept.refl _ _, fun _ _ _ _ _ => trivial⟩
    | 24, ho, hsk =>
      obtain rfl := Option.some.inj ho
      have e0 : a'.eval (.tmp 40) = .pointer (some ⟨b, 0, none⟩) := is_tq (hin 23 40 (by kernel_rfl) (by kernel_rfl)) rfl
      exact o_load36 (.tmp 40) rfl ⟨b, 0, none⟩ _ e0 (hk2.cell (unhide CA) (by simp)) ⟨_, rfl, tq_is _ _ _ _ rfl, Kept.refl _ _, fun _ _ _ _ _ => trivial⟩
    | 25, ho, hsk =>
      obtain rfl := Option.some.inj ho
      exact wp_move (.tmp 1) rfl _ ((hout 1 (by kernel_rfl)).trans rfl) ⟨_, rfl, tq_is _ _ _ _ rfl, Kept.refl _ _, fun _ _ _ _ _ => trivial⟩
    | 26, ho, hsk =>
      obtain rfl := Option.some.inj ho
      have e0 : a'.eval (.tmp 42) = P0 b2 := is_tq (hin 25 42 (by kernel_rfl) (by kernel_rfl)) rfl
      exact o_nil (.tmp 42) rfl _ e0 ⟨_, rfl, tq_is _ _ _ _ rfl, Kept.refl _ _, fun _ _ _ _ _ => trivial⟩
    | 27, ho, hsk =>
      obtain rfl := Option.some.inj ho
      have e0 : a'.eval (.tmp 43) = P0 b2 := is_tq (hin 26 43 (by kernel_rfl) (by kernel_rfl)) rfl
      exact o_fld67_0 (.tmp 43) rfl b2 e0 ⟨_, rfl, tq_is _ _ _ _ rfl, Kept.refl _ _, fun _ _ _ _ _ => trivial⟩
    | 28, ho, hsk =>
      obtain rfl := Option.some.inj ho
      have e0 : a'.eval (.tmp 44) = .pointer (some ⟨b2, 0, none⟩) := is_tq (hin 27 44 (by kernel_rfl) (by kernel_rfl)) rfl
      exact o_load36 (.tmp 44) rfl ⟨b2, 0, none⟩ _ e0 (hk2.cell (unhide CB) (by simp)) ⟨_, rfl, tq_is _ _ _ _ rfl, Kept.refl _ _, fun _ _ _ _ _ => trivial⟩
    | 29, ho, hsk =>
      obtain rfl := Option.some.inj ho
      have e0 : a'.eval (.tmp 41) = .slice (some ⟨g, 0, none⟩) D.S.length cap := is_tq (hin 24 41 (by kernel_rfl) (by kernel_rfl)) rfl
      have e1 : a'.eval (.tmp 45) = .slice (some ⟨g2, 0, none⟩) D2.S.length cap2 := is_tq (hin 28 45 (by kernel_rfl) (by kernel_rfl)) rfl
      refine wp_callF 49 _ _ rfl #[.slice (some ⟨g, 0, none⟩) D.S.length cap, .slice (some ⟨g2, 0, none⟩) D2.S.length cap2] (by simp [e0, e1]) (cg49 _ _) ((equal49 _ _ _ _ _ _ D.S D2.S _ ((unhide SA).kept hk2 (fun _ _ _ => by simp)) ((unhide SB).kept hk2 (fun _ _ _ => by simp)) h4 h5).mono ?_)
      rintro e w3 ⟨rfl, hk3⟩
      exact ⟨_, rfl, _, rfl, tq_is _ _ _ _ rfl, hk3, fun _ _ _ _ _ => trivial⟩
    | 30, ho, hsk =>
      obtain rfl := Option.some.inj ho
      have e0 : a'.eval (.tmp 37) = .bool true := is_tq (hin 20 37 (by kernel_rfl) (by kernel_rfl)) rfl
      have e1 : a'.eval (.tmp 46) = .bool (decide (D.S = D2.S)) := is_tq (hin 29 46 (by kernel_rfl) (by kernel_rfl)) rfl
      exact o_pick (.tmp 37) (.tmp 46) rfl _ e0 e1 ⟨_, rfl, tq_is _ _ _ _ rfl, Kept.refl _ _, fun _ _ _ _ _ => trivial⟩
    | 31, ho, hsk =>
      obtain rfl := Option.some.inj ho
      have e0 : a'.eval (.tmp 47) = .bool (decide (D.S = D2.S)) := is_tq (hin 30 47 (by kernel_rfl) (by kernel_rfl)) rfl
      exact wp_assignV (.tmp 47) rfl _ e0 ⟨_, rfl, tq_is _ _ _ _ rfl, Kept.refl _ _, fun _ _ _ _ _ => trivial⟩
  intro w9 hk9
  replace hk9 : Kept [] w w9 := ⟨hk9.os, hk9.tape, hk9.output, hk9.size, hk9.block⟩
  simp only [valsQ, List.map_cons, List.map_nil, Option.getD_some, List.take_succ_cons, List.take_zero, putAll, Act.put, List.setIfInBounds_toArray, List.set_cons_succ, List.set_cons_zero]
  refine wpAny_done (by kernel_rfl) ?_ _
  go_wp2_with fail
  go_ret
  exact ⟨rfl, hk9⟩
theorem same17 (b g b2 g2 : Nat) (D D2 : Dev) (w : World) (h : Dv w b g D) (h2 : Dv w b2 g2 D2) : Calls Try.prog 17 #[P0 b, P0 b2] w fun e w' => e = .returned (.bool (Dev.same D D2)) ∧ Kept [] w w' := by
  by_cases hN : D.N = D2.N
  · by_cases hE : D.E = D2.E
    · have e : Dev.same D D2 = decide (D.S = D2.S) := by simp [Dev.same, hN, hE]
      rw [e]
      exact same_S b g b2 g2 D D2 w h h2 (decide_eq_true (by omega)) (decide_eq_true hE)
    · have e : Dev.same D D2 = false := by simp [Dev.same, hE]
      rw [e]
      exact same_E b g b2 g2 D D2 w h h2 (decide_eq_true (by omega)) (decide_eq_false hE)
  · have e : Dev.same D D2 = false := by simp [Dev.same, hN]
    rw [e]
    exact same_N b g b2 g2 D D2 w h h2 (decide_eq_false (by omega))

end Go.Proofs.Ytffflafalffifaa.K
