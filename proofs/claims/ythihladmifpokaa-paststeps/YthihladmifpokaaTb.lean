/-
  The document's Clear, Of, Discard.
-/
import Derived.Test.YthihladmifpokaaTa
import Derived.Deep.CutBlock
namespace Go.Proofs.Ythihladmifpokaa
set_option maxRecDepth 100000
set_option linter.unusedSimpArgs false
open Go.RowKit


variable {w W W' : World} {r : Nat} {v : Value} {L : List Mk} {p s : Int}
theorem rclear24 (h : Rp w r v L) : Calls Try.prog 24 #[P0 r] w fun e W => e = .returned (.int .i64 (L.length : Int)) ∧ Rp W r (.slice none 0 0) [] ∧ Kept [r] w W := by
  obtain ⟨ao, cc, rfl⟩ := h.sl
  have HR := hide h
  have cr := h.cw
  have cf : w.frozen? ⟨r, 0, none⟩ = false := frozen_of_block h.blk 0
  clear h
  go_enter Try.func24, Try.ntmps24
  go_wp2_with fail
  go_ret
  exact ⟨rfl, ⟨(unhide HR).blk.one _, Rw.nil _, by decide⟩, (Kept.refl _ _).setCell (p := ⟨r, 0, none⟩) (by simp) _⟩
theorem filt_add {L : List Mk} {k : Nat} {m : Mk} {f : Mk → Bool} (h : L.take (k + 1) = L.take k ++ [m]) (hf : f m = true) : (L.take (k + 1)).filter f = (L.take k).filter f ++ [m] := by
  rw [h, List.filter_append]; simp [hf]
theorem filt_no {L : List Mk} {k : Nat} {m : Mk} {f : Mk → Bool} (h : L.take (k + 1) = L.take k ++ [m]) (hf : f m = false) : (L.take (k + 1)).filter f = (L.take k).filter f := by
  rw [h, List.filter_append]; simp [hf]
set_option maxHeartbeats 4000000 in
theorem rof28 (h : Rp w r v L) (p : Int) : Calls Try.prog 28 #[P0 r, .int .i64 p] w fun e W => ∃ u, e = .returned u ∧ Ms W u (L.filter (ofP p)) ∧ (∀ k, u.ownBlock = some k → w.heap.size ≤ k) ∧ Kept [] w W := by
  obtain ⟨ao, cc, rfl⟩ := h.sl
  have hcr := h.cw
  have HR := hide h
  have HMANY := hide h.many
  have HLT : Hid (r < w.heap.size) := hide h.blk.lt
  have HLO : Hid (∀ i, (Value.slice ao L.length cc).ownBlock = some i → i < w.heap.size) := fun i hi => h.row.lt hi
  clear h
  go_enter Try.func28, Try.ntmps28
  go_wp2_with fail
  clear hcr
  go_loopw [5, 6] (fun xl xi wr => ∃ k : Nat, k ≤ L.length ∧ xi = .int .i64 k ∧ Hid (Rp wr r (.slice ao L.length cc) L) ∧ Hid (Kept [] w wr) ∧ Hid (Ms wr xl ((L.take k).filter (ofP p))) ∧ Hid (∀ i, xl.ownBlock = some i → w.heap.size ≤ i)) (fun _ xi _ => L.length - (intOf xi).toNat)
  case atStart => exact ⟨0, by omega, rfl, HR, Kept.refl _ _, Rw.nil _, fun i hi => by cases hi⟩
  case round =>
    clear HR
    obtain ⟨k, hk, rfl, HR, HK, HM, HO⟩ := hrel
    have hmany := unhide HMANY
    obtain ⟨D, hD⟩ : ∃ D, (L.take k).filter (ofP p) = D := ⟨_, rfl⟩
    rw [hD] at HM
    have HDE := hide hD
    have HD : Hid (D.length ≤ 256) := by
      show _ ≤ _
      rw [← hD]
      exact Nat.le_trans (List.length_filter_le _ _) (Nat.le_trans (List.length_take_le' _ _) hmany)
    clear hD
    by_cases hkl : k < L.length
    · have hd : decide ((k : Int) < (L.length : Int)) = true := by simp; omega
      have cr := (unhide HR).cw
      obtain ⟨m, hm⟩ : ∃ m, L[k]? = some m := ⟨_, List.getElem?_eq_getElem hkl⟩
      have HMK := hide hm
      have HTK : Hid (L.take (k + 1) = L.take k ++ [m]) := by show _ = _; rw [List.take_add_one, hm]; rfl
      clear hm
      by_cases h1 : m.p = p
      · have d1 : (m.p == p) = true := by simpa using h1
        have d2 : decide (m.p = p) = true := by simpa using h1
        have HF : Hid ((L.take (k + 1)).filter (ofP p) = D ++ [m]) := by show _ = _; rw [filt_add (unhide HTK) (by simpa [ofP] using h1), unhide HDE]
        clear h1
        go_wp2_with (
          first
          | (refine wpIdx28 rfl (.tmp 23) (.tmp 24) rfl _ L k m rfl rfl (unhide HR).row (unhide HMK) ?_
             intro g og hr
             obtain ⟨cg0, cg1, cg2⟩ := range_c hr
             have Hg := hide hr
             clear hr
             refine Stp.go ?_))
        constructor
        go_wp2_with (
          first
          | (refine wpIdx28 rfl (.tmp 34) (.tmp 35) rfl _ L k m rfl rfl (unhide HR).row (unhide HMK) ?_
             intro q oq hr
             obtain ⟨cq0, cq1, cq2⟩ := range_c hr
             have Hq := hide hr
             clear hr
             refine Stp.go ?_))
        constructor
        go_wp2_with (
          first
          | (refine wpLoadA row54 rfl (.tmp 36) rfl q oq rfl m.C rfl (unhide Hq) ?_
             refine Stp.go ?_))
        constructor
        go_wp2_with (
          first
          | (refine wpBs28 rfl (.tmp 37) rfl m rfl ?_
             intro W5 g5 e5 B5 K5
             replace HR := hide ((unhide HR).step0 K5)
             replace HK := hide ((unhide HK).trans K5)
             replace HM := hide ((unhide HM).kept K5 (by simp))
             have HN5 := hide (Ms.one B5)
             clear e5 B5 K5 cr
             refine Stp.go ?_))
        constructor
        go_wp2_with (
          first
          | (refine wpAppR el28 rfl (.tmp 30) (.tmp 38) rfl _ D.length (mkC D) rfl (unhide HM) _ 1 (mkC [m]) rfl (unhide HN5) (mkC_one _) (by have := unhide HD; omega) (by have := unhide HD; unfold maxLen; omega) ?_
             intro v6 W6 R6 K6 O6 S6
             have HS6 := (unhide HK).size
             replace HR := hide ((unhide HR).step K6 (fun hk => by have h8 := (unhide HO) _ (spare_own hk); have h9 := unhide HLT; omega) (fun i hi hk => by have h8 := (unhide HO) _ (spare_own hk); have h9 := unhide HLO i hi; omega))
             replace HK := hide ((unhide HK).fresh K6 (fun i hi hl => by have h8 := (unhide HO) _ (spare_own hi); omega))
             have HM2 : Hid (Ms W6 v6 (D ++ [m])) := by
               show Rw _ _ _ _ _ _
               rw [mkC_app, List.length_append]
               exact R6
             have HO2 : Hid (∀ k, v6.ownBlock = some k → w.heap.size ≤ k) := fun k hk => by
               rcases O6 k hk with h8 | h8
               · exact (unhide HO) k h8
               · exact Nat.le_trans HS6 h8
             clear R6 K6 O6 S6 HS6
             refine Stp.go ?_))
        constructor
        go_wp2_with fail
        go_roundw
        case rel => exact ⟨k + 1, by omega, by go_num, HR, HK, by rw [unhide HF]; exact HM2, HO2⟩
        case measure => simp [intOf]; omega
      · have d1 : (m.p == p) = false := by simpa using h1
        have d2 : decide (m.p = p) = false := by simpa using h1
        have HF : Hid ((L.take (k + 1)).filter (ofP p) = D) := by show _ = _; rw [filt_no (unhide HTK) (by simpa [ofP] using h1), unhide HDE]
        clear h1
        go_wp2_with (
          first
          | (refine wpIdx28 rfl (.tmp 23) (.tmp 24) rfl _ L k m rfl rfl (unhide HR).row (unhide HMK) ?_
             intro g og hr
             obtain ⟨cg0, cg1, cg2⟩ := range_c hr
             have Hg := hide hr
             clear hr
             refine Stp.go ?_))
        constructor
        go_wp2_with fail
        go_roundw
        case rel => exact ⟨k + 1, by omega, by go_num, HR, HK, by rw [unhide HF]; exact HM, HO⟩
        case measure => simp [intOf]; omega
    · obtain rfl : k = L.length := by omega
      have hd : decide ((L.length : Int) < (L.length : Int)) = false := by simp
      have cr := (unhide HR).cw
      have HF : Hid (D = L.filter (ofP p)) := by show _ = _; rw [← unhide HDE, List.take_length]
      go_wp2_with fail
      go_ret
      exact ⟨_, rfl, by rw [← unhide HF]; exact unhide HM, unhide HO, unhide HK⟩
def keepP (p s : Int) (x : Mk) : Bool := !gone p s x
theorem rdisc22_p (r : Nat) (w : World) (hp : isPg p = false) : Calls Try.prog 22 #[P0 r, .int .i64 p, .int .i64 s] w fun e W => e = .returned (.tuple #[.int .i64 0, .int .i64 2]) ∧ W = w := by
  by_cases h1 : p < 0
  · have d1 : decide (p < 0) = true := by simpa using h1
    clear h1 hp
    go_enter Try.func22, Try.ntmps22
    go_wp2_with fail
    go_ret2
    exact ⟨rfl, rfl⟩
  · have h2 : ¬ p < 16 := fun e => by
      have : isPg p = true := by simp [isPg]; omega
      rw [this] at hp; cases hp
    have d1 : decide (p < 0) = false := by simpa using h1
    have d2 : decide (p ≥ 16) = true := by simp; omega
    clear h1 h2 hp
    go_enter Try.func22, Try.ntmps22
    go_wp2_with fail
    go_ret2
    exact ⟨rfl, rfl⟩
set_option maxHeartbeats 4000000 in
theorem rdisc22_ok (h : Rp w r v L) (hp : isPg p = true) : Calls Try.prog 22 #[P0 r, .int .i64 p, .int .i64 s] w fun e W => e = .returned (.tuple #[.int .i64 ((L.length : Int) - ((discL p s L).length : Int)), .int .i64 0]) ∧ (∃ u, Rp W r u (discL p s L) ∧ ∀ k, u.ownBlock = some k → w.heap.size ≤ k) ∧ Kept [r] w W := by
  obtain ⟨ao, cc, rfl⟩ := h.sl
  have hcr := h.cw
  have HR := hide h
  have HMANY := hide h.many
  have HLT : Hid (r < w.heap.size) := hide h.blk.lt
  have HLO : Hid (∀ i, (Value.slice ao L.length cc).ownBlock = some i → i < w.heap.size) := fun i hi => h.row.lt hi
  have hp2 := isPg_of hp
  have d1 : decide (p < 0) = false := by simp; omega
  have d2 : decide (p ≥ 16) = false := by simp; omega
  clear h hp hp2
  go_enter Try.func22, Try.ntmps22
  go_wp2_with fail
  clear hcr
  go_loopw [8, 9] (fun xl xi wr => ∃ k : Nat, k ≤ L.length ∧ xi = .int .i64 k ∧ Hid (Rp wr r (.slice ao L.length cc) L) ∧ Hid (Kept [] w wr) ∧ Hid (Ms wr xl ((L.take k).filter (keepP p s))) ∧ Hid (∀ i, xl.ownBlock = some i → w.heap.size ≤ i)) (fun _ xi _ => L.length - (intOf xi).toNat)
  case atStart => exact ⟨0, by omega, rfl, HR, Kept.refl _ _, Rw.nil _, fun i hi => by cases hi⟩
  case round =>
    clear HR
    obtain ⟨k, hk, rfl, HR, HK, HM, HO⟩ := hrel
    have hmany := unhide HMANY
    obtain ⟨D, hD⟩ : ∃ D, (L.take k).filter (keepP p s) = D := ⟨_, rfl⟩
    rw [hD] at HM
    have HDE := hide hD
    have HD : Hid (D.length ≤ 256) := by
      show _ ≤ _
      rw [← hD]
      exact Nat.le_trans (List.length_filter_le _ _) (Nat.le_trans (List.length_take_le' _ _) hmany)
    clear hD
    by_cases hkl : k < L.length
    · have hd : decide ((k : Int) < (L.length : Int)) = true := by simp; omega
      have cr := (unhide HR).cw
      obtain ⟨m, hm⟩ : ∃ m, L[k]? = some m := ⟨_, List.getElem?_eq_getElem hkl⟩
      have HMK := hide hm
      have HTK : Hid (L.take (k + 1) = L.take k ++ [m]) := by show _ = _; rw [List.take_add_one, hm]; rfl
      clear hm
      by_cases h1 : m.p = p
      · have e1 : (m.p != p) = false := by simpa using h1
        have e2 : decide (m.p = p) = true := by simpa using h1
        by_cases h2 : m.s ≤ s
        · have e3 : decide (m.s > s) = false := by simp; omega
          have HF : Hid ((L.take (k + 1)).filter (keepP p s) = D) := by show _ = _; rw [filt_no (unhide HTK) (by simp [keepP, gone, h1, h2]), unhide HDE]
          clear h1 h2
          go_wp2_with (
            first
            | (refine wpIdx28 rfl (.tmp 31) (.tmp 32) rfl _ L k m rfl rfl (unhide HR).row (unhide HMK) ?_
               intro g og hr
               obtain ⟨cg0, cg1, cg2⟩ := range_c hr
               have Hg := hide hr
               clear hr
               refine Stp.go ?_))
          constructor
          go_wp2_with (
            first
            | (refine wpIdx28W (by rfl) (.tmp 42) (.tmp 43) rfl _ L k m rfl rfl (unhide HR).row (unhide HMK) ?_
               intro h oh hr
               obtain ⟨ch0, ch1, ch2⟩ := range_c hr
               have Hh := hide hr
               clear hr
               refine Stp.go ?_))
          constructor
          go_wp2_with fail
          go_roundw
          case rel => exact ⟨k + 1, by omega, by go_num, HR, HK, by rw [unhide HF]; exact HM, HO⟩
          case measure => simp [intOf]; omega
        · have e3 : decide (m.s > s) = true := by simp; omega
          have HF : Hid ((L.take (k + 1)).filter (keepP p s) = D ++ [m]) := by show _ = _; rw [filt_add (unhide HTK) (by simp [keepP, gone, h2]), unhide HDE]
          clear h1 h2
          go_wp2_with (
            first
            | (refine wpIdx28 rfl (.tmp 31) (.tmp 32) rfl _ L k m rfl rfl (unhide HR).row (unhide HMK) ?_
               intro g og hr
               obtain ⟨cg0, cg1, cg2⟩ := range_c hr
               have Hg := hide hr
               clear hr
               refine Stp.go ?_))
          constructor
          go_wp2_with (
            first
            | (refine wpIdx28W (by rfl) (.tmp 42) (.tmp 43) rfl _ L k m rfl rfl (unhide HR).row (unhide HMK) ?_
               intro h oh hr
               obtain ⟨ch0, ch1, ch2⟩ := range_c hr
               have Hh := hide hr
               clear hr
               refine Stp.go ?_))
          constructor
          go_wp2_with (
            first
            | (refine wpIdx28 rfl (.tmp 54) (.tmp 55) rfl _ L k m rfl rfl (unhide HR).row (unhide HMK) ?_
               intro q oq hr
               obtain ⟨cq0, cq1, cq2⟩ := range_c hr
               have Hq := hide hr
               clear hr
               refine Stp.go ?_))
          constructor
          go_wp2_with (
            first
            | (refine wpLoadA row54 rfl (.tmp 56) rfl q oq rfl m.C rfl (unhide Hq) ?_
               refine Stp.go ?_))
          constructor
          go_wp2_with (
            first
            | (refine wpBs28 rfl (.tmp 57) rfl m rfl ?_
               intro W5 g5 e5 B5 K5
               replace HR := hide ((unhide HR).step0 K5)
               replace HK := hide ((unhide HK).trans K5)
               replace HM := hide ((unhide HM).kept K5 (by simp))
               have HN5 := hide (Ms.one B5)
               clear e5 B5 K5 cr
               refine Stp.go ?_))
          constructor
          go_wp2_with (
            first
            | (refine wpAppR el28 rfl (.tmp 50) (.tmp 58) rfl _ D.length (mkC D) rfl (unhide HM) _ 1 (mkC [m]) rfl (unhide HN5) (mkC_one _) (by have := unhide HD; omega) (by have := unhide HD; unfold maxLen; omega) ?_
               intro v6 W6 R6 K6 O6 S6
               have HS6 := (unhide HK).size
               replace HR := hide ((unhide HR).step K6 (fun hk => by have h8 := (unhide HO) _ (spare_own hk); have h9 := unhide HLT; omega) (fun i hi hk => by have h8 := (unhide HO) _ (spare_own hk); have h9 := unhide HLO i hi; omega))
               replace HK := hide ((unhide HK).fresh K6 (fun i hi hl => by have h8 := (unhide HO) _ (spare_own hi); omega))
               have HM2 : Hid (Ms W6 v6 (D ++ [m])) := by
                 show Rw _ _ _ _ _ _
                 rw [mkC_app, List.length_append]
                 exact R6
               have HO2 : Hid (∀ k, v6.ownBlock = some k → w.heap.size ≤ k) := fun k hk => by
                 rcases O6 k hk with h8 | h8
                 · exact (unhide HO) k h8
                 · exact Nat.le_trans HS6 h8
               clear R6 K6 O6 S6 HS6
               refine Stp.go ?_))
          constructor
          go_wp2_with fail
          go_roundw
          case rel => exact ⟨k + 1, by omega, by go_num, HR, HK, by rw [unhide HF]; exact HM2, HO2⟩
          case measure => simp [intOf]; omega
      · have e1 : (m.p != p) = true := by simpa using h1
        have e2 : decide (m.p = p) = false := by simpa using h1
        have HF : Hid ((L.take (k + 1)).filter (keepP p s) = D ++ [m]) := by show _ = _; rw [filt_add (unhide HTK) (by simp [keepP, gone, h1]), unhide HDE]
        clear h1
        go_wp2_with (
          first
          | (refine wpIdx28 rfl (.tmp 31) (.tmp 32) rfl _ L k m rfl rfl (unhide HR).row (unhide HMK) ?_
             intro g og hr
             obtain ⟨cg0, cg1, cg2⟩ := range_c hr
             have Hg := hide hr
             clear hr
             refine Stp.go ?_))
        constructor
        go_wp2_with (
          first
          | (refine wpIdx28 rfl (.tmp 54) (.tmp 55) rfl _ L k m rfl rfl (unhide HR).row (unhide HMK) ?_
             intro q oq hr
             obtain ⟨cq0, cq1, cq2⟩ := range_c hr
             have Hq := hide hr
             clear hr
             refine Stp.go ?_))
        constructor
        go_wp2_with (
          first
          | (refine wpLoadA row54 rfl (.tmp 56) rfl q oq rfl m.C rfl (unhide Hq) ?_
             refine Stp.go ?_))
        constructor
        go_wp2_with (
          first
          | (refine wpBs28 rfl (.tmp 57) rfl m rfl ?_
             intro W5 g5 e5 B5 K5
             replace HR := hide ((unhide HR).step0 K5)
             replace HK := hide ((unhide HK).trans K5)
             replace HM := hide ((unhide HM).kept K5 (by simp))
             have HN5 := hide (Ms.one B5)
             clear e5 B5 K5 cr
             refine Stp.go ?_))
        constructor
        go_wp2_with (
          first
          | (refine wpAppR el28 rfl (.tmp 50) (.tmp 58) rfl _ D.length (mkC D) rfl (unhide HM) _ 1 (mkC [m]) rfl (unhide HN5) (mkC_one _) (by have := unhide HD; omega) (by have := unhide HD; unfold maxLen; omega) ?_
             intro v6 W6 R6 K6 O6 S6
             have HS6 := (unhide HK).size
             replace HR := hide ((unhide HR).step K6 (fun hk => by have h8 := (unhide HO) _ (spare_own hk); have h9 := unhide HLT; omega) (fun i hi hk => by have h8 := (unhide HO) _ (spare_own hk); have h9 := unhide HLO i hi; omega))
             replace HK := hide ((unhide HK).fresh K6 (fun i hi hl => by have h8 := (unhide HO) _ (spare_own hi); omega))
             have HM2 : Hid (Ms W6 v6 (D ++ [m])) := by
               show Rw _ _ _ _ _ _
               rw [mkC_app, List.length_append]
               exact R6
             have HO2 : Hid (∀ k, v6.ownBlock = some k → w.heap.size ≤ k) := fun k hk => by
               rcases O6 k hk with h8 | h8
               · exact (unhide HO) k h8
               · exact Nat.le_trans HS6 h8
             clear R6 K6 O6 S6 HS6
             refine Stp.go ?_))
        constructor
        go_wp2_with fail
        go_roundw
        case rel => exact ⟨k + 1, by omega, by go_num, HR, HK, by rw [unhide HF]; exact HM2, HO2⟩
        case measure => simp [intOf]; omega
    · obtain rfl : k = L.length := by omega
      have hd : decide ((L.length : Int) < (L.length : Int)) = false := by simp
      have cr := (unhide HR).cw
      obtain rfl : D = discL p s L := by rw [← unhide HDE, List.take_length]; rfl
      obtain ⟨ad, cd, rfl⟩ : ∃ ad cd, u8 = .slice ad (discL p s L).length cd := by obtain ⟨ad, cd, h9, _⟩ := (unhide HM).sl; exact ⟨ad, cd, h9⟩
      have HLL : Hid (L.length ≤ 256 ∧ (discL p s L).length ≤ 256) := ⟨hmany, unhide HD⟩
      have cf : wr.frozen? ⟨r, 0, none⟩ = false := frozen_of_block (unhide HR).blk 0
      go_wp2_with (
        first
        | (refine wpSub3 rfl (.tmp 64) (.tmp 66) rfl _ _ (by have := unhide HLL; omega) rfl rfl ?_
           refine Stp.go ?_))
      constructor
      go_wp2_with fail
      go_ret2
      have kS : Kept [r] wr (wr.setCell ⟨r, 0, none⟩ (.slice ad (discL p s L).length cd)) := (Kept.refl _ _).setCell (p := ⟨r, 0, none⟩) (by simp) _
      exact ⟨rfl, ⟨_, ⟨(unhide HR).blk.one _, (unhide HM).kept kS (fun k hk => by have := (unhide HO) k hk; have := unhide HLT; simp; omega), unhide HD⟩, unhide HO⟩, ((unhide HK).mono (by simp)).trans kS⟩

end Go.Proofs.Ythihladmifpokaa
