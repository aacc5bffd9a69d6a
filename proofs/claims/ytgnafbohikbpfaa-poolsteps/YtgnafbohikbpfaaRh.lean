/-
  The document's pool: the victim.
-/
import Derived.Test.YtgnafbohikbpfaaRf
import Derived.Test.YtgnafbohikbpfaaRd
namespace Go.Proofs.Ytgnafbohikbpfaa
set_option maxRecDepth 100000
set_option linter.unusedSimpArgs false
open Go.RowKit


variable {w0 w W W' : World} {b g c mb : Nat} {P Q : Po} {L : List En} {pg : Int} {q k i : Nat}
theorem out_vS (P : Po) (k j : Nat) : (P.vS k j).out = (P.S j).out := by unfold Pl.out; rw [(vS_f P k j).1, (vS_f P k j).2.1]
theorem vS_us {P : Po} {k j : Nat} (h : (P.vS k j).us = false) : (P.vS (k + 1) j).us = false := by
  unfold Po.vS
  split
  · exact h
  · by_cases e : j = P.vat k
    · subst e; rw [upd_same]
    · rw [upd_ne _ _ e]; exact h
theorem vS_usn {P : Po} {k j : Nat} (h : (P.vS k j).us = false) : ∀ n, (P.vS (k + n) j).us = false
  | 0 => h
  | n + 1 => vS_us (vS_usn h n)
theorem cand_stop (h : P.Ok) {j : Nat} (hj : j < P.m) (hc : (P.S j).out = false) : ∃ k, k < 2 * P.m ∧ P.stop k = true := by
  have hm := h.m
  have hh := h.h
  have e1 : P.vat ((j + (P.m - P.h)) % P.m) = j := by
    unfold Po.vat
    rw [Nat.add_mod_mod, show P.h + (j + (P.m - P.h)) = j + P.m by omega, Nat.add_mod_right, Nat.mod_eq_of_lt hj]
  obtain ⟨k, hk⟩ : ∃ k, k = (j + (P.m - P.h)) % P.m := ⟨_, rfl⟩
  have hkm : k < P.m := by rw [hk]; exact Nat.mod_lt _ (by omega)
  rw [← hk] at e1
  cases hs : P.stop k with
  | true => exact ⟨k, by omega, hs⟩
  | false =>
    refine ⟨k + P.m, by omega, ?_⟩
    have e2 : P.vat (k + P.m) = j := by
      rw [← e1]; unfold Po.vat
      rw [← Nat.add_assoc, Nat.add_mod_right]
    have ho : ∀ n, (P.vS n j).out = false := fun n => by rw [out_vS]; exact hc
    have hu : (P.vS (k + 1) j).us = false := by
      unfold Po.vS
      rw [e1, if_neg (by rw [ho k]; simp), upd_same]
    have h2 := vS_usn hu (P.m - 1)
    rw [show k + 1 + (P.m - 1) = k + P.m by omega] at h2
    unfold Po.stop
    rw [e2, ho, h2]; rfl
def anyC (S : Nat → Pl) : Nat → Bool
  | 0 => false
  | n + 1 => anyC S n || !(S n).out
theorem anyC_t {S : Nat → Pl} : ∀ n, anyC S n = true → ∃ j, j < n ∧ (S j).out = false
  | 0, h => by cases h
  | n + 1, h => by
    unfold anyC at h
    rw [Bool.or_eq_true] at h
    rcases h with h | h
    · obtain ⟨j, h1, h2⟩ := anyC_t n h; exact ⟨j, by omega, h2⟩
    · exact ⟨n, by omega, by simpa using h⟩
theorem anyC_f {S : Nat → Pl} : ∀ n, anyC S n = false → ∀ j, j < n → (S j).out = true
  | 0, _, j, hj => by omega
  | n + 1, h, j, hj => by
    unfold anyC at h
    rw [Bool.or_eq_false_iff] at h
    by_cases e : j = n
    · subst e; simpa using h.2
    · exact anyC_f n h.1 j (by omega)
theorem no_cand (h : P.Ok) (hc : anyC P.S P.m = false) : P.vic = (P, 0, false) := by
  have ha := anyC_f _ hc
  have hv : ∀ k, P.vS k = P.S := by
    intro k
    induction k with
    | zero => rfl
    | succ k ih => rw [vS_out (by rw [out_vS]; exact ha _ (vat_lt h k)), ih]
  have hs : ∀ k, P.stop k = false := fun k => by unfold Po.stop; rw [out_vS, ha _ (vat_lt h k)]; rfl
  unfold Po.vic
  rw [vTo_none _ (fun j _ => hs j)]
  show (Po.vQ P (2 * P.m), (0 : Int), false) = _
  unfold Po.vQ
  rw [hv]
/-- The greatest number below a bound of which something holds. -/
noncomputable def topK (I : Nat → Prop) : Nat → Nat
  | 0 => 0
  | n + 1 => @ite _ (I n) (Classical.propDecidable _) n (topK I n)
theorem topK_is {I : Nat → Prop} : ∀ n k, k < n → I k → I (topK I n) ∧ k ≤ topK I n ∧ topK I n < n
  | 0, k, h, _ => by omega
  | n + 1, k, h, hi => by
    by_cases e : I n
    · have h1 : topK I (n + 1) = n := by unfold topK; exact if_pos e
      rw [h1]; exact ⟨e, by omega, by omega⟩
    · have h1 : topK I (n + 1) = topK I n := by conv => lhs; unfold topK
                                                exact if_neg e
      rw [h1]
      have hk : k < n := by
        have : k ≠ n := fun e2 => e (by rw [← e2]; exact hi)
        omega
      obtain ⟨h2, h3, h4⟩ := topK_is n k hk hi
      exact ⟨h2, h3, by omega⟩
/-- The victim's walk at its step k. -/
structure VJ (P : Po) (w : World) (b g c : Nat) (W : World) (k : Nat) : Prop where
  no : ∀ j, j < k → P.stop j = false
  rg : Rg W b g c ⟨P.m, P.vat k, P.vS k⟩
  kept : Kept [b, g] w W
theorem rvictim_z (w : World) : Calls Try.prog 32 #[.pointer none] w fun e w' => e = .returned (.tuple #[.int .i64 0, .bool false]) ∧ w' = w := by
  go_enter Try.func32, Try.ntmps32
  go_wp2_with fail
  go_ret2
  exact ⟨rfl, rfl⟩
theorem vat_s (P : Po) (k : Nat) : P.vat (k + 1) = (P.vat k + 1) % P.m := by unfold Po.vat; rw [Nat.mod_add_mod, Nat.add_assoc]
theorem VJ.out {k q : Nat} {S : Nat → Pl} {bc1 c0 post : List Value} {W2 : World} (h : VJ P w b g c W k) (hok : P.Ok) (hq : q = P.vat k) (hS : S = P.vS k) (hc : ∃ k, k < 2 * P.m ∧ P.stop k = true) (ho : (S q).out = true) (hk : Kept [b, g] W W2) (hB : Blk W2 b 73 bc1) (e1 : bc1 = [.slice (some ⟨g, 0, none⟩) P.m c, .int .i64 (((q + 1) % P.m : Nat) : Int)]) (hG : Blk W2 g 84 c0) (e2 : c0 = plsD S P.m ++ post) : k + 1 < 2 * P.m ∧ VJ P w b g c W2 (k + 1) := by
  subst hq hS e1 e2
  have hs : P.stop k = false := by unfold Po.stop; rw [ho]; rfl
  have hn : ∀ j, j < k + 1 → P.stop j = false := fun j hj => by
    by_cases e : j = k
    · subst e; exact hs
    · exact h.no j (by omega)
  obtain ⟨k2, h1, h2⟩ := hc
  have h3 : ¬ k2 < k + 1 := fun h9 => by rw [hn k2 h9] at h2; cases h2
  refine ⟨by omega, hn, ?_, h.kept.trans hk⟩
  rw [vat_s, vS_out ho]
  exact ⟨hB, ⟨post, hG⟩, (vQ_lk k (Nat.mod_lt _ (by have := hok.m; omega))).ok hok, h.rg.cm⟩
theorem VJ.used {k q : Nat} {S : Nat → Pl} {bc1 c1 post : List Value} {W2 : World} (h : VJ P w b g c W k) (hok : P.Ok) (hq : q = P.vat k) (hS : S = P.vS k) (hc : ∃ k, k < 2 * P.m ∧ P.stop k = true) (ho : (S q).out = false) (hu : (S q).us = true) (hk : Kept [b, g] W W2) (hB : Blk W2 b 73 bc1) (e1 : bc1 = [.slice (some ⟨g, 0, none⟩) P.m c, .int .i64 (((q + 1) % P.m : Nat) : Int)]) (hG : Blk W2 g 84 c1) (e2 : c1 = plsD (upd S q ⟨(S q).f, (S q).pn, false⟩) P.m ++ post) : k + 1 < 2 * P.m ∧ VJ P w b g c W2 (k + 1) := by
  subst hq hS e1 e2
  have hs : P.stop k = false := by unfold Po.stop; rw [hu]; simp
  have hn : ∀ j, j < k + 1 → P.stop j = false := fun j hj => by
    by_cases e : j = k
    · subst e; exact hs
    · exact h.no j (by omega)
  obtain ⟨k2, h1, h2⟩ := hc
  have h3 : ¬ k2 < k + 1 := fun h9 => by rw [hn k2 h9] at h2; cases h2
  refine ⟨by omega, hn, ?_, h.kept.trans hk⟩
  have e3 : P.vS (k + 1) = upd (P.vS k) (P.vat k) ⟨(P.vS k (P.vat k)).f, (P.vS k (P.vat k)).pn, false⟩ := by rw [Po.vS, if_neg (by rw [ho]; simp)]
  have h9 := (vQ_lk (P := P) (k + 1) (Nat.mod_lt (P.vat k + 1) (by have := hok.m; omega : 0 < P.m))).ok hok
  rw [vat_s]
  rw [e3] at h9 ⊢
  exact ⟨hB, ⟨post, hG⟩, h9, h.rg.cm⟩
theorem vat0 (h : P.Ok) : P.vat 0 = P.h := Nat.mod_eq_of_lt h.h
set_option maxHeartbeats 2000000 in
theorem rvictim32 (h : Rg w b g c P) : Calls Try.prog 32 #[P0 b] w fun e w' => e = .returned (.tuple #[.int .i64 P.vic.2.1, .bool P.vic.2.2]) ∧ Rg w' b g c P.vic.1 ∧ Kept [b, g] w w' := by
  have HP := hide h
  have cs := h.cs
  have hcm := h.cm
  have hm := h.ok.m
  clear h
  go_enter Try.func32, Try.ntmps32
  go_wp2_with fail
  go_loopw [4, 5] (fun x4 x5 wr => ∃ k : Nat, k ≤ P.m ∧ x4 = .bool (anyC P.S k) ∧ x5 = .int .i64 k ∧ wr = w) (fun _ x5 _ => P.m - (intOf x5).toNat)
  case atStart => exact ⟨0, by omega, rfl, rfl, rfl⟩
  case round =>
    obtain ⟨k, hk, rfl, rfl, rfl⟩ := hrel
    by_cases hlt : k < P.m
    · have hd : decide ((k : Int) < (P.m : Int)) = true := by simp; omega
      have hkI : (k : Int) < (P.m : Int) := by omega
      have cis := (unhide HP).cis hlt
      have cpn := (unhide HP).cpn hlt
      cases hA : anyC P.S k with
      | true =>
        have HN : Hid (anyC P.S (k + 1) = true) := by show _ = _; unfold anyC; rw [hA]; rfl
        clear hA
        go_wp2_with fail
        go_roundw
        case rel => exact ⟨k + 1, by omega, by rw [unhide HN], by go_num, by trivial⟩
        case measure => simp [intOf]; omega
      | false =>
        by_cases h1 : (P.S k).f.md = 0
        · rw [bz_no' h1] at cis
          have HN : Hid (anyC P.S (k + 1) = false) := by show _ = _; unfold anyC; rw [hA]; unfold Pl.out; rw [decide_eq_true h1]; rfl
          clear h1 hA
          go_wp2_with fail
          go_roundw
          case rel => exact ⟨k + 1, by omega, by rw [unhide HN], by go_num, by trivial⟩
          case measure => simp [intOf]; omega
        · rw [bz_yes' h1] at cis
          by_cases h2 : (P.S k).pn = 0
          · rw [h2] at cpn
            have HN : Hid (anyC P.S (k + 1) = true) := by show _ = _; unfold anyC; rw [hA]; unfold Pl.out; rw [decide_eq_false h1, h2]; rfl
            clear h1 hA h2
            go_wp2_with fail
            go_roundw
            case rel => exact ⟨k + 1, by omega, by rw [unhide HN], by go_num, by trivial⟩
            case measure => simp [intOf]; omega
          · have HN : Hid (anyC P.S (k + 1) = false) := by show _ = _; unfold anyC; rw [hA]; unfold Pl.out; rw [decide_eq_false h1, decide_eq_true (by omega : 0 < (P.S k).pn)]; rfl
            have e1 : (((P.S k).pn : Int) == 0) = false := by simp; exact h2
            have e2 : decide (((P.S k).pn : Int) = 0) = false := by simp; exact h2
            clear h1 hA h2
            go_wp2_with fail
            go_roundw
            case rel => exact ⟨k + 1, by omega, by rw [unhide HN], by go_num, by trivial⟩
            case measure => simp [intOf]; omega
    · obtain rfl : k = P.m := by omega
      have hd : decide ((P.m : Int) < (P.m : Int)) = false := by simp
      cases hA : anyC P.S P.m with
      | false =>
        have HV := hide (no_cand (unhide HP).ok hA)
        clear hA
        go_wp2_with fail
        go_ret2
        rw [unhide HV]
        exact ⟨rfl, unhide HP, (Kept.refl [] _).mono (by simp)⟩
      | true =>
        have HC : Hid (∃ k, k < 2 * P.m ∧ P.stop k = true) := by obtain ⟨j, h1, h2⟩ := anyC_t _ hA; exact cand_stop (unhide HP).ok h1 h2
        clear hA
        go_wp2_with fail
        rename World => w1
        have hnm : True := trivial
        go_loopw [6] (fun x6 wr2 => ∃ k : Nat, k < 2 * P.m ∧ VJ P w1 b g c wr2 k) (fun _ wr2 => 2 * P.m - topK (VJ P w1 b g c wr2) (2 * P.m))
        case atStart => exact ⟨0, by omega, (fun j hj => absurd hj (by omega)), (by rw [vat0 (unhide HP).ok]; exact unhide HP), (Kept.refl [] _).mono (by simp)⟩
        case round =>
          obtain ⟨k0, hk0, hv0⟩ := hrel
          obtain ⟨hv, hk1, hk⟩ := topK_is (2 * P.m) k0 hk0 hv0
          obtain ⟨k, hkk⟩ : ∃ k, k = topK (VJ P w1 b g c wr) (2 * P.m) := ⟨_, rfl⟩
          rw [← hkk] at hv hk
          have HKK := hide hkk
          have HV := hide hv
          have HKL := hide hk
          clear hv0 hk0 hk1 hkk hv hk cs
          obtain ⟨q, hq⟩ : ∃ q, q = P.vat k := ⟨_, rfl⟩
          have hqm : q < P.m := by rw [hq]; exact vat_lt (unhide HP).ok k
          have hqI : (q : Int) < (P.m : Int) := by omega
          have HQ := hide hq
          obtain ⟨S, hS⟩ : ∃ S, S = P.vS k := ⟨_, rfl⟩
          have HSS := hide hS
          have hr : Rg wr b g c ⟨P.m, q, S⟩ := by rw [hq, hS]; exact (unhide HV).rg
          obtain ⟨post, hpo⟩ := hr.row
          obtain ⟨c0, hc0⟩ : ∃ x, x = plsD S P.m ++ post := ⟨_, rfl⟩
          obtain ⟨bc, hbc⟩ : ∃ x, x = [Value.slice (some ⟨g, 0, none⟩) P.m c, .int .i64 (q : Int)] := ⟨_, rfl⟩
          obtain ⟨bc1, hbc1⟩ : ∃ x, x = [Value.slice (some ⟨g, 0, none⟩) P.m c, .int .i64 (((q + 1) % P.m : Nat) : Int)] := ⟨_, rfl⟩
          have HB0 : Hid (bc[0]? = some (.slice (some ⟨g, 0, none⟩) P.m c)) := by rw [hbc]; rfl
          have HB1 : Hid (bc[1]? = some (.int .i64 (q : Int))) := by rw [hbc]; rfl
          have HLB : Hid (bc.length = 2) := by rw [hbc]; rfl
          have HSB : Hid ((cond false bc1 bc).set 1 (.int .i64 (((q + 1) % P.m : Nat) : Int)) = cond true bc1 bc) := by show bc.set 1 _ = bc1; rw [hbc, hbc1]; rfl
          have HL0 : Hid (P.m * 105 ≤ c0.length) := by show _ ≤ _; rw [hc0, List.length_append, plsD_len]; omega
          have HCI : Hid (c0[q * 105 + 0]? = some (.bool (S q).bz)) := by show _ = _; rw [hc0, plsD_at _ _ _ _ _ hqm (by omega)]; rfl
          have HCP : Hid (c0[q * 105 + 103]? = some (.int .i64 ((S q).pn : Int))) := by show _ = _; rw [hc0, plsD_at _ _ _ _ _ hqm (by omega)]; exact Pl.D_pn _
          have HCU : Hid (c0[q * 105 + 104]? = some (.bool (S q).us)) := by show _ = _; rw [hc0, plsD_at _ _ _ _ _ hqm (by omega)]; exact Pl.D_us _
          have HCG : Hid (c0[q * 105 + 1]? = some (.int .i64 (S q).f.pg)) := by show _ = _; rw [hc0, plsD_at _ _ _ _ _ hqm (by omega)]; exact (Pl.D_f (S q) 0 (by omega)).trans rfl
          obtain ⟨c1, hc1⟩ : ∃ x, x = plsD (upd S q ⟨(S q).f, (S q).pn, false⟩) P.m ++ post := ⟨_, rfl⟩
          have HS1 : Hid (c0.set (q * 105 + 104) (.bool false) = c1) := by show _ = _; rw [hc0, hc1]; exact plsD_set S P.m post q 104 hqm (by omega) _ _ ((S q).setD_us false)
          have M : Hid (Mm [b, g] wr wr [(b, 73, bc), (g, 84, c0)]) := Mm.two (by rw [hbc]; exact hr.bk) (by rw [hc0]; exact hpo) hr.ne
          have HC0 := hide hc0
          have HC1 := hide hc1
          have HBC1 := hide hbc1
          clear hc0 hc1 hbc hbc1 hpo hr hS hq
          go_wp2_with fail
          refine wp_region_any mixed (wpAny_tq 10 rfl (by kernel_rfl) [some (P0 b), some (P0 b), some (P0 b), some (.slice (some ⟨g, 0, none⟩) P.m c), some (P0 b), some (P0 b), some (.pointer (some ⟨b, 1, none⟩)), some (.int .i64 q), some (.pointer (some ⟨g, q * 105, none⟩)), some (.pointer (some ⟨g, q * 105, none⟩))] rfl (by kernel_rfl) (by kernel_rfl) ?_ ?_)
          · intro i o' hi hsk ho a' w2 hout hin hk2
            replace hk2 : Kept [] wr w2 := ⟨hk2.os, hk2.tape, hk2.output, hk2.size, hk2.block⟩
            match i, ho, hsk with
            | 0, ho, hsk =>
              obtain rfl := Option.some.inj ho
              exact wp_move (.tmp 0) rfl _ ((hout 0 (by kernel_rfl)).trans rfl) ⟨_, rfl, tq_is _ _ _ _ rfl, Kept.refl _ _, fun _ _ _ _ _ => trivial⟩
            | 1, ho, hsk =>
              obtain rfl := Option.some.inj ho
              have e0 : a'.eval (.tmp 42) = P0 b := is_tq (hin 0 42 (by kernel_rfl) (by kernel_rfl)) rfl
              exact o_nil (.tmp 42) rfl _ e0 ⟨_, rfl, tq_is _ _ _ _ rfl, Kept.refl _ _, fun _ _ _ _ _ => trivial⟩
            | 2, ho, hsk =>
              obtain rfl := Option.some.inj ho
              have e0 : a'.eval (.tmp 43) = P0 b := is_tq (hin 1 43 (by kernel_rfl) (by kernel_rfl)) rfl
              exact o_fld73_0 (.tmp 43) rfl b (0) (0) rfl e0 ⟨_, rfl, tq_is _ _ _ _ rfl, Kept.refl _ _, fun _ _ _ _ _ => trivial⟩
            | 3, ho, hsk =>
              obtain rfl := Option.some.inj ho
              have e0 : a'.eval (.tmp 44) = P0 b := is_tq (hin 2 44 (by kernel_rfl) (by kernel_rfl)) rfl
              exact o_load71 (.tmp 44) rfl _ _ e0 (fits_cell (((unhide M).step hk2).at 0 _ rfl) 0 _ (unhide HB0)) ⟨_, rfl, tq_is _ _ _ _ rfl, Kept.refl _ _, fun _ _ _ _ _ => trivial⟩
            | 4, ho, hsk =>
              obtain rfl := Option.some.inj ho
              exact wp_move (.tmp 0) rfl _ ((hout 0 (by kernel_rfl)).trans rfl) ⟨_, rfl, tq_is _ _ _ _ rfl, Kept.refl _ _, fun _ _ _ _ _ => trivial⟩
            | 5, ho, hsk =>
              obtain rfl := Option.some.inj ho
              have e0 : a'.eval (.tmp 46) = P0 b := is_tq (hin 4 46 (by kernel_rfl) (by kernel_rfl)) rfl
              exact o_nil (.tmp 46) rfl _ e0 ⟨_, rfl, tq_is _ _ _ _ rfl, Kept.refl _ _, fun _ _ _ _ _ => trivial⟩
            | 6, ho, hsk =>
              obtain rfl := Option.some.inj ho
              have e0 : a'.eval (.tmp 47) = P0 b := is_tq (hin 5 47 (by kernel_rfl) (by kernel_rfl)) rfl
              exact o_fld73_1 (.tmp 47) rfl b (0) (1) rfl e0 ⟨_, rfl, tq_is _ _ _ _ rfl, Kept.refl _ _, fun _ _ _ _ _ => trivial⟩
            | 7, ho, hsk =>
              obtain rfl := Option.some.inj ho
              have e0 : a'.eval (.tmp 48) = .pointer (some ⟨b, 1, none⟩) := is_tq (hin 6 48 (by kernel_rfl) (by kernel_rfl)) rfl
              exact o_load3 (.tmp 48) rfl _ _ e0 (fits_cell (((unhide M).step hk2).at 0 _ rfl) 1 _ (unhide HB1)) ⟨_, rfl, tq_is _ _ _ _ rfl, Kept.refl _ _, fun _ _ _ _ _ => trivial⟩
            | 8, ho, hsk =>
              obtain rfl := Option.some.inj ho
              have e0 : a'.eval (.tmp 45) = .slice (some ⟨g, 0, none⟩) P.m c := is_tq (hin 3 45 (by kernel_rfl) (by kernel_rfl)) rfl
              have e1 : a'.eval (.tmp 49) = .int .i64 q := is_tq (hin 7 49 (by kernel_rfl) (by kernel_rfl)) rfl
              exact o_idx71 (.tmp 45) (.tmp 49) rfl g P.m c q (q * 105) (by omega) rfl e0 e1 ⟨_, rfl, tq_is _ _ _ _ rfl, Kept.refl _ _, fun _ _ _ _ _ => trivial⟩
            | 9, ho, hsk =>
              obtain rfl := Option.some.inj ho
              have e0 : a'.eval (.tmp 50) = .pointer (some ⟨g, q * 105, none⟩) := is_tq (hin 8 50 (by kernel_rfl) (by kernel_rfl)) rfl
              exact wp_assignV (.tmp 50) rfl _ e0 ⟨_, rfl, tq_is _ _ _ _ rfl, Kept.refl _ _, fun _ _ _ _ _ => trivial⟩
          intro w9 hk9
          replace hk9 : Kept [] wr w9 := ⟨hk9.os, hk9.tape, hk9.output, hk9.size, hk9.block⟩
          simp only [valsQ, List.map_cons, List.map_nil, Option.getD_some, List.take_succ_cons, List.take_zero, putAll, Act.put, List.setIfInBounds_toArray, List.set_cons_succ, List.set_cons_zero]
          refine wpAny_done (by kernel_rfl) ?_ _
          replace M := hide ((unhide M).step hk9)
          clear hk9
          go_wp2_with fail
          refine wp_region_any mixed (wpAny_gx 15 rfl (by kernel_rfl) [some (P0 b), some (P0 b), some (P0 b), some (.pointer (some ⟨b, 1, none⟩)), some (.int .i64 q), some (.int .i64 (q + 1)), some (P0 b), some (P0 b), some (P0 b), some (.slice (some ⟨g, 0, none⟩) P.m c), some (.int .i64 P.m), some (.int .i64 ((((q + 1) % P.m : Nat) : Int))), some (P0 b), some (.pointer (some ⟨b, 1, none⟩)), none] rfl (by kernel_rfl) (fun l vs W => (SD1 [b, g] wr (fun d1 => [(b, 73, cond d1 bc1 bc), (g, 84, c0)]) 14) (fun i => l.getD i false) vs W) ((unhide M).drew) ?_ ?_)
          · intro ix o' hi ho a' w2 l vs hls hlf hJ hout hin hdep hnot
            match ix, ho with
            | 0, ho =>
              obtain rfl := Option.some.inj ho
              have e0 := hout 0 (by kernel_rfl)
              replace e0 : a'.eval (.tmp 0) = _ := e0.trans rfl
              exact wp_move (.tmp 0) rfl _ e0 ⟨_, rfl, told_of rfl, keepG (St := (SD1 [b, g] wr (fun d1 => [(b, 73, cond d1 bc1 bc), (g, 84, c0)]) 14)) [14] SD1.loc (by omega) (by decide) hJ⟩
            | 1, ho =>
              obtain rfl := Option.some.inj ho
              have e0 := hout 0 (by kernel_rfl)
              replace e0 : a'.eval (.tmp 0) = _ := e0.trans rfl
              exact wp_move (.tmp 0) rfl _ e0 ⟨_, rfl, told_of rfl, keepG (St := (SD1 [b, g] wr (fun d1 => [(b, 73, cond d1 bc1 bc), (g, 84, c0)]) 14)) [14] SD1.loc (by omega) (by decide) hJ⟩
            | 2, ho =>
              obtain rfl := Option.some.inj ho
              have e0 : a'.eval (.tmp 52) = P0 b := by have h9 := hin 1 52 (by kernel_rfl) (by kernel_rfl); exact h9.1.trans (told_is _ h9.2 rfl)
              exact o_nil (.tmp 52) rfl _ e0 ⟨_, rfl, told_of rfl, keepG (St := (SD1 [b, g] wr (fun d1 => [(b, 73, cond d1 bc1 bc), (g, 84, c0)]) 14)) [14] SD1.loc (by omega) (by decide) hJ⟩
            | 3, ho =>
              obtain rfl := Option.some.inj ho
              have e0 : a'.eval (.tmp 53) = P0 b := by have h9 := hin 2 53 (by kernel_rfl) (by kernel_rfl); exact h9.1.trans (told_is _ h9.2 rfl)
              exact o_fld73_1 (.tmp 53) rfl b (0) (1) rfl e0 ⟨_, rfl, told_of rfl, keepG (St := (SD1 [b, g] wr (fun d1 => [(b, 73, cond d1 bc1 bc), (g, 84, c0)]) 14)) [14] SD1.loc (by omega) (by decide) hJ⟩
            | 4, ho =>
              obtain rfl := Option.some.inj ho
              have e0 : a'.eval (.tmp 54) = .pointer (some ⟨b, 1, none⟩) := by have h9 := hin 3 54 (by kernel_rfl) (by kernel_rfl); exact h9.1.trans (told_is _ h9.2 rfl)
              exact o_load3 (.tmp 54) rfl _ _ e0 (fits_cell (Mm.at (SD1.no hJ (hnot 14 (by kernel_rfl))) 0 _ rfl) 1 _ (unhide HB1)) ⟨_, rfl, told_of rfl, keepG (St := (SD1 [b, g] wr (fun d1 => [(b, 73, cond d1 bc1 bc), (g, 84, c0)]) 14)) [14] SD1.loc (by omega) (by decide) hJ⟩
            | 5, ho =>
              obtain rfl := Option.some.inj ho
              have e0 : a'.eval (.tmp 55) = .int .i64 q := by have h9 := hin 4 55 (by kernel_rfl) (by kernel_rfl); exact h9.1.trans (told_is _ h9.2 rfl)
              exact c_add3 (.tmp 55) (.const (.int .i64 (1))) rfl _ _ (by omega) e0 rfl ⟨_, rfl, told_of rfl, keepG (St := (SD1 [b, g] wr (fun d1 => [(b, 73, cond d1 bc1 bc), (g, 84, c0)]) 14)) [14] SD1.loc (by omega) (by decide) hJ⟩
            | 6, ho =>
              obtain rfl := Option.some.inj ho
              have e0 := hout 0 (by kernel_rfl)
              replace e0 : a'.eval (.tmp 0) = _ := e0.trans rfl
              exact wp_move (.tmp 0) rfl _ e0 ⟨_, rfl, told_of rfl, keepG (St := (SD1 [b, g] wr (fun d1 => [(b, 73, cond d1 bc1 bc), (g, 84, c0)]) 14)) [14] SD1.loc (by omega) (by decide) hJ⟩
            | 7, ho =>
              obtain rfl := Option.some.inj ho
              have e0 : a'.eval (.tmp 57) = P0 b := by have h9 := hin 6 57 (by kernel_rfl) (by kernel_rfl); exact h9.1.trans (told_is _ h9.2 rfl)
              exact o_nil (.tmp 57) rfl _ e0 ⟨_, rfl, told_of rfl, keepG (St := (SD1 [b, g] wr (fun d1 => [(b, 73, cond d1 bc1 bc), (g, 84, c0)]) 14)) [14] SD1.loc (by omega) (by decide) hJ⟩
            | 8, ho =>
              obtain rfl := Option.some.inj ho
              have e0 : a'.eval (.tmp 58) = P0 b := by have h9 := hin 7 58 (by kernel_rfl) (by kernel_rfl); exact h9.1.trans (told_is _ h9.2 rfl)
              exact o_fld73_0 (.tmp 58) rfl b (0) (0) rfl e0 ⟨_, rfl, told_of rfl, keepG (St := (SD1 [b, g] wr (fun d1 => [(b, 73, cond d1 bc1 bc), (g, 84, c0)]) 14)) [14] SD1.loc (by omega) (by decide) hJ⟩
            | 9, ho =>
              obtain rfl := Option.some.inj ho
              have e0 : a'.eval (.tmp 59) = P0 b := by have h9 := hin 8 59 (by kernel_rfl) (by kernel_rfl); exact h9.1.trans (told_is _ h9.2 rfl)
              exact o_load71 (.tmp 59) rfl _ _ e0 (fits_cell (Mm.at (SD1.no hJ (hnot 14 (by kernel_rfl))) 0 _ rfl) 0 _ (unhide HB0)) ⟨_, rfl, told_of rfl, keepG (St := (SD1 [b, g] wr (fun d1 => [(b, 73, cond d1 bc1 bc), (g, 84, c0)]) 14)) [14] SD1.loc (by omega) (by decide) hJ⟩
            | 10, ho =>
              obtain rfl := Option.some.inj ho
              have e0 : a'.eval (.tmp 60) = .slice (some ⟨g, 0, none⟩) P.m c := by have h9 := hin 9 60 (by kernel_rfl) (by kernel_rfl); exact h9.1.trans (told_is _ h9.2 rfl)
              exact o_len71 (.tmp 60) rfl _ _ _ e0 ⟨_, rfl, told_of rfl, keepG (St := (SD1 [b, g] wr (fun d1 => [(b, 73, cond d1 bc1 bc), (g, 84, c0)]) 14)) [14] SD1.loc (by omega) (by decide) hJ⟩
            | 11, ho =>
              obtain rfl := Option.some.inj ho
              have e0 : a'.eval (.tmp 56) = .int .i64 (q + 1) := by have h9 := hin 5 56 (by kernel_rfl) (by kernel_rfl); exact h9.1.trans (told_is _ h9.2 rfl)
              have e1 : a'.eval (.tmp 61) = .int .i64 P.m := by have h9 := hin 10 61 (by kernel_rfl) (by kernel_rfl); exact h9.1.trans (told_is _ h9.2 rfl)
              exact c_rem3 (.tmp 56) (.tmp 61) rfl _ _ _ ((mod_cast' q P.m).symm) (by omega) (by omega) e0 e1 ⟨_, rfl, told_of rfl, keepG (St := (SD1 [b, g] wr (fun d1 => [(b, 73, cond d1 bc1 bc), (g, 84, c0)]) 14)) [14] SD1.loc (by omega) (by decide) hJ⟩
            | 12, ho =>
              obtain rfl := Option.some.inj ho
              have e0 : a'.eval (.tmp 51) = P0 b := by have h9 := hin 0 51 (by kernel_rfl) (by kernel_rfl); exact h9.1.trans (told_is _ h9.2 rfl)
              exact o_nil (.tmp 51) rfl _ e0 ⟨_, rfl, told_of rfl, keepG (St := (SD1 [b, g] wr (fun d1 => [(b, 73, cond d1 bc1 bc), (g, 84, c0)]) 14)) [14] SD1.loc (by omega) (by decide) hJ⟩
            | 13, ho =>
              obtain rfl := Option.some.inj ho
              have e0 : a'.eval (.tmp 63) = P0 b := by have h9 := hin 12 63 (by kernel_rfl) (by kernel_rfl); exact h9.1.trans (told_is _ h9.2 rfl)
              exact o_fld73_1 (.tmp 63) rfl b (0) (1) rfl e0 ⟨_, rfl, told_of rfl, keepG (St := (SD1 [b, g] wr (fun d1 => [(b, 73, cond d1 bc1 bc), (g, 84, c0)]) 14)) [14] SD1.loc (by omega) (by decide) hJ⟩
            | 14, ho =>
              obtain rfl := Option.some.inj ho
              have e0 : a'.eval (.tmp 64) = .pointer (some ⟨b, 1, none⟩) := by have h9 := hin 13 64 (by kernel_rfl) (by kernel_rfl); exact h9.1.trans (told_is _ h9.2 rfl)
              have e1 : a'.eval (.tmp 62) = .int .i64 ((((q + 1) % P.m : Nat) : Int)) := by have h9 := hin 11 62 (by kernel_rfl) (by kernel_rfl); exact h9.1.trans (told_is _ h9.2 rfl)
              exact o_st1 size3 (.tmp 64) (.tmp 62) rfl rfl b 1 0 (.int .i64 (((q + 1) % P.m : Nat) : Int)) ⟨rfl, rfl⟩ e0 e1 (SD1.no hJ hlf) rfl (by show 1 < bc.length; have := unhide HLB; omega) (unhide HSB) (fun W hM => ⟨undef, rfl, told_no rfl, nextG (St := (SD1 [b, g] wr (fun d1 => [(b, 73, cond d1 bc1 bc), (g, 84, c0)]) 14)) (by omega) hM⟩)
          intro l_ vs4 V4 hl hJ htold
          have t0 : vs4 0 = P0 b := told_is _ (htold 0 (by decide)) rfl
          have t1 : vs4 1 = P0 b := told_is _ (htold 1 (by decide)) rfl
          have t2 : vs4 2 = P0 b := told_is _ (htold 2 (by decide)) rfl
          have t3 : vs4 3 = .pointer (some ⟨b, 1, none⟩) := told_is _ (htold 3 (by decide)) rfl
          have t4 : vs4 4 = .int .i64 q := told_is _ (htold 4 (by decide)) rfl
          have t5 : vs4 5 = .int .i64 (q + 1) := told_is _ (htold 5 (by decide)) rfl
          have t6 : vs4 6 = P0 b := told_is _ (htold 6 (by decide)) rfl
          have t7 : vs4 7 = P0 b := told_is _ (htold 7 (by decide)) rfl
          have t8 : vs4 8 = P0 b := told_is _ (htold 8 (by decide)) rfl
          have t9 : vs4 9 = .slice (some ⟨g, 0, none⟩) P.m c := told_is _ (htold 9 (by decide)) rfl
          have t10 : vs4 10 = .int .i64 P.m := told_is _ (htold 10 (by decide)) rfl
          have t11 : vs4 11 = .int .i64 ((((q + 1) % P.m : Nat) : Int)) := told_is _ (htold 11 (by decide)) rfl
          have t12 : vs4 12 = P0 b := told_is _ (htold 12 (by decide)) rfl
          have t13 : vs4 13 = .pointer (some ⟨b, 1, none⟩) := told_is _ (htold 13 (by decide)) rfl
          rw [show (List.range 15).map vs4 = [vs4 0, vs4 1, vs4 2, vs4 3, vs4 4, vs4 5, vs4 6, vs4 7, vs4 8, vs4 9, vs4 10, vs4 11, vs4 12, vs4 13, vs4 14] from rfl]
          simp only [t0, t1, t2, t3, t4, t5, t6, t7, t8, t9, t10, t11, t12, t13, putAll, Act.put, List.setIfInBounds_toArray, List.set_cons_succ, List.set_cons_zero]
          clear t0 t1 t2 t3 t4 t5 t6 t7 t8 t9 t10 t11 t12 t13 htold
          have hM4 : Mm [b, g] wr V4 ([(b, 73, bc1), (g, 84, c0)]) := SD1.yes hJ (hl 14 (by decide))
          replace M : Hid (Mm [b, g] wr V4 [(b, 73, bc1), (g, 84, c0)]) := hide hM4
          clear hM4 hJ hl
          have cis := fits_cell ((unhide M).at 1 _ rfl) (q * 105 + 0) _ (unhide HCI)
          rw [Nat.add_zero] at cis
          have cpn := fits_cell ((unhide M).at 1 _ rfl) _ _ (unhide HCP)
          have cus := fits_cell ((unhide M).at 1 _ rfl) _ _ (unhide HCU)
          have cpg := fits_cell ((unhide M).at 1 _ rfl) _ _ (unhide HCG)
          by_cases h1 : (S q).f.md = 0
          · rw [bz_no' h1] at cis
            have HO : (S q).out = true := by unfold Pl.out; rw [h1]; rfl
            have HV2 := hide ((unhide HV).out (unhide HP).ok (unhide HQ) (unhide HSS) (unhide HC) HO (unhide M).kept ((unhide M).at 0 _ rfl) (unhide HBC1) ((unhide M).at 1 _ rfl) (unhide HC0))
            clear HO h1 cpn cus cpg
            go_wp2_with fail
            go_roundw
            case rel => exact ⟨k + 1, unhide HV2⟩
            case measure =>
              have h9 := topK_is _ _ (unhide HV2).1 (unhide HV2).2
              have h8 := unhide HKK
              omega
          · rw [bz_yes' h1] at cis
            by_cases h2 : 0 < (S q).pn
            · have HO : (S q).out = true := by unfold Pl.out; rw [decide_eq_true h2]; simp
              have HV2 := hide ((unhide HV).out (unhide HP).ok (unhide HQ) (unhide HSS) (unhide HC) HO (unhide M).kept ((unhide M).at 0 _ rfl) (unhide HBC1) ((unhide M).at 1 _ rfl) (unhide HC0))
              have g2 : decide (((S q).pn : Int) > 0) = true := by simp; exact h2
              have g3 : decide ((0 : Int) < ((S q).pn : Int)) = true := by simp; exact h2
              have g4 : decide (0 < (S q).pn) = true := by simp; exact h2
              clear HO h1 h2 cus cpg
              go_wp2_with fail
              go_roundw
              case rel => exact ⟨k + 1, unhide HV2⟩
              case measure =>
                have h9 := topK_is _ _ (unhide HV2).1 (unhide HV2).2
                have h8 := unhide HKK
                omega
            · have HO : Hid ((S q).out = false) := by show _ = _; unfold Pl.out; rw [decide_eq_false h1, decide_eq_false h2]; rfl
              have g2 : decide (((S q).pn : Int) > 0) = false := by simp; omega
              have g3 : decide ((0 : Int) < ((S q).pn : Int)) = false := by simp; omega
              have g4 : decide (0 < (S q).pn) = false := by simp; omega
              clear h1 h2
              cases hu : (S q).us with
              | true =>
                rw [hu] at cus
                have HU := hide hu
                clear hu cpg
                go_wp2_with (
                  first
                  | (refine wpSt1 size4 rfl (.tmp 89) (.const (.bool false)) rfl rfl g (q * 105 + 104) 1 (.bool false) ⟨rfl, rfl⟩ rfl rfl (unhide M) rfl (by have := unhide HL0; omega) (unhide HS1) ?_
                     intro W7 M7
                     replace M : Hid (Mm [b, g] wr W7 [(b, 73, bc1), (g, 84, c1)]) := hide M7
                     clear M7
                     refine Stp.go ?_))
                constructor
                go_wp2_with fail
                have HV2 := hide ((unhide HV).used (unhide HP).ok (unhide HQ) (unhide HSS) (unhide HC) (unhide HO) (unhide HU) (unhide M).kept ((unhide M).at 0 _ rfl) (unhide HBC1) ((unhide M).at 1 _ rfl) (unhide HC1))
                go_roundw
                case rel => exact ⟨k + 1, unhide HV2⟩
                case measure =>
                  have h9 := topK_is _ _ (unhide HV2).1 (unhide HV2).2
                  have h8 := unhide HKK
                  omega
              | false =>
                rw [hu] at cus
                have HT : P.stop k = true := by unfold Po.stop; rw [← unhide HSS, ← unhide HQ, unhide HO, hu]; rfl
                have HE : Hid (P.vic = (⟨P.m, (P.vat k + 1) % P.m, P.vS k⟩, (P.vS k (P.vat k)).f.pg, true)) := by show _ = _; unfold Po.vic; rw [vTo_some (unhide HV).no HT _ (unhide HKL)]
                clear hu HT
                go_wp2_with fail
                go_ret2
                rw [unhide HE]
                refine ⟨by rw [← unhide HSS, ← unhide HQ]; rfl, ⟨?_, ⟨post, ?_⟩, (vQ_lk k (Nat.mod_lt _ (by omega))).ok (unhide HP).ok, hcm⟩, (unhide HV).kept.trans (unhide M).kept⟩
                · rw [← unhide HQ, ← show bc1 = _ from unhide HBC1]; exact (unhide M).at 0 _ rfl
                · rw [← unhide HSS, ← show c0 = _ from unhide HC0]; exact (unhide M).at 1 _ rfl


end Go.Proofs.Ytgnafbohikbpfaa
