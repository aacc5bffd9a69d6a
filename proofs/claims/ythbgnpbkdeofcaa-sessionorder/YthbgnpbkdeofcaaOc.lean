/-
  The walk of SessionOrder.
-/
import Derived.Test.YthbgnpbkdeofcaaOb
import Derived.Deep.CutBlock
namespace Go.Proofs.Ythbgnpbkdeofcaa
set_option maxRecDepth 100000
open Go.RowKit

set_option maxHeartbeats 8000000 in
theorem order4 (vw : Int) (ao : Option Addr) (m c : Nat) (X : List Mv) (w : World) (hX : Mvs w w.heap.size ao m X) : Calls Try.prog 4 #[.int .i64 vw, .slice ao m c] w fun e w' => e = .returned (.bool true) ∧ Kept [] w w' := by
  have HX := hide hX
  clear hX
  cases hmay : mayB 0 1 vw with
  | false =>
    have hmay2 : mayB 1 0 vw = false := hmay
    have PN0 := hide (fun W => new_no 0 1 vw W hmay)
    have PN1 := hide (fun W => new_no 1 0 vw W hmay2)
    have PM := hide (fun W => may10 0 1 vw W)
    rw [hmay] at PM
    clear hmay hmay2
    go_enter Try.func4, Try.ntmps4
    go_wp2_with (
      first
      | (go_at_call 9
         refine (unhide PN0 _).mono ?_
         rintro e V1 ⟨rfl, hw9⟩
         obtain rfl := hw9.symm
         clear hw9 PN0)
      | (go_at_call 9
         refine (unhide PN1 _).mono ?_
         rintro e V1 ⟨rfl, hw9⟩
         obtain rfl := hw9.symm
         clear hw9 PN1)
      | (go_at_call 10
         refine (unhide PM _).mono ?_
         rintro e V3 ⟨rfl, hw9⟩
         obtain rfl := hw9.symm
         clear hw9 PM)
      | (go_at_call 11
         refine (known11 _).mono ?_
         rintro e V9 ⟨rfl, hk⟩
         have HK := hide hk
         clear hk))
    go_ret
    exact ⟨rfl, unhide HK⟩
  | true =>
    have hmay2 : mayB 1 0 vw = true := hmay
    have PN0 := hide (fun W => new_yes 0 1 vw W hmay)
    have PN1 := hide (fun W => new_yes 1 0 vw W hmay2)
    have PM := hide (fun W => may10 0 1 vw W)
    rw [hmay] at PM
    clear hmay hmay2
    by_cases hm : m ≤ 80
    · have hmI : ¬ (80 : Int) < (m : Int) := by omega
      clear PM
      go_enter Try.func4, Try.ntmps4
      go_wp2_with (
        first
        | (go_at_call 9
           refine (unhide PN0 _).mono ?_
           rintro e V1 ⟨b0, rfl, e1, hs, hk⟩
           have MA : Hid (Sm w V1 b0 (.slice none 0 0) [] (newP 0 1 vw)) := ⟨hs, hk, by omega, fun i h => by cases h⟩
           clear e1 hs hk PN0)
        | (go_at_call 9
           refine (unhide PN1 _).mono ?_
           rintro e V2 ⟨b1, rfl, e1, hs, hk⟩
           have MB : Hid (Sm w V2 b1 (.slice none 0 0) [] (newP 1 0 vw)) := ⟨hs, (unhide MA).k.trans hk, by have h1 := (unhide MA).k.size; omega, fun i h => by cases h⟩
           have HNEB : Hid (b0 ≠ b1) := by have h1 := (unhide MA).sx.head.lt; exact (by omega : b0 ≠ b1)
           replace MA := hide ((unhide MA).step hk)
           clear e1 hs hk PN1)
        | (refine wpBuildP (by rfl) #[(0, .tmp 55), (1, .tmp 56)] (by rfl) #[(0, P0 b0), (1, P0 b1)] (by kernel_rfl) [P0 b0, P0 b1] (build51 _ _ _) ?_
           obtain ⟨pt, rfl, rfl⟩ : ∃ pt : Nat → Nat, pt 0 = b0 ∧ pt 1 = b1 := ⟨fun j => if j = 0 then b0 else b1, rfl, rfl⟩)
        | (refine wpBuildP (by rfl) #[(0, .tmp 57)] (by rfl) #[(0, aggV [P0 (pt 0), P0 (pt 1)])] (by kernel_rfl) (twC pt (.slice none 0 0) nilS nilS) (build54 _ _) ?_)
        | (refine wpBoxV (by rfl) (.tmp 58) (by rfl) (twC pt (.slice none 0 0) nilS nilS) (by kernel_rfl) ?_
           intro V3 z e3 B3 K3
           have ZT := hide (Zt.init ((unhide MA).step K3) ((unhide MB).step K3) B3 (by have h1 := (unhide MA).k.size; have h2 := (unhide MB).k.size; omega) (unhide HNEB))
           clear e3 B3 K3 MA MB HNEB))
      go_loopw [10] (fun i wr => ∃ (k : Nat) (sv : Nat → Value) (sw : Nat → List Value) (sp : Nat → Ps) (onv : Value) (D : List (Dg × Value)) (st ou : Nat → Value) (L M : Nat → List (List Int)), k ≤ m ∧ i = .int .i64 k ∧ Hid (Zt w wr z vw pt sv sw sp onv D st ou L M k) ∧ Hid (D.length ≤ k * 1001)) (fun i _ => m - (intOf i).toNat)
      case atStart => exact ⟨0, _, _, _, _, _, _, _, _, _, by omega, rfl, ZT, hide (by simp)⟩
      case round =>
        clear ZT
        obtain ⟨k, sv, sw, sp, onv, D, st, ou, L, M, hk, rfl, ZT, HDL⟩ := hrel
        have HXw := hide (Mvs.kept0 (unhide HX) (unhide ZT).t.k)
        by_cases hlt : k < m
        · obtain ⟨x, hx⟩ : ∃ x, X[k]? = some x := ⟨_, List.getElem?_eq_getElem (by rw [(unhide HX).len]; exact hlt)⟩
          obtain ⟨gx, offx, rfl, _, hl⟩ := (unhide HXw).lies (by intro e; rw [e] at hx; simp at hx)
          have HRX := hide (hl k x hx)
          have HXO := hide ((unhide HX).ok x (List.mem_of_getElem? hx))
          have hltI : (k : Int) < (m : Int) := by omega
          obtain ⟨i, hi2, hand⟩ := and_one2 x.who
          clear hl hx HXw
          go_wp2_with (
            first
            | (refine wpLoadA row56 (by rfl) (.tmp 68) (by rfl) gx (offx + k * 4) (by kernel_rfl) x.C rfl (unhide HRX) ?_)
            | (refine wpNew row56 zM rfl alloc56 11 (by rfl) (by rfl) (by rfl) (.tmp 69) (by rfl) (by rfl) (by rfl) x.C rfl (mvC_one x) (by kernel_rfl) (by kernel_rfl) ?_
               intro V4 p e4 B4 K4
               have HP := hide B4
               replace ZT := hide ((unhide ZT).step K4)
               clear e4 B4 K4 HRX
               have hp0 := fits_cell (unhide HP) 0 _ rfl
               have hp1 := fits_cell (unhide HP) 1 _ rfl
               refine Stp.go ?_))
          constructor
          go_upto_block 2 with fail
          clear hp1 hand
          go_cut [13, 14] from 73 to 203 (fun x13 x14 w1c => ∃ (sv : Nat → Value) (sw : Nat → List Value) (sp : Nat → Ps) (onv : Value) (D : List (Dg × Value)) (st ou : Nat → Value) (L M : Nat → List (List Int)), Hid (Zt w w1c z vw pt sv sw sp onv D st ou L M (k + 1)) ∧ Hid (D.length ≤ (k + 1) * 1001))
          case first =>
            by_cases hk1 : x.kind = 1
            · as_aux_lemma =>
                  have HPL : Hid ((sp i).sent.length < 1000) := by have h1 := (unhide ZT).n i hi2; exact (by omega : (sp i).sent.length < 1000)
                  have HS := hide ((unhide ZT).t.s i hi2)
                  have q1 : (x.kind == 1) = true := by simpa using hk1
                  have r1 : decide (x.kind = 1) = true := by simpa using hk1
                  have HP3 : Hid (V4.cell? ⟨p, 3, none⟩ = some x.y.v) := fits_cell (unhide HP) 3 _ rfl
                  have HC0 : Hid (V4.cell? ⟨z, 0 + i, none⟩ = some (P0 (pt i))) := fits_cell (unhide ZT).t.hd (0 + i) _ (by rw [Nat.zero_add]; exact twC_s hi2)
                  have HWK := hide (unhide ZT).t.k
                  by_cases hbl : 256 < x.y.bs.length
                  · have HSE : Hid ((sp i).send x.y.bs = (sp i, 3)) := by unfold Ps.send; rw [if_pos hbl]; exact hide rfl
                    go_wp2_with fail
                    refine wp_region_any mixed (wpAny_gx 10 rfl (by kernel_rfl) [some (P0 z), some (.int .i64 i), some (P0 z), some (.pointer (some ⟨z, 0, none⟩)), some (.pointer (some ⟨z, 0 + i, none⟩)), some (P0 (pt i)), some (.pointer (some ⟨p, 3, none⟩)), some (x.y.v), some (.int .i64 3), some (.bool false)] rfl (by kernel_rfl) (fun l vs W => (SC 8 V4 (pt i) (sv i) (sw i) (sp i)) (fun i => l.getD i false) vs W) (⟨fun _ => ⟨rfl, rfl, rfl, Nat.le_refl _, fun _ _ _ => rfl⟩, fun h => by cases h⟩) ?_ ?_)
                    · intro ix o' hi ho a' w2 l vs hls hlf hJ hout hin hdep hnot
                      match ix, ho with
                      | 0, ho =>
                        obtain rfl := Option.some.inj ho
                        have e0 := hout 9 (by kernel_rfl)
                        replace e0 : a'.eval (.tmp 9) = _ := e0.trans rfl
                        exact wp_move (.tmp 9) rfl _ e0 ⟨_, rfl, told_of rfl, keepG (St := (SC 8 V4 (pt i) (sv i) (sw i) (sp i))) [8] SC.loc (by omega) (by decide) hJ⟩
                      | 1, ho =>
                        obtain rfl := Option.some.inj ho
                        have e0 := hout 12 (by kernel_rfl)
                        replace e0 : a'.eval (.tmp 12) = _ := e0.trans rfl
                        exact wp_move (.tmp 12) rfl _ e0 ⟨_, rfl, told_of rfl, keepG (St := (SC 8 V4 (pt i) (sv i) (sw i) (sp i))) [8] SC.loc (by omega) (by decide) hJ⟩
                      | 2, ho =>
                        obtain rfl := Option.some.inj ho
                        have e0 : a'.eval (.tmp 77) = P0 z := by have h9 := hin 0 77 (by kernel_rfl) (by kernel_rfl); exact h9.1.trans (told_is _ h9.2 rfl)
                        exact o_nil (.tmp 77) rfl _ e0 ⟨_, rfl, told_of rfl, keepG (St := (SC 8 V4 (pt i) (sv i) (sw i) (sp i))) [8] SC.loc (by omega) (by decide) hJ⟩
                      | 3, ho =>
                        obtain rfl := Option.some.inj ho
                        have e0 : a'.eval (.tmp 79) = P0 z := by have h9 := hin 2 79 (by kernel_rfl) (by kernel_rfl); exact h9.1.trans (told_is _ h9.2 rfl)
                        exact o_fld54_0 (.tmp 79) rfl _ e0 ⟨_, rfl, told_of rfl, keepG (St := (SC 8 V4 (pt i) (sv i) (sw i) (sp i))) [8] SC.loc (by omega) (by decide) hJ⟩
                      | 4, ho =>
                        obtain rfl := Option.some.inj ho
                        have e0 : a'.eval (.tmp 80) = .pointer (some ⟨z, 0, none⟩) := by have h9 := hin 3 80 (by kernel_rfl) (by kernel_rfl); exact h9.1.trans (told_is _ h9.2 rfl)
                        have e1 : a'.eval (.tmp 78) = .int .i64 i := by have h9 := hin 1 78 (by kernel_rfl) (by kernel_rfl); exact h9.1.trans (told_is _ h9.2 rfl)
                        exact o_idx51 (.tmp 80) (.tmp 78) rfl z 0 i hi2 e0 e1 ⟨_, rfl, told_of rfl, keepG (St := (SC 8 V4 (pt i) (sv i) (sw i) (sp i))) [8] SC.loc (by omega) (by decide) hJ⟩
                      | 5, ho =>
                        obtain rfl := Option.some.inj ho
                        have e0 : a'.eval (.tmp 81) = .pointer (some ⟨z, 0 + i, none⟩) := by have h9 := hin 4 81 (by kernel_rfl) (by kernel_rfl); exact h9.1.trans (told_is _ h9.2 rfl)
                        exact o_load23 (.tmp 81) rfl _ _ e0 ((hJ.1 (hnot 8 (by kernel_rfl))).cell (unhide HC0) (by simp)) ⟨_, rfl, told_of rfl, keepG (St := (SC 8 V4 (pt i) (sv i) (sw i) (sp i))) [8] SC.loc (by omega) (by decide) hJ⟩
                      | 6, ho =>
                        obtain rfl := Option.some.inj ho
                        have e0 := hout 11 (by kernel_rfl)
                        replace e0 : a'.eval (.tmp 11) = _ := e0.trans rfl
                        exact o_fld56_3 (.tmp 11) rfl _ e0 ⟨_, rfl, told_of rfl, keepG (St := (SC 8 V4 (pt i) (sv i) (sw i) (sp i))) [8] SC.loc (by omega) (by decide) hJ⟩
                      | 7, ho =>
                        obtain rfl := Option.some.inj ho
                        have e0 : a'.eval (.tmp 83) = .pointer (some ⟨p, 3, none⟩) := by have h9 := hin 6 83 (by kernel_rfl) (by kernel_rfl); exact h9.1.trans (told_is _ h9.2 rfl)
                        exact o_load33 (.tmp 83) rfl _ _ e0 ((hJ.1 (hnot 8 (by kernel_rfl))).cell (unhide HP3) (by simp)) ⟨_, rfl, told_of rfl, keepG (St := (SC 8 V4 (pt i) (sv i) (sw i) (sp i))) [8] SC.loc (by omega) (by decide) hJ⟩
                      | 8, ho =>
                        obtain rfl := Option.some.inj ho
                        have e0 : a'.eval (.tmp 82) = P0 (pt i) := by have h9 := hin 5 82 (by kernel_rfl) (by kernel_rfl); exact h9.1.trans (told_is _ h9.2 rfl)
                        have e1 : a'.eval (.tmp 84) = x.y.v := by have h9 := hin 7 84 (by kernel_rfl) (by kernel_rfl); exact h9.1.trans (told_is _ h9.2 rfl)
                        have hk0 := hJ.1 hlf
                        refine wp_callF 12 _ _ rfl #[P0 (pt i), x.y.v] (by simp [e0, e1]) (cf12 _ _) ((send_arg w2 (pt i) (sv i) (sw i) (sp i) x.y w.heap.size ((unhide HS).kept0 hk0) ((unhide HXO).y.kept ((unhide HWK).trans hk0) (by simp)) (unhide HPL)).mono ?_)
                        rintro e w3 ⟨rfl, v', ws', hR⟩
                        rw [unhide HSE] at hR ⊢
                        exact ⟨_, rfl, _, rfl, told_of rfl, nextG (St := (SC 8 V4 (pt i) (sv i) (sw i) (sp i))) (by omega) ⟨(fun h => by cases h), fun _ => ⟨v', ws', hR.after hk0⟩⟩⟩
                      | 9, ho =>
                        obtain rfl := Option.some.inj ho
                        have e0 : a'.eval (.tmp 85) = .int .i64 3 := by have h9 := hin 8 85 (by kernel_rfl) (by kernel_rfl); exact h9.1.trans (told_is _ h9.2 rfl)
                        exact o_eqlT24 (.tmp 85) (.const (.int .i64 0)) rfl _ _ false (by decide) e0 rfl ⟨_, rfl, told_of rfl, keepG (St := (SC 8 V4 (pt i) (sv i) (sw i) (sp i))) [8] SC.loc (by omega) (by decide) hJ⟩
                    intro l vs w9 hl hJ htold
                    have t0 : vs 0 = P0 z := told_is _ (htold 0 (by decide)) rfl
                    have t1 : vs 1 = .int .i64 i := told_is _ (htold 1 (by decide)) rfl
                    have t2 : vs 2 = P0 z := told_is _ (htold 2 (by decide)) rfl
                    have t3 : vs 3 = .pointer (some ⟨z, 0, none⟩) := told_is _ (htold 3 (by decide)) rfl
                    have t4 : vs 4 = .pointer (some ⟨z, 0 + i, none⟩) := told_is _ (htold 4 (by decide)) rfl
                    have t5 : vs 5 = P0 (pt i) := told_is _ (htold 5 (by decide)) rfl
                    have t6 : vs 6 = .pointer (some ⟨p, 3, none⟩) := told_is _ (htold 6 (by decide)) rfl
                    have t7 : vs 7 = x.y.v := told_is _ (htold 7 (by decide)) rfl
                    have t8 : vs 8 = .int .i64 3 := told_is _ (htold 8 (by decide)) rfl
                    have t9 : vs 9 = .bool false := told_is _ (htold 9 (by decide)) rfl
                    rw [show (List.range 10).map vs = [vs 0, vs 1, vs 2, vs 3, vs 4, vs 5, vs 6, vs 7, vs 8, vs 9] from rfl]
                    simp only [t0, t1, t2, t3, t4, t5, t6, t7, t8, t9, putAll, Act.put, List.setIfInBounds_toArray, List.set_cons_succ, List.set_cons_zero]
                    clear t0 t1 t2 t3 t4 t5 t6 t7 t8 t9 htold
                    obtain ⟨v1, ws1, hR⟩ := hJ.2 (hl 8 (by decide))
                    have HT := hide ((unhide ZT).t.mut (i := i) hi2 hR)
                    clear hR hJ hl
                    go_wp2_with fail
                    go_meet
                    case rel => exact ⟨_, _, _, _, _, _, _, _, _, hide ⟨by have h9 := unhide HT; rw [upd_self sp] at h9; exact h9, (unhide ZT).iv, fun i hi => by have := (unhide ZT).n i hi; omega, (unhide ZT).d⟩, hide (by have := unhide HDL; omega)⟩
                  · have HSE : Hid ((sp i).send x.y.bs = ((sp i).put x.y.bs, 0)) := by unfold Ps.send; rw [if_neg hbl]; exact hide rfl
                    go_wp2_with fail
                    refine wp_region_any mixed (wpAny_gx 10 rfl (by kernel_rfl) [some (P0 z), some (.int .i64 i), some (P0 z), some (.pointer (some ⟨z, 0, none⟩)), some (.pointer (some ⟨z, 0 + i, none⟩)), some (P0 (pt i)), some (.pointer (some ⟨p, 3, none⟩)), some (x.y.v), some (.int .i64 0), some (.bool true)] rfl (by kernel_rfl) (fun l vs W => (SC 8 V4 (pt i) (sv i) (sw i) ((sp i).put x.y.bs)) (fun i => l.getD i false) vs W) (⟨fun _ => ⟨rfl, rfl, rfl, Nat.le_refl _, fun _ _ _ => rfl⟩, fun h => by cases h⟩) ?_ ?_)
                    · intro ix o' hi ho a' w2 l vs hls hlf hJ hout hin hdep hnot
                      match ix, ho with
                      | 0, ho =>
                        obtain rfl := Option.some.inj ho
                        have e0 := hout 9 (by kernel_rfl)
                        replace e0 : a'.eval (.tmp 9) = _ := e0.trans rfl
                        exact wp_move (.tmp 9) rfl _ e0 ⟨_, rfl, told_of rfl, keepG (St := (SC 8 V4 (pt i) (sv i) (sw i) ((sp i).put x.y.bs))) [8] SC.loc (by omega) (by decide) hJ⟩
                      | 1, ho =>
                        obtain rfl := Option.some.inj ho
                        have e0 := hout 12 (by kernel_rfl)
                        replace e0 : a'.eval (.tmp 12) = _ := e0.trans rfl
                        exact wp_move (.tmp 12) rfl _ e0 ⟨_, rfl, told_of rfl, keepG (St := (SC 8 V4 (pt i) (sv i) (sw i) ((sp i).put x.y.bs))) [8] SC.loc (by omega) (by decide) hJ⟩
                      | 2, ho =>
                        obtain rfl := Option.some.inj ho
                        have e0 : a'.eval (.tmp 77) = P0 z := by have h9 := hin 0 77 (by kernel_rfl) (by kernel_rfl); exact h9.1.trans (told_is _ h9.2 rfl)
                        exact o_nil (.tmp 77) rfl _ e0 ⟨_, rfl, told_of rfl, keepG (St := (SC 8 V4 (pt i) (sv i) (sw i) ((sp i).put x.y.bs))) [8] SC.loc (by omega) (by decide) hJ⟩
                      | 3, ho =>
                        obtain rfl := Option.some.inj ho
                        have e0 : a'.eval (.tmp 79) = P0 z := by have h9 := hin 2 79 (by kernel_rfl) (by kernel_rfl); exact h9.1.trans (told_is _ h9.2 rfl)
                        exact o_fld54_0 (.tmp 79) rfl _ e0 ⟨_, rfl, told_of rfl, keepG (St := (SC 8 V4 (pt i) (sv i) (sw i) ((sp i).put x.y.bs))) [8] SC.loc (by omega) (by decide) hJ⟩
                      | 4, ho =>
                        obtain rfl := Option.some.inj ho
                        have e0 : a'.eval (.tmp 80) = .pointer (some ⟨z, 0, none⟩) := by have h9 := hin 3 80 (by kernel_rfl) (by kernel_rfl); exact h9.1.trans (told_is _ h9.2 rfl)
                        have e1 : a'.eval (.tmp 78) = .int .i64 i := by have h9 := hin 1 78 (by kernel_rfl) (by kernel_rfl); exact h9.1.trans (told_is _ h9.2 rfl)
                        exact o_idx51 (.tmp 80) (.tmp 78) rfl z 0 i hi2 e0 e1 ⟨_, rfl, told_of rfl, keepG (St := (SC 8 V4 (pt i) (sv i) (sw i) ((sp i).put x.y.bs))) [8] SC.loc (by omega) (by decide) hJ⟩
                      | 5, ho =>
                        obtain rfl := Option.some.inj ho
                        have e0 : a'.eval (.tmp 81) = .pointer (some ⟨z, 0 + i, none⟩) := by have h9 := hin 4 81 (by kernel_rfl) (by kernel_rfl); exact h9.1.trans (told_is _ h9.2 rfl)
                        exact o_load23 (.tmp 81) rfl _ _ e0 ((hJ.1 (hnot 8 (by kernel_rfl))).cell (unhide HC0) (by simp)) ⟨_, rfl, told_of rfl, keepG (St := (SC 8 V4 (pt i) (sv i) (sw i) ((sp i).put x.y.bs))) [8] SC.loc (by omega) (by decide) hJ⟩
                      | 6, ho =>
                        obtain rfl := Option.some.inj ho
                        have e0 := hout 11 (by kernel_rfl)
                        replace e0 : a'.eval (.tmp 11) = _ := e0.trans rfl
                        exact o_fld56_3 (.tmp 11) rfl _ e0 ⟨_, rfl, told_of rfl, keepG (St := (SC 8 V4 (pt i) (sv i) (sw i) ((sp i).put x.y.bs))) [8] SC.loc (by omega) (by decide) hJ⟩
                      | 7, ho =>
                        obtain rfl := Option.some.inj ho
                        have e0 : a'.eval (.tmp 83) = .pointer (some ⟨p, 3, none⟩) := by have h9 := hin 6 83 (by kernel_rfl) (by kernel_rfl); exact h9.1.trans (told_is _ h9.2 rfl)
                        exact o_load33 (.tmp 83) rfl _ _ e0 ((hJ.1 (hnot 8 (by kernel_rfl))).cell (unhide HP3) (by simp)) ⟨_, rfl, told_of rfl, keepG (St := (SC 8 V4 (pt i) (sv i) (sw i) ((sp i).put x.y.bs))) [8] SC.loc (by omega) (by decide) hJ⟩
                      | 8, ho =>
                        obtain rfl := Option.some.inj ho
                        have e0 : a'.eval (.tmp 82) = P0 (pt i) := by have h9 := hin 5 82 (by kernel_rfl) (by kernel_rfl); exact h9.1.trans (told_is _ h9.2 rfl)
                        have e1 : a'.eval (.tmp 84) = x.y.v := by have h9 := hin 7 84 (by kernel_rfl) (by kernel_rfl); exact h9.1.trans (told_is _ h9.2 rfl)
                        have hk0 := hJ.1 hlf
                        refine wp_callF 12 _ _ rfl #[P0 (pt i), x.y.v] (by simp [e0, e1]) (cf12 _ _) ((send_arg w2 (pt i) (sv i) (sw i) (sp i) x.y w.heap.size ((unhide HS).kept0 hk0) ((unhide HXO).y.kept ((unhide HWK).trans hk0) (by simp)) (unhide HPL)).mono ?_)
                        rintro e w3 ⟨rfl, v', ws', hR⟩
                        rw [unhide HSE] at hR ⊢
                        exact ⟨_, rfl, _, rfl, told_of rfl, nextG (St := (SC 8 V4 (pt i) (sv i) (sw i) ((sp i).put x.y.bs))) (by omega) ⟨(fun h => by cases h), fun _ => ⟨v', ws', hR.after hk0⟩⟩⟩
                      | 9, ho =>
                        obtain rfl := Option.some.inj ho
                        have e0 : a'.eval (.tmp 85) = .int .i64 0 := by have h9 := hin 8 85 (by kernel_rfl) (by kernel_rfl); exact h9.1.trans (told_is _ h9.2 rfl)
                        exact o_eqlT24 (.tmp 85) (.const (.int .i64 0)) rfl _ _ true (by decide) e0 rfl ⟨_, rfl, told_of rfl, keepG (St := (SC 8 V4 (pt i) (sv i) (sw i) ((sp i).put x.y.bs))) [8] SC.loc (by omega) (by decide) hJ⟩
                    intro l vs wc hl hJ htold
                    have t0 : vs 0 = P0 z := told_is _ (htold 0 (by decide)) rfl
                    have t1 : vs 1 = .int .i64 i := told_is _ (htold 1 (by decide)) rfl
                    have t2 : vs 2 = P0 z := told_is _ (htold 2 (by decide)) rfl
                    have t3 : vs 3 = .pointer (some ⟨z, 0, none⟩) := told_is _ (htold 3 (by decide)) rfl
                    have t4 : vs 4 = .pointer (some ⟨z, 0 + i, none⟩) := told_is _ (htold 4 (by decide)) rfl
                    have t5 : vs 5 = P0 (pt i) := told_is _ (htold 5 (by decide)) rfl
                    have t6 : vs 6 = .pointer (some ⟨p, 3, none⟩) := told_is _ (htold 6 (by decide)) rfl
                    have t7 : vs 7 = x.y.v := told_is _ (htold 7 (by decide)) rfl
                    have t8 : vs 8 = .int .i64 0 := told_is _ (htold 8 (by decide)) rfl
                    have t9 : vs 9 = .bool true := told_is _ (htold 9 (by decide)) rfl
                    rw [show (List.range 10).map vs = [vs 0, vs 1, vs 2, vs 3, vs 4, vs 5, vs 6, vs 7, vs 8, vs 9] from rfl]
                    simp only [t0, t1, t2, t3, t4, t5, t6, t7, t8, t9, putAll, Act.put, List.setIfInBounds_toArray, List.set_cons_succ, List.set_cons_zero]
                    clear t0 t1 t2 t3 t4 t5 t6 t7 t8 t9 htold
                    obtain ⟨v1, ws1, hR⟩ := hJ.2 (hl 8 (by decide))
                    have HT := hide ((unhide ZT).t.mut (i := i) hi2 hR)
                    replace HP := hide (hR.blk (unhide HS) (unhide HP) (by decide) (by decide))
                    clear hR hJ hl HP3 HC0 HWK hp0
                    have HP3 : Hid (wc.cell? ⟨p, 3, none⟩ = some x.y.v) := fits_cell (unhide HP) 3 _ rfl
                    have HWK := hide (unhide HT).k
                    have HC3 : Hid (wc.cell? ⟨z, 3 + i, none⟩ = some (st i)) := fits_cell (unhide HT).hd (3 + i) _ (twC_st hi2)
                    obtain ⟨xs, hxs⟩ := (unhide HT).r i hi2
                    have HXS := hide hxs
                    have HO := hide hxs.row
                    have HXL : Hid (xs.length ≤ 100000) := by have h1 := hxs.len; rw [(unhide ZT).iv.lq i hi2] at h1; have h2 := unhide HPL; exact (by omega : xs.length ≤ 100000)
                    have HZ := hide (unhide HT).hd
                    have HNL : Hid (z ∉ (st i).ownBlock.toList) := fun hm => by
                      obtain ⟨cs, hc⟩ := (unhide HO).block z (by simpa using hm)
                      have h9 := unhide HZ
                      unfold Blk at h9
                      rw [hc] at h9
                      cases h9
                    clear hxs
                    go_wp2_with fail
                    refine wp_region_any mixed (wpAny_gx 17 rfl (by kernel_rfl) [some (P0 z), some (.int .i64 i), some (P0 z), some (.int .i64 i), some (P0 z), some (.pointer (some ⟨z, 3, none⟩)), some (.pointer (some ⟨z, 3 + i, none⟩)), some (st i), some (.pointer (some ⟨p, 3, none⟩)), some (x.y.v), none, none, none, some (P0 z), some (.pointer (some ⟨z, 3, none⟩)), some (.pointer (some ⟨z, 3 + i, none⟩)), none] rfl (by kernel_rfl) (fun l vs W => (T12s wc z (st i) (twC pt onv st ou) (3 + i) xs x.y.bs) (fun i => l.getD i false) vs W) (⟨fun _ => ⟨fun _ => ⟨⟨rfl, rfl, rfl, Nat.le_refl _, fun _ _ _ => rfl⟩, (fun h => by cases h), (fun h => by cases h)⟩, (fun h => by cases h)⟩, fun h => by cases h⟩) ?_ ?_)
                    · intro ix o' hi ho a' w2 l vs hls hlf hJ hout hin hdep hnot
                      match ix, ho with
                      | 0, ho =>
                        obtain rfl := Option.some.inj ho
                        have e0 := hout 9 (by kernel_rfl)
                        replace e0 : a'.eval (.tmp 9) = _ := e0.trans rfl
                        exact wp_move (.tmp 9) rfl _ e0 ⟨_, rfl, told_of rfl, keepG (St := (T12s wc z (st i) (twC pt onv st ou) (3 + i) xs x.y.bs)) [10, 11, 12, 16] T12s.loc (by omega) (by decide) hJ⟩
                      | 1, ho =>
                        obtain rfl := Option.some.inj ho
                        have e0 := hout 12 (by kernel_rfl)
                        replace e0 : a'.eval (.tmp 12) = _ := e0.trans rfl
                        exact wp_move (.tmp 12) rfl _ e0 ⟨_, rfl, told_of rfl, keepG (St := (T12s wc z (st i) (twC pt onv st ou) (3 + i) xs x.y.bs)) [10, 11, 12, 16] T12s.loc (by omega) (by decide) hJ⟩
                      | 2, ho =>
                        obtain rfl := Option.some.inj ho
                        have e0 := hout 9 (by kernel_rfl)
                        replace e0 : a'.eval (.tmp 9) = _ := e0.trans rfl
                        exact wp_move (.tmp 9) rfl _ e0 ⟨_, rfl, told_of rfl, keepG (St := (T12s wc z (st i) (twC pt onv st ou) (3 + i) xs x.y.bs)) [10, 11, 12, 16] T12s.loc (by omega) (by decide) hJ⟩
                      | 3, ho =>
                        obtain rfl := Option.some.inj ho
                        have e0 := hout 12 (by kernel_rfl)
                        replace e0 : a'.eval (.tmp 12) = _ := e0.trans rfl
                        exact wp_move (.tmp 12) rfl _ e0 ⟨_, rfl, told_of rfl, keepG (St := (T12s wc z (st i) (twC pt onv st ou) (3 + i) xs x.y.bs)) [10, 11, 12, 16] T12s.loc (by omega) (by decide) hJ⟩
                      | 4, ho =>
                        obtain rfl := Option.some.inj ho
                        have e0 : a'.eval (.tmp 89) = P0 z := by have h9 := hin 2 89 (by kernel_rfl) (by kernel_rfl); exact h9.1.trans (told_is _ h9.2 rfl)
                        exact o_nil (.tmp 89) rfl _ e0 ⟨_, rfl, told_of rfl, keepG (St := (T12s wc z (st i) (twC pt onv st ou) (3 + i) xs x.y.bs)) [10, 11, 12, 16] T12s.loc (by omega) (by decide) hJ⟩
                      | 5, ho =>
                        obtain rfl := Option.some.inj ho
                        have e0 : a'.eval (.tmp 91) = P0 z := by have h9 := hin 4 91 (by kernel_rfl) (by kernel_rfl); exact h9.1.trans (told_is _ h9.2 rfl)
                        exact o_fld54_2 (.tmp 91) rfl _ e0 ⟨_, rfl, told_of rfl, keepG (St := (T12s wc z (st i) (twC pt onv st ou) (3 + i) xs x.y.bs)) [10, 11, 12, 16] T12s.loc (by omega) (by decide) hJ⟩
                      | 6, ho =>
                        obtain rfl := Option.some.inj ho
                        have e0 : a'.eval (.tmp 92) = .pointer (some ⟨z, 3, none⟩) := by have h9 := hin 5 92 (by kernel_rfl) (by kernel_rfl); exact h9.1.trans (told_is _ h9.2 rfl)
                        have e1 : a'.eval (.tmp 90) = .int .i64 i := by have h9 := hin 3 90 (by kernel_rfl) (by kernel_rfl); exact h9.1.trans (told_is _ h9.2 rfl)
                        exact o_idx52 (.tmp 92) (.tmp 90) rfl z 3 i hi2 e0 e1 ⟨_, rfl, told_of rfl, keepG (St := (T12s wc z (st i) (twC pt onv st ou) (3 + i) xs x.y.bs)) [10, 11, 12, 16] T12s.loc (by omega) (by decide) hJ⟩
                      | 7, ho =>
                        obtain rfl := Option.some.inj ho
                        have e0 : a'.eval (.tmp 93) = .pointer (some ⟨z, 3 + i, none⟩) := by have h9 := hin 6 93 (by kernel_rfl) (by kernel_rfl); exact h9.1.trans (told_is _ h9.2 rfl)
                        exact o_load30 (.tmp 93) rfl _ _ e0 (((hJ.1 (hnot 16 (by kernel_rfl))).1 (hnot 12 (by kernel_rfl))).1.cell (unhide HC3) (by simp)) ⟨_, rfl, told_of rfl, keepG (St := (T12s wc z (st i) (twC pt onv st ou) (3 + i) xs x.y.bs)) [10, 11, 12, 16] T12s.loc (by omega) (by decide) hJ⟩
                      | 8, ho =>
                        obtain rfl := Option.some.inj ho
                        have e0 := hout 11 (by kernel_rfl)
                        replace e0 : a'.eval (.tmp 11) = _ := e0.trans rfl
                        exact o_fld56_3 (.tmp 11) rfl _ e0 ⟨_, rfl, told_of rfl, keepG (St := (T12s wc z (st i) (twC pt onv st ou) (3 + i) xs x.y.bs)) [10, 11, 12, 16] T12s.loc (by omega) (by decide) hJ⟩
                      | 9, ho =>
                        obtain rfl := Option.some.inj ho
                        have e0 : a'.eval (.tmp 95) = .pointer (some ⟨p, 3, none⟩) := by have h9 := hin 8 95 (by kernel_rfl) (by kernel_rfl); exact h9.1.trans (told_is _ h9.2 rfl)
                        exact o_load33 (.tmp 95) rfl _ _ e0 (((hJ.1 (hnot 16 (by kernel_rfl))).1 (hnot 12 (by kernel_rfl))).1.cell (unhide HP3) (by simp)) ⟨_, rfl, told_of rfl, keepG (St := (T12s wc z (st i) (twC pt onv st ou) (3 + i) xs x.y.bs)) [10, 11, 12, 16] T12s.loc (by omega) (by decide) hJ⟩
                      | 10, ho =>
                        obtain rfl := Option.some.inj ho
                        have e0 : a'.eval (.tmp 96) = x.y.v := by have h9 := hin 9 96 (by kernel_rfl) (by kernel_rfl); exact h9.1.trans (told_is _ h9.2 rfl)
                        have hk0 := ((hJ.1 (hnot 16 (by kernel_rfl))).1 (hnot 12 (by kernel_rfl))).1
                        have hy := (unhide HXO).y.kept ((unhide HWK).trans hk0) (by simp)
                        refine o_appB (.tmp 96) rfl x.y.ao x.y.m x.y.c x.y.bs e0 hy.nil hy.vals hy.byte (by have := hy.big; omega) fun u0 w3 hB3 hf3 hk3 => ?_
                        exact ⟨_, rfl, told_no rfl, nextG (St := (T12s wc z (st i) (twC pt onv st ou) (3 + i) xs x.y.bs)) (by omega) ⟨fun _ => ⟨fun _ => ⟨hk0.trans hk3, fun _ => hB3, (fun h11 => by have h9 : l.getD 11 false = true := h11; rw [hnot 11 (by kernel_rfl)] at h9; cases h9)⟩, (fun h12 => by have h9 : l.getD 12 false = true := h12; rw [hnot 12 (by kernel_rfl)] at h9; cases h9)⟩, (fun h16 => by have h9 : l.getD 16 false = true := h16; rw [hnot 16 (by kernel_rfl)] at h9; cases h9)⟩⟩
                      | 11, ho =>
                        obtain rfl := Option.some.inj ho
                        have e0 : a'.eval (.tmp 97) = vs 10 := (hin 10 97 (by kernel_rfl) (by kernel_rfl)).1
                        have hk0 := ((hJ.1 (hnot 16 (by kernel_rfl))).1 (hnot 12 (by kernel_rfl))).1
                        have hd10 : l.getD 10 false = true := hdep 10 (by kernel_rfl)
                        have hB0 := ((hJ.1 (hnot 16 (by kernel_rfl))).1 (hnot 12 (by kernel_rfl))).2.1 hd10
                        obtain ⟨uo, uc, hu, _, _⟩ := hB0.sl
                        refine o_bsS (.tmp 97) rfl uo x.y.bs.length uc (e0.trans hu) ?_
                        exact ⟨_, rfl, told_no rfl, nextG (St := (T12s wc z (st i) (twC pt onv st ou) (3 + i) xs x.y.bs)) (by omega) ⟨fun _ => ⟨fun _ => ⟨hk0.alloc _, fun _ => hB0.kept ((Kept.refl [] _).alloc _) (by simp), fun _ => ⟨hd10, w2.heap.size, rfl, (by show Blk _ _ 33 [vs 10]; rw [hu]; exact Blk.new w2 33 _)⟩⟩, (fun h12 => by have h9 : l.getD 12 false = true := h12; rw [hnot 12 (by kernel_rfl)] at h9; cases h9)⟩, (fun h16 => by have h9 : l.getD 16 false = true := h16; rw [hnot 16 (by kernel_rfl)] at h9; cases h9)⟩⟩
                      | 12, ho =>
                        obtain rfl := Option.some.inj ho
                        have e0 : a'.eval (.tmp 94) = st i := by have h9 := hin 7 94 (by kernel_rfl) (by kernel_rfl); exact h9.1.trans (told_is _ h9.2 rfl)
                        have e1 : a'.eval (.tmp 98) = vs 11 := (hin 11 98 (by kernel_rfl) (by kernel_rfl)).1
                        obtain ⟨hk0, hB0, hq0⟩ := (hJ.1 (hnot 16 (by kernel_rfl))).1 hlf
                        obtain ⟨hd10, q, hq, hBq⟩ := hq0 (hdep 11 (by kernel_rfl))
                        have hBd := hB0 hd10
                        refine o_appO (.tmp 94) (.tmp 98) rfl (st i) xs e0 ((unhide HO).kept hk0 (by simp)) q (vs 10) (e1.trans hq) hBq hBd.one (unhide HXL) fun v' w' h1 h2 h3 => ?_
                        have hno : ∀ k, (vs 10).ownBlock = some k → k ∉ (st i).ownBlock.toList := fun k e hm => by
                          obtain ⟨cs, hc⟩ := hBd.block k e
                          obtain ⟨cs', hc'⟩ := ((unhide HO).kept hk0 (by simp)).block k (by simpa using hm)
                          rw [hc] at hc'
                          cases hc'
                        exact ⟨_, rfl, told_no rfl, nextG (St := (T12s wc z (st i) (twC pt onv st ou) (3 + i) xs x.y.bs)) (by omega) ⟨fun _ => ⟨(fun h => by cases h), fun _ => ⟨vs 10, hBd.kept h2 hno, h1, (hk0.mono (by simp)).trans h2, fun k hk => (h3 k hk).imp id (fun x => by have := hk0.size; omega)⟩⟩, (fun h16 => by have h9 : l.getD 16 false = true := h16; rw [hnot 16 (by kernel_rfl)] at h9; cases h9)⟩⟩
                      | 13, ho =>
                        obtain rfl := Option.some.inj ho
                        have e0 : a'.eval (.tmp 87) = P0 z := by have h9 := hin 0 87 (by kernel_rfl) (by kernel_rfl); exact h9.1.trans (told_is _ h9.2 rfl)
                        exact o_nil (.tmp 87) rfl _ e0 ⟨_, rfl, told_of rfl, keepG (St := (T12s wc z (st i) (twC pt onv st ou) (3 + i) xs x.y.bs)) [10, 11, 12, 16] T12s.loc (by omega) (by decide) hJ⟩
                      | 14, ho =>
                        obtain rfl := Option.some.inj ho
                        have e0 : a'.eval (.tmp 100) = P0 z := by have h9 := hin 13 100 (by kernel_rfl) (by kernel_rfl); exact h9.1.trans (told_is _ h9.2 rfl)
                        exact o_fld54_2 (.tmp 100) rfl _ e0 ⟨_, rfl, told_of rfl, keepG (St := (T12s wc z (st i) (twC pt onv st ou) (3 + i) xs x.y.bs)) [10, 11, 12, 16] T12s.loc (by omega) (by decide) hJ⟩
                      | 15, ho =>
                        obtain rfl := Option.some.inj ho
                        have e0 : a'.eval (.tmp 101) = .pointer (some ⟨z, 3, none⟩) := by have h9 := hin 14 101 (by kernel_rfl) (by kernel_rfl); exact h9.1.trans (told_is _ h9.2 rfl)
                        have e1 : a'.eval (.tmp 88) = .int .i64 i := by have h9 := hin 1 88 (by kernel_rfl) (by kernel_rfl); exact h9.1.trans (told_is _ h9.2 rfl)
                        exact o_idx52 (.tmp 101) (.tmp 88) rfl z 3 i hi2 e0 e1 ⟨_, rfl, told_of rfl, keepG (St := (T12s wc z (st i) (twC pt onv st ou) (3 + i) xs x.y.bs)) [10, 11, 12, 16] T12s.loc (by omega) (by decide) hJ⟩
                      | 16, ho =>
                        obtain rfl := Option.some.inj ho
                        have e0 : a'.eval (.tmp 102) = .pointer (some ⟨z, 3 + i, none⟩) := by have h9 := hin 15 102 (by kernel_rfl) (by kernel_rfl); exact h9.1.trans (told_is _ h9.2 rfl)
                        have e1 : a'.eval (.tmp 99) = vs 12 := (hin 12 99 (by kernel_rfl) (by kernel_rfl)).1
                        obtain ⟨r, h0, h1, h2, h3⟩ := (hJ.1 hlf).2 (hdep 12 (by kernel_rfl))
                        have hB9 := (unhide HZ).kept h2 (unhide HNL)
                        obtain ⟨ao9, c9, e9, _, _⟩ := h1.sl
                        refine o_st30 (.tmp 102) (.tmp 99) rfl rfl z (3 + i) 54 _ (vs 12) e0 e1 ⟨ao9, _, c9, e9⟩ hB9 (by simp [twC]; omega) fun W hBW hkW => ⟨_, rfl, told_no rfl, nextG (St := (T12s wc z (st i) (twC pt onv st ou) (3 + i) xs x.y.bs)) (by omega) ⟨(fun h => by cases h), fun _ => ⟨vs 12, r, h0.kept hkW (fun k hk hm => ?_), h1.kept hkW (fun k hk hm => ?_), hBW, (h2.mono (fun k hk => List.mem_cons_of_mem _ hk)).trans (hkW.mono (by simp)), h3⟩⟩⟩
                        · simp at hm; subst hm; obtain ⟨cs, hc⟩ := h0.block k hk; unfold Blk at hB9; rw [hB9] at hc; injection hc with hc; injection hc with _ hc; exact absurd hc (by decide)
                        · simp at hm; subst hm; obtain ⟨cs, hc⟩ := h1.block k hk; unfold Blk at hB9; rw [hB9] at hc; injection hc with hc; injection hc with _ hc; exact absurd hc (by decide)
                    intro l vs w8 hl hJ htold
                    have t0 : vs 0 = P0 z := told_is _ (htold 0 (by decide)) rfl
                    have t1 : vs 1 = .int .i64 i := told_is _ (htold 1 (by decide)) rfl
                    have t2 : vs 2 = P0 z := told_is _ (htold 2 (by decide)) rfl
                    have t3 : vs 3 = .int .i64 i := told_is _ (htold 3 (by decide)) rfl
                    have t4 : vs 4 = P0 z := told_is _ (htold 4 (by decide)) rfl
                    have t5 : vs 5 = .pointer (some ⟨z, 3, none⟩) := told_is _ (htold 5 (by decide)) rfl
                    have t6 : vs 6 = .pointer (some ⟨z, 3 + i, none⟩) := told_is _ (htold 6 (by decide)) rfl
                    have t7 : vs 7 = st i := told_is _ (htold 7 (by decide)) rfl
                    have t8 : vs 8 = .pointer (some ⟨p, 3, none⟩) := told_is _ (htold 8 (by decide)) rfl
                    have t9 : vs 9 = x.y.v := told_is _ (htold 9 (by decide)) rfl
                    have t13 : vs 13 = P0 z := told_is _ (htold 13 (by decide)) rfl
                    have t14 : vs 14 = .pointer (some ⟨z, 3, none⟩) := told_is _ (htold 14 (by decide)) rfl
                    have t15 : vs 15 = .pointer (some ⟨z, 3 + i, none⟩) := told_is _ (htold 15 (by decide)) rfl
                    rw [show (List.range 17).map vs = [vs 0, vs 1, vs 2, vs 3, vs 4, vs 5, vs 6, vs 7, vs 8, vs 9, vs 10, vs 11, vs 12, vs 13, vs 14, vs 15, vs 16] from rfl]
                    simp only [t0, t1, t2, t3, t4, t5, t6, t7, t8, t9, t13, t14, t15, putAll, Act.put, List.setIfInBounds_toArray, List.set_cons_succ, List.set_cons_zero]
                    clear t0 t1 t2 t3 t4 t5 t6 t7 t8 t9 t13 t14 t15 htold
                    obtain ⟨v3, r3, h0, h1, h2, h3, h4⟩ := hJ.2 (hl 16 (by decide))
                    have hT := (unhide HT).putSt (i := i) hi2 (unhide HXS) h0 h1 h2 h3 h4
                    have ZT9 : Hid (Zt w w8 z vw pt (upd sv i v1) (upd sw i ws1) (upd sp i ((sp i).put x.y.bs)) onv D (upd st i v3) ou (upd L i (L i ++ [x.y.bs])) M (k + 1)) := ⟨hT, (unhide ZT).iv.put hi2 _, fun j hj => by
                      have h9 := (unhide ZT).n j hj
                      unfold upd
                      split
                      · next e => subst e; simp only [Ps.put, List.length_append, List.length_singleton]; omega
                      · omega, fun pr hpr => by obtain ⟨j, hj, hw⟩ := (unhide ZT).d pr hpr; exact ⟨j, hj, hw.mono (gr_upd (gr_put _ _) j)⟩⟩
                    clear h0 h1 h2 h3 h4 hT hJ hl HXS HO HXL HZ HNL HC3 HWK HT HP3
                    go_wp2_with fail
                    go_meet
                    case rel => exact ⟨_, _, _, _, _, _, _, _, _, ZT9, hide (by have := unhide HDL; omega)⟩
            have q1 : (x.kind == 1) = false := by simpa using hk1
            have r1 : decide (x.kind = 1) = false := by simpa using hk1
            by_cases hk2 : x.kind = 2
            · as_aux_lemma =>
                  have q2 : (x.kind == 2) = true := by simpa using hk2
                  have r2 : decide (x.kind = 2) = true := by simpa using hk2
                  have HS := hide ((unhide ZT).t.s i hi2)
                  have HZ := hide (unhide ZT).t.hd
                  have HON := hide (unhide ZT).t.on
                  have HWK := hide (unhide ZT).t.k
                  have HCI : Hid ((twC pt onv st ou)[0 + i]? = some (P0 (pt i))) := by rw [Nat.zero_add]; exact hide (twC_s hi2)
                  have HFL : Hid ((sp i).fresh.length ≤ 1001) := by
                    have h2 := (unhide HS).ok.many
                    unfold Ps.fresh
                    by_cases h3 : max (sp i).told (sp i).known < (sp i).sent.length
                    · have h5 := tellL_len h3; exact (show ((sp i).tellL (max (sp i).told (sp i).known)).length ≤ 1001 by omega)
                    · have h4 := tellL_len0 (P := sp i) (f := max (sp i).told (sp i).known) (by omega); exact (show ((sp i).tellL (max (sp i).told (sp i).known)).length ≤ 1001 by omega)
                  go_wp2_with fail
                  refine wp_region_any mixed (wpAny_gx 16 rfl (by kernel_rfl) [some (P0 z), some (P0 z), some (P0 z), some (.pointer (some ⟨z, 2, none⟩)), some (onv), some (P0 z), some (.int .i64 i), some (P0 z), some (.pointer (some ⟨z, 0, none⟩)), some (.pointer (some ⟨z, 0 + i, none⟩)), some (P0 (pt i)), none, none, some (P0 z), some (.pointer (some ⟨z, 2, none⟩)), none] rfl (by kernel_rfl) (fun l vs W => (S15 V4 w.heap.size (pt i) z (sv i) (sw i) (sp i).toldP (sp i).fresh onv D (fun u => twC pt u st ou)) (fun i => l.getD i false) vs W) (⟨fun _ => ⟨fun _ => ⟨rfl, rfl, rfl, Nat.le_refl _, fun _ _ _ => rfl⟩, (fun h => by cases h)⟩, (fun h => by cases h), fun h => by cases h⟩) ?_ ?_)
                  · intro ix o' hi ho a' w2 l vs hls hlf hJ hout hin hdep hnot
                    match ix, ho with
                    | 0, ho =>
                      obtain rfl := Option.some.inj ho
                      have e0 := hout 9 (by kernel_rfl)
                      replace e0 : a'.eval (.tmp 9) = _ := e0.trans rfl
                      exact wp_move (.tmp 9) rfl _ e0 ⟨_, rfl, told_of rfl, keepG (St := (S15 V4 w.heap.size (pt i) z (sv i) (sw i) (sp i).toldP (sp i).fresh onv D (fun u => twC pt u st ou))) [11, 12, 15] S15.loc (by omega) (by decide) hJ⟩
                    | 1, ho =>
                      obtain rfl := Option.some.inj ho
                      have e0 := hout 9 (by kernel_rfl)
                      replace e0 : a'.eval (.tmp 9) = _ := e0.trans rfl
                      exact wp_move (.tmp 9) rfl _ e0 ⟨_, rfl, told_of rfl, keepG (St := (S15 V4 w.heap.size (pt i) z (sv i) (sw i) (sp i).toldP (sp i).fresh onv D (fun u => twC pt u st ou))) [11, 12, 15] S15.loc (by omega) (by decide) hJ⟩
                    | 2, ho =>
                      obtain rfl := Option.some.inj ho
                      have e0 : a'.eval (.tmp 108) = P0 z := by have h9 := hin 1 108 (by kernel_rfl) (by kernel_rfl); exact h9.1.trans (told_is _ h9.2 rfl)
                      exact o_nil (.tmp 108) rfl _ e0 ⟨_, rfl, told_of rfl, keepG (St := (S15 V4 w.heap.size (pt i) z (sv i) (sw i) (sp i).toldP (sp i).fresh onv D (fun u => twC pt u st ou))) [11, 12, 15] S15.loc (by omega) (by decide) hJ⟩
                    | 3, ho =>
                      obtain rfl := Option.some.inj ho
                      have e0 : a'.eval (.tmp 109) = P0 z := by have h9 := hin 2 109 (by kernel_rfl) (by kernel_rfl); exact h9.1.trans (told_is _ h9.2 rfl)
                      exact o_fld54_1 (.tmp 109) rfl _ e0 ⟨_, rfl, told_of rfl, keepG (St := (S15 V4 w.heap.size (pt i) z (sv i) (sw i) (sp i).toldP (sp i).fresh onv D (fun u => twC pt u st ou))) [11, 12, 15] S15.loc (by omega) (by decide) hJ⟩
                    | 4, ho =>
                      obtain rfl := Option.some.inj ho
                      have e0 : a'.eval (.tmp 110) = .pointer (some ⟨z, 2, none⟩) := by have h9 := hin 3 110 (by kernel_rfl) (by kernel_rfl); exact h9.1.trans (told_is _ h9.2 rfl)
                      exact o_load40 (.tmp 110) rfl _ _ e0 (by
                        by_cases h11 : l.getD 11 false = true
                        · obtain ⟨Lr, _, _, hR⟩ := (hJ.1 (hnot 12 (by kernel_rfl))).2 h11
                          exact fits_cell (hR.blk (unhide HS) (unhide HZ) (by decide) (by decide)) 2 _ rfl
                        · exact ((hJ.1 (hnot 12 (by kernel_rfl))).1 (by simpa using h11)).cell (fits_cell (unhide HZ) 2 _ rfl) (by simp)) ⟨_, rfl, told_of rfl, keepG (St := (S15 V4 w.heap.size (pt i) z (sv i) (sw i) (sp i).toldP (sp i).fresh onv D (fun u => twC pt u st ou))) [11, 12, 15] S15.loc (by omega) (by decide) hJ⟩
                    | 5, ho =>
                      obtain rfl := Option.some.inj ho
                      have e0 := hout 9 (by kernel_rfl)
                      replace e0 : a'.eval (.tmp 9) = _ := e0.trans rfl
                      exact wp_move (.tmp 9) rfl _ e0 ⟨_, rfl, told_of rfl, keepG (St := (S15 V4 w.heap.size (pt i) z (sv i) (sw i) (sp i).toldP (sp i).fresh onv D (fun u => twC pt u st ou))) [11, 12, 15] S15.loc (by omega) (by decide) hJ⟩
                    | 6, ho =>
                      obtain rfl := Option.some.inj ho
                      have e0 := hout 12 (by kernel_rfl)
                      replace e0 : a'.eval (.tmp 12) = _ := e0.trans rfl
                      exact wp_move (.tmp 12) rfl _ e0 ⟨_, rfl, told_of rfl, keepG (St := (S15 V4 w.heap.size (pt i) z (sv i) (sw i) (sp i).toldP (sp i).fresh onv D (fun u => twC pt u st ou))) [11, 12, 15] S15.loc (by omega) (by decide) hJ⟩
                    | 7, ho =>
                      obtain rfl := Option.some.inj ho
                      have e0 : a'.eval (.tmp 112) = P0 z := by have h9 := hin 5 112 (by kernel_rfl) (by kernel_rfl); exact h9.1.trans (told_is _ h9.2 rfl)
                      exact o_nil (.tmp 112) rfl _ e0 ⟨_, rfl, told_of rfl, keepG (St := (S15 V4 w.heap.size (pt i) z (sv i) (sw i) (sp i).toldP (sp i).fresh onv D (fun u => twC pt u st ou))) [11, 12, 15] S15.loc (by omega) (by decide) hJ⟩
                    | 8, ho =>
                      obtain rfl := Option.some.inj ho
                      have e0 : a'.eval (.tmp 114) = P0 z := by have h9 := hin 7 114 (by kernel_rfl) (by kernel_rfl); exact h9.1.trans (told_is _ h9.2 rfl)
                      exact o_fld54_0 (.tmp 114) rfl _ e0 ⟨_, rfl, told_of rfl, keepG (St := (S15 V4 w.heap.size (pt i) z (sv i) (sw i) (sp i).toldP (sp i).fresh onv D (fun u => twC pt u st ou))) [11, 12, 15] S15.loc (by omega) (by decide) hJ⟩
                    | 9, ho =>
                      obtain rfl := Option.some.inj ho
                      have e0 : a'.eval (.tmp 115) = .pointer (some ⟨z, 0, none⟩) := by have h9 := hin 8 115 (by kernel_rfl) (by kernel_rfl); exact h9.1.trans (told_is _ h9.2 rfl)
                      have e1 : a'.eval (.tmp 113) = .int .i64 i := by have h9 := hin 6 113 (by kernel_rfl) (by kernel_rfl); exact h9.1.trans (told_is _ h9.2 rfl)
                      exact o_idx51 (.tmp 115) (.tmp 113) rfl z 0 i hi2 e0 e1 ⟨_, rfl, told_of rfl, keepG (St := (S15 V4 w.heap.size (pt i) z (sv i) (sw i) (sp i).toldP (sp i).fresh onv D (fun u => twC pt u st ou))) [11, 12, 15] S15.loc (by omega) (by decide) hJ⟩
                    | 10, ho =>
                      obtain rfl := Option.some.inj ho
                      have e0 : a'.eval (.tmp 116) = .pointer (some ⟨z, 0 + i, none⟩) := by have h9 := hin 9 116 (by kernel_rfl) (by kernel_rfl); exact h9.1.trans (told_is _ h9.2 rfl)
                      exact o_load23 (.tmp 116) rfl _ _ e0 (((hJ.1 (hnot 12 (by kernel_rfl))).1 (hnot 11 (by kernel_rfl))).cell (fits_cell (unhide HZ) (0 + i) _ (unhide HCI)) (by simp)) ⟨_, rfl, told_of rfl, keepG (St := (S15 V4 w.heap.size (pt i) z (sv i) (sw i) (sp i).toldP (sp i).fresh onv D (fun u => twC pt u st ou))) [11, 12, 15] S15.loc (by omega) (by decide) hJ⟩
                    | 11, ho =>
                      obtain rfl := Option.some.inj ho
                      have e0 : a'.eval (.tmp 117) = P0 (pt i) := by have h9 := hin 10 117 (by kernel_rfl) (by kernel_rfl); exact h9.1.trans (told_is _ h9.2 rfl)
                      have hk0 := (hJ.1 (hnot 12 (by kernel_rfl))).1 hlf
                      refine wp_callF 14 _ _ rfl #[P0 (pt i)] (by simp [e0]) (cf14 _ _) ((fresh14 (pt i) (sv i) (sw i) (sp i) w2 ((unhide HS).kept0 hk0)).mono ?_)
                      rintro e w3 hTR
                      obtain ⟨dv, Lr, rfl, h2, h3, h4⟩ := TR.after hk0 hTR
                      exact ⟨_, rfl, _, rfl, told_no rfl, nextG (St := (S15 V4 w.heap.size (pt i) z (sv i) (sw i) (sp i).toldP (sp i).fresh onv D (fun u => twC pt u st ou))) (by omega) ⟨fun _ => ⟨(fun h => by cases h), fun _ => ⟨Lr, h2, h3, h4⟩⟩, (fun h12 => by have h9 : l.getD 12 false = true := h12; rw [hnot 12 (by kernel_rfl)] at h9; cases h9), (fun h15 => by have h9 : l.getD 15 false = true := h15; rw [hnot 15 (by kernel_rfl)] at h9; cases h9)⟩⟩
                    | 12, ho =>
                      obtain rfl := Option.some.inj ho
                      have e0 : a'.eval (.tmp 111) = onv := by have h9 := hin 4 111 (by kernel_rfl) (by kernel_rfl); exact h9.1.trans (told_is _ h9.2 rfl)
                      have e1 : a'.eval (.tmp 118) = vs 11 := (hin 11 118 (by kernel_rfl) (by kernel_rfl)).1
                      obtain ⟨Lr, h2, h3, hR⟩ := (hJ.1 hlf).2 (hdep 11 (by kernel_rfl))
                      have hOn := hR.dl (unhide HS) (unhide HON)
                      have hZ2 := hR.blk (unhide HS) (unhide HZ) (by decide) (by decide)
                      obtain ⟨ao, cp, he, hlc, hnil, hsrc⟩ := h2.src
                      have hLr : Lr.length ≤ 1001 := by
                        have h9 := congrArg List.length h3
                        rw [List.length_map] at h9
                        have := unhide HFL
                        omega
                      have hDl := unhide HDL
                      have hsz := hR.kept.size
                      have hwk := (unhide HWK).size
                      refine o_appG (size := 6) (by8 := 64) Try.sl40 Try.info35 rfl (by decide) (.tmp 111) (.tmp 118) rfl w.heap.size onv D.length (cellsD D) (cellsD Lr) e0 hOn.row ao Lr.length cp (e1.trans he) hnil (by rw [cellsD_len]) (fun ad had j u hj => by obtain ⟨g, rfl, hg⟩ := hsrc ad had; rw [Addr.add_lit, Nat.zero_add]; exact hg j u hj) (cellsD_ones h2.bod) (by omega) (by omega) (by omega) fun v' w' g1 g2 _ => ?_
                      have hK : Kept onv.ownBlock.toList w2 w' := Kept.of_grown g2 (fun k e _ => by simp [e])
                      have hnz : z ∉ onv.ownBlock.toList := fun hm => by
                        obtain ⟨cs, hc⟩ := owns_block hOn.row z (by simpa using hm)
                        unfold Blk at hZ2
                        rw [hc] at hZ2
                        cases hZ2
                      exact ⟨_, rfl, told_no rfl, nextG (St := (S15 V4 w.heap.size (pt i) z (sv i) (sw i) (sp i).toldP (sp i).fresh onv D (fun u => twC pt u st ou))) (by omega) ⟨(fun h => by cases h), fun _ => ⟨Lr, w2, h3, hR, hOn.app g1 g2 h2.bod (fun p hp k e => by have := h2.new p hp k e; omega), (fun _ => ⟨hZ2.kept hK hnz, hK⟩), (fun h15 => by have h9 : l.getD 15 false = true := h15; rw [hnot 15 (by kernel_rfl)] at h9; cases h9)⟩, (fun h15 => by have h9 : l.getD 15 false = true := h15; rw [hnot 15 (by kernel_rfl)] at h9; cases h9)⟩⟩
                    | 13, ho =>
                      obtain rfl := Option.some.inj ho
                      have e0 : a'.eval (.tmp 107) = P0 z := by have h9 := hin 0 107 (by kernel_rfl) (by kernel_rfl); exact h9.1.trans (told_is _ h9.2 rfl)
                      exact o_nil (.tmp 107) rfl _ e0 ⟨_, rfl, told_of rfl, keepG (St := (S15 V4 w.heap.size (pt i) z (sv i) (sw i) (sp i).toldP (sp i).fresh onv D (fun u => twC pt u st ou))) [11, 12, 15] S15.loc (by omega) (by decide) hJ⟩
                    | 14, ho =>
                      obtain rfl := Option.some.inj ho
                      have e0 : a'.eval (.tmp 120) = P0 z := by have h9 := hin 13 120 (by kernel_rfl) (by kernel_rfl); exact h9.1.trans (told_is _ h9.2 rfl)
                      exact o_fld54_1 (.tmp 120) rfl _ e0 ⟨_, rfl, told_of rfl, keepG (St := (S15 V4 w.heap.size (pt i) z (sv i) (sw i) (sp i).toldP (sp i).fresh onv D (fun u => twC pt u st ou))) [11, 12, 15] S15.loc (by omega) (by decide) hJ⟩
                    | 15, ho =>
                      obtain rfl := Option.some.inj ho
                      have e0 : a'.eval (.tmp 121) = .pointer (some ⟨z, 2, none⟩) := by have h9 := hin 14 121 (by kernel_rfl) (by kernel_rfl); exact h9.1.trans (told_is _ h9.2 rfl)
                      have e1 : a'.eval (.tmp 119) = vs 12 := (hin 12 119 (by kernel_rfl) (by kernel_rfl)).1
                      obtain ⟨Lr, W1, h3, hR, hD, hz0, _⟩ := hJ.2.1 (hdep 12 (by kernel_rfl))
                      obtain ⟨hZ0, hK0⟩ := hz0 hlf
                      obtain ⟨ao9, c9, e9⟩ := owns_slN hD.row
                      refine o_st40 (.tmp 121) (.tmp 119) rfl rfl z 2 54 _ (vs 12) e0 e1 ⟨ao9, _, c9, e9⟩ hZ0 (by simp [twC]) fun W hBW hkW => ⟨_, rfl, told_no rfl, nextG (St := (S15 V4 w.heap.size (pt i) z (sv i) (sw i) (sp i).toldP (sp i).fresh onv D (fun u => twC pt u st ou))) (by omega) ⟨(fun h => by have h9 : l.getD 12 false = false := h; have h8 : l.getD 12 false = true := hdep 12 (by kernel_rfl); rw [h9] at h8; cases h8), (fun _ => ⟨Lr, W1, h3, hR, hD.kept hkW (fun k e hm => ?_) (fun p hp k e hm => ?_), (fun h => by cases h), fun _ => ⟨hBW, (hK0.mono (fun k hk => List.mem_cons_of_mem _ hk)).trans (hkW.mono (by simp))⟩⟩), fun _ => hdep 12 (by kernel_rfl)⟩⟩
                      · simp at hm; subst hm; obtain ⟨cs, hc⟩ := owns_block hD.row k e; unfold Blk at hZ0; rw [hZ0] at hc; injection hc with hc; injection hc with _ hc; exact absurd hc (by decide)
                      · simp at hm; subst hm; obtain ⟨cs, hc⟩ := (hD.bod p hp).block k e; unfold Blk at hZ0; rw [hZ0] at hc; injection hc with hc; injection hc with _ hc; exact absurd hc (by decide)
                  intro l vs w8 hl hJ htold
                  have t0 : vs 0 = P0 z := told_is _ (htold 0 (by decide)) rfl
                  have t1 : vs 1 = P0 z := told_is _ (htold 1 (by decide)) rfl
                  have t2 : vs 2 = P0 z := told_is _ (htold 2 (by decide)) rfl
                  have t3 : vs 3 = .pointer (some ⟨z, 2, none⟩) := told_is _ (htold 3 (by decide)) rfl
                  have t4 : vs 4 = onv := told_is _ (htold 4 (by decide)) rfl
                  have t5 : vs 5 = P0 z := told_is _ (htold 5 (by decide)) rfl
                  have t6 : vs 6 = .int .i64 i := told_is _ (htold 6 (by decide)) rfl
                  have t7 : vs 7 = P0 z := told_is _ (htold 7 (by decide)) rfl
                  have t8 : vs 8 = .pointer (some ⟨z, 0, none⟩) := told_is _ (htold 8 (by decide)) rfl
                  have t9 : vs 9 = .pointer (some ⟨z, 0 + i, none⟩) := told_is _ (htold 9 (by decide)) rfl
                  have t10 : vs 10 = P0 (pt i) := told_is _ (htold 10 (by decide)) rfl
                  have t13 : vs 13 = P0 z := told_is _ (htold 13 (by decide)) rfl
                  have t14 : vs 14 = .pointer (some ⟨z, 2, none⟩) := told_is _ (htold 14 (by decide)) rfl
                  rw [show (List.range 16).map vs = [vs 0, vs 1, vs 2, vs 3, vs 4, vs 5, vs 6, vs 7, vs 8, vs 9, vs 10, vs 11, vs 12, vs 13, vs 14, vs 15] from rfl]
                  simp only [t0, t1, t2, t3, t4, t5, t6, t7, t8, t9, t10, t13, t14, putAll, Act.put, List.setIfInBounds_toArray, List.set_cons_succ, List.set_cons_zero]
                  clear t0 t1 t2 t3 t4 t5 t6 t7 t8 t9 t10 t13 t14 htold
                  obtain ⟨Lr, W1, h3, hR, hD, _, hz1⟩ := hJ.2.1 (hl 12 (by decide))
                  obtain ⟨hZ1, hK1⟩ := hz1 (hl 15 (by decide))
                  have hT := (unhide ZT).t.mut (i := i) hi2 hR
                  rw [upd_self, upd_self] at hT
                  have hT2 := hT.setOn (X := onv.ownBlock.toList) hZ1 hK1 (fun k9 hk9 _ => by
                    rw [Option.mem_toList] at hk9
                    have h5 := hT.on
                    exact ⟨(owns_ge h5.row k9 hk9), owns_block h5.row k9 hk9⟩) hD
                  have hLr : Lr.length ≤ 1001 := by
                    have h9 := congrArg List.length h3
                    rw [List.length_map] at h9
                    have := unhide HFL
                    omega
                  have ZT9 : Hid (Zt w w8 z vw pt sv sw (upd sp i (sp i).toldP) (vs 12) (D ++ Lr) st ou L M (k + 1)) := ⟨hT2, (unhide ZT).iv.told hi2, fun j hj => by
                    have h9 := (unhide ZT).n j hj
                    unfold upd
                    split
                    · next e => subst e; exact Nat.le_succ_of_le h9
                    · omega, fun pr hpr => by
                    rcases List.mem_append.1 hpr with hpr | hpr
                    · obtain ⟨j, hj, hw⟩ := (unhide ZT).d pr hpr
                      exact ⟨j, hj, hw.mono (gr_upd (gr_told _) j)⟩
                    · exact ⟨i, hi2, (tell_wd (unhide ZT).iv hi2 _ pr.1 (by have h9 : pr.1 ∈ Lr.map Prod.fst := List.mem_map_of_mem hpr; rw [h3] at h9; exact h9)).mono (gr_upd (gr_told _) i)⟩⟩
                  have HDL9 : Hid ((D ++ Lr).length ≤ (k + 1) * 1001) := hide (by rw [List.length_append]; have h8 := unhide HDL; omega)
                  clear hJ hl h3 hR hD hz1 hZ1 hK1 hT hT2 hLr
                  go_wp2_with fail
                  go_meet
                  case rel => exact ⟨_, _, _, _, _, _, _, _, _, ZT9, HDL9⟩
            have q2 : (x.kind == 2) = false := by simpa using hk2
            have r2 : decide (x.kind = 2) = false := by simpa using hk2
            by_cases hk3 : x.kind = 3
            · as_aux_lemma =>
                  have q3 : (x.kind == 3) = true := by simpa using hk3
                  have r3 : decide (x.kind = 3) = true := by simpa using hk3
                  have HS := hide ((unhide ZT).t.s i hi2)
                  have HZ := hide (unhide ZT).t.hd
                  have HON := hide (unhide ZT).t.on
                  have HWK := hide (unhide ZT).t.k
                  have HCI : Hid ((twC pt onv st ou)[0 + i]? = some (P0 (pt i))) := by rw [Nat.zero_add]; exact hide (twC_s hi2)
                  have HFL : Hid ((sp i).again.length ≤ 1001) := by
                    have h2 := (unhide HS).ok.many
                    unfold Ps.again
                    by_cases h3 : (sp i).known < (sp i).sent.length
                    · have h5 := tellL_len h3; exact (show ((sp i).tellL ((sp i).known)).length ≤ 1001 by omega)
                    · have h4 := tellL_len0 (P := sp i) (f := (sp i).known) (by omega); exact (show ((sp i).tellL ((sp i).known)).length ≤ 1001 by omega)
                  go_wp2_with fail
                  refine wp_region_any mixed (wpAny_gx 16 rfl (by kernel_rfl) [some (P0 z), some (P0 z), some (P0 z), some (.pointer (some ⟨z, 2, none⟩)), some (onv), some (P0 z), some (.int .i64 i), some (P0 z), some (.pointer (some ⟨z, 0, none⟩)), some (.pointer (some ⟨z, 0 + i, none⟩)), some (P0 (pt i)), none, none, some (P0 z), some (.pointer (some ⟨z, 2, none⟩)), none] rfl (by kernel_rfl) (fun l vs W => (S15 V4 w.heap.size (pt i) z (sv i) (sw i) (sp i).toldP (sp i).again onv D (fun u => twC pt u st ou)) (fun i => l.getD i false) vs W) (⟨fun _ => ⟨fun _ => ⟨rfl, rfl, rfl, Nat.le_refl _, fun _ _ _ => rfl⟩, (fun h => by cases h)⟩, (fun h => by cases h), fun h => by cases h⟩) ?_ ?_)
                  · intro ix o' hi ho a' w2 l vs hls hlf hJ hout hin hdep hnot
                    match ix, ho with
                    | 0, ho =>
                      obtain rfl := Option.some.inj ho
                      have e0 := hout 9 (by kernel_rfl)
                      replace e0 : a'.eval (.tmp 9) = _ := e0.trans rfl
                      exact wp_move (.tmp 9) rfl _ e0 ⟨_, rfl, told_of rfl, keepG (St := (S15 V4 w.heap.size (pt i) z (sv i) (sw i) (sp i).toldP (sp i).again onv D (fun u => twC pt u st ou))) [11, 12, 15] S15.loc (by omega) (by decide) hJ⟩
                    | 1, ho =>
                      obtain rfl := Option.some.inj ho
                      have e0 := hout 9 (by kernel_rfl)
                      replace e0 : a'.eval (.tmp 9) = _ := e0.trans rfl
                      exact wp_move (.tmp 9) rfl _ e0 ⟨_, rfl, told_of rfl, keepG (St := (S15 V4 w.heap.size (pt i) z (sv i) (sw i) (sp i).toldP (sp i).again onv D (fun u => twC pt u st ou))) [11, 12, 15] S15.loc (by omega) (by decide) hJ⟩
                    | 2, ho =>
                      obtain rfl := Option.some.inj ho
                      have e0 : a'.eval (.tmp 127) = P0 z := by have h9 := hin 1 127 (by kernel_rfl) (by kernel_rfl); exact h9.1.trans (told_is _ h9.2 rfl)
                      exact o_nil (.tmp 127) rfl _ e0 ⟨_, rfl, told_of rfl, keepG (St := (S15 V4 w.heap.size (pt i) z (sv i) (sw i) (sp i).toldP (sp i).again onv D (fun u => twC pt u st ou))) [11, 12, 15] S15.loc (by omega) (by decide) hJ⟩
                    | 3, ho =>
                      obtain rfl := Option.some.inj ho
                      have e0 : a'.eval (.tmp 128) = P0 z := by have h9 := hin 2 128 (by kernel_rfl) (by kernel_rfl); exact h9.1.trans (told_is _ h9.2 rfl)
                      exact o_fld54_1 (.tmp 128) rfl _ e0 ⟨_, rfl, told_of rfl, keepG (St := (S15 V4 w.heap.size (pt i) z (sv i) (sw i) (sp i).toldP (sp i).again onv D (fun u => twC pt u st ou))) [11, 12, 15] S15.loc (by omega) (by decide) hJ⟩
                    | 4, ho =>
                      obtain rfl := Option.some.inj ho
                      have e0 : a'.eval (.tmp 129) = .pointer (some ⟨z, 2, none⟩) := by have h9 := hin 3 129 (by kernel_rfl) (by kernel_rfl); exact h9.1.trans (told_is _ h9.2 rfl)
                      exact o_load40 (.tmp 129) rfl _ _ e0 (by
                        by_cases h11 : l.getD 11 false = true
                        · obtain ⟨Lr, _, _, hR⟩ := (hJ.1 (hnot 12 (by kernel_rfl))).2 h11
                          exact fits_cell (hR.blk (unhide HS) (unhide HZ) (by decide) (by decide)) 2 _ rfl
                        · exact ((hJ.1 (hnot 12 (by kernel_rfl))).1 (by simpa using h11)).cell (fits_cell (unhide HZ) 2 _ rfl) (by simp)) ⟨_, rfl, told_of rfl, keepG (St := (S15 V4 w.heap.size (pt i) z (sv i) (sw i) (sp i).toldP (sp i).again onv D (fun u => twC pt u st ou))) [11, 12, 15] S15.loc (by omega) (by decide) hJ⟩
                    | 5, ho =>
                      obtain rfl := Option.some.inj ho
                      have e0 := hout 9 (by kernel_rfl)
                      replace e0 : a'.eval (.tmp 9) = _ := e0.trans rfl
                      exact wp_move (.tmp 9) rfl _ e0 ⟨_, rfl, told_of rfl, keepG (St := (S15 V4 w.heap.size (pt i) z (sv i) (sw i) (sp i).toldP (sp i).again onv D (fun u => twC pt u st ou))) [11, 12, 15] S15.loc (by omega) (by decide) hJ⟩
                    | 6, ho =>
                      obtain rfl := Option.some.inj ho
                      have e0 := hout 12 (by kernel_rfl)
                      replace e0 : a'.eval (.tmp 12) = _ := e0.trans rfl
                      exact wp_move (.tmp 12) rfl _ e0 ⟨_, rfl, told_of rfl, keepG (St := (S15 V4 w.heap.size (pt i) z (sv i) (sw i) (sp i).toldP (sp i).again onv D (fun u => twC pt u st ou))) [11, 12, 15] S15.loc (by omega) (by decide) hJ⟩
                    | 7, ho =>
                      obtain rfl := Option.some.inj ho
                      have e0 : a'.eval (.tmp 131) = P0 z := by have h9 := hin 5 131 (by kernel_rfl) (by kernel_rfl); exact h9.1.trans (told_is _ h9.2 rfl)
                      exact o_nil (.tmp 131) rfl _ e0 ⟨_, rfl, told_of rfl, keepG (St := (S15 V4 w.heap.size (pt i) z (sv i) (sw i) (sp i).toldP (sp i).again onv D (fun u => twC pt u st ou))) [11, 12, 15] S15.loc (by omega) (by decide) hJ⟩
                    | 8, ho =>
                      obtain rfl := Option.some.inj ho
                      have e0 : a'.eval (.tmp 133) = P0 z := by have h9 := hin 7 133 (by kernel_rfl) (by kernel_rfl); exact h9.1.trans (told_is _ h9.2 rfl)
                      exact o_fld54_0 (.tmp 133) rfl _ e0 ⟨_, rfl, told_of rfl, keepG (St := (S15 V4 w.heap.size (pt i) z (sv i) (sw i) (sp i).toldP (sp i).again onv D (fun u => twC pt u st ou))) [11, 12, 15] S15.loc (by omega) (by decide) hJ⟩
                    | 9, ho =>
                      obtain rfl := Option.some.inj ho
                      have e0 : a'.eval (.tmp 134) = .pointer (some ⟨z, 0, none⟩) := by have h9 := hin 8 134 (by kernel_rfl) (by kernel_rfl); exact h9.1.trans (told_is _ h9.2 rfl)
                      have e1 : a'.eval (.tmp 132) = .int .i64 i := by have h9 := hin 6 132 (by kernel_rfl) (by kernel_rfl); exact h9.1.trans (told_is _ h9.2 rfl)
                      exact o_idx51 (.tmp 134) (.tmp 132) rfl z 0 i hi2 e0 e1 ⟨_, rfl, told_of rfl, keepG (St := (S15 V4 w.heap.size (pt i) z (sv i) (sw i) (sp i).toldP (sp i).again onv D (fun u => twC pt u st ou))) [11, 12, 15] S15.loc (by omega) (by decide) hJ⟩
                    | 10, ho =>
                      obtain rfl := Option.some.inj ho
                      have e0 : a'.eval (.tmp 135) = .pointer (some ⟨z, 0 + i, none⟩) := by have h9 := hin 9 135 (by kernel_rfl) (by kernel_rfl); exact h9.1.trans (told_is _ h9.2 rfl)
                      exact o_load23 (.tmp 135) rfl _ _ e0 (((hJ.1 (hnot 12 (by kernel_rfl))).1 (hnot 11 (by kernel_rfl))).cell (fits_cell (unhide HZ) (0 + i) _ (unhide HCI)) (by simp)) ⟨_, rfl, told_of rfl, keepG (St := (S15 V4 w.heap.size (pt i) z (sv i) (sw i) (sp i).toldP (sp i).again onv D (fun u => twC pt u st ou))) [11, 12, 15] S15.loc (by omega) (by decide) hJ⟩
                    | 11, ho =>
                      obtain rfl := Option.some.inj ho
                      have e0 : a'.eval (.tmp 136) = P0 (pt i) := by have h9 := hin 10 136 (by kernel_rfl) (by kernel_rfl); exact h9.1.trans (told_is _ h9.2 rfl)
                      have hk0 := (hJ.1 (hnot 12 (by kernel_rfl))).1 hlf
                      refine wp_callF 18 _ _ rfl #[P0 (pt i)] (by simp [e0]) (cf18 _ _) ((again18 (pt i) (sv i) (sw i) (sp i) w2 ((unhide HS).kept0 hk0)).mono ?_)
                      rintro e w3 hTR
                      obtain ⟨dv, Lr, rfl, h2, h3, h4⟩ := TR.after hk0 hTR
                      exact ⟨_, rfl, _, rfl, told_no rfl, nextG (St := (S15 V4 w.heap.size (pt i) z (sv i) (sw i) (sp i).toldP (sp i).again onv D (fun u => twC pt u st ou))) (by omega) ⟨fun _ => ⟨(fun h => by cases h), fun _ => ⟨Lr, h2, h3, h4⟩⟩, (fun h12 => by have h9 : l.getD 12 false = true := h12; rw [hnot 12 (by kernel_rfl)] at h9; cases h9), (fun h15 => by have h9 : l.getD 15 false = true := h15; rw [hnot 15 (by kernel_rfl)] at h9; cases h9)⟩⟩
                    | 12, ho =>
                      obtain rfl := Option.some.inj ho
                      have e0 : a'.eval (.tmp 130) = onv := by have h9 := hin 4 130 (by kernel_rfl) (by kernel_rfl); exact h9.1.trans (told_is _ h9.2 rfl)
                      have e1 : a'.eval (.tmp 137) = vs 11 := (hin 11 137 (by kernel_rfl) (by kernel_rfl)).1
                      obtain ⟨Lr, h2, h3, hR⟩ := (hJ.1 hlf).2 (hdep 11 (by kernel_rfl))
                      have hOn := hR.dl (unhide HS) (unhide HON)
                      have hZ2 := hR.blk (unhide HS) (unhide HZ) (by decide) (by decide)
                      obtain ⟨ao, cp, he, hlc, hnil, hsrc⟩ := h2.src
                      have hLr : Lr.length ≤ 1001 := by
                        have h9 := congrArg List.length h3
                        rw [List.length_map] at h9
                        have := unhide HFL
                        omega
                      have hDl := unhide HDL
                      have hsz := hR.kept.size
                      have hwk := (unhide HWK).size
                      refine o_appG (size := 6) (by8 := 64) Try.sl40 Try.info35 rfl (by decide) (.tmp 130) (.tmp 137) rfl w.heap.size onv D.length (cellsD D) (cellsD Lr) e0 hOn.row ao Lr.length cp (e1.trans he) hnil (by rw [cellsD_len]) (fun ad had j u hj => by obtain ⟨g, rfl, hg⟩ := hsrc ad had; rw [Addr.add_lit, Nat.zero_add]; exact hg j u hj) (cellsD_ones h2.bod) (by omega) (by omega) (by omega) fun v' w' g1 g2 _ => ?_
                      have hK : Kept onv.ownBlock.toList w2 w' := Kept.of_grown g2 (fun k e _ => by simp [e])
                      have hnz : z ∉ onv.ownBlock.toList := fun hm => by
                        obtain ⟨cs, hc⟩ := owns_block hOn.row z (by simpa using hm)
                        unfold Blk at hZ2
                        rw [hc] at hZ2
                        cases hZ2
                      exact ⟨_, rfl, told_no rfl, nextG (St := (S15 V4 w.heap.size (pt i) z (sv i) (sw i) (sp i).toldP (sp i).again onv D (fun u => twC pt u st ou))) (by omega) ⟨(fun h => by cases h), fun _ => ⟨Lr, w2, h3, hR, hOn.app g1 g2 h2.bod (fun p hp k e => by have := h2.new p hp k e; omega), (fun _ => ⟨hZ2.kept hK hnz, hK⟩), (fun h15 => by have h9 : l.getD 15 false = true := h15; rw [hnot 15 (by kernel_rfl)] at h9; cases h9)⟩, (fun h15 => by have h9 : l.getD 15 false = true := h15; rw [hnot 15 (by kernel_rfl)] at h9; cases h9)⟩⟩
                    | 13, ho =>
                      obtain rfl := Option.some.inj ho
                      have e0 : a'.eval (.tmp 126) = P0 z := by have h9 := hin 0 126 (by kernel_rfl) (by kernel_rfl); exact h9.1.trans (told_is _ h9.2 rfl)
                      exact o_nil (.tmp 126) rfl _ e0 ⟨_, rfl, told_of rfl, keepG (St := (S15 V4 w.heap.size (pt i) z (sv i) (sw i) (sp i).toldP (sp i).again onv D (fun u => twC pt u st ou))) [11, 12, 15] S15.loc (by omega) (by decide) hJ⟩
                    | 14, ho =>
                      obtain rfl := Option.some.inj ho
                      have e0 : a'.eval (.tmp 139) = P0 z := by have h9 := hin 13 139 (by kernel_rfl) (by kernel_rfl); exact h9.1.trans (told_is _ h9.2 rfl)
                      exact o_fld54_1 (.tmp 139) rfl _ e0 ⟨_, rfl, told_of rfl, keepG (St := (S15 V4 w.heap.size (pt i) z (sv i) (sw i) (sp i).toldP (sp i).again onv D (fun u => twC pt u st ou))) [11, 12, 15] S15.loc (by omega) (by decide) hJ⟩
                    | 15, ho =>
                      obtain rfl := Option.some.inj ho
                      have e0 : a'.eval (.tmp 140) = .pointer (some ⟨z, 2, none⟩) := by have h9 := hin 14 140 (by kernel_rfl) (by kernel_rfl); exact h9.1.trans (told_is _ h9.2 rfl)
                      have e1 : a'.eval (.tmp 138) = vs 12 := (hin 12 138 (by kernel_rfl) (by kernel_rfl)).1
                      obtain ⟨Lr, W1, h3, hR, hD, hz0, _⟩ := hJ.2.1 (hdep 12 (by kernel_rfl))
                      obtain ⟨hZ0, hK0⟩ := hz0 hlf
                      obtain ⟨ao9, c9, e9⟩ := owns_slN hD.row
                      refine o_st40 (.tmp 140) (.tmp 138) rfl rfl z 2 54 _ (vs 12) e0 e1 ⟨ao9, _, c9, e9⟩ hZ0 (by simp [twC]) fun W hBW hkW => ⟨_, rfl, told_no rfl, nextG (St := (S15 V4 w.heap.size (pt i) z (sv i) (sw i) (sp i).toldP (sp i).again onv D (fun u => twC pt u st ou))) (by omega) ⟨(fun h => by have h9 : l.getD 12 false = false := h; have h8 : l.getD 12 false = true := hdep 12 (by kernel_rfl); rw [h9] at h8; cases h8), (fun _ => ⟨Lr, W1, h3, hR, hD.kept hkW (fun k e hm => ?_) (fun p hp k e hm => ?_), (fun h => by cases h), fun _ => ⟨hBW, (hK0.mono (fun k hk => List.mem_cons_of_mem _ hk)).trans (hkW.mono (by simp))⟩⟩), fun _ => hdep 12 (by kernel_rfl)⟩⟩
                      · simp at hm; subst hm; obtain ⟨cs, hc⟩ := owns_block hD.row k e; unfold Blk at hZ0; rw [hZ0] at hc; injection hc with hc; injection hc with _ hc; exact absurd hc (by decide)
                      · simp at hm; subst hm; obtain ⟨cs, hc⟩ := (hD.bod p hp).block k e; unfold Blk at hZ0; rw [hZ0] at hc; injection hc with hc; injection hc with _ hc; exact absurd hc (by decide)
                  intro l vs w8 hl hJ htold
                  have t0 : vs 0 = P0 z := told_is _ (htold 0 (by decide)) rfl
                  have t1 : vs 1 = P0 z := told_is _ (htold 1 (by decide)) rfl
                  have t2 : vs 2 = P0 z := told_is _ (htold 2 (by decide)) rfl
                  have t3 : vs 3 = .pointer (some ⟨z, 2, none⟩) := told_is _ (htold 3 (by decide)) rfl
                  have t4 : vs 4 = onv := told_is _ (htold 4 (by decide)) rfl
                  have t5 : vs 5 = P0 z := told_is _ (htold 5 (by decide)) rfl
                  have t6 : vs 6 = .int .i64 i := told_is _ (htold 6 (by decide)) rfl
                  have t7 : vs 7 = P0 z := told_is _ (htold 7 (by decide)) rfl
                  have t8 : vs 8 = .pointer (some ⟨z, 0, none⟩) := told_is _ (htold 8 (by decide)) rfl
                  have t9 : vs 9 = .pointer (some ⟨z, 0 + i, none⟩) := told_is _ (htold 9 (by decide)) rfl
                  have t10 : vs 10 = P0 (pt i) := told_is _ (htold 10 (by decide)) rfl
                  have t13 : vs 13 = P0 z := told_is _ (htold 13 (by decide)) rfl
                  have t14 : vs 14 = .pointer (some ⟨z, 2, none⟩) := told_is _ (htold 14 (by decide)) rfl
                  rw [show (List.range 16).map vs = [vs 0, vs 1, vs 2, vs 3, vs 4, vs 5, vs 6, vs 7, vs 8, vs 9, vs 10, vs 11, vs 12, vs 13, vs 14, vs 15] from rfl]
                  simp only [t0, t1, t2, t3, t4, t5, t6, t7, t8, t9, t10, t13, t14, putAll, Act.put, List.setIfInBounds_toArray, List.set_cons_succ, List.set_cons_zero]
                  clear t0 t1 t2 t3 t4 t5 t6 t7 t8 t9 t10 t13 t14 htold
                  obtain ⟨Lr, W1, h3, hR, hD, _, hz1⟩ := hJ.2.1 (hl 12 (by decide))
                  obtain ⟨hZ1, hK1⟩ := hz1 (hl 15 (by decide))
                  have hT := (unhide ZT).t.mut (i := i) hi2 hR
                  rw [upd_self, upd_self] at hT
                  have hT2 := hT.setOn (X := onv.ownBlock.toList) hZ1 hK1 (fun k9 hk9 _ => by
                    rw [Option.mem_toList] at hk9
                    have h5 := hT.on
                    exact ⟨(owns_ge h5.row k9 hk9), owns_block h5.row k9 hk9⟩) hD
                  have hLr : Lr.length ≤ 1001 := by
                    have h9 := congrArg List.length h3
                    rw [List.length_map] at h9
                    have := unhide HFL
                    omega
                  have ZT9 : Hid (Zt w w8 z vw pt sv sw (upd sp i (sp i).toldP) (vs 12) (D ++ Lr) st ou L M (k + 1)) := ⟨hT2, (unhide ZT).iv.told hi2, fun j hj => by
                    have h9 := (unhide ZT).n j hj
                    unfold upd
                    split
                    · next e => subst e; exact Nat.le_succ_of_le h9
                    · omega, fun pr hpr => by
                    rcases List.mem_append.1 hpr with hpr | hpr
                    · obtain ⟨j, hj, hw⟩ := (unhide ZT).d pr hpr
                      exact ⟨j, hj, hw.mono (gr_upd (gr_told _) j)⟩
                    · exact ⟨i, hi2, (tell_wd (unhide ZT).iv hi2 _ pr.1 (by have h9 : pr.1 ∈ Lr.map Prod.fst := List.mem_map_of_mem hpr; rw [h3] at h9; exact h9)).mono (gr_upd (gr_told _) i)⟩⟩
                  have HDL9 : Hid ((D ++ Lr).length ≤ (k + 1) * 1001) := hide (by rw [List.length_append]; have h8 := unhide HDL; omega)
                  clear hJ hl h3 hR hD hz1 hZ1 hK1 hT hT2 hLr
                  go_wp2_with fail
                  go_meet
                  case rel => exact ⟨_, _, _, _, _, _, _, _, _, ZT9, HDL9⟩
            have q3 : (x.kind == 3) = false := by simpa using hk3
            have r3 : decide (x.kind = 3) = false := by simpa using hk3
            obtain ⟨so, sc, hso⟩ := owns_slN (unhide ZT).t.on.row
            obtain ⟨dn, hdn⟩ : ∃ dn, dn = D.length := ⟨_, rfl⟩
            rw [← hdn] at hso
            have HDN := hide hdn
            have HP0 := hide hp0
            have HP2 : Hid (V4.cell? ⟨p, 2, none⟩ = some (.int .i64 x.n)) := fits_cell (unhide HP) 2 _ rfl
            have HZ2 : Hid (V4.cell? ⟨z, 2, none⟩ = some (.slice so dn sc)) := by have h9 := fits_cell (unhide ZT).t.hd 2 _ rfl; rw [hso] at h9; exact h9
            subst hso
            clear hdn
            go_wp2_with fail
            clear hp0
            by_cases hc4 : 4 ≤ x.kind
            rotate_left
            · as_aux_lemma =>
                  refine wp_region_any mixed (wpAny_tq 24 rfl (by kernel_rfl) [some (.pointer (some ⟨p, 0, none⟩)), some (.int .i64 x.kind), some (.bool false), some (.bool false), none, none, none, some (.bool false), some (.bool false), none, none, none, some (.bool false), some (.bool false), none, none, none, none, none, none, none, none, some (.bool false), some (.bool false)] rfl (by kernel_rfl) (by kernel_rfl) ?_ ?_)
                  · intro i o' hi hsk ho a' w2 hout hin hk2
                    replace hk2 : Kept [] V4 w2 := ⟨hk2.os, hk2.tape, hk2.output, hk2.size, hk2.block⟩
                    match i, ho, hsk with
                    | 0, ho, hsk =>
                      obtain rfl := Option.some.inj ho
                      exact o_fld56_0 (.tmp 11) rfl p ((hout 11 (by kernel_rfl)).trans rfl) ⟨_, rfl, tq_is _ _ _ _ rfl, Kept.refl _ _, fun _ _ _ _ _ => trivial⟩
                    | 1, ho, hsk =>
                      obtain rfl := Option.some.inj ho
                      have e0 : a'.eval (.tmp 142) = .pointer (some ⟨p, 0, none⟩) := is_tq (hin 0 142 (by kernel_rfl) (by kernel_rfl)) rfl
                      exact o_load3 (.tmp 142) rfl _ _ e0 (hk2.cell (unhide HP0) (by simp)) ⟨_, rfl, tq_is _ _ _ _ rfl, Kept.refl _ _, fun _ _ _ _ _ => trivial⟩
                    | 2, ho, hsk =>
                      obtain rfl := Option.some.inj ho
                      have e0 : a'.eval (.tmp 143) = .int .i64 x.kind := is_tq (hin 1 143 (by kernel_rfl) (by kernel_rfl)) rfl
                      exact o_geqc (.tmp 143) 4 rfl _ _ (by simpa using hc4) e0 ⟨_, rfl, tq_is _ _ _ _ rfl, Kept.refl _ _, fun _ _ _ _ _ => trivial⟩
                    | 3, ho, hsk =>
                      obtain rfl := Option.some.inj ho
                      have e0 : a'.eval (.tmp 144) = .bool false := is_tq (hin 2 144 (by kernel_rfl) (by kernel_rfl)) rfl
                      exact wp_move (.tmp 144) rfl _ e0 ⟨_, rfl, tq_is _ _ _ _ rfl, Kept.refl _ _, fun _ _ _ _ _ => trivial⟩
                    | 4, ho, hsk =>
                      cases hsk
                    | 5, ho, hsk =>
                      cases hsk
                    | 6, ho, hsk =>
                      cases hsk
                    | 7, ho, hsk =>
                      obtain rfl := Option.some.inj ho
                      have e0 : a'.eval (.tmp 145) = .bool false := is_tq (hin 3 145 (by kernel_rfl) (by kernel_rfl)) rfl
                      exact o_pickN (.tmp 145) (.tmp 148) rfl e0 ⟨_, rfl, tq_is _ _ _ _ rfl, Kept.refl _ _, fun _ _ _ _ _ => trivial⟩
                    | 8, ho, hsk =>
                      obtain rfl := Option.some.inj ho
                      have e0 : a'.eval (.tmp 149) = .bool false := is_tq (hin 7 149 (by kernel_rfl) (by kernel_rfl)) rfl
                      exact wp_move (.tmp 149) rfl _ e0 ⟨_, rfl, tq_is _ _ _ _ rfl, Kept.refl _ _, fun _ _ _ _ _ => trivial⟩
                    | 9, ho, hsk =>
                      cases hsk
                    | 10, ho, hsk =>
                      cases hsk
                    | 11, ho, hsk =>
                      cases hsk
                    | 12, ho, hsk =>
                      obtain rfl := Option.some.inj ho
                      have e0 : a'.eval (.tmp 150) = .bool false := is_tq (hin 8 150 (by kernel_rfl) (by kernel_rfl)) rfl
                      exact o_pickN (.tmp 150) (.tmp 153) rfl e0 ⟨_, rfl, tq_is _ _ _ _ rfl, Kept.refl _ _, fun _ _ _ _ _ => trivial⟩
                    | 13, ho, hsk =>
                      obtain rfl := Option.some.inj ho
                      have e0 : a'.eval (.tmp 154) = .bool false := is_tq (hin 12 154 (by kernel_rfl) (by kernel_rfl)) rfl
                      exact wp_move (.tmp 154) rfl _ e0 ⟨_, rfl, tq_is _ _ _ _ rfl, Kept.refl _ _, fun _ _ _ _ _ => trivial⟩
                    | 14, ho, hsk =>
                      cases hsk
                    | 15, ho, hsk =>
                      cases hsk
                    | 16, ho, hsk =>
                      cases hsk
                    | 17, ho, hsk =>
                      cases hsk
                    | 18, ho, hsk =>
                      cases hsk
                    | 19, ho, hsk =>
                      cases hsk
                    | 20, ho, hsk =>
                      cases hsk
                    | 21, ho, hsk =>
                      cases hsk
                    | 22, ho, hsk =>
                      obtain rfl := Option.some.inj ho
                      have e0 : a'.eval (.tmp 155) = .bool false := is_tq (hin 13 155 (by kernel_rfl) (by kernel_rfl)) rfl
                      exact o_pickN (.tmp 155) (.tmp 163) rfl e0 ⟨_, rfl, tq_is _ _ _ _ rfl, Kept.refl _ _, fun _ _ _ _ _ => trivial⟩
                    | 23, ho, hsk =>
                      obtain rfl := Option.some.inj ho
                      have e0 : a'.eval (.tmp 164) = .bool false := is_tq (hin 22 164 (by kernel_rfl) (by kernel_rfl)) rfl
                      exact wp_assignV (.tmp 164) rfl _ e0 ⟨_, rfl, tq_is _ _ _ _ rfl, Kept.refl _ _, fun _ _ _ _ _ => trivial⟩
                  intro w9 hk9
                  replace hk9 : Kept [] V4 w9 := ⟨hk9.os, hk9.tape, hk9.output, hk9.size, hk9.block⟩
                  simp only [valsQ, List.map_cons, List.map_nil, Option.getD_some, Option.getD_none, List.take_succ_cons, List.take_zero, putAll, Act.put, List.setIfInBounds_toArray, List.set_cons_succ, List.set_cons_zero]
                  refine wpAny_done (by kernel_rfl) ?_ _
                  have ZT9 := hide (((unhide ZT).step hk9).mono (show k ≤ k + 1 by omega))
                  go_wp2_with fail
                  go_meet
                  case rel => exact ⟨_, _, _, _, _, _, _, _, _, ZT9, hide (by have := unhide HDL; omega)⟩
            by_cases hc6 : x.kind ≤ 6
            rotate_left
            · as_aux_lemma =>
                  refine wp_region_any mixed (wpAny_tq 24 rfl (by kernel_rfl) [some (.pointer (some ⟨p, 0, none⟩)), some (.int .i64 x.kind), some (.bool true), some (.bool true), some (.pointer (some ⟨p, 0, none⟩)), some (.int .i64 x.kind), some (.bool false), some (.bool false), some (.bool false), none, none, none, some (.bool false), some (.bool false), none, none, none, none, none, none, none, none, some (.bool false), some (.bool false)] rfl (by kernel_rfl) (by kernel_rfl) ?_ ?_)
                  · intro i o' hi hsk ho a' w2 hout hin hk2
                    replace hk2 : Kept [] V4 w2 := ⟨hk2.os, hk2.tape, hk2.output, hk2.size, hk2.block⟩
                    match i, ho, hsk with
                    | 0, ho, hsk =>
                      obtain rfl := Option.some.inj ho
                      exact o_fld56_0 (.tmp 11) rfl p ((hout 11 (by kernel_rfl)).trans rfl) ⟨_, rfl, tq_is _ _ _ _ rfl, Kept.refl _ _, fun _ _ _ _ _ => trivial⟩
                    | 1, ho, hsk =>
                      obtain rfl := Option.some.inj ho
                      have e0 : a'.eval (.tmp 142) = .pointer (some ⟨p, 0, none⟩) := is_tq (hin 0 142 (by kernel_rfl) (by kernel_rfl)) rfl
                      exact o_load3 (.tmp 142) rfl _ _ e0 (hk2.cell (unhide HP0) (by simp)) ⟨_, rfl, tq_is _ _ _ _ rfl, Kept.refl _ _, fun _ _ _ _ _ => trivial⟩
                    | 2, ho, hsk =>
                      obtain rfl := Option.some.inj ho
                      have e0 : a'.eval (.tmp 143) = .int .i64 x.kind := is_tq (hin 1 143 (by kernel_rfl) (by kernel_rfl)) rfl
                      exact o_geqc (.tmp 143) 4 rfl _ _ (by simpa using hc4) e0 ⟨_, rfl, tq_is _ _ _ _ rfl, Kept.refl _ _, fun _ _ _ _ _ => trivial⟩
                    | 3, ho, hsk =>
                      obtain rfl := Option.some.inj ho
                      have e0 : a'.eval (.tmp 144) = .bool true := is_tq (hin 2 144 (by kernel_rfl) (by kernel_rfl)) rfl
                      exact wp_move (.tmp 144) rfl _ e0 ⟨_, rfl, tq_is _ _ _ _ rfl, Kept.refl _ _, fun _ _ _ _ _ => trivial⟩
                    | 4, ho, hsk =>
                      obtain rfl := Option.some.inj ho
                      exact o_fld56_0 (.tmp 11) rfl p ((hout 11 (by kernel_rfl)).trans rfl) ⟨_, rfl, tq_is _ _ _ _ rfl, Kept.refl _ _, fun _ _ _ _ _ => trivial⟩
                    | 5, ho, hsk =>
                      obtain rfl := Option.some.inj ho
                      have e0 : a'.eval (.tmp 146) = .pointer (some ⟨p, 0, none⟩) := is_tq (hin 4 146 (by kernel_rfl) (by kernel_rfl)) rfl
                      exact o_load3 (.tmp 146) rfl _ _ e0 (hk2.cell (unhide HP0) (by simp)) ⟨_, rfl, tq_is _ _ _ _ rfl, Kept.refl _ _, fun _ _ _ _ _ => trivial⟩
                    | 6, ho, hsk =>
                      obtain rfl := Option.some.inj ho
                      have e0 : a'.eval (.tmp 147) = .int .i64 x.kind := is_tq (hin 5 147 (by kernel_rfl) (by kernel_rfl)) rfl
                      exact o_leqc (.tmp 147) 6 rfl _ _ (by simpa using hc6) e0 ⟨_, rfl, tq_is _ _ _ _ rfl, Kept.refl _ _, fun _ _ _ _ _ => trivial⟩
                    | 7, ho, hsk =>
                      obtain rfl := Option.some.inj ho
                      have e0 : a'.eval (.tmp 145) = .bool true := is_tq (hin 3 145 (by kernel_rfl) (by kernel_rfl)) rfl
                      have e1 : a'.eval (.tmp 148) = .bool false := is_tq (hin 6 148 (by kernel_rfl) (by kernel_rfl)) rfl
                      exact o_pick (.tmp 145) (.tmp 148) rfl _ e0 e1 ⟨_, rfl, tq_is _ _ _ _ rfl, Kept.refl _ _, fun _ _ _ _ _ => trivial⟩
                    | 8, ho, hsk =>
                      obtain rfl := Option.some.inj ho
                      have e0 : a'.eval (.tmp 149) = .bool false := is_tq (hin 7 149 (by kernel_rfl) (by kernel_rfl)) rfl
                      exact wp_move (.tmp 149) rfl _ e0 ⟨_, rfl, tq_is _ _ _ _ rfl, Kept.refl _ _, fun _ _ _ _ _ => trivial⟩
                    | 9, ho, hsk =>
                      cases hsk
                    | 10, ho, hsk =>
                      cases hsk
                    | 11, ho, hsk =>
                      cases hsk
                    | 12, ho, hsk =>
                      obtain rfl := Option.some.inj ho
                      have e0 : a'.eval (.tmp 150) = .bool false := is_tq (hin 8 150 (by kernel_rfl) (by kernel_rfl)) rfl
                      exact o_pickN (.tmp 150) (.tmp 153) rfl e0 ⟨_, rfl, tq_is _ _ _ _ rfl, Kept.refl _ _, fun _ _ _ _ _ => trivial⟩
                    | 13, ho, hsk =>
                      obtain rfl := Option.some.inj ho
                      have e0 : a'.eval (.tmp 154) = .bool false := is_tq (hin 12 154 (by kernel_rfl) (by kernel_rfl)) rfl
                      exact wp_move (.tmp 154) rfl _ e0 ⟨_, rfl, tq_is _ _ _ _ rfl, Kept.refl _ _, fun _ _ _ _ _ => trivial⟩
                    | 14, ho, hsk =>
                      cases hsk
                    | 15, ho, hsk =>
                      cases hsk
                    | 16, ho, hsk =>
                      cases hsk
                    | 17, ho, hsk =>
                      cases hsk
                    | 18, ho, hsk =>
                      cases hsk
                    | 19, ho, hsk =>
                      cases hsk
                    | 20, ho, hsk =>
                      cases hsk
                    | 21, ho, hsk =>
                      cases hsk
                    | 22, ho, hsk =>
                      obtain rfl := Option.some.inj ho
                      have e0 : a'.eval (.tmp 155) = .bool false := is_tq (hin 13 155 (by kernel_rfl) (by kernel_rfl)) rfl
                      exact o_pickN (.tmp 155) (.tmp 163) rfl e0 ⟨_, rfl, tq_is _ _ _ _ rfl, Kept.refl _ _, fun _ _ _ _ _ => trivial⟩
                    | 23, ho, hsk =>
                      obtain rfl := Option.some.inj ho
                      have e0 : a'.eval (.tmp 164) = .bool false := is_tq (hin 22 164 (by kernel_rfl) (by kernel_rfl)) rfl
                      exact wp_assignV (.tmp 164) rfl _ e0 ⟨_, rfl, tq_is _ _ _ _ rfl, Kept.refl _ _, fun _ _ _ _ _ => trivial⟩
                  intro w9 hk9
                  replace hk9 : Kept [] V4 w9 := ⟨hk9.os, hk9.tape, hk9.output, hk9.size, hk9.block⟩
                  simp only [valsQ, List.map_cons, List.map_nil, Option.getD_some, Option.getD_none, List.take_succ_cons, List.take_zero, putAll, Act.put, List.setIfInBounds_toArray, List.set_cons_succ, List.set_cons_zero]
                  refine wpAny_done (by kernel_rfl) ?_ _
                  have ZT9 := hide (((unhide ZT).step hk9).mono (show k ≤ k + 1 by omega))
                  go_wp2_with fail
                  go_meet
                  case rel => exact ⟨_, _, _, _, _, _, _, _, _, ZT9, hide (by have := unhide HDL; omega)⟩
            by_cases hcn : 0 ≤ x.n
            rotate_left
            · as_aux_lemma =>
                  refine wp_region_any mixed (wpAny_tq 24 rfl (by kernel_rfl) [some (.pointer (some ⟨p, 0, none⟩)), some (.int .i64 x.kind), some (.bool true), some (.bool true), some (.pointer (some ⟨p, 0, none⟩)), some (.int .i64 x.kind), some (.bool true), some (.bool true), some (.bool true), some (.pointer (some ⟨p, 2, none⟩)), some (.int .i64 x.n), some (.bool false), some (.bool false), some (.bool false), none, none, none, none, none, none, none, none, some (.bool false), some (.bool false)] rfl (by kernel_rfl) (by kernel_rfl) ?_ ?_)
                  · intro i o' hi hsk ho a' w2 hout hin hk2
                    replace hk2 : Kept [] V4 w2 := ⟨hk2.os, hk2.tape, hk2.output, hk2.size, hk2.block⟩
                    match i, ho, hsk with
                    | 0, ho, hsk =>
                      obtain rfl := Option.some.inj ho
                      exact o_fld56_0 (.tmp 11) rfl p ((hout 11 (by kernel_rfl)).trans rfl) ⟨_, rfl, tq_is _ _ _ _ rfl, Kept.refl _ _, fun _ _ _ _ _ => trivial⟩
                    | 1, ho, hsk =>
                      obtain rfl := Option.some.inj ho
                      have e0 : a'.eval (.tmp 142) = .pointer (some ⟨p, 0, none⟩) := is_tq (hin 0 142 (by kernel_rfl) (by kernel_rfl)) rfl
                      exact o_load3 (.tmp 142) rfl _ _ e0 (hk2.cell (unhide HP0) (by simp)) ⟨_, rfl, tq_is _ _ _ _ rfl, Kept.refl _ _, fun _ _ _ _ _ => trivial⟩
                    | 2, ho, hsk =>
                      obtain rfl := Option.some.inj ho
                      have e0 : a'.eval (.tmp 143) = .int .i64 x.kind := is_tq (hin 1 143 (by kernel_rfl) (by kernel_rfl)) rfl
                      exact o_geqc (.tmp 143) 4 rfl _ _ (by simpa using hc4) e0 ⟨_, rfl, tq_is _ _ _ _ rfl, Kept.refl _ _, fun _ _ _ _ _ => trivial⟩
                    | 3, ho, hsk =>
                      obtain rfl := Option.some.inj ho
                      have e0 : a'.eval (.tmp 144) = .bool true := is_tq (hin 2 144 (by kernel_rfl) (by kernel_rfl)) rfl
                      exact wp_move (.tmp 144) rfl _ e0 ⟨_, rfl, tq_is _ _ _ _ rfl, Kept.refl _ _, fun _ _ _ _ _ => trivial⟩
                    | 4, ho, hsk =>
                      obtain rfl := Option.some.inj ho
                      exact o_fld56_0 (.tmp 11) rfl p ((hout 11 (by kernel_rfl)).trans rfl) ⟨_, rfl, tq_is _ _ _ _ rfl, Kept.refl _ _, fun _ _ _ _ _ => trivial⟩
                    | 5, ho, hsk =>
                      obtain rfl := Option.some.inj ho
                      have e0 : a'.eval (.tmp 146) = .pointer (some ⟨p, 0, none⟩) := is_tq (hin 4 146 (by kernel_rfl) (by kernel_rfl)) rfl
                      exact o_load3 (.tmp 146) rfl _ _ e0 (hk2.cell (unhide HP0) (by simp)) ⟨_, rfl, tq_is _ _ _ _ rfl, Kept.refl _ _, fun _ _ _ _ _ => trivial⟩
                    | 6, ho, hsk =>
                      obtain rfl := Option.some.inj ho
                      have e0 : a'.eval (.tmp 147) = .int .i64 x.kind := is_tq (hin 5 147 (by kernel_rfl) (by kernel_rfl)) rfl
                      exact o_leqc (.tmp 147) 6 rfl _ _ (by simpa using hc6) e0 ⟨_, rfl, tq_is _ _ _ _ rfl, Kept.refl _ _, fun _ _ _ _ _ => trivial⟩
                    | 7, ho, hsk =>
                      obtain rfl := Option.some.inj ho
                      have e0 : a'.eval (.tmp 145) = .bool true := is_tq (hin 3 145 (by kernel_rfl) (by kernel_rfl)) rfl
                      have e1 : a'.eval (.tmp 148) = .bool true := is_tq (hin 6 148 (by kernel_rfl) (by kernel_rfl)) rfl
                      exact o_pick (.tmp 145) (.tmp 148) rfl _ e0 e1 ⟨_, rfl, tq_is _ _ _ _ rfl, Kept.refl _ _, fun _ _ _ _ _ => trivial⟩
                    | 8, ho, hsk =>
                      obtain rfl := Option.some.inj ho
                      have e0 : a'.eval (.tmp 149) = .bool true := is_tq (hin 7 149 (by kernel_rfl) (by kernel_rfl)) rfl
                      exact wp_move (.tmp 149) rfl _ e0 ⟨_, rfl, tq_is _ _ _ _ rfl, Kept.refl _ _, fun _ _ _ _ _ => trivial⟩
                    | 9, ho, hsk =>
                      obtain rfl := Option.some.inj ho
                      exact o_fld56_2 (.tmp 11) rfl p ((hout 11 (by kernel_rfl)).trans rfl) ⟨_, rfl, tq_is _ _ _ _ rfl, Kept.refl _ _, fun _ _ _ _ _ => trivial⟩
                    | 10, ho, hsk =>
                      obtain rfl := Option.some.inj ho
                      have e0 : a'.eval (.tmp 151) = .pointer (some ⟨p, 2, none⟩) := is_tq (hin 9 151 (by kernel_rfl) (by kernel_rfl)) rfl
                      exact o_load3 (.tmp 151) rfl _ _ e0 (hk2.cell (unhide HP2) (by simp)) ⟨_, rfl, tq_is _ _ _ _ rfl, Kept.refl _ _, fun _ _ _ _ _ => trivial⟩
                    | 11, ho, hsk =>
                      obtain rfl := Option.some.inj ho
                      have e0 : a'.eval (.tmp 152) = .int .i64 x.n := is_tq (hin 10 152 (by kernel_rfl) (by kernel_rfl)) rfl
                      exact o_geqc (.tmp 152) 0 rfl _ _ (by simpa using hcn) e0 ⟨_, rfl, tq_is _ _ _ _ rfl, Kept.refl _ _, fun _ _ _ _ _ => trivial⟩
                    | 12, ho, hsk =>
                      obtain rfl := Option.some.inj ho
                      have e0 : a'.eval (.tmp 150) = .bool true := is_tq (hin 8 150 (by kernel_rfl) (by kernel_rfl)) rfl
                      have e1 : a'.eval (.tmp 153) = .bool false := is_tq (hin 11 153 (by kernel_rfl) (by kernel_rfl)) rfl
                      exact o_pick (.tmp 150) (.tmp 153) rfl _ e0 e1 ⟨_, rfl, tq_is _ _ _ _ rfl, Kept.refl _ _, fun _ _ _ _ _ => trivial⟩
                    | 13, ho, hsk =>
                      obtain rfl := Option.some.inj ho
                      have e0 : a'.eval (.tmp 154) = .bool false := is_tq (hin 12 154 (by kernel_rfl) (by kernel_rfl)) rfl
                      exact wp_move (.tmp 154) rfl _ e0 ⟨_, rfl, tq_is _ _ _ _ rfl, Kept.refl _ _, fun _ _ _ _ _ => trivial⟩
                    | 14, ho, hsk =>
                      cases hsk
                    | 15, ho, hsk =>
                      cases hsk
                    | 16, ho, hsk =>
                      cases hsk
                    | 17, ho, hsk =>
                      cases hsk
                    | 18, ho, hsk =>
                      cases hsk
                    | 19, ho, hsk =>
                      cases hsk
                    | 20, ho, hsk =>
                      cases hsk
                    | 21, ho, hsk =>
                      cases hsk
                    | 22, ho, hsk =>
                      obtain rfl := Option.some.inj ho
                      have e0 : a'.eval (.tmp 155) = .bool false := is_tq (hin 13 155 (by kernel_rfl) (by kernel_rfl)) rfl
                      exact o_pickN (.tmp 155) (.tmp 163) rfl e0 ⟨_, rfl, tq_is _ _ _ _ rfl, Kept.refl _ _, fun _ _ _ _ _ => trivial⟩
                    | 23, ho, hsk =>
                      obtain rfl := Option.some.inj ho
                      have e0 : a'.eval (.tmp 164) = .bool false := is_tq (hin 22 164 (by kernel_rfl) (by kernel_rfl)) rfl
                      exact wp_assignV (.tmp 164) rfl _ e0 ⟨_, rfl, tq_is _ _ _ _ rfl, Kept.refl _ _, fun _ _ _ _ _ => trivial⟩
                  intro w9 hk9
                  replace hk9 : Kept [] V4 w9 := ⟨hk9.os, hk9.tape, hk9.output, hk9.size, hk9.block⟩
                  simp only [valsQ, List.map_cons, List.map_nil, Option.getD_some, Option.getD_none, List.take_succ_cons, List.take_zero, putAll, Act.put, List.setIfInBounds_toArray, List.set_cons_succ, List.set_cons_zero]
                  refine wpAny_done (by kernel_rfl) ?_ _
                  have ZT9 := hide (((unhide ZT).step hk9).mono (show k ≤ k + 1 by omega))
                  go_wp2_with fail
                  go_meet
                  case rel => exact ⟨_, _, _, _, _, _, _, _, _, ZT9, hide (by have := unhide HDL; omega)⟩
            by_cases hcl : x.n < (dn : Int)
            rotate_left
            · as_aux_lemma =>
                  refine wp_region_any mixed (wpAny_tq 24 rfl (by kernel_rfl) [some (.pointer (some ⟨p, 0, none⟩)), some (.int .i64 x.kind), some (.bool true), some (.bool true), some (.pointer (some ⟨p, 0, none⟩)), some (.int .i64 x.kind), some (.bool true), some (.bool true), some (.bool true), some (.pointer (some ⟨p, 2, none⟩)), some (.int .i64 x.n), some (.bool true), some (.bool true), some (.bool true), some (.pointer (some ⟨p, 2, none⟩)), some (.int .i64 x.n), some (P0 z), some (P0 z), some (.pointer (some ⟨z, 2, none⟩)), some (.slice so dn sc), some (.int .i64 dn), some (.bool false), some (.bool false), some (.bool false)] rfl (by kernel_rfl) (by kernel_rfl) ?_ ?_)
                  · intro i o' hi hsk ho a' w2 hout hin hk2
                    replace hk2 : Kept [] V4 w2 := ⟨hk2.os, hk2.tape, hk2.output, hk2.size, hk2.block⟩
                    match i, ho, hsk with
                    | 0, ho, hsk =>
                      obtain rfl := Option.some.inj ho
                      exact o_fld56_0 (.tmp 11) rfl p ((hout 11 (by kernel_rfl)).trans rfl) ⟨_, rfl, tq_is _ _ _ _ rfl, Kept.refl _ _, fun _ _ _ _ _ => trivial⟩
                    | 1, ho, hsk =>
                      obtain rfl := Option.some.inj ho
                      have e0 : a'.eval (.tmp 142) = .pointer (some ⟨p, 0, none⟩) := is_tq (hin 0 142 (by kernel_rfl) (by kernel_rfl)) rfl
                      exact o_load3 (.tmp 142) rfl _ _ e0 (hk2.cell (unhide HP0) (by simp)) ⟨_, rfl, tq_is _ _ _ _ rfl, Kept.refl _ _, fun _ _ _ _ _ => trivial⟩
                    | 2, ho, hsk =>
                      obtain rfl := Option.some.inj ho
                      have e0 : a'.eval (.tmp 143) = .int .i64 x.kind := is_tq (hin 1 143 (by kernel_rfl) (by kernel_rfl)) rfl
                      exact o_geqc (.tmp 143) 4 rfl _ _ (by simpa using hc4) e0 ⟨_, rfl, tq_is _ _ _ _ rfl, Kept.refl _ _, fun _ _ _ _ _ => trivial⟩
                    | 3, ho, hsk =>
                      obtain rfl := Option.some.inj ho
                      have e0 : a'.eval (.tmp 144) = .bool true := is_tq (hin 2 144 (by kernel_rfl) (by kernel_rfl)) rfl
                      exact wp_move (.tmp 144) rfl _ e0 ⟨_, rfl, tq_is _ _ _ _ rfl, Kept.refl _ _, fun _ _ _ _ _ => trivial⟩
                    | 4, ho, hsk =>
                      obtain rfl := Option.some.inj ho
                      exact o_fld56_0 (.tmp 11) rfl p ((hout 11 (by kernel_rfl)).trans rfl) ⟨_, rfl, tq_is _ _ _ _ rfl, Kept.refl _ _, fun _ _ _ _ _ => trivial⟩
                    | 5, ho, hsk =>
                      obtain rfl := Option.some.inj ho
                      have e0 : a'.eval (.tmp 146) = .pointer (some ⟨p, 0, none⟩) := is_tq (hin 4 146 (by kernel_rfl) (by kernel_rfl)) rfl
                      exact o_load3 (.tmp 146) rfl _ _ e0 (hk2.cell (unhide HP0) (by simp)) ⟨_, rfl, tq_is _ _ _ _ rfl, Kept.refl _ _, fun _ _ _ _ _ => trivial⟩
                    | 6, ho, hsk =>
                      obtain rfl := Option.some.inj ho
                      have e0 : a'.eval (.tmp 147) = .int .i64 x.kind := is_tq (hin 5 147 (by kernel_rfl) (by kernel_rfl)) rfl
                      exact o_leqc (.tmp 147) 6 rfl _ _ (by simpa using hc6) e0 ⟨_, rfl, tq_is _ _ _ _ rfl, Kept.refl _ _, fun _ _ _ _ _ => trivial⟩
                    | 7, ho, hsk =>
                      obtain rfl := Option.some.inj ho
                      have e0 : a'.eval (.tmp 145) = .bool true := is_tq (hin 3 145 (by kernel_rfl) (by kernel_rfl)) rfl
                      have e1 : a'.eval (.tmp 148) = .bool true := is_tq (hin 6 148 (by kernel_rfl) (by kernel_rfl)) rfl
                      exact o_pick (.tmp 145) (.tmp 148) rfl _ e0 e1 ⟨_, rfl, tq_is _ _ _ _ rfl, Kept.refl _ _, fun _ _ _ _ _ => trivial⟩
                    | 8, ho, hsk =>
                      obtain rfl := Option.some.inj ho
                      have e0 : a'.eval (.tmp 149) = .bool true := is_tq (hin 7 149 (by kernel_rfl) (by kernel_rfl)) rfl
                      exact wp_move (.tmp 149) rfl _ e0 ⟨_, rfl, tq_is _ _ _ _ rfl, Kept.refl _ _, fun _ _ _ _ _ => trivial⟩
                    | 9, ho, hsk =>
                      obtain rfl := Option.some.inj ho
                      exact o_fld56_2 (.tmp 11) rfl p ((hout 11 (by kernel_rfl)).trans rfl) ⟨_, rfl, tq_is _ _ _ _ rfl, Kept.refl _ _, fun _ _ _ _ _ => trivial⟩
                    | 10, ho, hsk =>
                      obtain rfl := Option.some.inj ho
                      have e0 : a'.eval (.tmp 151) = .pointer (some ⟨p, 2, none⟩) := is_tq (hin 9 151 (by kernel_rfl) (by kernel_rfl)) rfl
                      exact o_load3 (.tmp 151) rfl _ _ e0 (hk2.cell (unhide HP2) (by simp)) ⟨_, rfl, tq_is _ _ _ _ rfl, Kept.refl _ _, fun _ _ _ _ _ => trivial⟩
                    | 11, ho, hsk =>
                      obtain rfl := Option.some.inj ho
                      have e0 : a'.eval (.tmp 152) = .int .i64 x.n := is_tq (hin 10 152 (by kernel_rfl) (by kernel_rfl)) rfl
                      exact o_geqc (.tmp 152) 0 rfl _ _ (by simpa using hcn) e0 ⟨_, rfl, tq_is _ _ _ _ rfl, Kept.refl _ _, fun _ _ _ _ _ => trivial⟩
                    | 12, ho, hsk =>
                      obtain rfl := Option.some.inj ho
                      have e0 : a'.eval (.tmp 150) = .bool true := is_tq (hin 8 150 (by kernel_rfl) (by kernel_rfl)) rfl
                      have e1 : a'.eval (.tmp 153) = .bool true := is_tq (hin 11 153 (by kernel_rfl) (by kernel_rfl)) rfl
                      exact o_pick (.tmp 150) (.tmp 153) rfl _ e0 e1 ⟨_, rfl, tq_is _ _ _ _ rfl, Kept.refl _ _, fun _ _ _ _ _ => trivial⟩
                    | 13, ho, hsk =>
                      obtain rfl := Option.some.inj ho
                      have e0 : a'.eval (.tmp 154) = .bool true := is_tq (hin 12 154 (by kernel_rfl) (by kernel_rfl)) rfl
                      exact wp_move (.tmp 154) rfl _ e0 ⟨_, rfl, tq_is _ _ _ _ rfl, Kept.refl _ _, fun _ _ _ _ _ => trivial⟩
                    | 14, ho, hsk =>
                      obtain rfl := Option.some.inj ho
                      exact o_fld56_2 (.tmp 11) rfl p ((hout 11 (by kernel_rfl)).trans rfl) ⟨_, rfl, tq_is _ _ _ _ rfl, Kept.refl _ _, fun _ _ _ _ _ => trivial⟩
                    | 15, ho, hsk =>
                      obtain rfl := Option.some.inj ho
                      have e0 : a'.eval (.tmp 156) = .pointer (some ⟨p, 2, none⟩) := is_tq (hin 14 156 (by kernel_rfl) (by kernel_rfl)) rfl
                      exact o_load3 (.tmp 156) rfl _ _ e0 (hk2.cell (unhide HP2) (by simp)) ⟨_, rfl, tq_is _ _ _ _ rfl, Kept.refl _ _, fun _ _ _ _ _ => trivial⟩
                    | 16, ho, hsk =>
                      obtain rfl := Option.some.inj ho
                      exact wp_move (.tmp 9) rfl _ ((hout 9 (by kernel_rfl)).trans rfl) ⟨_, rfl, tq_is _ _ _ _ rfl, Kept.refl _ _, fun _ _ _ _ _ => trivial⟩
                    | 17, ho, hsk =>
                      obtain rfl := Option.some.inj ho
                      have e0 : a'.eval (.tmp 158) = P0 z := is_tq (hin 16 158 (by kernel_rfl) (by kernel_rfl)) rfl
                      exact o_nil (.tmp 158) rfl _ e0 ⟨_, rfl, tq_is _ _ _ _ rfl, Kept.refl _ _, fun _ _ _ _ _ => trivial⟩
                    | 18, ho, hsk =>
                      obtain rfl := Option.some.inj ho
                      have e0 : a'.eval (.tmp 159) = P0 z := is_tq (hin 17 159 (by kernel_rfl) (by kernel_rfl)) rfl
                      exact o_fld54_1 (.tmp 159) rfl z e0 ⟨_, rfl, tq_is _ _ _ _ rfl, Kept.refl _ _, fun _ _ _ _ _ => trivial⟩
                    | 19, ho, hsk =>
                      obtain rfl := Option.some.inj ho
                      have e0 : a'.eval (.tmp 160) = .pointer (some ⟨z, 2, none⟩) := is_tq (hin 18 160 (by kernel_rfl) (by kernel_rfl)) rfl
                      exact o_load40 (.tmp 160) rfl _ _ e0 (hk2.cell (unhide HZ2) (by simp)) ⟨_, rfl, tq_is _ _ _ _ rfl, Kept.refl _ _, fun _ _ _ _ _ => trivial⟩
                    | 20, ho, hsk =>
                      obtain rfl := Option.some.inj ho
                      have e0 : a'.eval (.tmp 161) = .slice so dn sc := is_tq (hin 19 161 (by kernel_rfl) (by kernel_rfl)) rfl
                      exact o_len40 (.tmp 161) rfl so dn sc e0 ⟨_, rfl, tq_is _ _ _ _ rfl, Kept.refl _ _, fun _ _ _ _ _ => trivial⟩
                    | 21, ho, hsk =>
                      obtain rfl := Option.some.inj ho
                      have e0 : a'.eval (.tmp 157) = .int .i64 x.n := is_tq (hin 15 157 (by kernel_rfl) (by kernel_rfl)) rfl
                      have e1 : a'.eval (.tmp 162) = .int .i64 dn := is_tq (hin 20 162 (by kernel_rfl) (by kernel_rfl)) rfl
                      exact o_lss3 (.tmp 157) (.tmp 162) rfl _ _ _ (by simpa using hcl) e0 e1 ⟨_, rfl, tq_is _ _ _ _ rfl, Kept.refl _ _, fun _ _ _ _ _ => trivial⟩
                    | 22, ho, hsk =>
                      obtain rfl := Option.some.inj ho
                      have e0 : a'.eval (.tmp 155) = .bool true := is_tq (hin 13 155 (by kernel_rfl) (by kernel_rfl)) rfl
                      have e1 : a'.eval (.tmp 163) = .bool false := is_tq (hin 21 163 (by kernel_rfl) (by kernel_rfl)) rfl
                      exact o_pick (.tmp 155) (.tmp 163) rfl _ e0 e1 ⟨_, rfl, tq_is _ _ _ _ rfl, Kept.refl _ _, fun _ _ _ _ _ => trivial⟩
                    | 23, ho, hsk =>
                      obtain rfl := Option.some.inj ho
                      have e0 : a'.eval (.tmp 164) = .bool false := is_tq (hin 22 164 (by kernel_rfl) (by kernel_rfl)) rfl
                      exact wp_assignV (.tmp 164) rfl _ e0 ⟨_, rfl, tq_is _ _ _ _ rfl, Kept.refl _ _, fun _ _ _ _ _ => trivial⟩
                  intro w9 hk9
                  replace hk9 : Kept [] V4 w9 := ⟨hk9.os, hk9.tape, hk9.output, hk9.size, hk9.block⟩
                  simp only [valsQ, List.map_cons, List.map_nil, Option.getD_some, List.take_succ_cons, List.take_zero, putAll, Act.put, List.setIfInBounds_toArray, List.set_cons_succ, List.set_cons_zero]
                  refine wpAny_done (by kernel_rfl) ?_ _
                  have ZT9 := hide (((unhide ZT).step hk9).mono (show k ≤ k + 1 by omega))
                  go_wp2_with fail
                  go_meet
                  case rel => exact ⟨_, _, _, _, _, _, _, _, _, ZT9, hide (by have := unhide HDL; omega)⟩
            by_cases hk5 : x.kind = 5
            · as_aux_lemma =>
                  have u5 : (x.kind != 5) = false := by simpa using hk5
                  have u6 : (x.kind != 6) = true := by rw [hk5]; decide
                  have q5 : (x.kind == 5) = true := by simpa using hk5
                  have r5 : decide (x.kind = 5) = true := by simpa using hk5
                  have q6 : (x.kind == 6) = false := by rw [hk5]; decide
                  have r6 : decide (x.kind = 6) = false := by rw [hk5]; decide
                  clear hk5
                  refine wp_region_any mixed (wpAny_tq 24 rfl (by kernel_rfl) [some (.pointer (some ⟨p, 0, none⟩)), some (.int .i64 x.kind), some (.bool true), some (.bool true), some (.pointer (some ⟨p, 0, none⟩)), some (.int .i64 x.kind), some (.bool true), some (.bool true), some (.bool true), some (.pointer (some ⟨p, 2, none⟩)), some (.int .i64 x.n), some (.bool true), some (.bool true), some (.bool true), some (.pointer (some ⟨p, 2, none⟩)), some (.int .i64 x.n), some (P0 z), some (P0 z), some (.pointer (some ⟨z, 2, none⟩)), some (.slice so dn sc), some (.int .i64 dn), some (.bool true), some (.bool true), some (.bool true)] rfl (by kernel_rfl) (by kernel_rfl) ?_ ?_)
                  · intro i o' hi hsk ho a' w2 hout hin hk2
                    replace hk2 : Kept [] V4 w2 := ⟨hk2.os, hk2.tape, hk2.output, hk2.size, hk2.block⟩
                    match i, ho, hsk with
                    | 0, ho, hsk =>
                      obtain rfl := Option.some.inj ho
                      exact o_fld56_0 (.tmp 11) rfl p ((hout 11 (by kernel_rfl)).trans rfl) ⟨_, rfl, tq_is _ _ _ _ rfl, Kept.refl _ _, fun _ _ _ _ _ => trivial⟩
                    | 1, ho, hsk =>
                      obtain rfl := Option.some.inj ho
                      have e0 : a'.eval (.tmp 142) = .pointer (some ⟨p, 0, none⟩) := is_tq (hin 0 142 (by kernel_rfl) (by kernel_rfl)) rfl
                      exact o_load3 (.tmp 142) rfl _ _ e0 (hk2.cell (unhide HP0) (by simp)) ⟨_, rfl, tq_is _ _ _ _ rfl, Kept.refl _ _, fun _ _ _ _ _ => trivial⟩
                    | 2, ho, hsk =>
                      obtain rfl := Option.some.inj ho
                      have e0 : a'.eval (.tmp 143) = .int .i64 x.kind := is_tq (hin 1 143 (by kernel_rfl) (by kernel_rfl)) rfl
                      exact o_geqc (.tmp 143) 4 rfl _ _ (by simpa using hc4) e0 ⟨_, rfl, tq_is _ _ _ _ rfl, Kept.refl _ _, fun _ _ _ _ _ => trivial⟩
                    | 3, ho, hsk =>
                      obtain rfl := Option.some.inj ho
                      have e0 : a'.eval (.tmp 144) = .bool true := is_tq (hin 2 144 (by kernel_rfl) (by kernel_rfl)) rfl
                      exact wp_move (.tmp 144) rfl _ e0 ⟨_, rfl, tq_is _ _ _ _ rfl, Kept.refl _ _, fun _ _ _ _ _ => trivial⟩
                    | 4, ho, hsk =>
                      obtain rfl := Option.some.inj ho
                      exact o_fld56_0 (.tmp 11) rfl p ((hout 11 (by kernel_rfl)).trans rfl) ⟨_, rfl, tq_is _ _ _ _ rfl, Kept.refl _ _, fun _ _ _ _ _ => trivial⟩
                    | 5, ho, hsk =>
                      obtain rfl := Option.some.inj ho
                      have e0 : a'.eval (.tmp 146) = .pointer (some ⟨p, 0, none⟩) := is_tq (hin 4 146 (by kernel_rfl) (by kernel_rfl)) rfl
                      exact o_load3 (.tmp 146) rfl _ _ e0 (hk2.cell (unhide HP0) (by simp)) ⟨_, rfl, tq_is _ _ _ _ rfl, Kept.refl _ _, fun _ _ _ _ _ => trivial⟩
                    | 6, ho, hsk =>
                      obtain rfl := Option.some.inj ho
                      have e0 : a'.eval (.tmp 147) = .int .i64 x.kind := is_tq (hin 5 147 (by kernel_rfl) (by kernel_rfl)) rfl
                      exact o_leqc (.tmp 147) 6 rfl _ _ (by simpa using hc6) e0 ⟨_, rfl, tq_is _ _ _ _ rfl, Kept.refl _ _, fun _ _ _ _ _ => trivial⟩
                    | 7, ho, hsk =>
                      obtain rfl := Option.some.inj ho
                      have e0 : a'.eval (.tmp 145) = .bool true := is_tq (hin 3 145 (by kernel_rfl) (by kernel_rfl)) rfl
                      have e1 : a'.eval (.tmp 148) = .bool true := is_tq (hin 6 148 (by kernel_rfl) (by kernel_rfl)) rfl
                      exact o_pick (.tmp 145) (.tmp 148) rfl _ e0 e1 ⟨_, rfl, tq_is _ _ _ _ rfl, Kept.refl _ _, fun _ _ _ _ _ => trivial⟩
                    | 8, ho, hsk =>
                      obtain rfl := Option.some.inj ho
                      have e0 : a'.eval (.tmp 149) = .bool true := is_tq (hin 7 149 (by kernel_rfl) (by kernel_rfl)) rfl
                      exact wp_move (.tmp 149) rfl _ e0 ⟨_, rfl, tq_is _ _ _ _ rfl, Kept.refl _ _, fun _ _ _ _ _ => trivial⟩
                    | 9, ho, hsk =>
                      obtain rfl := Option.some.inj ho
                      exact o_fld56_2 (.tmp 11) rfl p ((hout 11 (by kernel_rfl)).trans rfl) ⟨_, rfl, tq_is _ _ _ _ rfl, Kept.refl _ _, fun _ _ _ _ _ => trivial⟩
                    | 10, ho, hsk =>
                      obtain rfl := Option.some.inj ho
                      have e0 : a'.eval (.tmp 151) = .pointer (some ⟨p, 2, none⟩) := is_tq (hin 9 151 (by kernel_rfl) (by kernel_rfl)) rfl
                      exact o_load3 (.tmp 151) rfl _ _ e0 (hk2.cell (unhide HP2) (by simp)) ⟨_, rfl, tq_is _ _ _ _ rfl, Kept.refl _ _, fun _ _ _ _ _ => trivial⟩
                    | 11, ho, hsk =>
                      obtain rfl := Option.some.inj ho
                      have e0 : a'.eval (.tmp 152) = .int .i64 x.n := is_tq (hin 10 152 (by kernel_rfl) (by kernel_rfl)) rfl
                      exact o_geqc (.tmp 152) 0 rfl _ _ (by simpa using hcn) e0 ⟨_, rfl, tq_is _ _ _ _ rfl, Kept.refl _ _, fun _ _ _ _ _ => trivial⟩
                    | 12, ho, hsk =>
                      obtain rfl := Option.some.inj ho
                      have e0 : a'.eval (.tmp 150) = .bool true := is_tq (hin 8 150 (by kernel_rfl) (by kernel_rfl)) rfl
                      have e1 : a'.eval (.tmp 153) = .bool true := is_tq (hin 11 153 (by kernel_rfl) (by kernel_rfl)) rfl
                      exact o_pick (.tmp 150) (.tmp 153) rfl _ e0 e1 ⟨_, rfl, tq_is _ _ _ _ rfl, Kept.refl _ _, fun _ _ _ _ _ => trivial⟩
                    | 13, ho, hsk =>
                      obtain rfl := Option.some.inj ho
                      have e0 : a'.eval (.tmp 154) = .bool true := is_tq (hin 12 154 (by kernel_rfl) (by kernel_rfl)) rfl
                      exact wp_move (.tmp 154) rfl _ e0 ⟨_, rfl, tq_is _ _ _ _ rfl, Kept.refl _ _, fun _ _ _ _ _ => trivial⟩
                    | 14, ho, hsk =>
                      obtain rfl := Option.some.inj ho
                      exact o_fld56_2 (.tmp 11) rfl p ((hout 11 (by kernel_rfl)).trans rfl) ⟨_, rfl, tq_is _ _ _ _ rfl, Kept.refl _ _, fun _ _ _ _ _ => trivial⟩
                    | 15, ho, hsk =>
                      obtain rfl := Option.some.inj ho
                      have e0 : a'.eval (.tmp 156) = .pointer (some ⟨p, 2, none⟩) := is_tq (hin 14 156 (by kernel_rfl) (by kernel_rfl)) rfl
                      exact o_load3 (.tmp 156) rfl _ _ e0 (hk2.cell (unhide HP2) (by simp)) ⟨_, rfl, tq_is _ _ _ _ rfl, Kept.refl _ _, fun _ _ _ _ _ => trivial⟩
                    | 16, ho, hsk =>
                      obtain rfl := Option.some.inj ho
                      exact wp_move (.tmp 9) rfl _ ((hout 9 (by kernel_rfl)).trans rfl) ⟨_, rfl, tq_is _ _ _ _ rfl, Kept.refl _ _, fun _ _ _ _ _ => trivial⟩
                    | 17, ho, hsk =>
                      obtain rfl := Option.some.inj ho
                      have e0 : a'.eval (.tmp 158) = P0 z := is_tq (hin 16 158 (by kernel_rfl) (by kernel_rfl)) rfl
                      exact o_nil (.tmp 158) rfl _ e0 ⟨_, rfl, tq_is _ _ _ _ rfl, Kept.refl _ _, fun _ _ _ _ _ => trivial⟩
                    | 18, ho, hsk =>
                      obtain rfl := Option.some.inj ho
                      have e0 : a'.eval (.tmp 159) = P0 z := is_tq (hin 17 159 (by kernel_rfl) (by kernel_rfl)) rfl
                      exact o_fld54_1 (.tmp 159) rfl z e0 ⟨_, rfl, tq_is _ _ _ _ rfl, Kept.refl _ _, fun _ _ _ _ _ => trivial⟩
                    | 19, ho, hsk =>
                      obtain rfl := Option.some.inj ho
                      have e0 : a'.eval (.tmp 160) = .pointer (some ⟨z, 2, none⟩) := is_tq (hin 18 160 (by kernel_rfl) (by kernel_rfl)) rfl
                      exact o_load40 (.tmp 160) rfl _ _ e0 (hk2.cell (unhide HZ2) (by simp)) ⟨_, rfl, tq_is _ _ _ _ rfl, Kept.refl _ _, fun _ _ _ _ _ => trivial⟩
                    | 20, ho, hsk =>
                      obtain rfl := Option.some.inj ho
                      have e0 : a'.eval (.tmp 161) = .slice so dn sc := is_tq (hin 19 161 (by kernel_rfl) (by kernel_rfl)) rfl
                      exact o_len40 (.tmp 161) rfl so dn sc e0 ⟨_, rfl, tq_is _ _ _ _ rfl, Kept.refl _ _, fun _ _ _ _ _ => trivial⟩
                    | 21, ho, hsk =>
                      obtain rfl := Option.some.inj ho
                      have e0 : a'.eval (.tmp 157) = .int .i64 x.n := is_tq (hin 15 157 (by kernel_rfl) (by kernel_rfl)) rfl
                      have e1 : a'.eval (.tmp 162) = .int .i64 dn := is_tq (hin 20 162 (by kernel_rfl) (by kernel_rfl)) rfl
                      exact o_lss3 (.tmp 157) (.tmp 162) rfl _ _ _ (by simpa using hcl) e0 e1 ⟨_, rfl, tq_is _ _ _ _ rfl, Kept.refl _ _, fun _ _ _ _ _ => trivial⟩
                    | 22, ho, hsk =>
                      obtain rfl := Option.some.inj ho
                      have e0 : a'.eval (.tmp 155) = .bool true := is_tq (hin 13 155 (by kernel_rfl) (by kernel_rfl)) rfl
                      have e1 : a'.eval (.tmp 163) = .bool true := is_tq (hin 21 163 (by kernel_rfl) (by kernel_rfl)) rfl
                      exact o_pick (.tmp 155) (.tmp 163) rfl _ e0 e1 ⟨_, rfl, tq_is _ _ _ _ rfl, Kept.refl _ _, fun _ _ _ _ _ => trivial⟩
                    | 23, ho, hsk =>
                      obtain rfl := Option.some.inj ho
                      have e0 : a'.eval (.tmp 164) = .bool true := is_tq (hin 22 164 (by kernel_rfl) (by kernel_rfl)) rfl
                      exact wp_assignV (.tmp 164) rfl _ e0 ⟨_, rfl, tq_is _ _ _ _ rfl, Kept.refl _ _, fun _ _ _ _ _ => trivial⟩
                  intro w9 hk9
                  replace hk9 : Kept [] V4 w9 := ⟨hk9.os, hk9.tape, hk9.output, hk9.size, hk9.block⟩
                  simp only [valsQ, List.map_cons, List.map_nil, Option.getD_some, List.take_succ_cons, List.take_zero, putAll, Act.put, List.setIfInBounds_toArray, List.set_cons_succ, List.set_cons_zero]
                  refine wpAny_done (by kernel_rfl) ?_ _
                  obtain ⟨nN, hnN⟩ : ∃ nN : Nat, x.n = (nN : Int) := ⟨x.n.toNat, by omega⟩
                  have HNL : Hid (nN < dn) := hide (by omega)
                  obtain ⟨pr, hpr⟩ : ∃ pr, D[nN]? = some pr := ⟨_, List.getElem?_eq_getElem (by have h8 := unhide HNL; have h9 := unhide HDN; omega)⟩
                  replace ZT := hide ((unhide ZT).step hk9)
                  replace HP := hide ((unhide HP).kept hk9 (by simp))
                  replace HP2 : Hid (w9.cell? ⟨p, 2, none⟩ = some (.int .i64 (nN : Int))) := by have h9 := fits_cell (unhide HP) 2 _ rfl; rw [← hnN]; exact h9
                  have HON := hide (unhide ZT).t.on
                  have hon2 := unhide HON
                  obtain ⟨dg, hdg, hrg⟩ := Dl.at (unhide HON) hpr
                  cases hdg
                  have HRG := hide hrg
                  have HPB := hide ((unhide HON).bod pr (List.mem_of_getElem? hpr))
                  have HZ2 : Hid (w9.cell? ⟨z, 2, none⟩ = some (.slice (some ⟨dg, 0, none⟩) dn sc)) := fits_cell (unhide ZT).t.hd 2 _ rfl
                  have hdc : dn ≤ sc := by
                    obtain ⟨ao, cp, he, hlc, _, _⟩ := (unhide HON).src
                    rw [← unhide HDN] at he hlc
                    cases he
                    exact hlc
                  have HDC := hide hdc
                  have HNC : Hid (nN ≤ sc) := hide (by have h9 := unhide HNL; omega)
                  have HWD := hide ((unhide ZT).d pr (List.mem_of_getElem? hpr))
                  clear hk9 HP0 hrg hpr hdc hcl hcn hc4 hc6 hnN hon2
                  go_wp2_with fail
                  refine wp_region_any mixed (wpAny_gx 10 rfl (by kernel_rfl) [some (P0 z), some (P0 z), some (.pointer (some ⟨z, 2, none⟩)), some (.slice (some ⟨dg, 0, none⟩) dn sc), some (.pointer (some ⟨p, 2, none⟩)), some (.int .i64 (nN : Int)), some (.pointer (some ⟨dg, nN * 6, none⟩)), some (aggV (pr.1.C pr.2)), none, none] rfl (by kernel_rfl) (fun l vs W => (SV9 w9 (pr.1.C pr.2) zD 35) (fun i => l.getD i false) vs W) (⟨⟨rfl, rfl, rfl, Nat.le_refl _, fun _ _ _ => rfl⟩, fun h => by cases h⟩) ?_ ?_)
                  · intro ix o' hi ho a' w2 l vs hls hlf hJ hout hin hdep hnot
                    match ix, ho with
                    | 0, ho =>
                      obtain rfl := Option.some.inj ho
                      have e0 := hout 9 (by kernel_rfl)
                      replace e0 : a'.eval (.tmp 9) = _ := e0.trans rfl
                      exact wp_move (.tmp 9) rfl _ e0 ⟨_, rfl, told_of rfl, keepG (St := (SV9 w9 (pr.1.C pr.2) zD 35)) [8, 9] SV9.loc (by omega) (by decide) hJ⟩
                    | 1, ho =>
                      obtain rfl := Option.some.inj ho
                      have e0 : a'.eval (.tmp 165) = P0 z := by have h9 := hin 0 165 (by kernel_rfl) (by kernel_rfl); exact h9.1.trans (told_is _ h9.2 rfl)
                      exact o_nil (.tmp 165) rfl _ e0 ⟨_, rfl, told_of rfl, keepG (St := (SV9 w9 (pr.1.C pr.2) zD 35)) [8, 9] SV9.loc (by omega) (by decide) hJ⟩
                    | 2, ho =>
                      obtain rfl := Option.some.inj ho
                      have e0 : a'.eval (.tmp 166) = P0 z := by have h9 := hin 1 166 (by kernel_rfl) (by kernel_rfl); exact h9.1.trans (told_is _ h9.2 rfl)
                      exact o_fld54_1 (.tmp 166) rfl _ e0 ⟨_, rfl, told_of rfl, keepG (St := (SV9 w9 (pr.1.C pr.2) zD 35)) [8, 9] SV9.loc (by omega) (by decide) hJ⟩
                    | 3, ho =>
                      obtain rfl := Option.some.inj ho
                      have e0 : a'.eval (.tmp 167) = .pointer (some ⟨z, 2, none⟩) := by have h9 := hin 2 167 (by kernel_rfl) (by kernel_rfl); exact h9.1.trans (told_is _ h9.2 rfl)
                      exact o_load40 (.tmp 167) rfl _ _ e0 (hJ.1.cell (unhide HZ2) (by simp)) ⟨_, rfl, told_of rfl, keepG (St := (SV9 w9 (pr.1.C pr.2) zD 35)) [8, 9] SV9.loc (by omega) (by decide) hJ⟩
                    | 4, ho =>
                      obtain rfl := Option.some.inj ho
                      have e0 := hout 11 (by kernel_rfl)
                      replace e0 : a'.eval (.tmp 11) = _ := e0.trans rfl
                      exact o_fld56_2 (.tmp 11) rfl _ e0 ⟨_, rfl, told_of rfl, keepG (St := (SV9 w9 (pr.1.C pr.2) zD 35)) [8, 9] SV9.loc (by omega) (by decide) hJ⟩
                    | 5, ho =>
                      obtain rfl := Option.some.inj ho
                      have e0 : a'.eval (.tmp 169) = .pointer (some ⟨p, 2, none⟩) := by have h9 := hin 4 169 (by kernel_rfl) (by kernel_rfl); exact h9.1.trans (told_is _ h9.2 rfl)
                      exact o_load3 (.tmp 169) rfl _ _ e0 (hJ.1.cell (unhide HP2) (by simp)) ⟨_, rfl, told_of rfl, keepG (St := (SV9 w9 (pr.1.C pr.2) zD 35)) [8, 9] SV9.loc (by omega) (by decide) hJ⟩
                    | 6, ho =>
                      obtain rfl := Option.some.inj ho
                      have e0 : a'.eval (.tmp 168) = .slice (some ⟨dg, 0, none⟩) dn sc := by have h9 := hin 3 168 (by kernel_rfl) (by kernel_rfl); exact h9.1.trans (told_is _ h9.2 rfl)
                      have e1 : a'.eval (.tmp 170) = .int .i64 (nN : Int) := by have h9 := hin 5 170 (by kernel_rfl) (by kernel_rfl); exact h9.1.trans (told_is _ h9.2 rfl)
                      exact o_idx40 (.tmp 168) (.tmp 170) rfl dg dn sc nN (unhide HNL) e0 e1 ⟨_, rfl, told_of rfl, keepG (St := (SV9 w9 (pr.1.C pr.2) zD 35)) [8, 9] SV9.loc (by omega) (by decide) hJ⟩
                    | 7, ho =>
                      obtain rfl := Option.some.inj ho
                      have e0 : a'.eval (.tmp 171) = .pointer (some ⟨dg, nN * 6, none⟩) := by have h9 := hin 6 171 (by kernel_rfl) (by kernel_rfl); exact h9.1.trans (told_is _ h9.2 rfl)
                      exact wp_loadA row35 (.tmp 171) rfl dg (nN * 6) e0 (pr.1.C pr.2) rfl (fun j u hj => hJ.1.cell (unhide HRG j u hj) (by simp)) ⟨_, rfl, told_of rfl, keepG (St := (SV9 w9 (pr.1.C pr.2) zD 35)) [8, 9] SV9.loc (by omega) (by decide) hJ⟩
                    | 8, ho =>
                      obtain rfl := Option.some.inj ho
                      exact wp_allocA zD alloc35 rfl ⟨_, rfl, told_no rfl, nextG (St := (SV9 w9 (pr.1.C pr.2) zD 35)) (by omega) ⟨hJ.1.alloc _, fun _ => ⟨w2.heap.size, rfl, hJ.1.size, fun _ => Blk.new w2 35 _, (fun h9 => by have h9 : l.getD 9 false = true := h9; rw [hnot 9 (by kernel_rfl)] at h9; cases h9)⟩⟩⟩
                    | 9, ho =>
                      obtain rfl := Option.some.inj ho
                      have e0 : a'.eval (.tmp 13) = vs 8 := (hin 8 13 (by kernel_rfl) (by kernel_rfl)).1
                      have e1 : a'.eval (.tmp 172) = aggV (pr.1.C pr.2) := by have h9 := hin 7 172 (by kernel_rfl) (by kernel_rfl); exact h9.1.trans (told_is _ h9.2 rfl)
                      obtain ⟨q, hq, hge, hz0, _⟩ := hJ.2 (hdep 8 (by kernel_rfl))
                      exact wp_storeN row35 (.tmp 13) (.tmp 172) rfl rfl q 0 _ (e0.trans hq) e1 rfl (DgC_one (unhide HPB).one) ((hz0 hlf).there (by decide)) ⟨undef, rfl, told_no rfl, nextG (St := (SV9 w9 (pr.1.C pr.2) zD 35)) (by omega) ⟨hJ.1.setCells _ _ (by omega), fun _ => ⟨q, hq, hge, (fun h => by cases h), fun _ => (hz0 hlf).put rfl⟩⟩⟩
                  intro l vs V6 hl hJ htold
                  have t0 : vs 0 = P0 z := told_is _ (htold 0 (by decide)) rfl
                  have t1 : vs 1 = P0 z := told_is _ (htold 1 (by decide)) rfl
                  have t2 : vs 2 = .pointer (some ⟨z, 2, none⟩) := told_is _ (htold 2 (by decide)) rfl
                  have t3 : vs 3 = .slice (some ⟨dg, 0, none⟩) dn sc := told_is _ (htold 3 (by decide)) rfl
                  have t4 : vs 4 = .pointer (some ⟨p, 2, none⟩) := told_is _ (htold 4 (by decide)) rfl
                  have t5 : vs 5 = .int .i64 (nN : Int) := told_is _ (htold 5 (by decide)) rfl
                  have t6 : vs 6 = .pointer (some ⟨dg, nN * 6, none⟩) := told_is _ (htold 6 (by decide)) rfl
                  have t7 : vs 7 = aggV (pr.1.C pr.2) := told_is _ (htold 7 (by decide)) rfl
                  rw [show (List.range 10).map vs = [vs 0, vs 1, vs 2, vs 3, vs 4, vs 5, vs 6, vs 7, vs 8, vs 9] from rfl]
                  simp only [t0, t1, t2, t3, t4, t5, t6, t7, putAll, Act.put, List.setIfInBounds_toArray, List.set_cons_succ, List.set_cons_zero]
                  clear t0 t1 t2 t3 t4 t5 t6 t7 htold
                  obtain ⟨q13, e13, hg13, _, hb13⟩ := hJ.2 (hl 9 (by decide) |> fun _ => hl 8 (by decide))
                  replace hb13 := hb13 (hl 9 (by decide))
                  rw [e13]
                  replace ZT := hide ((unhide ZT).step hJ.1)
                  replace HP := hide ((unhide HP).kept hJ.1 (by simp))
                  replace HP2 : Hid (V6.cell? ⟨p, 2, none⟩ = some (.int .i64 (nN : Int))) := hJ.1.cell (unhide HP2) (by simp)
                  replace HON := hide ((unhide HON).kept0 hJ.1)
                  replace HPB := hide ((unhide HPB).kept hJ.1 (by simp))
                  replace HZ2 : Hid (V6.cell? ⟨z, 2, none⟩ = some (.slice (some ⟨dg, 0, none⟩) dn sc)) := hJ.1.cell (unhide HZ2) (by simp)
                  have HB13 := hide hb13
                  have hp0 : V6.cell? ⟨p, 0, none⟩ = some (.int .i64 x.kind) := fits_cell (unhide HP) 0 _ rfl
                  have HZ := hide (unhide ZT).t.hd
                  have HWK := hide (unhide ZT).t.k
                  clear hJ hl e13 hg13 hb13 HRG
                  obtain ⟨jj, hjj, hwd⟩ := unhide HWD
                  have P25 := hide (zcomeX w _ z vw pt sv sw sp (.slice (some ⟨dg, 0, none⟩) dn sc) D st ou L M k (unhide ZT) (1 - jj) (by omega) pr.1 pr.2 (by rw [show 1 - (1 - jj) = jj by omega]; exact hwd) (unhide HPB) (by omega))
                  clear hwd
                  go_wp2_with (
                    first
                    | (refine wpLoadA row35 (by rfl) (.tmp 13) (by rfl) q13 0 (by kernel_rfl) (pr.1.C pr.2) rfl (unhide HB13).range ?_
                       refine Stp.go ?_))
                  constructor
                  go_wp2_with (
                    first
                    | (go_at_call 25
                       refine (unhide P25).mono ?_
                       rintro e V9 ⟨rfl, hkt, sv8, sw8, ou8, M8, hZ8⟩
                       have HZ8 := hide hZ8
                       clear hZ8 hkt P25
                       refine Stp.go ?_))
                  constructor
                  go_wp2_with fail
                  go_meet
                  case rel => exact ⟨_, _, _, _, _, _, _, _, _, hide ((unhide HZ8).mono (by omega)), hide (by have := unhide HDL; omega)⟩
            have u5 : (x.kind != 5) = true := by simpa using hk5
            have q5 : (x.kind == 5) = false := by simpa using hk5
            have r5 : decide (x.kind = 5) = false := by simpa using hk5
            by_cases hk6 : x.kind = 6
            · as_aux_lemma =>
                  have u6 : (x.kind != 6) = false := by simpa using hk6
                  have q6 : (x.kind == 6) = true := by simpa using hk6
                  have r6 : decide (x.kind = 6) = true := by simpa using hk6
                  clear hk6
                  refine wp_region_any mixed (wpAny_tq 24 rfl (by kernel_rfl) [some (.pointer (some ⟨p, 0, none⟩)), some (.int .i64 x.kind), some (.bool true), some (.bool true), some (.pointer (some ⟨p, 0, none⟩)), some (.int .i64 x.kind), some (.bool true), some (.bool true), some (.bool true), some (.pointer (some ⟨p, 2, none⟩)), some (.int .i64 x.n), some (.bool true), some (.bool true), some (.bool true), some (.pointer (some ⟨p, 2, none⟩)), some (.int .i64 x.n), some (P0 z), some (P0 z), some (.pointer (some ⟨z, 2, none⟩)), some (.slice so dn sc), some (.int .i64 dn), some (.bool true), some (.bool true), some (.bool true)] rfl (by kernel_rfl) (by kernel_rfl) ?_ ?_)
                  · intro i o' hi hsk ho a' w2 hout hin hk2
                    replace hk2 : Kept [] V4 w2 := ⟨hk2.os, hk2.tape, hk2.output, hk2.size, hk2.block⟩
                    match i, ho, hsk with
                    | 0, ho, hsk =>
                      obtain rfl := Option.some.inj ho
                      exact o_fld56_0 (.tmp 11) rfl p ((hout 11 (by kernel_rfl)).trans rfl) ⟨_, rfl, tq_is _ _ _ _ rfl, Kept.refl _ _, fun _ _ _ _ _ => trivial⟩
                    | 1, ho, hsk =>
                      obtain rfl := Option.some.inj ho
                      have e0 : a'.eval (.tmp 142) = .pointer (some ⟨p, 0, none⟩) := is_tq (hin 0 142 (by kernel_rfl) (by kernel_rfl)) rfl
                      exact o_load3 (.tmp 142) rfl _ _ e0 (hk2.cell (unhide HP0) (by simp)) ⟨_, rfl, tq_is _ _ _ _ rfl, Kept.refl _ _, fun _ _ _ _ _ => trivial⟩
                    | 2, ho, hsk =>
                      obtain rfl := Option.some.inj ho
                      have e0 : a'.eval (.tmp 143) = .int .i64 x.kind := is_tq (hin 1 143 (by kernel_rfl) (by kernel_rfl)) rfl
                      exact o_geqc (.tmp 143) 4 rfl _ _ (by simpa using hc4) e0 ⟨_, rfl, tq_is _ _ _ _ rfl, Kept.refl _ _, fun _ _ _ _ _ => trivial⟩
                    | 3, ho, hsk =>
                      obtain rfl := Option.some.inj ho
                      have e0 : a'.eval (.tmp 144) = .bool true := is_tq (hin 2 144 (by kernel_rfl) (by kernel_rfl)) rfl
                      exact wp_move (.tmp 144) rfl _ e0 ⟨_, rfl, tq_is _ _ _ _ rfl, Kept.refl _ _, fun _ _ _ _ _ => trivial⟩
                    | 4, ho, hsk =>
                      obtain rfl := Option.some.inj ho
                      exact o_fld56_0 (.tmp 11) rfl p ((hout 11 (by kernel_rfl)).trans rfl) ⟨_, rfl, tq_is _ _ _ _ rfl, Kept.refl _ _, fun _ _ _ _ _ => trivial⟩
                    | 5, ho, hsk =>
                      obtain rfl := Option.some.inj ho
                      have e0 : a'.eval (.tmp 146) = .pointer (some ⟨p, 0, none⟩) := is_tq (hin 4 146 (by kernel_rfl) (by kernel_rfl)) rfl
                      exact o_load3 (.tmp 146) rfl _ _ e0 (hk2.cell (unhide HP0) (by simp)) ⟨_, rfl, tq_is _ _ _ _ rfl, Kept.refl _ _, fun _ _ _ _ _ => trivial⟩
                    | 6, ho, hsk =>
                      obtain rfl := Option.some.inj ho
                      have e0 : a'.eval (.tmp 147) = .int .i64 x.kind := is_tq (hin 5 147 (by kernel_rfl) (by kernel_rfl)) rfl
                      exact o_leqc (.tmp 147) 6 rfl _ _ (by simpa using hc6) e0 ⟨_, rfl, tq_is _ _ _ _ rfl, Kept.refl _ _, fun _ _ _ _ _ => trivial⟩
                    | 7, ho, hsk =>
                      obtain rfl := Option.some.inj ho
                      have e0 : a'.eval (.tmp 145) = .bool true := is_tq (hin 3 145 (by kernel_rfl) (by kernel_rfl)) rfl
                      have e1 : a'.eval (.tmp 148) = .bool true := is_tq (hin 6 148 (by kernel_rfl) (by kernel_rfl)) rfl
                      exact o_pick (.tmp 145) (.tmp 148) rfl _ e0 e1 ⟨_, rfl, tq_is _ _ _ _ rfl, Kept.refl _ _, fun _ _ _ _ _ => trivial⟩
                    | 8, ho, hsk =>
                      obtain rfl := Option.some.inj ho
                      have e0 : a'.eval (.tmp 149) = .bool true := is_tq (hin 7 149 (by kernel_rfl) (by kernel_rfl)) rfl
                      exact wp_move (.tmp 149) rfl _ e0 ⟨_, rfl, tq_is _ _ _ _ rfl, Kept.refl _ _, fun _ _ _ _ _ => trivial⟩
                    | 9, ho, hsk =>
                      obtain rfl := Option.some.inj ho
                      exact o_fld56_2 (.tmp 11) rfl p ((hout 11 (by kernel_rfl)).trans rfl) ⟨_, rfl, tq_is _ _ _ _ rfl, Kept.refl _ _, fun _ _ _ _ _ => trivial⟩
                    | 10, ho, hsk =>
                      obtain rfl := Option.some.inj ho
                      have e0 : a'.eval (.tmp 151) = .pointer (some ⟨p, 2, none⟩) := is_tq (hin 9 151 (by kernel_rfl) (by kernel_rfl)) rfl
                      exact o_load3 (.tmp 151) rfl _ _ e0 (hk2.cell (unhide HP2) (by simp)) ⟨_, rfl, tq_is _ _ _ _ rfl, Kept.refl _ _, fun _ _ _ _ _ => trivial⟩
                    | 11, ho, hsk =>
                      obtain rfl := Option.some.inj ho
                      have e0 : a'.eval (.tmp 152) = .int .i64 x.n := is_tq (hin 10 152 (by kernel_rfl) (by kernel_rfl)) rfl
                      exact o_geqc (.tmp 152) 0 rfl _ _ (by simpa using hcn) e0 ⟨_, rfl, tq_is _ _ _ _ rfl, Kept.refl _ _, fun _ _ _ _ _ => trivial⟩
                    | 12, ho, hsk =>
                      obtain rfl := Option.some.inj ho
                      have e0 : a'.eval (.tmp 150) = .bool true := is_tq (hin 8 150 (by kernel_rfl) (by kernel_rfl)) rfl
                      have e1 : a'.eval (.tmp 153) = .bool true := is_tq (hin 11 153 (by kernel_rfl) (by kernel_rfl)) rfl
                      exact o_pick (.tmp 150) (.tmp 153) rfl _ e0 e1 ⟨_, rfl, tq_is _ _ _ _ rfl, Kept.refl _ _, fun _ _ _ _ _ => trivial⟩
                    | 13, ho, hsk =>
                      obtain rfl := Option.some.inj ho
                      have e0 : a'.eval (.tmp 154) = .bool true := is_tq (hin 12 154 (by kernel_rfl) (by kernel_rfl)) rfl
                      exact wp_move (.tmp 154) rfl _ e0 ⟨_, rfl, tq_is _ _ _ _ rfl, Kept.refl _ _, fun _ _ _ _ _ => trivial⟩
                    | 14, ho, hsk =>
                      obtain rfl := Option.some.inj ho
                      exact o_fld56_2 (.tmp 11) rfl p ((hout 11 (by kernel_rfl)).trans rfl) ⟨_, rfl, tq_is _ _ _ _ rfl, Kept.refl _ _, fun _ _ _ _ _ => trivial⟩
                    | 15, ho, hsk =>
                      obtain rfl := Option.some.inj ho
                      have e0 : a'.eval (.tmp 156) = .pointer (some ⟨p, 2, none⟩) := is_tq (hin 14 156 (by kernel_rfl) (by kernel_rfl)) rfl
                      exact o_load3 (.tmp 156) rfl _ _ e0 (hk2.cell (unhide HP2) (by simp)) ⟨_, rfl, tq_is _ _ _ _ rfl, Kept.refl _ _, fun _ _ _ _ _ => trivial⟩
                    | 16, ho, hsk =>
                      obtain rfl := Option.some.inj ho
                      exact wp_move (.tmp 9) rfl _ ((hout 9 (by kernel_rfl)).trans rfl) ⟨_, rfl, tq_is _ _ _ _ rfl, Kept.refl _ _, fun _ _ _ _ _ => trivial⟩
                    | 17, ho, hsk =>
                      obtain rfl := Option.some.inj ho
                      have e0 : a'.eval (.tmp 158) = P0 z := is_tq (hin 16 158 (by kernel_rfl) (by kernel_rfl)) rfl
                      exact o_nil (.tmp 158) rfl _ e0 ⟨_, rfl, tq_is _ _ _ _ rfl, Kept.refl _ _, fun _ _ _ _ _ => trivial⟩
                    | 18, ho, hsk =>
                      obtain rfl := Option.some.inj ho
                      have e0 : a'.eval (.tmp 159) = P0 z := is_tq (hin 17 159 (by kernel_rfl) (by kernel_rfl)) rfl
                      exact o_fld54_1 (.tmp 159) rfl z e0 ⟨_, rfl, tq_is _ _ _ _ rfl, Kept.refl _ _, fun _ _ _ _ _ => trivial⟩
                    | 19, ho, hsk =>
                      obtain rfl := Option.some.inj ho
                      have e0 : a'.eval (.tmp 160) = .pointer (some ⟨z, 2, none⟩) := is_tq (hin 18 160 (by kernel_rfl) (by kernel_rfl)) rfl
                      exact o_load40 (.tmp 160) rfl _ _ e0 (hk2.cell (unhide HZ2) (by simp)) ⟨_, rfl, tq_is _ _ _ _ rfl, Kept.refl _ _, fun _ _ _ _ _ => trivial⟩
                    | 20, ho, hsk =>
                      obtain rfl := Option.some.inj ho
                      have e0 : a'.eval (.tmp 161) = .slice so dn sc := is_tq (hin 19 161 (by kernel_rfl) (by kernel_rfl)) rfl
                      exact o_len40 (.tmp 161) rfl so dn sc e0 ⟨_, rfl, tq_is _ _ _ _ rfl, Kept.refl _ _, fun _ _ _ _ _ => trivial⟩
                    | 21, ho, hsk =>
                      obtain rfl := Option.some.inj ho
                      have e0 : a'.eval (.tmp 157) = .int .i64 x.n := is_tq (hin 15 157 (by kernel_rfl) (by kernel_rfl)) rfl
                      have e1 : a'.eval (.tmp 162) = .int .i64 dn := is_tq (hin 20 162 (by kernel_rfl) (by kernel_rfl)) rfl
                      exact o_lss3 (.tmp 157) (.tmp 162) rfl _ _ _ (by simpa using hcl) e0 e1 ⟨_, rfl, tq_is _ _ _ _ rfl, Kept.refl _ _, fun _ _ _ _ _ => trivial⟩
                    | 22, ho, hsk =>
                      obtain rfl := Option.some.inj ho
                      have e0 : a'.eval (.tmp 155) = .bool true := is_tq (hin 13 155 (by kernel_rfl) (by kernel_rfl)) rfl
                      have e1 : a'.eval (.tmp 163) = .bool true := is_tq (hin 21 163 (by kernel_rfl) (by kernel_rfl)) rfl
                      exact o_pick (.tmp 155) (.tmp 163) rfl _ e0 e1 ⟨_, rfl, tq_is _ _ _ _ rfl, Kept.refl _ _, fun _ _ _ _ _ => trivial⟩
                    | 23, ho, hsk =>
                      obtain rfl := Option.some.inj ho
                      have e0 : a'.eval (.tmp 164) = .bool true := is_tq (hin 22 164 (by kernel_rfl) (by kernel_rfl)) rfl
                      exact wp_assignV (.tmp 164) rfl _ e0 ⟨_, rfl, tq_is _ _ _ _ rfl, Kept.refl _ _, fun _ _ _ _ _ => trivial⟩
                  intro w9 hk9
                  replace hk9 : Kept [] V4 w9 := ⟨hk9.os, hk9.tape, hk9.output, hk9.size, hk9.block⟩
                  simp only [valsQ, List.map_cons, List.map_nil, Option.getD_some, List.take_succ_cons, List.take_zero, putAll, Act.put, List.setIfInBounds_toArray, List.set_cons_succ, List.set_cons_zero]
                  refine wpAny_done (by kernel_rfl) ?_ _
                  obtain ⟨nN, hnN⟩ : ∃ nN : Nat, x.n = (nN : Int) := ⟨x.n.toNat, by omega⟩
                  have HNL : Hid (nN < dn) := hide (by omega)
                  obtain ⟨pr, hpr⟩ : ∃ pr, D[nN]? = some pr := ⟨_, List.getElem?_eq_getElem (by have h8 := unhide HNL; have h9 := unhide HDN; omega)⟩
                  replace ZT := hide ((unhide ZT).step hk9)
                  replace HP := hide ((unhide HP).kept hk9 (by simp))
                  replace HP2 : Hid (w9.cell? ⟨p, 2, none⟩ = some (.int .i64 (nN : Int))) := by have h9 := fits_cell (unhide HP) 2 _ rfl; rw [← hnN]; exact h9
                  have HON := hide (unhide ZT).t.on
                  have hon2 := unhide HON
                  obtain ⟨dg, hdg, hrg⟩ := Dl.at (unhide HON) hpr
                  cases hdg
                  have HRG := hide hrg
                  have HPB := hide ((unhide HON).bod pr (List.mem_of_getElem? hpr))
                  have HZ2 : Hid (w9.cell? ⟨z, 2, none⟩ = some (.slice (some ⟨dg, 0, none⟩) dn sc)) := fits_cell (unhide ZT).t.hd 2 _ rfl
                  have hdc : dn ≤ sc := by
                    obtain ⟨ao, cp, he, hlc, _, _⟩ := (unhide HON).src
                    rw [← unhide HDN] at he hlc
                    cases he
                    exact hlc
                  have HDC := hide hdc
                  have HNC : Hid (nN ≤ sc) := hide (by have h9 := unhide HNL; omega)
                  have HWD := hide ((unhide ZT).d pr (List.mem_of_getElem? hpr))
                  clear hk9 HP0 hrg hpr hdc hcl hcn hc4 hc6 hnN hon2
                  go_wp2_with fail
                  refine wp_region_any mixed (wpAny_gx 10 rfl (by kernel_rfl) [some (P0 z), some (P0 z), some (.pointer (some ⟨z, 2, none⟩)), some (.slice (some ⟨dg, 0, none⟩) dn sc), some (.pointer (some ⟨p, 2, none⟩)), some (.int .i64 (nN : Int)), some (.pointer (some ⟨dg, nN * 6, none⟩)), some (aggV (pr.1.C pr.2)), none, none] rfl (by kernel_rfl) (fun l vs W => (SV9 w9 (pr.1.C pr.2) zD 35) (fun i => l.getD i false) vs W) (⟨⟨rfl, rfl, rfl, Nat.le_refl _, fun _ _ _ => rfl⟩, fun h => by cases h⟩) ?_ ?_)
                  · intro ix o' hi ho a' w2 l vs hls hlf hJ hout hin hdep hnot
                    match ix, ho with
                    | 0, ho =>
                      obtain rfl := Option.some.inj ho
                      have e0 := hout 9 (by kernel_rfl)
                      replace e0 : a'.eval (.tmp 9) = _ := e0.trans rfl
                      exact wp_move (.tmp 9) rfl _ e0 ⟨_, rfl, told_of rfl, keepG (St := (SV9 w9 (pr.1.C pr.2) zD 35)) [8, 9] SV9.loc (by omega) (by decide) hJ⟩
                    | 1, ho =>
                      obtain rfl := Option.some.inj ho
                      have e0 : a'.eval (.tmp 165) = P0 z := by have h9 := hin 0 165 (by kernel_rfl) (by kernel_rfl); exact h9.1.trans (told_is _ h9.2 rfl)
                      exact o_nil (.tmp 165) rfl _ e0 ⟨_, rfl, told_of rfl, keepG (St := (SV9 w9 (pr.1.C pr.2) zD 35)) [8, 9] SV9.loc (by omega) (by decide) hJ⟩
                    | 2, ho =>
                      obtain rfl := Option.some.inj ho
                      have e0 : a'.eval (.tmp 166) = P0 z := by have h9 := hin 1 166 (by kernel_rfl) (by kernel_rfl); exact h9.1.trans (told_is _ h9.2 rfl)
                      exact o_fld54_1 (.tmp 166) rfl _ e0 ⟨_, rfl, told_of rfl, keepG (St := (SV9 w9 (pr.1.C pr.2) zD 35)) [8, 9] SV9.loc (by omega) (by decide) hJ⟩
                    | 3, ho =>
                      obtain rfl := Option.some.inj ho
                      have e0 : a'.eval (.tmp 167) = .pointer (some ⟨z, 2, none⟩) := by have h9 := hin 2 167 (by kernel_rfl) (by kernel_rfl); exact h9.1.trans (told_is _ h9.2 rfl)
                      exact o_load40 (.tmp 167) rfl _ _ e0 (hJ.1.cell (unhide HZ2) (by simp)) ⟨_, rfl, told_of rfl, keepG (St := (SV9 w9 (pr.1.C pr.2) zD 35)) [8, 9] SV9.loc (by omega) (by decide) hJ⟩
                    | 4, ho =>
                      obtain rfl := Option.some.inj ho
                      have e0 := hout 11 (by kernel_rfl)
                      replace e0 : a'.eval (.tmp 11) = _ := e0.trans rfl
                      exact o_fld56_2 (.tmp 11) rfl _ e0 ⟨_, rfl, told_of rfl, keepG (St := (SV9 w9 (pr.1.C pr.2) zD 35)) [8, 9] SV9.loc (by omega) (by decide) hJ⟩
                    | 5, ho =>
                      obtain rfl := Option.some.inj ho
                      have e0 : a'.eval (.tmp 169) = .pointer (some ⟨p, 2, none⟩) := by have h9 := hin 4 169 (by kernel_rfl) (by kernel_rfl); exact h9.1.trans (told_is _ h9.2 rfl)
                      exact o_load3 (.tmp 169) rfl _ _ e0 (hJ.1.cell (unhide HP2) (by simp)) ⟨_, rfl, told_of rfl, keepG (St := (SV9 w9 (pr.1.C pr.2) zD 35)) [8, 9] SV9.loc (by omega) (by decide) hJ⟩
                    | 6, ho =>
                      obtain rfl := Option.some.inj ho
                      have e0 : a'.eval (.tmp 168) = .slice (some ⟨dg, 0, none⟩) dn sc := by have h9 := hin 3 168 (by kernel_rfl) (by kernel_rfl); exact h9.1.trans (told_is _ h9.2 rfl)
                      have e1 : a'.eval (.tmp 170) = .int .i64 (nN : Int) := by have h9 := hin 5 170 (by kernel_rfl) (by kernel_rfl); exact h9.1.trans (told_is _ h9.2 rfl)
                      exact o_idx40 (.tmp 168) (.tmp 170) rfl dg dn sc nN (unhide HNL) e0 e1 ⟨_, rfl, told_of rfl, keepG (St := (SV9 w9 (pr.1.C pr.2) zD 35)) [8, 9] SV9.loc (by omega) (by decide) hJ⟩
                    | 7, ho =>
                      obtain rfl := Option.some.inj ho
                      have e0 : a'.eval (.tmp 171) = .pointer (some ⟨dg, nN * 6, none⟩) := by have h9 := hin 6 171 (by kernel_rfl) (by kernel_rfl); exact h9.1.trans (told_is _ h9.2 rfl)
                      exact wp_loadA row35 (.tmp 171) rfl dg (nN * 6) e0 (pr.1.C pr.2) rfl (fun j u hj => hJ.1.cell (unhide HRG j u hj) (by simp)) ⟨_, rfl, told_of rfl, keepG (St := (SV9 w9 (pr.1.C pr.2) zD 35)) [8, 9] SV9.loc (by omega) (by decide) hJ⟩
                    | 8, ho =>
                      obtain rfl := Option.some.inj ho
                      exact wp_allocA zD alloc35 rfl ⟨_, rfl, told_no rfl, nextG (St := (SV9 w9 (pr.1.C pr.2) zD 35)) (by omega) ⟨hJ.1.alloc _, fun _ => ⟨w2.heap.size, rfl, hJ.1.size, fun _ => Blk.new w2 35 _, (fun h9 => by have h9 : l.getD 9 false = true := h9; rw [hnot 9 (by kernel_rfl)] at h9; cases h9)⟩⟩⟩
                    | 9, ho =>
                      obtain rfl := Option.some.inj ho
                      have e0 : a'.eval (.tmp 13) = vs 8 := (hin 8 13 (by kernel_rfl) (by kernel_rfl)).1
                      have e1 : a'.eval (.tmp 172) = aggV (pr.1.C pr.2) := by have h9 := hin 7 172 (by kernel_rfl) (by kernel_rfl); exact h9.1.trans (told_is _ h9.2 rfl)
                      obtain ⟨q, hq, hge, hz0, _⟩ := hJ.2 (hdep 8 (by kernel_rfl))
                      exact wp_storeN row35 (.tmp 13) (.tmp 172) rfl rfl q 0 _ (e0.trans hq) e1 rfl (DgC_one (unhide HPB).one) ((hz0 hlf).there (by decide)) ⟨undef, rfl, told_no rfl, nextG (St := (SV9 w9 (pr.1.C pr.2) zD 35)) (by omega) ⟨hJ.1.setCells _ _ (by omega), fun _ => ⟨q, hq, hge, (fun h => by cases h), fun _ => (hz0 hlf).put rfl⟩⟩⟩
                  intro l vs V6 hl hJ htold
                  have t0 : vs 0 = P0 z := told_is _ (htold 0 (by decide)) rfl
                  have t1 : vs 1 = P0 z := told_is _ (htold 1 (by decide)) rfl
                  have t2 : vs 2 = .pointer (some ⟨z, 2, none⟩) := told_is _ (htold 2 (by decide)) rfl
                  have t3 : vs 3 = .slice (some ⟨dg, 0, none⟩) dn sc := told_is _ (htold 3 (by decide)) rfl
                  have t4 : vs 4 = .pointer (some ⟨p, 2, none⟩) := told_is _ (htold 4 (by decide)) rfl
                  have t5 : vs 5 = .int .i64 (nN : Int) := told_is _ (htold 5 (by decide)) rfl
                  have t6 : vs 6 = .pointer (some ⟨dg, nN * 6, none⟩) := told_is _ (htold 6 (by decide)) rfl
                  have t7 : vs 7 = aggV (pr.1.C pr.2) := told_is _ (htold 7 (by decide)) rfl
                  rw [show (List.range 10).map vs = [vs 0, vs 1, vs 2, vs 3, vs 4, vs 5, vs 6, vs 7, vs 8, vs 9] from rfl]
                  simp only [t0, t1, t2, t3, t4, t5, t6, t7, putAll, Act.put, List.setIfInBounds_toArray, List.set_cons_succ, List.set_cons_zero]
                  clear t0 t1 t2 t3 t4 t5 t6 t7 htold
                  obtain ⟨q13, e13, hg13, _, hb13⟩ := hJ.2 (hl 9 (by decide) |> fun _ => hl 8 (by decide))
                  replace hb13 := hb13 (hl 9 (by decide))
                  rw [e13]
                  replace ZT := hide ((unhide ZT).step hJ.1)
                  replace HP := hide ((unhide HP).kept hJ.1 (by simp))
                  replace HP2 : Hid (V6.cell? ⟨p, 2, none⟩ = some (.int .i64 (nN : Int))) := hJ.1.cell (unhide HP2) (by simp)
                  replace HON := hide ((unhide HON).kept0 hJ.1)
                  replace HPB := hide ((unhide HPB).kept hJ.1 (by simp))
                  replace HZ2 : Hid (V6.cell? ⟨z, 2, none⟩ = some (.slice (some ⟨dg, 0, none⟩) dn sc)) := hJ.1.cell (unhide HZ2) (by simp)
                  have HB13 := hide hb13
                  have hp0 : V6.cell? ⟨p, 0, none⟩ = some (.int .i64 x.kind) := fits_cell (unhide HP) 0 _ rfl
                  have HZ := hide (unhide ZT).t.hd
                  have HWK := hide (unhide ZT).t.k
                  clear hJ hl e13 hg13 hb13 HRG
                  go_wp2_with fail
                  clear hp0
                  refine wp_region_any mixed (wpAny_gx 10 rfl (by kernel_rfl) [some (.slice none 0 0), some (P0 z), some (P0 z), some (.pointer (some ⟨z, 2, none⟩)), some (.slice (some ⟨dg, 0, none⟩) dn sc), some (.pointer (some ⟨p, 2, none⟩)), some (.int .i64 (nN : Int)), some (.slice (some ⟨dg, 0, none⟩) nN sc), none, none] rfl (by kernel_rfl) (fun l vs W => (S22 V6 w.heap.size (D.take nN)) (fun i => l.getD i false) vs W) (⟨⟨rfl, rfl, rfl, Nat.le_refl _, fun _ _ _ => rfl⟩, (fun h => by cases h), fun h => by cases h⟩) ?_ ?_)
                  · intro ix o' hi ho a' w2 l vs hls hlf hJ hout hin hdep hnot
                    match ix, ho with
                    | 0, ho =>
                      obtain rfl := Option.some.inj ho
                      have e0 := hout 14 (by kernel_rfl)
                      replace e0 : a'.eval (.tmp 14) = _ := e0.trans rfl
                      exact wp_move (.tmp 14) rfl _ e0 ⟨_, rfl, told_of rfl, keepG (St := (S22 V6 w.heap.size (D.take nN))) [8, 9] S22.loc (by omega) (by decide) hJ⟩
                    | 1, ho =>
                      obtain rfl := Option.some.inj ho
                      have e0 := hout 9 (by kernel_rfl)
                      replace e0 : a'.eval (.tmp 9) = _ := e0.trans rfl
                      exact wp_move (.tmp 9) rfl _ e0 ⟨_, rfl, told_of rfl, keepG (St := (S22 V6 w.heap.size (D.take nN))) [8, 9] S22.loc (by omega) (by decide) hJ⟩
                    | 2, ho =>
                      obtain rfl := Option.some.inj ho
                      have e0 : a'.eval (.tmp 177) = P0 z := by have h9 := hin 1 177 (by kernel_rfl) (by kernel_rfl); exact h9.1.trans (told_is _ h9.2 rfl)
                      exact o_nil (.tmp 177) rfl _ e0 ⟨_, rfl, told_of rfl, keepG (St := (S22 V6 w.heap.size (D.take nN))) [8, 9] S22.loc (by omega) (by decide) hJ⟩
                    | 3, ho =>
                      obtain rfl := Option.some.inj ho
                      have e0 : a'.eval (.tmp 178) = P0 z := by have h9 := hin 2 178 (by kernel_rfl) (by kernel_rfl); exact h9.1.trans (told_is _ h9.2 rfl)
                      exact o_fld54_1 (.tmp 178) rfl _ e0 ⟨_, rfl, told_of rfl, keepG (St := (S22 V6 w.heap.size (D.take nN))) [8, 9] S22.loc (by omega) (by decide) hJ⟩
                    | 4, ho =>
                      obtain rfl := Option.some.inj ho
                      have e0 : a'.eval (.tmp 179) = .pointer (some ⟨z, 2, none⟩) := by have h9 := hin 3 179 (by kernel_rfl) (by kernel_rfl); exact h9.1.trans (told_is _ h9.2 rfl)
                      exact o_load40 (.tmp 179) rfl _ _ e0 (hJ.1.cell (unhide HZ2) (by simp)) ⟨_, rfl, told_of rfl, keepG (St := (S22 V6 w.heap.size (D.take nN))) [8, 9] S22.loc (by omega) (by decide) hJ⟩
                    | 5, ho =>
                      obtain rfl := Option.some.inj ho
                      have e0 := hout 11 (by kernel_rfl)
                      replace e0 : a'.eval (.tmp 11) = _ := e0.trans rfl
                      exact o_fld56_2 (.tmp 11) rfl _ e0 ⟨_, rfl, told_of rfl, keepG (St := (S22 V6 w.heap.size (D.take nN))) [8, 9] S22.loc (by omega) (by decide) hJ⟩
                    | 6, ho =>
                      obtain rfl := Option.some.inj ho
                      have e0 : a'.eval (.tmp 181) = .pointer (some ⟨p, 2, none⟩) := by have h9 := hin 5 181 (by kernel_rfl) (by kernel_rfl); exact h9.1.trans (told_is _ h9.2 rfl)
                      exact o_load3 (.tmp 181) rfl _ _ e0 (hJ.1.cell (unhide HP2) (by simp)) ⟨_, rfl, told_of rfl, keepG (St := (S22 V6 w.heap.size (D.take nN))) [8, 9] S22.loc (by omega) (by decide) hJ⟩
                    | 7, ho =>
                      obtain rfl := Option.some.inj ho
                      have e0 : a'.eval (.tmp 180) = .slice (some ⟨dg, 0, none⟩) dn sc := by have h9 := hin 4 180 (by kernel_rfl) (by kernel_rfl); exact h9.1.trans (told_is _ h9.2 rfl)
                      have e1 : a'.eval (.tmp 182) = .int .i64 (nN : Int) := by have h9 := hin 6 182 (by kernel_rfl) (by kernel_rfl); exact h9.1.trans (told_is _ h9.2 rfl)
                      exact o_slTo (.tmp 180) (.tmp 182) rfl dg dn sc nN (unhide HNC) e0 e1 ⟨_, rfl, told_of rfl, keepG (St := (S22 V6 w.heap.size (D.take nN))) [8, 9] S22.loc (by omega) (by decide) hJ⟩
                    | 8, ho =>
                      obtain rfl := Option.some.inj ho
                      have e0 : a'.eval (.tmp 176) = .slice none 0 0 := by have h9 := hin 0 176 (by kernel_rfl) (by kernel_rfl); exact h9.1.trans (told_is _ h9.2 rfl)
                      have e1 : a'.eval (.tmp 183) = .slice (some ⟨dg, 0, none⟩) nN sc := by have h9 := hin 7 183 (by kernel_rfl) (by kernel_rfl); exact h9.1.trans (told_is _ h9.2 rfl)
                      have hDW := (unhide HON).kept0 hJ.1
                      obtain ⟨ao, cp, he, hlc, hnil, hsrc⟩ := hDW.src
                      rw [← unhide HDN] at he
                      cases he
                      obtain ⟨g9, e9, hcell⟩ := hsrc _ rfl
                      cases e9
                      have hDl := unhide HDL
                      have hnd := unhide HNL
                      have hdd := unhide HDN
                      have hlen : (D.take nN).length = nN := by rw [List.length_take]; omega
                      refine o_appG (size := 6) (by8 := 64) Try.sl40 Try.info35 rfl (by decide) (.tmp 176) (.tmp 183) rfl w.heap.size (.slice none 0 0) 0 [] (cellsD (D.take nN)) e0 (Dl.nil _ _).row (some ⟨dg, 0, none⟩) nN sc e1 (fun h => by cases h) (by rw [cellsD_len, hlen]) (fun ad had j u hj => by cases had; rw [Addr.add_lit, Nat.zero_add]; exact hcell j u (cells_take hj)) (cellsD_ones (fun q hq => hDW.bod q (List.mem_of_mem_take hq))) (by omega) (by omega) (by have h8 := hJ.1.size; have h9 := (unhide HWK).size; omega) fun v' w' g1 g2 g5 => ?_
                      have hK : Kept [] w2 w' := Kept.of_grown g2 (fun k e _ => by cases e)
                      exact ⟨_, rfl, told_no rfl, nextG (St := (S22 V6 w.heap.size (D.take nN))) (by omega) ⟨hJ.1.trans hK, (fun _ => ⟨(Dl.nil w2 w.heap.size).app (R := D.take nN) (by rw [hlen]; exact g1) g2 (fun q hq => hDW.bod q (List.mem_of_mem_take hq)) (fun q hq k e => hDW.new q (List.mem_of_mem_take hq) k e), fun k9 e9 => by rcases g5 with h9 | h9 <;> (have h8 : v'.ownBlock = some k9 := e9; rw [h9] at h8; cases h8); exact hJ.1.size⟩), (fun h9 => by have h9 : l.getD 9 false = true := h9; rw [hnot 9 (by kernel_rfl)] at h9; cases h9)⟩⟩
                    | 9, ho =>
                      obtain rfl := Option.some.inj ho
                      have e0 : a'.eval (.tmp 184) = vs 8 := (hin 8 184 (by kernel_rfl) (by kernel_rfl)).1
                      exact wp_assignV (.tmp 184) rfl _ e0 ⟨_, rfl, told_no rfl, nextG (St := (S22 V6 w.heap.size (D.take nN))) (by omega) ⟨hJ.1, hJ.2.1, fun _ => ⟨rfl, hdep 8 (by kernel_rfl)⟩⟩⟩
                  intro l2 vs2 V7 hl hJ htold
                  have t0 : vs2 0 = .slice none 0 0 := told_is _ (htold 0 (by decide)) rfl
                  have t1 : vs2 1 = P0 z := told_is _ (htold 1 (by decide)) rfl
                  have t2 : vs2 2 = P0 z := told_is _ (htold 2 (by decide)) rfl
                  have t3 : vs2 3 = .pointer (some ⟨z, 2, none⟩) := told_is _ (htold 3 (by decide)) rfl
                  have t4 : vs2 4 = .slice (some ⟨dg, 0, none⟩) dn sc := told_is _ (htold 4 (by decide)) rfl
                  have t5 : vs2 5 = .pointer (some ⟨p, 2, none⟩) := told_is _ (htold 5 (by decide)) rfl
                  have t6 : vs2 6 = .int .i64 (nN : Int) := told_is _ (htold 6 (by decide)) rfl
                  have t7 : vs2 7 = .slice (some ⟨dg, 0, none⟩) nN sc := told_is _ (htold 7 (by decide)) rfl
                  rw [show (List.range 10).map vs2 = [vs2 0, vs2 1, vs2 2, vs2 3, vs2 4, vs2 5, vs2 6, vs2 7, vs2 8, vs2 9] from rfl]
                  simp only [t0, t1, t2, t3, t4, t5, t6, t7, putAll, Act.put, List.setIfInBounds_toArray, List.set_cons_succ, List.set_cons_zero]
                  clear t0 t1 t2 t3 t4 t5 t6 t7 htold
                  obtain ⟨hk7, hl8, hl9⟩ := hJ
                  have HLV := hide (hl8 (hl 8 (by decide))).1
                  have hfr := (hl8 (hl 8 (by decide))).2
                  have e9 := (hl9 (hl 9 (by decide))).1
                  rw [e9]
                  obtain ⟨lv, hlv⟩ : ∃ lv, lv = vs2 8 := ⟨_, rfl⟩
                  rw [← hlv] at HLV hfr ⊢
                  have HFR : Hid (∀ k9, lv.ownBlock = some k9 → k9 ≠ q13) := fun k9 e9 => by have h8 := hfr k9 e9; have h9 := (unhide HB13).lt; omega
                  clear hfr
                  replace ZT := hide ((unhide ZT).step hk7)
                  replace HP := hide ((unhide HP).kept hk7 (by simp))
                  replace HP2 : Hid (V7.cell? ⟨p, 2, none⟩ = some (.int .i64 (nN : Int))) := hk7.cell (unhide HP2) (by simp)
                  replace HON := hide ((unhide HON).kept0 hk7)
                  replace HPB := hide ((unhide HPB).kept hk7 (by simp))
                  replace HZ2 : Hid (V7.cell? ⟨z, 2, none⟩ = some (.slice (some ⟨dg, 0, none⟩) dn sc)) := hk7.cell (unhide HZ2) (by simp)
                  replace HB13 := hide ((unhide HB13).kept hk7 (by simp))
                  replace HZ := hide (unhide ZT).t.hd
                  replace HWK := hide (unhide ZT).t.k
                  clear hk7 hl8 hl9 e9 hlv hl
                  go_wp2_with fail
                  refine wp_region_any mixed (wpAny_gx 14 rfl (by kernel_rfl) [some (P0 z), some (lv), some (P0 z), some (P0 z), some (.pointer (some ⟨z, 2, none⟩)), some (.slice (some ⟨dg, 0, none⟩) dn sc), some (.pointer (some ⟨p, 2, none⟩)), some (.int .i64 (nN : Int)), some (.int .i64 ((nN + 1 : Nat) : Int)), none, none, some (P0 z), some (.pointer (some ⟨z, 2, none⟩)), none] rfl (by kernel_rfl) (fun l vs W => (S23 V7 w.heap.size z dg dn sc nN lv (D.take nN ++ D.drop (nN + 1)) (.slice (some ⟨dg, 0, none⟩) dn sc) (fun u => twC pt u st ou)) (fun i => l.getD i false) vs W) (⟨fun _ => ⟨⟨rfl, rfl, rfl, Nat.le_refl _, fun _ _ _ => rfl⟩, fun h => by cases h⟩, (fun h => by cases h), fun h => by cases h⟩) ?_ ?_)
                  · intro ix o' hi ho a' w2 l vs hls hlf hJ hout hin hdep hnot
                    match ix, ho with
                    | 0, ho =>
                      obtain rfl := Option.some.inj ho
                      have e0 := hout 9 (by kernel_rfl)
                      replace e0 : a'.eval (.tmp 9) = _ := e0.trans rfl
                      exact wp_move (.tmp 9) rfl _ e0 ⟨_, rfl, told_of rfl, keepG (St := (S23 V7 w.heap.size z dg dn sc nN lv (D.take nN ++ D.drop (nN + 1)) (.slice (some ⟨dg, 0, none⟩) dn sc) (fun u => twC pt u st ou))) [9, 10, 13] S23.loc (by omega) (by decide) hJ⟩
                    | 1, ho =>
                      obtain rfl := Option.some.inj ho
                      have e0 := hout 14 (by kernel_rfl)
                      replace e0 : a'.eval (.tmp 14) = _ := e0.trans rfl
                      exact wp_move (.tmp 14) rfl _ e0 ⟨_, rfl, told_of rfl, keepG (St := (S23 V7 w.heap.size z dg dn sc nN lv (D.take nN ++ D.drop (nN + 1)) (.slice (some ⟨dg, 0, none⟩) dn sc) (fun u => twC pt u st ou))) [9, 10, 13] S23.loc (by omega) (by decide) hJ⟩
                    | 2, ho =>
                      obtain rfl := Option.some.inj ho
                      have e0 := hout 9 (by kernel_rfl)
                      replace e0 : a'.eval (.tmp 9) = _ := e0.trans rfl
                      exact wp_move (.tmp 9) rfl _ e0 ⟨_, rfl, told_of rfl, keepG (St := (S23 V7 w.heap.size z dg dn sc nN lv (D.take nN ++ D.drop (nN + 1)) (.slice (some ⟨dg, 0, none⟩) dn sc) (fun u => twC pt u st ou))) [9, 10, 13] S23.loc (by omega) (by decide) hJ⟩
                    | 3, ho =>
                      obtain rfl := Option.some.inj ho
                      have e0 : a'.eval (.tmp 187) = P0 z := by have h9 := hin 2 187 (by kernel_rfl) (by kernel_rfl); exact h9.1.trans (told_is _ h9.2 rfl)
                      exact o_nil (.tmp 187) rfl _ e0 ⟨_, rfl, told_of rfl, keepG (St := (S23 V7 w.heap.size z dg dn sc nN lv (D.take nN ++ D.drop (nN + 1)) (.slice (some ⟨dg, 0, none⟩) dn sc) (fun u => twC pt u st ou))) [9, 10, 13] S23.loc (by omega) (by decide) hJ⟩
                    | 4, ho =>
                      obtain rfl := Option.some.inj ho
                      have e0 : a'.eval (.tmp 188) = P0 z := by have h9 := hin 3 188 (by kernel_rfl) (by kernel_rfl); exact h9.1.trans (told_is _ h9.2 rfl)
                      exact o_fld54_1 (.tmp 188) rfl _ e0 ⟨_, rfl, told_of rfl, keepG (St := (S23 V7 w.heap.size z dg dn sc nN lv (D.take nN ++ D.drop (nN + 1)) (.slice (some ⟨dg, 0, none⟩) dn sc) (fun u => twC pt u st ou))) [9, 10, 13] S23.loc (by omega) (by decide) hJ⟩
                    | 5, ho =>
                      obtain rfl := Option.some.inj ho
                      have e0 : a'.eval (.tmp 189) = .pointer (some ⟨z, 2, none⟩) := by have h9 := hin 4 189 (by kernel_rfl) (by kernel_rfl); exact h9.1.trans (told_is _ h9.2 rfl)
                      exact o_load40 (.tmp 189) rfl _ _ e0 ((hJ.1 (hnot 10 (by kernel_rfl))).1.cell (unhide HZ2) (by simp)) ⟨_, rfl, told_of rfl, keepG (St := (S23 V7 w.heap.size z dg dn sc nN lv (D.take nN ++ D.drop (nN + 1)) (.slice (some ⟨dg, 0, none⟩) dn sc) (fun u => twC pt u st ou))) [9, 10, 13] S23.loc (by omega) (by decide) hJ⟩
                    | 6, ho =>
                      obtain rfl := Option.some.inj ho
                      have e0 := hout 11 (by kernel_rfl)
                      replace e0 : a'.eval (.tmp 11) = _ := e0.trans rfl
                      exact o_fld56_2 (.tmp 11) rfl _ e0 ⟨_, rfl, told_of rfl, keepG (St := (S23 V7 w.heap.size z dg dn sc nN lv (D.take nN ++ D.drop (nN + 1)) (.slice (some ⟨dg, 0, none⟩) dn sc) (fun u => twC pt u st ou))) [9, 10, 13] S23.loc (by omega) (by decide) hJ⟩
                    | 7, ho =>
                      obtain rfl := Option.some.inj ho
                      have e0 : a'.eval (.tmp 191) = .pointer (some ⟨p, 2, none⟩) := by have h9 := hin 6 191 (by kernel_rfl) (by kernel_rfl); exact h9.1.trans (told_is _ h9.2 rfl)
                      exact o_load3 (.tmp 191) rfl _ _ e0 ((hJ.1 (hnot 10 (by kernel_rfl))).1.cell (unhide HP2) (by simp)) ⟨_, rfl, told_of rfl, keepG (St := (S23 V7 w.heap.size z dg dn sc nN lv (D.take nN ++ D.drop (nN + 1)) (.slice (some ⟨dg, 0, none⟩) dn sc) (fun u => twC pt u st ou))) [9, 10, 13] S23.loc (by omega) (by decide) hJ⟩
                    | 8, ho =>
                      obtain rfl := Option.some.inj ho
                      have e0 : a'.eval (.tmp 192) = .int .i64 (nN : Int) := by have h9 := hin 7 192 (by kernel_rfl) (by kernel_rfl); exact h9.1.trans (told_is _ h9.2 rfl)
                      exact o_add1 (.tmp 192) rfl nN (by have h8 := unhide HNL; have h9 := unhide HDL; have h7 := unhide HDN; omega) e0 ⟨_, rfl, told_of rfl, keepG (St := (S23 V7 w.heap.size z dg dn sc nN lv (D.take nN ++ D.drop (nN + 1)) (.slice (some ⟨dg, 0, none⟩) dn sc) (fun u => twC pt u st ou))) [9, 10, 13] S23.loc (by omega) (by decide) hJ⟩
                    | 9, ho =>
                      obtain rfl := Option.some.inj ho
                      have e0 : a'.eval (.tmp 190) = .slice (some ⟨dg, 0, none⟩) dn sc := by have h9 := hin 5 190 (by kernel_rfl) (by kernel_rfl); exact h9.1.trans (told_is _ h9.2 rfl)
                      have e1 : a'.eval (.tmp 193) = .int .i64 ((nN + 1 : Nat) : Int) := by have h9 := hin 8 193 (by kernel_rfl) (by kernel_rfl); exact h9.1.trans (told_is _ h9.2 rfl)
                      refine o_slFrom (.tmp 190) (.tmp 193) rfl dg dn sc (nN + 1) (unhide HDC) (unhide HNL) e0 e1 fun off hoff => ?_
                      exact ⟨_, rfl, told_no rfl, nextG (St := (S23 V7 w.heap.size z dg dn sc nN lv (D.take nN ++ D.drop (nN + 1)) (.slice (some ⟨dg, 0, none⟩) dn sc) (fun u => twC pt u st ou))) (by omega) ⟨fun _ => ⟨(hJ.1 (hnot 10 (by kernel_rfl))).1, fun _ => ⟨off, rfl, hoff⟩⟩, (fun h10 => by have h9 : l.getD 10 false = true := h10; rw [hnot 10 (by kernel_rfl)] at h9; cases h9), fun h => hJ.2.2 h⟩⟩
                    | 10, ho =>
                      obtain rfl := Option.some.inj ho
                      have e0 : a'.eval (.tmp 186) = lv := by have h9 := hin 1 186 (by kernel_rfl) (by kernel_rfl); exact h9.1.trans (told_is _ h9.2 rfl)
                      have e1 : a'.eval (.tmp 194) = vs 9 := (hin 9 194 (by kernel_rfl) (by kernel_rfl)).1
                      obtain ⟨hk0, h9o⟩ := hJ.1 hlf
                      obtain ⟨off, ho9, hoff⟩ := h9o (hdep 9 (by kernel_rfl))
                      have hDW := (unhide HON).kept0 hk0
                      obtain ⟨ao, cp, he, hlc, hnil, hsrc⟩ := hDW.src
                      rw [← unhide HDN] at he
                      cases he
                      obtain ⟨g9, e9, hcell⟩ := hsrc _ rfl
                      cases e9
                      have hDl := unhide HDL
                      have hnd := unhide HNL
                      have hdd := unhide HDN
                      have hLv := (unhide HLV).kept0 hk0
                      have hZ0 := (unhide HZ).kept hk0 (by simp)
                      have hlen : (D.drop (nN + 1)).length = dn - (nN + 1) := by rw [List.length_drop]; omega
                      have htk : (D.take nN).length = nN := by rw [List.length_take]; omega
                      refine o_appG (size := 6) (by8 := 64) Try.sl40 Try.info35 rfl (by decide) (.tmp 186) (.tmp 194) rfl w.heap.size lv (D.take nN).length (cellsD (D.take nN)) (cellsD (D.drop (nN + 1))) e0 hLv.row (some ⟨dg, off, none⟩) (dn - (nN + 1)) (sc - (nN + 1)) (e1.trans ho9) (fun h => by cases h) (by rw [cellsD_len, hlen]) (fun ad had j u hj => by
                        cases had
                        have hjl := (List.getElem?_eq_some_iff.1 hj).1
                        rw [cellsD_len, hlen] at hjl
                        rw [Addr.add_lit, hoff (by omega)]
                        exact hcell _ u (cells_drop (by omega) hj)) (cellsD_ones (fun q hq => hDW.bod q (List.mem_of_mem_drop hq))) (by omega) (by omega) (by have h8 := hk0.size; have h9 := (unhide HWK).size; omega) fun v' w' g1 g2 _ => ?_
                      have hK : Kept lv.ownBlock.toList w2 w' := Kept.of_grown g2 (fun k e _ => by simp [e])
                      have hnz : z ∉ lv.ownBlock.toList := fun hm => by
                        obtain ⟨cs, hc⟩ := owns_block hLv.row z (by simpa using hm)
                        unfold Blk at hZ0
                        rw [hc] at hZ0
                        cases hZ0
                      exact ⟨_, rfl, told_no rfl, nextG (St := (S23 V7 w.heap.size z dg dn sc nN lv (D.take nN ++ D.drop (nN + 1)) (.slice (some ⟨dg, 0, none⟩) dn sc) (fun u => twC pt u st ou))) (by omega) ⟨(fun h => by cases h), fun _ => ⟨hLv.app (R := D.drop (nN + 1)) (by rw [hlen]; exact g1) g2 (fun q hq => hDW.bod q (List.mem_of_mem_drop hq)) (fun q hq k e => hDW.new q (List.mem_of_mem_drop hq) k e), (fun _ => ⟨hZ0.kept hK hnz, (hk0.mono (by simp)).trans hK⟩), (fun h13 => by have h9 : l.getD 13 false = true := h13; rw [hnot 13 (by kernel_rfl)] at h9; cases h9)⟩, (fun h13 => by have h9 : l.getD 13 false = true := h13; rw [hnot 13 (by kernel_rfl)] at h9; cases h9)⟩⟩
                    | 11, ho =>
                      obtain rfl := Option.some.inj ho
                      have e0 : a'.eval (.tmp 185) = P0 z := by have h9 := hin 0 185 (by kernel_rfl) (by kernel_rfl); exact h9.1.trans (told_is _ h9.2 rfl)
                      exact o_nil (.tmp 185) rfl _ e0 ⟨_, rfl, told_of rfl, keepG (St := (S23 V7 w.heap.size z dg dn sc nN lv (D.take nN ++ D.drop (nN + 1)) (.slice (some ⟨dg, 0, none⟩) dn sc) (fun u => twC pt u st ou))) [9, 10, 13] S23.loc (by omega) (by decide) hJ⟩
                    | 12, ho =>
                      obtain rfl := Option.some.inj ho
                      have e0 : a'.eval (.tmp 196) = P0 z := by have h9 := hin 11 196 (by kernel_rfl) (by kernel_rfl); exact h9.1.trans (told_is _ h9.2 rfl)
                      exact o_fld54_1 (.tmp 196) rfl _ e0 ⟨_, rfl, told_of rfl, keepG (St := (S23 V7 w.heap.size z dg dn sc nN lv (D.take nN ++ D.drop (nN + 1)) (.slice (some ⟨dg, 0, none⟩) dn sc) (fun u => twC pt u st ou))) [9, 10, 13] S23.loc (by omega) (by decide) hJ⟩
                    | 13, ho =>
                      obtain rfl := Option.some.inj ho
                      have e0 : a'.eval (.tmp 197) = .pointer (some ⟨z, 2, none⟩) := by have h9 := hin 12 197 (by kernel_rfl) (by kernel_rfl); exact h9.1.trans (told_is _ h9.2 rfl)
                      have e1 : a'.eval (.tmp 195) = vs 10 := (hin 10 195 (by kernel_rfl) (by kernel_rfl)).1
                      obtain ⟨hD, hz0, _⟩ := hJ.2.1 (hdep 10 (by kernel_rfl))
                      obtain ⟨hZ0, hK0⟩ := hz0 hlf
                      obtain ⟨ao9, c9, e9⟩ := owns_slN hD.row
                      refine o_st40 (.tmp 197) (.tmp 195) rfl rfl z 2 54 _ (vs 10) e0 e1 ⟨ao9, _, c9, e9⟩ hZ0 (by simp [twC]) fun W hBW hkW => ⟨_, rfl, told_no rfl, nextG (St := (S23 V7 w.heap.size z dg dn sc nN lv (D.take nN ++ D.drop (nN + 1)) (.slice (some ⟨dg, 0, none⟩) dn sc) (fun u => twC pt u st ou))) (by omega) ⟨(fun h => by have h9 : l.getD 10 false = false := h; have h8 : l.getD 10 false = true := hdep 10 (by kernel_rfl); rw [h9] at h8; cases h8), (fun _ => ⟨hD.kept hkW (fun k e hm => ?_) (fun q hq k e hm => ?_), (fun h => by cases h), fun _ => ⟨hBW, (hK0.mono (fun k hk => List.mem_cons_of_mem _ hk)).trans (hkW.mono (by simp))⟩⟩), fun _ => hdep 10 (by kernel_rfl)⟩⟩
                      · simp at hm; subst hm; obtain ⟨cs, hc⟩ := owns_block hD.row k e; unfold Blk at hZ0; rw [hZ0] at hc; injection hc with hc; injection hc with _ hc; exact absurd hc (by decide)
                      · simp at hm; subst hm; obtain ⟨cs, hc⟩ := (hD.bod q hq).block k e; unfold Blk at hZ0; rw [hZ0] at hc; injection hc with hc; injection hc with _ hc; exact absurd hc (by decide)
                  intro l3 vs3 V8 hl hJ htold
                  have t0 : vs3 0 = P0 z := told_is _ (htold 0 (by decide)) rfl
                  have t1 : vs3 1 = lv := told_is _ (htold 1 (by decide)) rfl
                  have t2 : vs3 2 = P0 z := told_is _ (htold 2 (by decide)) rfl
                  have t3 : vs3 3 = P0 z := told_is _ (htold 3 (by decide)) rfl
                  have t4 : vs3 4 = .pointer (some ⟨z, 2, none⟩) := told_is _ (htold 4 (by decide)) rfl
                  have t5 : vs3 5 = .slice (some ⟨dg, 0, none⟩) dn sc := told_is _ (htold 5 (by decide)) rfl
                  have t6 : vs3 6 = .pointer (some ⟨p, 2, none⟩) := told_is _ (htold 6 (by decide)) rfl
                  have t7 : vs3 7 = .int .i64 (nN : Int) := told_is _ (htold 7 (by decide)) rfl
                  have t8 : vs3 8 = .int .i64 ((nN + 1 : Nat) : Int) := told_is _ (htold 8 (by decide)) rfl
                  have t11 : vs3 11 = P0 z := told_is _ (htold 11 (by decide)) rfl
                  have t12 : vs3 12 = .pointer (some ⟨z, 2, none⟩) := told_is _ (htold 12 (by decide)) rfl
                  rw [show (List.range 14).map vs3 = [vs3 0, vs3 1, vs3 2, vs3 3, vs3 4, vs3 5, vs3 6, vs3 7, vs3 8, vs3 9, vs3 10, vs3 11, vs3 12, vs3 13] from rfl]
                  simp only [t0, t1, t2, t3, t4, t5, t6, t7, t8, t11, t12, putAll, Act.put, List.setIfInBounds_toArray, List.set_cons_succ, List.set_cons_zero]
                  clear t0 t1 t2 t3 t4 t5 t6 t7 t8 t11 t12 htold
                  obtain ⟨hD, _, hz1⟩ := hJ.2.1 (hl 10 (by decide))
                  obtain ⟨hZ1, hK1⟩ := hz1 (hl 13 (by decide))
                  have hT := (unhide ZT).t.setOn (X := lv.ownBlock.toList) hZ1 hK1 (fun k9 hk9 _ => by
                    rw [Option.mem_toList] at hk9
                    exact ⟨owns_ge (unhide HLV).row k9 hk9, owns_block (unhide HLV).row k9 hk9⟩) hD
                  have hsub : ∀ q ∈ D.take nN ++ D.drop (nN + 1), q ∈ D := fun q hq => by
                    rcases List.mem_append.1 hq with hq | hq
                    · exact List.mem_of_mem_take hq
                    · exact List.mem_of_mem_drop hq
                  have hno : ∀ (p9 T : Nat) (cs : Array Value) (q' : Nat × Nat), T ≠ 54 → T ≠ 35 → V7.heap[p9]? = some (Obj.cells cs T q') → p9 ∉ z :: lv.ownBlock.toList := fun p9 T cs q' h1 h2 hp hm => by
                    rcases List.mem_cons.1 hm with rfl | hm
                    · have h9 := unhide HZ; unfold Blk at h9; rw [h9] at hp; cases hp; exact h1 rfl
                    · obtain ⟨cs', hc⟩ := owns_block (unhide HLV).row p9 (by simpa using hm); rw [hc] at hp; cases hp; exact h2 rfl
                  replace HP := hide ((unhide HP).kept hK1 (hno _ _ _ _ (by decide) (by decide) (unhide HP)))
                  replace HPB := hide ((unhide HPB).kept hK1 (fun k9 e9 => by obtain ⟨cs, hc⟩ := (unhide HPB).block k9 e9; exact hno _ _ _ _ (by decide) (by decide) hc))
                  have hlt13 := (unhide HB13).lt
                  have HB13' : Hid (Blk V8 q13 35 (pr.1.C pr.2)) := hide ((unhide HB13).kept hK1 (fun hm => by
                    rcases List.mem_cons.1 hm with rfl | hm
                    · have h9 := unhide HZ; have h8 := unhide HB13; unfold Blk at h9 h8; rw [h9] at h8; cases h8
                    · exact (unhide HFR) q13 (by simpa using hm) rfl))
                  have ZT8 : Hid (Zt w V8 z vw pt sv sw sp (vs3 10) (D.take nN ++ D.drop (nN + 1)) st ou L M k) := ⟨hT, (unhide ZT).iv, (unhide ZT).n, fun q hq => (unhide ZT).d q (hsub q hq)⟩
                  have HDL8 : Hid ((D.take nN ++ D.drop (nN + 1)).length ≤ k * 1001) := hide (by
                    rw [List.length_append, List.length_take, List.length_drop]
                    have h8 := unhide HDL
                    omega)
                  have hp0 : V8.cell? ⟨p, 0, none⟩ = some (.int .i64 x.kind) := fits_cell (unhide HP) 0 _ rfl
                  clear hJ hl hD hz1 hZ1 hK1 hT hsub hno hlt13 HB13 ZT HDL HON HZ HWK HZ2 HP2 HLV
                  go_wp2_with fail
                  go_meet
                  case rel => exact ⟨_, _, _, _, _, _, _, _, _, hide ((unhide ZT8).mono (by omega)), hide (by have := unhide HDL8; omega)⟩
            · as_aux_lemma =>
                  have u6 : (x.kind != 6) = true := by simpa using hk6
                  have q6 : (x.kind == 6) = false := by simpa using hk6
                  have r6 : decide (x.kind = 6) = false := by simpa using hk6
                  clear hk6
                  refine wp_region_any mixed (wpAny_tq 24 rfl (by kernel_rfl) [some (.pointer (some ⟨p, 0, none⟩)), some (.int .i64 x.kind), some (.bool true), some (.bool true), some (.pointer (some ⟨p, 0, none⟩)), some (.int .i64 x.kind), some (.bool true), some (.bool true), some (.bool true), some (.pointer (some ⟨p, 2, none⟩)), some (.int .i64 x.n), some (.bool true), some (.bool true), some (.bool true), some (.pointer (some ⟨p, 2, none⟩)), some (.int .i64 x.n), some (P0 z), some (P0 z), some (.pointer (some ⟨z, 2, none⟩)), some (.slice so dn sc), some (.int .i64 dn), some (.bool true), some (.bool true), some (.bool true)] rfl (by kernel_rfl) (by kernel_rfl) ?_ ?_)
                  · intro i o' hi hsk ho a' w2 hout hin hk2
                    replace hk2 : Kept [] V4 w2 := ⟨hk2.os, hk2.tape, hk2.output, hk2.size, hk2.block⟩
                    match i, ho, hsk with
                    | 0, ho, hsk =>
                      obtain rfl := Option.some.inj ho
                      exact o_fld56_0 (.tmp 11) rfl p ((hout 11 (by kernel_rfl)).trans rfl) ⟨_, rfl, tq_is _ _ _ _ rfl, Kept.refl _ _, fun _ _ _ _ _ => trivial⟩
                    | 1, ho, hsk =>
                      obtain rfl := Option.some.inj ho
                      have e0 : a'.eval (.tmp 142) = .pointer (some ⟨p, 0, none⟩) := is_tq (hin 0 142 (by kernel_rfl) (by kernel_rfl)) rfl
                      exact o_load3 (.tmp 142) rfl _ _ e0 (hk2.cell (unhide HP0) (by simp)) ⟨_, rfl, tq_is _ _ _ _ rfl, Kept.refl _ _, fun _ _ _ _ _ => trivial⟩
                    | 2, ho, hsk =>
                      obtain rfl := Option.some.inj ho
                      have e0 : a'.eval (.tmp 143) = .int .i64 x.kind := is_tq (hin 1 143 (by kernel_rfl) (by kernel_rfl)) rfl
                      exact o_geqc (.tmp 143) 4 rfl _ _ (by simpa using hc4) e0 ⟨_, rfl, tq_is _ _ _ _ rfl, Kept.refl _ _, fun _ _ _ _ _ => trivial⟩
                    | 3, ho, hsk =>
                      obtain rfl := Option.some.inj ho
                      have e0 : a'.eval (.tmp 144) = .bool true := is_tq (hin 2 144 (by kernel_rfl) (by kernel_rfl)) rfl
                      exact wp_move (.tmp 144) rfl _ e0 ⟨_, rfl, tq_is _ _ _ _ rfl, Kept.refl _ _, fun _ _ _ _ _ => trivial⟩
                    | 4, ho, hsk =>
                      obtain rfl := Option.some.inj ho
                      exact o_fld56_0 (.tmp 11) rfl p ((hout 11 (by kernel_rfl)).trans rfl) ⟨_, rfl, tq_is _ _ _ _ rfl, Kept.refl _ _, fun _ _ _ _ _ => trivial⟩
                    | 5, ho, hsk =>
                      obtain rfl := Option.some.inj ho
                      have e0 : a'.eval (.tmp 146) = .pointer (some ⟨p, 0, none⟩) := is_tq (hin 4 146 (by kernel_rfl) (by kernel_rfl)) rfl
                      exact o_load3 (.tmp 146) rfl _ _ e0 (hk2.cell (unhide HP0) (by simp)) ⟨_, rfl, tq_is _ _ _ _ rfl, Kept.refl _ _, fun _ _ _ _ _ => trivial⟩
                    | 6, ho, hsk =>
                      obtain rfl := Option.some.inj ho
                      have e0 : a'.eval (.tmp 147) = .int .i64 x.kind := is_tq (hin 5 147 (by kernel_rfl) (by kernel_rfl)) rfl
                      exact o_leqc (.tmp 147) 6 rfl _ _ (by simpa using hc6) e0 ⟨_, rfl, tq_is _ _ _ _ rfl, Kept.refl _ _, fun _ _ _ _ _ => trivial⟩
                    | 7, ho, hsk =>
                      obtain rfl := Option.some.inj ho
                      have e0 : a'.eval (.tmp 145) = .bool true := is_tq (hin 3 145 (by kernel_rfl) (by kernel_rfl)) rfl
                      have e1 : a'.eval (.tmp 148) = .bool true := is_tq (hin 6 148 (by kernel_rfl) (by kernel_rfl)) rfl
                      exact o_pick (.tmp 145) (.tmp 148) rfl _ e0 e1 ⟨_, rfl, tq_is _ _ _ _ rfl, Kept.refl _ _, fun _ _ _ _ _ => trivial⟩
                    | 8, ho, hsk =>
                      obtain rfl := Option.some.inj ho
                      have e0 : a'.eval (.tmp 149) = .bool true := is_tq (hin 7 149 (by kernel_rfl) (by kernel_rfl)) rfl
                      exact wp_move (.tmp 149) rfl _ e0 ⟨_, rfl, tq_is _ _ _ _ rfl, Kept.refl _ _, fun _ _ _ _ _ => trivial⟩
                    | 9, ho, hsk =>
                      obtain rfl := Option.some.inj ho
                      exact o_fld56_2 (.tmp 11) rfl p ((hout 11 (by kernel_rfl)).trans rfl) ⟨_, rfl, tq_is _ _ _ _ rfl, Kept.refl _ _, fun _ _ _ _ _ => trivial⟩
                    | 10, ho, hsk =>
                      obtain rfl := Option.some.inj ho
                      have e0 : a'.eval (.tmp 151) = .pointer (some ⟨p, 2, none⟩) := is_tq (hin 9 151 (by kernel_rfl) (by kernel_rfl)) rfl
                      exact o_load3 (.tmp 151) rfl _ _ e0 (hk2.cell (unhide HP2) (by simp)) ⟨_, rfl, tq_is _ _ _ _ rfl, Kept.refl _ _, fun _ _ _ _ _ => trivial⟩
                    | 11, ho, hsk =>
                      obtain rfl := Option.some.inj ho
                      have e0 : a'.eval (.tmp 152) = .int .i64 x.n := is_tq (hin 10 152 (by kernel_rfl) (by kernel_rfl)) rfl
                      exact o_geqc (.tmp 152) 0 rfl _ _ (by simpa using hcn) e0 ⟨_, rfl, tq_is _ _ _ _ rfl, Kept.refl _ _, fun _ _ _ _ _ => trivial⟩
                    | 12, ho, hsk =>
                      obtain rfl := Option.some.inj ho
                      have e0 : a'.eval (.tmp 150) = .bool true := is_tq (hin 8 150 (by kernel_rfl) (by kernel_rfl)) rfl
                      have e1 : a'.eval (.tmp 153) = .bool true := is_tq (hin 11 153 (by kernel_rfl) (by kernel_rfl)) rfl
                      exact o_pick (.tmp 150) (.tmp 153) rfl _ e0 e1 ⟨_, rfl, tq_is _ _ _ _ rfl, Kept.refl _ _, fun _ _ _ _ _ => trivial⟩
                    | 13, ho, hsk =>
                      obtain rfl := Option.some.inj ho
                      have e0 : a'.eval (.tmp 154) = .bool true := is_tq (hin 12 154 (by kernel_rfl) (by kernel_rfl)) rfl
                      exact wp_move (.tmp 154) rfl _ e0 ⟨_, rfl, tq_is _ _ _ _ rfl, Kept.refl _ _, fun _ _ _ _ _ => trivial⟩
                    | 14, ho, hsk =>
                      obtain rfl := Option.some.inj ho
                      exact o_fld56_2 (.tmp 11) rfl p ((hout 11 (by kernel_rfl)).trans rfl) ⟨_, rfl, tq_is _ _ _ _ rfl, Kept.refl _ _, fun _ _ _ _ _ => trivial⟩
                    | 15, ho, hsk =>
                      obtain rfl := Option.some.inj ho
                      have e0 : a'.eval (.tmp 156) = .pointer (some ⟨p, 2, none⟩) := is_tq (hin 14 156 (by kernel_rfl) (by kernel_rfl)) rfl
                      exact o_load3 (.tmp 156) rfl _ _ e0 (hk2.cell (unhide HP2) (by simp)) ⟨_, rfl, tq_is _ _ _ _ rfl, Kept.refl _ _, fun _ _ _ _ _ => trivial⟩
                    | 16, ho, hsk =>
                      obtain rfl := Option.some.inj ho
                      exact wp_move (.tmp 9) rfl _ ((hout 9 (by kernel_rfl)).trans rfl) ⟨_, rfl, tq_is _ _ _ _ rfl, Kept.refl _ _, fun _ _ _ _ _ => trivial⟩
                    | 17, ho, hsk =>
                      obtain rfl := Option.some.inj ho
                      have e0 : a'.eval (.tmp 158) = P0 z := is_tq (hin 16 158 (by kernel_rfl) (by kernel_rfl)) rfl
                      exact o_nil (.tmp 158) rfl _ e0 ⟨_, rfl, tq_is _ _ _ _ rfl, Kept.refl _ _, fun _ _ _ _ _ => trivial⟩
                    | 18, ho, hsk =>
                      obtain rfl := Option.some.inj ho
                      have e0 : a'.eval (.tmp 159) = P0 z := is_tq (hin 17 159 (by kernel_rfl) (by kernel_rfl)) rfl
                      exact o_fld54_1 (.tmp 159) rfl z e0 ⟨_, rfl, tq_is _ _ _ _ rfl, Kept.refl _ _, fun _ _ _ _ _ => trivial⟩
                    | 19, ho, hsk =>
                      obtain rfl := Option.some.inj ho
                      have e0 : a'.eval (.tmp 160) = .pointer (some ⟨z, 2, none⟩) := is_tq (hin 18 160 (by kernel_rfl) (by kernel_rfl)) rfl
                      exact o_load40 (.tmp 160) rfl _ _ e0 (hk2.cell (unhide HZ2) (by simp)) ⟨_, rfl, tq_is _ _ _ _ rfl, Kept.refl _ _, fun _ _ _ _ _ => trivial⟩
                    | 20, ho, hsk =>
                      obtain rfl := Option.some.inj ho
                      have e0 : a'.eval (.tmp 161) = .slice so dn sc := is_tq (hin 19 161 (by kernel_rfl) (by kernel_rfl)) rfl
                      exact o_len40 (.tmp 161) rfl so dn sc e0 ⟨_, rfl, tq_is _ _ _ _ rfl, Kept.refl _ _, fun _ _ _ _ _ => trivial⟩
                    | 21, ho, hsk =>
                      obtain rfl := Option.some.inj ho
                      have e0 : a'.eval (.tmp 157) = .int .i64 x.n := is_tq (hin 15 157 (by kernel_rfl) (by kernel_rfl)) rfl
                      have e1 : a'.eval (.tmp 162) = .int .i64 dn := is_tq (hin 20 162 (by kernel_rfl) (by kernel_rfl)) rfl
                      exact o_lss3 (.tmp 157) (.tmp 162) rfl _ _ _ (by simpa using hcl) e0 e1 ⟨_, rfl, tq_is _ _ _ _ rfl, Kept.refl _ _, fun _ _ _ _ _ => trivial⟩
                    | 22, ho, hsk =>
                      obtain rfl := Option.some.inj ho
                      have e0 : a'.eval (.tmp 155) = .bool true := is_tq (hin 13 155 (by kernel_rfl) (by kernel_rfl)) rfl
                      have e1 : a'.eval (.tmp 163) = .bool true := is_tq (hin 21 163 (by kernel_rfl) (by kernel_rfl)) rfl
                      exact o_pick (.tmp 155) (.tmp 163) rfl _ e0 e1 ⟨_, rfl, tq_is _ _ _ _ rfl, Kept.refl _ _, fun _ _ _ _ _ => trivial⟩
                    | 23, ho, hsk =>
                      obtain rfl := Option.some.inj ho
                      have e0 : a'.eval (.tmp 164) = .bool true := is_tq (hin 22 164 (by kernel_rfl) (by kernel_rfl)) rfl
                      exact wp_assignV (.tmp 164) rfl _ e0 ⟨_, rfl, tq_is _ _ _ _ rfl, Kept.refl _ _, fun _ _ _ _ _ => trivial⟩
                  intro w9 hk9
                  replace hk9 : Kept [] V4 w9 := ⟨hk9.os, hk9.tape, hk9.output, hk9.size, hk9.block⟩
                  simp only [valsQ, List.map_cons, List.map_nil, Option.getD_some, List.take_succ_cons, List.take_zero, putAll, Act.put, List.setIfInBounds_toArray, List.set_cons_succ, List.set_cons_zero]
                  refine wpAny_done (by kernel_rfl) ?_ _
                  obtain ⟨nN, hnN⟩ : ∃ nN : Nat, x.n = (nN : Int) := ⟨x.n.toNat, by omega⟩
                  have HNL : Hid (nN < dn) := hide (by omega)
                  obtain ⟨pr, hpr⟩ : ∃ pr, D[nN]? = some pr := ⟨_, List.getElem?_eq_getElem (by have h8 := unhide HNL; have h9 := unhide HDN; omega)⟩
                  replace ZT := hide ((unhide ZT).step hk9)
                  replace HP := hide ((unhide HP).kept hk9 (by simp))
                  replace HP2 : Hid (w9.cell? ⟨p, 2, none⟩ = some (.int .i64 (nN : Int))) := by have h9 := fits_cell (unhide HP) 2 _ rfl; rw [← hnN]; exact h9
                  have HON := hide (unhide ZT).t.on
                  have hon2 := unhide HON
                  obtain ⟨dg, hdg, hrg⟩ := Dl.at (unhide HON) hpr
                  cases hdg
                  have HRG := hide hrg
                  have HPB := hide ((unhide HON).bod pr (List.mem_of_getElem? hpr))
                  have HZ2 : Hid (w9.cell? ⟨z, 2, none⟩ = some (.slice (some ⟨dg, 0, none⟩) dn sc)) := fits_cell (unhide ZT).t.hd 2 _ rfl
                  have hdc : dn ≤ sc := by
                    obtain ⟨ao, cp, he, hlc, _, _⟩ := (unhide HON).src
                    rw [← unhide HDN] at he hlc
                    cases he
                    exact hlc
                  have HDC := hide hdc
                  have HNC : Hid (nN ≤ sc) := hide (by have h9 := unhide HNL; omega)
                  have HWD := hide ((unhide ZT).d pr (List.mem_of_getElem? hpr))
                  clear hk9 HP0 hrg hpr hdc hcl hcn hc4 hc6 hnN hon2
                  go_wp2_with fail
                  refine wp_region_any mixed (wpAny_gx 10 rfl (by kernel_rfl) [some (P0 z), some (P0 z), some (.pointer (some ⟨z, 2, none⟩)), some (.slice (some ⟨dg, 0, none⟩) dn sc), some (.pointer (some ⟨p, 2, none⟩)), some (.int .i64 (nN : Int)), some (.pointer (some ⟨dg, nN * 6, none⟩)), some (aggV (pr.1.C pr.2)), none, none] rfl (by kernel_rfl) (fun l vs W => (SV9 w9 (pr.1.C pr.2) zD 35) (fun i => l.getD i false) vs W) (⟨⟨rfl, rfl, rfl, Nat.le_refl _, fun _ _ _ => rfl⟩, fun h => by cases h⟩) ?_ ?_)
                  · intro ix o' hi ho a' w2 l vs hls hlf hJ hout hin hdep hnot
                    match ix, ho with
                    | 0, ho =>
                      obtain rfl := Option.some.inj ho
                      have e0 := hout 9 (by kernel_rfl)
                      replace e0 : a'.eval (.tmp 9) = _ := e0.trans rfl
                      exact wp_move (.tmp 9) rfl _ e0 ⟨_, rfl, told_of rfl, keepG (St := (SV9 w9 (pr.1.C pr.2) zD 35)) [8, 9] SV9.loc (by omega) (by decide) hJ⟩
                    | 1, ho =>
                      obtain rfl := Option.some.inj ho
                      have e0 : a'.eval (.tmp 165) = P0 z := by have h9 := hin 0 165 (by kernel_rfl) (by kernel_rfl); exact h9.1.trans (told_is _ h9.2 rfl)
                      exact o_nil (.tmp 165) rfl _ e0 ⟨_, rfl, told_of rfl, keepG (St := (SV9 w9 (pr.1.C pr.2) zD 35)) [8, 9] SV9.loc (by omega) (by decide) hJ⟩
                    | 2, ho =>
                      obtain rfl := Option.some.inj ho
                      have e0 : a'.eval (.tmp 166) = P0 z := by have h9 := hin 1 166 (by kernel_rfl) (by kernel_rfl); exact h9.1.trans (told_is _ h9.2 rfl)
                      exact o_fld54_1 (.tmp 166) rfl _ e0 ⟨_, rfl, told_of rfl, keepG (St := (SV9 w9 (pr.1.C pr.2) zD 35)) [8, 9] SV9.loc (by omega) (by decide) hJ⟩
                    | 3, ho =>
                      obtain rfl := Option.some.inj ho
                      have e0 : a'.eval (.tmp 167) = .pointer (some ⟨z, 2, none⟩) := by have h9 := hin 2 167 (by kernel_rfl) (by kernel_rfl); exact h9.1.trans (told_is _ h9.2 rfl)
                      exact o_load40 (.tmp 167) rfl _ _ e0 (hJ.1.cell (unhide HZ2) (by simp)) ⟨_, rfl, told_of rfl, keepG (St := (SV9 w9 (pr.1.C pr.2) zD 35)) [8, 9] SV9.loc (by omega) (by decide) hJ⟩
                    | 4, ho =>
                      obtain rfl := Option.some.inj ho
                      have e0 := hout 11 (by kernel_rfl)
                      replace e0 : a'.eval (.tmp 11) = _ := e0.trans rfl
                      exact o_fld56_2 (.tmp 11) rfl _ e0 ⟨_, rfl, told_of rfl, keepG (St := (SV9 w9 (pr.1.C pr.2) zD 35)) [8, 9] SV9.loc (by omega) (by decide) hJ⟩
                    | 5, ho =>
                      obtain rfl := Option.some.inj ho
                      have e0 : a'.eval (.tmp 169) = .pointer (some ⟨p, 2, none⟩) := by have h9 := hin 4 169 (by kernel_rfl) (by kernel_rfl); exact h9.1.trans (told_is _ h9.2 rfl)
                      exact o_load3 (.tmp 169) rfl _ _ e0 (hJ.1.cell (unhide HP2) (by simp)) ⟨_, rfl, told_of rfl, keepG (St := (SV9 w9 (pr.1.C pr.2) zD 35)) [8, 9] SV9.loc (by omega) (by decide) hJ⟩
                    | 6, ho =>
                      obtain rfl := Option.some.inj ho
                      have e0 : a'.eval (.tmp 168) = .slice (some ⟨dg, 0, none⟩) dn sc := by have h9 := hin 3 168 (by kernel_rfl) (by kernel_rfl); exact h9.1.trans (told_is _ h9.2 rfl)
                      have e1 : a'.eval (.tmp 170) = .int .i64 (nN : Int) := by have h9 := hin 5 170 (by kernel_rfl) (by kernel_rfl); exact h9.1.trans (told_is _ h9.2 rfl)
                      exact o_idx40 (.tmp 168) (.tmp 170) rfl dg dn sc nN (unhide HNL) e0 e1 ⟨_, rfl, told_of rfl, keepG (St := (SV9 w9 (pr.1.C pr.2) zD 35)) [8, 9] SV9.loc (by omega) (by decide) hJ⟩
                    | 7, ho =>
                      obtain rfl := Option.some.inj ho
                      have e0 : a'.eval (.tmp 171) = .pointer (some ⟨dg, nN * 6, none⟩) := by have h9 := hin 6 171 (by kernel_rfl) (by kernel_rfl); exact h9.1.trans (told_is _ h9.2 rfl)
                      exact wp_loadA row35 (.tmp 171) rfl dg (nN * 6) e0 (pr.1.C pr.2) rfl (fun j u hj => hJ.1.cell (unhide HRG j u hj) (by simp)) ⟨_, rfl, told_of rfl, keepG (St := (SV9 w9 (pr.1.C pr.2) zD 35)) [8, 9] SV9.loc (by omega) (by decide) hJ⟩
                    | 8, ho =>
                      obtain rfl := Option.some.inj ho
                      exact wp_allocA zD alloc35 rfl ⟨_, rfl, told_no rfl, nextG (St := (SV9 w9 (pr.1.C pr.2) zD 35)) (by omega) ⟨hJ.1.alloc _, fun _ => ⟨w2.heap.size, rfl, hJ.1.size, fun _ => Blk.new w2 35 _, (fun h9 => by have h9 : l.getD 9 false = true := h9; rw [hnot 9 (by kernel_rfl)] at h9; cases h9)⟩⟩⟩
                    | 9, ho =>
                      obtain rfl := Option.some.inj ho
                      have e0 : a'.eval (.tmp 13) = vs 8 := (hin 8 13 (by kernel_rfl) (by kernel_rfl)).1
                      have e1 : a'.eval (.tmp 172) = aggV (pr.1.C pr.2) := by have h9 := hin 7 172 (by kernel_rfl) (by kernel_rfl); exact h9.1.trans (told_is _ h9.2 rfl)
                      obtain ⟨q, hq, hge, hz0, _⟩ := hJ.2 (hdep 8 (by kernel_rfl))
                      exact wp_storeN row35 (.tmp 13) (.tmp 172) rfl rfl q 0 _ (e0.trans hq) e1 rfl (DgC_one (unhide HPB).one) ((hz0 hlf).there (by decide)) ⟨undef, rfl, told_no rfl, nextG (St := (SV9 w9 (pr.1.C pr.2) zD 35)) (by omega) ⟨hJ.1.setCells _ _ (by omega), fun _ => ⟨q, hq, hge, (fun h => by cases h), fun _ => (hz0 hlf).put rfl⟩⟩⟩
                  intro l vs V6 hl hJ htold
                  have t0 : vs 0 = P0 z := told_is _ (htold 0 (by decide)) rfl
                  have t1 : vs 1 = P0 z := told_is _ (htold 1 (by decide)) rfl
                  have t2 : vs 2 = .pointer (some ⟨z, 2, none⟩) := told_is _ (htold 2 (by decide)) rfl
                  have t3 : vs 3 = .slice (some ⟨dg, 0, none⟩) dn sc := told_is _ (htold 3 (by decide)) rfl
                  have t4 : vs 4 = .pointer (some ⟨p, 2, none⟩) := told_is _ (htold 4 (by decide)) rfl
                  have t5 : vs 5 = .int .i64 (nN : Int) := told_is _ (htold 5 (by decide)) rfl
                  have t6 : vs 6 = .pointer (some ⟨dg, nN * 6, none⟩) := told_is _ (htold 6 (by decide)) rfl
                  have t7 : vs 7 = aggV (pr.1.C pr.2) := told_is _ (htold 7 (by decide)) rfl
                  rw [show (List.range 10).map vs = [vs 0, vs 1, vs 2, vs 3, vs 4, vs 5, vs 6, vs 7, vs 8, vs 9] from rfl]
                  simp only [t0, t1, t2, t3, t4, t5, t6, t7, putAll, Act.put, List.setIfInBounds_toArray, List.set_cons_succ, List.set_cons_zero]
                  clear t0 t1 t2 t3 t4 t5 t6 t7 htold
                  obtain ⟨q13, e13, hg13, _, hb13⟩ := hJ.2 (hl 9 (by decide) |> fun _ => hl 8 (by decide))
                  replace hb13 := hb13 (hl 9 (by decide))
                  rw [e13]
                  replace ZT := hide ((unhide ZT).step hJ.1)
                  replace HP := hide ((unhide HP).kept hJ.1 (by simp))
                  replace HP2 : Hid (V6.cell? ⟨p, 2, none⟩ = some (.int .i64 (nN : Int))) := hJ.1.cell (unhide HP2) (by simp)
                  replace HON := hide ((unhide HON).kept0 hJ.1)
                  replace HPB := hide ((unhide HPB).kept hJ.1 (by simp))
                  replace HZ2 : Hid (V6.cell? ⟨z, 2, none⟩ = some (.slice (some ⟨dg, 0, none⟩) dn sc)) := hJ.1.cell (unhide HZ2) (by simp)
                  have HB13 := hide hb13
                  have hp0 : V6.cell? ⟨p, 0, none⟩ = some (.int .i64 x.kind) := fits_cell (unhide HP) 0 _ rfl
                  have HZ := hide (unhide ZT).t.hd
                  have HWK := hide (unhide ZT).t.k
                  clear hJ hl e13 hg13 hb13 HRG
                  go_wp2_with fail
                  clear hp0
                  refine wp_region_any mixed (wpAny_gx 10 rfl (by kernel_rfl) [some (.slice none 0 0), some (P0 z), some (P0 z), some (.pointer (some ⟨z, 2, none⟩)), some (.slice (some ⟨dg, 0, none⟩) dn sc), some (.pointer (some ⟨p, 2, none⟩)), some (.int .i64 (nN : Int)), some (.slice (some ⟨dg, 0, none⟩) nN sc), none, none] rfl (by kernel_rfl) (fun l vs W => (S22 V6 w.heap.size (D.take nN)) (fun i => l.getD i false) vs W) (⟨⟨rfl, rfl, rfl, Nat.le_refl _, fun _ _ _ => rfl⟩, (fun h => by cases h), fun h => by cases h⟩) ?_ ?_)
                  · intro ix o' hi ho a' w2 l vs hls hlf hJ hout hin hdep hnot
                    match ix, ho with
                    | 0, ho =>
                      obtain rfl := Option.some.inj ho
                      have e0 := hout 14 (by kernel_rfl)
                      replace e0 : a'.eval (.tmp 14) = _ := e0.trans rfl
                      exact wp_move (.tmp 14) rfl _ e0 ⟨_, rfl, told_of rfl, keepG (St := (S22 V6 w.heap.size (D.take nN))) [8, 9] S22.loc (by omega) (by decide) hJ⟩
                    | 1, ho =>
                      obtain rfl := Option.some.inj ho
                      have e0 := hout 9 (by kernel_rfl)
                      replace e0 : a'.eval (.tmp 9) = _ := e0.trans rfl
                      exact wp_move (.tmp 9) rfl _ e0 ⟨_, rfl, told_of rfl, keepG (St := (S22 V6 w.heap.size (D.take nN))) [8, 9] S22.loc (by omega) (by decide) hJ⟩
                    | 2, ho =>
                      obtain rfl := Option.some.inj ho
                      have e0 : a'.eval (.tmp 177) = P0 z := by have h9 := hin 1 177 (by kernel_rfl) (by kernel_rfl); exact h9.1.trans (told_is _ h9.2 rfl)
                      exact o_nil (.tmp 177) rfl _ e0 ⟨_, rfl, told_of rfl, keepG (St := (S22 V6 w.heap.size (D.take nN))) [8, 9] S22.loc (by omega) (by decide) hJ⟩
                    | 3, ho =>
                      obtain rfl := Option.some.inj ho
                      have e0 : a'.eval (.tmp 178) = P0 z := by have h9 := hin 2 178 (by kernel_rfl) (by kernel_rfl); exact h9.1.trans (told_is _ h9.2 rfl)
                      exact o_fld54_1 (.tmp 178) rfl _ e0 ⟨_, rfl, told_of rfl, keepG (St := (S22 V6 w.heap.size (D.take nN))) [8, 9] S22.loc (by omega) (by decide) hJ⟩
                    | 4, ho =>
                      obtain rfl := Option.some.inj ho
                      have e0 : a'.eval (.tmp 179) = .pointer (some ⟨z, 2, none⟩) := by have h9 := hin 3 179 (by kernel_rfl) (by kernel_rfl); exact h9.1.trans (told_is _ h9.2 rfl)
                      exact o_load40 (.tmp 179) rfl _ _ e0 (hJ.1.cell (unhide HZ2) (by simp)) ⟨_, rfl, told_of rfl, keepG (St := (S22 V6 w.heap.size (D.take nN))) [8, 9] S22.loc (by omega) (by decide) hJ⟩
                    | 5, ho =>
                      obtain rfl := Option.some.inj ho
                      have e0 := hout 11 (by kernel_rfl)
                      replace e0 : a'.eval (.tmp 11) = _ := e0.trans rfl
                      exact o_fld56_2 (.tmp 11) rfl _ e0 ⟨_, rfl, told_of rfl, keepG (St := (S22 V6 w.heap.size (D.take nN))) [8, 9] S22.loc (by omega) (by decide) hJ⟩
                    | 6, ho =>
                      obtain rfl := Option.some.inj ho
                      have e0 : a'.eval (.tmp 181) = .pointer (some ⟨p, 2, none⟩) := by have h9 := hin 5 181 (by kernel_rfl) (by kernel_rfl); exact h9.1.trans (told_is _ h9.2 rfl)
                      exact o_load3 (.tmp 181) rfl _ _ e0 (hJ.1.cell (unhide HP2) (by simp)) ⟨_, rfl, told_of rfl, keepG (St := (S22 V6 w.heap.size (D.take nN))) [8, 9] S22.loc (by omega) (by decide) hJ⟩
                    | 7, ho =>
                      obtain rfl := Option.some.inj ho
                      have e0 : a'.eval (.tmp 180) = .slice (some ⟨dg, 0, none⟩) dn sc := by have h9 := hin 4 180 (by kernel_rfl) (by kernel_rfl); exact h9.1.trans (told_is _ h9.2 rfl)
                      have e1 : a'.eval (.tmp 182) = .int .i64 (nN : Int) := by have h9 := hin 6 182 (by kernel_rfl) (by kernel_rfl); exact h9.1.trans (told_is _ h9.2 rfl)
                      exact o_slTo (.tmp 180) (.tmp 182) rfl dg dn sc nN (unhide HNC) e0 e1 ⟨_, rfl, told_of rfl, keepG (St := (S22 V6 w.heap.size (D.take nN))) [8, 9] S22.loc (by omega) (by decide) hJ⟩
                    | 8, ho =>
                      obtain rfl := Option.some.inj ho
                      have e0 : a'.eval (.tmp 176) = .slice none 0 0 := by have h9 := hin 0 176 (by kernel_rfl) (by kernel_rfl); exact h9.1.trans (told_is _ h9.2 rfl)
                      have e1 : a'.eval (.tmp 183) = .slice (some ⟨dg, 0, none⟩) nN sc := by have h9 := hin 7 183 (by kernel_rfl) (by kernel_rfl); exact h9.1.trans (told_is _ h9.2 rfl)
                      have hDW := (unhide HON).kept0 hJ.1
                      obtain ⟨ao, cp, he, hlc, hnil, hsrc⟩ := hDW.src
                      rw [← unhide HDN] at he
                      cases he
                      obtain ⟨g9, e9, hcell⟩ := hsrc _ rfl
                      cases e9
                      have hDl := unhide HDL
                      have hnd := unhide HNL
                      have hdd := unhide HDN
                      have hlen : (D.take nN).length = nN := by rw [List.length_take]; omega
                      refine o_appG (size := 6) (by8 := 64) Try.sl40 Try.info35 rfl (by decide) (.tmp 176) (.tmp 183) rfl w.heap.size (.slice none 0 0) 0 [] (cellsD (D.take nN)) e0 (Dl.nil _ _).row (some ⟨dg, 0, none⟩) nN sc e1 (fun h => by cases h) (by rw [cellsD_len, hlen]) (fun ad had j u hj => by cases had; rw [Addr.add_lit, Nat.zero_add]; exact hcell j u (cells_take hj)) (cellsD_ones (fun q hq => hDW.bod q (List.mem_of_mem_take hq))) (by omega) (by omega) (by have h8 := hJ.1.size; have h9 := (unhide HWK).size; omega) fun v' w' g1 g2 g5 => ?_
                      have hK : Kept [] w2 w' := Kept.of_grown g2 (fun k e _ => by cases e)
                      exact ⟨_, rfl, told_no rfl, nextG (St := (S22 V6 w.heap.size (D.take nN))) (by omega) ⟨hJ.1.trans hK, (fun _ => ⟨(Dl.nil w2 w.heap.size).app (R := D.take nN) (by rw [hlen]; exact g1) g2 (fun q hq => hDW.bod q (List.mem_of_mem_take hq)) (fun q hq k e => hDW.new q (List.mem_of_mem_take hq) k e), fun k9 e9 => by rcases g5 with h9 | h9 <;> (have h8 : v'.ownBlock = some k9 := e9; rw [h9] at h8; cases h8); exact hJ.1.size⟩), (fun h9 => by have h9 : l.getD 9 false = true := h9; rw [hnot 9 (by kernel_rfl)] at h9; cases h9)⟩⟩
                    | 9, ho =>
                      obtain rfl := Option.some.inj ho
                      have e0 : a'.eval (.tmp 184) = vs 8 := (hin 8 184 (by kernel_rfl) (by kernel_rfl)).1
                      exact wp_assignV (.tmp 184) rfl _ e0 ⟨_, rfl, told_no rfl, nextG (St := (S22 V6 w.heap.size (D.take nN))) (by omega) ⟨hJ.1, hJ.2.1, fun _ => ⟨rfl, hdep 8 (by kernel_rfl)⟩⟩⟩
                  intro l2 vs2 V7 hl hJ htold
                  have t0 : vs2 0 = .slice none 0 0 := told_is _ (htold 0 (by decide)) rfl
                  have t1 : vs2 1 = P0 z := told_is _ (htold 1 (by decide)) rfl
                  have t2 : vs2 2 = P0 z := told_is _ (htold 2 (by decide)) rfl
                  have t3 : vs2 3 = .pointer (some ⟨z, 2, none⟩) := told_is _ (htold 3 (by decide)) rfl
                  have t4 : vs2 4 = .slice (some ⟨dg, 0, none⟩) dn sc := told_is _ (htold 4 (by decide)) rfl
                  have t5 : vs2 5 = .pointer (some ⟨p, 2, none⟩) := told_is _ (htold 5 (by decide)) rfl
                  have t6 : vs2 6 = .int .i64 (nN : Int) := told_is _ (htold 6 (by decide)) rfl
                  have t7 : vs2 7 = .slice (some ⟨dg, 0, none⟩) nN sc := told_is _ (htold 7 (by decide)) rfl
                  rw [show (List.range 10).map vs2 = [vs2 0, vs2 1, vs2 2, vs2 3, vs2 4, vs2 5, vs2 6, vs2 7, vs2 8, vs2 9] from rfl]
                  simp only [t0, t1, t2, t3, t4, t5, t6, t7, putAll, Act.put, List.setIfInBounds_toArray, List.set_cons_succ, List.set_cons_zero]
                  clear t0 t1 t2 t3 t4 t5 t6 t7 htold
                  obtain ⟨hk7, hl8, hl9⟩ := hJ
                  have HLV := hide (hl8 (hl 8 (by decide))).1
                  have hfr := (hl8 (hl 8 (by decide))).2
                  have e9 := (hl9 (hl 9 (by decide))).1
                  rw [e9]
                  obtain ⟨lv, hlv⟩ : ∃ lv, lv = vs2 8 := ⟨_, rfl⟩
                  rw [← hlv] at HLV hfr ⊢
                  have HFR : Hid (∀ k9, lv.ownBlock = some k9 → k9 ≠ q13) := fun k9 e9 => by have h8 := hfr k9 e9; have h9 := (unhide HB13).lt; omega
                  clear hfr
                  replace ZT := hide ((unhide ZT).step hk7)
                  replace HP := hide ((unhide HP).kept hk7 (by simp))
                  replace HP2 : Hid (V7.cell? ⟨p, 2, none⟩ = some (.int .i64 (nN : Int))) := hk7.cell (unhide HP2) (by simp)
                  replace HON := hide ((unhide HON).kept0 hk7)
                  replace HPB := hide ((unhide HPB).kept hk7 (by simp))
                  replace HZ2 : Hid (V7.cell? ⟨z, 2, none⟩ = some (.slice (some ⟨dg, 0, none⟩) dn sc)) := hk7.cell (unhide HZ2) (by simp)
                  replace HB13 := hide ((unhide HB13).kept hk7 (by simp))
                  replace HZ := hide (unhide ZT).t.hd
                  replace HWK := hide (unhide ZT).t.k
                  clear hk7 hl8 hl9 e9 hlv hl
                  go_wp2_with fail
                  refine wp_region_any mixed (wpAny_gx 14 rfl (by kernel_rfl) [some (P0 z), some (lv), some (P0 z), some (P0 z), some (.pointer (some ⟨z, 2, none⟩)), some (.slice (some ⟨dg, 0, none⟩) dn sc), some (.pointer (some ⟨p, 2, none⟩)), some (.int .i64 (nN : Int)), some (.int .i64 ((nN + 1 : Nat) : Int)), none, none, some (P0 z), some (.pointer (some ⟨z, 2, none⟩)), none] rfl (by kernel_rfl) (fun l vs W => (S23 V7 w.heap.size z dg dn sc nN lv (D.take nN ++ D.drop (nN + 1)) (.slice (some ⟨dg, 0, none⟩) dn sc) (fun u => twC pt u st ou)) (fun i => l.getD i false) vs W) (⟨fun _ => ⟨⟨rfl, rfl, rfl, Nat.le_refl _, fun _ _ _ => rfl⟩, fun h => by cases h⟩, (fun h => by cases h), fun h => by cases h⟩) ?_ ?_)
                  · intro ix o' hi ho a' w2 l vs hls hlf hJ hout hin hdep hnot
                    match ix, ho with
                    | 0, ho =>
                      obtain rfl := Option.some.inj ho
                      have e0 := hout 9 (by kernel_rfl)
                      replace e0 : a'.eval (.tmp 9) = _ := e0.trans rfl
                      exact wp_move (.tmp 9) rfl _ e0 ⟨_, rfl, told_of rfl, keepG (St := (S23 V7 w.heap.size z dg dn sc nN lv (D.take nN ++ D.drop (nN + 1)) (.slice (some ⟨dg, 0, none⟩) dn sc) (fun u => twC pt u st ou))) [9, 10, 13] S23.loc (by omega) (by decide) hJ⟩
                    | 1, ho =>
                      obtain rfl := Option.some.inj ho
                      have e0 := hout 14 (by kernel_rfl)
                      replace e0 : a'.eval (.tmp 14) = _ := e0.trans rfl
                      exact wp_move (.tmp 14) rfl _ e0 ⟨_, rfl, told_of rfl, keepG (St := (S23 V7 w.heap.size z dg dn sc nN lv (D.take nN ++ D.drop (nN + 1)) (.slice (some ⟨dg, 0, none⟩) dn sc) (fun u => twC pt u st ou))) [9, 10, 13] S23.loc (by omega) (by decide) hJ⟩
                    | 2, ho =>
                      obtain rfl := Option.some.inj ho
                      have e0 := hout 9 (by kernel_rfl)
                      replace e0 : a'.eval (.tmp 9) = _ := e0.trans rfl
                      exact wp_move (.tmp 9) rfl _ e0 ⟨_, rfl, told_of rfl, keepG (St := (S23 V7 w.heap.size z dg dn sc nN lv (D.take nN ++ D.drop (nN + 1)) (.slice (some ⟨dg, 0, none⟩) dn sc) (fun u => twC pt u st ou))) [9, 10, 13] S23.loc (by omega) (by decide) hJ⟩
                    | 3, ho =>
                      obtain rfl := Option.some.inj ho
                      have e0 : a'.eval (.tmp 187) = P0 z := by have h9 := hin 2 187 (by kernel_rfl) (by kernel_rfl); exact h9.1.trans (told_is _ h9.2 rfl)
                      exact o_nil (.tmp 187) rfl _ e0 ⟨_, rfl, told_of rfl, keepG (St := (S23 V7 w.heap.size z dg dn sc nN lv (D.take nN ++ D.drop (nN + 1)) (.slice (some ⟨dg, 0, none⟩) dn sc) (fun u => twC pt u st ou))) [9, 10, 13] S23.loc (by omega) (by decide) hJ⟩
                    | 4, ho =>
                      obtain rfl := Option.some.inj ho
                      have e0 : a'.eval (.tmp 188) = P0 z := by have h9 := hin 3 188 (by kernel_rfl) (by kernel_rfl); exact h9.1.trans (told_is _ h9.2 rfl)
                      exact o_fld54_1 (.tmp 188) rfl _ e0 ⟨_, rfl, told_of rfl, keepG (St := (S23 V7 w.heap.size z dg dn sc nN lv (D.take nN ++ D.drop (nN + 1)) (.slice (some ⟨dg, 0, none⟩) dn sc) (fun u => twC pt u st ou))) [9, 10, 13] S23.loc (by omega) (by decide) hJ⟩
                    | 5, ho =>
                      obtain rfl := Option.some.inj ho
                      have e0 : a'.eval (.tmp 189) = .pointer (some ⟨z, 2, none⟩) := by have h9 := hin 4 189 (by kernel_rfl) (by kernel_rfl); exact h9.1.trans (told_is _ h9.2 rfl)
                      exact o_load40 (.tmp 189) rfl _ _ e0 ((hJ.1 (hnot 10 (by kernel_rfl))).1.cell (unhide HZ2) (by simp)) ⟨_, rfl, told_of rfl, keepG (St := (S23 V7 w.heap.size z dg dn sc nN lv (D.take nN ++ D.drop (nN + 1)) (.slice (some ⟨dg, 0, none⟩) dn sc) (fun u => twC pt u st ou))) [9, 10, 13] S23.loc (by omega) (by decide) hJ⟩
                    | 6, ho =>
                      obtain rfl := Option.some.inj ho
                      have e0 := hout 11 (by kernel_rfl)
                      replace e0 : a'.eval (.tmp 11) = _ := e0.trans rfl
                      exact o_fld56_2 (.tmp 11) rfl _ e0 ⟨_, rfl, told_of rfl, keepG (St := (S23 V7 w.heap.size z dg dn sc nN lv (D.take nN ++ D.drop (nN + 1)) (.slice (some ⟨dg, 0, none⟩) dn sc) (fun u => twC pt u st ou))) [9, 10, 13] S23.loc (by omega) (by decide) hJ⟩
                    | 7, ho =>
                      obtain rfl := Option.some.inj ho
                      have e0 : a'.eval (.tmp 191) = .pointer (some ⟨p, 2, none⟩) := by have h9 := hin 6 191 (by kernel_rfl) (by kernel_rfl); exact h9.1.trans (told_is _ h9.2 rfl)
                      exact o_load3 (.tmp 191) rfl _ _ e0 ((hJ.1 (hnot 10 (by kernel_rfl))).1.cell (unhide HP2) (by simp)) ⟨_, rfl, told_of rfl, keepG (St := (S23 V7 w.heap.size z dg dn sc nN lv (D.take nN ++ D.drop (nN + 1)) (.slice (some ⟨dg, 0, none⟩) dn sc) (fun u => twC pt u st ou))) [9, 10, 13] S23.loc (by omega) (by decide) hJ⟩
                    | 8, ho =>
                      obtain rfl := Option.some.inj ho
                      have e0 : a'.eval (.tmp 192) = .int .i64 (nN : Int) := by have h9 := hin 7 192 (by kernel_rfl) (by kernel_rfl); exact h9.1.trans (told_is _ h9.2 rfl)
                      exact o_add1 (.tmp 192) rfl nN (by have h8 := unhide HNL; have h9 := unhide HDL; have h7 := unhide HDN; omega) e0 ⟨_, rfl, told_of rfl, keepG (St := (S23 V7 w.heap.size z dg dn sc nN lv (D.take nN ++ D.drop (nN + 1)) (.slice (some ⟨dg, 0, none⟩) dn sc) (fun u => twC pt u st ou))) [9, 10, 13] S23.loc (by omega) (by decide) hJ⟩
                    | 9, ho =>
                      obtain rfl := Option.some.inj ho
                      have e0 : a'.eval (.tmp 190) = .slice (some ⟨dg, 0, none⟩) dn sc := by have h9 := hin 5 190 (by kernel_rfl) (by kernel_rfl); exact h9.1.trans (told_is _ h9.2 rfl)
                      have e1 : a'.eval (.tmp 193) = .int .i64 ((nN + 1 : Nat) : Int) := by have h9 := hin 8 193 (by kernel_rfl) (by kernel_rfl); exact h9.1.trans (told_is _ h9.2 rfl)
                      refine o_slFrom (.tmp 190) (.tmp 193) rfl dg dn sc (nN + 1) (unhide HDC) (unhide HNL) e0 e1 fun off hoff => ?_
                      exact ⟨_, rfl, told_no rfl, nextG (St := (S23 V7 w.heap.size z dg dn sc nN lv (D.take nN ++ D.drop (nN + 1)) (.slice (some ⟨dg, 0, none⟩) dn sc) (fun u => twC pt u st ou))) (by omega) ⟨fun _ => ⟨(hJ.1 (hnot 10 (by kernel_rfl))).1, fun _ => ⟨off, rfl, hoff⟩⟩, (fun h10 => by have h9 : l.getD 10 false = true := h10; rw [hnot 10 (by kernel_rfl)] at h9; cases h9), fun h => hJ.2.2 h⟩⟩
                    | 10, ho =>
                      obtain rfl := Option.some.inj ho
                      have e0 : a'.eval (.tmp 186) = lv := by have h9 := hin 1 186 (by kernel_rfl) (by kernel_rfl); exact h9.1.trans (told_is _ h9.2 rfl)
                      have e1 : a'.eval (.tmp 194) = vs 9 := (hin 9 194 (by kernel_rfl) (by kernel_rfl)).1
                      obtain ⟨hk0, h9o⟩ := hJ.1 hlf
                      obtain ⟨off, ho9, hoff⟩ := h9o (hdep 9 (by kernel_rfl))
                      have hDW := (unhide HON).kept0 hk0
                      obtain ⟨ao, cp, he, hlc, hnil, hsrc⟩ := hDW.src
                      rw [← unhide HDN] at he
                      cases he
                      obtain ⟨g9, e9, hcell⟩ := hsrc _ rfl
                      cases e9
                      have hDl := unhide HDL
                      have hnd := unhide HNL
                      have hdd := unhide HDN
                      have hLv := (unhide HLV).kept0 hk0
                      have hZ0 := (unhide HZ).kept hk0 (by simp)
                      have hlen : (D.drop (nN + 1)).length = dn - (nN + 1) := by rw [List.length_drop]; omega
                      have htk : (D.take nN).length = nN := by rw [List.length_take]; omega
                      refine o_appG (size := 6) (by8 := 64) Try.sl40 Try.info35 rfl (by decide) (.tmp 186) (.tmp 194) rfl w.heap.size lv (D.take nN).length (cellsD (D.take nN)) (cellsD (D.drop (nN + 1))) e0 hLv.row (some ⟨dg, off, none⟩) (dn - (nN + 1)) (sc - (nN + 1)) (e1.trans ho9) (fun h => by cases h) (by rw [cellsD_len, hlen]) (fun ad had j u hj => by
                        cases had
                        have hjl := (List.getElem?_eq_some_iff.1 hj).1
                        rw [cellsD_len, hlen] at hjl
                        rw [Addr.add_lit, hoff (by omega)]
                        exact hcell _ u (cells_drop (by omega) hj)) (cellsD_ones (fun q hq => hDW.bod q (List.mem_of_mem_drop hq))) (by omega) (by omega) (by have h8 := hk0.size; have h9 := (unhide HWK).size; omega) fun v' w' g1 g2 _ => ?_
                      have hK : Kept lv.ownBlock.toList w2 w' := Kept.of_grown g2 (fun k e _ => by simp [e])
                      have hnz : z ∉ lv.ownBlock.toList := fun hm => by
                        obtain ⟨cs, hc⟩ := owns_block hLv.row z (by simpa using hm)
                        unfold Blk at hZ0
                        rw [hc] at hZ0
                        cases hZ0
                      exact ⟨_, rfl, told_no rfl, nextG (St := (S23 V7 w.heap.size z dg dn sc nN lv (D.take nN ++ D.drop (nN + 1)) (.slice (some ⟨dg, 0, none⟩) dn sc) (fun u => twC pt u st ou))) (by omega) ⟨(fun h => by cases h), fun _ => ⟨hLv.app (R := D.drop (nN + 1)) (by rw [hlen]; exact g1) g2 (fun q hq => hDW.bod q (List.mem_of_mem_drop hq)) (fun q hq k e => hDW.new q (List.mem_of_mem_drop hq) k e), (fun _ => ⟨hZ0.kept hK hnz, (hk0.mono (by simp)).trans hK⟩), (fun h13 => by have h9 : l.getD 13 false = true := h13; rw [hnot 13 (by kernel_rfl)] at h9; cases h9)⟩, (fun h13 => by have h9 : l.getD 13 false = true := h13; rw [hnot 13 (by kernel_rfl)] at h9; cases h9)⟩⟩
                    | 11, ho =>
                      obtain rfl := Option.some.inj ho
                      have e0 : a'.eval (.tmp 185) = P0 z := by have h9 := hin 0 185 (by kernel_rfl) (by kernel_rfl); exact h9.1.trans (told_is _ h9.2 rfl)
                      exact o_nil (.tmp 185) rfl _ e0 ⟨_, rfl, told_of rfl, keepG (St := (S23 V7 w.heap.size z dg dn sc nN lv (D.take nN ++ D.drop (nN + 1)) (.slice (some ⟨dg, 0, none⟩) dn sc) (fun u => twC pt u st ou))) [9, 10, 13] S23.loc (by omega) (by decide) hJ⟩
                    | 12, ho =>
                      obtain rfl := Option.some.inj ho
                      have e0 : a'.eval (.tmp 196) = P0 z := by have h9 := hin 11 196 (by kernel_rfl) (by kernel_rfl); exact h9.1.trans (told_is _ h9.2 rfl)
                      exact o_fld54_1 (.tmp 196) rfl _ e0 ⟨_, rfl, told_of rfl, keepG (St := (S23 V7 w.heap.size z dg dn sc nN lv (D.take nN ++ D.drop (nN + 1)) (.slice (some ⟨dg, 0, none⟩) dn sc) (fun u => twC pt u st ou))) [9, 10, 13] S23.loc (by omega) (by decide) hJ⟩
                    | 13, ho =>
                      obtain rfl := Option.some.inj ho
                      have e0 : a'.eval (.tmp 197) = .pointer (some ⟨z, 2, none⟩) := by have h9 := hin 12 197 (by kernel_rfl) (by kernel_rfl); exact h9.1.trans (told_is _ h9.2 rfl)
                      have e1 : a'.eval (.tmp 195) = vs 10 := (hin 10 195 (by kernel_rfl) (by kernel_rfl)).1
                      obtain ⟨hD, hz0, _⟩ := hJ.2.1 (hdep 10 (by kernel_rfl))
                      obtain ⟨hZ0, hK0⟩ := hz0 hlf
                      obtain ⟨ao9, c9, e9⟩ := owns_slN hD.row
                      refine o_st40 (.tmp 197) (.tmp 195) rfl rfl z 2 54 _ (vs 10) e0 e1 ⟨ao9, _, c9, e9⟩ hZ0 (by simp [twC]) fun W hBW hkW => ⟨_, rfl, told_no rfl, nextG (St := (S23 V7 w.heap.size z dg dn sc nN lv (D.take nN ++ D.drop (nN + 1)) (.slice (some ⟨dg, 0, none⟩) dn sc) (fun u => twC pt u st ou))) (by omega) ⟨(fun h => by have h9 : l.getD 10 false = false := h; have h8 : l.getD 10 false = true := hdep 10 (by kernel_rfl); rw [h9] at h8; cases h8), (fun _ => ⟨hD.kept hkW (fun k e hm => ?_) (fun q hq k e hm => ?_), (fun h => by cases h), fun _ => ⟨hBW, (hK0.mono (fun k hk => List.mem_cons_of_mem _ hk)).trans (hkW.mono (by simp))⟩⟩), fun _ => hdep 10 (by kernel_rfl)⟩⟩
                      · simp at hm; subst hm; obtain ⟨cs, hc⟩ := owns_block hD.row k e; unfold Blk at hZ0; rw [hZ0] at hc; injection hc with hc; injection hc with _ hc; exact absurd hc (by decide)
                      · simp at hm; subst hm; obtain ⟨cs, hc⟩ := (hD.bod q hq).block k e; unfold Blk at hZ0; rw [hZ0] at hc; injection hc with hc; injection hc with _ hc; exact absurd hc (by decide)
                  intro l3 vs3 V8 hl hJ htold
                  have t0 : vs3 0 = P0 z := told_is _ (htold 0 (by decide)) rfl
                  have t1 : vs3 1 = lv := told_is _ (htold 1 (by decide)) rfl
                  have t2 : vs3 2 = P0 z := told_is _ (htold 2 (by decide)) rfl
                  have t3 : vs3 3 = P0 z := told_is _ (htold 3 (by decide)) rfl
                  have t4 : vs3 4 = .pointer (some ⟨z, 2, none⟩) := told_is _ (htold 4 (by decide)) rfl
                  have t5 : vs3 5 = .slice (some ⟨dg, 0, none⟩) dn sc := told_is _ (htold 5 (by decide)) rfl
                  have t6 : vs3 6 = .pointer (some ⟨p, 2, none⟩) := told_is _ (htold 6 (by decide)) rfl
                  have t7 : vs3 7 = .int .i64 (nN : Int) := told_is _ (htold 7 (by decide)) rfl
                  have t8 : vs3 8 = .int .i64 ((nN + 1 : Nat) : Int) := told_is _ (htold 8 (by decide)) rfl
                  have t11 : vs3 11 = P0 z := told_is _ (htold 11 (by decide)) rfl
                  have t12 : vs3 12 = .pointer (some ⟨z, 2, none⟩) := told_is _ (htold 12 (by decide)) rfl
                  rw [show (List.range 14).map vs3 = [vs3 0, vs3 1, vs3 2, vs3 3, vs3 4, vs3 5, vs3 6, vs3 7, vs3 8, vs3 9, vs3 10, vs3 11, vs3 12, vs3 13] from rfl]
                  simp only [t0, t1, t2, t3, t4, t5, t6, t7, t8, t11, t12, putAll, Act.put, List.setIfInBounds_toArray, List.set_cons_succ, List.set_cons_zero]
                  clear t0 t1 t2 t3 t4 t5 t6 t7 t8 t11 t12 htold
                  obtain ⟨hD, _, hz1⟩ := hJ.2.1 (hl 10 (by decide))
                  obtain ⟨hZ1, hK1⟩ := hz1 (hl 13 (by decide))
                  have hT := (unhide ZT).t.setOn (X := lv.ownBlock.toList) hZ1 hK1 (fun k9 hk9 _ => by
                    rw [Option.mem_toList] at hk9
                    exact ⟨owns_ge (unhide HLV).row k9 hk9, owns_block (unhide HLV).row k9 hk9⟩) hD
                  have hsub : ∀ q ∈ D.take nN ++ D.drop (nN + 1), q ∈ D := fun q hq => by
                    rcases List.mem_append.1 hq with hq | hq
                    · exact List.mem_of_mem_take hq
                    · exact List.mem_of_mem_drop hq
                  have hno : ∀ (p9 T : Nat) (cs : Array Value) (q' : Nat × Nat), T ≠ 54 → T ≠ 35 → V7.heap[p9]? = some (Obj.cells cs T q') → p9 ∉ z :: lv.ownBlock.toList := fun p9 T cs q' h1 h2 hp hm => by
                    rcases List.mem_cons.1 hm with rfl | hm
                    · have h9 := unhide HZ; unfold Blk at h9; rw [h9] at hp; cases hp; exact h1 rfl
                    · obtain ⟨cs', hc⟩ := owns_block (unhide HLV).row p9 (by simpa using hm); rw [hc] at hp; cases hp; exact h2 rfl
                  replace HP := hide ((unhide HP).kept hK1 (hno _ _ _ _ (by decide) (by decide) (unhide HP)))
                  replace HPB := hide ((unhide HPB).kept hK1 (fun k9 e9 => by obtain ⟨cs, hc⟩ := (unhide HPB).block k9 e9; exact hno _ _ _ _ (by decide) (by decide) hc))
                  have hlt13 := (unhide HB13).lt
                  have HB13' : Hid (Blk V8 q13 35 (pr.1.C pr.2)) := hide ((unhide HB13).kept hK1 (fun hm => by
                    rcases List.mem_cons.1 hm with rfl | hm
                    · have h9 := unhide HZ; have h8 := unhide HB13; unfold Blk at h9 h8; rw [h9] at h8; cases h8
                    · exact (unhide HFR) q13 (by simpa using hm) rfl))
                  have ZT8 : Hid (Zt w V8 z vw pt sv sw sp (vs3 10) (D.take nN ++ D.drop (nN + 1)) st ou L M k) := ⟨hT, (unhide ZT).iv, (unhide ZT).n, fun q hq => (unhide ZT).d q (hsub q hq)⟩
                  have HDL8 : Hid ((D.take nN ++ D.drop (nN + 1)).length ≤ k * 1001) := hide (by
                    rw [List.length_append, List.length_take, List.length_drop]
                    have h8 := unhide HDL
                    omega)
                  have hp0 : V8.cell? ⟨p, 0, none⟩ = some (.int .i64 x.kind) := fits_cell (unhide HP) 0 _ rfl
                  clear hJ hl hD hz1 hZ1 hK1 hT hsub hno hlt13 HB13 ZT HDL HON HZ HWK HZ2 HP2 HLV
                  obtain ⟨jj, hjj, hwd⟩ := unhide HWD
                  have P25 := hide (zcomeX w _ z vw pt sv sw sp (vs3 10) (D.take nN ++ D.drop (nN + 1)) st ou L M k (unhide ZT8) (1 - jj) (by omega) pr.1 pr.2 (by rw [show 1 - (1 - jj) = jj by omega]; exact hwd) (unhide HPB) (by omega))
                  clear hwd
                  go_wp2_with (
                    first
                    | (refine wpLoadA row35 (by rfl) (.tmp 13) (by rfl) q13 0 (by kernel_rfl) (pr.1.C pr.2) rfl (unhide HB13').range ?_
                       refine Stp.go ?_))
                  constructor
                  go_wp2_with (
                    first
                    | (go_at_call 25
                       refine (unhide P25).mono ?_
                       rintro e V9 ⟨rfl, hkt, sv8, sw8, ou8, M8, hZ8⟩
                       have HZ8 := hide hZ8
                       clear hZ8 hkt P25
                       refine Stp.go ?_))
                  constructor
                  go_wp2_with fail
                  go_meet
                  case rel => exact ⟨_, _, _, _, _, _, _, _, _, hide ((unhide HZ8).mono (by omega)), hide (by have := unhide HDL8; omega)⟩
          case rest =>
            clear ZT HDL HP hp0
            obtain ⟨sv, sw, sp, onv, D, st, ou, L, M, ZT, HDL⟩ := hcut
            have P26 := hide (right26 w _ z pt sv sw sp _ D st ou L M (unhide ZT).t (unhide ZT).iv.right (fun i hi => by rw [(unhide ZT).iv.mq i hi, List.length_take]; have := (unhide ZT).n (1 - i) (by omega); omega) (fun i hi => by rw [(unhide ZT).iv.lq i hi]; have := (unhide ZT).n i hi; omega))
            go_wp2_with (
              first
              | (go_at_call 26
                 refine (unhide P26).mono ?_
                 rintro e V9 ⟨rfl, hk9⟩
                 replace ZT := hide ((unhide ZT).step hk9)
                 clear hk9 P26
                 refine Stp.go ?_))
            constructor
            go_wp2_with fail
            go_roundw
            case rel => exact ⟨k + 1, sv, sw, sp, onv, D, st, ou, L, M, by omega, by go_num, ZT, HDL⟩
            case measure => simp [intOf]; omega
        · as_aux_lemma =>
            have hltI : ¬ (k : Int) < (m : Int) := by omega
            clear hlt
            go_wp2_with fail
            go_loopw [15] (fun n wr => ∃ (t : Nat) (sv : Nat → Value) (sw : Nat → List Value) (sp : Nat → Ps) (ou : Nat → Value) (M : Nat → List (List Int)), t ≤ 2 ∧ n = .int .i64 t ∧ Hid (Zt w wr z vw pt sv sw sp onv D st ou L M k) ∧ Hid (Pg (2 * t) sp)) (fun n _ => 2 - (intOf n).toNat)
            case atStart => exact ⟨0, _, _, _, _, _, by omega, rfl, ZT, hide (show Pg 0 sp from trivial)⟩
            case round =>
              clear ZT
              obtain ⟨t, sv, sw, sp, ou, M, ht, rfl, ZT, HPG⟩ := hrel
              by_cases htt : t < 2
              · have htI : (t : Int) < 2 := by omega
                have hdt : decide ((t : Int) < 2) = true := by simpa using htI
                go_wp2_with fail
                go_loopw [16] (fun n wr => ∃ (q : Nat) (sv : Nat → Value) (sw : Nat → List Value) (sp : Nat → Ps) (ou : Nat → Value) (M : Nat → List (List Int)), q ≤ 2 ∧ n = .int .i64 q ∧ Hid (Zt w wr z vw pt sv sw sp onv D st ou L M k) ∧ Hid (Pg (2 * t + q) sp)) (fun n _ => 2 - (intOf n).toNat)
                case atStart => exact ⟨0, _, _, _, _, _, by omega, rfl, ZT, HPG⟩
                case round =>
                  clear ZT HPG
                  obtain ⟨q, sv, sw, sp, ou, M, hq, rfl, ZT, HPG⟩ := hrel
                  by_cases hq2 : q < 2
                  · have hqI : (q : Int) < 2 := by omega
                    have hdq : decide ((q : Int) < 2) = true := by simpa using hqI
                    have hcz : _ = _ := fits_cell (unhide ZT).t.hd q _ (twC_s hq2)
                    have HS := hide ((unhide ZT).t.s q hq2)
                    go_wp2_with (
                      first
                      | (go_at_call 18
                         refine (again18 (pt q) (sv q) (sw q) (sp q) _ (unhide HS)).mono ?_
                         rintro e V5 ⟨dv, Lr, rfl, hD, hL, hR⟩
                         have hT := (unhide ZT).t.mut (i := q) hq2 hR
                         rw [upd_self, upd_self] at hT
                         have HIV0 := hide (unhide ZT).iv
                         have HOK0 : Hid (∀ i, i < 2 → (sp i).Ok) := fun i hi => ((unhide ZT).t.s i hi).ok
                         have HFD := hide (Fd.init (unhide ZT).iv hq2)
                         have ZT6 : Hid (Zt w V5 z vw pt sv sw (upd sp q (sp q).toldP) onv D st ou L M k) := ⟨hT, (unhide ZT).iv.told hq2, fun i hi => by
                           have h9 := (unhide ZT).n i hi
                           unfold upd
                           split
                           · next e => subst e; exact h9
                           · exact h9, fun pr hpr => by obtain ⟨j, hj, hw⟩ := (unhide ZT).d pr hpr; exact ⟨j, hj, hw.mono (gr_upd (gr_told _) j)⟩⟩
                         obtain ⟨sp6, hsp6⟩ : ∃ y9, y9 = upd sp q (sp q).toldP := ⟨_, rfl⟩
                         rw [← hsp6] at ZT6 HFD
                         have HD := hide hD
                         have HL := hide hL
                         obtain ⟨dao, dc, hdv⟩ := owns_slN hD.row
                         obtain ⟨dn, hdn⟩ : ∃ y9, y9 = Lr.length := ⟨_, rfl⟩
                         rw [← hdn] at hdv
                         subst hdv
                         have HDN := hide hdn
                         have hdb : dn ≤ 1001 := by
                           have h1 := congrArg List.length hL
                           rw [List.length_map] at h1
                           unfold Ps.again at h1
                           have h2 := (unhide HS).ok.many
                           by_cases h3 : (sp q).known < (sp q).sent.length
                           · rw [tellL_len h3] at h1; omega
                           · have h4 := tellL_len0 (P := sp q) (f := (sp q).known) (by omega); omega
                         clear hD hL hR hT hsp6 hdn HS hcz ZT
                         refine Stp.go ?_))
                    constructor
                    go_wp2_with fail
                    go_loopw [18] (fun i wr => ∃ (j : Nat) (sv : Nat → Value) (sw : Nat → List Value) (sp7 : Nat → Ps) (ou : Nat → Value) (M : Nat → List (List Int)), j ≤ dn ∧ i = .int .i64 j ∧ Hid (Zt w wr z vw pt sv sw sp7 onv D st ou L M k) ∧ Hid (Kt V5 wr) ∧ Hid (Fd q sp j sp7)) (fun i _ => dn - (intOf i).toNat)
                    case atStart => exact ⟨0, _, _, _, _, _, by omega, rfl, ZT6, Kt.refl _, HFD⟩
                    case round =>
                      clear ZT6 HFD
                      obtain ⟨j, sv7, sw7, sp7, ou7, M7, hj, rfl, ZT, HKT, HFD⟩ := hrel
                      by_cases hjt : j < dn
                      · have hjI : (j : Int) < (dn : Int) := by omega
                        have hjb : (j : Int) ≤ 1001 := by omega
                        have hDD := (unhide HD).kt (unhide HKT)
                        obtain ⟨pr, hpr⟩ : ∃ pr, Lr[j]? = some pr := ⟨_, List.getElem?_eq_getElem (by have := unhide HDN; omega)⟩
                        obtain ⟨dg, rfl, hrg⟩ := hDD.at hpr
                        have HRG := hide hrg
                        have hag : (sp q).again[j]? = some pr.1 := by rw [← unhide HL, List.getElem?_map, hpr]; rfl
                        have hwd : Wd vw sp7 q pr.1 := (tell_wd (unhide HIV0) hq2 _ pr.1 (List.mem_of_getElem? hag)).mono (by rw [(unhide HFD).me]; exact gr_told _)
                        have HF9 := hide (Fd.step (unhide HFD) hq2 (unhide ZT).iv (fun i hi => ((unhide ZT).t.s i hi).ok) hag hwd)
                        have P25 := hide (zcomeX w wr z vw pt sv7 sw7 sp7 onv D st ou7 L M7 k (unhide ZT) (1 - q) (by omega) pr.1 pr.2 (by rw [show 1 - (1 - q) = q by omega]; exact hwd) (hDD.bod pr (List.mem_of_getElem? hpr)) (by omega))
                        clear hDD hpr hrg hag hwd
                        go_wp2_with (
                          first
                          | (refine wpLoadA row35 (by rfl) (.tmp 231) (by rfl) dg (j * 6) (by kernel_rfl) (pr.1.C pr.2) rfl (unhide HRG) ?_
                             refine Stp.go ?_))
                        constructor
                        go_wp2_with (
                          first
                          | (go_at_call 25
                             refine (unhide P25).mono ?_
                             rintro e V8 ⟨rfl, hkt, sv8, sw8, ou8, M8, hZ8⟩
                             have HZ8 := hide hZ8
                             have HK8 := hide ((unhide HKT).trans hkt)
                             clear hZ8 hkt P25
                             refine Stp.go ?_))
                        constructor
                        go_wp2_with fail
                        go_roundw
                        case rel => exact ⟨j + 1, sv8, sw8, _, ou8, M8, by omega, by go_num, HZ8, HK8, HF9⟩
                        case measure => simp [intOf]; omega
                      · have hjI : ¬ (j : Int) < (dn : Int) := by omega
                        have HDNE := hide (Fd.done hq2 (unhide HIV0) (unhide HOK0) (by have h9 := unhide HFD; rw [show j = (sp q).again.length by have h8 := congrArg List.length (unhide HL); rw [List.length_map] at h8; have := unhide HDN; omega] at h9; exact h9))
                        have HPG2 := hide (Pg.next (unhide HPG) (.inl (by omega)) (unhide HDNE))
                        clear HDNE HFD HKT
                        go_wp2_with fail
                        go_roundw
                        case rel => exact ⟨q + 1, sv7, sw7, sp7, ou7, M7, by omega, by go_num, ZT, by have h9 := unhide HPG2; rw [show 2 * t + q + 1 = 2 * t + (q + 1) by omega] at h9; exact h9⟩
                        case measure => simp [intOf]; omega
                  · have hqI : ¬ (q : Int) < 2 := by omega
                    have hdq : decide ((q : Int) < 2) = false := by simp; omega
                    have HPG3 : Hid (Pg (2 * (t + 1)) sp) := by have h9 := unhide HPG; rw [show 2 * t + q = 2 * (t + 1) by omega] at h9; exact h9
                    go_wp2_with fail
                    go_roundw
                    case rel => exact ⟨t + 1, _, _, _, _, _, by omega, by go_num, ZT, HPG3⟩
                    case measure => simp [intOf]; omega
              · have htI : ¬ (t : Int) < 2 := by omega
                have hdt : decide ((t : Int) < 2) = false := by simp; omega
                have hcz : _ = _ := fits_cell (unhide ZT).t.hd 0 _ (twC_s (by omega))
                have HS := hide ((unhide ZT).t.s 0 (by omega))
                go_wp2_with (
                  first
                  | (go_at_call 18
                     refine (again18 (pt 0) (sv 0) (sw 0) (sp 0) _ (unhide HS)).mono ?_
                     rintro e V5 ⟨dv, Lr, rfl, hD, hL, hR⟩
                     have hT := (unhide ZT).t.mut (i := 0) (by omega : 0 < 2) hR
                     rw [upd_self, upd_self] at hT
                     have HIV0 := hide (unhide ZT).iv
                     have HOK0 : Hid (∀ i, i < 2 → (sp i).Ok) := fun i hi => ((unhide ZT).t.s i hi).ok
                     have HFD := hide (Fd.init (unhide ZT).iv (by omega : 0 < 2))
                     have ZT6 : Hid (Zt w V5 z vw pt sv sw (upd sp 0 (sp 0).toldP) onv D st ou L M k) := ⟨hT, (unhide ZT).iv.told (by omega : 0 < 2), fun i hi => by
                       have h9 := (unhide ZT).n i hi
                       unfold upd
                       split
                       · next e => subst e; exact h9
                       · exact h9, fun pr hpr => by obtain ⟨j, hj, hw⟩ := (unhide ZT).d pr hpr; exact ⟨j, hj, hw.mono (gr_upd (gr_told _) j)⟩⟩
                     obtain ⟨sp6, hsp6⟩ : ∃ y9, y9 = upd sp 0 (sp 0).toldP := ⟨_, rfl⟩
                     rw [← hsp6] at ZT6 HFD
                     have HD := hide hD
                     have HL := hide hL
                     obtain ⟨dao, dc, hdv⟩ := owns_slN hD.row
                     obtain ⟨dn, hdn⟩ : ∃ y9, y9 = Lr.length := ⟨_, rfl⟩
                     rw [← hdn] at hdv
                     subst hdv
                     have HDN := hide hdn
                     have hdb : dn ≤ 1001 := by
                       have h1 := congrArg List.length hL
                       rw [List.length_map] at h1
                       unfold Ps.again at h1
                       have h2 := (unhide HS).ok.many
                       by_cases h3 : (sp 0).known < (sp 0).sent.length
                       · rw [tellL_len h3] at h1; omega
                       · have h4 := tellL_len0 (P := sp 0) (f := (sp 0).known) (by omega); omega
                     clear hD hL hR hT hsp6 hdn HS hcz ZT
                     refine Stp.go ?_))
                constructor
                go_wp2_with fail
                go_loopw [20] (fun i wr => ∃ (j : Nat) (sv : Nat → Value) (sw : Nat → List Value) (sp7 : Nat → Ps) (ou : Nat → Value) (M : Nat → List (List Int)), j ≤ dn ∧ i = .int .i64 j ∧ Hid (Zt w wr z vw pt sv sw sp7 onv D st ou L M k) ∧ Hid (Kt V5 wr) ∧ Hid (Fd 0 sp j sp7)) (fun i _ => dn - (intOf i).toNat)
                case atStart => exact ⟨0, _, _, _, _, _, by omega, rfl, ZT6, Kt.refl _, HFD⟩
                case round =>
                  clear ZT6 HFD
                  obtain ⟨j, sv7, sw7, sp7, ou7, M7, hj, rfl, ZT, HKT, HFD⟩ := hrel
                  by_cases hjt : j < dn
                  · have hjI : (j : Int) < (dn : Int) := by omega
                    have hjb : (j : Int) ≤ 1001 := by omega
                    have hDD := (unhide HD).kt (unhide HKT)
                    obtain ⟨pr, hpr⟩ : ∃ pr, Lr[j]? = some pr := ⟨_, List.getElem?_eq_getElem (by have := unhide HDN; omega)⟩
                    obtain ⟨dg, rfl, hrg⟩ := hDD.at hpr
                    have HRG := hide hrg
                    have hag : (sp 0).again[j]? = some pr.1 := by rw [← unhide HL, List.getElem?_map, hpr]; rfl
                    have hwd : Wd vw sp7 0 pr.1 := (tell_wd (unhide HIV0) (by omega : 0 < 2) _ pr.1 (List.mem_of_getElem? hag)).mono (by rw [(unhide HFD).me]; exact gr_told _)
                    have HF9 := hide (Fd.step (unhide HFD) (by omega : 0 < 2) (unhide ZT).iv (fun i hi => ((unhide ZT).t.s i hi).ok) hag hwd)
                    have P25 := hide (zcomeX w wr z vw pt sv7 sw7 sp7 onv D st ou7 L M7 k (unhide ZT) (1 - 0) (by omega) pr.1 pr.2 (by rw [show 1 - (1 - 0) = 0 by omega]; exact hwd) (hDD.bod pr (List.mem_of_getElem? hpr)) (by omega))
                    clear hDD hpr hrg hag hwd
                    go_wp2_with (
                      first
                      | (refine wpLoadA row35 (by rfl) (.tmp 249) (by rfl) dg (j * 6) (by kernel_rfl) (pr.1.C pr.2) rfl (unhide HRG) ?_
                         refine Stp.go ?_))
                    constructor
                    go_wp2_with (
                      first
                      | (go_at_call 25
                         refine (unhide P25).mono ?_
                         rintro e V8 ⟨rfl, hkt, sv8, sw8, ou8, M8, hZ8⟩
                         have HZ8 := hide hZ8
                         have HK8 := hide ((unhide HKT).trans hkt)
                         clear hZ8 hkt P25
                         refine Stp.go ?_))
                    constructor
                    go_wp2_with fail
                    go_roundw
                    case rel => exact ⟨j + 1, sv8, sw8, _, ou8, M8, by omega, by go_num, HZ8, HK8, HF9⟩
                    case measure => simp [intOf]; omega
                  · have hjI : ¬ (j : Int) < (dn : Int) := by omega
                    have HDNE := hide (Fd.done (by omega : 0 < 2) (unhide HIV0) (unhide HOK0) (by have h9 := unhide HFD; rw [show j = (sp 0).again.length by have h8 := congrArg List.length (unhide HL); rw [List.length_map] at h8; have := unhide HDN; omega] at h9; exact h9))
                    have HPG2 := hide (Pg.next (unhide HPG) (.inr ⟨by omega, by omega⟩) (unhide HDNE))
                    clear HDNE HFD HKT
                    have h9 := unhide HPG2
                    rw [show 2 * t + 1 = 2 + 3 by omega] at h9
                    obtain ⟨f0, f1, s0, s1⟩ := h9
                    obtain ⟨N0, hN0⟩ : ∃ N0, N0 = (sp7 0).sent.length := ⟨_, rfl⟩
                    obtain ⟨N1, hN1⟩ : ∃ N1, N1 = (sp7 1).sent.length := ⟨_, rfl⟩
                    have hz := (unhide ZT).t
                    have hi9 := (unhide ZT).iv
                    have f0' : (sp7 1).got = ((sp7 0).sent.length : Int) := f0
                    have f1' : (sp7 0).got = ((sp7 1).sent.length : Int) := f1
                    have m0 : (M7 0).length = N1 := by rw [hi9.mq 0 (by omega), List.length_take]; show min (sp7 0).got.toNat (sp7 1).sent.length = N1; omega
                    have m1 : (M7 1).length = N0 := by rw [hi9.mq 1 (by omega), List.length_take]; show min (sp7 1).got.toNat (sp7 0).sent.length = N0; omega
                    have l0 : (L 0).length = N0 := by rw [hi9.lq 0 (by omega)]; exact hN0.symm
                    have l1 : (L 1).length = N1 := by rw [hi9.lq 1 (by omega)]; exact hN1.symm
                    obtain ⟨oa0, oc0, eo0⟩ := rb_slice (hz.q 0 (by omega))
                    obtain ⟨oa1, oc1, eo1⟩ := rb_slice (hz.q 1 (by omega))
                    obtain ⟨sa0, sc0, es0⟩ := rb_slice (hz.r 0 (by omega))
                    obtain ⟨sa1, sc1, es1⟩ := rb_slice (hz.r 1 (by omega))
                    rw [m0] at eo0
                    rw [m1] at eo1
                    rw [l0] at es0
                    rw [l1] at es1
                    have HU0 : Hid (wr.cell? ⟨z, 5 + 0, none⟩ = some (.slice oa0 N1 oc0)) := by have h8 := fits_cell hz.hd (5 + 0) _ (twC_ou (by omega)); rw [eo0] at h8; exact h8
                    have HU1 : Hid (wr.cell? ⟨z, 5 + 1, none⟩ = some (.slice oa1 N0 oc1)) := by have h8 := fits_cell hz.hd (5 + 1) _ (twC_ou (by omega)); rw [eo1] at h8; exact h8
                    have HT0 : Hid (wr.cell? ⟨z, 3 + 0, none⟩ = some (.slice sa0 N0 sc0)) := by have h8 := fits_cell hz.hd (3 + 0) _ (twC_st (by omega)); rw [es0] at h8; exact h8
                    have HT1 : Hid (wr.cell? ⟨z, 3 + 1, none⟩ = some (.slice sa1 N1 sc1)) := by have h8 := fits_cell hz.hd (3 + 1) _ (twC_st (by omega)); rw [es1] at h8; exact h8
                    have HC0 : Hid (wr.cell? ⟨z, 0 + 0, none⟩ = some (P0 (pt 0))) := fits_cell hz.hd 0 _ rfl
                    have HC1 : Hid (wr.cell? ⟨z, 0 + 1, none⟩ = some (P0 (pt 1))) := fits_cell hz.hd 1 _ rfl
                    have wait : ∀ i, i < 2 → sure sp7 i → ∀ W, Kept [] wr W → Calls Try.prog 22 #[P0 (pt i)] W fun e w' => e = .returned (.int .i64 0) ∧ Kept [] W w' := by
                      intro i hi hs W hW
                      have hx := (hz.s i hi).kept0 hW
                      refine (waits22 _ _ _ _ W hx).mono ?_
                      rintro e w' ⟨rfl, q9, rfl⟩
                      have h7 := hx.len
                      unfold sure at hs
                      exact ⟨by rw [show (sw7 i).length = 0 by omega]; rfl, kept_drewN [] W q9⟩
                    have HW0 := hide (wait 0 (by omega) s0)
                    have HW1 := hide (wait 1 (by omega) s1)
                    have P26 : Hid (∀ W, Kept [] wr W → Calls Try.prog 26 #[P0 z] W fun e W' => e = .returned (.bool true) ∧ Kept [] W W') := fun W hW => right26 w _ z pt sv7 sw7 sp7 _ D st ou7 L M7 (hz.step hW) hi9.right (fun i hi => by rw [hi9.mq i hi, List.length_take]; have := (unhide ZT).n (1 - i) (by omega); omega) (fun i hi => by rw [hi9.lq i hi]; have := (unhide ZT).n i hi; omega)
                    have HWK := hide hz.k
                    clear hN0 hN1 m0 m1 l0 l1 eo0 eo1 es0 es1 wait f0 f1 f0' f1' s0 s1 hz hi9 HPG2 HPG
                    go_wp2_with fail
                    refine wp_region_any mixed (wpAny_tq 54 rfl (by kernel_rfl) [some (P0 z), some (.bool true), some (.bool true), some (P0 z), some (P0 z), some (.pointer (some ⟨z, 5, none⟩)), some (.pointer (some ⟨z, 5 + 0, none⟩)), some (.slice oa0 N1 oc0), some (.int .i64 N1), some (P0 z), some (P0 z), some (.pointer (some ⟨z, 3, none⟩)), some (.pointer (some ⟨z, 3 + 1, none⟩)), some (.slice sa1 N1 sc1), some (.int .i64 N1), some (.bool true), some (.bool true), some (.bool true), some (P0 z), some (P0 z), some (.pointer (some ⟨z, 5, none⟩)), some (.pointer (some ⟨z, 5 + 1, none⟩)), some (.slice oa1 N0 oc1), some (.int .i64 N0), some (P0 z), some (P0 z), some (.pointer (some ⟨z, 3, none⟩)), some (.pointer (some ⟨z, 3 + 0, none⟩)), some (.slice sa0 N0 sc0), some (.int .i64 N0), some (.bool true), some (.bool true), some (.bool true), some (P0 z), some (P0 z), some (.pointer (some ⟨z, 0, none⟩)), some (.pointer (some ⟨z, 0 + 0, none⟩)), some (P0 (pt 0)), some (.int .i64 0), some (.bool true), some (.bool true), some (.bool true), some (P0 z), some (P0 z), some (.pointer (some ⟨z, 0, none⟩)), some (.pointer (some ⟨z, 0 + 1, none⟩)), some (P0 (pt 1)), some (.int .i64 0), some (.bool true), some (.bool true), some (.bool true), some (.bool true), some (.bool true), some (.bool true)] rfl (by kernel_rfl) (by kernel_rfl) ?_ ?_)
                    · intro i o' hi hsk ho a' w2 hout hin hk2
                      replace hk2 : Kept [] wr w2 := ⟨hk2.os, hk2.tape, hk2.output, hk2.size, hk2.block⟩
                      match i, ho, hsk with
                      | 0, ho, hsk =>
                        obtain rfl := Option.some.inj ho
                        exact wp_move (.tmp 9) rfl _ ((hout 9 (by kernel_rfl)).trans rfl) ⟨_, rfl, tq_is _ _ _ _ rfl, Kept.refl _ _, fun _ _ _ _ _ => trivial⟩
                      | 1, ho, hsk =>
                        obtain rfl := Option.some.inj ho
                        have e0 : a'.eval (.tmp 252) = P0 z := is_tq (hin 0 252 (by kernel_rfl) (by kernel_rfl)) rfl
                        refine wp_callF 26 _ _ rfl #[P0 z] (by simp [e0]) (cf26 _ _) ((unhide P26 _ hk2).mono ?_)
                        rintro e w3 ⟨rfl, hk3⟩
                        exact ⟨_, rfl, _, rfl, tq_is _ _ _ _ rfl, hk3, fun _ _ _ _ _ => trivial⟩
                      | 2, ho, hsk =>
                        obtain rfl := Option.some.inj ho
                        have e0 : a'.eval (.tmp 253) = .bool true := is_tq (hin 1 253 (by kernel_rfl) (by kernel_rfl)) rfl
                        exact wp_move (.tmp 253) rfl _ e0 ⟨_, rfl, tq_is _ _ _ _ rfl, Kept.refl _ _, fun _ _ _ _ _ => trivial⟩
                      | 3, ho, hsk =>
                        obtain rfl := Option.some.inj ho
                        exact wp_move (.tmp 9) rfl _ ((hout 9 (by kernel_rfl)).trans rfl) ⟨_, rfl, tq_is _ _ _ _ rfl, Kept.refl _ _, fun _ _ _ _ _ => trivial⟩
                      | 4, ho, hsk =>
                        obtain rfl := Option.some.inj ho
                        have e0 : a'.eval (.tmp 255) = P0 z := is_tq (hin 3 255 (by kernel_rfl) (by kernel_rfl)) rfl
                        exact o_nil (.tmp 255) rfl _ e0 ⟨_, rfl, tq_is _ _ _ _ rfl, Kept.refl _ _, fun _ _ _ _ _ => trivial⟩
                      | 5, ho, hsk =>
                        obtain rfl := Option.some.inj ho
                        have e0 : a'.eval (.tmp 256) = P0 z := is_tq (hin 4 256 (by kernel_rfl) (by kernel_rfl)) rfl
                        exact o_fld54_3 (.tmp 256) rfl z e0 ⟨_, rfl, tq_is _ _ _ _ rfl, Kept.refl _ _, fun _ _ _ _ _ => trivial⟩
                      | 6, ho, hsk =>
                        obtain rfl := Option.some.inj ho
                        have e0 : a'.eval (.tmp 257) = .pointer (some ⟨z, 5, none⟩) := is_tq (hin 5 257 (by kernel_rfl) (by kernel_rfl)) rfl
                        exact o_idx52 (.tmp 257) (.const (.int .i64 0)) rfl z 5 0 (by omega) e0 rfl ⟨_, rfl, tq_is _ _ _ _ rfl, Kept.refl _ _, fun _ _ _ _ _ => trivial⟩
                      | 7, ho, hsk =>
                        obtain rfl := Option.some.inj ho
                        have e0 : a'.eval (.tmp 258) = .pointer (some ⟨z, 5 + 0, none⟩) := is_tq (hin 6 258 (by kernel_rfl) (by kernel_rfl)) rfl
                        exact o_load30 (.tmp 258) rfl _ _ e0 (hk2.cell (unhide HU0) (by simp)) ⟨_, rfl, tq_is _ _ _ _ rfl, Kept.refl _ _, fun _ _ _ _ _ => trivial⟩
                      | 8, ho, hsk =>
                        obtain rfl := Option.some.inj ho
                        have e0 : a'.eval (.tmp 259) = .slice oa0 N1 oc0 := is_tq (hin 7 259 (by kernel_rfl) (by kernel_rfl)) rfl
                        exact o_len30 (.tmp 259) rfl _ N1 _ e0 ⟨_, rfl, tq_is _ _ _ _ rfl, Kept.refl _ _, fun _ _ _ _ _ => trivial⟩
                      | 9, ho, hsk =>
                        obtain rfl := Option.some.inj ho
                        exact wp_move (.tmp 9) rfl _ ((hout 9 (by kernel_rfl)).trans rfl) ⟨_, rfl, tq_is _ _ _ _ rfl, Kept.refl _ _, fun _ _ _ _ _ => trivial⟩
                      | 10, ho, hsk =>
                        obtain rfl := Option.some.inj ho
                        have e0 : a'.eval (.tmp 261) = P0 z := is_tq (hin 9 261 (by kernel_rfl) (by kernel_rfl)) rfl
                        exact o_nil (.tmp 261) rfl _ e0 ⟨_, rfl, tq_is _ _ _ _ rfl, Kept.refl _ _, fun _ _ _ _ _ => trivial⟩
                      | 11, ho, hsk =>
                        obtain rfl := Option.some.inj ho
                        have e0 : a'.eval (.tmp 262) = P0 z := is_tq (hin 10 262 (by kernel_rfl) (by kernel_rfl)) rfl
                        exact o_fld54_2 (.tmp 262) rfl z e0 ⟨_, rfl, tq_is _ _ _ _ rfl, Kept.refl _ _, fun _ _ _ _ _ => trivial⟩
                      | 12, ho, hsk =>
                        obtain rfl := Option.some.inj ho
                        have e0 : a'.eval (.tmp 263) = .pointer (some ⟨z, 3, none⟩) := is_tq (hin 11 263 (by kernel_rfl) (by kernel_rfl)) rfl
                        exact o_idx52 (.tmp 263) (.const (.int .i64 1)) rfl z 3 1 (by omega) e0 rfl ⟨_, rfl, tq_is _ _ _ _ rfl, Kept.refl _ _, fun _ _ _ _ _ => trivial⟩
                      | 13, ho, hsk =>
                        obtain rfl := Option.some.inj ho
                        have e0 : a'.eval (.tmp 264) = .pointer (some ⟨z, 3 + 1, none⟩) := is_tq (hin 12 264 (by kernel_rfl) (by kernel_rfl)) rfl
                        exact o_load30 (.tmp 264) rfl _ _ e0 (hk2.cell (unhide HT1) (by simp)) ⟨_, rfl, tq_is _ _ _ _ rfl, Kept.refl _ _, fun _ _ _ _ _ => trivial⟩
                      | 14, ho, hsk =>
                        obtain rfl := Option.some.inj ho
                        have e0 : a'.eval (.tmp 265) = .slice sa1 N1 sc1 := is_tq (hin 13 265 (by kernel_rfl) (by kernel_rfl)) rfl
                        exact o_len30 (.tmp 265) rfl _ N1 _ e0 ⟨_, rfl, tq_is _ _ _ _ rfl, Kept.refl _ _, fun _ _ _ _ _ => trivial⟩
                      | 15, ho, hsk =>
                        obtain rfl := Option.some.inj ho
                        have e0 : a'.eval (.tmp 260) = .int .i64 N1 := is_tq (hin 8 260 (by kernel_rfl) (by kernel_rfl)) rfl
                        have e1 : a'.eval (.tmp 266) = .int .i64 N1 := is_tq (hin 14 266 (by kernel_rfl) (by kernel_rfl)) rfl
                        exact o_eqlT3 (.tmp 260) (.tmp 266) rfl _ _ true (by simp) e0 e1 ⟨_, rfl, tq_is _ _ _ _ rfl, Kept.refl _ _, fun _ _ _ _ _ => trivial⟩
                      | 16, ho, hsk =>
                        obtain rfl := Option.some.inj ho
                        have e0 : a'.eval (.tmp 254) = .bool true := is_tq (hin 2 254 (by kernel_rfl) (by kernel_rfl)) rfl
                        have e1 : a'.eval (.tmp 267) = .bool true := is_tq (hin 15 267 (by kernel_rfl) (by kernel_rfl)) rfl
                        exact o_pick (.tmp 254) (.tmp 267) rfl _ e0 e1 ⟨_, rfl, tq_is _ _ _ _ rfl, Kept.refl _ _, fun _ _ _ _ _ => trivial⟩
                      | 17, ho, hsk =>
                        obtain rfl := Option.some.inj ho
                        have e0 : a'.eval (.tmp 268) = .bool true := is_tq (hin 16 268 (by kernel_rfl) (by kernel_rfl)) rfl
                        exact wp_move (.tmp 268) rfl _ e0 ⟨_, rfl, tq_is _ _ _ _ rfl, Kept.refl _ _, fun _ _ _ _ _ => trivial⟩
                      | 18, ho, hsk =>
                        obtain rfl := Option.some.inj ho
                        exact wp_move (.tmp 9) rfl _ ((hout 9 (by kernel_rfl)).trans rfl) ⟨_, rfl, tq_is _ _ _ _ rfl, Kept.refl _ _, fun _ _ _ _ _ => trivial⟩
                      | 19, ho, hsk =>
                        obtain rfl := Option.some.inj ho
                        have e0 : a'.eval (.tmp 270) = P0 z := is_tq (hin 18 270 (by kernel_rfl) (by kernel_rfl)) rfl
                        exact o_nil (.tmp 270) rfl _ e0 ⟨_, rfl, tq_is _ _ _ _ rfl, Kept.refl _ _, fun _ _ _ _ _ => trivial⟩
                      | 20, ho, hsk =>
                        obtain rfl := Option.some.inj ho
                        have e0 : a'.eval (.tmp 271) = P0 z := is_tq (hin 19 271 (by kernel_rfl) (by kernel_rfl)) rfl
                        exact o_fld54_3 (.tmp 271) rfl z e0 ⟨_, rfl, tq_is _ _ _ _ rfl, Kept.refl _ _, fun _ _ _ _ _ => trivial⟩
                      | 21, ho, hsk =>
                        obtain rfl := Option.some.inj ho
                        have e0 : a'.eval (.tmp 272) = .pointer (some ⟨z, 5, none⟩) := is_tq (hin 20 272 (by kernel_rfl) (by kernel_rfl)) rfl
                        exact o_idx52 (.tmp 272) (.const (.int .i64 1)) rfl z 5 1 (by omega) e0 rfl ⟨_, rfl, tq_is _ _ _ _ rfl, Kept.refl _ _, fun _ _ _ _ _ => trivial⟩
                      | 22, ho, hsk =>
                        obtain rfl := Option.some.inj ho
                        have e0 : a'.eval (.tmp 273) = .pointer (some ⟨z, 5 + 1, none⟩) := is_tq (hin 21 273 (by kernel_rfl) (by kernel_rfl)) rfl
                        exact o_load30 (.tmp 273) rfl _ _ e0 (hk2.cell (unhide HU1) (by simp)) ⟨_, rfl, tq_is _ _ _ _ rfl, Kept.refl _ _, fun _ _ _ _ _ => trivial⟩
                      | 23, ho, hsk =>
                        obtain rfl := Option.some.inj ho
                        have e0 : a'.eval (.tmp 274) = .slice oa1 N0 oc1 := is_tq (hin 22 274 (by kernel_rfl) (by kernel_rfl)) rfl
                        exact o_len30 (.tmp 274) rfl _ N0 _ e0 ⟨_, rfl, tq_is _ _ _ _ rfl, Kept.refl _ _, fun _ _ _ _ _ => trivial⟩
                      | 24, ho, hsk =>
                        obtain rfl := Option.some.inj ho
                        exact wp_move (.tmp 9) rfl _ ((hout 9 (by kernel_rfl)).trans rfl) ⟨_, rfl, tq_is _ _ _ _ rfl, Kept.refl _ _, fun _ _ _ _ _ => trivial⟩
                      | 25, ho, hsk =>
                        obtain rfl := Option.some.inj ho
                        have e0 : a'.eval (.tmp 276) = P0 z := is_tq (hin 24 276 (by kernel_rfl) (by kernel_rfl)) rfl
                        exact o_nil (.tmp 276) rfl _ e0 ⟨_, rfl, tq_is _ _ _ _ rfl, Kept.refl _ _, fun _ _ _ _ _ => trivial⟩
                      | 26, ho, hsk =>
                        obtain rfl := Option.some.inj ho
                        have e0 : a'.eval (.tmp 277) = P0 z := is_tq (hin 25 277 (by kernel_rfl) (by kernel_rfl)) rfl
                        exact o_fld54_2 (.tmp 277) rfl z e0 ⟨_, rfl, tq_is _ _ _ _ rfl, Kept.refl _ _, fun _ _ _ _ _ => trivial⟩
                      | 27, ho, hsk =>
                        obtain rfl := Option.some.inj ho
                        have e0 : a'.eval (.tmp 278) = .pointer (some ⟨z, 3, none⟩) := is_tq (hin 26 278 (by kernel_rfl) (by kernel_rfl)) rfl
                        exact o_idx52 (.tmp 278) (.const (.int .i64 0)) rfl z 3 0 (by omega) e0 rfl ⟨_, rfl, tq_is _ _ _ _ rfl, Kept.refl _ _, fun _ _ _ _ _ => trivial⟩
                      | 28, ho, hsk =>
                        obtain rfl := Option.some.inj ho
                        have e0 : a'.eval (.tmp 279) = .pointer (some ⟨z, 3 + 0, none⟩) := is_tq (hin 27 279 (by kernel_rfl) (by kernel_rfl)) rfl
                        exact o_load30 (.tmp 279) rfl _ _ e0 (hk2.cell (unhide HT0) (by simp)) ⟨_, rfl, tq_is _ _ _ _ rfl, Kept.refl _ _, fun _ _ _ _ _ => trivial⟩
                      | 29, ho, hsk =>
                        obtain rfl := Option.some.inj ho
                        have e0 : a'.eval (.tmp 280) = .slice sa0 N0 sc0 := is_tq (hin 28 280 (by kernel_rfl) (by kernel_rfl)) rfl
                        exact o_len30 (.tmp 280) rfl _ N0 _ e0 ⟨_, rfl, tq_is _ _ _ _ rfl, Kept.refl _ _, fun _ _ _ _ _ => trivial⟩
                      | 30, ho, hsk =>
                        obtain rfl := Option.some.inj ho
                        have e0 : a'.eval (.tmp 275) = .int .i64 N0 := is_tq (hin 23 275 (by kernel_rfl) (by kernel_rfl)) rfl
                        have e1 : a'.eval (.tmp 281) = .int .i64 N0 := is_tq (hin 29 281 (by kernel_rfl) (by kernel_rfl)) rfl
                        exact o_eqlT3 (.tmp 275) (.tmp 281) rfl _ _ true (by simp) e0 e1 ⟨_, rfl, tq_is _ _ _ _ rfl, Kept.refl _ _, fun _ _ _ _ _ => trivial⟩
                      | 31, ho, hsk =>
                        obtain rfl := Option.some.inj ho
                        have e0 : a'.eval (.tmp 269) = .bool true := is_tq (hin 17 269 (by kernel_rfl) (by kernel_rfl)) rfl
                        have e1 : a'.eval (.tmp 282) = .bool true := is_tq (hin 30 282 (by kernel_rfl) (by kernel_rfl)) rfl
                        exact o_pick (.tmp 269) (.tmp 282) rfl _ e0 e1 ⟨_, rfl, tq_is _ _ _ _ rfl, Kept.refl _ _, fun _ _ _ _ _ => trivial⟩
                      | 32, ho, hsk =>
                        obtain rfl := Option.some.inj ho
                        have e0 : a'.eval (.tmp 283) = .bool true := is_tq (hin 31 283 (by kernel_rfl) (by kernel_rfl)) rfl
                        exact wp_move (.tmp 283) rfl _ e0 ⟨_, rfl, tq_is _ _ _ _ rfl, Kept.refl _ _, fun _ _ _ _ _ => trivial⟩
                      | 33, ho, hsk =>
                        obtain rfl := Option.some.inj ho
                        exact wp_move (.tmp 9) rfl _ ((hout 9 (by kernel_rfl)).trans rfl) ⟨_, rfl, tq_is _ _ _ _ rfl, Kept.refl _ _, fun _ _ _ _ _ => trivial⟩
                      | 34, ho, hsk =>
                        obtain rfl := Option.some.inj ho
                        have e0 : a'.eval (.tmp 285) = P0 z := is_tq (hin 33 285 (by kernel_rfl) (by kernel_rfl)) rfl
                        exact o_nil (.tmp 285) rfl _ e0 ⟨_, rfl, tq_is _ _ _ _ rfl, Kept.refl _ _, fun _ _ _ _ _ => trivial⟩
                      | 35, ho, hsk =>
                        obtain rfl := Option.some.inj ho
                        have e0 : a'.eval (.tmp 286) = P0 z := is_tq (hin 34 286 (by kernel_rfl) (by kernel_rfl)) rfl
                        exact o_fld54_0 (.tmp 286) rfl z e0 ⟨_, rfl, tq_is _ _ _ _ rfl, Kept.refl _ _, fun _ _ _ _ _ => trivial⟩
                      | 36, ho, hsk =>
                        obtain rfl := Option.some.inj ho
                        have e0 : a'.eval (.tmp 287) = .pointer (some ⟨z, 0, none⟩) := is_tq (hin 35 287 (by kernel_rfl) (by kernel_rfl)) rfl
                        exact o_idx51 (.tmp 287) (.const (.int .i64 0)) rfl z 0 0 (by omega) e0 rfl ⟨_, rfl, tq_is _ _ _ _ rfl, Kept.refl _ _, fun _ _ _ _ _ => trivial⟩
                      | 37, ho, hsk =>
                        obtain rfl := Option.some.inj ho
                        have e0 : a'.eval (.tmp 288) = .pointer (some ⟨z, 0 + 0, none⟩) := is_tq (hin 36 288 (by kernel_rfl) (by kernel_rfl)) rfl
                        exact o_load23 (.tmp 288) rfl _ _ e0 (hk2.cell (unhide HC0) (by simp)) ⟨_, rfl, tq_is _ _ _ _ rfl, Kept.refl _ _, fun _ _ _ _ _ => trivial⟩
                      | 38, ho, hsk =>
                        obtain rfl := Option.some.inj ho
                        have e0 : a'.eval (.tmp 289) = P0 (pt 0) := is_tq (hin 37 289 (by kernel_rfl) (by kernel_rfl)) rfl
                        refine wp_callF 22 _ _ rfl #[P0 (pt 0)] (by simp [e0]) (cf22 _ _) ((unhide HW0 _ hk2).mono ?_)
                        rintro e w3 ⟨rfl, hk3⟩
                        exact ⟨_, rfl, _, rfl, tq_is _ _ _ _ rfl, hk3, fun _ _ _ _ _ => trivial⟩
                      | 39, ho, hsk =>
                        obtain rfl := Option.some.inj ho
                        have e0 : a'.eval (.tmp 290) = .int .i64 0 := is_tq (hin 38 290 (by kernel_rfl) (by kernel_rfl)) rfl
                        exact o_eqlT3 (.tmp 290) (.const (.int .i64 0)) rfl _ _ true (by simp) e0 rfl ⟨_, rfl, tq_is _ _ _ _ rfl, Kept.refl _ _, fun _ _ _ _ _ => trivial⟩
                      | 40, ho, hsk =>
                        obtain rfl := Option.some.inj ho
                        have e0 : a'.eval (.tmp 284) = .bool true := is_tq (hin 32 284 (by kernel_rfl) (by kernel_rfl)) rfl
                        have e1 : a'.eval (.tmp 291) = .bool true := is_tq (hin 39 291 (by kernel_rfl) (by kernel_rfl)) rfl
                        exact o_pick (.tmp 284) (.tmp 291) rfl _ e0 e1 ⟨_, rfl, tq_is _ _ _ _ rfl, Kept.refl _ _, fun _ _ _ _ _ => trivial⟩
                      | 41, ho, hsk =>
                        obtain rfl := Option.some.inj ho
                        have e0 : a'.eval (.tmp 292) = .bool true := is_tq (hin 40 292 (by kernel_rfl) (by kernel_rfl)) rfl
                        exact wp_move (.tmp 292) rfl _ e0 ⟨_, rfl, tq_is _ _ _ _ rfl, Kept.refl _ _, fun _ _ _ _ _ => trivial⟩
                      | 42, ho, hsk =>
                        obtain rfl := Option.some.inj ho
                        exact wp_move (.tmp 9) rfl _ ((hout 9 (by kernel_rfl)).trans rfl) ⟨_, rfl, tq_is _ _ _ _ rfl, Kept.refl _ _, fun _ _ _ _ _ => trivial⟩
                      | 43, ho, hsk =>
                        obtain rfl := Option.some.inj ho
                        have e0 : a'.eval (.tmp 294) = P0 z := is_tq (hin 42 294 (by kernel_rfl) (by kernel_rfl)) rfl
                        exact o_nil (.tmp 294) rfl _ e0 ⟨_, rfl, tq_is _ _ _ _ rfl, Kept.refl _ _, fun _ _ _ _ _ => trivial⟩
                      | 44, ho, hsk =>
                        obtain rfl := Option.some.inj ho
                        have e0 : a'.eval (.tmp 295) = P0 z := is_tq (hin 43 295 (by kernel_rfl) (by kernel_rfl)) rfl
                        exact o_fld54_0 (.tmp 295) rfl z e0 ⟨_, rfl, tq_is _ _ _ _ rfl, Kept.refl _ _, fun _ _ _ _ _ => trivial⟩
                      | 45, ho, hsk =>
                        obtain rfl := Option.some.inj ho
                        have e0 : a'.eval (.tmp 296) = .pointer (some ⟨z, 0, none⟩) := is_tq (hin 44 296 (by kernel_rfl) (by kernel_rfl)) rfl
                        exact o_idx51 (.tmp 296) (.const (.int .i64 1)) rfl z 0 1 (by omega) e0 rfl ⟨_, rfl, tq_is _ _ _ _ rfl, Kept.refl _ _, fun _ _ _ _ _ => trivial⟩
                      | 46, ho, hsk =>
                        obtain rfl := Option.some.inj ho
                        have e0 : a'.eval (.tmp 297) = .pointer (some ⟨z, 0 + 1, none⟩) := is_tq (hin 45 297 (by kernel_rfl) (by kernel_rfl)) rfl
                        exact o_load23 (.tmp 297) rfl _ _ e0 (hk2.cell (unhide HC1) (by simp)) ⟨_, rfl, tq_is _ _ _ _ rfl, Kept.refl _ _, fun _ _ _ _ _ => trivial⟩
                      | 47, ho, hsk =>
                        obtain rfl := Option.some.inj ho
                        have e0 : a'.eval (.tmp 298) = P0 (pt 1) := is_tq (hin 46 298 (by kernel_rfl) (by kernel_rfl)) rfl
                        refine wp_callF 22 _ _ rfl #[P0 (pt 1)] (by simp [e0]) (cf22 _ _) ((unhide HW1 _ hk2).mono ?_)
                        rintro e w3 ⟨rfl, hk3⟩
                        exact ⟨_, rfl, _, rfl, tq_is _ _ _ _ rfl, hk3, fun _ _ _ _ _ => trivial⟩
                      | 48, ho, hsk =>
                        obtain rfl := Option.some.inj ho
                        have e0 : a'.eval (.tmp 299) = .int .i64 0 := is_tq (hin 47 299 (by kernel_rfl) (by kernel_rfl)) rfl
                        exact o_eqlT3 (.tmp 299) (.const (.int .i64 0)) rfl _ _ true (by simp) e0 rfl ⟨_, rfl, tq_is _ _ _ _ rfl, Kept.refl _ _, fun _ _ _ _ _ => trivial⟩
                      | 49, ho, hsk =>
                        obtain rfl := Option.some.inj ho
                        have e0 : a'.eval (.tmp 293) = .bool true := is_tq (hin 41 293 (by kernel_rfl) (by kernel_rfl)) rfl
                        have e1 : a'.eval (.tmp 300) = .bool true := is_tq (hin 48 300 (by kernel_rfl) (by kernel_rfl)) rfl
                        exact o_pick (.tmp 293) (.tmp 300) rfl _ e0 e1 ⟨_, rfl, tq_is _ _ _ _ rfl, Kept.refl _ _, fun _ _ _ _ _ => trivial⟩
                      | 50, ho, hsk =>
                        obtain rfl := Option.some.inj ho
                        have e0 : a'.eval (.tmp 301) = .bool true := is_tq (hin 49 301 (by kernel_rfl) (by kernel_rfl)) rfl
                        exact wp_move (.tmp 301) rfl _ e0 ⟨_, rfl, tq_is _ _ _ _ rfl, Kept.refl _ _, fun _ _ _ _ _ => trivial⟩
                      | 51, ho, hsk =>
                        obtain rfl := Option.some.inj ho
                        refine wp_callF 11 _ _ rfl #[] (by simp) (cf11 _ _) ((known11 _).mono ?_)
                        rintro e w3 ⟨rfl, hk3⟩
                        exact ⟨_, rfl, _, rfl, tq_is _ _ _ _ rfl, hk3, fun _ _ _ _ _ => trivial⟩
                      | 52, ho, hsk =>
                        obtain rfl := Option.some.inj ho
                        have e0 : a'.eval (.tmp 302) = .bool true := is_tq (hin 50 302 (by kernel_rfl) (by kernel_rfl)) rfl
                        have e1 : a'.eval (.tmp 303) = .bool true := is_tq (hin 51 303 (by kernel_rfl) (by kernel_rfl)) rfl
                        exact o_pick (.tmp 302) (.tmp 303) rfl _ e0 e1 ⟨_, rfl, tq_is _ _ _ _ rfl, Kept.refl _ _, fun _ _ _ _ _ => trivial⟩
                      | 53, ho, hsk =>
                        obtain rfl := Option.some.inj ho
                        have e0 : a'.eval (.tmp 304) = .bool true := is_tq (hin 52 304 (by kernel_rfl) (by kernel_rfl)) rfl
                        exact wp_assignV (.tmp 304) rfl _ e0 ⟨_, rfl, tq_is _ _ _ _ rfl, Kept.refl _ _, fun _ _ _ _ _ => trivial⟩
                    intro w9 hk9
                    replace hk9 : Kept [] wr w9 := ⟨hk9.os, hk9.tape, hk9.output, hk9.size, hk9.block⟩
                    simp only [valsQ, List.map_cons, List.map_nil, Option.getD_some, List.take_succ_cons, List.take_zero, putAll, Act.put, List.setIfInBounds_toArray, List.set_cons_succ, List.set_cons_zero]
                    refine wpAny_done (by kernel_rfl) ?_ _
                    go_wp2_with fail
                    go_ret
                    exact ⟨rfl, (unhide HWK).trans hk9⟩

    · have hmI : (80 : Int) < (m : Int) := by omega
      go_enter Try.func4, Try.ntmps4
      go_wp2_with (
        first
        | (go_at_call 9
           refine (unhide PN0 _).mono ?_
           rintro e V1 ⟨b0, rfl, e1, hs, hk⟩
           have MA : Hid (Sm w V1 b0 (.slice none 0 0) [] (newP 0 1 vw)) := ⟨hs, hk, by omega, fun i h => by cases h⟩
           clear e1 hs hk PN0)
        | (go_at_call 9
           refine (unhide PN1 _).mono ?_
           rintro e V2 ⟨b1, rfl, e1, hs, hk⟩
           have MB : Hid (Sm w V2 b1 (.slice none 0 0) [] (newP 1 0 vw)) := ⟨hs, (unhide MA).k.trans hk, by have h1 := (unhide MA).k.size; omega, fun i h => by cases h⟩
           have HNEB : Hid (b0 ≠ b1) := by have h1 := (unhide MA).sx.head.lt; exact (by omega : b0 ≠ b1)
           replace MA := hide ((unhide MA).step hk)
           clear e1 hs hk PN1)
        | (go_at_call 10
           refine (unhide PM _).mono ?_
           rintro e V3 ⟨rfl, hw9⟩
           obtain rfl := hw9.symm
           clear hw9 PM)
        | (go_at_call 11
           refine (known11 _).mono ?_
           rintro e V9 ⟨rfl, hk⟩
           have HK := hide hk
           clear hk))
      go_ret
      exact ⟨rfl, (unhide MB).k.trans (unhide HK)⟩

end Go.Proofs.Ythbgnpbkdeofcaa
