/-
  The walk of SessionLost.
-/
import Derived.Test.YthbgnpbkdeofcaaTf
import Derived.Deep.CutBlock
namespace Go.Proofs.Ythbgnpbkdeofcaa
set_option maxRecDepth 100000
open Go.RowKit

set_option maxHeartbeats 8000000 in
theorem lost6 (vw : Int) (ao : Option Addr) (m c : Nat) (X : List Mv) (w : World) (hX : Mvs w w.heap.size ao m X) : Calls Try.prog 6 #[.int .i64 vw, .slice ao m c] w fun e w' => e = .returned (.bool true) ∧ Kept [] w w' := by
  have HX := hide hX
  clear hX
  cases hmay : mayB 0 1 vw with
  | false =>
    have hmay2 : mayB 1 0 vw = false := hmay
    have PN0 := hide (fun W => new_no 0 1 vw W hmay)
    have PN1 := hide (fun W => new_no 1 0 vw W hmay2)
    have PM := hide (fun W => may10 0 1 vw W)
    rw [hmay] at PM
    clear hmay hmay2
    go_enter Try.func6, Try.ntmps6
    go_wp2_with (
      first
      | (go_at_call 9
         refine (unhide PN0 _).mono ?_
         rintro e V1 ⟨rfl, hw9⟩
         obtain rfl := hw9.symm
         clear hw9 PN0)
      | (go_at_call 9
         refine (unhide PN1 _).mono ?_
         rintro e V1 ⟨rfl, hw9⟩
         obtain rfl := hw9.symm
         clear hw9 PN1)
      | (go_at_call 10
         refine (unhide PM _).mono ?_
         rintro e V3 ⟨rfl, hw9⟩
         obtain rfl := hw9.symm
         clear hw9 PM)
      | (go_at_call 11
         refine (known11 _).mono ?_
         rintro e V9 ⟨rfl, hk⟩
         have HK := hide hk
         clear hk))
    go_ret
    exact ⟨rfl, unhide HK⟩
  | true =>
    have hmay2 : mayB 1 0 vw = true := hmay
    have PN0 := hide (fun W => new_yes 0 1 vw W hmay)
    have PN1 := hide (fun W => new_yes 1 0 vw W hmay2)
    have PM := hide (fun W => may10 0 1 vw W)
    rw [hmay] at PM
    clear hmay hmay2
    by_cases hm : m ≤ 60
    · have hmI : ¬ (60 : Int) < (m : Int) := by omega
      clear PM
      go_enter Try.func6, Try.ntmps6
      go_wp2_with (
        first
        | (go_at_call 9
           refine (unhide PN0 _).mono ?_
           rintro e V1 ⟨b0, rfl, e1, hs, hk⟩
           have MA : Hid (Sm w V1 b0 (.slice none 0 0) [] (newP 0 1 vw)) := ⟨hs, hk, by omega, fun i h => by cases h⟩
           clear e1 hs hk PN0)
        | (go_at_call 9
           refine (unhide PN1 _).mono ?_
           rintro e V2 ⟨b1, rfl, e1, hs, hk⟩
           have MB : Hid (Sm w V2 b1 (.slice none 0 0) [] (newP 1 0 vw)) := ⟨hs, (unhide MA).k.trans hk, by have h1 := (unhide MA).k.size; omega, fun i h => by cases h⟩
           have HNEB : Hid (b0 ≠ b1) := by have h1 := (unhide MA).sx.head.lt; exact (by omega : b0 ≠ b1)
           replace MA := hide ((unhide MA).step hk)
           clear e1 hs hk PN1)
        | (refine wpBuildP (by rfl) #[(0, .tmp 54), (1, .tmp 55)] (by rfl) #[(0, P0 b0), (1, P0 b1)] (by kernel_rfl) [P0 b0, P0 b1] (build51 _ _ _) ?_
           obtain ⟨pt, rfl, rfl⟩ : ∃ pt : Nat → Nat, pt 0 = b0 ∧ pt 1 = b1 := ⟨fun j => if j = 0 then b0 else b1, rfl, rfl⟩)
        | (refine wpBuildP (by rfl) #[(0, .tmp 56)] (by rfl) #[(0, aggV [P0 (pt 0), P0 (pt 1)])] (by kernel_rfl) (twC pt (.slice none 0 0) nilS nilS) (build54 _ _) ?_)
        | (refine wpBoxV (by rfl) (.tmp 57) (by rfl) (twC pt (.slice none 0 0) nilS nilS) (by kernel_rfl) ?_
           intro V3 z e3 B3 K3
           have ZT := hide (Zt.init ((unhide MA).step K3) ((unhide MB).step K3) B3 (by have h1 := (unhide MA).k.size; have h2 := (unhide MB).k.size; omega) (unhide HNEB))
           clear e3 B3 K3 MA MB HNEB))
      go_loopw [10] (fun i wr => ∃ (k : Nat) (sv : Nat → Value) (sw : Nat → List Value) (sp : Nat → Ps) (st ou : Nat → Value) (L M : Nat → List (List Int)), k ≤ m ∧ i = .int .i64 k ∧ Hid (Zt w wr z vw pt sv sw sp (.slice none 0 0) [] st ou L M k)) (fun i _ => m - (intOf i).toNat)
      case atStart => exact ⟨0, _, _, _, _, _, _, _, by omega, rfl, ZT⟩
      case round =>
        clear ZT
        obtain ⟨k, sv, sw, sp, st, ou, L, M, hk, rfl, ZT⟩ := hrel
        have HXw := hide (Mvs.kept0 (unhide HX) (unhide ZT).t.k)
        by_cases hlt : k < m
        · obtain ⟨x, hx⟩ : ∃ x, X[k]? = some x := ⟨_, List.getElem?_eq_getElem (by rw [(unhide HX).len]; exact hlt)⟩
          obtain ⟨gx, offx, rfl, _, hl⟩ := (unhide HXw).lies (by intro e; rw [e] at hx; simp at hx)
          have HRX := hide (hl k x hx)
          have HXO := hide ((unhide HX).ok x (List.mem_of_getElem? hx))
          have hltI : (k : Int) < (m : Int) := by omega
          obtain ⟨i, hi2, hand⟩ := and_one2 x.who
          clear hl hx HXw
          go_wp2_with (
            first
            | (refine wpLoadA row56 (by rfl) (.tmp 67) (by rfl) gx (offx + k * 4) (by kernel_rfl) x.C rfl (unhide HRX) ?_)
            | (refine wpNew row56 zM rfl alloc56 11 (by rfl) (by rfl) (by rfl) (.tmp 68) (by rfl) (by rfl) (by rfl) x.C rfl (mvC_one x) (by kernel_rfl) (by kernel_rfl) ?_
               intro V4 p e4 B4 K4
               have HP := hide B4
               replace ZT := hide ((unhide ZT).step K4)
               clear e4 B4 K4 HRX
               have hp0 := fits_cell (unhide HP) 0 _ rfl
               have hp1 := fits_cell (unhide HP) 1 _ rfl
               refine Stp.go ?_))
          constructor
          have h01 : i = 0 ∨ i = 1 := by omega
          rcases h01 with rfl | rfl
          · go_upto_region 11 with fail
            clear hp1 hand
            go_cut [86] from 59 to 85 (fun t w1c => ∃ (b : Bool) (v1 : Value) (ws1 : List Value), t = .bool b ∧ Hid (Tt w w1c z pt (upd sv 0 v1) (upd sw 0 ws1) (cond b (upd sp 0 ((sp 0).put x.y.bs)) sp) (.slice none 0 0) [] st ou L M) ∧ Hid (Blk w1c p 56 x.C))
            case first =>
              as_aux_lemma =>
                have HPL : Hid ((sp 0).sent.length < 1000) := by have h1 := (unhide ZT).n 0 (by omega); exact (by omega : (sp 0).sent.length < 1000)
                have HS := hide ((unhide ZT).t.s 0 (by omega))
                by_cases hk1 : x.kind = 1
                · rw [hk1] at hp0
                  have HP0 := hide hp0
                  have HP3 : Hid (V4.cell? ⟨p, 3, none⟩ = some x.y.v) := fits_cell (unhide HP) 3 _ rfl
                  have HC0 : Hid (V4.cell? ⟨z, 0 + 0, none⟩ = some (P0 (pt 0))) := fits_cell (unhide ZT).t.hd (0 + 0) _ rfl
                  have HWK := hide (unhide ZT).t.k
                  clear hp0
                  by_cases hbl : 256 < x.y.bs.length
                  · have HSE : Hid ((sp 0).send x.y.bs = (sp 0, 3)) := by unfold Ps.send; rw [if_pos hbl]; exact hide rfl
                    refine wp_region_any mixed (wpAny_gz 15 rfl [some (.pointer (some ⟨p, 0, none⟩)), some (.int .i64 1), some (.bool true), some (.bool true), some (P0 z), some (.int .i64 0), some (P0 z), some (.pointer (some ⟨z, 0, none⟩)), some (.pointer (some ⟨z, 0 + 0, none⟩)), some (P0 (pt 0)), some (.pointer (some ⟨p, 3, none⟩)), some (x.y.v), some (.int .i64 3), some (.bool false), some (.bool false)] (by kernel_rfl) rfl (by kernel_rfl) (fun l vs W => (T11s V4 (pt 0) (sv 0) (sw 0) (sp 0)) (fun i => l.getD i false) vs W) (⟨fun _ => ⟨rfl, rfl, rfl, Nat.le_refl _, fun _ _ _ => rfl⟩, fun h => by cases h⟩) ?_ ?_)
                    · intro ix o' hi ho a' w2 l vs hls hlf hJ hout hin hdep hnot
                      match ix, ho with
                      | 0, ho =>
                        obtain rfl := Option.some.inj ho
                        have e0 := hout 11 (by kernel_rfl)
                        replace e0 : a'.eval (.tmp 11) = _ := e0.trans rfl
                        exact o_fld56_0 (.tmp 11) rfl _ e0 ⟨_, rfl, told_of rfl, keepG (St := (T11s V4 (pt 0) (sv 0) (sw 0) (sp 0))) [12] T11s.loc (by omega) (by decide) hJ⟩
                      | 1, ho =>
                        obtain rfl := Option.some.inj ho
                        have e0 : a'.eval (.tmp 72) = .pointer (some ⟨p, 0, none⟩) := by have h9 := hin 0 72 (by kernel_rfl) (by kernel_rfl); exact h9.1.trans (told_is _ h9.2 rfl)
                        exact o_load3 (.tmp 72) rfl _ _ e0 ((hJ.1 (hnot 12 (by kernel_rfl))).cell (unhide HP0) (by simp)) ⟨_, rfl, told_of rfl, keepG (St := (T11s V4 (pt 0) (sv 0) (sw 0) (sp 0))) [12] T11s.loc (by omega) (by decide) hJ⟩
                      | 2, ho =>
                        obtain rfl := Option.some.inj ho
                        have e0 : a'.eval (.tmp 73) = .int .i64 1 := by have h9 := hin 1 73 (by kernel_rfl) (by kernel_rfl); exact h9.1.trans (told_is _ h9.2 rfl)
                        exact o_eqlT3 (.tmp 73) (.const (.int .i64 1)) rfl _ _ true (by simp) e0 rfl ⟨_, rfl, told_of rfl, keepG (St := (T11s V4 (pt 0) (sv 0) (sw 0) (sp 0))) [12] T11s.loc (by omega) (by decide) hJ⟩
                      | 3, ho =>
                        obtain rfl := Option.some.inj ho
                        have e0 : a'.eval (.tmp 74) = .bool true := by have h9 := hin 2 74 (by kernel_rfl) (by kernel_rfl); exact h9.1.trans (told_is _ h9.2 rfl)
                        exact wp_move (.tmp 74) rfl _ e0 ⟨_, rfl, told_of rfl, keepG (St := (T11s V4 (pt 0) (sv 0) (sw 0) (sp 0))) [12] T11s.loc (by omega) (by decide) hJ⟩
                      | 4, ho =>
                        obtain rfl := Option.some.inj ho
                        have e0 := hout 9 (by kernel_rfl)
                        replace e0 : a'.eval (.tmp 9) = _ := e0.trans rfl
                        exact wp_move (.tmp 9) rfl _ e0 ⟨_, rfl, told_of rfl, keepG (St := (T11s V4 (pt 0) (sv 0) (sw 0) (sp 0))) [12] T11s.loc (by omega) (by decide) hJ⟩
                      | 5, ho =>
                        obtain rfl := Option.some.inj ho
                        have e0 := hout 12 (by kernel_rfl)
                        replace e0 : a'.eval (.tmp 12) = _ := e0.trans rfl
                        exact wp_move (.tmp 12) rfl _ e0 ⟨_, rfl, told_of rfl, keepG (St := (T11s V4 (pt 0) (sv 0) (sw 0) (sp 0))) [12] T11s.loc (by omega) (by decide) hJ⟩
                      | 6, ho =>
                        obtain rfl := Option.some.inj ho
                        have e0 : a'.eval (.tmp 76) = P0 z := by have h9 := hin 4 76 (by kernel_rfl) (by kernel_rfl); exact h9.1.trans (told_is _ h9.2 rfl)
                        exact o_nil (.tmp 76) rfl _ e0 ⟨_, rfl, told_of rfl, keepG (St := (T11s V4 (pt 0) (sv 0) (sw 0) (sp 0))) [12] T11s.loc (by omega) (by decide) hJ⟩
                      | 7, ho =>
                        obtain rfl := Option.some.inj ho
                        have e0 : a'.eval (.tmp 78) = P0 z := by have h9 := hin 6 78 (by kernel_rfl) (by kernel_rfl); exact h9.1.trans (told_is _ h9.2 rfl)
                        exact o_fld54_0 (.tmp 78) rfl _ e0 ⟨_, rfl, told_of rfl, keepG (St := (T11s V4 (pt 0) (sv 0) (sw 0) (sp 0))) [12] T11s.loc (by omega) (by decide) hJ⟩
                      | 8, ho =>
                        obtain rfl := Option.some.inj ho
                        have e0 : a'.eval (.tmp 79) = .pointer (some ⟨z, 0, none⟩) := by have h9 := hin 7 79 (by kernel_rfl) (by kernel_rfl); exact h9.1.trans (told_is _ h9.2 rfl)
                        have e1 : a'.eval (.tmp 77) = .int .i64 0 := by have h9 := hin 5 77 (by kernel_rfl) (by kernel_rfl); exact h9.1.trans (told_is _ h9.2 rfl)
                        exact o_idx51 (.tmp 79) (.tmp 77) rfl z 0 0 (by omega) e0 e1 ⟨_, rfl, told_of rfl, keepG (St := (T11s V4 (pt 0) (sv 0) (sw 0) (sp 0))) [12] T11s.loc (by omega) (by decide) hJ⟩
                      | 9, ho =>
                        obtain rfl := Option.some.inj ho
                        have e0 : a'.eval (.tmp 80) = .pointer (some ⟨z, 0 + 0, none⟩) := by have h9 := hin 8 80 (by kernel_rfl) (by kernel_rfl); exact h9.1.trans (told_is _ h9.2 rfl)
                        exact o_load23 (.tmp 80) rfl _ _ e0 ((hJ.1 (hnot 12 (by kernel_rfl))).cell (unhide HC0) (by simp)) ⟨_, rfl, told_of rfl, keepG (St := (T11s V4 (pt 0) (sv 0) (sw 0) (sp 0))) [12] T11s.loc (by omega) (by decide) hJ⟩
                      | 10, ho =>
                        obtain rfl := Option.some.inj ho
                        have e0 := hout 11 (by kernel_rfl)
                        replace e0 : a'.eval (.tmp 11) = _ := e0.trans rfl
                        exact o_fld56_3 (.tmp 11) rfl _ e0 ⟨_, rfl, told_of rfl, keepG (St := (T11s V4 (pt 0) (sv 0) (sw 0) (sp 0))) [12] T11s.loc (by omega) (by decide) hJ⟩
                      | 11, ho =>
                        obtain rfl := Option.some.inj ho
                        have e0 : a'.eval (.tmp 82) = .pointer (some ⟨p, 3, none⟩) := by have h9 := hin 10 82 (by kernel_rfl) (by kernel_rfl); exact h9.1.trans (told_is _ h9.2 rfl)
                        exact o_load33 (.tmp 82) rfl _ _ e0 ((hJ.1 (hnot 12 (by kernel_rfl))).cell (unhide HP3) (by simp)) ⟨_, rfl, told_of rfl, keepG (St := (T11s V4 (pt 0) (sv 0) (sw 0) (sp 0))) [12] T11s.loc (by omega) (by decide) hJ⟩
                      | 12, ho =>
                        obtain rfl := Option.some.inj ho
                        have e0 : a'.eval (.tmp 81) = P0 (pt 0) := by have h9 := hin 9 81 (by kernel_rfl) (by kernel_rfl); exact h9.1.trans (told_is _ h9.2 rfl)
                        have e1 : a'.eval (.tmp 83) = x.y.v := by have h9 := hin 11 83 (by kernel_rfl) (by kernel_rfl); exact h9.1.trans (told_is _ h9.2 rfl)
                        have hk0 := hJ.1 hlf
                        refine wp_callF 12 _ _ rfl #[P0 (pt 0), x.y.v] (by simp [e0, e1]) (cf12 _ _) ((send_arg w2 (pt 0) (sv 0) (sw 0) (sp 0) x.y w.heap.size ((unhide HS).kept0 hk0) ((unhide HXO).y.kept ((unhide HWK).trans hk0) (by simp)) (unhide HPL)).mono ?_)
                        rintro e w3 ⟨rfl, v', ws', hR⟩
                        rw [unhide HSE] at hR ⊢
                        exact ⟨_, rfl, _, rfl, told_of rfl, nextG (St := (T11s V4 (pt 0) (sv 0) (sw 0) (sp 0))) (by omega) ⟨(fun h => by cases h), fun _ => ⟨v', ws', hR.after hk0⟩⟩⟩
                      | 13, ho =>
                        obtain rfl := Option.some.inj ho
                        have e0 : a'.eval (.tmp 84) = .int .i64 3 := by have h9 := hin 12 84 (by kernel_rfl) (by kernel_rfl); exact h9.1.trans (told_is _ h9.2 rfl)
                        exact o_eqlT24 (.tmp 84) (.const (.int .i64 0)) rfl _ _ false (by decide) e0 rfl ⟨_, rfl, told_of rfl, keepG (St := (T11s V4 (pt 0) (sv 0) (sw 0) (sp 0))) [12] T11s.loc (by omega) (by decide) hJ⟩
                      | 14, ho =>
                        obtain rfl := Option.some.inj ho
                        have e0 : a'.eval (.tmp 75) = .bool true := by have h9 := hin 3 75 (by kernel_rfl) (by kernel_rfl); exact h9.1.trans (told_is _ h9.2 rfl)
                        have e1 : a'.eval (.tmp 85) = .bool false := by have h9 := hin 13 85 (by kernel_rfl) (by kernel_rfl); exact h9.1.trans (told_is _ h9.2 rfl)
                        exact o_pick (.tmp 75) (.tmp 85) rfl _ e0 e1 ⟨_, rfl, told_of rfl, keepG (St := (T11s V4 (pt 0) (sv 0) (sw 0) (sp 0))) [12] T11s.loc (by omega) (by decide) hJ⟩
                    intro l vs w9 hl hJ htold
                    have t0 : vs 0 = .pointer (some ⟨p, 0, none⟩) := told_is _ (htold 0 (by decide)) rfl
                    have t1 : vs 1 = .int .i64 1 := told_is _ (htold 1 (by decide)) rfl
                    have t2 : vs 2 = .bool true := told_is _ (htold 2 (by decide)) rfl
                    have t3 : vs 3 = .bool true := told_is _ (htold 3 (by decide)) rfl
                    have t4 : vs 4 = P0 z := told_is _ (htold 4 (by decide)) rfl
                    have t5 : vs 5 = .int .i64 0 := told_is _ (htold 5 (by decide)) rfl
                    have t6 : vs 6 = P0 z := told_is _ (htold 6 (by decide)) rfl
                    have t7 : vs 7 = .pointer (some ⟨z, 0, none⟩) := told_is _ (htold 7 (by decide)) rfl
                    have t8 : vs 8 = .pointer (some ⟨z, 0 + 0, none⟩) := told_is _ (htold 8 (by decide)) rfl
                    have t9 : vs 9 = P0 (pt 0) := told_is _ (htold 9 (by decide)) rfl
                    have t10 : vs 10 = .pointer (some ⟨p, 3, none⟩) := told_is _ (htold 10 (by decide)) rfl
                    have t11 : vs 11 = x.y.v := told_is _ (htold 11 (by decide)) rfl
                    have t12 : vs 12 = .int .i64 3 := told_is _ (htold 12 (by decide)) rfl
                    have t13 : vs 13 = .bool false := told_is _ (htold 13 (by decide)) rfl
                    have t14 : vs 14 = .bool false := told_is _ (htold 14 (by decide)) rfl
                    rw [show (List.range 15).map vs = [vs 0, vs 1, vs 2, vs 3, vs 4, vs 5, vs 6, vs 7, vs 8, vs 9, vs 10, vs 11, vs 12, vs 13, vs 14] from rfl]
                    simp only [t0, t1, t2, t3, t4, t5, t6, t7, t8, t9, t10, t11, t12, t13, t14, putAll, Act.put, List.setIfInBounds_toArray, List.set_cons_succ, List.set_cons_zero]
                    clear t0 t1 t2 t3 t4 t5 t6 t7 t8 t9 t10 t11 t12 t13 t14 htold
                    obtain ⟨v1, ws1, hR⟩ := hJ.2 (hl 12 (by decide))
                    have HT := hide ((unhide ZT).t.mut (i := 0) (by omega) hR)
                    replace HP := hide (hR.blk (unhide HS) (unhide HP) (by decide) (by decide))
                    clear hR hJ hl HP0 HP3 HC0 HS HWK HPL HSE hbl
                    go_wp2_with fail
                    go_meet
                    case rel => exact ⟨false, v1, ws1, rfl, by have h9 := unhide HT; rw [upd_self sp] at h9; exact hide h9, HP⟩
                  · have HSE : Hid ((sp 0).send x.y.bs = ((sp 0).put x.y.bs, 0)) := by unfold Ps.send; rw [if_neg hbl]; exact hide rfl
                    refine wp_region_any mixed (wpAny_gz 15 rfl [some (.pointer (some ⟨p, 0, none⟩)), some (.int .i64 1), some (.bool true), some (.bool true), some (P0 z), some (.int .i64 0), some (P0 z), some (.pointer (some ⟨z, 0, none⟩)), some (.pointer (some ⟨z, 0 + 0, none⟩)), some (P0 (pt 0)), some (.pointer (some ⟨p, 3, none⟩)), some (x.y.v), some (.int .i64 0), some (.bool true), some (.bool true)] (by kernel_rfl) rfl (by kernel_rfl) (fun l vs W => (T11s V4 (pt 0) (sv 0) (sw 0) ((sp 0).put x.y.bs)) (fun i => l.getD i false) vs W) (⟨fun _ => ⟨rfl, rfl, rfl, Nat.le_refl _, fun _ _ _ => rfl⟩, fun h => by cases h⟩) ?_ ?_)
                    · intro ix o' hi ho a' w2 l vs hls hlf hJ hout hin hdep hnot
                      match ix, ho with
                      | 0, ho =>
                        obtain rfl := Option.some.inj ho
                        have e0 := hout 11 (by kernel_rfl)
                        replace e0 : a'.eval (.tmp 11) = _ := e0.trans rfl
                        exact o_fld56_0 (.tmp 11) rfl _ e0 ⟨_, rfl, told_of rfl, keepG (St := (T11s V4 (pt 0) (sv 0) (sw 0) ((sp 0).put x.y.bs))) [12] T11s.loc (by omega) (by decide) hJ⟩
                      | 1, ho =>
                        obtain rfl := Option.some.inj ho
                        have e0 : a'.eval (.tmp 72) = .pointer (some ⟨p, 0, none⟩) := by have h9 := hin 0 72 (by kernel_rfl) (by kernel_rfl); exact h9.1.trans (told_is _ h9.2 rfl)
                        exact o_load3 (.tmp 72) rfl _ _ e0 ((hJ.1 (hnot 12 (by kernel_rfl))).cell (unhide HP0) (by simp)) ⟨_, rfl, told_of rfl, keepG (St := (T11s V4 (pt 0) (sv 0) (sw 0) ((sp 0).put x.y.bs))) [12] T11s.loc (by omega) (by decide) hJ⟩
                      | 2, ho =>
                        obtain rfl := Option.some.inj ho
                        have e0 : a'.eval (.tmp 73) = .int .i64 1 := by have h9 := hin 1 73 (by kernel_rfl) (by kernel_rfl); exact h9.1.trans (told_is _ h9.2 rfl)
                        exact o_eqlT3 (.tmp 73) (.const (.int .i64 1)) rfl _ _ true (by simp) e0 rfl ⟨_, rfl, told_of rfl, keepG (St := (T11s V4 (pt 0) (sv 0) (sw 0) ((sp 0).put x.y.bs))) [12] T11s.loc (by omega) (by decide) hJ⟩
                      | 3, ho =>
                        obtain rfl := Option.some.inj ho
                        have e0 : a'.eval (.tmp 74) = .bool true := by have h9 := hin 2 74 (by kernel_rfl) (by kernel_rfl); exact h9.1.trans (told_is _ h9.2 rfl)
                        exact wp_move (.tmp 74) rfl _ e0 ⟨_, rfl, told_of rfl, keepG (St := (T11s V4 (pt 0) (sv 0) (sw 0) ((sp 0).put x.y.bs))) [12] T11s.loc (by omega) (by decide) hJ⟩
                      | 4, ho =>
                        obtain rfl := Option.some.inj ho
                        have e0 := hout 9 (by kernel_rfl)
                        replace e0 : a'.eval (.tmp 9) = _ := e0.trans rfl
                        exact wp_move (.tmp 9) rfl _ e0 ⟨_, rfl, told_of rfl, keepG (St := (T11s V4 (pt 0) (sv 0) (sw 0) ((sp 0).put x.y.bs))) [12] T11s.loc (by omega) (by decide) hJ⟩
                      | 5, ho =>
                        obtain rfl := Option.some.inj ho
                        have e0 := hout 12 (by kernel_rfl)
                        replace e0 : a'.eval (.tmp 12) = _ := e0.trans rfl
                        exact wp_move (.tmp 12) rfl _ e0 ⟨_, rfl, told_of rfl, keepG (St := (T11s V4 (pt 0) (sv 0) (sw 0) ((sp 0).put x.y.bs))) [12] T11s.loc (by omega) (by decide) hJ⟩
                      | 6, ho =>
                        obtain rfl := Option.some.inj ho
                        have e0 : a'.eval (.tmp 76) = P0 z := by have h9 := hin 4 76 (by kernel_rfl) (by kernel_rfl); exact h9.1.trans (told_is _ h9.2 rfl)
                        exact o_nil (.tmp 76) rfl _ e0 ⟨_, rfl, told_of rfl, keepG (St := (T11s V4 (pt 0) (sv 0) (sw 0) ((sp 0).put x.y.bs))) [12] T11s.loc (by omega) (by decide) hJ⟩
                      | 7, ho =>
                        obtain rfl := Option.some.inj ho
                        have e0 : a'.eval (.tmp 78) = P0 z := by have h9 := hin 6 78 (by kernel_rfl) (by kernel_rfl); exact h9.1.trans (told_is _ h9.2 rfl)
                        exact o_fld54_0 (.tmp 78) rfl _ e0 ⟨_, rfl, told_of rfl, keepG (St := (T11s V4 (pt 0) (sv 0) (sw 0) ((sp 0).put x.y.bs))) [12] T11s.loc (by omega) (by decide) hJ⟩
                      | 8, ho =>
                        obtain rfl := Option.some.inj ho
                        have e0 : a'.eval (.tmp 79) = .pointer (some ⟨z, 0, none⟩) := by have h9 := hin 7 79 (by kernel_rfl) (by kernel_rfl); exact h9.1.trans (told_is _ h9.2 rfl)
                        have e1 : a'.eval (.tmp 77) = .int .i64 0 := by have h9 := hin 5 77 (by kernel_rfl) (by kernel_rfl); exact h9.1.trans (told_is _ h9.2 rfl)
                        exact o_idx51 (.tmp 79) (.tmp 77) rfl z 0 0 (by omega) e0 e1 ⟨_, rfl, told_of rfl, keepG (St := (T11s V4 (pt 0) (sv 0) (sw 0) ((sp 0).put x.y.bs))) [12] T11s.loc (by omega) (by decide) hJ⟩
                      | 9, ho =>
                        obtain rfl := Option.some.inj ho
                        have e0 : a'.eval (.tmp 80) = .pointer (some ⟨z, 0 + 0, none⟩) := by have h9 := hin 8 80 (by kernel_rfl) (by kernel_rfl); exact h9.1.trans (told_is _ h9.2 rfl)
                        exact o_load23 (.tmp 80) rfl _ _ e0 ((hJ.1 (hnot 12 (by kernel_rfl))).cell (unhide HC0) (by simp)) ⟨_, rfl, told_of rfl, keepG (St := (T11s V4 (pt 0) (sv 0) (sw 0) ((sp 0).put x.y.bs))) [12] T11s.loc (by omega) (by decide) hJ⟩
                      | 10, ho =>
                        obtain rfl := Option.some.inj ho
                        have e0 := hout 11 (by kernel_rfl)
                        replace e0 : a'.eval (.tmp 11) = _ := e0.trans rfl
                        exact o_fld56_3 (.tmp 11) rfl _ e0 ⟨_, rfl, told_of rfl, keepG (St := (T11s V4 (pt 0) (sv 0) (sw 0) ((sp 0).put x.y.bs))) [12] T11s.loc (by omega) (by decide) hJ⟩
                      | 11, ho =>
                        obtain rfl := Option.some.inj ho
                        have e0 : a'.eval (.tmp 82) = .pointer (some ⟨p, 3, none⟩) := by have h9 := hin 10 82 (by kernel_rfl) (by kernel_rfl); exact h9.1.trans (told_is _ h9.2 rfl)
                        exact o_load33 (.tmp 82) rfl _ _ e0 ((hJ.1 (hnot 12 (by kernel_rfl))).cell (unhide HP3) (by simp)) ⟨_, rfl, told_of rfl, keepG (St := (T11s V4 (pt 0) (sv 0) (sw 0) ((sp 0).put x.y.bs))) [12] T11s.loc (by omega) (by decide) hJ⟩
                      | 12, ho =>
                        obtain rfl := Option.some.inj ho
                        have e0 : a'.eval (.tmp 81) = P0 (pt 0) := by have h9 := hin 9 81 (by kernel_rfl) (by kernel_rfl); exact h9.1.trans (told_is _ h9.2 rfl)
                        have e1 : a'.eval (.tmp 83) = x.y.v := by have h9 := hin 11 83 (by kernel_rfl) (by kernel_rfl); exact h9.1.trans (told_is _ h9.2 rfl)
                        have hk0 := hJ.1 hlf
                        refine wp_callF 12 _ _ rfl #[P0 (pt 0), x.y.v] (by simp [e0, e1]) (cf12 _ _) ((send_arg w2 (pt 0) (sv 0) (sw 0) (sp 0) x.y w.heap.size ((unhide HS).kept0 hk0) ((unhide HXO).y.kept ((unhide HWK).trans hk0) (by simp)) (unhide HPL)).mono ?_)
                        rintro e w3 ⟨rfl, v', ws', hR⟩
                        rw [unhide HSE] at hR ⊢
                        exact ⟨_, rfl, _, rfl, told_of rfl, nextG (St := (T11s V4 (pt 0) (sv 0) (sw 0) ((sp 0).put x.y.bs))) (by omega) ⟨(fun h => by cases h), fun _ => ⟨v', ws', hR.after hk0⟩⟩⟩
                      | 13, ho =>
                        obtain rfl := Option.some.inj ho
                        have e0 : a'.eval (.tmp 84) = .int .i64 0 := by have h9 := hin 12 84 (by kernel_rfl) (by kernel_rfl); exact h9.1.trans (told_is _ h9.2 rfl)
                        exact o_eqlT24 (.tmp 84) (.const (.int .i64 0)) rfl _ _ true (by decide) e0 rfl ⟨_, rfl, told_of rfl, keepG (St := (T11s V4 (pt 0) (sv 0) (sw 0) ((sp 0).put x.y.bs))) [12] T11s.loc (by omega) (by decide) hJ⟩
                      | 14, ho =>
                        obtain rfl := Option.some.inj ho
                        have e0 : a'.eval (.tmp 75) = .bool true := by have h9 := hin 3 75 (by kernel_rfl) (by kernel_rfl); exact h9.1.trans (told_is _ h9.2 rfl)
                        have e1 : a'.eval (.tmp 85) = .bool true := by have h9 := hin 13 85 (by kernel_rfl) (by kernel_rfl); exact h9.1.trans (told_is _ h9.2 rfl)
                        exact o_pick (.tmp 75) (.tmp 85) rfl _ e0 e1 ⟨_, rfl, told_of rfl, keepG (St := (T11s V4 (pt 0) (sv 0) (sw 0) ((sp 0).put x.y.bs))) [12] T11s.loc (by omega) (by decide) hJ⟩
                    intro l vs w9 hl hJ htold
                    have t0 : vs 0 = .pointer (some ⟨p, 0, none⟩) := told_is _ (htold 0 (by decide)) rfl
                    have t1 : vs 1 = .int .i64 1 := told_is _ (htold 1 (by decide)) rfl
                    have t2 : vs 2 = .bool true := told_is _ (htold 2 (by decide)) rfl
                    have t3 : vs 3 = .bool true := told_is _ (htold 3 (by decide)) rfl
                    have t4 : vs 4 = P0 z := told_is _ (htold 4 (by decide)) rfl
                    have t5 : vs 5 = .int .i64 0 := told_is _ (htold 5 (by decide)) rfl
                    have t6 : vs 6 = P0 z := told_is _ (htold 6 (by decide)) rfl
                    have t7 : vs 7 = .pointer (some ⟨z, 0, none⟩) := told_is _ (htold 7 (by decide)) rfl
                    have t8 : vs 8 = .pointer (some ⟨z, 0 + 0, none⟩) := told_is _ (htold 8 (by decide)) rfl
                    have t9 : vs 9 = P0 (pt 0) := told_is _ (htold 9 (by decide)) rfl
                    have t10 : vs 10 = .pointer (some ⟨p, 3, none⟩) := told_is _ (htold 10 (by decide)) rfl
                    have t11 : vs 11 = x.y.v := told_is _ (htold 11 (by decide)) rfl
                    have t12 : vs 12 = .int .i64 0 := told_is _ (htold 12 (by decide)) rfl
                    have t13 : vs 13 = .bool true := told_is _ (htold 13 (by decide)) rfl
                    have t14 : vs 14 = .bool true := told_is _ (htold 14 (by decide)) rfl
                    rw [show (List.range 15).map vs = [vs 0, vs 1, vs 2, vs 3, vs 4, vs 5, vs 6, vs 7, vs 8, vs 9, vs 10, vs 11, vs 12, vs 13, vs 14] from rfl]
                    simp only [t0, t1, t2, t3, t4, t5, t6, t7, t8, t9, t10, t11, t12, t13, t14, putAll, Act.put, List.setIfInBounds_toArray, List.set_cons_succ, List.set_cons_zero]
                    clear t0 t1 t2 t3 t4 t5 t6 t7 t8 t9 t10 t11 t12 t13 t14 htold
                    obtain ⟨v1, ws1, hR⟩ := hJ.2 (hl 12 (by decide))
                    have HT := hide ((unhide ZT).t.mut (i := 0) (by omega) hR)
                    replace HP := hide (hR.blk (unhide HS) (unhide HP) (by decide) (by decide))
                    clear hR hJ hl HP0 HP3 HC0 HS HWK HPL HSE hbl
                    go_wp2_with fail
                    go_meet
                    case rel => exact ⟨true, v1, ws1, rfl, HT, HP⟩
                · have HP0 := hide hp0
                  clear hp0
                  refine wp_region_any mixed (wpAny_tq 15 rfl (by kernel_rfl) [some (.pointer (some ⟨p, 0, none⟩)), some (.int .i64 x.kind), some (.bool false), some (.bool false), none, none, none, none, none, none, none, none, none, none, some (.bool false)] rfl (by kernel_rfl) (by kernel_rfl) ?_ ?_)
                  · intro i o' hi hsk ho a' w2 hout hin hk2
                    replace hk2 : Kept [] V4 w2 := ⟨hk2.os, hk2.tape, hk2.output, hk2.size, hk2.block⟩
                    match i, ho, hsk with
                    | 0, ho, hsk =>
                      obtain rfl := Option.some.inj ho
                      exact o_fld56_0 (.tmp 11) rfl p ((hout 11 (by kernel_rfl)).trans rfl) ⟨_, rfl, tq_is _ _ _ _ rfl, Kept.refl _ _, fun _ _ _ _ _ => trivial⟩
                    | 1, ho, hsk =>
                      obtain rfl := Option.some.inj ho
                      have e0 : a'.eval (.tmp 72) = .pointer (some ⟨p, 0, none⟩) := is_tq (hin 0 72 (by kernel_rfl) (by kernel_rfl)) rfl
                      exact o_load3 (.tmp 72) rfl _ _ e0 (hk2.cell (unhide HP0) (by simp)) ⟨_, rfl, tq_is _ _ _ _ rfl, Kept.refl _ _, fun _ _ _ _ _ => trivial⟩
                    | 2, ho, hsk =>
                      obtain rfl := Option.some.inj ho
                      have e0 : a'.eval (.tmp 73) = .int .i64 x.kind := is_tq (hin 1 73 (by kernel_rfl) (by kernel_rfl)) rfl
                      exact o_eqlT3 (.tmp 73) (.const (.int .i64 1)) rfl _ _ false (by simpa using hk1) e0 rfl ⟨_, rfl, tq_is _ _ _ _ rfl, Kept.refl _ _, fun _ _ _ _ _ => trivial⟩
                    | 3, ho, hsk =>
                      obtain rfl := Option.some.inj ho
                      have e0 : a'.eval (.tmp 74) = .bool false := is_tq (hin 2 74 (by kernel_rfl) (by kernel_rfl)) rfl
                      exact wp_move (.tmp 74) rfl _ e0 ⟨_, rfl, tq_is _ _ _ _ rfl, Kept.refl _ _, fun _ _ _ _ _ => trivial⟩
                    | 4, ho, hsk =>
                      cases hsk
                    | 5, ho, hsk =>
                      cases hsk
                    | 6, ho, hsk =>
                      cases hsk
                    | 7, ho, hsk =>
                      cases hsk
                    | 8, ho, hsk =>
                      cases hsk
                    | 9, ho, hsk =>
                      cases hsk
                    | 10, ho, hsk =>
                      cases hsk
                    | 11, ho, hsk =>
                      cases hsk
                    | 12, ho, hsk =>
                      cases hsk
                    | 13, ho, hsk =>
                      cases hsk
                    | 14, ho, hsk =>
                      obtain rfl := Option.some.inj ho
                      have e0 : a'.eval (.tmp 75) = .bool false := is_tq (hin 3 75 (by kernel_rfl) (by kernel_rfl)) rfl
                      exact o_pickN (.tmp 75) (.tmp 85) rfl e0 ⟨_, rfl, tq_is _ _ _ _ rfl, Kept.refl _ _, fun _ _ _ _ _ => trivial⟩
                  intro w9 hk9
                  replace hk9 : Kept [] V4 w9 := ⟨hk9.os, hk9.tape, hk9.output, hk9.size, hk9.block⟩
                  simp only [valsQ, List.map_cons, List.map_nil, Option.getD_some, Option.getD_none, List.take_succ_cons, List.take_zero, putAll, Act.put, List.setIfInBounds_toArray, List.set_cons_succ, List.set_cons_zero]
                  refine wpAny_done (by kernel_rfl) ?_ _
                  have HT : Hid (Tt w w9 z pt (upd sv 0 (sv 0)) (upd sw 0 (sw 0)) sp (.slice none 0 0) [] st ou L M) := by rw [upd_self, upd_self]; exact hide ((unhide ZT).t.step hk9)
                  replace HP := hide ((unhide HP).kept hk9 (by simp))
                  clear hk9 HP0 HS HPL
                  go_wp2_with fail
                  go_meet
                  case rel => exact ⟨false, sv 0, sw 0, rfl, HT, HP⟩
            case rest =>
              clear hp0 HP
              obtain ⟨b, v1, ws1, rfl, HT, HP⟩ := hcut
              go_upto_if 86 with fail
              go_cut [12] from 59 to 249 (fun x12 w2c => x12 = .int .i64 0 ∧ ∃ sv5 sw5 sp5 st5 L5, Hid (Zt w w2c z vw pt sv5 sw5 sp5 (.slice none 0 0) [] st5 ou L5 M (k + 1)) ∧ Hid (Blk w2c p 56 x.C))
              case first =>
                as_aux_lemma =>
                  cases b with
                  | false =>
                    replace HT : Hid (Tt w wc z pt (upd sv 0 v1) (upd sw 0 ws1) sp (.slice none 0 0) [] st ou L M) := HT
                    go_wp2_with fail
                    go_meet
                    case rel => exact ⟨rfl, upd sv 0 v1, upd sw 0 ws1, sp, st, L, hide ⟨unhide HT, (unhide ZT).iv, fun i hi => by have := (unhide ZT).n i hi; omega, by simp⟩, HP⟩
                  | true =>
                    replace HT : Hid (Tt w wc z pt (upd sv 0 v1) (upd sw 0 ws1) (upd sp 0 ((sp 0).put x.y.bs)) (.slice none 0 0) [] st ou L M) := HT
                    have HPL : Hid ((sp 0).sent.length < 1000) := by have h1 := (unhide ZT).n 0 (by omega); exact (by omega : (sp 0).sent.length < 1000)
                    have HP3 : Hid (wc.cell? ⟨p, 3, none⟩ = some x.y.v) := fits_cell (unhide HP) 3 _ rfl
                    have HWK := hide (unhide HT).k
                    have HC3 : Hid (wc.cell? ⟨z, 3 + 0, none⟩ = some (st 0)) := fits_cell (unhide HT).hd (3 + 0) _ rfl
                    obtain ⟨xs, hxs⟩ := (unhide HT).r 0 (by omega)
                    have HXS := hide hxs
                    have HO := hide hxs.row
                    have HXL : Hid (xs.length ≤ 100000) := by have h1 := hxs.len; rw [(unhide ZT).iv.lq 0 (by omega)] at h1; have h2 := unhide HPL; exact (by omega : xs.length ≤ 100000)
                    have HZ := hide (unhide HT).hd
                    have HNL : Hid (z ∉ (st 0).ownBlock.toList) := fun hm => by
                      obtain ⟨cs, hc⟩ := (unhide HO).block z (by simpa using hm)
                      have h9 := unhide HZ
                      unfold Blk at h9
                      rw [hc] at h9
                      cases h9
                    clear hxs
                    go_wp2_with fail
                    refine wp_region_any mixed (wpAny_gx 17 rfl (by kernel_rfl) [some (P0 z), some (.int .i64 0), some (P0 z), some (.int .i64 0), some (P0 z), some (.pointer (some ⟨z, 3, none⟩)), some (.pointer (some ⟨z, 3 + 0, none⟩)), some (st 0), some (.pointer (some ⟨p, 3, none⟩)), some (x.y.v), none, none, none, some (P0 z), some (.pointer (some ⟨z, 3, none⟩)), some (.pointer (some ⟨z, 3 + 0, none⟩)), none] rfl (by kernel_rfl) (fun l vs W => (T12s wc z (st 0) (twC pt (.slice none 0 0) st ou) (3 + 0) xs x.y.bs) (fun i => l.getD i false) vs W) (⟨fun _ => ⟨fun _ => ⟨⟨rfl, rfl, rfl, Nat.le_refl _, fun _ _ _ => rfl⟩, (fun h => by cases h), (fun h => by cases h)⟩, (fun h => by cases h)⟩, fun h => by cases h⟩) ?_ ?_)
                    · intro ix o' hi ho a' w2 l vs hls hlf hJ hout hin hdep hnot
                      match ix, ho with
                      | 0, ho =>
                        obtain rfl := Option.some.inj ho
                        have e0 := hout 9 (by kernel_rfl)
                        replace e0 : a'.eval (.tmp 9) = _ := e0.trans rfl
                        exact wp_move (.tmp 9) rfl _ e0 ⟨_, rfl, told_of rfl, keepG (St := (T12s wc z (st 0) (twC pt (.slice none 0 0) st ou) (3 + 0) xs x.y.bs)) [10, 11, 12, 16] T12s.loc (by omega) (by decide) hJ⟩
                      | 1, ho =>
                        obtain rfl := Option.some.inj ho
                        have e0 := hout 12 (by kernel_rfl)
                        replace e0 : a'.eval (.tmp 12) = _ := e0.trans rfl
                        exact wp_move (.tmp 12) rfl _ e0 ⟨_, rfl, told_of rfl, keepG (St := (T12s wc z (st 0) (twC pt (.slice none 0 0) st ou) (3 + 0) xs x.y.bs)) [10, 11, 12, 16] T12s.loc (by omega) (by decide) hJ⟩
                      | 2, ho =>
                        obtain rfl := Option.some.inj ho
                        have e0 := hout 9 (by kernel_rfl)
                        replace e0 : a'.eval (.tmp 9) = _ := e0.trans rfl
                        exact wp_move (.tmp 9) rfl _ e0 ⟨_, rfl, told_of rfl, keepG (St := (T12s wc z (st 0) (twC pt (.slice none 0 0) st ou) (3 + 0) xs x.y.bs)) [10, 11, 12, 16] T12s.loc (by omega) (by decide) hJ⟩
                      | 3, ho =>
                        obtain rfl := Option.some.inj ho
                        have e0 := hout 12 (by kernel_rfl)
                        replace e0 : a'.eval (.tmp 12) = _ := e0.trans rfl
                        exact wp_move (.tmp 12) rfl _ e0 ⟨_, rfl, told_of rfl, keepG (St := (T12s wc z (st 0) (twC pt (.slice none 0 0) st ou) (3 + 0) xs x.y.bs)) [10, 11, 12, 16] T12s.loc (by omega) (by decide) hJ⟩
                      | 4, ho =>
                        obtain rfl := Option.some.inj ho
                        have e0 : a'.eval (.tmp 89) = P0 z := by have h9 := hin 2 89 (by kernel_rfl) (by kernel_rfl); exact h9.1.trans (told_is _ h9.2 rfl)
                        exact o_nil (.tmp 89) rfl _ e0 ⟨_, rfl, told_of rfl, keepG (St := (T12s wc z (st 0) (twC pt (.slice none 0 0) st ou) (3 + 0) xs x.y.bs)) [10, 11, 12, 16] T12s.loc (by omega) (by decide) hJ⟩
                      | 5, ho =>
                        obtain rfl := Option.some.inj ho
                        have e0 : a'.eval (.tmp 91) = P0 z := by have h9 := hin 4 91 (by kernel_rfl) (by kernel_rfl); exact h9.1.trans (told_is _ h9.2 rfl)
                        exact o_fld54_2 (.tmp 91) rfl _ e0 ⟨_, rfl, told_of rfl, keepG (St := (T12s wc z (st 0) (twC pt (.slice none 0 0) st ou) (3 + 0) xs x.y.bs)) [10, 11, 12, 16] T12s.loc (by omega) (by decide) hJ⟩
                      | 6, ho =>
                        obtain rfl := Option.some.inj ho
                        have e0 : a'.eval (.tmp 92) = .pointer (some ⟨z, 3, none⟩) := by have h9 := hin 5 92 (by kernel_rfl) (by kernel_rfl); exact h9.1.trans (told_is _ h9.2 rfl)
                        have e1 : a'.eval (.tmp 90) = .int .i64 0 := by have h9 := hin 3 90 (by kernel_rfl) (by kernel_rfl); exact h9.1.trans (told_is _ h9.2 rfl)
                        exact o_idx52 (.tmp 92) (.tmp 90) rfl z 3 0 (by omega) e0 e1 ⟨_, rfl, told_of rfl, keepG (St := (T12s wc z (st 0) (twC pt (.slice none 0 0) st ou) (3 + 0) xs x.y.bs)) [10, 11, 12, 16] T12s.loc (by omega) (by decide) hJ⟩
                      | 7, ho =>
                        obtain rfl := Option.some.inj ho
                        have e0 : a'.eval (.tmp 93) = .pointer (some ⟨z, 3 + 0, none⟩) := by have h9 := hin 6 93 (by kernel_rfl) (by kernel_rfl); exact h9.1.trans (told_is _ h9.2 rfl)
                        exact o_load30 (.tmp 93) rfl _ _ e0 (((hJ.1 (hnot 16 (by kernel_rfl))).1 (hnot 12 (by kernel_rfl))).1.cell (unhide HC3) (by simp)) ⟨_, rfl, told_of rfl, keepG (St := (T12s wc z (st 0) (twC pt (.slice none 0 0) st ou) (3 + 0) xs x.y.bs)) [10, 11, 12, 16] T12s.loc (by omega) (by decide) hJ⟩
                      | 8, ho =>
                        obtain rfl := Option.some.inj ho
                        have e0 := hout 11 (by kernel_rfl)
                        replace e0 : a'.eval (.tmp 11) = _ := e0.trans rfl
                        exact o_fld56_3 (.tmp 11) rfl _ e0 ⟨_, rfl, told_of rfl, keepG (St := (T12s wc z (st 0) (twC pt (.slice none 0 0) st ou) (3 + 0) xs x.y.bs)) [10, 11, 12, 16] T12s.loc (by omega) (by decide) hJ⟩
                      | 9, ho =>
                        obtain rfl := Option.some.inj ho
                        have e0 : a'.eval (.tmp 95) = .pointer (some ⟨p, 3, none⟩) := by have h9 := hin 8 95 (by kernel_rfl) (by kernel_rfl); exact h9.1.trans (told_is _ h9.2 rfl)
                        exact o_load33 (.tmp 95) rfl _ _ e0 (((hJ.1 (hnot 16 (by kernel_rfl))).1 (hnot 12 (by kernel_rfl))).1.cell (unhide HP3) (by simp)) ⟨_, rfl, told_of rfl, keepG (St := (T12s wc z (st 0) (twC pt (.slice none 0 0) st ou) (3 + 0) xs x.y.bs)) [10, 11, 12, 16] T12s.loc (by omega) (by decide) hJ⟩
                      | 10, ho =>
                        obtain rfl := Option.some.inj ho
                        have e0 : a'.eval (.tmp 96) = x.y.v := by have h9 := hin 9 96 (by kernel_rfl) (by kernel_rfl); exact h9.1.trans (told_is _ h9.2 rfl)
                        have hk0 := ((hJ.1 (hnot 16 (by kernel_rfl))).1 (hnot 12 (by kernel_rfl))).1
                        have hy := (unhide HXO).y.kept ((unhide HWK).trans hk0) (by simp)
                        refine o_appB (.tmp 96) rfl x.y.ao x.y.m x.y.c x.y.bs e0 hy.nil hy.vals hy.byte (by have := hy.big; omega) fun u0 w3 hB3 hf3 hk3 => ?_
                        exact ⟨_, rfl, told_no rfl, nextG (St := (T12s wc z (st 0) (twC pt (.slice none 0 0) st ou) (3 + 0) xs x.y.bs)) (by omega) ⟨fun _ => ⟨fun _ => ⟨hk0.trans hk3, fun _ => hB3, (fun h11 => by have h9 : l.getD 11 false = true := h11; rw [hnot 11 (by kernel_rfl)] at h9; cases h9)⟩, (fun h12 => by have h9 : l.getD 12 false = true := h12; rw [hnot 12 (by kernel_rfl)] at h9; cases h9)⟩, (fun h16 => by have h9 : l.getD 16 false = true := h16; rw [hnot 16 (by kernel_rfl)] at h9; cases h9)⟩⟩
                      | 11, ho =>
                        obtain rfl := Option.some.inj ho
                        have e0 : a'.eval (.tmp 97) = vs 10 := (hin 10 97 (by kernel_rfl) (by kernel_rfl)).1
                        have hk0 := ((hJ.1 (hnot 16 (by kernel_rfl))).1 (hnot 12 (by kernel_rfl))).1
                        have hd10 : l.getD 10 false = true := hdep 10 (by kernel_rfl)
                        have hB0 := ((hJ.1 (hnot 16 (by kernel_rfl))).1 (hnot 12 (by kernel_rfl))).2.1 hd10
                        obtain ⟨uo, uc, hu, _, _⟩ := hB0.sl
                        refine o_bsS (.tmp 97) rfl uo x.y.bs.length uc (e0.trans hu) ?_
                        exact ⟨_, rfl, told_no rfl, nextG (St := (T12s wc z (st 0) (twC pt (.slice none 0 0) st ou) (3 + 0) xs x.y.bs)) (by omega) ⟨fun _ => ⟨fun _ => ⟨hk0.alloc _, fun _ => hB0.kept ((Kept.refl [] _).alloc _) (by simp), fun _ => ⟨hd10, w2.heap.size, rfl, (by show Blk _ _ 33 [vs 10]; rw [hu]; exact Blk.new w2 33 _)⟩⟩, (fun h12 => by have h9 : l.getD 12 false = true := h12; rw [hnot 12 (by kernel_rfl)] at h9; cases h9)⟩, (fun h16 => by have h9 : l.getD 16 false = true := h16; rw [hnot 16 (by kernel_rfl)] at h9; cases h9)⟩⟩
                      | 12, ho =>
                        obtain rfl := Option.some.inj ho
                        have e0 : a'.eval (.tmp 94) = st 0 := by have h9 := hin 7 94 (by kernel_rfl) (by kernel_rfl); exact h9.1.trans (told_is _ h9.2 rfl)
                        have e1 : a'.eval (.tmp 98) = vs 11 := (hin 11 98 (by kernel_rfl) (by kernel_rfl)).1
                        obtain ⟨hk0, hB0, hq0⟩ := (hJ.1 (hnot 16 (by kernel_rfl))).1 hlf
                        obtain ⟨hd10, q, hq, hBq⟩ := hq0 (hdep 11 (by kernel_rfl))
                        have hBd := hB0 hd10
                        refine o_appO (.tmp 94) (.tmp 98) rfl (st 0) xs e0 ((unhide HO).kept hk0 (by simp)) q (vs 10) (e1.trans hq) hBq hBd.one (unhide HXL) fun v' w' h1 h2 h3 => ?_
                        have hno : ∀ k, (vs 10).ownBlock = some k → k ∉ (st 0).ownBlock.toList := fun k e hm => by
                          obtain ⟨cs, hc⟩ := hBd.block k e
                          obtain ⟨cs', hc'⟩ := ((unhide HO).kept hk0 (by simp)).block k (by simpa using hm)
                          rw [hc] at hc'
                          cases hc'
                        exact ⟨_, rfl, told_no rfl, nextG (St := (T12s wc z (st 0) (twC pt (.slice none 0 0) st ou) (3 + 0) xs x.y.bs)) (by omega) ⟨fun _ => ⟨(fun h => by cases h), fun _ => ⟨vs 10, hBd.kept h2 hno, h1, (hk0.mono (by simp)).trans h2, fun k hk => (h3 k hk).imp id (fun x => by have := hk0.size; omega)⟩⟩, (fun h16 => by have h9 : l.getD 16 false = true := h16; rw [hnot 16 (by kernel_rfl)] at h9; cases h9)⟩⟩
                      | 13, ho =>
                        obtain rfl := Option.some.inj ho
                        have e0 : a'.eval (.tmp 87) = P0 z := by have h9 := hin 0 87 (by kernel_rfl) (by kernel_rfl); exact h9.1.trans (told_is _ h9.2 rfl)
                        exact o_nil (.tmp 87) rfl _ e0 ⟨_, rfl, told_of rfl, keepG (St := (T12s wc z (st 0) (twC pt (.slice none 0 0) st ou) (3 + 0) xs x.y.bs)) [10, 11, 12, 16] T12s.loc (by omega) (by decide) hJ⟩
                      | 14, ho =>
                        obtain rfl := Option.some.inj ho
                        have e0 : a'.eval (.tmp 100) = P0 z := by have h9 := hin 13 100 (by kernel_rfl) (by kernel_rfl); exact h9.1.trans (told_is _ h9.2 rfl)
                        exact o_fld54_2 (.tmp 100) rfl _ e0 ⟨_, rfl, told_of rfl, keepG (St := (T12s wc z (st 0) (twC pt (.slice none 0 0) st ou) (3 + 0) xs x.y.bs)) [10, 11, 12, 16] T12s.loc (by omega) (by decide) hJ⟩
                      | 15, ho =>
                        obtain rfl := Option.some.inj ho
                        have e0 : a'.eval (.tmp 101) = .pointer (some ⟨z, 3, none⟩) := by have h9 := hin 14 101 (by kernel_rfl) (by kernel_rfl); exact h9.1.trans (told_is _ h9.2 rfl)
                        have e1 : a'.eval (.tmp 88) = .int .i64 0 := by have h9 := hin 1 88 (by kernel_rfl) (by kernel_rfl); exact h9.1.trans (told_is _ h9.2 rfl)
                        exact o_idx52 (.tmp 101) (.tmp 88) rfl z 3 0 (by omega) e0 e1 ⟨_, rfl, told_of rfl, keepG (St := (T12s wc z (st 0) (twC pt (.slice none 0 0) st ou) (3 + 0) xs x.y.bs)) [10, 11, 12, 16] T12s.loc (by omega) (by decide) hJ⟩
                      | 16, ho =>
                        obtain rfl := Option.some.inj ho
                        have e0 : a'.eval (.tmp 102) = .pointer (some ⟨z, 3 + 0, none⟩) := by have h9 := hin 15 102 (by kernel_rfl) (by kernel_rfl); exact h9.1.trans (told_is _ h9.2 rfl)
                        have e1 : a'.eval (.tmp 99) = vs 12 := (hin 12 99 (by kernel_rfl) (by kernel_rfl)).1
                        obtain ⟨r, h0, h1, h2, h3⟩ := (hJ.1 hlf).2 (hdep 12 (by kernel_rfl))
                        have hB9 := (unhide HZ).kept h2 (unhide HNL)
                        obtain ⟨ao9, c9, e9, _, _⟩ := h1.sl
                        refine o_st30 (.tmp 102) (.tmp 99) rfl rfl z (3 + 0) 54 _ (vs 12) e0 e1 ⟨ao9, _, c9, e9⟩ hB9 (by simp [twC]) fun W hBW hkW => ⟨_, rfl, told_no rfl, nextG (St := (T12s wc z (st 0) (twC pt (.slice none 0 0) st ou) (3 + 0) xs x.y.bs)) (by omega) ⟨(fun h => by cases h), fun _ => ⟨vs 12, r, h0.kept hkW (fun k hk hm => ?_), h1.kept hkW (fun k hk hm => ?_), hBW, (h2.mono (fun k hk => List.mem_cons_of_mem _ hk)).trans (hkW.mono (by simp)), h3⟩⟩⟩
                        · simp at hm; subst hm; obtain ⟨cs, hc⟩ := h0.block k hk; unfold Blk at hB9; rw [hB9] at hc; injection hc with hc; injection hc with _ hc; exact absurd hc (by decide)
                        · simp at hm; subst hm; obtain ⟨cs, hc⟩ := h1.block k hk; unfold Blk at hB9; rw [hB9] at hc; injection hc with hc; injection hc with _ hc; exact absurd hc (by decide)
                    intro l vs w8 hl hJ htold
                    have t0 : vs 0 = P0 z := told_is _ (htold 0 (by decide)) rfl
                    have t1 : vs 1 = .int .i64 0 := told_is _ (htold 1 (by decide)) rfl
                    have t2 : vs 2 = P0 z := told_is _ (htold 2 (by decide)) rfl
                    have t3 : vs 3 = .int .i64 0 := told_is _ (htold 3 (by decide)) rfl
                    have t4 : vs 4 = P0 z := told_is _ (htold 4 (by decide)) rfl
                    have t5 : vs 5 = .pointer (some ⟨z, 3, none⟩) := told_is _ (htold 5 (by decide)) rfl
                    have t6 : vs 6 = .pointer (some ⟨z, 3 + 0, none⟩) := told_is _ (htold 6 (by decide)) rfl
                    have t7 : vs 7 = st 0 := told_is _ (htold 7 (by decide)) rfl
                    have t8 : vs 8 = .pointer (some ⟨p, 3, none⟩) := told_is _ (htold 8 (by decide)) rfl
                    have t9 : vs 9 = x.y.v := told_is _ (htold 9 (by decide)) rfl
                    have t13 : vs 13 = P0 z := told_is _ (htold 13 (by decide)) rfl
                    have t14 : vs 14 = .pointer (some ⟨z, 3, none⟩) := told_is _ (htold 14 (by decide)) rfl
                    have t15 : vs 15 = .pointer (some ⟨z, 3 + 0, none⟩) := told_is _ (htold 15 (by decide)) rfl
                    rw [show (List.range 17).map vs = [vs 0, vs 1, vs 2, vs 3, vs 4, vs 5, vs 6, vs 7, vs 8, vs 9, vs 10, vs 11, vs 12, vs 13, vs 14, vs 15, vs 16] from rfl]
                    simp only [t0, t1, t2, t3, t4, t5, t6, t7, t8, t9, t13, t14, t15, putAll, Act.put, List.setIfInBounds_toArray, List.set_cons_succ, List.set_cons_zero]
                    clear t0 t1 t2 t3 t4 t5 t6 t7 t8 t9 t13 t14 t15 htold
                    obtain ⟨v3, r3, h0, h1, h2, h3, h4⟩ := hJ.2 (hl 16 (by decide))
                    have hT := (unhide HT).putSt (i := 0) (by omega) (unhide HXS) h0 h1 h2 h3 h4
                    replace ZT : Hid (Zt w w8 z vw pt (upd sv 0 v1) (upd sw 0 ws1) (upd sp 0 ((sp 0).put x.y.bs)) (.slice none 0 0) [] (upd st 0 v3) ou (upd L 0 (L 0 ++ [x.y.bs])) M (k + 1)) := ⟨hT, (unhide ZT).iv.put (by omega) _, fun i hi => by
                      have h9 := (unhide ZT).n i hi
                      unfold upd
                      split
                      · next e => subst e; simp only [Ps.put, List.length_append, List.length_singleton]; omega
                      · omega, by simp⟩
                    replace HP := hide ((unhide HP).kept h3 (fun hm => by
                      rcases List.mem_cons.1 hm with rfl | hm
                      · have a1 := unhide HP; have a2 := unhide HZ; unfold Blk at a1 a2; rw [a1] at a2; cases a2
                      · obtain ⟨cs, hc⟩ := (unhide HO).block p (by simpa using hm); have a1 := unhide HP; unfold Blk at a1; rw [a1] at hc; cases hc))
                    clear h0 h1 h2 h3 h4 hT hJ hl HXS HO HXL HZ HNL HC3 HWK HT HP3
                    go_wp2_with fail
                    go_meet
                    case rel => exact ⟨rfl, _, _, _, _, _, ZT, HP⟩
              case rest =>
                clear ZT HT HP
                obtain ⟨rfl, sv5, sw5, sp5, st5, L5, ZT, HP⟩ := hcut
                go_upto_region 13 with fail
                go_cut [110] from 59 to 109 (fun t w3c => ∃ b : Bool, t = .bool b ∧ Hid (Zt w w3c z vw pt sv5 sw5 sp5 (.slice none 0 0) [] st5 ou L5 M (k + 1)) ∧ Hid (Blk w3c p 56 x.C))
                case first =>
                  as_aux_lemma =>
                    have hp0 := fits_cell (unhide HP) 0 _ rfl
                    by_cases hk2 : x.kind = 2
                    · have d1 : (x.kind == 2) = true := by simpa using hk2
                      have d2 : decide (x.kind = 2) = true := by simpa using hk2
                      clear hk2
                      go_wp2_with fail
                      go_meet
                      case rel => exact ⟨_, rfl, ZT, HP⟩
                    · have d1 : (x.kind == 2) = false := by simpa using hk2
                      have d2 : decide (x.kind = 2) = false := by simpa using hk2
                      clear hk2
                      by_cases hk3 : x.kind = 3
                      · have d3 : (x.kind == 3) = true := by simpa using hk3
                        have d4 : decide (x.kind = 3) = true := by simpa using hk3
                        clear hk3
                        go_wp2_with fail
                        go_meet
                        case rel => exact ⟨_, rfl, ZT, HP⟩
                      · have d3 : (x.kind == 3) = false := by simpa using hk3
                        have d4 : decide (x.kind = 3) = false := by simpa using hk3
                        clear hk3
                        go_wp2_with fail
                        go_meet
                        case rel => exact ⟨_, rfl, ZT, HP⟩
                case rest =>
                  clear ZT HP b
                  obtain ⟨b, rfl, ZT, HP⟩ := hcut
                  go_upto_if 110 with fail
                  go_cut [12, 13, 14] from 59 to 249 (fun x12 x13 x14 w4c => x12 = .int .i64 0 ∧ ∃ sv5 sw5 sp5 ou5 M5, Hid (Zt w w4c z vw pt sv5 sw5 sp5 (.slice none 0 0) [] st5 ou5 L5 M5 (k + 1)))
                  case first =>
                    as_aux_lemma =>
                      cases b with
                      | false =>
                        go_wp2_with fail
                        go_meet
                        case rel => exact ⟨rfl, _, _, _, _, _, ZT⟩
                      | true =>
                        have hcz := fits_cell (unhide ZT).t.hd 0 _ rfl
                        have HS := hide ((unhide ZT).t.s 0 (by omega))
                        go_wp2_with (
                          first
                          | (go_at_call 14
                             refine (fresh14 (pt 0) (sv5 0) (sw5 0) (sp5 0) _ (unhide HS)).mono ?_
                             rintro e V5 ⟨dv, Lr, rfl, hD, hL, hR⟩
                             have hT := (unhide ZT).t.mut (i := 0) (by omega) hR
                             rw [upd_self, upd_self] at hT
                             replace HP := hide (hR.blk (unhide HS) (unhide HP) (by decide) (by decide))
                             have HWd : Hid (∀ pr ∈ Lr, Wd vw (upd sp5 0 (sp5 0).toldP) 0 pr.1) := fun pr hpr => (tell_wd (unhide ZT).iv (by omega : 0 < 2) _ pr.1 (by have h9 : pr.1 ∈ Lr.map Prod.fst := List.mem_map_of_mem hpr; rw [hL] at h9; exact h9)).mono (gr_upd (gr_told _) 0)
                             have HN9 : Hid (∀ i, i < 2 → (upd sp5 0 (sp5 0).toldP i).sent.length ≤ k + 1) := fun i hi => by
                               have h9 := (unhide ZT).n i hi
                               unfold upd
                               split
                               · next e => subst e; exact h9
                               · exact h9
                             have hIv := (unhide ZT).iv.told (i := 0) (by omega)
                             clear ZT
                             have ZT : Hid (Zt w V5 z vw pt sv5 sw5 (upd sp5 0 (sp5 0).toldP) (.slice none 0 0) [] st5 ou L5 M (k + 1)) := ⟨hT, hIv, unhide HN9, by simp⟩
                             obtain ⟨sp6, hsp6⟩ : ∃ q, q = upd sp5 0 (sp5 0).toldP := ⟨_, rfl⟩
                             rw [← hsp6] at ZT HWd
                             have HD := hide hD
                             obtain ⟨dao, dc, hdv⟩ := owns_slN hD.row
                             obtain ⟨dn, hdn⟩ : ∃ q, q = Lr.length := ⟨_, rfl⟩
                             rw [← hdn] at hdv
                             subst hdv
                             have HDN := hide hdn
                             have hdb : dn ≤ 1001 := by
                               have h1 := congrArg List.length hL
                               rw [List.length_map] at h1
                               unfold Ps.fresh at h1
                               have h2 := (unhide HS).ok.many
                               by_cases h3 : max (sp5 0).told (sp5 0).known < (sp5 0).sent.length
                               · rw [tellL_len h3] at h1; omega
                               · have h4 := tellL_len0 (P := sp5 0) (f := max (sp5 0).told (sp5 0).known) (by omega); omega
                             clear hD hL hR hT hIv HN9 hsp6 hdn HS hcz
                             refine Stp.go ?_))
                        constructor
                        go_wp2_with fail
                        go_loopw [14] (fun i wr => ∃ (j : Nat) (sv : Nat → Value) (sw : Nat → List Value) (sp : Nat → Ps) (ou : Nat → Value) (M : Nat → List (List Int)), j ≤ dn ∧ i = .int .i64 j ∧ Hid (Zt w wr z vw pt sv sw sp (.slice none 0 0) [] st5 ou L5 M (k + 1)) ∧ Hid (Kt V5 wr) ∧ Hid (∀ j, Gr (sp6 j) (sp j))) (fun i _ => dn - (intOf i).toNat)
                        case atStart => exact ⟨0, _, _, _, _, _, by omega, rfl, ZT, Kt.refl _, fun _ => Gr.refl _⟩
                        case round =>
                          clear ZT
                          obtain ⟨j, sv7, sw7, sp7, ou7, M7, hj, rfl, ZT, HKT, HGR⟩ := hrel
                          by_cases hjt : j < dn
                          · have hjI : (j : Int) < (dn : Int) := by omega
                            have hjb : (j : Int) ≤ 1001 := by omega
                            have HPr : Hid (Blk wr p 56 x.C) := (unhide HKT).block _ _ _ _ (.inr (.inr rfl)) (unhide HP)
                            have hpn := fits_cell (unhide HPr) 2 _ rfl
                            have hDD := (unhide HD).kt (unhide HKT)
                            obtain ⟨pr, hpr⟩ : ∃ pr, Lr[j]? = some pr := ⟨_, List.getElem?_eq_getElem (by have := unhide HDN; omega)⟩
                            obtain ⟨dg, rfl, hrg⟩ := hDD.at hpr
                            have HRG := hide hrg
                            have P25 := hide (zcome w wr z vw pt sv7 sw7 sp7 (.slice none 0 0) [] st5 ou7 L5 M7 (k + 1) (unhide ZT) 1 (by omega) pr.1 pr.2 ((unhide HWd pr (List.mem_of_getElem? hpr)).mono (unhide HGR 0)) (hDD.bod pr (List.mem_of_getElem? hpr)) (by omega))
                            clear hDD hpr hrg HPr
                            by_cases hn0 : x.n < 0
                            · have d1 : decide (x.n < 0) = true := by simpa using hn0
                              go_wp2_with (
                                first
                                | (refine wpLoadA row35 (by rfl) (.tmp 138) (by rfl) dg (j * 6) (by kernel_rfl) (pr.1.C pr.2) rfl (unhide HRG) ?_
                                   refine Stp.go ?_))
                              constructor
                              go_wp2_with (
                                first
                                | (go_at_call 25
                                   refine (unhide P25).mono ?_
                                   rintro e V8 ⟨rfl, hkt, sv8, sw8, sp8, ou8, M8, hZ8, hg8⟩
                                   have HZ8 := hide hZ8
                                   have HK8 := hide ((unhide HKT).trans hkt)
                                   have HG8 : Hid (∀ j, Gr (sp6 j) (sp8 j)) := fun j => ⟨(unhide HGR j).sent.trans (hg8 j).sent, Int.le_trans (unhide HGR j).got (hg8 j).got⟩
                                   clear hZ8 hkt hg8 P25
                                   refine Stp.go ?_))
                              constructor
                              go_wp2_with fail
                              go_roundw
                              case rel => exact ⟨j + 1, sv8, sw8, sp8, ou8, M8, by omega, by go_num, HZ8, HK8, HG8⟩
                              case measure => simp [intOf]; omega
                            have d1 : decide (x.n < 0) = false := by simpa using hn0
                            by_cases h3 : (j : Int) % 3 = x.n % 3
                            rotate_left
                            · have d2 : ((j : Int) % 3 == x.n % 3) = false := by simpa using h3
                              have d3 : ((j : Int) % 3 != x.n % 3) = true := by simpa using h3
                              have d4 : decide ((j : Int) % 3 = x.n % 3) = false := by simpa using h3
                              go_wp2_with (
                                first
                                | (refine wpLoadA row35 (by rfl) (.tmp 138) (by rfl) dg (j * 6) (by kernel_rfl) (pr.1.C pr.2) rfl (unhide HRG) ?_
                                   refine Stp.go ?_))
                              constructor
                              go_wp2_with (
                                first
                                | (go_at_call 25
                                   refine (unhide P25).mono ?_
                                   rintro e V8 ⟨rfl, hkt, sv8, sw8, sp8, ou8, M8, hZ8, hg8⟩
                                   have HZ8 := hide hZ8
                                   have HK8 := hide ((unhide HKT).trans hkt)
                                   have HG8 : Hid (∀ j, Gr (sp6 j) (sp8 j)) := fun j => ⟨(unhide HGR j).sent.trans (hg8 j).sent, Int.le_trans (unhide HGR j).got (hg8 j).got⟩
                                   clear hZ8 hkt hg8 P25
                                   refine Stp.go ?_))
                              constructor
                              go_wp2_with fail
                              go_roundw
                              case rel => exact ⟨j + 1, sv8, sw8, sp8, ou8, M8, by omega, by go_num, HZ8, HK8, HG8⟩
                              case measure => simp [intOf]; omega
                            · have d2 : ((j : Int) % 3 == x.n % 3) = true := by simpa using h3
                              have d3 : ((j : Int) % 3 != x.n % 3) = false := by simpa using h3
                              have d4 : decide ((j : Int) % 3 = x.n % 3) = true := by simpa using h3
                              go_wp2_with fail
                              go_roundw
                              case rel => exact ⟨j + 1, sv7, sw7, sp7, ou7, M7, by omega, by go_num, ZT, HKT, HGR⟩
                              case measure => simp [intOf]; omega
                          · have hjI : ¬ (j : Int) < (dn : Int) := by omega
                            go_wp2_with fail
                            go_meet
                            case rel => exact ⟨rfl, _, _, _, _, _, ZT⟩
                  case rest =>
                    clear ZT HP
                    obtain ⟨rfl, sv5, sw5, sp5, ou5, M5, ZT⟩ := hcut
                    as_aux_lemma =>
                      have hcz := fits_cell (unhide ZT).t.hd 0 _ rfl
                      obtain ⟨xs5, hxs5⟩ := (unhide ZT).t.r 0 (by omega)
                      obtain ⟨so5, sc, hst, _, _⟩ := hxs5.row.sl
                      have hl5 := hxs5.len
                      have hlL := (unhide ZT).iv.lq 0 (by omega)
                      have hsx := (unhide ZT).t.s 0 (by omega)
                      have hwl := hsx.len
                      have hln := (unhide ZT).n 0 (by omega)
                      obtain ⟨wn, hwn⟩ : ∃ q, q = (sw5 0).length := ⟨_, rfl⟩
                      obtain ⟨kn, hkn⟩ : ∃ q, q = (sp5 0).known := ⟨_, rfl⟩
                      obtain ⟨ln, hlnn⟩ : ∃ q, q = xs5.length := ⟨_, rfl⟩
                      obtain ⟨gq, hgq⟩ : ∃ q, q = (sp5 1).got := ⟨_, rfl⟩
                      have hkk := (unhide ZT).iv.known 0 (by omega)
                      have hkg : ¬ gq < (kn : Int) := by rw [hgq, hkn]; simp only [Nat.sub_zero] at hkk; omega
                      have hk0 : ¬ (kn : Int) < 0 := by omega
                      have hsum : kn + wn = ln := by rw [hlL] at hl5; omega
                      have hln1 : ln ≤ 1000 := by rw [hlL] at hl5; omega
                      have hwr : IntKind.i64.wrap ((ln : Int) - (wn : Int)) = (kn : Int) := by rw [IntKind.wrap_i64]; omega
                      have HL5 : Hid (ln = (sp5 0).sent.length) := by rw [hlL] at hl5; exact (by omega : ln = (sp5 0).sent.length)
                      have hcs := fits_cell (unhide ZT).t.hd (3 + 0) _ rfl
                      rw [hst, ← hlnn] at hcs
                      have HST : Hid (st5 0 = .slice so5 ln sc) := by rw [hlnn]; exact hst
                      have HXS5 := hide hxs5
                      have HWN := hide hwn
                      have HKN := hide hkn
                      have HLN := hide hlnn
                      have HGQ := hide hgq
                      have P22 := hide (waits22 (pt 0) (sv5 0) (sw5 0) (sp5 0) _ hsx)
                      rw [← hwn] at P22
                      clear hxs5 hst hl5 hlL hsx hwl hln hwn hkn hlnn hgq hkk
                      by_cases hw0 : wn = 0
                      · subst hw0
                        go_wp2_with (
                          first
                          | (go_at_call 22
                             refine (unhide P22).mono ?_
                             rintro e V5 ⟨rfl, q5, hq5⟩
                             have hk5 : Kept [] wc V5 := by rw [hq5]; exact kept_drewN _ _ _
                             replace ZT := hide ((unhide ZT).step hk5)
                             have hcz := fits_cell (unhide ZT).t.hd 0 _ rfl
                             have hcs := fits_cell (unhide ZT).t.hd (3 + 0) _ rfl
                             rw [unhide HST] at hcs
                             replace HXS5 := hide ((unhide HXS5).kept0 hk5)
                             clear hq5 hk5 P22)
                          | (go_at_call 27
                             refine (copy27 (pt 0) (sv5 0) (sw5 0) (sp5 0) _ ((unhide ZT).t.s 0 (by omega))).mono ?_
                             rintro e V6 ⟨cb, cv, rfl, hsx6, hcb, hcv, hk6⟩
                             have HSC := hide hsx6
                             have HCB : Hid (V5.heap.size ≤ cb ∧ ∀ k, cv.ownBlock = some k → V5.heap.size ≤ k) := ⟨hcb, hcv⟩
                             have HK6 := hide hk6
                             clear hsx6 hcb hcv hk6)
                          | (go_at_call 18
                             refine (again18 cb cv (sw5 0) (sp5 0) _ (unhide HSC)).mono ?_
                             rintro e V7 ⟨dv, Lr, rfl, hD, hL, hR⟩
                             have hk7 : Kept [] V5 V7 := (unhide HK6).fresh hR.kept (fun x hx hl => by
                               rcases List.mem_cons.1 hx with rfl | hx
                               · have := (unhide HCB).1; omega
                               · have := (unhide HCB).2 x (by simpa using hx); omega)
                             replace ZT := hide ((unhide ZT).step hk7)
                             replace HXS5 := hide ((unhide HXS5).kept0 hk7)
                             have hco := fits_cell (unhide ZT).t.hd 1 _ rfl
                             obtain ⟨dao, dc, hdv⟩ := owns_slN hD.row
                             have HD := hide hD
                             have HL := hide hL
                             obtain ⟨dn, hdn⟩ : ∃ q, q = Lr.length := ⟨_, rfl⟩
                             rw [← hdn] at hdv
                             subst hdv
                             have HDN := hide hdn
                             have hd1 : ¬ (1 : Int) < (dn : Int) := by
                               have h1 := congrArg List.length (unhide HL)
                               rw [List.length_map] at h1
                               have h2 := tellL_len0 (P := sp5 0) (f := (sp5 0).known) (by have := unhide HL5; have := unhide HKN; omega)
                               unfold Ps.again at h1
                               omega
                             have P23 := hide (got23 (pt 1) (sv5 1) (sw5 1) (sp5 1) _ ((unhide ZT).t.s 1 (by omega)))
                             rw [← unhide HGQ] at P23
                             clear hD hL hR hk7 hdn hcz hcs HSC HCB HK6)
                          | (go_at_call 23
                             refine (unhide P23).mono ?_
                             rintro e V8 ⟨rfl, q8, hq8⟩
                             have hk8 : Kept [] V7 V8 := by rw [hq8]; exact kept_drewN _ _ _
                             replace ZT := hide ((unhide ZT).step hk8)
                             replace HXS5 := hide ((unhide HXS5).kept0 hk8)
                             replace HD := hide ((unhide HD).kept0 hk8)
                             clear hq8 hk8 P23 hco))
                        go_loopw [19] (fun i wr => i = .int .i64 0 ∧ Hid (Kept [] V8 wr)) (fun _ _ => 0)
                        case atStart => exact ⟨rfl, Kept.refl _ _⟩
                        case round =>
                          obtain ⟨rfl, HK8⟩ := hrel
                          go_wp2_with fail
                          go_roundw
                          case rel => exact ⟨k + 1, sv5, sw5, sp5, st5, ou5, L5, M5, by omega, by go_num, hide ((unhide ZT).step (unhide HK8))⟩
                          case measure => simp [intOf]; omega
                      · have hwp : (0 : Int) < (wn : Int) := by omega
                        have hwz : ¬ (wn : Int) = 0 := by omega
                        go_wp2_with (
                          first
                          | (go_at_call 22
                             refine (unhide P22).mono ?_
                             rintro e V5 ⟨rfl, q5, hq5⟩
                             have hk5 : Kept [] wc V5 := by rw [hq5]; exact kept_drewN _ _ _
                             replace ZT := hide ((unhide ZT).step hk5)
                             have hcz := fits_cell (unhide ZT).t.hd 0 _ rfl
                             have hcs := fits_cell (unhide ZT).t.hd (3 + 0) _ rfl
                             rw [unhide HST] at hcs
                             replace HXS5 := hide ((unhide HXS5).kept0 hk5)
                             clear hq5 hk5 P22)
                          | (go_at_call 27
                             refine (copy27 (pt 0) (sv5 0) (sw5 0) (sp5 0) _ ((unhide ZT).t.s 0 (by omega))).mono ?_
                             rintro e V6 ⟨cb, cv, rfl, hsx6, hcb, hcv, hk6⟩
                             have HSC := hide hsx6
                             have HCB : Hid (V5.heap.size ≤ cb ∧ ∀ k, cv.ownBlock = some k → V5.heap.size ≤ k) := ⟨hcb, hcv⟩
                             have HK6 := hide hk6
                             clear hsx6 hcb hcv hk6)
                          | (go_at_call 18
                             refine (again18 cb cv (sw5 0) (sp5 0) _ (unhide HSC)).mono ?_
                             rintro e V7 ⟨dv, Lr, rfl, hD, hL, hR⟩
                             have hk7 : Kept [] V5 V7 := (unhide HK6).fresh hR.kept (fun x hx hl => by
                               rcases List.mem_cons.1 hx with rfl | hx
                               · have := (unhide HCB).1; omega
                               · have := (unhide HCB).2 x (by simpa using hx); omega)
                             replace ZT := hide ((unhide ZT).step hk7)
                             replace HXS5 := hide ((unhide HXS5).kept0 hk7)
                             have hco := fits_cell (unhide ZT).t.hd 1 _ rfl
                             obtain ⟨dao, dc, hdv⟩ := owns_slN hD.row
                             have HD := hide hD
                             have HL := hide hL
                             obtain ⟨dn, hdn⟩ : ∃ q, q = Lr.length := ⟨_, rfl⟩
                             rw [← hdn] at hdv
                             subst hdv
                             have HDN := hide hdn
                             have hdw : dn = wn := by
                               have h1 := congrArg List.length (unhide HL)
                               rw [List.length_map] at h1
                               unfold Ps.again at h1
                               have h3 := unhide HKN
                               have h4 := unhide HL5
                               rw [tellL_len (by omega)] at h1
                               omega
                             rw [hdw] at HD HDN ⊢
                             clear hdw
                             have P23 := hide (got23 (pt 1) (sv5 1) (sw5 1) (sp5 1) _ ((unhide ZT).t.s 1 (by omega)))
                             rw [← unhide HGQ] at P23
                             clear hD hL hR hk7 hdn hcz hcs HSC HCB HK6)
                          | (go_at_call 23
                             refine (unhide P23).mono ?_
                             rintro e V8 ⟨rfl, q8, hq8⟩
                             have hk8 : Kept [] V7 V8 := by rw [hq8]; exact kept_drewN _ _ _
                             replace ZT := hide ((unhide ZT).step hk8)
                             replace HXS5 := hide ((unhide HXS5).kept0 hk8)
                             replace HD := hide ((unhide HD).kept0 hk8)
                             clear hq8 hk8 P23 hco))
                        go_loopw [19] (fun i wr => ∃ j : Nat, j ≤ wn ∧ i = .int .i64 j ∧ Hid (Kept [] V8 wr)) (fun i _ => wn - (intOf i).toNat)
                        case atStart => exact ⟨0, by omega, rfl, Kept.refl _ _⟩
                        case round =>
                          obtain ⟨j, hj, rfl, HK8⟩ := hrel
                          by_cases hjt : j < wn
                          · have hjI : (j : Int) < (wn : Int) := by omega
                            have hZ := (unhide ZT).step (unhide HK8)
                            have hX := (unhide HXS5).kept0 (unhide HK8)
                            have hDD := (unhide HD).kept0 (unhide HK8)
                            obtain ⟨pr, hpr⟩ : ∃ pr, Lr[j]? = some pr := ⟨_, List.getElem?_eq_getElem (by have := unhide HDN; omega)⟩
                            obtain ⟨dg, rfl, hrg⟩ := hDD.at hpr
                            have hp1 : pr.1 = (sp5 0).at kn j := by
                              have h1 : (Lr.map Prod.fst)[j]? = some pr.1 := by rw [List.getElem?_map, hpr]; rfl
                              rw [unhide HL] at h1
                              unfold Ps.again at h1
                              rw [tellL_at (by have := unhide HL5; have := unhide HKN; omega), ← unhide HKN] at h1
                              exact (Option.some.inj h1).symm
                            obtain ⟨bs, hbs⟩ : ∃ bs, (L5 0)[kn + j]? = some bs := ⟨_, List.getElem?_eq_getElem (by have := (unhide HXS5).len; have := unhide HLN; omega)⟩
                            obtain ⟨u2, hu2⟩ : ∃ u, xs5[kn + j]? = some u := ⟨_, List.getElem?_eq_getElem (by have := unhide HLN; omega)⟩
                            have hB2 := hX.body _ _ _ hu2 hbs
                            have hpb : pr.1.bs = bs := by
                              rw [hp1]
                              show (sp5 0).sent.getD (kn + j) [] = bs
                              rw [← (unhide ZT).iv.lq 0 (by omega), List.getD_eq_getElem?_getD, hbs]
                              rfl
                            have hB1 := hDD.bod pr (List.mem_of_getElem? hpr)
                            rw [hpb] at hB1
                            obtain ⟨gi, hgi⟩ : ∃ q, q = (sp5 0).got := ⟨_, rfl⟩
                            have HGI := hide hgi
                            have HQ3 : Hid (wr.cell? ⟨dg, j * 6 + 3, none⟩ = some (.int .i64 ((kn : Int) + 1 + (j : Int)))) := by
                              have := hrg 3 (.int .i64 pr.1.seq) rfl
                              rw [hp1] at this
                              exact this
                            have HQ4 : Hid (wr.cell? ⟨dg, j * 6 + 4, none⟩ = some (.int .i64 gi)) := by
                              have := hrg 4 (.int .i64 pr.1.ack) rfl
                              rw [hp1] at this
                              rw [hgi]
                              exact this
                            have h5 := hrg 5 pr.2 rfl
                            obtain ⟨uo, uc, hu, _, _⟩ := hB1.sl
                            obtain ⟨uo2, uc2, hu2b, _, _⟩ := hB2.sl
                            obtain ⟨ul, hul⟩ : ∃ q, q = bs.length := ⟨_, rfl⟩
                            rw [← hul] at hu hu2b
                            rw [hu] at h5
                            have HQ5 : Hid (wr.cell? ⟨dg, j * 6 + 5, none⟩ = some (.slice uo ul uc)) := h5
                            have HR1 : Hid (RowAt wr (.slice uo ul uc) bs) := by rw [← hu]; exact hB1.row
                            have HR2 : Hid (RowAt wr (.slice uo2 ul uc2) bs) := by rw [← hu2b]; exact hB2.row
                            rcases hX.row with ⟨_, x1⟩ | ⟨sg, so, cap, cur, x1, hcur, _, _, _, hcell⟩
                            · exfalso; rw [x1] at hu2; simp at hu2
                            have HQB : Hid (wr.cell? ⟨sg, so + (kn + j), none⟩ = some (.slice uo2 ul uc2)) := by rw [cell_of_block hcur, ← hu2b]; exact hcell _ _ hu2
                            rw [unhide HST] at x1
                            injection x1 with x1 x2 x3
                            subst x1
                            have HQS : Hid (wr.cell? ⟨z, 3 + 0, none⟩ = some (.slice (some ⟨sg, so, none⟩) ln sc)) := by rw [← unhide HST]; exact fits_cell hZ.t.hd (3 + 0) _ rfl
                            have HQZ : Hid (wr.cell? ⟨z, 0 + 0, none⟩ = some (P0 (pt 0))) := fits_cell hZ.t.hd (0 + 0) _ rfl
                            have HSX := hide (hZ.t.s 0 (by omega))
                            clear hZ hX hDD hpr hrg hp1 hbs hu2 hB2 hpb hB1 hgi h5 hu hu2b hul hcur hcell x2 x3
                            go_wp2_with fail
                            refine wp_region_any mixed (wpAny_tq 46 rfl (by kernel_rfl) [some (.slice (some ⟨dg, 0, none⟩) wn dc), some (.int .i64 j), some (.pointer (some ⟨dg, j * 6, none⟩)), some (.pointer (some ⟨dg, j * 6 + 3, none⟩)), some (.int .i64 ((kn : Int) + 1 + (j : Int))), some (.int .i64 kn), some (.int .i64 j), some (.int .i64 ((kn : Int) + (j : Int))), some (.int .i64 ((kn : Int) + (j : Int) + 1)), some (.bool false), some (.bool false), some (.slice (some ⟨dg, 0, none⟩) wn dc), some (.int .i64 j), some (.pointer (some ⟨dg, j * 6, none⟩)), some (.pointer (some ⟨dg, j * 6 + 5, none⟩)), some (.slice uo ul uc), some (.string (strOfNums bs)), some (P0 z), some (.int .i64 0), some (P0 z), some (.pointer (some ⟨z, 3, none⟩)), some (.pointer (some ⟨z, 3 + 0, none⟩)), some (.slice (some ⟨sg, so, none⟩) ln sc), some (.int .i64 kn), some (.int .i64 j), some (.int .i64 (kn + j : Nat)), some (.pointer (some ⟨sg, so + (kn + j), none⟩)), some (.slice uo2 ul uc2), some (.string (strOfNums bs)), some (.bool false), some (.bool false), some (.bool false), some (.slice (some ⟨dg, 0, none⟩) wn dc), some (.int .i64 j), some (.pointer (some ⟨dg, j * 6, none⟩)), some (.pointer (some ⟨dg, j * 6 + 4, none⟩)), some (.int .i64 gi), some (P0 z), some (.int .i64 0), some (P0 z), some (.pointer (some ⟨z, 0, none⟩)), some (.pointer (some ⟨z, 0 + 0, none⟩)), some (P0 (pt 0)), some (.int .i64 gi), some (.bool false), some (.bool false)] rfl (by kernel_rfl) (by kernel_rfl) ?_ ?_)
                            · intro i o' hi hsk ho a' w2 hout hin hk2
                              replace hk2 : Kept [] wr w2 := ⟨hk2.os, hk2.tape, hk2.output, hk2.size, hk2.block⟩
                              match i, ho, hsk with
                              | 0, ho, hsk =>
                                obtain rfl := Option.some.inj ho
                                exact wp_move (.tmp 18) rfl _ ((hout 18 (by kernel_rfl)).trans rfl) ⟨_, rfl, tq_is _ _ _ _ rfl, Kept.refl _ _, fun _ _ _ _ _ => trivial⟩
                              | 1, ho, hsk =>
                                obtain rfl := Option.some.inj ho
                                exact wp_move (.tmp 19) rfl _ ((hout 19 (by kernel_rfl)).trans rfl) ⟨_, rfl, tq_is _ _ _ _ rfl, Kept.refl _ _, fun _ _ _ _ _ => trivial⟩
                              | 2, ho, hsk =>
                                obtain rfl := Option.some.inj ho
                                have e0 : a'.eval (.tmp 204) = .slice (some ⟨dg, 0, none⟩) wn dc := is_tq (hin 0 204 (by kernel_rfl) (by kernel_rfl)) rfl
                                have e1 : a'.eval (.tmp 205) = .int .i64 j := is_tq (hin 1 205 (by kernel_rfl) (by kernel_rfl)) rfl
                                exact o_idx40 (.tmp 204) (.tmp 205) rfl dg wn dc j (by omega) e0 e1 ⟨_, rfl, tq_is _ _ _ _ rfl, Kept.refl _ _, fun _ _ _ _ _ => trivial⟩
                              | 3, ho, hsk =>
                                obtain rfl := Option.some.inj ho
                                have e0 : a'.eval (.tmp 206) = .pointer (some ⟨dg, j * 6, none⟩) := is_tq (hin 2 206 (by kernel_rfl) (by kernel_rfl)) rfl
                                exact o_fg35_3 (.tmp 206) rfl _ _ e0 ⟨_, rfl, tq_is _ _ _ _ rfl, Kept.refl _ _, fun _ _ _ _ _ => trivial⟩
                              | 4, ho, hsk =>
                                obtain rfl := Option.some.inj ho
                                have e0 : a'.eval (.tmp 207) = .pointer (some ⟨dg, j * 6 + 3, none⟩) := is_tq (hin 3 207 (by kernel_rfl) (by kernel_rfl)) rfl
                                exact o_load2 (.tmp 207) rfl _ _ e0 (hk2.cell (unhide HQ3) (by simp)) ⟨_, rfl, tq_is _ _ _ _ rfl, Kept.refl _ _, fun _ _ _ _ _ => trivial⟩
                              | 5, ho, hsk =>
                                obtain rfl := Option.some.inj ho
                                exact wp_move (.tmp 16) rfl _ ((hout 16 (by kernel_rfl)).trans rfl) ⟨_, rfl, tq_is _ _ _ _ rfl, Kept.refl _ _, fun _ _ _ _ _ => trivial⟩
                              | 6, ho, hsk =>
                                obtain rfl := Option.some.inj ho
                                exact wp_move (.tmp 19) rfl _ ((hout 19 (by kernel_rfl)).trans rfl) ⟨_, rfl, tq_is _ _ _ _ rfl, Kept.refl _ _, fun _ _ _ _ _ => trivial⟩
                              | 7, ho, hsk =>
                                obtain rfl := Option.some.inj ho
                                have e0 : a'.eval (.tmp 209) = .int .i64 kn := is_tq (hin 5 209 (by kernel_rfl) (by kernel_rfl)) rfl
                                have e1 : a'.eval (.tmp 210) = .int .i64 j := is_tq (hin 6 210 (by kernel_rfl) (by kernel_rfl)) rfl
                                exact o_add3 (.tmp 209) (.tmp 210) rfl _ _ (by omega) e0 e1 ⟨_, rfl, tq_is _ _ _ _ rfl, Kept.refl _ _, fun _ _ _ _ _ => trivial⟩
                              | 8, ho, hsk =>
                                obtain rfl := Option.some.inj ho
                                have e0 : a'.eval (.tmp 211) = .int .i64 ((kn : Int) + (j : Int)) := is_tq (hin 7 211 (by kernel_rfl) (by kernel_rfl)) rfl
                                exact o_add3 (.tmp 211) (.const (.int .i64 1)) rfl _ _ (by omega) e0 rfl ⟨_, rfl, tq_is _ _ _ _ rfl, Kept.refl _ _, fun _ _ _ _ _ => trivial⟩
                              | 9, ho, hsk =>
                                obtain rfl := Option.some.inj ho
                                have e0 : a'.eval (.tmp 208) = .int .i64 ((kn : Int) + 1 + (j : Int)) := is_tq (hin 4 208 (by kernel_rfl) (by kernel_rfl)) rfl
                                have e1 : a'.eval (.tmp 212) = .int .i64 ((kn : Int) + (j : Int) + 1) := is_tq (hin 8 212 (by kernel_rfl) (by kernel_rfl)) rfl
                                exact o_neqT2 (.tmp 208) (.tmp 212) rfl _ _ true (by rw [decide_eq_true_eq]; omega) e0 e1 ⟨_, rfl, tq_is _ _ _ _ rfl, Kept.refl _ _, fun _ _ _ _ _ => trivial⟩
                              | 10, ho, hsk =>
                                obtain rfl := Option.some.inj ho
                                have e0 : a'.eval (.tmp 213) = .bool false := is_tq (hin 9 213 (by kernel_rfl) (by kernel_rfl)) rfl
                                exact wp_move (.tmp 213) rfl _ e0 ⟨_, rfl, tq_is _ _ _ _ rfl, Kept.refl _ _, fun _ _ _ _ _ => trivial⟩
                              | 11, ho, hsk =>
                                obtain rfl := Option.some.inj ho
                                exact wp_move (.tmp 18) rfl _ ((hout 18 (by kernel_rfl)).trans rfl) ⟨_, rfl, tq_is _ _ _ _ rfl, Kept.refl _ _, fun _ _ _ _ _ => trivial⟩
                              | 12, ho, hsk =>
                                obtain rfl := Option.some.inj ho
                                exact wp_move (.tmp 19) rfl _ ((hout 19 (by kernel_rfl)).trans rfl) ⟨_, rfl, tq_is _ _ _ _ rfl, Kept.refl _ _, fun _ _ _ _ _ => trivial⟩
                              | 13, ho, hsk =>
                                obtain rfl := Option.some.inj ho
                                have e0 : a'.eval (.tmp 215) = .slice (some ⟨dg, 0, none⟩) wn dc := is_tq (hin 11 215 (by kernel_rfl) (by kernel_rfl)) rfl
                                have e1 : a'.eval (.tmp 216) = .int .i64 j := is_tq (hin 12 216 (by kernel_rfl) (by kernel_rfl)) rfl
                                exact o_idx40 (.tmp 215) (.tmp 216) rfl dg wn dc j (by omega) e0 e1 ⟨_, rfl, tq_is _ _ _ _ rfl, Kept.refl _ _, fun _ _ _ _ _ => trivial⟩
                              | 14, ho, hsk =>
                                obtain rfl := Option.some.inj ho
                                have e0 : a'.eval (.tmp 217) = .pointer (some ⟨dg, j * 6, none⟩) := is_tq (hin 13 217 (by kernel_rfl) (by kernel_rfl)) rfl
                                exact o_fg35_5 (.tmp 217) rfl _ _ e0 ⟨_, rfl, tq_is _ _ _ _ rfl, Kept.refl _ _, fun _ _ _ _ _ => trivial⟩
                              | 15, ho, hsk =>
                                obtain rfl := Option.some.inj ho
                                have e0 : a'.eval (.tmp 218) = .pointer (some ⟨dg, j * 6 + 5, none⟩) := is_tq (hin 14 218 (by kernel_rfl) (by kernel_rfl)) rfl
                                exact o_load33 (.tmp 218) rfl _ _ e0 (hk2.cell (unhide HQ5) (by simp)) ⟨_, rfl, tq_is _ _ _ _ rfl, Kept.refl _ _, fun _ _ _ _ _ => trivial⟩
                              | 16, ho, hsk =>
                                obtain rfl := Option.some.inj ho
                                have e0 : a'.eval (.tmp 219) = .slice uo ul uc := is_tq (hin 15 219 (by kernel_rfl) (by kernel_rfl)) rfl
                                exact o_cvt (.tmp 219) rfl _ bs e0 ((unhide HR1).kept hk2) ⟨_, rfl, tq_is _ _ _ _ rfl, Kept.refl _ _, fun _ _ _ _ _ => trivial⟩
                              | 17, ho, hsk =>
                                obtain rfl := Option.some.inj ho
                                exact wp_move (.tmp 9) rfl _ ((hout 9 (by kernel_rfl)).trans rfl) ⟨_, rfl, tq_is _ _ _ _ rfl, Kept.refl _ _, fun _ _ _ _ _ => trivial⟩
                              | 18, ho, hsk =>
                                obtain rfl := Option.some.inj ho
                                exact wp_move (.tmp 12) rfl _ ((hout 12 (by kernel_rfl)).trans rfl) ⟨_, rfl, tq_is _ _ _ _ rfl, Kept.refl _ _, fun _ _ _ _ _ => trivial⟩
                              | 19, ho, hsk =>
                                obtain rfl := Option.some.inj ho
                                have e0 : a'.eval (.tmp 221) = P0 z := is_tq (hin 17 221 (by kernel_rfl) (by kernel_rfl)) rfl
                                exact o_nil (.tmp 221) rfl _ e0 ⟨_, rfl, tq_is _ _ _ _ rfl, Kept.refl _ _, fun _ _ _ _ _ => trivial⟩
                              | 20, ho, hsk =>
                                obtain rfl := Option.some.inj ho
                                have e0 : a'.eval (.tmp 223) = P0 z := is_tq (hin 19 223 (by kernel_rfl) (by kernel_rfl)) rfl
                                exact o_fld54_2 (.tmp 223) rfl z e0 ⟨_, rfl, tq_is _ _ _ _ rfl, Kept.refl _ _, fun _ _ _ _ _ => trivial⟩
                              | 21, ho, hsk =>
                                obtain rfl := Option.some.inj ho
                                have e0 : a'.eval (.tmp 224) = .pointer (some ⟨z, 3, none⟩) := is_tq (hin 20 224 (by kernel_rfl) (by kernel_rfl)) rfl
                                have e1 : a'.eval (.tmp 222) = .int .i64 0 := is_tq (hin 18 222 (by kernel_rfl) (by kernel_rfl)) rfl
                                exact o_idx52 (.tmp 224) (.tmp 222) rfl z 3 0 (by omega) e0 e1 ⟨_, rfl, tq_is _ _ _ _ rfl, Kept.refl _ _, fun _ _ _ _ _ => trivial⟩
                              | 22, ho, hsk =>
                                obtain rfl := Option.some.inj ho
                                have e0 : a'.eval (.tmp 225) = .pointer (some ⟨z, 3 + 0, none⟩) := is_tq (hin 21 225 (by kernel_rfl) (by kernel_rfl)) rfl
                                exact o_load30 (.tmp 225) rfl _ _ e0 (hk2.cell (unhide HQS) (by simp)) ⟨_, rfl, tq_is _ _ _ _ rfl, Kept.refl _ _, fun _ _ _ _ _ => trivial⟩
                              | 23, ho, hsk =>
                                obtain rfl := Option.some.inj ho
                                exact wp_move (.tmp 16) rfl _ ((hout 16 (by kernel_rfl)).trans rfl) ⟨_, rfl, tq_is _ _ _ _ rfl, Kept.refl _ _, fun _ _ _ _ _ => trivial⟩
                              | 24, ho, hsk =>
                                obtain rfl := Option.some.inj ho
                                exact wp_move (.tmp 19) rfl _ ((hout 19 (by kernel_rfl)).trans rfl) ⟨_, rfl, tq_is _ _ _ _ rfl, Kept.refl _ _, fun _ _ _ _ _ => trivial⟩
                              | 25, ho, hsk =>
                                obtain rfl := Option.some.inj ho
                                have e0 : a'.eval (.tmp 227) = .int .i64 kn := is_tq (hin 23 227 (by kernel_rfl) (by kernel_rfl)) rfl
                                have e1 : a'.eval (.tmp 228) = .int .i64 j := is_tq (hin 24 228 (by kernel_rfl) (by kernel_rfl)) rfl
                                refine o_add3 (.tmp 227) (.tmp 228) rfl _ _ (by omega) e0 e1 ?_
                                rw [show ((kn : Int) + (j : Int)) = ((kn + j : Nat) : Int) from by omega]
                                exact ⟨_, rfl, tq_is _ _ _ _ rfl, Kept.refl _ _, fun _ _ _ _ _ => trivial⟩
                              | 26, ho, hsk =>
                                obtain rfl := Option.some.inj ho
                                have e0 : a'.eval (.tmp 226) = .slice (some ⟨sg, so, none⟩) ln sc := is_tq (hin 22 226 (by kernel_rfl) (by kernel_rfl)) rfl
                                have e1 : a'.eval (.tmp 229) = .int .i64 (kn + j : Nat) := is_tq (hin 25 229 (by kernel_rfl) (by kernel_rfl)) rfl
                                exact o_idx30 (.tmp 226) (.tmp 229) rfl sg so ln sc (kn + j) (by omega) e0 e1 ⟨_, rfl, tq_is _ _ _ _ rfl, Kept.refl _ _, fun _ _ _ _ _ => trivial⟩
                              | 27, ho, hsk =>
                                obtain rfl := Option.some.inj ho
                                have e0 : a'.eval (.tmp 230) = .pointer (some ⟨sg, so + (kn + j), none⟩) := is_tq (hin 26 230 (by kernel_rfl) (by kernel_rfl)) rfl
                                exact o_load33 (.tmp 230) rfl _ _ e0 (hk2.cell (unhide HQB) (by simp)) ⟨_, rfl, tq_is _ _ _ _ rfl, Kept.refl _ _, fun _ _ _ _ _ => trivial⟩
                              | 28, ho, hsk =>
                                obtain rfl := Option.some.inj ho
                                have e0 : a'.eval (.tmp 231) = .slice uo2 ul uc2 := is_tq (hin 27 231 (by kernel_rfl) (by kernel_rfl)) rfl
                                exact o_cvt (.tmp 231) rfl _ bs e0 ((unhide HR2).kept hk2) ⟨_, rfl, tq_is _ _ _ _ rfl, Kept.refl _ _, fun _ _ _ _ _ => trivial⟩
                              | 29, ho, hsk =>
                                obtain rfl := Option.some.inj ho
                                have e0 : a'.eval (.tmp 220) = .string (strOfNums bs) := is_tq (hin 16 220 (by kernel_rfl) (by kernel_rfl)) rfl
                                have e1 : a'.eval (.tmp 232) = .string (strOfNums bs) := is_tq (hin 28 232 (by kernel_rfl) (by kernel_rfl)) rfl
                                exact o_neqS (.tmp 220) (.tmp 232) rfl _ e0 e1 ⟨_, rfl, tq_is _ _ _ _ rfl, Kept.refl _ _, fun _ _ _ _ _ => trivial⟩
                              | 30, ho, hsk =>
                                obtain rfl := Option.some.inj ho
                                have e0 : a'.eval (.tmp 214) = .bool false := is_tq (hin 10 214 (by kernel_rfl) (by kernel_rfl)) rfl
                                have e1 : a'.eval (.tmp 233) = .bool false := is_tq (hin 29 233 (by kernel_rfl) (by kernel_rfl)) rfl
                                exact o_pickOr0 (.tmp 214) (.tmp 233) rfl _ e0 e1 ⟨_, rfl, tq_is _ _ _ _ rfl, Kept.refl _ _, fun _ _ _ _ _ => trivial⟩
                              | 31, ho, hsk =>
                                obtain rfl := Option.some.inj ho
                                have e0 : a'.eval (.tmp 234) = .bool false := is_tq (hin 30 234 (by kernel_rfl) (by kernel_rfl)) rfl
                                exact wp_move (.tmp 234) rfl _ e0 ⟨_, rfl, tq_is _ _ _ _ rfl, Kept.refl _ _, fun _ _ _ _ _ => trivial⟩
                              | 32, ho, hsk =>
                                obtain rfl := Option.some.inj ho
                                exact wp_move (.tmp 18) rfl _ ((hout 18 (by kernel_rfl)).trans rfl) ⟨_, rfl, tq_is _ _ _ _ rfl, Kept.refl _ _, fun _ _ _ _ _ => trivial⟩
                              | 33, ho, hsk =>
                                obtain rfl := Option.some.inj ho
                                exact wp_move (.tmp 19) rfl _ ((hout 19 (by kernel_rfl)).trans rfl) ⟨_, rfl, tq_is _ _ _ _ rfl, Kept.refl _ _, fun _ _ _ _ _ => trivial⟩
                              | 34, ho, hsk =>
                                obtain rfl := Option.some.inj ho
                                have e0 : a'.eval (.tmp 236) = .slice (some ⟨dg, 0, none⟩) wn dc := is_tq (hin 32 236 (by kernel_rfl) (by kernel_rfl)) rfl
                                have e1 : a'.eval (.tmp 237) = .int .i64 j := is_tq (hin 33 237 (by kernel_rfl) (by kernel_rfl)) rfl
                                exact o_idx40 (.tmp 236) (.tmp 237) rfl dg wn dc j (by omega) e0 e1 ⟨_, rfl, tq_is _ _ _ _ rfl, Kept.refl _ _, fun _ _ _ _ _ => trivial⟩
                              | 35, ho, hsk =>
                                obtain rfl := Option.some.inj ho
                                have e0 : a'.eval (.tmp 238) = .pointer (some ⟨dg, j * 6, none⟩) := is_tq (hin 34 238 (by kernel_rfl) (by kernel_rfl)) rfl
                                exact o_fg35_4 (.tmp 238) rfl _ _ e0 ⟨_, rfl, tq_is _ _ _ _ rfl, Kept.refl _ _, fun _ _ _ _ _ => trivial⟩
                              | 36, ho, hsk =>
                                obtain rfl := Option.some.inj ho
                                have e0 : a'.eval (.tmp 239) = .pointer (some ⟨dg, j * 6 + 4, none⟩) := is_tq (hin 35 239 (by kernel_rfl) (by kernel_rfl)) rfl
                                exact o_load2 (.tmp 239) rfl _ _ e0 (hk2.cell (unhide HQ4) (by simp)) ⟨_, rfl, tq_is _ _ _ _ rfl, Kept.refl _ _, fun _ _ _ _ _ => trivial⟩
                              | 37, ho, hsk =>
                                obtain rfl := Option.some.inj ho
                                exact wp_move (.tmp 9) rfl _ ((hout 9 (by kernel_rfl)).trans rfl) ⟨_, rfl, tq_is _ _ _ _ rfl, Kept.refl _ _, fun _ _ _ _ _ => trivial⟩
                              | 38, ho, hsk =>
                                obtain rfl := Option.some.inj ho
                                exact wp_move (.tmp 12) rfl _ ((hout 12 (by kernel_rfl)).trans rfl) ⟨_, rfl, tq_is _ _ _ _ rfl, Kept.refl _ _, fun _ _ _ _ _ => trivial⟩
                              | 39, ho, hsk =>
                                obtain rfl := Option.some.inj ho
                                have e0 : a'.eval (.tmp 241) = P0 z := is_tq (hin 37 241 (by kernel_rfl) (by kernel_rfl)) rfl
                                exact o_nil (.tmp 241) rfl _ e0 ⟨_, rfl, tq_is _ _ _ _ rfl, Kept.refl _ _, fun _ _ _ _ _ => trivial⟩
                              | 40, ho, hsk =>
                                obtain rfl := Option.some.inj ho
                                have e0 : a'.eval (.tmp 243) = P0 z := is_tq (hin 39 243 (by kernel_rfl) (by kernel_rfl)) rfl
                                exact o_fld54_0 (.tmp 243) rfl z e0 ⟨_, rfl, tq_is _ _ _ _ rfl, Kept.refl _ _, fun _ _ _ _ _ => trivial⟩
                              | 41, ho, hsk =>
                                obtain rfl := Option.some.inj ho
                                have e0 : a'.eval (.tmp 244) = .pointer (some ⟨z, 0, none⟩) := is_tq (hin 40 244 (by kernel_rfl) (by kernel_rfl)) rfl
                                have e1 : a'.eval (.tmp 242) = .int .i64 0 := is_tq (hin 38 242 (by kernel_rfl) (by kernel_rfl)) rfl
                                exact o_idx51 (.tmp 244) (.tmp 242) rfl z 0 0 (by omega) e0 e1 ⟨_, rfl, tq_is _ _ _ _ rfl, Kept.refl _ _, fun _ _ _ _ _ => trivial⟩
                              | 42, ho, hsk =>
                                obtain rfl := Option.some.inj ho
                                have e0 : a'.eval (.tmp 245) = .pointer (some ⟨z, 0 + 0, none⟩) := is_tq (hin 41 245 (by kernel_rfl) (by kernel_rfl)) rfl
                                exact o_load23 (.tmp 245) rfl _ _ e0 (hk2.cell (unhide HQZ) (by simp)) ⟨_, rfl, tq_is _ _ _ _ rfl, Kept.refl _ _, fun _ _ _ _ _ => trivial⟩
                              | 43, ho, hsk =>
                                obtain rfl := Option.some.inj ho
                                have e0 : a'.eval (.tmp 246) = P0 (pt 0) := is_tq (hin 42 246 (by kernel_rfl) (by kernel_rfl)) rfl
                                refine wp_callF 23 _ _ rfl #[P0 (pt 0)] (by simp [e0]) (cf23 _ _) ((got23 (pt 0) (sv5 0) (sw5 0) (sp5 0) _ ((unhide HSX).kept0 hk2)).mono ?_)
                                rintro e w3 ⟨rfl, q3, rfl⟩
                                rw [← unhide HGI]
                                exact ⟨_, rfl, _, rfl, tq_is _ _ _ _ rfl, kept_drewN _ _ _, fun _ _ _ _ _ => trivial⟩
                              | 44, ho, hsk =>
                                obtain rfl := Option.some.inj ho
                                have e0 : a'.eval (.tmp 240) = .int .i64 gi := is_tq (hin 36 240 (by kernel_rfl) (by kernel_rfl)) rfl
                                have e1 : a'.eval (.tmp 247) = .int .i64 gi := is_tq (hin 43 247 (by kernel_rfl) (by kernel_rfl)) rfl
                                exact o_neqT2 (.tmp 240) (.tmp 247) rfl _ _ true (by simp) e0 e1 ⟨_, rfl, tq_is _ _ _ _ rfl, Kept.refl _ _, fun _ _ _ _ _ => trivial⟩
                              | 45, ho, hsk =>
                                obtain rfl := Option.some.inj ho
                                have e0 : a'.eval (.tmp 235) = .bool false := is_tq (hin 31 235 (by kernel_rfl) (by kernel_rfl)) rfl
                                have e1 : a'.eval (.tmp 248) = .bool false := is_tq (hin 44 248 (by kernel_rfl) (by kernel_rfl)) rfl
                                exact o_pickOr0 (.tmp 235) (.tmp 248) rfl _ e0 e1 ⟨_, rfl, tq_is _ _ _ _ rfl, Kept.refl _ _, fun _ _ _ _ _ => trivial⟩
                            intro w9 hk9
                            replace hk9 : Kept [] wr w9 := ⟨hk9.os, hk9.tape, hk9.output, hk9.size, hk9.block⟩
                            simp only [valsQ, List.map_cons, List.map_nil, Option.getD_some, List.take_succ_cons, List.take_zero, putAll, Act.put, List.setIfInBounds_toArray, List.set_cons_succ, List.set_cons_zero]
                            refine wpAny_done (by kernel_rfl) ?_ _
                            have HK9 : Hid (Kept [] V8 w9) := (unhide HK8).trans hk9
                            clear hk9
                            go_wp2_with fail
                            go_roundw
                            case rel => exact ⟨j + 1, by omega, by go_num, HK9⟩
                            case measure => simp [intOf]; omega
                          · have hjI : ¬ (j : Int) < (wn : Int) := by omega
                            go_wp2_with fail
                            go_roundw
                            case rel => exact ⟨k + 1, sv5, sw5, sp5, st5, ou5, L5, M5, by omega, by go_num, hide ((unhide ZT).step (unhide HK8))⟩
                            case measure => simp [intOf]; omega
          · go_upto_region 11 with fail
            clear hp1 hand
            go_cut [86] from 59 to 85 (fun t w1c => ∃ (b : Bool) (v1 : Value) (ws1 : List Value), t = .bool b ∧ Hid (Tt w w1c z pt (upd sv 1 v1) (upd sw 1 ws1) (cond b (upd sp 1 ((sp 1).put x.y.bs)) sp) (.slice none 0 0) [] st ou L M) ∧ Hid (Blk w1c p 56 x.C))
            case first =>
              as_aux_lemma =>
                have HPL : Hid ((sp 1).sent.length < 1000) := by have h1 := (unhide ZT).n 1 (by omega); exact (by omega : (sp 1).sent.length < 1000)
                have HS := hide ((unhide ZT).t.s 1 (by omega))
                by_cases hk1 : x.kind = 1
                · rw [hk1] at hp0
                  have HP0 := hide hp0
                  have HP3 : Hid (V4.cell? ⟨p, 3, none⟩ = some x.y.v) := fits_cell (unhide HP) 3 _ rfl
                  have HC0 : Hid (V4.cell? ⟨z, 0 + 1, none⟩ = some (P0 (pt 1))) := fits_cell (unhide ZT).t.hd (0 + 1) _ rfl
                  have HWK := hide (unhide ZT).t.k
                  clear hp0
                  by_cases hbl : 256 < x.y.bs.length
                  · have HSE : Hid ((sp 1).send x.y.bs = (sp 1, 3)) := by unfold Ps.send; rw [if_pos hbl]; exact hide rfl
                    refine wp_region_any mixed (wpAny_gz 15 rfl [some (.pointer (some ⟨p, 0, none⟩)), some (.int .i64 1), some (.bool true), some (.bool true), some (P0 z), some (.int .i64 1), some (P0 z), some (.pointer (some ⟨z, 0, none⟩)), some (.pointer (some ⟨z, 0 + 1, none⟩)), some (P0 (pt 1)), some (.pointer (some ⟨p, 3, none⟩)), some (x.y.v), some (.int .i64 3), some (.bool false), some (.bool false)] (by kernel_rfl) rfl (by kernel_rfl) (fun l vs W => (T11s V4 (pt 1) (sv 1) (sw 1) (sp 1)) (fun i => l.getD i false) vs W) (⟨fun _ => ⟨rfl, rfl, rfl, Nat.le_refl _, fun _ _ _ => rfl⟩, fun h => by cases h⟩) ?_ ?_)
                    · intro ix o' hi ho a' w2 l vs hls hlf hJ hout hin hdep hnot
                      match ix, ho with
                      | 0, ho =>
                        obtain rfl := Option.some.inj ho
                        have e0 := hout 11 (by kernel_rfl)
                        replace e0 : a'.eval (.tmp 11) = _ := e0.trans rfl
                        exact o_fld56_0 (.tmp 11) rfl _ e0 ⟨_, rfl, told_of rfl, keepG (St := (T11s V4 (pt 1) (sv 1) (sw 1) (sp 1))) [12] T11s.loc (by omega) (by decide) hJ⟩
                      | 1, ho =>
                        obtain rfl := Option.some.inj ho
                        have e0 : a'.eval (.tmp 72) = .pointer (some ⟨p, 0, none⟩) := by have h9 := hin 0 72 (by kernel_rfl) (by kernel_rfl); exact h9.1.trans (told_is _ h9.2 rfl)
                        exact o_load3 (.tmp 72) rfl _ _ e0 ((hJ.1 (hnot 12 (by kernel_rfl))).cell (unhide HP0) (by simp)) ⟨_, rfl, told_of rfl, keepG (St := (T11s V4 (pt 1) (sv 1) (sw 1) (sp 1))) [12] T11s.loc (by omega) (by decide) hJ⟩
                      | 2, ho =>
                        obtain rfl := Option.some.inj ho
                        have e0 : a'.eval (.tmp 73) = .int .i64 1 := by have h9 := hin 1 73 (by kernel_rfl) (by kernel_rfl); exact h9.1.trans (told_is _ h9.2 rfl)
                        exact o_eqlT3 (.tmp 73) (.const (.int .i64 1)) rfl _ _ true (by simp) e0 rfl ⟨_, rfl, told_of rfl, keepG (St := (T11s V4 (pt 1) (sv 1) (sw 1) (sp 1))) [12] T11s.loc (by omega) (by decide) hJ⟩
                      | 3, ho =>
                        obtain rfl := Option.some.inj ho
                        have e0 : a'.eval (.tmp 74) = .bool true := by have h9 := hin 2 74 (by kernel_rfl) (by kernel_rfl); exact h9.1.trans (told_is _ h9.2 rfl)
                        exact wp_move (.tmp 74) rfl _ e0 ⟨_, rfl, told_of rfl, keepG (St := (T11s V4 (pt 1) (sv 1) (sw 1) (sp 1))) [12] T11s.loc (by omega) (by decide) hJ⟩
                      | 4, ho =>
                        obtain rfl := Option.some.inj ho
                        have e0 := hout 9 (by kernel_rfl)
                        replace e0 : a'.eval (.tmp 9) = _ := e0.trans rfl
                        exact wp_move (.tmp 9) rfl _ e0 ⟨_, rfl, told_of rfl, keepG (St := (T11s V4 (pt 1) (sv 1) (sw 1) (sp 1))) [12] T11s.loc (by omega) (by decide) hJ⟩
                      | 5, ho =>
                        obtain rfl := Option.some.inj ho
                        have e0 := hout 12 (by kernel_rfl)
                        replace e0 : a'.eval (.tmp 12) = _ := e0.trans rfl
                        exact wp_move (.tmp 12) rfl _ e0 ⟨_, rfl, told_of rfl, keepG (St := (T11s V4 (pt 1) (sv 1) (sw 1) (sp 1))) [12] T11s.loc (by omega) (by decide) hJ⟩
                      | 6, ho =>
                        obtain rfl := Option.some.inj ho
                        have e0 : a'.eval (.tmp 76) = P0 z := by have h9 := hin 4 76 (by kernel_rfl) (by kernel_rfl); exact h9.1.trans (told_is _ h9.2 rfl)
                        exact o_nil (.tmp 76) rfl _ e0 ⟨_, rfl, told_of rfl, keepG (St := (T11s V4 (pt 1) (sv 1) (sw 1) (sp 1))) [12] T11s.loc (by omega) (by decide) hJ⟩
                      | 7, ho =>
                        obtain rfl := Option.some.inj ho
                        have e0 : a'.eval (.tmp 78) = P0 z := by have h9 := hin 6 78 (by kernel_rfl) (by kernel_rfl); exact h9.1.trans (told_is _ h9.2 rfl)
                        exact o_fld54_0 (.tmp 78) rfl _ e0 ⟨_, rfl, told_of rfl, keepG (St := (T11s V4 (pt 1) (sv 1) (sw 1) (sp 1))) [12] T11s.loc (by omega) (by decide) hJ⟩
                      | 8, ho =>
                        obtain rfl := Option.some.inj ho
                        have e0 : a'.eval (.tmp 79) = .pointer (some ⟨z, 0, none⟩) := by have h9 := hin 7 79 (by kernel_rfl) (by kernel_rfl); exact h9.1.trans (told_is _ h9.2 rfl)
                        have e1 : a'.eval (.tmp 77) = .int .i64 1 := by have h9 := hin 5 77 (by kernel_rfl) (by kernel_rfl); exact h9.1.trans (told_is _ h9.2 rfl)
                        exact o_idx51 (.tmp 79) (.tmp 77) rfl z 0 1 (by omega) e0 e1 ⟨_, rfl, told_of rfl, keepG (St := (T11s V4 (pt 1) (sv 1) (sw 1) (sp 1))) [12] T11s.loc (by omega) (by decide) hJ⟩
                      | 9, ho =>
                        obtain rfl := Option.some.inj ho
                        have e0 : a'.eval (.tmp 80) = .pointer (some ⟨z, 0 + 1, none⟩) := by have h9 := hin 8 80 (by kernel_rfl) (by kernel_rfl); exact h9.1.trans (told_is _ h9.2 rfl)
                        exact o_load23 (.tmp 80) rfl _ _ e0 ((hJ.1 (hnot 12 (by kernel_rfl))).cell (unhide HC0) (by simp)) ⟨_, rfl, told_of rfl, keepG (St := (T11s V4 (pt 1) (sv 1) (sw 1) (sp 1))) [12] T11s.loc (by omega) (by decide) hJ⟩
                      | 10, ho =>
                        obtain rfl := Option.some.inj ho
                        have e0 := hout 11 (by kernel_rfl)
                        replace e0 : a'.eval (.tmp 11) = _ := e0.trans rfl
                        exact o_fld56_3 (.tmp 11) rfl _ e0 ⟨_, rfl, told_of rfl, keepG (St := (T11s V4 (pt 1) (sv 1) (sw 1) (sp 1))) [12] T11s.loc (by omega) (by decide) hJ⟩
                      | 11, ho =>
                        obtain rfl := Option.some.inj ho
                        have e0 : a'.eval (.tmp 82) = .pointer (some ⟨p, 3, none⟩) := by have h9 := hin 10 82 (by kernel_rfl) (by kernel_rfl); exact h9.1.trans (told_is _ h9.2 rfl)
                        exact o_load33 (.tmp 82) rfl _ _ e0 ((hJ.1 (hnot 12 (by kernel_rfl))).cell (unhide HP3) (by simp)) ⟨_, rfl, told_of rfl, keepG (St := (T11s V4 (pt 1) (sv 1) (sw 1) (sp 1))) [12] T11s.loc (by omega) (by decide) hJ⟩
                      | 12, ho =>
                        obtain rfl := Option.some.inj ho
                        have e0 : a'.eval (.tmp 81) = P0 (pt 1) := by have h9 := hin 9 81 (by kernel_rfl) (by kernel_rfl); exact h9.1.trans (told_is _ h9.2 rfl)
                        have e1 : a'.eval (.tmp 83) = x.y.v := by have h9 := hin 11 83 (by kernel_rfl) (by kernel_rfl); exact h9.1.trans (told_is _ h9.2 rfl)
                        have hk0 := hJ.1 hlf
                        refine wp_callF 12 _ _ rfl #[P0 (pt 1), x.y.v] (by simp [e0, e1]) (cf12 _ _) ((send_arg w2 (pt 1) (sv 1) (sw 1) (sp 1) x.y w.heap.size ((unhide HS).kept0 hk0) ((unhide HXO).y.kept ((unhide HWK).trans hk0) (by simp)) (unhide HPL)).mono ?_)
                        rintro e w3 ⟨rfl, v', ws', hR⟩
                        rw [unhide HSE] at hR ⊢
                        exact ⟨_, rfl, _, rfl, told_of rfl, nextG (St := (T11s V4 (pt 1) (sv 1) (sw 1) (sp 1))) (by omega) ⟨(fun h => by cases h), fun _ => ⟨v', ws', hR.after hk0⟩⟩⟩
                      | 13, ho =>
                        obtain rfl := Option.some.inj ho
                        have e0 : a'.eval (.tmp 84) = .int .i64 3 := by have h9 := hin 12 84 (by kernel_rfl) (by kernel_rfl); exact h9.1.trans (told_is _ h9.2 rfl)
                        exact o_eqlT24 (.tmp 84) (.const (.int .i64 0)) rfl _ _ false (by decide) e0 rfl ⟨_, rfl, told_of rfl, keepG (St := (T11s V4 (pt 1) (sv 1) (sw 1) (sp 1))) [12] T11s.loc (by omega) (by decide) hJ⟩
                      | 14, ho =>
                        obtain rfl := Option.some.inj ho
                        have e0 : a'.eval (.tmp 75) = .bool true := by have h9 := hin 3 75 (by kernel_rfl) (by kernel_rfl); exact h9.1.trans (told_is _ h9.2 rfl)
                        have e1 : a'.eval (.tmp 85) = .bool false := by have h9 := hin 13 85 (by kernel_rfl) (by kernel_rfl); exact h9.1.trans (told_is _ h9.2 rfl)
                        exact o_pick (.tmp 75) (.tmp 85) rfl _ e0 e1 ⟨_, rfl, told_of rfl, keepG (St := (T11s V4 (pt 1) (sv 1) (sw 1) (sp 1))) [12] T11s.loc (by omega) (by decide) hJ⟩
                    intro l vs w9 hl hJ htold
                    have t0 : vs 0 = .pointer (some ⟨p, 0, none⟩) := told_is _ (htold 0 (by decide)) rfl
                    have t1 : vs 1 = .int .i64 1 := told_is _ (htold 1 (by decide)) rfl
                    have t2 : vs 2 = .bool true := told_is _ (htold 2 (by decide)) rfl
                    have t3 : vs 3 = .bool true := told_is _ (htold 3 (by decide)) rfl
                    have t4 : vs 4 = P0 z := told_is _ (htold 4 (by decide)) rfl
                    have t5 : vs 5 = .int .i64 1 := told_is _ (htold 5 (by decide)) rfl
                    have t6 : vs 6 = P0 z := told_is _ (htold 6 (by decide)) rfl
                    have t7 : vs 7 = .pointer (some ⟨z, 0, none⟩) := told_is _ (htold 7 (by decide)) rfl
                    have t8 : vs 8 = .pointer (some ⟨z, 0 + 1, none⟩) := told_is _ (htold 8 (by decide)) rfl
                    have t9 : vs 9 = P0 (pt 1) := told_is _ (htold 9 (by decide)) rfl
                    have t10 : vs 10 = .pointer (some ⟨p, 3, none⟩) := told_is _ (htold 10 (by decide)) rfl
                    have t11 : vs 11 = x.y.v := told_is _ (htold 11 (by decide)) rfl
                    have t12 : vs 12 = .int .i64 3 := told_is _ (htold 12 (by decide)) rfl
                    have t13 : vs 13 = .bool false := told_is _ (htold 13 (by decide)) rfl
                    have t14 : vs 14 = .bool false := told_is _ (htold 14 (by decide)) rfl
                    rw [show (List.range 15).map vs = [vs 0, vs 1, vs 2, vs 3, vs 4, vs 5, vs 6, vs 7, vs 8, vs 9, vs 10, vs 11, vs 12, vs 13, vs 14] from rfl]
                    simp only [t0, t1, t2, t3, t4, t5, t6, t7, t8, t9, t10, t11, t12, t13, t14, putAll, Act.put, List.setIfInBounds_toArray, List.set_cons_succ, List.set_cons_zero]
                    clear t0 t1 t2 t3 t4 t5 t6 t7 t8 t9 t10 t11 t12 t13 t14 htold
                    obtain ⟨v1, ws1, hR⟩ := hJ.2 (hl 12 (by decide))
                    have HT := hide ((unhide ZT).t.mut (i := 1) (by omega) hR)
                    replace HP := hide (hR.blk (unhide HS) (unhide HP) (by decide) (by decide))
                    clear hR hJ hl HP0 HP3 HC0 HS HWK HPL HSE hbl
                    go_wp2_with fail
                    go_meet
                    case rel => exact ⟨false, v1, ws1, rfl, by have h9 := unhide HT; rw [upd_self sp] at h9; exact hide h9, HP⟩
                  · have HSE : Hid ((sp 1).send x.y.bs = ((sp 1).put x.y.bs, 0)) := by unfold Ps.send; rw [if_neg hbl]; exact hide rfl
                    refine wp_region_any mixed (wpAny_gz 15 rfl [some (.pointer (some ⟨p, 0, none⟩)), some (.int .i64 1), some (.bool true), some (.bool true), some (P0 z), some (.int .i64 1), some (P0 z), some (.pointer (some ⟨z, 0, none⟩)), some (.pointer (some ⟨z, 0 + 1, none⟩)), some (P0 (pt 1)), some (.pointer (some ⟨p, 3, none⟩)), some (x.y.v), some (.int .i64 0), some (.bool true), some (.bool true)] (by kernel_rfl) rfl (by kernel_rfl) (fun l vs W => (T11s V4 (pt 1) (sv 1) (sw 1) ((sp 1).put x.y.bs)) (fun i => l.getD i false) vs W) (⟨fun _ => ⟨rfl, rfl, rfl, Nat.le_refl _, fun _ _ _ => rfl⟩, fun h => by cases h⟩) ?_ ?_)
                    · intro ix o' hi ho a' w2 l vs hls hlf hJ hout hin hdep hnot
                      match ix, ho with
                      | 0, ho =>
                        obtain rfl := Option.some.inj ho
                        have e0 := hout 11 (by kernel_rfl)
                        replace e0 : a'.eval (.tmp 11) = _ := e0.trans rfl
                        exact o_fld56_0 (.tmp 11) rfl _ e0 ⟨_, rfl, told_of rfl, keepG (St := (T11s V4 (pt 1) (sv 1) (sw 1) ((sp 1).put x.y.bs))) [12] T11s.loc (by omega) (by decide) hJ⟩
                      | 1, ho =>
                        obtain rfl := Option.some.inj ho
                        have e0 : a'.eval (.tmp 72) = .pointer (some ⟨p, 0, none⟩) := by have h9 := hin 0 72 (by kernel_rfl) (by kernel_rfl); exact h9.1.trans (told_is _ h9.2 rfl)
                        exact o_load3 (.tmp 72) rfl _ _ e0 ((hJ.1 (hnot 12 (by kernel_rfl))).cell (unhide HP0) (by simp)) ⟨_, rfl, told_of rfl, keepG (St := (T11s V4 (pt 1) (sv 1) (sw 1) ((sp 1).put x.y.bs))) [12] T11s.loc (by omega) (by decide) hJ⟩
                      | 2, ho =>
                        obtain rfl := Option.some.inj ho
                        have e0 : a'.eval (.tmp 73) = .int .i64 1 := by have h9 := hin 1 73 (by kernel_rfl) (by kernel_rfl); exact h9.1.trans (told_is _ h9.2 rfl)
                        exact o_eqlT3 (.tmp 73) (.const (.int .i64 1)) rfl _ _ true (by simp) e0 rfl ⟨_, rfl, told_of rfl, keepG (St := (T11s V4 (pt 1) (sv 1) (sw 1) ((sp 1).put x.y.bs))) [12] T11s.loc (by omega) (by decide) hJ⟩
                      | 3, ho =>
                        obtain rfl := Option.some.inj ho
                        have e0 : a'.eval (.tmp 74) = .bool true := by have h9 := hin 2 74 (by kernel_rfl) (by kernel_rfl); exact h9.1.trans (told_is _ h9.2 rfl)
                        exact wp_move (.tmp 74) rfl _ e0 ⟨_, rfl, told_of rfl, keepG (St := (T11s V4 (pt 1) (sv 1) (sw 1) ((sp 1).put x.y.bs))) [12] T11s.loc (by omega) (by decide) hJ⟩
                      | 4, ho =>
                        obtain rfl := Option.some.inj ho
                        have e0 := hout 9 (by kernel_rfl)
                        replace e0 : a'.eval (.tmp 9) = _ := e0.trans rfl
                        exact wp_move (.tmp 9) rfl _ e0 ⟨_, rfl, told_of rfl, keepG (St := (T11s V4 (pt 1) (sv 1) (sw 1) ((sp 1).put x.y.bs))) [12] T11s.loc (by omega) (by decide) hJ⟩
                      | 5, ho =>
                        obtain rfl := Option.some.inj ho
                        have e0 := hout 12 (by kernel_rfl)
                        replace e0 : a'.eval (.tmp 12) = _ := e0.trans rfl
                        exact wp_move (.tmp 12) rfl _ e0 ⟨_, rfl, told_of rfl, keepG (St := (T11s V4 (pt 1) (sv 1) (sw 1) ((sp 1).put x.y.bs))) [12] T11s.loc (by omega) (by decide) hJ⟩
                      | 6, ho =>
                        obtain rfl := Option.some.inj ho
                        have e0 : a'.eval (.tmp 76) = P0 z := by have h9 := hin 4 76 (by kernel_rfl) (by kernel_rfl); exact h9.1.trans (told_is _ h9.2 rfl)
                        exact o_nil (.tmp 76) rfl _ e0 ⟨_, rfl, told_of rfl, keepG (St := (T11s V4 (pt 1) (sv 1) (sw 1) ((sp 1).put x.y.bs))) [12] T11s.loc (by omega) (by decide) hJ⟩
                      | 7, ho =>
                        obtain rfl := Option.some.inj ho
                        have e0 : a'.eval (.tmp 78) = P0 z := by have h9 := hin 6 78 (by kernel_rfl) (by kernel_rfl); exact h9.1.trans (told_is _ h9.2 rfl)
                        exact o_fld54_0 (.tmp 78) rfl _ e0 ⟨_, rfl, told_of rfl, keepG (St := (T11s V4 (pt 1) (sv 1) (sw 1) ((sp 1).put x.y.bs))) [12] T11s.loc (by omega) (by decide) hJ⟩
                      | 8, ho =>
                        obtain rfl := Option.some.inj ho
                        have e0 : a'.eval (.tmp 79) = .pointer (some ⟨z, 0, none⟩) := by have h9 := hin 7 79 (by kernel_rfl) (by kernel_rfl); exact h9.1.trans (told_is _ h9.2 rfl)
                        have e1 : a'.eval (.tmp 77) = .int .i64 1 := by have h9 := hin 5 77 (by kernel_rfl) (by kernel_rfl); exact h9.1.trans (told_is _ h9.2 rfl)
                        exact o_idx51 (.tmp 79) (.tmp 77) rfl z 0 1 (by omega) e0 e1 ⟨_, rfl, told_of rfl, keepG (St := (T11s V4 (pt 1) (sv 1) (sw 1) ((sp 1).put x.y.bs))) [12] T11s.loc (by omega) (by decide) hJ⟩
                      | 9, ho =>
                        obtain rfl := Option.some.inj ho
                        have e0 : a'.eval (.tmp 80) = .pointer (some ⟨z, 0 + 1, none⟩) := by have h9 := hin 8 80 (by kernel_rfl) (by kernel_rfl); exact h9.1.trans (told_is _ h9.2 rfl)
                        exact o_load23 (.tmp 80) rfl _ _ e0 ((hJ.1 (hnot 12 (by kernel_rfl))).cell (unhide HC0) (by simp)) ⟨_, rfl, told_of rfl, keepG (St := (T11s V4 (pt 1) (sv 1) (sw 1) ((sp 1).put x.y.bs))) [12] T11s.loc (by omega) (by decide) hJ⟩
                      | 10, ho =>
                        obtain rfl := Option.some.inj ho
                        have e0 := hout 11 (by kernel_rfl)
                        replace e0 : a'.eval (.tmp 11) = _ := e0.trans rfl
                        exact o_fld56_3 (.tmp 11) rfl _ e0 ⟨_, rfl, told_of rfl, keepG (St := (T11s V4 (pt 1) (sv 1) (sw 1) ((sp 1).put x.y.bs))) [12] T11s.loc (by omega) (by decide) hJ⟩
                      | 11, ho =>
                        obtain rfl := Option.some.inj ho
                        have e0 : a'.eval (.tmp 82) = .pointer (some ⟨p, 3, none⟩) := by have h9 := hin 10 82 (by kernel_rfl) (by kernel_rfl); exact h9.1.trans (told_is _ h9.2 rfl)
                        exact o_load33 (.tmp 82) rfl _ _ e0 ((hJ.1 (hnot 12 (by kernel_rfl))).cell (unhide HP3) (by simp)) ⟨_, rfl, told_of rfl, keepG (St := (T11s V4 (pt 1) (sv 1) (sw 1) ((sp 1).put x.y.bs))) [12] T11s.loc (by omega) (by decide) hJ⟩
                      | 12, ho =>
                        obtain rfl := Option.some.inj ho
                        have e0 : a'.eval (.tmp 81) = P0 (pt 1) := by have h9 := hin 9 81 (by kernel_rfl) (by kernel_rfl); exact h9.1.trans (told_is _ h9.2 rfl)
                        have e1 : a'.eval (.tmp 83) = x.y.v := by have h9 := hin 11 83 (by kernel_rfl) (by kernel_rfl); exact h9.1.trans (told_is _ h9.2 rfl)
                        have hk0 := hJ.1 hlf
                        refine wp_callF 12 _ _ rfl #[P0 (pt 1), x.y.v] (by simp [e0, e1]) (cf12 _ _) ((send_arg w2 (pt 1) (sv 1) (sw 1) (sp 1) x.y w.heap.size ((unhide HS).kept0 hk0) ((unhide HXO).y.kept ((unhide HWK).trans hk0) (by simp)) (unhide HPL)).mono ?_)
                        rintro e w3 ⟨rfl, v', ws', hR⟩
                        rw [unhide HSE] at hR ⊢
                        exact ⟨_, rfl, _, rfl, told_of rfl, nextG (St := (T11s V4 (pt 1) (sv 1) (sw 1) ((sp 1).put x.y.bs))) (by omega) ⟨(fun h => by cases h), fun _ => ⟨v', ws', hR.after hk0⟩⟩⟩
                      | 13, ho =>
                        obtain rfl := Option.some.inj ho
                        have e0 : a'.eval (.tmp 84) = .int .i64 0 := by have h9 := hin 12 84 (by kernel_rfl) (by kernel_rfl); exact h9.1.trans (told_is _ h9.2 rfl)
                        exact o_eqlT24 (.tmp 84) (.const (.int .i64 0)) rfl _ _ true (by decide) e0 rfl ⟨_, rfl, told_of rfl, keepG (St := (T11s V4 (pt 1) (sv 1) (sw 1) ((sp 1).put x.y.bs))) [12] T11s.loc (by omega) (by decide) hJ⟩
                      | 14, ho =>
                        obtain rfl := Option.some.inj ho
                        have e0 : a'.eval (.tmp 75) = .bool true := by have h9 := hin 3 75 (by kernel_rfl) (by kernel_rfl); exact h9.1.trans (told_is _ h9.2 rfl)
                        have e1 : a'.eval (.tmp 85) = .bool true := by have h9 := hin 13 85 (by kernel_rfl) (by kernel_rfl); exact h9.1.trans (told_is _ h9.2 rfl)
                        exact o_pick (.tmp 75) (.tmp 85) rfl _ e0 e1 ⟨_, rfl, told_of rfl, keepG (St := (T11s V4 (pt 1) (sv 1) (sw 1) ((sp 1).put x.y.bs))) [12] T11s.loc (by omega) (by decide) hJ⟩
                    intro l vs w9 hl hJ htold
                    have t0 : vs 0 = .pointer (some ⟨p, 0, none⟩) := told_is _ (htold 0 (by decide)) rfl
                    have t1 : vs 1 = .int .i64 1 := told_is _ (htold 1 (by decide)) rfl
                    have t2 : vs 2 = .bool true := told_is _ (htold 2 (by decide)) rfl
                    have t3 : vs 3 = .bool true := told_is _ (htold 3 (by decide)) rfl
                    have t4 : vs 4 = P0 z := told_is _ (htold 4 (by decide)) rfl
                    have t5 : vs 5 = .int .i64 1 := told_is _ (htold 5 (by decide)) rfl
                    have t6 : vs 6 = P0 z := told_is _ (htold 6 (by decide)) rfl
                    have t7 : vs 7 = .pointer (some ⟨z, 0, none⟩) := told_is _ (htold 7 (by decide)) rfl
                    have t8 : vs 8 = .pointer (some ⟨z, 0 + 1, none⟩) := told_is _ (htold 8 (by decide)) rfl
                    have t9 : vs 9 = P0 (pt 1) := told_is _ (htold 9 (by decide)) rfl
                    have t10 : vs 10 = .pointer (some ⟨p, 3, none⟩) := told_is _ (htold 10 (by decide)) rfl
                    have t11 : vs 11 = x.y.v := told_is _ (htold 11 (by decide)) rfl
                    have t12 : vs 12 = .int .i64 0 := told_is _ (htold 12 (by decide)) rfl
                    have t13 : vs 13 = .bool true := told_is _ (htold 13 (by decide)) rfl
                    have t14 : vs 14 = .bool true := told_is _ (htold 14 (by decide)) rfl
                    rw [show (List.range 15).map vs = [vs 0, vs 1, vs 2, vs 3, vs 4, vs 5, vs 6, vs 7, vs 8, vs 9, vs 10, vs 11, vs 12, vs 13, vs 14] from rfl]
                    simp only [t0, t1, t2, t3, t4, t5, t6, t7, t8, t9, t10, t11, t12, t13, t14, putAll, Act.put, List.setIfInBounds_toArray, List.set_cons_succ, List.set_cons_zero]
                    clear t0 t1 t2 t3 t4 t5 t6 t7 t8 t9 t10 t11 t12 t13 t14 htold
                    obtain ⟨v1, ws1, hR⟩ := hJ.2 (hl 12 (by decide))
                    have HT := hide ((unhide ZT).t.mut (i := 1) (by omega) hR)
                    replace HP := hide (hR.blk (unhide HS) (unhide HP) (by decide) (by decide))
                    clear hR hJ hl HP0 HP3 HC0 HS HWK HPL HSE hbl
                    go_wp2_with fail
                    go_meet
                    case rel => exact ⟨true, v1, ws1, rfl, HT, HP⟩
                · have HP0 := hide hp0
                  clear hp0
                  refine wp_region_any mixed (wpAny_tq 15 rfl (by kernel_rfl) [some (.pointer (some ⟨p, 0, none⟩)), some (.int .i64 x.kind), some (.bool false), some (.bool false), none, none, none, none, none, none, none, none, none, none, some (.bool false)] rfl (by kernel_rfl) (by kernel_rfl) ?_ ?_)
                  · intro i o' hi hsk ho a' w2 hout hin hk2
                    replace hk2 : Kept [] V4 w2 := ⟨hk2.os, hk2.tape, hk2.output, hk2.size, hk2.block⟩
                    match i, ho, hsk with
                    | 0, ho, hsk =>
                      obtain rfl := Option.some.inj ho
                      exact o_fld56_0 (.tmp 11) rfl p ((hout 11 (by kernel_rfl)).trans rfl) ⟨_, rfl, tq_is _ _ _ _ rfl, Kept.refl _ _, fun _ _ _ _ _ => trivial⟩
                    | 1, ho, hsk =>
                      obtain rfl := Option.some.inj ho
                      have e0 : a'.eval (.tmp 72) = .pointer (some ⟨p, 0, none⟩) := is_tq (hin 0 72 (by kernel_rfl) (by kernel_rfl)) rfl
                      exact o_load3 (.tmp 72) rfl _ _ e0 (hk2.cell (unhide HP0) (by simp)) ⟨_, rfl, tq_is _ _ _ _ rfl, Kept.refl _ _, fun _ _ _ _ _ => trivial⟩
                    | 2, ho, hsk =>
                      obtain rfl := Option.some.inj ho
                      have e0 : a'.eval (.tmp 73) = .int .i64 x.kind := is_tq (hin 1 73 (by kernel_rfl) (by kernel_rfl)) rfl
                      exact o_eqlT3 (.tmp 73) (.const (.int .i64 1)) rfl _ _ false (by simpa using hk1) e0 rfl ⟨_, rfl, tq_is _ _ _ _ rfl, Kept.refl _ _, fun _ _ _ _ _ => trivial⟩
                    | 3, ho, hsk =>
                      obtain rfl := Option.some.inj ho
                      have e0 : a'.eval (.tmp 74) = .bool false := is_tq (hin 2 74 (by kernel_rfl) (by kernel_rfl)) rfl
                      exact wp_move (.tmp 74) rfl _ e0 ⟨_, rfl, tq_is _ _ _ _ rfl, Kept.refl _ _, fun _ _ _ _ _ => trivial⟩
                    | 4, ho, hsk =>
                      cases hsk
                    | 5, ho, hsk =>
                      cases hsk
                    | 6, ho, hsk =>
                      cases hsk
                    | 7, ho, hsk =>
                      cases hsk
                    | 8, ho, hsk =>
                      cases hsk
                    | 9, ho, hsk =>
                      cases hsk
                    | 10, ho, hsk =>
                      cases hsk
                    | 11, ho, hsk =>
                      cases hsk
                    | 12, ho, hsk =>
                      cases hsk
                    | 13, ho, hsk =>
                      cases hsk
                    | 14, ho, hsk =>
                      obtain rfl := Option.some.inj ho
                      have e0 : a'.eval (.tmp 75) = .bool false := is_tq (hin 3 75 (by kernel_rfl) (by kernel_rfl)) rfl
                      exact o_pickN (.tmp 75) (.tmp 85) rfl e0 ⟨_, rfl, tq_is _ _ _ _ rfl, Kept.refl _ _, fun _ _ _ _ _ => trivial⟩
                  intro w9 hk9
                  replace hk9 : Kept [] V4 w9 := ⟨hk9.os, hk9.tape, hk9.output, hk9.size, hk9.block⟩
                  simp only [valsQ, List.map_cons, List.map_nil, Option.getD_some, Option.getD_none, List.take_succ_cons, List.take_zero, putAll, Act.put, List.setIfInBounds_toArray, List.set_cons_succ, List.set_cons_zero]
                  refine wpAny_done (by kernel_rfl) ?_ _
                  have HT : Hid (Tt w w9 z pt (upd sv 1 (sv 1)) (upd sw 1 (sw 1)) sp (.slice none 0 0) [] st ou L M) := by rw [upd_self, upd_self]; exact hide ((unhide ZT).t.step hk9)
                  replace HP := hide ((unhide HP).kept hk9 (by simp))
                  clear hk9 HP0 HS HPL
                  go_wp2_with fail
                  go_meet
                  case rel => exact ⟨false, sv 1, sw 1, rfl, HT, HP⟩
            case rest =>
              clear hp0 HP
              obtain ⟨b, v1, ws1, rfl, HT, HP⟩ := hcut
              go_upto_if 86 with fail
              go_cut [12] from 59 to 249 (fun x12 w2c => x12 = .int .i64 1 ∧ ∃ sv5 sw5 sp5 st5 L5, Hid (Zt w w2c z vw pt sv5 sw5 sp5 (.slice none 0 0) [] st5 ou L5 M (k + 1)) ∧ Hid (Blk w2c p 56 x.C))
              case first =>
                as_aux_lemma =>
                  cases b with
                  | false =>
                    replace HT : Hid (Tt w wc z pt (upd sv 1 v1) (upd sw 1 ws1) sp (.slice none 0 0) [] st ou L M) := HT
                    go_wp2_with fail
                    go_meet
                    case rel => exact ⟨rfl, upd sv 1 v1, upd sw 1 ws1, sp, st, L, hide ⟨unhide HT, (unhide ZT).iv, fun i hi => by have := (unhide ZT).n i hi; omega, by simp⟩, HP⟩
                  | true =>
                    replace HT : Hid (Tt w wc z pt (upd sv 1 v1) (upd sw 1 ws1) (upd sp 1 ((sp 1).put x.y.bs)) (.slice none 0 0) [] st ou L M) := HT
                    have HPL : Hid ((sp 1).sent.length < 1000) := by have h1 := (unhide ZT).n 1 (by omega); exact (by omega : (sp 1).sent.length < 1000)
                    have HP3 : Hid (wc.cell? ⟨p, 3, none⟩ = some x.y.v) := fits_cell (unhide HP) 3 _ rfl
                    have HWK := hide (unhide HT).k
                    have HC3 : Hid (wc.cell? ⟨z, 3 + 1, none⟩ = some (st 1)) := fits_cell (unhide HT).hd (3 + 1) _ rfl
                    obtain ⟨xs, hxs⟩ := (unhide HT).r 1 (by omega)
                    have HXS := hide hxs
                    have HO := hide hxs.row
                    have HXL : Hid (xs.length ≤ 100000) := by have h1 := hxs.len; rw [(unhide ZT).iv.lq 1 (by omega)] at h1; have h2 := unhide HPL; exact (by omega : xs.length ≤ 100000)
                    have HZ := hide (unhide HT).hd
                    have HNL : Hid (z ∉ (st 1).ownBlock.toList) := fun hm => by
                      obtain ⟨cs, hc⟩ := (unhide HO).block z (by simpa using hm)
                      have h9 := unhide HZ
                      unfold Blk at h9
                      rw [hc] at h9
                      cases h9
                    clear hxs
                    go_wp2_with fail
                    refine wp_region_any mixed (wpAny_gx 17 rfl (by kernel_rfl) [some (P0 z), some (.int .i64 1), some (P0 z), some (.int .i64 1), some (P0 z), some (.pointer (some ⟨z, 3, none⟩)), some (.pointer (some ⟨z, 3 + 1, none⟩)), some (st 1), some (.pointer (some ⟨p, 3, none⟩)), some (x.y.v), none, none, none, some (P0 z), some (.pointer (some ⟨z, 3, none⟩)), some (.pointer (some ⟨z, 3 + 1, none⟩)), none] rfl (by kernel_rfl) (fun l vs W => (T12s wc z (st 1) (twC pt (.slice none 0 0) st ou) (3 + 1) xs x.y.bs) (fun i => l.getD i false) vs W) (⟨fun _ => ⟨fun _ => ⟨⟨rfl, rfl, rfl, Nat.le_refl _, fun _ _ _ => rfl⟩, (fun h => by cases h), (fun h => by cases h)⟩, (fun h => by cases h)⟩, fun h => by cases h⟩) ?_ ?_)
                    · intro ix o' hi ho a' w2 l vs hls hlf hJ hout hin hdep hnot
                      match ix, ho with
                      | 0, ho =>
                        obtain rfl := Option.some.inj ho
                        have e0 := hout 9 (by kernel_rfl)
                        replace e0 : a'.eval (.tmp 9) = _ := e0.trans rfl
                        exact wp_move (.tmp 9) rfl _ e0 ⟨_, rfl, told_of rfl, keepG (St := (T12s wc z (st 1) (twC pt (.slice none 0 0) st ou) (3 + 1) xs x.y.bs)) [10, 11, 12, 16] T12s.loc (by omega) (by decide) hJ⟩
                      | 1, ho =>
                        obtain rfl := Option.some.inj ho
                        have e0 := hout 12 (by kernel_rfl)
                        replace e0 : a'.eval (.tmp 12) = _ := e0.trans rfl
                        exact wp_move (.tmp 12) rfl _ e0 ⟨_, rfl, told_of rfl, keepG (St := (T12s wc z (st 1) (twC pt (.slice none 0 0) st ou) (3 + 1) xs x.y.bs)) [10, 11, 12, 16] T12s.loc (by omega) (by decide) hJ⟩
                      | 2, ho =>
                        obtain rfl := Option.some.inj ho
                        have e0 := hout 9 (by kernel_rfl)
                        replace e0 : a'.eval (.tmp 9) = _ := e0.trans rfl
                        exact wp_move (.tmp 9) rfl _ e0 ⟨_, rfl, told_of rfl, keepG (St := (T12s wc z (st 1) (twC pt (.slice none 0 0) st ou) (3 + 1) xs x.y.bs)) [10, 11, 12, 16] T12s.loc (by omega) (by decide) hJ⟩
                      | 3, ho =>
                        obtain rfl := Option.some.inj ho
                        have e0 := hout 12 (by kernel_rfl)
                        replace e0 : a'.eval (.tmp 12) = _ := e0.trans rfl
                        exact wp_move (.tmp 12) rfl _ e0 ⟨_, rfl, told_of rfl, keepG (St := (T12s wc z (st 1) (twC pt (.slice none 0 0) st ou) (3 + 1) xs x.y.bs)) [10, 11, 12, 16] T12s.loc (by omega) (by decide) hJ⟩
                      | 4, ho =>
                        obtain rfl := Option.some.inj ho
                        have e0 : a'.eval (.tmp 89) = P0 z := by have h9 := hin 2 89 (by kernel_rfl) (by kernel_rfl); exact h9.1.trans (told_is _ h9.2 rfl)
                        exact o_nil (.tmp 89) rfl _ e0 ⟨_, rfl, told_of rfl, keepG (St := (T12s wc z (st 1) (twC pt (.slice none 0 0) st ou) (3 + 1) xs x.y.bs)) [10, 11, 12, 16] T12s.loc (by omega) (by decide) hJ⟩
                      | 5, ho =>
                        obtain rfl := Option.some.inj ho
                        have e0 : a'.eval (.tmp 91) = P0 z := by have h9 := hin 4 91 (by kernel_rfl) (by kernel_rfl); exact h9.1.trans (told_is _ h9.2 rfl)
                        exact o_fld54_2 (.tmp 91) rfl _ e0 ⟨_, rfl, told_of rfl, keepG (St := (T12s wc z (st 1) (twC pt (.slice none 0 0) st ou) (3 + 1) xs x.y.bs)) [10, 11, 12, 16] T12s.loc (by omega) (by decide) hJ⟩
                      | 6, ho =>
                        obtain rfl := Option.some.inj ho
                        have e0 : a'.eval (.tmp 92) = .pointer (some ⟨z, 3, none⟩) := by have h9 := hin 5 92 (by kernel_rfl) (by kernel_rfl); exact h9.1.trans (told_is _ h9.2 rfl)
                        have e1 : a'.eval (.tmp 90) = .int .i64 1 := by have h9 := hin 3 90 (by kernel_rfl) (by kernel_rfl); exact h9.1.trans (told_is _ h9.2 rfl)
                        exact o_idx52 (.tmp 92) (.tmp 90) rfl z 3 1 (by omega) e0 e1 ⟨_, rfl, told_of rfl, keepG (St := (T12s wc z (st 1) (twC pt (.slice none 0 0) st ou) (3 + 1) xs x.y.bs)) [10, 11, 12, 16] T12s.loc (by omega) (by decide) hJ⟩
                      | 7, ho =>
                        obtain rfl := Option.some.inj ho
                        have e0 : a'.eval (.tmp 93) = .pointer (some ⟨z, 3 + 1, none⟩) := by have h9 := hin 6 93 (by kernel_rfl) (by kernel_rfl); exact h9.1.trans (told_is _ h9.2 rfl)
                        exact o_load30 (.tmp 93) rfl _ _ e0 (((hJ.1 (hnot 16 (by kernel_rfl))).1 (hnot 12 (by kernel_rfl))).1.cell (unhide HC3) (by simp)) ⟨_, rfl, told_of rfl, keepG (St := (T12s wc z (st 1) (twC pt (.slice none 0 0) st ou) (3 + 1) xs x.y.bs)) [10, 11, 12, 16] T12s.loc (by omega) (by decide) hJ⟩
                      | 8, ho =>
                        obtain rfl := Option.some.inj ho
                        have e0 := hout 11 (by kernel_rfl)
                        replace e0 : a'.eval (.tmp 11) = _ := e0.trans rfl
                        exact o_fld56_3 (.tmp 11) rfl _ e0 ⟨_, rfl, told_of rfl, keepG (St := (T12s wc z (st 1) (twC pt (.slice none 0 0) st ou) (3 + 1) xs x.y.bs)) [10, 11, 12, 16] T12s.loc (by omega) (by decide) hJ⟩
                      | 9, ho =>
                        obtain rfl := Option.some.inj ho
                        have e0 : a'.eval (.tmp 95) = .pointer (some ⟨p, 3, none⟩) := by have h9 := hin 8 95 (by kernel_rfl) (by kernel_rfl); exact h9.1.trans (told_is _ h9.2 rfl)
                        exact o_load33 (.tmp 95) rfl _ _ e0 (((hJ.1 (hnot 16 (by kernel_rfl))).1 (hnot 12 (by kernel_rfl))).1.cell (unhide HP3) (by simp)) ⟨_, rfl, told_of rfl, keepG (St := (T12s wc z (st 1) (twC pt (.slice none 0 0) st ou) (3 + 1) xs x.y.bs)) [10, 11, 12, 16] T12s.loc (by omega) (by decide) hJ⟩
                      | 10, ho =>
                        obtain rfl := Option.some.inj ho
                        have e0 : a'.eval (.tmp 96) = x.y.v := by have h9 := hin 9 96 (by kernel_rfl) (by kernel_rfl); exact h9.1.trans (told_is _ h9.2 rfl)
                        have hk0 := ((hJ.1 (hnot 16 (by kernel_rfl))).1 (hnot 12 (by kernel_rfl))).1
                        have hy := (unhide HXO).y.kept ((unhide HWK).trans hk0) (by simp)
                        refine o_appB (.tmp 96) rfl x.y.ao x.y.m x.y.c x.y.bs e0 hy.nil hy.vals hy.byte (by have := hy.big; omega) fun u0 w3 hB3 hf3 hk3 => ?_
                        exact ⟨_, rfl, told_no rfl, nextG (St := (T12s wc z (st 1) (twC pt (.slice none 0 0) st ou) (3 + 1) xs x.y.bs)) (by omega) ⟨fun _ => ⟨fun _ => ⟨hk0.trans hk3, fun _ => hB3, (fun h11 => by have h9 : l.getD 11 false = true := h11; rw [hnot 11 (by kernel_rfl)] at h9; cases h9)⟩, (fun h12 => by have h9 : l.getD 12 false = true := h12; rw [hnot 12 (by kernel_rfl)] at h9; cases h9)⟩, (fun h16 => by have h9 : l.getD 16 false = true := h16; rw [hnot 16 (by kernel_rfl)] at h9; cases h9)⟩⟩
                      | 11, ho =>
                        obtain rfl := Option.some.inj ho
                        have e0 : a'.eval (.tmp 97) = vs 10 := (hin 10 97 (by kernel_rfl) (by kernel_rfl)).1
                        have hk0 := ((hJ.1 (hnot 16 (by kernel_rfl))).1 (hnot 12 (by kernel_rfl))).1
                        have hd10 : l.getD 10 false = true := hdep 10 (by kernel_rfl)
                        have hB0 := ((hJ.1 (hnot 16 (by kernel_rfl))).1 (hnot 12 (by kernel_rfl))).2.1 hd10
                        obtain ⟨uo, uc, hu, _, _⟩ := hB0.sl
                        refine o_bsS (.tmp 97) rfl uo x.y.bs.length uc (e0.trans hu) ?_
                        exact ⟨_, rfl, told_no rfl, nextG (St := (T12s wc z (st 1) (twC pt (.slice none 0 0) st ou) (3 + 1) xs x.y.bs)) (by omega) ⟨fun _ => ⟨fun _ => ⟨hk0.alloc _, fun _ => hB0.kept ((Kept.refl [] _).alloc _) (by simp), fun _ => ⟨hd10, w2.heap.size, rfl, (by show Blk _ _ 33 [vs 10]; rw [hu]; exact Blk.new w2 33 _)⟩⟩, (fun h12 => by have h9 : l.getD 12 false = true := h12; rw [hnot 12 (by kernel_rfl)] at h9; cases h9)⟩, (fun h16 => by have h9 : l.getD 16 false = true := h16; rw [hnot 16 (by kernel_rfl)] at h9; cases h9)⟩⟩
                      | 12, ho =>
                        obtain rfl := Option.some.inj ho
                        have e0 : a'.eval (.tmp 94) = st 1 := by have h9 := hin 7 94 (by kernel_rfl) (by kernel_rfl); exact h9.1.trans (told_is _ h9.2 rfl)
                        have e1 : a'.eval (.tmp 98) = vs 11 := (hin 11 98 (by kernel_rfl) (by kernel_rfl)).1
                        obtain ⟨hk0, hB0, hq0⟩ := (hJ.1 (hnot 16 (by kernel_rfl))).1 hlf
                        obtain ⟨hd10, q, hq, hBq⟩ := hq0 (hdep 11 (by kernel_rfl))
                        have hBd := hB0 hd10
                        refine o_appO (.tmp 94) (.tmp 98) rfl (st 1) xs e0 ((unhide HO).kept hk0 (by simp)) q (vs 10) (e1.trans hq) hBq hBd.one (unhide HXL) fun v' w' h1 h2 h3 => ?_
                        have hno : ∀ k, (vs 10).ownBlock = some k → k ∉ (st 1).ownBlock.toList := fun k e hm => by
                          obtain ⟨cs, hc⟩ := hBd.block k e
                          obtain ⟨cs', hc'⟩ := ((unhide HO).kept hk0 (by simp)).block k (by simpa using hm)
                          rw [hc] at hc'
                          cases hc'
                        exact ⟨_, rfl, told_no rfl, nextG (St := (T12s wc z (st 1) (twC pt (.slice none 0 0) st ou) (3 + 1) xs x.y.bs)) (by omega) ⟨fun _ => ⟨(fun h => by cases h), fun _ => ⟨vs 10, hBd.kept h2 hno, h1, (hk0.mono (by simp)).trans h2, fun k hk => (h3 k hk).imp id (fun x => by have := hk0.size; omega)⟩⟩, (fun h16 => by have h9 : l.getD 16 false = true := h16; rw [hnot 16 (by kernel_rfl)] at h9; cases h9)⟩⟩
                      | 13, ho =>
                        obtain rfl := Option.some.inj ho
                        have e0 : a'.eval (.tmp 87) = P0 z := by have h9 := hin 0 87 (by kernel_rfl) (by kernel_rfl); exact h9.1.trans (told_is _ h9.2 rfl)
                        exact o_nil (.tmp 87) rfl _ e0 ⟨_, rfl, told_of rfl, keepG (St := (T12s wc z (st 1) (twC pt (.slice none 0 0) st ou) (3 + 1) xs x.y.bs)) [10, 11, 12, 16] T12s.loc (by omega) (by decide) hJ⟩
                      | 14, ho =>
                        obtain rfl := Option.some.inj ho
                        have e0 : a'.eval (.tmp 100) = P0 z := by have h9 := hin 13 100 (by kernel_rfl) (by kernel_rfl); exact h9.1.trans (told_is _ h9.2 rfl)
                        exact o_fld54_2 (.tmp 100) rfl _ e0 ⟨_, rfl, told_of rfl, keepG (St := (T12s wc z (st 1) (twC pt (.slice none 0 0) st ou) (3 + 1) xs x.y.bs)) [10, 11, 12, 16] T12s.loc (by omega) (by decide) hJ⟩
                      | 15, ho =>
                        obtain rfl := Option.some.inj ho
                        have e0 : a'.eval (.tmp 101) = .pointer (some ⟨z, 3, none⟩) := by have h9 := hin 14 101 (by kernel_rfl) (by kernel_rfl); exact h9.1.trans (told_is _ h9.2 rfl)
                        have e1 : a'.eval (.tmp 88) = .int .i64 1 := by have h9 := hin 1 88 (by kernel_rfl) (by kernel_rfl); exact h9.1.trans (told_is _ h9.2 rfl)
                        exact o_idx52 (.tmp 101) (.tmp 88) rfl z 3 1 (by omega) e0 e1 ⟨_, rfl, told_of rfl, keepG (St := (T12s wc z (st 1) (twC pt (.slice none 0 0) st ou) (3 + 1) xs x.y.bs)) [10, 11, 12, 16] T12s.loc (by omega) (by decide) hJ⟩
                      | 16, ho =>
                        obtain rfl := Option.some.inj ho
                        have e0 : a'.eval (.tmp 102) = .pointer (some ⟨z, 3 + 1, none⟩) := by have h9 := hin 15 102 (by kernel_rfl) (by kernel_rfl); exact h9.1.trans (told_is _ h9.2 rfl)
                        have e1 : a'.eval (.tmp 99) = vs 12 := (hin 12 99 (by kernel_rfl) (by kernel_rfl)).1
                        obtain ⟨r, h0, h1, h2, h3⟩ := (hJ.1 hlf).2 (hdep 12 (by kernel_rfl))
                        have hB9 := (unhide HZ).kept h2 (unhide HNL)
                        obtain ⟨ao9, c9, e9, _, _⟩ := h1.sl
                        refine o_st30 (.tmp 102) (.tmp 99) rfl rfl z (3 + 1) 54 _ (vs 12) e0 e1 ⟨ao9, _, c9, e9⟩ hB9 (by simp [twC]) fun W hBW hkW => ⟨_, rfl, told_no rfl, nextG (St := (T12s wc z (st 1) (twC pt (.slice none 0 0) st ou) (3 + 1) xs x.y.bs)) (by omega) ⟨(fun h => by cases h), fun _ => ⟨vs 12, r, h0.kept hkW (fun k hk hm => ?_), h1.kept hkW (fun k hk hm => ?_), hBW, (h2.mono (fun k hk => List.mem_cons_of_mem _ hk)).trans (hkW.mono (by simp)), h3⟩⟩⟩
                        · simp at hm; subst hm; obtain ⟨cs, hc⟩ := h0.block k hk; unfold Blk at hB9; rw [hB9] at hc; injection hc with hc; injection hc with _ hc; exact absurd hc (by decide)
                        · simp at hm; subst hm; obtain ⟨cs, hc⟩ := h1.block k hk; unfold Blk at hB9; rw [hB9] at hc; injection hc with hc; injection hc with _ hc; exact absurd hc (by decide)
                    intro l vs w8 hl hJ htold
                    have t0 : vs 0 = P0 z := told_is _ (htold 0 (by decide)) rfl
                    have t1 : vs 1 = .int .i64 1 := told_is _ (htold 1 (by decide)) rfl
                    have t2 : vs 2 = P0 z := told_is _ (htold 2 (by decide)) rfl
                    have t3 : vs 3 = .int .i64 1 := told_is _ (htold 3 (by decide)) rfl
                    have t4 : vs 4 = P0 z := told_is _ (htold 4 (by decide)) rfl
                    have t5 : vs 5 = .pointer (some ⟨z, 3, none⟩) := told_is _ (htold 5 (by decide)) rfl
                    have t6 : vs 6 = .pointer (some ⟨z, 3 + 1, none⟩) := told_is _ (htold 6 (by decide)) rfl
                    have t7 : vs 7 = st 1 := told_is _ (htold 7 (by decide)) rfl
                    have t8 : vs 8 = .pointer (some ⟨p, 3, none⟩) := told_is _ (htold 8 (by decide)) rfl
                    have t9 : vs 9 = x.y.v := told_is _ (htold 9 (by decide)) rfl
                    have t13 : vs 13 = P0 z := told_is _ (htold 13 (by decide)) rfl
                    have t14 : vs 14 = .pointer (some ⟨z, 3, none⟩) := told_is _ (htold 14 (by decide)) rfl
                    have t15 : vs 15 = .pointer (some ⟨z, 3 + 1, none⟩) := told_is _ (htold 15 (by decide)) rfl
                    rw [show (List.range 17).map vs = [vs 0, vs 1, vs 2, vs 3, vs 4, vs 5, vs 6, vs 7, vs 8, vs 9, vs 10, vs 11, vs 12, vs 13, vs 14, vs 15, vs 16] from rfl]
                    simp only [t0, t1, t2, t3, t4, t5, t6, t7, t8, t9, t13, t14, t15, putAll, Act.put, List.setIfInBounds_toArray, List.set_cons_succ, List.set_cons_zero]
                    clear t0 t1 t2 t3 t4 t5 t6 t7 t8 t9 t13 t14 t15 htold
                    obtain ⟨v3, r3, h0, h1, h2, h3, h4⟩ := hJ.2 (hl 16 (by decide))
                    have hT := (unhide HT).putSt (i := 1) (by omega) (unhide HXS) h0 h1 h2 h3 h4
                    replace ZT : Hid (Zt w w8 z vw pt (upd sv 1 v1) (upd sw 1 ws1) (upd sp 1 ((sp 1).put x.y.bs)) (.slice none 0 0) [] (upd st 1 v3) ou (upd L 1 (L 1 ++ [x.y.bs])) M (k + 1)) := ⟨hT, (unhide ZT).iv.put (by omega) _, fun i hi => by
                      have h9 := (unhide ZT).n i hi
                      unfold upd
                      split
                      · next e => subst e; simp only [Ps.put, List.length_append, List.length_singleton]; omega
                      · omega, by simp⟩
                    replace HP := hide ((unhide HP).kept h3 (fun hm => by
                      rcases List.mem_cons.1 hm with rfl | hm
                      · have a1 := unhide HP; have a2 := unhide HZ; unfold Blk at a1 a2; rw [a1] at a2; cases a2
                      · obtain ⟨cs, hc⟩ := (unhide HO).block p (by simpa using hm); have a1 := unhide HP; unfold Blk at a1; rw [a1] at hc; cases hc))
                    clear h0 h1 h2 h3 h4 hT hJ hl HXS HO HXL HZ HNL HC3 HWK HT HP3
                    go_wp2_with fail
                    go_meet
                    case rel => exact ⟨rfl, _, _, _, _, _, ZT, HP⟩
              case rest =>
                clear ZT HT HP
                obtain ⟨rfl, sv5, sw5, sp5, st5, L5, ZT, HP⟩ := hcut
                go_upto_region 13 with fail
                go_cut [110] from 59 to 109 (fun t w3c => ∃ b : Bool, t = .bool b ∧ Hid (Zt w w3c z vw pt sv5 sw5 sp5 (.slice none 0 0) [] st5 ou L5 M (k + 1)) ∧ Hid (Blk w3c p 56 x.C))
                case first =>
                  as_aux_lemma =>
                    have hp0 := fits_cell (unhide HP) 0 _ rfl
                    by_cases hk2 : x.kind = 2
                    · have d1 : (x.kind == 2) = true := by simpa using hk2
                      have d2 : decide (x.kind = 2) = true := by simpa using hk2
                      clear hk2
                      go_wp2_with fail
                      go_meet
                      case rel => exact ⟨_, rfl, ZT, HP⟩
                    · have d1 : (x.kind == 2) = false := by simpa using hk2
                      have d2 : decide (x.kind = 2) = false := by simpa using hk2
                      clear hk2
                      by_cases hk3 : x.kind = 3
                      · have d3 : (x.kind == 3) = true := by simpa using hk3
                        have d4 : decide (x.kind = 3) = true := by simpa using hk3
                        clear hk3
                        go_wp2_with fail
                        go_meet
                        case rel => exact ⟨_, rfl, ZT, HP⟩
                      · have d3 : (x.kind == 3) = false := by simpa using hk3
                        have d4 : decide (x.kind = 3) = false := by simpa using hk3
                        clear hk3
                        go_wp2_with fail
                        go_meet
                        case rel => exact ⟨_, rfl, ZT, HP⟩
                case rest =>
                  clear ZT HP b
                  obtain ⟨b, rfl, ZT, HP⟩ := hcut
                  go_upto_if 110 with fail
                  go_cut [12, 13, 14] from 59 to 249 (fun x12 x13 x14 w4c => x12 = .int .i64 1 ∧ ∃ sv5 sw5 sp5 ou5 M5, Hid (Zt w w4c z vw pt sv5 sw5 sp5 (.slice none 0 0) [] st5 ou5 L5 M5 (k + 1)))
                  case first =>
                    as_aux_lemma =>
                      cases b with
                      | false =>
                        go_wp2_with fail
                        go_meet
                        case rel => exact ⟨rfl, _, _, _, _, _, ZT⟩
                      | true =>
                        have hcz := fits_cell (unhide ZT).t.hd 1 _ rfl
                        have HS := hide ((unhide ZT).t.s 1 (by omega))
                        go_wp2_with (
                          first
                          | (go_at_call 14
                             refine (fresh14 (pt 1) (sv5 1) (sw5 1) (sp5 1) _ (unhide HS)).mono ?_
                             rintro e V5 ⟨dv, Lr, rfl, hD, hL, hR⟩
                             have hT := (unhide ZT).t.mut (i := 1) (by omega) hR
                             rw [upd_self, upd_self] at hT
                             replace HP := hide (hR.blk (unhide HS) (unhide HP) (by decide) (by decide))
                             have HWd : Hid (∀ pr ∈ Lr, Wd vw (upd sp5 1 (sp5 1).toldP) 1 pr.1) := fun pr hpr => (tell_wd (unhide ZT).iv (by omega : 1 < 2) _ pr.1 (by have h9 : pr.1 ∈ Lr.map Prod.fst := List.mem_map_of_mem hpr; rw [hL] at h9; exact h9)).mono (gr_upd (gr_told _) 1)
                             have HN9 : Hid (∀ i, i < 2 → (upd sp5 1 (sp5 1).toldP i).sent.length ≤ k + 1) := fun i hi => by
                               have h9 := (unhide ZT).n i hi
                               unfold upd
                               split
                               · next e => subst e; exact h9
                               · exact h9
                             have hIv := (unhide ZT).iv.told (i := 1) (by omega)
                             clear ZT
                             have ZT : Hid (Zt w V5 z vw pt sv5 sw5 (upd sp5 1 (sp5 1).toldP) (.slice none 0 0) [] st5 ou L5 M (k + 1)) := ⟨hT, hIv, unhide HN9, by simp⟩
                             obtain ⟨sp6, hsp6⟩ : ∃ q, q = upd sp5 1 (sp5 1).toldP := ⟨_, rfl⟩
                             rw [← hsp6] at ZT HWd
                             have HD := hide hD
                             obtain ⟨dao, dc, hdv⟩ := owns_slN hD.row
                             obtain ⟨dn, hdn⟩ : ∃ q, q = Lr.length := ⟨_, rfl⟩
                             rw [← hdn] at hdv
                             subst hdv
                             have HDN := hide hdn
                             have hdb : dn ≤ 1001 := by
                               have h1 := congrArg List.length hL
                               rw [List.length_map] at h1
                               unfold Ps.fresh at h1
                               have h2 := (unhide HS).ok.many
                               by_cases h3 : max (sp5 1).told (sp5 1).known < (sp5 1).sent.length
                               · rw [tellL_len h3] at h1; omega
                               · have h4 := tellL_len0 (P := sp5 1) (f := max (sp5 1).told (sp5 1).known) (by omega); omega
                             clear hD hL hR hT hIv HN9 hsp6 hdn HS hcz
                             refine Stp.go ?_))
                        constructor
                        go_wp2_with fail
                        go_loopw [14] (fun i wr => ∃ (j : Nat) (sv : Nat → Value) (sw : Nat → List Value) (sp : Nat → Ps) (ou : Nat → Value) (M : Nat → List (List Int)), j ≤ dn ∧ i = .int .i64 j ∧ Hid (Zt w wr z vw pt sv sw sp (.slice none 0 0) [] st5 ou L5 M (k + 1)) ∧ Hid (Kt V5 wr) ∧ Hid (∀ j, Gr (sp6 j) (sp j))) (fun i _ => dn - (intOf i).toNat)
                        case atStart => exact ⟨0, _, _, _, _, _, by omega, rfl, ZT, Kt.refl _, fun _ => Gr.refl _⟩
                        case round =>
                          clear ZT
                          obtain ⟨j, sv7, sw7, sp7, ou7, M7, hj, rfl, ZT, HKT, HGR⟩ := hrel
                          by_cases hjt : j < dn
                          · have hjI : (j : Int) < (dn : Int) := by omega
                            have hjb : (j : Int) ≤ 1001 := by omega
                            have HPr : Hid (Blk wr p 56 x.C) := (unhide HKT).block _ _ _ _ (.inr (.inr rfl)) (unhide HP)
                            have hpn := fits_cell (unhide HPr) 2 _ rfl
                            have hDD := (unhide HD).kt (unhide HKT)
                            obtain ⟨pr, hpr⟩ : ∃ pr, Lr[j]? = some pr := ⟨_, List.getElem?_eq_getElem (by have := unhide HDN; omega)⟩
                            obtain ⟨dg, rfl, hrg⟩ := hDD.at hpr
                            have HRG := hide hrg
                            have P25 := hide (zcome w wr z vw pt sv7 sw7 sp7 (.slice none 0 0) [] st5 ou7 L5 M7 (k + 1) (unhide ZT) 0 (by omega) pr.1 pr.2 ((unhide HWd pr (List.mem_of_getElem? hpr)).mono (unhide HGR 1)) (hDD.bod pr (List.mem_of_getElem? hpr)) (by omega))
                            clear hDD hpr hrg HPr
                            by_cases hn0 : x.n < 0
                            · have d1 : decide (x.n < 0) = true := by simpa using hn0
                              go_wp2_with (
                                first
                                | (refine wpLoadA row35 (by rfl) (.tmp 138) (by rfl) dg (j * 6) (by kernel_rfl) (pr.1.C pr.2) rfl (unhide HRG) ?_
                                   refine Stp.go ?_))
                              constructor
                              go_wp2_with (
                                first
                                | (go_at_call 25
                                   refine (unhide P25).mono ?_
                                   rintro e V8 ⟨rfl, hkt, sv8, sw8, sp8, ou8, M8, hZ8, hg8⟩
                                   have HZ8 := hide hZ8
                                   have HK8 := hide ((unhide HKT).trans hkt)
                                   have HG8 : Hid (∀ j, Gr (sp6 j) (sp8 j)) := fun j => ⟨(unhide HGR j).sent.trans (hg8 j).sent, Int.le_trans (unhide HGR j).got (hg8 j).got⟩
                                   clear hZ8 hkt hg8 P25
                                   refine Stp.go ?_))
                              constructor
                              go_wp2_with fail
                              go_roundw
                              case rel => exact ⟨j + 1, sv8, sw8, sp8, ou8, M8, by omega, by go_num, HZ8, HK8, HG8⟩
                              case measure => simp [intOf]; omega
                            have d1 : decide (x.n < 0) = false := by simpa using hn0
                            by_cases h3 : (j : Int) % 3 = x.n % 3
                            rotate_left
                            · have d2 : ((j : Int) % 3 == x.n % 3) = false := by simpa using h3
                              have d3 : ((j : Int) % 3 != x.n % 3) = true := by simpa using h3
                              have d4 : decide ((j : Int) % 3 = x.n % 3) = false := by simpa using h3
                              go_wp2_with (
                                first
                                | (refine wpLoadA row35 (by rfl) (.tmp 138) (by rfl) dg (j * 6) (by kernel_rfl) (pr.1.C pr.2) rfl (unhide HRG) ?_
                                   refine Stp.go ?_))
                              constructor
                              go_wp2_with (
                                first
                                | (go_at_call 25
                                   refine (unhide P25).mono ?_
                                   rintro e V8 ⟨rfl, hkt, sv8, sw8, sp8, ou8, M8, hZ8, hg8⟩
                                   have HZ8 := hide hZ8
                                   have HK8 := hide ((unhide HKT).trans hkt)
                                   have HG8 : Hid (∀ j, Gr (sp6 j) (sp8 j)) := fun j => ⟨(unhide HGR j).sent.trans (hg8 j).sent, Int.le_trans (unhide HGR j).got (hg8 j).got⟩
                                   clear hZ8 hkt hg8 P25
                                   refine Stp.go ?_))
                              constructor
                              go_wp2_with fail
                              go_roundw
                              case rel => exact ⟨j + 1, sv8, sw8, sp8, ou8, M8, by omega, by go_num, HZ8, HK8, HG8⟩
                              case measure => simp [intOf]; omega
                            · have d2 : ((j : Int) % 3 == x.n % 3) = true := by simpa using h3
                              have d3 : ((j : Int) % 3 != x.n % 3) = false := by simpa using h3
                              have d4 : decide ((j : Int) % 3 = x.n % 3) = true := by simpa using h3
                              go_wp2_with fail
                              go_roundw
                              case rel => exact ⟨j + 1, sv7, sw7, sp7, ou7, M7, by omega, by go_num, ZT, HKT, HGR⟩
                              case measure => simp [intOf]; omega
                          · have hjI : ¬ (j : Int) < (dn : Int) := by omega
                            go_wp2_with fail
                            go_meet
                            case rel => exact ⟨rfl, _, _, _, _, _, ZT⟩
                  case rest =>
                    clear ZT HP
                    obtain ⟨rfl, sv5, sw5, sp5, ou5, M5, ZT⟩ := hcut
                    as_aux_lemma =>
                      have hcz := fits_cell (unhide ZT).t.hd 1 _ rfl
                      obtain ⟨xs5, hxs5⟩ := (unhide ZT).t.r 1 (by omega)
                      obtain ⟨so5, sc, hst, _, _⟩ := hxs5.row.sl
                      have hl5 := hxs5.len
                      have hlL := (unhide ZT).iv.lq 1 (by omega)
                      have hsx := (unhide ZT).t.s 1 (by omega)
                      have hwl := hsx.len
                      have hln := (unhide ZT).n 1 (by omega)
                      obtain ⟨wn, hwn⟩ : ∃ q, q = (sw5 1).length := ⟨_, rfl⟩
                      obtain ⟨kn, hkn⟩ : ∃ q, q = (sp5 1).known := ⟨_, rfl⟩
                      obtain ⟨ln, hlnn⟩ : ∃ q, q = xs5.length := ⟨_, rfl⟩
                      obtain ⟨gq, hgq⟩ : ∃ q, q = (sp5 0).got := ⟨_, rfl⟩
                      have hkk := (unhide ZT).iv.known 1 (by omega)
                      have hkg : ¬ gq < (kn : Int) := by rw [hgq, hkn]; simp only [Nat.sub_self] at hkk; omega
                      have hk0 : ¬ (kn : Int) < 0 := by omega
                      have hsum : kn + wn = ln := by rw [hlL] at hl5; omega
                      have hln1 : ln ≤ 1000 := by rw [hlL] at hl5; omega
                      have hwr : IntKind.i64.wrap ((ln : Int) - (wn : Int)) = (kn : Int) := by rw [IntKind.wrap_i64]; omega
                      have HL5 : Hid (ln = (sp5 1).sent.length) := by rw [hlL] at hl5; exact (by omega : ln = (sp5 1).sent.length)
                      have hcs := fits_cell (unhide ZT).t.hd (3 + 1) _ rfl
                      rw [hst, ← hlnn] at hcs
                      have HST : Hid (st5 1 = .slice so5 ln sc) := by rw [hlnn]; exact hst
                      have HXS5 := hide hxs5
                      have HWN := hide hwn
                      have HKN := hide hkn
                      have HLN := hide hlnn
                      have HGQ := hide hgq
                      have P22 := hide (waits22 (pt 1) (sv5 1) (sw5 1) (sp5 1) _ hsx)
                      rw [← hwn] at P22
                      clear hxs5 hst hl5 hlL hsx hwl hln hwn hkn hlnn hgq hkk
                      by_cases hw0 : wn = 0
                      · subst hw0
                        go_wp2_with (
                          first
                          | (go_at_call 22
                             refine (unhide P22).mono ?_
                             rintro e V5 ⟨rfl, q5, hq5⟩
                             have hk5 : Kept [] wc V5 := by rw [hq5]; exact kept_drewN _ _ _
                             replace ZT := hide ((unhide ZT).step hk5)
                             have hcz := fits_cell (unhide ZT).t.hd 1 _ rfl
                             have hcs := fits_cell (unhide ZT).t.hd (3 + 1) _ rfl
                             rw [unhide HST] at hcs
                             replace HXS5 := hide ((unhide HXS5).kept0 hk5)
                             clear hq5 hk5 P22)
                          | (go_at_call 27
                             refine (copy27 (pt 1) (sv5 1) (sw5 1) (sp5 1) _ ((unhide ZT).t.s 1 (by omega))).mono ?_
                             rintro e V6 ⟨cb, cv, rfl, hsx6, hcb, hcv, hk6⟩
                             have HSC := hide hsx6
                             have HCB : Hid (V5.heap.size ≤ cb ∧ ∀ k, cv.ownBlock = some k → V5.heap.size ≤ k) := ⟨hcb, hcv⟩
                             have HK6 := hide hk6
                             clear hsx6 hcb hcv hk6)
                          | (go_at_call 18
                             refine (again18 cb cv (sw5 1) (sp5 1) _ (unhide HSC)).mono ?_
                             rintro e V7 ⟨dv, Lr, rfl, hD, hL, hR⟩
                             have hk7 : Kept [] V5 V7 := (unhide HK6).fresh hR.kept (fun x hx hl => by
                               rcases List.mem_cons.1 hx with rfl | hx
                               · have := (unhide HCB).1; omega
                               · have := (unhide HCB).2 x (by simpa using hx); omega)
                             replace ZT := hide ((unhide ZT).step hk7)
                             replace HXS5 := hide ((unhide HXS5).kept0 hk7)
                             have hco := fits_cell (unhide ZT).t.hd 0 _ rfl
                             obtain ⟨dao, dc, hdv⟩ := owns_slN hD.row
                             have HD := hide hD
                             have HL := hide hL
                             obtain ⟨dn, hdn⟩ : ∃ q, q = Lr.length := ⟨_, rfl⟩
                             rw [← hdn] at hdv
                             subst hdv
                             have HDN := hide hdn
                             have hd1 : ¬ (1 : Int) < (dn : Int) := by
                               have h1 := congrArg List.length (unhide HL)
                               rw [List.length_map] at h1
                               have h2 := tellL_len0 (P := sp5 1) (f := (sp5 1).known) (by have := unhide HL5; have := unhide HKN; omega)
                               unfold Ps.again at h1
                               omega
                             have P23 := hide (got23 (pt 0) (sv5 0) (sw5 0) (sp5 0) _ ((unhide ZT).t.s 0 (by omega)))
                             rw [← unhide HGQ] at P23
                             clear hD hL hR hk7 hdn hcz hcs HSC HCB HK6)
                          | (go_at_call 23
                             refine (unhide P23).mono ?_
                             rintro e V8 ⟨rfl, q8, hq8⟩
                             have hk8 : Kept [] V7 V8 := by rw [hq8]; exact kept_drewN _ _ _
                             replace ZT := hide ((unhide ZT).step hk8)
                             replace HXS5 := hide ((unhide HXS5).kept0 hk8)
                             replace HD := hide ((unhide HD).kept0 hk8)
                             clear hq8 hk8 P23 hco))
                        go_loopw [19] (fun i wr => i = .int .i64 0 ∧ Hid (Kept [] V8 wr)) (fun _ _ => 0)
                        case atStart => exact ⟨rfl, Kept.refl _ _⟩
                        case round =>
                          obtain ⟨rfl, HK8⟩ := hrel
                          go_wp2_with fail
                          go_roundw
                          case rel => exact ⟨k + 1, sv5, sw5, sp5, st5, ou5, L5, M5, by omega, by go_num, hide ((unhide ZT).step (unhide HK8))⟩
                          case measure => simp [intOf]; omega
                      · have hwp : (0 : Int) < (wn : Int) := by omega
                        have hwz : ¬ (wn : Int) = 0 := by omega
                        go_wp2_with (
                          first
                          | (go_at_call 22
                             refine (unhide P22).mono ?_
                             rintro e V5 ⟨rfl, q5, hq5⟩
                             have hk5 : Kept [] wc V5 := by rw [hq5]; exact kept_drewN _ _ _
                             replace ZT := hide ((unhide ZT).step hk5)
                             have hcz := fits_cell (unhide ZT).t.hd 1 _ rfl
                             have hcs := fits_cell (unhide ZT).t.hd (3 + 1) _ rfl
                             rw [unhide HST] at hcs
                             replace HXS5 := hide ((unhide HXS5).kept0 hk5)
                             clear hq5 hk5 P22)
                          | (go_at_call 27
                             refine (copy27 (pt 1) (sv5 1) (sw5 1) (sp5 1) _ ((unhide ZT).t.s 1 (by omega))).mono ?_
                             rintro e V6 ⟨cb, cv, rfl, hsx6, hcb, hcv, hk6⟩
                             have HSC := hide hsx6
                             have HCB : Hid (V5.heap.size ≤ cb ∧ ∀ k, cv.ownBlock = some k → V5.heap.size ≤ k) := ⟨hcb, hcv⟩
                             have HK6 := hide hk6
                             clear hsx6 hcb hcv hk6)
                          | (go_at_call 18
                             refine (again18 cb cv (sw5 1) (sp5 1) _ (unhide HSC)).mono ?_
                             rintro e V7 ⟨dv, Lr, rfl, hD, hL, hR⟩
                             have hk7 : Kept [] V5 V7 := (unhide HK6).fresh hR.kept (fun x hx hl => by
                               rcases List.mem_cons.1 hx with rfl | hx
                               · have := (unhide HCB).1; omega
                               · have := (unhide HCB).2 x (by simpa using hx); omega)
                             replace ZT := hide ((unhide ZT).step hk7)
                             replace HXS5 := hide ((unhide HXS5).kept0 hk7)
                             have hco := fits_cell (unhide ZT).t.hd 0 _ rfl
                             obtain ⟨dao, dc, hdv⟩ := owns_slN hD.row
                             have HD := hide hD
                             have HL := hide hL
                             obtain ⟨dn, hdn⟩ : ∃ q, q = Lr.length := ⟨_, rfl⟩
                             rw [← hdn] at hdv
                             subst hdv
                             have HDN := hide hdn
                             have hdw : dn = wn := by
                               have h1 := congrArg List.length (unhide HL)
                               rw [List.length_map] at h1
                               unfold Ps.again at h1
                               have h3 := unhide HKN
                               have h4 := unhide HL5
                               rw [tellL_len (by omega)] at h1
                               omega
                             rw [hdw] at HD HDN ⊢
                             clear hdw
                             have P23 := hide (got23 (pt 0) (sv5 0) (sw5 0) (sp5 0) _ ((unhide ZT).t.s 0 (by omega)))
                             rw [← unhide HGQ] at P23
                             clear hD hL hR hk7 hdn hcz hcs HSC HCB HK6)
                          | (go_at_call 23
                             refine (unhide P23).mono ?_
                             rintro e V8 ⟨rfl, q8, hq8⟩
                             have hk8 : Kept [] V7 V8 := by rw [hq8]; exact kept_drewN _ _ _
                             replace ZT := hide ((unhide ZT).step hk8)
                             replace HXS5 := hide ((unhide HXS5).kept0 hk8)
                             replace HD := hide ((unhide HD).kept0 hk8)
                             clear hq8 hk8 P23 hco))
                        go_loopw [19] (fun i wr => ∃ j : Nat, j ≤ wn ∧ i = .int .i64 j ∧ Hid (Kept [] V8 wr)) (fun i _ => wn - (intOf i).toNat)
                        case atStart => exact ⟨0, by omega, rfl, Kept.refl _ _⟩
                        case round =>
                          obtain ⟨j, hj, rfl, HK8⟩ := hrel
                          by_cases hjt : j < wn
                          · have hjI : (j : Int) < (wn : Int) := by omega
                            have hZ := (unhide ZT).step (unhide HK8)
                            have hX := (unhide HXS5).kept0 (unhide HK8)
                            have hDD := (unhide HD).kept0 (unhide HK8)
                            obtain ⟨pr, hpr⟩ : ∃ pr, Lr[j]? = some pr := ⟨_, List.getElem?_eq_getElem (by have := unhide HDN; omega)⟩
                            obtain ⟨dg, rfl, hrg⟩ := hDD.at hpr
                            have hp1 : pr.1 = (sp5 1).at kn j := by
                              have h1 : (Lr.map Prod.fst)[j]? = some pr.1 := by rw [List.getElem?_map, hpr]; rfl
                              rw [unhide HL] at h1
                              unfold Ps.again at h1
                              rw [tellL_at (by have := unhide HL5; have := unhide HKN; omega), ← unhide HKN] at h1
                              exact (Option.some.inj h1).symm
                            obtain ⟨bs, hbs⟩ : ∃ bs, (L5 1)[kn + j]? = some bs := ⟨_, List.getElem?_eq_getElem (by have := (unhide HXS5).len; have := unhide HLN; omega)⟩
                            obtain ⟨u2, hu2⟩ : ∃ u, xs5[kn + j]? = some u := ⟨_, List.getElem?_eq_getElem (by have := unhide HLN; omega)⟩
                            have hB2 := hX.body _ _ _ hu2 hbs
                            have hpb : pr.1.bs = bs := by
                              rw [hp1]
                              show (sp5 1).sent.getD (kn + j) [] = bs
                              rw [← (unhide ZT).iv.lq 1 (by omega), List.getD_eq_getElem?_getD, hbs]
                              rfl
                            have hB1 := hDD.bod pr (List.mem_of_getElem? hpr)
                            rw [hpb] at hB1
                            obtain ⟨gi, hgi⟩ : ∃ q, q = (sp5 1).got := ⟨_, rfl⟩
                            have HGI := hide hgi
                            have HQ3 : Hid (wr.cell? ⟨dg, j * 6 + 3, none⟩ = some (.int .i64 ((kn : Int) + 1 + (j : Int)))) := by
                              have := hrg 3 (.int .i64 pr.1.seq) rfl
                              rw [hp1] at this
                              exact this
                            have HQ4 : Hid (wr.cell? ⟨dg, j * 6 + 4, none⟩ = some (.int .i64 gi)) := by
                              have := hrg 4 (.int .i64 pr.1.ack) rfl
                              rw [hp1] at this
                              rw [hgi]
                              exact this
                            have h5 := hrg 5 pr.2 rfl
                            obtain ⟨uo, uc, hu, _, _⟩ := hB1.sl
                            obtain ⟨uo2, uc2, hu2b, _, _⟩ := hB2.sl
                            obtain ⟨ul, hul⟩ : ∃ q, q = bs.length := ⟨_, rfl⟩
                            rw [← hul] at hu hu2b
                            rw [hu] at h5
                            have HQ5 : Hid (wr.cell? ⟨dg, j * 6 + 5, none⟩ = some (.slice uo ul uc)) := h5
                            have HR1 : Hid (RowAt wr (.slice uo ul uc) bs) := by rw [← hu]; exact hB1.row
                            have HR2 : Hid (RowAt wr (.slice uo2 ul uc2) bs) := by rw [← hu2b]; exact hB2.row
                            rcases hX.row with ⟨_, x1⟩ | ⟨sg, so, cap, cur, x1, hcur, _, _, _, hcell⟩
                            · exfalso; rw [x1] at hu2; simp at hu2
                            have HQB : Hid (wr.cell? ⟨sg, so + (kn + j), none⟩ = some (.slice uo2 ul uc2)) := by rw [cell_of_block hcur, ← hu2b]; exact hcell _ _ hu2
                            rw [unhide HST] at x1
                            injection x1 with x1 x2 x3
                            subst x1
                            have HQS : Hid (wr.cell? ⟨z, 3 + 1, none⟩ = some (.slice (some ⟨sg, so, none⟩) ln sc)) := by rw [← unhide HST]; exact fits_cell hZ.t.hd (3 + 1) _ rfl
                            have HQZ : Hid (wr.cell? ⟨z, 0 + 1, none⟩ = some (P0 (pt 1))) := fits_cell hZ.t.hd (0 + 1) _ rfl
                            have HSX := hide (hZ.t.s 1 (by omega))
                            clear hZ hX hDD hpr hrg hp1 hbs hu2 hB2 hpb hB1 hgi h5 hu hu2b hul hcur hcell x2 x3
                            go_wp2_with fail
                            refine wp_region_any mixed (wpAny_tq 46 rfl (by kernel_rfl) [some (.slice (some ⟨dg, 0, none⟩) wn dc), some (.int .i64 j), some (.pointer (some ⟨dg, j * 6, none⟩)), some (.pointer (some ⟨dg, j * 6 + 3, none⟩)), some (.int .i64 ((kn : Int) + 1 + (j : Int))), some (.int .i64 kn), some (.int .i64 j), some (.int .i64 ((kn : Int) + (j : Int))), some (.int .i64 ((kn : Int) + (j : Int) + 1)), some (.bool false), some (.bool false), some (.slice (some ⟨dg, 0, none⟩) wn dc), some (.int .i64 j), some (.pointer (some ⟨dg, j * 6, none⟩)), some (.pointer (some ⟨dg, j * 6 + 5, none⟩)), some (.slice uo ul uc), some (.string (strOfNums bs)), some (P0 z), some (.int .i64 1), some (P0 z), some (.pointer (some ⟨z, 3, none⟩)), some (.pointer (some ⟨z, 3 + 1, none⟩)), some (.slice (some ⟨sg, so, none⟩) ln sc), some (.int .i64 kn), some (.int .i64 j), some (.int .i64 (kn + j : Nat)), some (.pointer (some ⟨sg, so + (kn + j), none⟩)), some (.slice uo2 ul uc2), some (.string (strOfNums bs)), some (.bool false), some (.bool false), some (.bool false), some (.slice (some ⟨dg, 0, none⟩) wn dc), some (.int .i64 j), some (.pointer (some ⟨dg, j * 6, none⟩)), some (.pointer (some ⟨dg, j * 6 + 4, none⟩)), some (.int .i64 gi), some (P0 z), some (.int .i64 1), some (P0 z), some (.pointer (some ⟨z, 0, none⟩)), some (.pointer (some ⟨z, 0 + 1, none⟩)), some (P0 (pt 1)), some (.int .i64 gi), some (.bool false), some (.bool false)] rfl (by kernel_rfl) (by kernel_rfl) ?_ ?_)
                            · intro i o' hi hsk ho a' w2 hout hin hk2
                              replace hk2 : Kept [] wr w2 := ⟨hk2.os, hk2.tape, hk2.output, hk2.size, hk2.block⟩
                              match i, ho, hsk with
                              | 0, ho, hsk =>
                                obtain rfl := Option.some.inj ho
                                exact wp_move (.tmp 18) rfl _ ((hout 18 (by kernel_rfl)).trans rfl) ⟨_, rfl, tq_is _ _ _ _ rfl, Kept.refl _ _, fun _ _ _ _ _ => trivial⟩
                              | 1, ho, hsk =>
                                obtain rfl := Option.some.inj ho
                                exact wp_move (.tmp 19) rfl _ ((hout 19 (by kernel_rfl)).trans rfl) ⟨_, rfl, tq_is _ _ _ _ rfl, Kept.refl _ _, fun _ _ _ _ _ => trivial⟩
                              | 2, ho, hsk =>
                                obtain rfl := Option.some.inj ho
                                have e0 : a'.eval (.tmp 204) = .slice (some ⟨dg, 0, none⟩) wn dc := is_tq (hin 0 204 (by kernel_rfl) (by kernel_rfl)) rfl
                                have e1 : a'.eval (.tmp 205) = .int .i64 j := is_tq (hin 1 205 (by kernel_rfl) (by kernel_rfl)) rfl
                                exact o_idx40 (.tmp 204) (.tmp 205) rfl dg wn dc j (by omega) e0 e1 ⟨_, rfl, tq_is _ _ _ _ rfl, Kept.refl _ _, fun _ _ _ _ _ => trivial⟩
                              | 3, ho, hsk =>
                                obtain rfl := Option.some.inj ho
                                have e0 : a'.eval (.tmp 206) = .pointer (some ⟨dg, j * 6, none⟩) := is_tq (hin 2 206 (by kernel_rfl) (by kernel_rfl)) rfl
                                exact o_fg35_3 (.tmp 206) rfl _ _ e0 ⟨_, rfl, tq_is _ _ _ _ rfl, Kept.refl _ _, fun _ _ _ _ _ => trivial⟩
                              | 4, ho, hsk =>
                                obtain rfl := Option.some.inj ho
                                have e0 : a'.eval (.tmp 207) = .pointer (some ⟨dg, j * 6 + 3, none⟩) := is_tq (hin 3 207 (by kernel_rfl) (by kernel_rfl)) rfl
                                exact o_load2 (.tmp 207) rfl _ _ e0 (hk2.cell (unhide HQ3) (by simp)) ⟨_, rfl, tq_is _ _ _ _ rfl, Kept.refl _ _, fun _ _ _ _ _ => trivial⟩
                              | 5, ho, hsk =>
                                obtain rfl := Option.some.inj ho
                                exact wp_move (.tmp 16) rfl _ ((hout 16 (by kernel_rfl)).trans rfl) ⟨_, rfl, tq_is _ _ _ _ rfl, Kept.refl _ _, fun _ _ _ _ _ => trivial⟩
                              | 6, ho, hsk =>
                                obtain rfl := Option.some.inj ho
                                exact wp_move (.tmp 19) rfl _ ((hout 19 (by kernel_rfl)).trans rfl) ⟨_, rfl, tq_is _ _ _ _ rfl, Kept.refl _ _, fun _ _ _ _ _ => trivial⟩
                              | 7, ho, hsk =>
                                obtain rfl := Option.some.inj ho
                                have e0 : a'.eval (.tmp 209) = .int .i64 kn := is_tq (hin 5 209 (by kernel_rfl) (by kernel_rfl)) rfl
                                have e1 : a'.eval (.tmp 210) = .int .i64 j := is_tq (hin 6 210 (by kernel_rfl) (by kernel_rfl)) rfl
                                exact o_add3 (.tmp 209) (.tmp 210) rfl _ _ (by omega) e0 e1 ⟨_, rfl, tq_is _ _ _ _ rfl, Kept.refl _ _, fun _ _ _ _ _ => trivial⟩
                              | 8, ho, hsk =>
                                obtain rfl := Option.some.inj ho
                                have e0 : a'.eval (.tmp 211) = .int .i64 ((kn : Int) + (j : Int)) := is_tq (hin 7 211 (by kernel_rfl) (by kernel_rfl)) rfl
                                exact o_add3 (.tmp 211) (.const (.int .i64 1)) rfl _ _ (by omega) e0 rfl ⟨_, rfl, tq_is _ _ _ _ rfl, Kept.refl _ _, fun _ _ _ _ _ => trivial⟩
                              | 9, ho, hsk =>
                                obtain rfl := Option.some.inj ho
                                have e0 : a'.eval (.tmp 208) = .int .i64 ((kn : Int) + 1 + (j : Int)) := is_tq (hin 4 208 (by kernel_rfl) (by kernel_rfl)) rfl
                                have e1 : a'.eval (.tmp 212) = .int .i64 ((kn : Int) + (j : Int) + 1) := is_tq (hin 8 212 (by kernel_rfl) (by kernel_rfl)) rfl
                                exact o_neqT2 (.tmp 208) (.tmp 212) rfl _ _ true (by rw [decide_eq_true_eq]; omega) e0 e1 ⟨_, rfl, tq_is _ _ _ _ rfl, Kept.refl _ _, fun _ _ _ _ _ => trivial⟩
                              | 10, ho, hsk =>
                                obtain rfl := Option.some.inj ho
                                have e0 : a'.eval (.tmp 213) = .bool false := is_tq (hin 9 213 (by kernel_rfl) (by kernel_rfl)) rfl
                                exact wp_move (.tmp 213) rfl _ e0 ⟨_, rfl, tq_is _ _ _ _ rfl, Kept.refl _ _, fun _ _ _ _ _ => trivial⟩
                              | 11, ho, hsk =>
                                obtain rfl := Option.some.inj ho
                                exact wp_move (.tmp 18) rfl _ ((hout 18 (by kernel_rfl)).trans rfl) ⟨_, rfl, tq_is _ _ _ _ rfl, Kept.refl _ _, fun _ _ _ _ _ => trivial⟩
                              | 12, ho, hsk =>
                                obtain rfl := Option.some.inj ho
                                exact wp_move (.tmp 19) rfl _ ((hout 19 (by kernel_rfl)).trans rfl) ⟨_, rfl, tq_is _ _ _ _ rfl, Kept.refl _ _, fun _ _ _ _ _ => trivial⟩
                              | 13, ho, hsk =>
                                obtain rfl := Option.some.inj ho
                                have e0 : a'.eval (.tmp 215) = .slice (some ⟨dg, 0, none⟩) wn dc := is_tq (hin 11 215 (by kernel_rfl) (by kernel_rfl)) rfl
                                have e1 : a'.eval (.tmp 216) = .int .i64 j := is_tq (hin 12 216 (by kernel_rfl) (by kernel_rfl)) rfl
                                exact o_idx40 (.tmp 215) (.tmp 216) rfl dg wn dc j (by omega) e0 e1 ⟨_, rfl, tq_is _ _ _ _ rfl, Kept.refl _ _, fun _ _ _ _ _ => trivial⟩
                              | 14, ho, hsk =>
                                obtain rfl := Option.some.inj ho
                                have e0 : a'.eval (.tmp 217) = .pointer (some ⟨dg, j * 6, none⟩) := is_tq (hin 13 217 (by kernel_rfl) (by kernel_rfl)) rfl
                                exact o_fg35_5 (.tmp 217) rfl _ _ e0 ⟨_, rfl, tq_is _ _ _ _ rfl, Kept.refl _ _, fun _ _ _ _ _ => trivial⟩
                              | 15, ho, hsk =>
                                obtain rfl := Option.some.inj ho
                                have e0 : a'.eval (.tmp 218) = .pointer (some ⟨dg, j * 6 + 5, none⟩) := is_tq (hin 14 218 (by kernel_rfl) (by kernel_rfl)) rfl
                                exact o_load33 (.tmp 218) rfl _ _ e0 (hk2.cell (unhide HQ5) (by simp)) ⟨_, rfl, tq_is _ _ _ _ rfl, Kept.refl _ _, fun _ _ _ _ _ => trivial⟩
                              | 16, ho, hsk =>
                                obtain rfl := Option.some.inj ho
                                have e0 : a'.eval (.tmp 219) = .slice uo ul uc := is_tq (hin 15 219 (by kernel_rfl) (by kernel_rfl)) rfl
                                exact o_cvt (.tmp 219) rfl _ bs e0 ((unhide HR1).kept hk2) ⟨_, rfl, tq_is _ _ _ _ rfl, Kept.refl _ _, fun _ _ _ _ _ => trivial⟩
                              | 17, ho, hsk =>
                                obtain rfl := Option.some.inj ho
                                exact wp_move (.tmp 9) rfl _ ((hout 9 (by kernel_rfl)).trans rfl) ⟨_, rfl, tq_is _ _ _ _ rfl, Kept.refl _ _, fun _ _ _ _ _ => trivial⟩
                              | 18, ho, hsk =>
                                obtain rfl := Option.some.inj ho
                                exact wp_move (.tmp 12) rfl _ ((hout 12 (by kernel_rfl)).trans rfl) ⟨_, rfl, tq_is _ _ _ _ rfl, Kept.refl _ _, fun _ _ _ _ _ => trivial⟩
                              | 19, ho, hsk =>
                                obtain rfl := Option.some.inj ho
                                have e0 : a'.eval (.tmp 221) = P0 z := is_tq (hin 17 221 (by kernel_rfl) (by kernel_rfl)) rfl
                                exact o_nil (.tmp 221) rfl _ e0 ⟨_, rfl, tq_is _ _ _ _ rfl, Kept.refl _ _, fun _ _ _ _ _ => trivial⟩
                              | 20, ho, hsk =>
                                obtain rfl := Option.some.inj ho
                                have e0 : a'.eval (.tmp 223) = P0 z := is_tq (hin 19 223 (by kernel_rfl) (by kernel_rfl)) rfl
                                exact o_fld54_2 (.tmp 223) rfl z e0 ⟨_, rfl, tq_is _ _ _ _ rfl, Kept.refl _ _, fun _ _ _ _ _ => trivial⟩
                              | 21, ho, hsk =>
                                obtain rfl := Option.some.inj ho
                                have e0 : a'.eval (.tmp 224) = .pointer (some ⟨z, 3, none⟩) := is_tq (hin 20 224 (by kernel_rfl) (by kernel_rfl)) rfl
                                have e1 : a'.eval (.tmp 222) = .int .i64 1 := is_tq (hin 18 222 (by kernel_rfl) (by kernel_rfl)) rfl
                                exact o_idx52 (.tmp 224) (.tmp 222) rfl z 3 1 (by omega) e0 e1 ⟨_, rfl, tq_is _ _ _ _ rfl, Kept.refl _ _, fun _ _ _ _ _ => trivial⟩
                              | 22, ho, hsk =>
                                obtain rfl := Option.some.inj ho
                                have e0 : a'.eval (.tmp 225) = .pointer (some ⟨z, 3 + 1, none⟩) := is_tq (hin 21 225 (by kernel_rfl) (by kernel_rfl)) rfl
                                exact o_load30 (.tmp 225) rfl _ _ e0 (hk2.cell (unhide HQS) (by simp)) ⟨_, rfl, tq_is _ _ _ _ rfl, Kept.refl _ _, fun _ _ _ _ _ => trivial⟩
                              | 23, ho, hsk =>
                                obtain rfl := Option.some.inj ho
                                exact wp_move (.tmp 16) rfl _ ((hout 16 (by kernel_rfl)).trans rfl) ⟨_, rfl, tq_is _ _ _ _ rfl, Kept.refl _ _, fun _ _ _ _ _ => trivial⟩
                              | 24, ho, hsk =>
                                obtain rfl := Option.some.inj ho
                                exact wp_move (.tmp 19) rfl _ ((hout 19 (by kernel_rfl)).trans rfl) ⟨_, rfl, tq_is _ _ _ _ rfl, Kept.refl _ _, fun _ _ _ _ _ => trivial⟩
                              | 25, ho, hsk =>
                                obtain rfl := Option.some.inj ho
                                have e0 : a'.eval (.tmp 227) = .int .i64 kn := is_tq (hin 23 227 (by kernel_rfl) (by kernel_rfl)) rfl
                                have e1 : a'.eval (.tmp 228) = .int .i64 j := is_tq (hin 24 228 (by kernel_rfl) (by kernel_rfl)) rfl
                                refine o_add3 (.tmp 227) (.tmp 228) rfl _ _ (by omega) e0 e1 ?_
                                rw [show ((kn : Int) + (j : Int)) = ((kn + j : Nat) : Int) from by omega]
                                exact ⟨_, rfl, tq_is _ _ _ _ rfl, Kept.refl _ _, fun _ _ _ _ _ => trivial⟩
                              | 26, ho, hsk =>
                                obtain rfl := Option.some.inj ho
                                have e0 : a'.eval (.tmp 226) = .slice (some ⟨sg, so, none⟩) ln sc := is_tq (hin 22 226 (by kernel_rfl) (by kernel_rfl)) rfl
                                have e1 : a'.eval (.tmp 229) = .int .i64 (kn + j : Nat) := is_tq (hin 25 229 (by kernel_rfl) (by kernel_rfl)) rfl
                                exact o_idx30 (.tmp 226) (.tmp 229) rfl sg so ln sc (kn + j) (by omega) e0 e1 ⟨_, rfl, tq_is _ _ _ _ rfl, Kept.refl _ _, fun _ _ _ _ _ => trivial⟩
                              | 27, ho, hsk =>
                                obtain rfl := Option.some.inj ho
                                have e0 : a'.eval (.tmp 230) = .pointer (some ⟨sg, so + (kn + j), none⟩) := is_tq (hin 26 230 (by kernel_rfl) (by kernel_rfl)) rfl
                                exact o_load33 (.tmp 230) rfl _ _ e0 (hk2.cell (unhide HQB) (by simp)) ⟨_, rfl, tq_is _ _ _ _ rfl, Kept.refl _ _, fun _ _ _ _ _ => trivial⟩
                              | 28, ho, hsk =>
                                obtain rfl := Option.some.inj ho
                                have e0 : a'.eval (.tmp 231) = .slice uo2 ul uc2 := is_tq (hin 27 231 (by kernel_rfl) (by kernel_rfl)) rfl
                                exact o_cvt (.tmp 231) rfl _ bs e0 ((unhide HR2).kept hk2) ⟨_, rfl, tq_is _ _ _ _ rfl, Kept.refl _ _, fun _ _ _ _ _ => trivial⟩
                              | 29, ho, hsk =>
                                obtain rfl := Option.some.inj ho
                                have e0 : a'.eval (.tmp 220) = .string (strOfNums bs) := is_tq (hin 16 220 (by kernel_rfl) (by kernel_rfl)) rfl
                                have e1 : a'.eval (.tmp 232) = .string (strOfNums bs) := is_tq (hin 28 232 (by kernel_rfl) (by kernel_rfl)) rfl
                                exact o_neqS (.tmp 220) (.tmp 232) rfl _ e0 e1 ⟨_, rfl, tq_is _ _ _ _ rfl, Kept.refl _ _, fun _ _ _ _ _ => trivial⟩
                              | 30, ho, hsk =>
                                obtain rfl := Option.some.inj ho
                                have e0 : a'.eval (.tmp 214) = .bool false := is_tq (hin 10 214 (by kernel_rfl) (by kernel_rfl)) rfl
                                have e1 : a'.eval (.tmp 233) = .bool false := is_tq (hin 29 233 (by kernel_rfl) (by kernel_rfl)) rfl
                                exact o_pickOr0 (.tmp 214) (.tmp 233) rfl _ e0 e1 ⟨_, rfl, tq_is _ _ _ _ rfl, Kept.refl _ _, fun _ _ _ _ _ => trivial⟩
                              | 31, ho, hsk =>
                                obtain rfl := Option.some.inj ho
                                have e0 : a'.eval (.tmp 234) = .bool false := is_tq (hin 30 234 (by kernel_rfl) (by kernel_rfl)) rfl
                                exact wp_move (.tmp 234) rfl _ e0 ⟨_, rfl, tq_is _ _ _ _ rfl, Kept.refl _ _, fun _ _ _ _ _ => trivial⟩
                              | 32, ho, hsk =>
                                obtain rfl := Option.some.inj ho
                                exact wp_move (.tmp 18) rfl _ ((hout 18 (by kernel_rfl)).trans rfl) ⟨_, rfl, tq_is _ _ _ _ rfl, Kept.refl _ _, fun _ _ _ _ _ => trivial⟩
                              | 33, ho, hsk =>
                                obtain rfl := Option.some.inj ho
                                exact wp_move (.tmp 19) rfl _ ((hout 19 (by kernel_rfl)).trans rfl) ⟨_, rfl, tq_is _ _ _ _ rfl, Kept.refl _ _, fun _ _ _ _ _ => trivial⟩
                              | 34, ho, hsk =>
                                obtain rfl := Option.some.inj ho
                                have e0 : a'.eval (.tmp 236) = .slice (some ⟨dg, 0, none⟩) wn dc := is_tq (hin 32 236 (by kernel_rfl) (by kernel_rfl)) rfl
                                have e1 : a'.eval (.tmp 237) = .int .i64 j := is_tq (hin 33 237 (by kernel_rfl) (by kernel_rfl)) rfl
                                exact o_idx40 (.tmp 236) (.tmp 237) rfl dg wn dc j (by omega) e0 e1 ⟨_, rfl, tq_is _ _ _ _ rfl, Kept.refl _ _, fun _ _ _ _ _ => trivial⟩
                              | 35, ho, hsk =>
                                obtain rfl := Option.some.inj ho
                                have e0 : a'.eval (.tmp 238) = .pointer (some ⟨dg, j * 6, none⟩) := is_tq (hin 34 238 (by kernel_rfl) (by kernel_rfl)) rfl
                                exact o_fg35_4 (.tmp 238) rfl _ _ e0 ⟨_, rfl, tq_is _ _ _ _ rfl, Kept.refl _ _, fun _ _ _ _ _ => trivial⟩
                              | 36, ho, hsk =>
                                obtain rfl := Option.some.inj ho
                                have e0 : a'.eval (.tmp 239) = .pointer (some ⟨dg, j * 6 + 4, none⟩) := is_tq (hin 35 239 (by kernel_rfl) (by kernel_rfl)) rfl
                                exact o_load2 (.tmp 239) rfl _ _ e0 (hk2.cell (unhide HQ4) (by simp)) ⟨_, rfl, tq_is _ _ _ _ rfl, Kept.refl _ _, fun _ _ _ _ _ => trivial⟩
                              | 37, ho, hsk =>
                                obtain rfl := Option.some.inj ho
                                exact wp_move (.tmp 9) rfl _ ((hout 9 (by kernel_rfl)).trans rfl) ⟨_, rfl, tq_is _ _ _ _ rfl, Kept.refl _ _, fun _ _ _ _ _ => trivial⟩
                              | 38, ho, hsk =>
                                obtain rfl := Option.some.inj ho
                                exact wp_move (.tmp 12) rfl _ ((hout 12 (by kernel_rfl)).trans rfl) ⟨_, rfl, tq_is _ _ _ _ rfl, Kept.refl _ _, fun _ _ _ _ _ => trivial⟩
                              | 39, ho, hsk =>
                                obtain rfl := Option.some.inj ho
                                have e0 : a'.eval (.tmp 241) = P0 z := is_tq (hin 37 241 (by kernel_rfl) (by kernel_rfl)) rfl
                                exact o_nil (.tmp 241) rfl _ e0 ⟨_, rfl, tq_is _ _ _ _ rfl, Kept.refl _ _, fun _ _ _ _ _ => trivial⟩
                              | 40, ho, hsk =>
                                obtain rfl := Option.some.inj ho
                                have e0 : a'.eval (.tmp 243) = P0 z := is_tq (hin 39 243 (by kernel_rfl) (by kernel_rfl)) rfl
                                exact o_fld54_0 (.tmp 243) rfl z e0 ⟨_, rfl, tq_is _ _ _ _ rfl, Kept.refl _ _, fun _ _ _ _ _ => trivial⟩
                              | 41, ho, hsk =>
                                obtain rfl := Option.some.inj ho
                                have e0 : a'.eval (.tmp 244) = .pointer (some ⟨z, 0, none⟩) := is_tq (hin 40 244 (by kernel_rfl) (by kernel_rfl)) rfl
                                have e1 : a'.eval (.tmp 242) = .int .i64 1 := is_tq (hin 38 242 (by kernel_rfl) (by kernel_rfl)) rfl
                                exact o_idx51 (.tmp 244) (.tmp 242) rfl z 0 1 (by omega) e0 e1 ⟨_, rfl, tq_is _ _ _ _ rfl, Kept.refl _ _, fun _ _ _ _ _ => trivial⟩
                              | 42, ho, hsk =>
                                obtain rfl := Option.some.inj ho
                                have e0 : a'.eval (.tmp 245) = .pointer (some ⟨z, 0 + 1, none⟩) := is_tq (hin 41 245 (by kernel_rfl) (by kernel_rfl)) rfl
                                exact o_load23 (.tmp 245) rfl _ _ e0 (hk2.cell (unhide HQZ) (by simp)) ⟨_, rfl, tq_is _ _ _ _ rfl, Kept.refl _ _, fun _ _ _ _ _ => trivial⟩
                              | 43, ho, hsk =>
                                obtain rfl := Option.some.inj ho
                                have e0 : a'.eval (.tmp 246) = P0 (pt 1) := is_tq (hin 42 246 (by kernel_rfl) (by kernel_rfl)) rfl
                                refine wp_callF 23 _ _ rfl #[P0 (pt 1)] (by simp [e0]) (cf23 _ _) ((got23 (pt 1) (sv5 1) (sw5 1) (sp5 1) _ ((unhide HSX).kept0 hk2)).mono ?_)
                                rintro e w3 ⟨rfl, q3, rfl⟩
                                rw [← unhide HGI]
                                exact ⟨_, rfl, _, rfl, tq_is _ _ _ _ rfl, kept_drewN _ _ _, fun _ _ _ _ _ => trivial⟩
                              | 44, ho, hsk =>
                                obtain rfl := Option.some.inj ho
                                have e0 : a'.eval (.tmp 240) = .int .i64 gi := is_tq (hin 36 240 (by kernel_rfl) (by kernel_rfl)) rfl
                                have e1 : a'.eval (.tmp 247) = .int .i64 gi := is_tq (hin 43 247 (by kernel_rfl) (by kernel_rfl)) rfl
                                exact o_neqT2 (.tmp 240) (.tmp 247) rfl _ _ true (by simp) e0 e1 ⟨_, rfl, tq_is _ _ _ _ rfl, Kept.refl _ _, fun _ _ _ _ _ => trivial⟩
                              | 45, ho, hsk =>
                                obtain rfl := Option.some.inj ho
                                have e0 : a'.eval (.tmp 235) = .bool false := is_tq (hin 31 235 (by kernel_rfl) (by kernel_rfl)) rfl
                                have e1 : a'.eval (.tmp 248) = .bool false := is_tq (hin 44 248 (by kernel_rfl) (by kernel_rfl)) rfl
                                exact o_pickOr0 (.tmp 235) (.tmp 248) rfl _ e0 e1 ⟨_, rfl, tq_is _ _ _ _ rfl, Kept.refl _ _, fun _ _ _ _ _ => trivial⟩
                            intro w9 hk9
                            replace hk9 : Kept [] wr w9 := ⟨hk9.os, hk9.tape, hk9.output, hk9.size, hk9.block⟩
                            simp only [valsQ, List.map_cons, List.map_nil, Option.getD_some, List.take_succ_cons, List.take_zero, putAll, Act.put, List.setIfInBounds_toArray, List.set_cons_succ, List.set_cons_zero]
                            refine wpAny_done (by kernel_rfl) ?_ _
                            have HK9 : Hid (Kept [] V8 w9) := (unhide HK8).trans hk9
                            clear hk9
                            go_wp2_with fail
                            go_roundw
                            case rel => exact ⟨j + 1, by omega, by go_num, HK9⟩
                            case measure => simp [intOf]; omega
                          · have hjI : ¬ (j : Int) < (wn : Int) := by omega
                            go_wp2_with fail
                            go_roundw
                            case rel => exact ⟨k + 1, sv5, sw5, sp5, st5, ou5, L5, M5, by omega, by go_num, hide ((unhide ZT).step (unhide HK8))⟩
                            case measure => simp [intOf]; omega
        · have hltI : ¬ (k : Int) < (m : Int) := by omega
          have P26 := hide (right26 w _ z pt sv sw sp _ [] st ou L M (unhide ZT).t (unhide ZT).iv.right (fun i hi => by rw [(unhide ZT).iv.mq i hi, List.length_take]; have := (unhide ZT).n (1 - i) (by omega); omega) (fun i hi => by rw [(unhide ZT).iv.lq i hi]; have := (unhide ZT).n i hi; omega))
          go_wp2_with (
            first
            | (go_at_call 26
               refine (unhide P26).mono ?_
               rintro e V9 ⟨rfl, hk⟩
               have HK6 := hide hk
               clear hk)
            | (go_at_call 11
               refine (known11 _).mono ?_
               rintro e V9 ⟨rfl, hk⟩
               have HK := hide hk
               clear hk))
          go_ret
          exact ⟨rfl, ((unhide ZT).t.k.trans (unhide HK6)).trans (unhide HK)⟩
    · have hmI : (60 : Int) < (m : Int) := by omega
      go_enter Try.func6, Try.ntmps6
      go_wp2_with (
        first
        | (go_at_call 9
           refine (unhide PN0 _).mono ?_
           rintro e V1 ⟨b0, rfl, e1, hs, hk⟩
           have MA : Hid (Sm w V1 b0 (.slice none 0 0) [] (newP 0 1 vw)) := ⟨hs, hk, by omega, fun i h => by cases h⟩
           clear e1 hs hk PN0)
        | (go_at_call 9
           refine (unhide PN1 _).mono ?_
           rintro e V2 ⟨b1, rfl, e1, hs, hk⟩
           have MB : Hid (Sm w V2 b1 (.slice none 0 0) [] (newP 1 0 vw)) := ⟨hs, (unhide MA).k.trans hk, by have h1 := (unhide MA).k.size; omega, fun i h => by cases h⟩
           have HNEB : Hid (b0 ≠ b1) := by have h1 := (unhide MA).sx.head.lt; exact (by omega : b0 ≠ b1)
           replace MA := hide ((unhide MA).step hk)
           clear e1 hs hk PN1)
        | (go_at_call 10
           refine (unhide PM _).mono ?_
           rintro e V3 ⟨rfl, hw9⟩
           obtain rfl := hw9.symm
           clear hw9 PM)
        | (go_at_call 11
           refine (known11 _).mono ?_
           rintro e V9 ⟨rfl, hk⟩
           have HK := hide hk
           clear hk))
      go_ret
      exact ⟨rfl, (unhide MB).k.trans (unhide HK)⟩

end Go.Proofs.Ythbgnpbkdeofcaa
