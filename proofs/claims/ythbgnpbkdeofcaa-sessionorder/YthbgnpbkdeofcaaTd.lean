/-
  Is what came out right?
-/
import Derived.Test.YthbgnpbkdeofcaaTc
namespace Go.Proofs.Ythbgnpbkdeofcaa
set_option maxRecDepth 100000
open Go.RowKit

section
variable {o : Oper} {a : Act} {w : World} {K : Act → World → Prop} {Q : Exit → Act → World → Prop}
theorem o_cvt (x : Operand) (ho : o.op = .convert 33 9 x) (v : Value) (l : List Int) (hx : a.eval x = v) (hr : RowAt w v l) (h : K (a.put o.dst (.string (strOfNums l))) w) : o.wp Try.prog a w K Q := by
  have hc := conv33 hr
  unfold Oper.wp execOp
  simp only [ho, hx]
  simp [go_sem, hc]
  exact h
theorem o_neqS (x y : Operand) (ho : o.op = .binOp .neq 9 x y 9) (s : ByteArray) (hx : a.eval x = .string s) (hy : a.eval y = .string s) (h : K (a.put o.dst (.bool false)) w) : o.wp Try.prog a w K Q := by
  unfold Oper.wp execOp
  simp only [ho, hx, hy]
  simp [go_sem]
  exact h
end
set_option maxHeartbeats 2000000 in
theorem right26 (w W : World) (z : Nat) (pt : Nat → Nat) (sv : Nat → Value) (sw : Nat → List Value) (sp : Nat → Ps) (onv : Value) (D : List (Dg × Value)) (st ou : Nat → Value) (L M : Nat → List (List Int)) (h : Tt w W z pt sv sw sp onv D st ou L M) (hr : ∀ i, i < 2 → M i <+: L (1 - i)) (hs : ∀ i, i < 2 → (M i).length ≤ 1000) (hs2 : ∀ i, i < 2 → (L i).length ≤ 1000) : Calls Try.prog 26 #[P0 z] W fun e W' => e = .returned (.bool true) ∧ Kept [] W W' := by
  have HT := hide h
  have HR := hide hr
  have HS := hide hs
  have HS2 := hide hs2
  have HK := hide (Kept.refl [] W)
  clear h hr hs hs2
  go_enter Try.func26, Try.ntmps26
  go_wp2_with fail
  go_loopw [3] (fun i wr => ∃ k : Nat, k ≤ 2 ∧ i = .int .i64 k ∧ Hid (Kept [] W wr)) (fun i _ => 2 - (intOf i).toNat)
  case atStart => exact ⟨0, by omega, rfl, HK⟩
  case round =>
    clear HK
    obtain ⟨k, hk, rfl, HK⟩ := hrel
    have HTW := hide ((unhide HT).step (unhide HK))
    by_cases hlt : k < 2
    · have h2 : k = 0 ∨ k = 1 := by omega
      rcases h2 with rfl | rfl
      · obtain ⟨xs, hxs⟩ := (unhide HT).q 0 (by omega)
        obtain ⟨ys, hys⟩ := (unhide HT).r 1 (by omega)
        have hl1 := hxs.len
        have hl2 := hys.len
        have HPR : Hid (M 0 <+: L 1) := unhide HR 0 (by omega)
        have hle := (unhide HPR).length_le
        have hs1 := unhide HS 0 (by omega)
        have hs2 := unhide HS2 1 (by omega)
        obtain ⟨ao, c, e1, _, _⟩ := hxs.row.sl
        obtain ⟨ao2, c2, e2, _, _⟩ := hys.row.sl
        have HC5 := fits_cell (unhide HTW).hd 5 _ rfl
        have HC3 := fits_cell (unhide HTW).hd 4 _ rfl
        rw [e1] at HC5
        rw [e2] at HC3
        obtain ⟨n, hn⟩ : ∃ n, n = xs.length := ⟨_, rfl⟩
        obtain ⟨m, hm⟩ : ∃ m, m = ys.length := ⟨_, rfl⟩
        have hnm : n ≤ m := by omega
        have hn1 : n ≤ 1000 := by omega
        have HML : Hid ((M 0).length = n) := (by omega : (M 0).length = n)
        have HLL : Hid ((L 1).length = m) := (by omega : (L 1).length = m)
        have HE1 : Hid (ou 0 = .slice ao n c) := by rw [hn]; exact e1
        have HE2 : Hid (st 1 = .slice ao2 m c2) := by rw [hm]; exact e2
        rw [← hn] at HC5
        rw [← hm] at HC3
        have HXS := hide hxs
        have HYS := hide hys
        have hgt : ¬ (m : Int) < (n : Int) := by omega
        clear hxs hys hl1 hl2 hle hs1 hs2 e1 e2 hn hm
        go_wp2_with fail
        go_quiet (fail)
        go_wp2_with fail
        go_loopw [6] (fun i wr2 => ∃ j : Nat, j ≤ n ∧ i = .int .i64 j ∧ Hid (Kept [] W wr2)) (fun i _ => n - (intOf i).toNat)
        case atStart => exact ⟨0, by omega, rfl, (unhide HK).trans (kept_drewN _ _ _)⟩
        case round =>
          obtain ⟨j, hj, rfl, HK2⟩ := hrel
          by_cases hjt : j < n
          · have hX := (unhide HXS).kept0 (unhide HK2)
            have hY := (unhide HYS).kept0 (unhide HK2)
            have hw1 := hX.len
            have hw2 := hY.len
            have hq1 := unhide HML
            have hq2 := unhide HLL
            obtain ⟨u, hu⟩ : ∃ u, xs[j]? = some u := ⟨_, List.getElem?_eq_getElem (by omega)⟩
            obtain ⟨u2, hu2⟩ : ∃ u, ys[j]? = some u := ⟨_, List.getElem?_eq_getElem (by omega)⟩
            obtain ⟨bs, hbs⟩ : ∃ u, (M 0)[j]? = some u := ⟨_, List.getElem?_eq_getElem (by omega)⟩
            have hbs2 : (L 1)[j]? = some bs := by
              obtain ⟨t, ht⟩ := unhide HPR
              rw [← ht, List.getElem?_append_left (by omega)]
              exact hbs
            have hB := hX.body j u bs hu hbs
            have hB2 := hY.body j u2 bs hu2 hbs2
            obtain ⟨uo, uc, rfl, _, _⟩ := hB.sl
            obtain ⟨uo2, uc2, rfl, _, _⟩ := hB2.sl
            obtain ⟨bl, hbl⟩ : ∃ bl, bl = bs.length := ⟨_, rfl⟩
            have HR1 : Hid (RowAt wr (.slice uo bl uc) bs) := by rw [hbl]; exact hB.row
            have HR2 : Hid (RowAt wr (.slice uo2 bl uc2) bs) := by rw [hbl]; exact hB2.row
            rcases hX.row with ⟨_, x1⟩ | ⟨g, off, cap, cur, x1, hcur, _, _, _, hcell⟩
            · exfalso; rw [x1] at hw1; simp at hw1; omega
            rcases hY.row with ⟨_, y1⟩ | ⟨g2, off2, cap2, cur2, y1, hcur2, _, _, _, hcell2⟩
            · exfalso; rw [y1] at hw2; simp at hw2; omega
            have hc9 : wr.cell? ⟨g, off + j, none⟩ = some (.slice uo bl uc) := by rw [cell_of_block hcur, hbl]; exact hcell j _ hu
            have hd9 : wr.cell? ⟨g2, off2 + j, none⟩ = some (.slice uo2 bl uc2) := by rw [cell_of_block hcur2, hbl]; exact hcell2 j _ hu2
            rw [unhide HE1] at x1
            rw [unhide HE2] at y1
            injection x1 with x1 x2 x3
            injection y1 with y1 y2 y3
            subst x1 y1
            have hltI : (j : Int) < (n : Int) := by omega
            have hltM : (j : Int) < (m : Int) := by omega
            clear hX hY hw1 hw2 hq1 hq2 hu hu2 hbs hbs2 hB hB2 hcur hcell hcur2 hcell2 x2 x3 y2 y3 hbl
            go_wp2_with fail
            refine wp_region_any mixed (wpAny_tq 11 rfl (by kernel_rfl) [some (.slice (some ⟨g, off, none⟩) n c), some (.int .i64 j), some (.pointer (some ⟨g, off + j, none⟩)), some (.slice uo bl uc), some (.string (strOfNums bs)), some (.slice (some ⟨g2, off2, none⟩) m c2), some (.int .i64 j), some (.pointer (some ⟨g2, off2 + j, none⟩)), some (.slice uo2 bl uc2), some (.string (strOfNums bs)), some (.bool false)] rfl (by kernel_rfl) (by kernel_rfl) ?_ ?_)
            · intro i o' hi hsk ho a' w2 hout hin hk2
              replace hk2 : Kept [] wr w2 := ⟨hk2.os, hk2.tape, hk2.output, hk2.size, hk2.block⟩
              match i, ho, hsk with
              | 0, ho, hsk =>
                obtain rfl := Option.some.inj ho
                exact wp_move (.tmp 4) rfl _ ((hout 4 (by kernel_rfl)).trans rfl) ⟨_, rfl, tq_is _ _ _ _ rfl, Kept.refl _ _, fun _ _ _ _ _ => trivial⟩
              | 1, ho, hsk =>
                obtain rfl := Option.some.inj ho
                exact wp_move (.tmp 6) rfl _ ((hout 6 (by kernel_rfl)).trans rfl) ⟨_, rfl, tq_is _ _ _ _ rfl, Kept.refl _ _, fun _ _ _ _ _ => trivial⟩
              | 2, ho, hsk =>
                obtain rfl := Option.some.inj ho
                have e0 : a'.eval (.tmp 35) = .slice (some ⟨g, off, none⟩) n c := is_tq (hin 0 35 (by kernel_rfl) (by kernel_rfl)) rfl
                have e1 : a'.eval (.tmp 36) = .int .i64 j := is_tq (hin 1 36 (by kernel_rfl) (by kernel_rfl)) rfl
                exact o_idx30 (.tmp 35) (.tmp 36) rfl g off n c j (by omega) e0 e1 ⟨_, rfl, tq_is _ _ _ _ rfl, Kept.refl _ _, fun _ _ _ _ _ => trivial⟩
              | 3, ho, hsk =>
                obtain rfl := Option.some.inj ho
                have e0 : a'.eval (.tmp 37) = .pointer (some ⟨g, off + j, none⟩) := is_tq (hin 2 37 (by kernel_rfl) (by kernel_rfl)) rfl
                exact o_load33 (.tmp 37) rfl _ _ e0 (hk2.cell hc9 (by simp)) ⟨_, rfl, tq_is _ _ _ _ rfl, Kept.refl _ _, fun _ _ _ _ _ => trivial⟩
              | 4, ho, hsk =>
                obtain rfl := Option.some.inj ho
                have e0 : a'.eval (.tmp 38) = .slice uo bl uc := is_tq (hin 3 38 (by kernel_rfl) (by kernel_rfl)) rfl
                exact o_cvt (.tmp 38) rfl _ bs e0 ((unhide HR1).kept hk2) ⟨_, rfl, tq_is _ _ _ _ rfl, Kept.refl _ _, fun _ _ _ _ _ => trivial⟩
              | 5, ho, hsk =>
                obtain rfl := Option.some.inj ho
                exact wp_move (.tmp 5) rfl _ ((hout 5 (by kernel_rfl)).trans rfl) ⟨_, rfl, tq_is _ _ _ _ rfl, Kept.refl _ _, fun _ _ _ _ _ => trivial⟩
              | 6, ho, hsk =>
                obtain rfl := Option.some.inj ho
                exact wp_move (.tmp 6) rfl _ ((hout 6 (by kernel_rfl)).trans rfl) ⟨_, rfl, tq_is _ _ _ _ rfl, Kept.refl _ _, fun _ _ _ _ _ => trivial⟩
              | 7, ho, hsk =>
                obtain rfl := Option.some.inj ho
                have e0 : a'.eval (.tmp 40) = .slice (some ⟨g2, off2, none⟩) m c2 := is_tq (hin 5 40 (by kernel_rfl) (by kernel_rfl)) rfl
                have e1 : a'.eval (.tmp 41) = .int .i64 j := is_tq (hin 6 41 (by kernel_rfl) (by kernel_rfl)) rfl
                exact o_idx30 (.tmp 40) (.tmp 41) rfl g2 off2 m c2 j (by omega) e0 e1 ⟨_, rfl, tq_is _ _ _ _ rfl, Kept.refl _ _, fun _ _ _ _ _ => trivial⟩
              | 8, ho, hsk =>
                obtain rfl := Option.some.inj ho
                have e0 : a'.eval (.tmp 42) = .pointer (some ⟨g2, off2 + j, none⟩) := is_tq (hin 7 42 (by kernel_rfl) (by kernel_rfl)) rfl
                exact o_load33 (.tmp 42) rfl _ _ e0 (hk2.cell hd9 (by simp)) ⟨_, rfl, tq_is _ _ _ _ rfl, Kept.refl _ _, fun _ _ _ _ _ => trivial⟩
              | 9, ho, hsk =>
                obtain rfl := Option.some.inj ho
                have e0 : a'.eval (.tmp 43) = .slice uo2 bl uc2 := is_tq (hin 8 43 (by kernel_rfl) (by kernel_rfl)) rfl
                exact o_cvt (.tmp 43) rfl _ bs e0 ((unhide HR2).kept hk2) ⟨_, rfl, tq_is _ _ _ _ rfl, Kept.refl _ _, fun _ _ _ _ _ => trivial⟩
              | 10, ho, hsk =>
                obtain rfl := Option.some.inj ho
                have e0 : a'.eval (.tmp 39) = .string (strOfNums bs) := is_tq (hin 4 39 (by kernel_rfl) (by kernel_rfl)) rfl
                have e1 : a'.eval (.tmp 44) = .string (strOfNums bs) := is_tq (hin 9 44 (by kernel_rfl) (by kernel_rfl)) rfl
                exact o_neqS (.tmp 39) (.tmp 44) rfl _ e0 e1 ⟨_, rfl, tq_is _ _ _ _ rfl, Kept.refl _ _, fun _ _ _ _ _ => trivial⟩
            intro w9 hk9
            replace hk9 : Kept [] wr w9 := ⟨hk9.os, hk9.tape, hk9.output, hk9.size, hk9.block⟩
            simp only [valsQ, List.map_cons, List.map_nil, Option.getD_some, List.take_succ_cons, List.take_zero, putAll, Act.put, List.setIfInBounds_toArray, List.set_cons_succ, List.set_cons_zero]
            refine wpAny_done (by kernel_rfl) ?_ _
            have HK9 : Hid (Kept [] W w9) := (unhide HK2).trans hk9
            clear hk9
            go_wp2_with fail
            go_roundw
            case rel => exact ⟨j + 1, by omega, by go_num, HK9⟩
            case measure => simp [intOf]; omega
          · have hltI : ¬ (j : Int) < (n : Int) := by omega
            go_wp2_with fail
            go_roundw
            case rel => exact ⟨0 + 1, by omega, by go_num, HK2⟩
            case measure => simp [intOf]
      · obtain ⟨xs, hxs⟩ := (unhide HT).q 1 (by omega)
        obtain ⟨ys, hys⟩ := (unhide HT).r 0 (by omega)
        have hl1 := hxs.len
        have hl2 := hys.len
        have HPR : Hid (M 1 <+: L 0) := unhide HR 1 (by omega)
        have hle := (unhide HPR).length_le
        have hs1 := unhide HS 1 (by omega)
        have hs2 := unhide HS2 0 (by omega)
        obtain ⟨ao, c, e1, _, _⟩ := hxs.row.sl
        obtain ⟨ao2, c2, e2, _, _⟩ := hys.row.sl
        have HC5 := fits_cell (unhide HTW).hd 6 _ rfl
        have HC3 := fits_cell (unhide HTW).hd 3 _ rfl
        rw [e1] at HC5
        rw [e2] at HC3
        obtain ⟨n, hn⟩ : ∃ n, n = xs.length := ⟨_, rfl⟩
        obtain ⟨m, hm⟩ : ∃ m, m = ys.length := ⟨_, rfl⟩
        have hnm : n ≤ m := by omega
        have hn1 : n ≤ 1000 := by omega
        have HML : Hid ((M 1).length = n) := (by omega : (M 1).length = n)
        have HLL : Hid ((L 0).length = m) := (by omega : (L 0).length = m)
        have HE1 : Hid (ou 1 = .slice ao n c) := by rw [hn]; exact e1
        have HE2 : Hid (st 0 = .slice ao2 m c2) := by rw [hm]; exact e2
        rw [← hn] at HC5
        rw [← hm] at HC3
        have HXS := hide hxs
        have HYS := hide hys
        have hgt : ¬ (m : Int) < (n : Int) := by omega
        clear hxs hys hl1 hl2 hle hs1 hs2 e1 e2 hn hm
        go_wp2_with fail
        go_quiet (fail)
        go_wp2_with fail
        go_loopw [6] (fun i wr2 => ∃ j : Nat, j ≤ n ∧ i = .int .i64 j ∧ Hid (Kept [] W wr2)) (fun i _ => n - (intOf i).toNat)
        case atStart => exact ⟨0, by omega, rfl, (unhide HK).trans (kept_drewN _ _ _)⟩
        case round =>
          obtain ⟨j, hj, rfl, HK2⟩ := hrel
          by_cases hjt : j < n
          · have hX := (unhide HXS).kept0 (unhide HK2)
            have hY := (unhide HYS).kept0 (unhide HK2)
            have hw1 := hX.len
            have hw2 := hY.len
            have hq1 := unhide HML
            have hq2 := unhide HLL
            obtain ⟨u, hu⟩ : ∃ u, xs[j]? = some u := ⟨_, List.getElem?_eq_getElem (by omega)⟩
            obtain ⟨u2, hu2⟩ : ∃ u, ys[j]? = some u := ⟨_, List.getElem?_eq_getElem (by omega)⟩
            obtain ⟨bs, hbs⟩ : ∃ u, (M 1)[j]? = some u := ⟨_, List.getElem?_eq_getElem (by omega)⟩
            have hbs2 : (L 0)[j]? = some bs := by
              obtain ⟨t, ht⟩ := unhide HPR
              rw [← ht, List.getElem?_append_left (by omega)]
              exact hbs
            have hB := hX.body j u bs hu hbs
            have hB2 := hY.body j u2 bs hu2 hbs2
            obtain ⟨uo, uc, rfl, _, _⟩ := hB.sl
            obtain ⟨uo2, uc2, rfl, _, _⟩ := hB2.sl
            obtain ⟨bl, hbl⟩ : ∃ bl, bl = bs.length := ⟨_, rfl⟩
            have HR1 : Hid (RowAt wr (.slice uo bl uc) bs) := by rw [hbl]; exact hB.row
            have HR2 : Hid (RowAt wr (.slice uo2 bl uc2) bs) := by rw [hbl]; exact hB2.row
            rcases hX.row with ⟨_, x1⟩ | ⟨g, off, cap, cur, x1, hcur, _, _, _, hcell⟩
            · exfalso; rw [x1] at hw1; simp at hw1; omega
            rcases hY.row with ⟨_, y1⟩ | ⟨g2, off2, cap2, cur2, y1, hcur2, _, _, _, hcell2⟩
            · exfalso; rw [y1] at hw2; simp at hw2; omega
            have hc9 : wr.cell? ⟨g, off + j, none⟩ = some (.slice uo bl uc) := by rw [cell_of_block hcur, hbl]; exact hcell j _ hu
            have hd9 : wr.cell? ⟨g2, off2 + j, none⟩ = some (.slice uo2 bl uc2) := by rw [cell_of_block hcur2, hbl]; exact hcell2 j _ hu2
            rw [unhide HE1] at x1
            rw [unhide HE2] at y1
            injection x1 with x1 x2 x3
            injection y1 with y1 y2 y3
            subst x1 y1
            have hltI : (j : Int) < (n : Int) := by omega
            have hltM : (j : Int) < (m : Int) := by omega
            clear hX hY hw1 hw2 hq1 hq2 hu hu2 hbs hbs2 hB hB2 hcur hcell hcur2 hcell2 x2 x3 y2 y3 hbl
            go_wp2_with fail
            refine wp_region_any mixed (wpAny_tq 11 rfl (by kernel_rfl) [some (.slice (some ⟨g, off, none⟩) n c), some (.int .i64 j), some (.pointer (some ⟨g, off + j, none⟩)), some (.slice uo bl uc), some (.string (strOfNums bs)), some (.slice (some ⟨g2, off2, none⟩) m c2), some (.int .i64 j), some (.pointer (some ⟨g2, off2 + j, none⟩)), some (.slice uo2 bl uc2), some (.string (strOfNums bs)), some (.bool false)] rfl (by kernel_rfl) (by kernel_rfl) ?_ ?_)
            · intro i o' hi hsk ho a' w2 hout hin hk2
              replace hk2 : Kept [] wr w2 := ⟨hk2.os, hk2.tape, hk2.output, hk2.size, hk2.block⟩
              match i, ho, hsk with
              | 0, ho, hsk =>
                obtain rfl := Option.some.inj ho
                exact wp_move (.tmp 4) rfl _ ((hout 4 (by kernel_rfl)).trans rfl) ⟨_, rfl, tq_is _ _ _ _ rfl, Kept.refl _ _, fun _ _ _ _ _ => trivial⟩
              | 1, ho, hsk =>
                obtain rfl := Option.some.inj ho
                exact wp_move (.tmp 6) rfl _ ((hout 6 (by kernel_rfl)).trans rfl) ⟨_, rfl, tq_is _ _ _ _ rfl, Kept.refl _ _, fun _ _ _ _ _ => trivial⟩
              | 2, ho, hsk =>
                obtain rfl := Option.some.inj ho
                have e0 : a'.eval (.tmp 35) = .slice (some ⟨g, off, none⟩) n c := is_tq (hin 0 35 (by kernel_rfl) (by kernel_rfl)) rfl
                have e1 : a'.eval (.tmp 36) = .int .i64 j := is_tq (hin 1 36 (by kernel_rfl) (by kernel_rfl)) rfl
                exact o_idx30 (.tmp 35) (.tmp 36) rfl g off n c j (by omega) e0 e1 ⟨_, rfl, tq_is _ _ _ _ rfl, Kept.refl _ _, fun _ _ _ _ _ => trivial⟩
              | 3, ho, hsk =>
                obtain rfl := Option.some.inj ho
                have e0 : a'.eval (.tmp 37) = .pointer (some ⟨g, off + j, none⟩) := is_tq (hin 2 37 (by kernel_rfl) (by kernel_rfl)) rfl
                exact o_load33 (.tmp 37) rfl _ _ e0 (hk2.cell hc9 (by simp)) ⟨_, rfl, tq_is _ _ _ _ rfl, Kept.refl _ _, fun _ _ _ _ _ => trivial⟩
              | 4, ho, hsk =>
                obtain rfl := Option.some.inj ho
                have e0 : a'.eval (.tmp 38) = .slice uo bl uc := is_tq (hin 3 38 (by kernel_rfl) (by kernel_rfl)) rfl
                exact o_cvt (.tmp 38) rfl _ bs e0 ((unhide HR1).kept hk2) ⟨_, rfl, tq_is _ _ _ _ rfl, Kept.refl _ _, fun _ _ _ _ _ => trivial⟩
              | 5, ho, hsk =>
                obtain rfl := Option.some.inj ho
                exact wp_move (.tmp 5) rfl _ ((hout 5 (by kernel_rfl)).trans rfl) ⟨_, rfl, tq_is _ _ _ _ rfl, Kept.refl _ _, fun _ _ _ _ _ => trivial⟩
              | 6, ho, hsk =>
                obtain rfl := Option.some.inj ho
                exact wp_move (.tmp 6) rfl _ ((hout 6 (by kernel_rfl)).trans rfl) ⟨_, rfl, tq_is _ _ _ _ rfl, Kept.refl _ _, fun _ _ _ _ _ => trivial⟩
              | 7, ho, hsk =>
                obtain rfl := Option.some.inj ho
                have e0 : a'.eval (.tmp 40) = .slice (some ⟨g2, off2, none⟩) m c2 := is_tq (hin 5 40 (by kernel_rfl) (by kernel_rfl)) rfl
                have e1 : a'.eval (.tmp 41) = .int .i64 j := is_tq (hin 6 41 (by kernel_rfl) (by kernel_rfl)) rfl
                exact o_idx30 (.tmp 40) (.tmp 41) rfl g2 off2 m c2 j (by omega) e0 e1 ⟨_, rfl, tq_is _ _ _ _ rfl, Kept.refl _ _, fun _ _ _ _ _ => trivial⟩
              | 8, ho, hsk =>
                obtain rfl := Option.some.inj ho
                have e0 : a'.eval (.tmp 42) = .pointer (some ⟨g2, off2 + j, none⟩) := is_tq (hin 7 42 (by kernel_rfl) (by kernel_rfl)) rfl
                exact o_load33 (.tmp 42) rfl _ _ e0 (hk2.cell hd9 (by simp)) ⟨_, rfl, tq_is _ _ _ _ rfl, Kept.refl _ _, fun _ _ _ _ _ => trivial⟩
              | 9, ho, hsk =>
                obtain rfl := Option.some.inj ho
                have e0 : a'.eval (.tmp 43) = .slice uo2 bl uc2 := is_tq (hin 8 43 (by kernel_rfl) (by kernel_rfl)) rfl
                exact o_cvt (.tmp 43) rfl _ bs e0 ((unhide HR2).kept hk2) ⟨_, rfl, tq_is _ _ _ _ rfl, Kept.refl _ _, fun _ _ _ _ _ => trivial⟩
              | 10, ho, hsk =>
                obtain rfl := Option.some.inj ho
                have e0 : a'.eval (.tmp 39) = .string (strOfNums bs) := is_tq (hin 4 39 (by kernel_rfl) (by kernel_rfl)) rfl
                have e1 : a'.eval (.tmp 44) = .string (strOfNums bs) := is_tq (hin 9 44 (by kernel_rfl) (by kernel_rfl)) rfl
                exact o_neqS (.tmp 39) (.tmp 44) rfl _ e0 e1 ⟨_, rfl, tq_is _ _ _ _ rfl, Kept.refl _ _, fun _ _ _ _ _ => trivial⟩
            intro w9 hk9
            replace hk9 : Kept [] wr w9 := ⟨hk9.os, hk9.tape, hk9.output, hk9.size, hk9.block⟩
            simp only [valsQ, List.map_cons, List.map_nil, Option.getD_some, List.take_succ_cons, List.take_zero, putAll, Act.put, List.setIfInBounds_toArray, List.set_cons_succ, List.set_cons_zero]
            refine wpAny_done (by kernel_rfl) ?_ _
            have HK9 : Hid (Kept [] W w9) := (unhide HK2).trans hk9
            clear hk9
            go_wp2_with fail
            go_roundw
            case rel => exact ⟨j + 1, by omega, by go_num, HK9⟩
            case measure => simp [intOf]; omega
          · have hltI : ¬ (j : Int) < (n : Int) := by omega
            go_wp2_with fail
            go_roundw
            case rel => exact ⟨1 + 1, by omega, by go_num, HK2⟩
            case measure => simp [intOf]
    · obtain rfl : k = 2 := by omega
      go_wp2_with fail
      go_ret
      exact ⟨rfl, unhide HK⟩

end Go.Proofs.Ythbgnpbkdeofcaa
