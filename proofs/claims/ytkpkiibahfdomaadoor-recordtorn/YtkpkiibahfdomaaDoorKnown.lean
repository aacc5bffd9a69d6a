/-
  The walk of known: the chapter's rows.
-/
import Derived.Test.YtkpkiibahfdomaaDoorKnowb
import Derived.Test.YtkpkiibahfdomaaDoorTwo
namespace Go.Proofs.YtkpkiibahfdomaaDoor
open Go.RowKit

theorem wpList_app {P : Program} {ops : Array Oper} {Q : Exit → Act → World → Prop} {x : Oper} {l : List Oper} {a : Act} {w : World} (h : wpList P ops Q (x :: l) a w) : wpList P ops Q (List.append [x] l) a w := h
theorem vs4 {vs : List Value} (h : vs.length = 4) : ∃ a b c d, vs = [a, b, c, d] := by
  match vs, h with
  | [a, b, c, d], _ => exact ⟨a, b, c, d, rfl⟩

set_option maxHeartbeats 3000000 in
set_option maxRecDepth 100000 in
theorem known15 (w : World) (hF0 : First w) : Calls Tryd.prog 15 #[] w fun e w' => e = .returned (.bool true) ∧ Kept [] w w' := by
  have hpos := hF0.pos
  have F0 := hide hF0
  clear hF0
  go_enter Tryd.func15, Tryd.ntmps15
  have KK0 := hide (Kept.refl [] w)
  go_wp2_with (
    first
    | (refine wpBuildP (by rfl) _ (by rfl) #[(0, .int .i64 1), (1, .int .i64 2), (2, .int .i64 3), (3, .int .i64 4), (4, .int .i64 5)] (by kernel_rfl) (recC kr0) (build25k _) ?_)
    | (refine wpNew row25 (recC zrec) zrecl zero25 1 (by rfl) (by rfl) (by rfl) (.tmp 21) (by rfl) (by rfl) (by rfl) (recC kr0) kr0_l (recC_one _) (by kernel_rfl) (by kernel_rfl) ?_
       intro W1 b1 e1 B1 K1
       have Z1 : Hid (w.heap.size ≤ b1) := by have := (unhide KK0).size; show _ ≤ _; omega
       have X1_FF := hide ((unhide F0).kept K1)
       have KK1 := hide ((unhide KK0).trans K1)
       have X1_r := hide B1
       clear e1 B1 K1 F0 KK0)
    | (refine wpStore1 size5 (by rfl) (.tmp 23) (.const (.int .u8 120)) (by rfl) (by rfl) b1 5 .u8 120 25 (recC kr0) (by kernel_rfl) (by kernel_rfl) (unhide X1_r) (by kernel_rfl) ?_
       intro W2 B2 K2
       have X2_r : Hid (Blk W2 b1 25 (recC kr)) := by rw [set_r] at B2; exact B2
       have X2_FF := hide ((unhide X1_FF).keptX K2 (by have := unhide Z1; simp; omega))
       have KK2 := hide ((unhide KK1).fresh K2 (by have := unhide Z1; intro i hi hl; simp at hi; omega))
       clear B2 K2 X1_FF KK1 X1_r)
    | (refine wpLoadA row25 (by rfl) (.tmp 1) (by rfl) b1 0 (by kernel_rfl) (recC kr) kr_l (unhide X2_r).range ?_)
    | (refine wpNew row25 (recC zrec) zrecl zero25 2 (by rfl) (by rfl) (by rfl) (.tmp 24) (by rfl) (by rfl) (by rfl) (recC kr) kr_l (recC_one _) (by kernel_rfl) (by kernel_rfl) ?_
       intro W3 b3 e3 B3 K3
       have Z3 : Hid (w.heap.size ≤ b3) := by have := (unhide KK2).size; show _ ≤ _; omega
       have O3_r : Hid (b1 < b3) := by have := (unhide X2_r).lt; show _ < _; omega
       have X3_FF := hide ((unhide X2_FF).kept K3)
       have X3_r := hide ((unhide X2_r).kept K3 (by simp))
       have KK3 := hide ((unhide KK2).trans K3)
       have X3_q := hide B3
       clear e3 B3 K3 X2_FF X2_r KK2)
    | (refine wpStore1 size2 (by rfl) (.tmp 25) (.const (.int .i64 4)) (by rfl) (by rfl) b3 2 .i64 4 25 (recC kr) (by kernel_rfl) (by kernel_rfl) (unhide X3_q) (by kernel_rfl) ?_
       intro W4 B4 K4
       have X4_q : Hid (Blk W4 b3 25 (recC kq)) := by rw [set_q] at B4; exact B4
       have X4_FF := hide ((unhide X3_FF).keptX K4 (by have := unhide Z3; simp; omega))
       have X4_r := hide ((unhide X3_r).kept K4 (by have := unhide O3_r; simp; omega))
       have KK4 := hide ((unhide KK3).fresh K4 (by have := unhide Z3; intro i hi hl; simp at hi; omega))
       clear B4 K4 X3_FF X3_r KK3 X3_q)
    | (refine wpLoadA row25 (by rfl) (.tmp 1) (by rfl) b1 0 (by kernel_rfl) (recC kr) kr_l (unhide X4_r).range ?_))
  refine (put_at kr_ok.bd put_r _).mono ?_
  rintro e W5 ⟨rfl, K5⟩
  have X5_FF := hide ((unhide X4_FF).kept K5)
  have X5_r := hide ((unhide X4_r).kept K5 (by simp))
  have X5_q := hide ((unhide X4_q).kept K5 (by simp))
  have KK5 := hide ((unhide KK4).trans K5)
  clear K5 X4_FF X4_r X4_q KK4
  go_wp2_with (
    first
    | (refine wpNew row30 (u8s (zs 128)) (zl 128) zero30 3 (by rfl) (by rfl) (by rfl) (.tmp 29) (by rfl) (by rfl) (by rfl) (u8s (kA0 ++ kA1)) (pair_len kA0_b kA1_b) (u8s_one _) (by kernel_rfl) (by kernel_rfl) ?_
       intro W6 b6 e6 B6 K6
       have Z6 : Hid (w.heap.size ≤ b6) := by have := (unhide KK5).size; show _ ≤ _; omega
       have O6_r : Hid (b1 < b6) := by have := (unhide X5_r).lt; show _ < _; omega
       have O6_q : Hid (b3 < b6) := by have := (unhide X5_q).lt; show _ < _; omega
       have X6_FF := hide ((unhide X5_FF).kept K6)
       have X6_r := hide ((unhide X5_r).kept K6 (by simp))
       have X6_q := hide ((unhide X5_q).kept K6 (by simp))
       have KK6 := hide ((unhide KK5).trans K6)
       have X6_s := hide B6
       clear e6 B6 K6 X5_FF X5_r X5_q KK5)
    | (refine wpLoadA row25 (by rfl) (.tmp 2) (by rfl) b3 0 (by kernel_rfl) (recC kq) kq_l (unhide X6_q).range ?_))
  refine (put_at kq_ok.bd put_q _).mono ?_
  rintro e W7 ⟨rfl, K7⟩
  have X7_FF := hide ((unhide X6_FF).kept K7)
  have X7_r := hide ((unhide X6_r).kept K7 (by simp))
  have X7_q := hide ((unhide X6_q).kept K7 (by simp))
  have X7_s := hide ((unhide X6_s).kept K7 (by simp))
  have KK7 := hide ((unhide KK6).trans K7)
  clear K7 X6_FF X6_r X6_q X6_s KK6
  go_wp2_with (
    first
    | (refine wpNew row30 (u8s (zs 128)) (zl 128) zero30 5 (by rfl) (by rfl) (by rfl) (.tmp 34) (by rfl) (by rfl) (by rfl) (u8s (kB0 ++ kB1)) (pair_len kB0_b kB1_b) (u8s_one _) (by kernel_rfl) (by kernel_rfl) ?_
       intro W8 b8 e8 B8 K8
       have Z8 : Hid (w.heap.size ≤ b8) := by have := (unhide KK7).size; show _ ≤ _; omega
       have O8_r : Hid (b1 < b8) := by have := (unhide X7_r).lt; show _ < _; omega
       have O8_q : Hid (b3 < b8) := by have := (unhide X7_q).lt; show _ < _; omega
       have O8_s : Hid (b6 < b8) := by have := (unhide X7_s).lt; show _ < _; omega
       have X8_FF := hide ((unhide X7_FF).kept K8)
       have X8_r := hide ((unhide X7_r).kept K8 (by simp))
       have X8_q := hide ((unhide X7_q).kept K8 (by simp))
       have X8_s := hide ((unhide X7_s).kept K8 (by simp))
       have KK8 := hide ((unhide KK7).trans K8)
       have X8_t := hide B8
       clear e8 B8 K8 X7_FF X7_r X7_q X7_s KK7)
    | (refine wpLoadA row29 (by rfl) (.tmp 37) (by rfl) b6 0 (by kernel_rfl) (u8s kA0) (sec_len kA0_b) (pair_l (unhide X8_s)) ?_)
    | (refine wpLoadA row29 (by rfl) (.tmp 39) (by rfl) b6 64 (by kernel_rfl) (u8s kA1) (sec_len kA1_b) (pair_r kA0_b.len (unhide X8_s)) ?_))
  refine (get_at kA0_b kA1_b get_x _).mono ?_
  rintro e W9 ⟨rfl, K9⟩
  have X9_FF := hide ((unhide X8_FF).kept K9)
  have X9_r := hide ((unhide X8_r).kept K9 (by simp))
  have X9_q := hide ((unhide X8_q).kept K9 (by simp))
  have X9_s := hide ((unhide X8_s).kept K9 (by simp))
  have X9_t := hide ((unhide X8_t).kept K9 (by simp))
  have KK9 := hide ((unhide KK8).trans K9)
  clear K9 X8_FF X8_r X8_q X8_s X8_t KK8
  go_wp2_with (
    first
    | (refine wpNew row25 (recC zrec) zrecl zero25 7 (by rfl) (by rfl) (by rfl) (.tmp 42) (by rfl) (by rfl) (by rfl) (recC kr) kr_l (recC_one _) (by kernel_rfl) (by kernel_rfl) ?_
       intro W10 b10 e10 B10 K10
       have Z10 : Hid (w.heap.size ≤ b10) := by have := (unhide KK9).size; show _ ≤ _; omega
       have O10_r : Hid (b1 < b10) := by have := (unhide X9_r).lt; show _ < _; omega
       have O10_q : Hid (b3 < b10) := by have := (unhide X9_q).lt; show _ < _; omega
       have O10_s : Hid (b6 < b10) := by have := (unhide X9_s).lt; show _ < _; omega
       have O10_t : Hid (b8 < b10) := by have := (unhide X9_t).lt; show _ < _; omega
       have X10_FF := hide ((unhide X9_FF).kept K10)
       have X10_r := hide ((unhide X9_r).kept K10 (by simp))
       have X10_q := hide ((unhide X9_q).kept K10 (by simp))
       have X10_s := hide ((unhide X9_s).kept K10 (by simp))
       have X10_t := hide ((unhide X9_t).kept K10 (by simp))
       have KK10 := hide ((unhide KK9).trans K10)
       have X10_x := hide B10
       clear e10 B10 K10 X9_FF X9_r X9_q X9_s X9_t KK9)
    | (refine wpLoadA row29 (by rfl) (.tmp 45) (by rfl) b6 0 (by kernel_rfl) (u8s kA0) (sec_len kA0_b) (pair_l (unhide X10_s)) ?_)
    | (refine wpLoadA row29 (by rfl) (.tmp 47) (by rfl) b8 64 (by kernel_rfl) (u8s kB1) (sec_len kB1_b) (pair_r kB0_b.len (unhide X10_t)) ?_))
  refine (get_at kA0_b kB1_b get_h _).mono ?_
  rintro e W11 ⟨rfl, K11⟩
  have X11_FF := hide ((unhide X10_FF).kept K11)
  have X11_r := hide ((unhide X10_r).kept K11 (by simp))
  have X11_q := hide ((unhide X10_q).kept K11 (by simp))
  have X11_s := hide ((unhide X10_s).kept K11 (by simp))
  have X11_x := hide ((unhide X10_x).kept K11 (by simp))
  have KK11 := hide ((unhide KK10).trans K11)
  clear K11 X10_FF X10_r X10_q X10_s X10_t X10_x KK10
  go_wp2_with (
    first
    | (refine wpNew row25 (recC zrec) zrecl zero25 9 (by rfl) (by rfl) (by rfl) (.tmp 50) (by rfl) (by rfl) (by rfl) (recC zrec) zrecl (recC_one _) (by kernel_rfl) (by kernel_rfl) ?_
       intro W12 b12 e12 B12 K12
       have Z12 : Hid (w.heap.size ≤ b12) := by have := (unhide KK11).size; show _ ≤ _; omega
       have X12_FF := hide ((unhide X11_FF).kept K12)
       have X12_r := hide ((unhide X11_r).kept K12 (by simp))
       have X12_q := hide ((unhide X11_q).kept K12 (by simp))
       have X12_s := hide ((unhide X11_s).kept K12 (by simp))
       have X12_x := hide ((unhide X11_x).kept K12 (by simp))
       have KK12 := hide ((unhide KK11).trans K12)
       clear e12 B12 K12 X11_FF X11_r X11_q X11_s X11_x KK11)
    | (refine wpBuildZ (u8s (zs 64)) build29 (by rfl) (by rfl) ?_))
  refine (get_at (zs_byts 64) (zs_byts 64) get_i _).mono ?_
  rintro e W13 ⟨rfl, K13⟩
  have X13_FF := hide ((unhide X12_FF).kept K13)
  have X13_r := hide ((unhide X12_r).kept K13 (by simp))
  have X13_q := hide ((unhide X12_q).kept K13 (by simp))
  have X13_s := hide ((unhide X12_s).kept K13 (by simp))
  have X13_x := hide ((unhide X12_x).kept K13 (by simp))
  have KK13 := hide ((unhide KK12).trans K13)
  clear K13 X12_FF X12_r X12_q X12_s X12_x KK12
  go_wp2_with (
    first
    | (refine wpNew row25 (recC zrec) zrecl zero25 11 (by rfl) (by rfl) (by rfl) (.tmp 56) (by rfl) (by rfl) (by rfl) (recC zrec) zrecl (recC_one _) (by kernel_rfl) (by kernel_rfl) ?_
       intro W14 b14 e14 B14 K14
       have Z14 : Hid (w.heap.size ≤ b14) := by have := (unhide KK13).size; show _ ≤ _; omega
       have X14_FF := hide ((unhide X13_FF).kept K14)
       have X14_r := hide ((unhide X13_r).kept K14 (by simp))
       have X14_q := hide ((unhide X13_q).kept K14 (by simp))
       have X14_s := hide ((unhide X13_s).kept K14 (by simp))
       have X14_x := hide ((unhide X13_x).kept K14 (by simp))
       have KK14 := hide ((unhide KK13).trans K14)
       clear e14 B14 K14 X13_FF X13_r X13_q X13_s X13_x KK13))
  refine (take_at (zs_byts 64) take_k _ (unhide X14_FF)).mono ?_
  rintro e W15 ⟨rfl, K15⟩
  have X15_FF := hide ((unhide X14_FF).kept K15)
  have X15_r := hide ((unhide X14_r).kept K15 (by simp))
  have X15_q := hide ((unhide X14_q).kept K15 (by simp))
  have X15_s := hide ((unhide X14_s).kept K15 (by simp))
  have X15_x := hide ((unhide X14_x).kept K15 (by simp))
  have KK15 := hide ((unhide KK14).trans K15)
  clear K15 X14_FF X14_r X14_q X14_s X14_x KK14
  go_wp2_with (
    first
    | (refine wpNew row27 (hdC 0 0) (by rfl) zero27 13 (by rfl) (by rfl) (by rfl) (.tmp 61) (by rfl) (by rfl) (by rfl) (hdC 1 0) (by rfl) (hdC_one _ _) (by kernel_rfl) (by kernel_rfl) ?_
       intro W16 b16 e16 B16 K16
       have Z16 : Hid (w.heap.size ≤ b16) := by have := (unhide KK15).size; show _ ≤ _; omega
       have O16_r : Hid (b1 < b16) := by have := (unhide X15_r).lt; show _ < _; omega
       have O16_q : Hid (b3 < b16) := by have := (unhide X15_q).lt; show _ < _; omega
       have O16_s : Hid (b6 < b16) := by have := (unhide X15_s).lt; show _ < _; omega
       have O16_x : Hid (b10 < b16) := by have := (unhide X15_x).lt; show _ < _; omega
       have X16_FF := hide ((unhide X15_FF).kept K16)
       have X16_r := hide ((unhide X15_r).kept K16 (by simp))
       have X16_q := hide ((unhide X15_q).kept K16 (by simp))
       have X16_s := hide ((unhide X15_s).kept K16 (by simp))
       have X16_x := hide ((unhide X15_x).kept K16 (by simp))
       have KK16 := hide ((unhide KK15).trans K16)
       have X16_k := hide B16
       clear e16 B16 K16 X15_FF X15_r X15_q X15_s X15_x KK15)
    | (refine wpBuildP (by rfl) _ (by rfl) #[(0, .int .i64 2)] (by kernel_rfl) (hdC 2 0) (build27a _ _) ?_))
  refine (puth_at puth_l _ (unhide X16_FF)).mono ?_
  rintro e W17 ⟨rfl, K17⟩
  have X17_FF := hide ((unhide X16_FF).kept K17)
  have X17_r := hide ((unhide X16_r).kept K17 (by simp))
  have X17_q := hide ((unhide X16_q).kept K17 (by simp))
  have X17_s := hide ((unhide X16_s).kept K17 (by simp))
  have X17_x := hide ((unhide X16_x).kept K17 (by simp))
  have X17_k := hide ((unhide X16_k).kept K17 (by simp))
  have KK17 := hide ((unhide KK16).trans K17)
  clear K17 X16_FF X16_r X16_q X16_s X16_x X16_k KK16
  go_wp2_with (
    first
    | (refine wpNew row29 (u8s (zs 64)) (zl 64) zero29 15 (by rfl) (by rfl) (by rfl) (.tmp 66) (by rfl) (by rfl) (by rfl) (u8s (zs 64)) (zl 64) (u8s_one _) (by kernel_rfl) (by kernel_rfl) ?_
       intro W18 b18 e18 B18 K18
       have Z18 : Hid (w.heap.size ≤ b18) := by have := (unhide KK17).size; show _ ≤ _; omega
       have X18_FF := hide ((unhide X17_FF).kept K18)
       have X18_r := hide ((unhide X17_r).kept K18 (by simp))
       have X18_q := hide ((unhide X17_q).kept K18 (by simp))
       have X18_s := hide ((unhide X17_s).kept K18 (by simp))
       have X18_x := hide ((unhide X17_x).kept K18 (by simp))
       have X18_k := hide ((unhide X17_k).kept K18 (by simp))
       have KK18 := hide ((unhide KK17).trans K18)
       clear e18 B18 K18 X17_FF X17_r X17_q X17_s X17_x X17_k KK17)
    | (refine wpBuildP (by rfl) _ (by rfl) #[(0, .int .u8 179)] (by kernel_rfl) (u8s k179) (build29a _) ?_))
  refine (take_at k179_b take_m _ (unhide X18_FF)).mono ?_
  rintro e W19 ⟨rfl, K19⟩
  have X19_FF := hide ((unhide X18_FF).kept K19)
  have X19_r := hide ((unhide X18_r).kept K19 (by simp))
  have X19_q := hide ((unhide X18_q).kept K19 (by simp))
  have X19_s := hide ((unhide X18_s).kept K19 (by simp))
  have X19_x := hide ((unhide X18_x).kept K19 (by simp))
  have X19_k := hide ((unhide X18_k).kept K19 (by simp))
  have KK19 := hide ((unhide KK18).trans K19)
  clear K19 X18_FF X18_r X18_q X18_s X18_x X18_k KK18
  go_wp2_with (
    first
    | (refine wpNew row27 (hdC 0 0) (by rfl) zero27 17 (by rfl) (by rfl) (by rfl) (.tmp 71) (by rfl) (by rfl) (by rfl) (hdC 0 0) (by rfl) (hdC_one _ _) (by kernel_rfl) (by kernel_rfl) ?_
       intro W20 b20 e20 B20 K20
       have Z20 : Hid (w.heap.size ≤ b20) := by have := (unhide KK19).size; show _ ≤ _; omega
       have X20_FF := hide ((unhide X19_FF).kept K20)
       have X20_r := hide ((unhide X19_r).kept K20 (by simp))
       have X20_q := hide ((unhide X19_q).kept K20 (by simp))
       have X20_s := hide ((unhide X19_s).kept K20 (by simp))
       have X20_x := hide ((unhide X19_x).kept K20 (by simp))
       have X20_k := hide ((unhide X19_k).kept K20 (by simp))
       have KK20 := hide ((unhide KK19).trans K20)
       clear e20 B20 K20 X19_FF X19_r X19_q X19_s X19_x X19_k KK19))
  refine wp_two _ _ _ _ _ _ rfl (by kernel_rfl) 2 73 74 19 20 rfl rfl rfl rfl rfl rfl rfl rfl rfl rfl rfl rfl (by kernel_rfl) (by kernel_rfl) (by kernel_rfl) (by kernel_rfl) (by kernel_rfl) mixed b3 kq (by kernel_rfl) (unhide X20_q) kq_l ?_
  · intro bo bp w3 hne hq4 hq5 hb4 hb5 hk
    simp only [Act.put, List.setIfInBounds_toArray, List.set_cons_succ, List.set_cons_zero]
    have hsz := (unhide KK20).size
    have L_r := (unhide X20_r).lt
    have Y_r : Hid (Blk w3 b1 25 (recC kr)) := (unhide X20_r).kept hk (by simp)
    have Po_r : Hid (b1 < bo) := by show _ < _; omega
    have Pp_r : Hid (b1 < bp) := by show _ < _; omega
    have L_q := (unhide X20_q).lt
    have Y_q : Hid (Blk w3 b3 25 (recC kq)) := (unhide X20_q).kept hk (by simp)
    have Po_q : Hid (b3 < bo) := by show _ < _; omega
    have Pp_q : Hid (b3 < bp) := by show _ < _; omega
    have L_s := (unhide X20_s).lt
    have Y_s : Hid (Blk w3 b6 30 (u8s (kA0 ++ kA1))) := (unhide X20_s).kept hk (by simp)
    have Po_s : Hid (b6 < bo) := by show _ < _; omega
    have Pp_s : Hid (b6 < bp) := by show _ < _; omega
    have L_x := (unhide X20_x).lt
    have Y_x : Hid (Blk w3 b10 25 (recC kr)) := (unhide X20_x).kept hk (by simp)
    have Po_x : Hid (b10 < bo) := by show _ < _; omega
    have Pp_x : Hid (b10 < bp) := by show _ < _; omega
    have L_k := (unhide X20_k).lt
    have Y_k : Hid (Blk w3 b16 27 (hdC 1 0)) := (unhide X20_k).kept hk (by simp)
    have Po_k : Hid (b16 < bo) := by show _ < _; omega
    have Pp_k : Hid (b16 < bp) := by show _ < _; omega
    have Y_o : Hid (Blk w3 bo 25 (recC kq)) := hb4
    have Y_p : Hid (Blk w3 bp 25 (recC kq)) := hb5
    have Zo : Hid (w.heap.size ≤ bo) := by show _ ≤ _; omega
    have Zp : Hid (w.heap.size ≤ bp) := by show _ ≤ _; omega
    have Y_FF : Hid (First w3) := (unhide X20_FF).kept hk
    have YK : Hid (Kept [] w w3) := (unhide KK20).trans hk
    have Ho : Hid (bo ≠ bp) := hne
    clear hk hb4 hb5 hq4 hq5 hsz hne L_r L_q L_s L_x L_k X20_r X20_q X20_s X20_x X20_k X20_FF KK20
    go_wp2_with (
      first
      | (refine wpStore1 size2 (by rfl) (.tmp 75) (.const (.int .i64 6)) (by rfl) (by rfl) bo 2 .i64 6 25 (recC kq) (by kernel_rfl) (by kernel_rfl) (unhide Y_o) (by kernel_rfl) ?_
         intro W21 B21 K21
         have X21_o : Hid (Blk W21 bo 25 (recC ko)) := by rw [set_o] at B21; exact B21
         have X21_FF := hide ((unhide Y_FF).keptX K21 (by have := unhide Zo; simp; omega))
         have X21_r := hide ((unhide Y_r).kept K21 (by have := unhide Po_r; simp; omega))
         have X21_q := hide ((unhide Y_q).kept K21 (by have := unhide Po_q; simp; omega))
         have X21_s := hide ((unhide Y_s).kept K21 (by have := unhide Po_s; simp; omega))
         have X21_x := hide ((unhide Y_x).kept K21 (by have := unhide Po_x; simp; omega))
         have X21_k := hide ((unhide Y_k).kept K21 (by have := unhide Po_k; simp; omega))
         have X21_p := hide ((unhide Y_p).kept K21 (by have := unhide Ho; simp; omega))
         have KK21 := hide ((unhide YK).fresh K21 (by have := unhide Zo; intro i hi hl; simp at hi; omega))
         clear B21 K21 Y_FF Y_r Y_q Y_s Y_x Y_k Y_p YK Y_o)
      | (refine wpStore1 size2 (by rfl) (.tmp 76) (.const (.int .i64 1)) (by rfl) (by rfl) bp 1 .i64 1 25 (recC kq) (by kernel_rfl) (by kernel_rfl) (unhide X21_p) (by kernel_rfl) ?_
         intro W22 B22 K22
         have X22_p : Hid (Blk W22 bp 25 (recC kp)) := by rw [set_p] at B22; exact B22
         have X22_FF := hide ((unhide X21_FF).keptX K22 (by have := unhide Zp; simp; omega))
         have X22_r := hide ((unhide X21_r).kept K22 (by have := unhide Pp_r; simp; omega))
         have X22_q := hide ((unhide X21_q).kept K22 (by have := unhide Pp_q; simp; omega))
         have X22_s := hide ((unhide X21_s).kept K22 (by have := unhide Pp_s; simp; omega))
         have X22_x := hide ((unhide X21_x).kept K22 (by have := unhide Pp_x; simp; omega))
         have X22_k := hide ((unhide X21_k).kept K22 (by have := unhide Pp_k; simp; omega))
         have X22_o := hide ((unhide X21_o).kept K22 (by have := unhide Ho; simp; omega))
         have KK22 := hide ((unhide KK21).fresh K22 (by have := unhide Zp; intro i hi hl; simp at hi; omega))
         have c0 := fits_cell (unhide X22_s) 0 (.int .u8 177) (by kernel_rfl)
         have c1 := fits_cell (unhide X22_s) 1 (.int .u8 20) (by kernel_rfl)
         have c5 := fits_cell (unhide X22_s) 5 (.int .u8 2) (by kernel_rfl)
         have c9 := fits_cell (unhide X22_s) 9 (.int .u8 3) (by kernel_rfl)
         have c13 := fits_cell (unhide X22_s) 13 (.int .u8 5) (by kernel_rfl)
         have c14 := fits_cell (unhide X22_s) 14 (.int .u8 120) (by kernel_rfl)
         clear B22 K22 X21_FF X21_r X21_q X21_s X21_x X21_k X21_o KK21 X21_p)
      | (go_at_call 11
         refine (num11 _ _).mono ?_
         rintro e We ⟨rfl, rfl⟩))
    refine wpList_app ?_
    go_wp2_with (
      first
      | (refine wpLoadG row25 (.tmp 7) (by rfl) (by kernel_rfl) b10 0 (by kernel_rfl) (recC kr) kr_l (unhide X22_x).range ?_)
      | (refine wpLoadG row25 (.tmp 1) (by rfl) (by kernel_rfl) b1 0 (by kernel_rfl) (recC kr) kr_l (unhide X22_r).range ?_)
      | (go_at_call 11
         refine (num11 _ _).mono ?_
         rintro e We ⟨rfl, rfl⟩)
      | (refine wpEqlG 25 25 guard25 (.tmp 126) (.tmp 127) (by rfl) (by kernel_rfl) (recC kr) (recC kr) (by kernel_rfl) (by kernel_rfl) true ((equal25 _ _ _ kr_ok.bd.len kr_ok.bd.len).trans (by rw [recEq_self])) ?_)
      | (refine wpLoadG row27 (.tmp 13) (by rfl) (by kernel_rfl) b16 0 (by kernel_rfl) (hdC 1 0) (by rfl) (unhide X22_k).range ?_)
      | (refine wpBuildG _ (by rfl) (by kernel_rfl) #[(0, .int .i64 1)] (by kernel_rfl) (hdC 1 0) (build27a _ _) ?_)
      | (refine wpEqlG 27 27 guard27 (.tmp 141) (.tmp 142) (by rfl) (by kernel_rfl) (hdC 1 0) (hdC 1 0) (by kernel_rfl) (by kernel_rfl) true (equal27 _ _ _ _ _) ?_)
      | (refine wpLoadG row25 (.tmp 2) (by rfl) (by kernel_rfl) b3 0 (by kernel_rfl) (recC kq) kq_l (unhide X22_q).range ?_)
      | (refine wpLoadG row25 (.tmp 19) (by rfl) (by kernel_rfl) bo 0 (by kernel_rfl) (recC ko) ko_l (unhide X22_o).range ?_)
      | (refine wpBSlice 3 _ (by rfl) (by kernel_rfl) #[(0, aggV (recC kr)), (1, aggV (recC kq)), (2, aggV (recC ko))] (by kernel_rfl) (recsC [kr, kq, ko]) bs1 ?_
         intro W23 g23 B23 K23
         have X23_FF := hide ((unhide X22_FF).kept K23)
         have X23_r := hide ((unhide X22_r).kept K23 (by simp))
         have X23_q := hide ((unhide X22_q).kept K23 (by simp))
         have X23_s := hide ((unhide X22_s).kept K23 (by simp))
         have X23_x := hide ((unhide X22_x).kept K23 (by simp))
         have X23_k := hide ((unhide X22_k).kept K23 (by simp))
         have X23_o := hide ((unhide X22_o).kept K23 (by simp))
         have X23_p := hide ((unhide X22_p).kept K23 (by simp))
         have KK23 := hide ((unhide KK22).trans K23)
         have G23 := hide B23
         clear B23 K23 c0 c1 c5 c9 c13 c14 X22_FF X22_r X22_q X22_s X22_x X22_k X22_o X22_p KK22))
    refine (run_at ok3 (by rfl) (by omega) run_1 _ g23 3 (unhide G23)).mono ?_
    rintro e W24 ⟨rfl, K24⟩
    have X24_FF := hide ((unhide X23_FF).kept K24)
    have X24_r := hide ((unhide X23_r).kept K24 (by simp))
    have X24_q := hide ((unhide X23_q).kept K24 (by simp))
    have X24_s := hide ((unhide X23_s).kept K24 (by simp))
    have X24_x := hide ((unhide X23_x).kept K24 (by simp))
    have X24_k := hide ((unhide X23_k).kept K24 (by simp))
    have X24_o := hide ((unhide X23_o).kept K24 (by simp))
    have X24_p := hide ((unhide X23_p).kept K24 (by simp))
    have KK24 := hide ((unhide KK23).trans K24)
    clear K24 X23_FF X23_r X23_q X23_s X23_x X23_k X23_o X23_p KK23
    go_wp2_with (
      first
      | (refine wpLoadG row25 (.tmp 2) (by rfl) (by kernel_rfl) b3 0 (by kernel_rfl) (recC kq) kq_l (unhide X24_q).range ?_)
      | (refine wpBSlice 1 _ (by rfl) (by kernel_rfl) #[(0, aggV (recC kq))] (by kernel_rfl) (recsC [kq]) bs2 ?_
         intro W25 g25 B25 K25
         have X25_FF := hide ((unhide X24_FF).kept K25)
         have X25_r := hide ((unhide X24_r).kept K25 (by simp))
         have X25_q := hide ((unhide X24_q).kept K25 (by simp))
         have X25_s := hide ((unhide X24_s).kept K25 (by simp))
         have X25_x := hide ((unhide X24_x).kept K25 (by simp))
         have X25_k := hide ((unhide X24_k).kept K25 (by simp))
         have X25_o := hide ((unhide X24_o).kept K25 (by simp))
         have X25_p := hide ((unhide X24_p).kept K25 (by simp))
         have KK25 := hide ((unhide KK24).trans K25)
         have G25 := hide B25
         clear B25 K25 X24_FF X24_r X24_q X24_s X24_x X24_k X24_o X24_p KK24))
    refine (run_at ok1 (by rfl) (by omega) run_2 _ g25 1 (unhide G25)).mono ?_
    rintro e W26 ⟨rfl, K26⟩
    have X26_FF := hide ((unhide X25_FF).kept K26)
    have X26_r := hide ((unhide X25_r).kept K26 (by simp))
    have X26_q := hide ((unhide X25_q).kept K26 (by simp))
    have X26_s := hide ((unhide X25_s).kept K26 (by simp))
    have X26_x := hide ((unhide X25_x).kept K26 (by simp))
    have X26_k := hide ((unhide X25_k).kept K26 (by simp))
    have X26_o := hide ((unhide X25_o).kept K26 (by simp))
    have X26_p := hide ((unhide X25_p).kept K26 (by simp))
    have KK26 := hide ((unhide KK25).trans K26)
    clear K26 X25_FF X25_r X25_q X25_s X25_x X25_k X25_o X25_p KK25
    go_wp2_with (
      first
      | (refine wpLoadG row25 (.tmp 1) (by rfl) (by kernel_rfl) b1 0 (by kernel_rfl) (recC kr) kr_l (unhide X26_r).range ?_)
      | (refine wpLoadG row25 (.tmp 20) (by rfl) (by kernel_rfl) bp 0 (by kernel_rfl) (recC kp) kp_l (unhide X26_p).range ?_)
      | (refine wpBSlice 2 _ (by rfl) (by kernel_rfl) #[(0, aggV (recC kr)), (1, aggV (recC kp))] (by kernel_rfl) (recsC [kr, kp]) bs3 ?_
         intro W27 g27 B27 K27
         have X27_FF := hide ((unhide X26_FF).kept K27)
         have X27_r := hide ((unhide X26_r).kept K27 (by simp))
         have X27_q := hide ((unhide X26_q).kept K27 (by simp))
         have X27_s := hide ((unhide X26_s).kept K27 (by simp))
         have X27_x := hide ((unhide X26_x).kept K27 (by simp))
         have X27_k := hide ((unhide X26_k).kept K27 (by simp))
         have X27_o := hide ((unhide X26_o).kept K27 (by simp))
         have X27_p := hide ((unhide X26_p).kept K27 (by simp))
         have KK27 := hide ((unhide KK26).trans K27)
         have G27 := hide B27
         clear B27 K27 X26_FF X26_r X26_q X26_s X26_x X26_k X26_o X26_p KK26))
    refine (run_at ok2 (by rfl) (by omega) run_3 _ g27 2 (unhide G27)).mono ?_
    rintro e W28 ⟨rfl, K28⟩
    have X28_FF := hide ((unhide X27_FF).kept K28)
    have X28_r := hide ((unhide X27_r).kept K28 (by simp))
    have X28_q := hide ((unhide X27_q).kept K28 (by simp))
    have X28_s := hide ((unhide X27_s).kept K28 (by simp))
    have X28_x := hide ((unhide X27_x).kept K28 (by simp))
    have X28_k := hide ((unhide X27_k).kept K28 (by simp))
    have X28_o := hide ((unhide X27_o).kept K28 (by simp))
    have X28_p := hide ((unhide X27_p).kept K28 (by simp))
    have KK28 := hide ((unhide KK27).trans K28)
    clear K28 X27_FF X27_r X27_q X27_s X27_x X27_k X27_o X27_p KK27
    go_wp2_with fail
    go_ret
    exact ⟨rfl, unhide KK28⟩

end Go.Proofs.YtkpkiibahfdomaaDoor
