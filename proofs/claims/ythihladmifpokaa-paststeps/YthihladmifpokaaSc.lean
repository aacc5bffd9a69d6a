/-
  The law on the bound.
-/
import Derived.Test.YthihladmifpokaaSb
import Derived.Deep.CutBlock
namespace Go.Proofs.Ythihladmifpokaa
set_option maxRecDepth 100000
set_option linter.unusedSimpArgs false
open Go.RowKit

theorem cg17 (vs : Array Value) (w : World) : (callFunc 17 vs).run Try.prog w = .ok (.enter 17 vs) w := by kernel_rfl
section
variable {ops : Array Oper} {rest : List Oper} {op o : Oper} {a : Act} {w : World} {K : Act → World → Prop} {Q : Exit → Act → World → Prop}
theorem o_fld34_0 (x : Operand) (ho : o.op = .fieldAddr 34 x 0) (b i j : Nat) (hj : i = j) (hx : a.eval x = .pointer (some ⟨b, i, none⟩)) (h : K (a.put o.dst (.pointer (some ⟨b, j, none⟩))) w) : o.wp Try.prog a w K Q := by
  subst hj
  unfold Oper.wp execOp
  simp only [ho, hx]
  simp [go_sem]
  exact h
theorem o_fld34_1 (x : Operand) (ho : o.op = .fieldAddr 34 x 1) (b i j : Nat) (hj : i + 1 = j) (hx : a.eval x = .pointer (some ⟨b, i, none⟩)) (h : K (a.put o.dst (.pointer (some ⟨b, j, none⟩))) w) : o.wp Try.prog a w K Q := by
  subst hj
  unfold Oper.wp execOp
  simp only [ho, hx]
  simp [go_sem]
  exact h
theorem o_fld34_2 (x : Operand) (ho : o.op = .fieldAddr 34 x 2) (b i j : Nat) (hj : i + 2 = j) (hx : a.eval x = .pointer (some ⟨b, i, none⟩)) (h : K (a.put o.dst (.pointer (some ⟨b, j, none⟩))) w) : o.wp Try.prog a w K Q := by
  subst hj
  unfold Oper.wp execOp
  simp only [ho, hx]
  simp [go_sem]
  exact h
theorem o_fld34_3 (x : Operand) (ho : o.op = .fieldAddr 34 x 3) (b i j : Nat) (hj : i + 3 = j) (hx : a.eval x = .pointer (some ⟨b, i, none⟩)) (h : K (a.put o.dst (.pointer (some ⟨b, j, none⟩))) w) : o.wp Try.prog a w K Q := by
  subst hj
  unfold Oper.wp execOp
  simp only [ho, hx]
  simp [go_sem]
  exact h
end
variable {w W : World} {b mb : Nat} {M : List Mk} {n : Int}
set_option maxHeartbeats 16000000 in
theorem bound5 (n : Int) (ao : Option Addr) (cc : Nat) (X : List Se) (w : World) (hX : RowS Se.C 4 w ao X) : Calls Try.prog 5 #[.slice ao X.length cc, .int .i64 n] w fun e W => e = .returned (.bool true) ∧ Kept [] w W := by
  have HX := hide hX
  clear hX
  go_enter Try.func5, Try.ntmps5
  go_wp2_with (
    first
    | (go_at_call 7
       refine (known7 _).mono ?_
       rintro e W0 ⟨rfl, K0⟩
       have HK0 := hide K0
       clear K0
       refine Stp.go ?_))
  constructor
  go_wp2_with (
    first
    | (go_at_call 8
       refine (new8 _).mono ?_
       rintro e W1 ⟨b, mb, rfl, h1, h2, h3, h4⟩
       have HP := hide h1
       have HG : Hid (w.heap.size ≤ b ∧ w.heap.size ≤ mb) := ⟨Nat.le_trans (unhide HK0).size h3, Nat.le_trans (unhide HK0).size h4⟩
       have HK := hide ((unhide HK0).trans h2)
       clear h1 h2 h3 h4 HK0
       refine Stp.go ?_))
  constructor
  go_upto_block 0 with fail
  go_cut [6, 7] from 17 to 84 (fun x6 x7 wc => ∃ M : List Mk, Hid (Pg wc b mb M) ∧ Hid (Kept [] w wc))
  case first =>
    go_wp2_with fail
    go_loopw [6, 7] (fun x6 x7 wr => ∃ (k : Nat) (M : List Mk), k ≤ 200 ∧ k ≤ X.length ∧ x7 = .int .i64 k ∧ x6 = .int .i64 (bd n M) ∧ Hid (Pg wr b mb M) ∧ Hid (Kept [] w wr)) (fun x6 x7 _ => 200 - (intOf x7).toNat)
    case atStart => exact ⟨0, [], by omega, by omega, rfl, rfl, HP, HK⟩
    case round =>
      clear HP HK
      obtain ⟨k, M, hk, hkX, rfl, rfl, HP, HK⟩ := hrel
      obtain ⟨u, hu⟩ : ∃ v, bd n M = v := ⟨_, rfl⟩
      rw [hu]
      have HU := hide hu
      clear hu
      by_cases hkl : k < X.length
      · have hd : decide ((k : Int) < (X.length : Int)) = true := by simp; omega
        by_cases hk2 : k < 200
        · have hkI : (k : Int) < 200 := by omega
          have hd2 : decide ((k : Int) < 200) = true := by simpa using hkI
          obtain ⟨x, hx⟩ : ∃ x, X[k]? = some x := ⟨_, List.getElem?_eq_getElem hkl⟩
          have HXK := hide hx
          clear hx
          by_cases e1 : x.k = 1
          · have q1 : decide (x.k = 1) = true := by simpa using e1
            have q2 : (x.k == 1) = true := by simpa using e1
            clear e1
            obtain ⟨bm, hbm⟩ : ∃ v, bd n (markP x.p x.a x.b M).2 = v := ⟨_, rfl⟩
            have HBM := hide hbm
            have d9 : decide (bm > n) = false := by have := bd_n (n := n) (M := (markP x.p x.a x.b M).2); rw [hbm] at this; simpa using this
            have HLS : Hid (decide (bm > u) = false) := by
              have h9 := bd_mark (n := n) (p := x.p) (s := x.a) (f := x.b) (M := M)
              rw [hbm, unhide HU] at h9
              show _ = _
              simpa using h9
            have d8 : decide (bm > u) = false := unhide HLS
            obtain ⟨r1, hr1⟩ : ∃ v, (markP x.p x.a x.b M).1 = v := ⟨_, rfl⟩
            have HR1 := hide hr1
            by_cases hz : r1 = 0
            · have HE : Hid (r1 = 0) := hz
              have HB1 : Hid (bm ≤ x.b) := by show _ ≤ _; rw [← hbm]; exact bd_put (hr1.trans hz)
              have HHP : Hid ((markP x.p x.a x.b M).2.any (ofP x.p) = true) := has_put (hr1.trans hz)
              clear hz hbm hr1
              go_wp2_with (
                first
                | (refine wpIdx22 rfl (.tmp 27) (.tmp 28) rfl ao cc X k x rfl rfl ((unhide HX).kept (unhide HK)) (unhide HXK) ?_
                   intro g o' hr
                   have HR := hide hr
                   clear hr
                   refine Stp.go ?_))
              constructor
              go_wp2_with (
                first
                | (refine wpLoadA row34 rfl (.tmp 29) rfl g o' rfl x.C rfl (unhide HR) ?_
                   refine Stp.go ?_))
              constructor
              go_wp2_with (
                first
                | (refine wpNew row34 se0.C rfl zero34 8 rfl rfl rfl (.tmp 30) rfl rfl rfl x.C rfl x.one rfl rfl ?_
                   intro V1 y e2 B2 h3
                   have HY := hide B2
                   have HNY : Hid (y ≠ mb) := by obtain ⟨_, _, h9, _⟩ := (unhide HP).map; have := (Array.getElem?_eq_some_iff.1 h9).1; show _ ≠ _; omega
                   replace HP := hide ((unhide HP).step h3 (by simp) (by simp))
                   replace HK := hide ((unhide HK).trans h3)
                   have c0 := fits_cell B2 0 _ rfl
                   have c1 := fits_cell B2 1 _ rfl
                   have c2 := fits_cell B2 2 _ rfl
                   have c3 := fits_cell B2 3 _ rfl
                   clear e2 B2 h3 HR
                   refine Stp.go ?_))
              constructor
              go_wp2_with (
                first
                | (go_at_call 13
                   refine (mark13 (unhide HP)).mono ?_
                   rw [show (markP x.p x.a x.b M).1 = r1 from unhide HR1]
                   rintro e V2 ⟨rfl, h2, h3⟩
                   replace HP := hide h2
                   replace HY := hide ((unhide HY).kept h3 (by simpa using unhide HNY))
                   replace HK := hide ((unhide HK).own h3 (by simp; exact (unhide HG).2))
                   clear h2 h3 c0 c1 c2 c3
                   refine Stp.go ?_))
              constructor
              go_upto_region 14 with fail
              refine wp_region_any mixed (wpAny_tq 18 rfl (by kernel_rfl) [some (.int .i64 r1), some (.int .i64 r1), some (.bool true), some (.bool true), some (P0 b), some (.int .i64 n), some (.int .i64 bm), some (.pointer (some ⟨y, 3, none⟩)), some (.int .i64 x.b), some (.bool false), some (.bool false), some (P0 b), some (.pointer (some ⟨y, 1, none⟩)), some (.int .i64 x.p), some (.bool true), some (.bool false), some (.bool false), some (.bool false)] rfl (by kernel_rfl) (by kernel_rfl) ?_ ?_)
              · intro i o' hi hsk ho a' w2 hout hin hk2
                replace hk2 : Kept [] V2 w2 := ⟨hk2.os, hk2.tape, hk2.output, hk2.size, hk2.block⟩
                match i, ho, hsk with
                | 0, ho, hsk =>
                  obtain rfl := Option.some.inj ho
                  exact wp_move (.tmp 9) rfl _ ((hout 9 (by kernel_rfl)).trans rfl) ⟨_, rfl, tq_is _ _ _ _ rfl, Kept.refl _ _, fun _ _ _ _ _ => trivial⟩
                | 1, ho, hsk =>
                  obtain rfl := Option.some.inj ho
                  have e0 : a'.eval (.tmp 43) = .int .i64 r1 := is_tq (hin 0 43 (by kernel_rfl) (by kernel_rfl)) rfl
                  refine wp_callF 14 _ _ rfl #[.int .i64 r1] (by simp [e0]) (cg14 _ _) ((num14 _ _).mono ?_)
                  rintro e w3 ⟨rfl, rfl⟩
                  exact ⟨_, rfl, _, rfl, tq_is _ _ _ _ rfl, Kept.refl _ _, fun _ _ _ _ _ => trivial⟩
                | 2, ho, hsk =>
                  obtain rfl := Option.some.inj ho
                  have e0 : a'.eval (.tmp 44) = .int .i64 r1 := is_tq (hin 1 44 (by kernel_rfl) (by kernel_rfl)) rfl
                  exact c_eql3 (.tmp 44) (.const (.int .i64 (0))) rfl _ _ (true) (by have := unhide HE; simpa using this) e0 rfl ⟨_, rfl, tq_is _ _ _ _ rfl, Kept.refl _ _, fun _ _ _ _ _ => trivial⟩
                | 3, ho, hsk =>
                  obtain rfl := Option.some.inj ho
                  have e0 : a'.eval (.tmp 45) = .bool true := is_tq (hin 2 45 (by kernel_rfl) (by kernel_rfl)) rfl
                  exact wp_move (.tmp 45) rfl _ e0 ⟨_, rfl, tq_is _ _ _ _ rfl, Kept.refl _ _, fun _ _ _ _ _ => trivial⟩
                | 4, ho, hsk =>
                  obtain rfl := Option.some.inj ho
                  exact wp_move (.tmp 5) rfl _ ((hout 5 (by kernel_rfl)).trans rfl) ⟨_, rfl, tq_is _ _ _ _ rfl, Kept.refl _ _, fun _ _ _ _ _ => trivial⟩
                | 5, ho, hsk =>
                  obtain rfl := Option.some.inj ho
                  exact wp_move (.tmp 1) rfl _ ((hout 1 (by kernel_rfl)).trans rfl) ⟨_, rfl, tq_is _ _ _ _ rfl, Kept.refl _ _, fun _ _ _ _ _ => trivial⟩
                | 6, ho, hsk =>
                  obtain rfl := Option.some.inj ho
                  have e0 : a'.eval (.tmp 47) = P0 b := is_tq (hin 4 47 (by kernel_rfl) (by kernel_rfl)) rfl
                  have e1 : a'.eval (.tmp 48) = .int .i64 n := is_tq (hin 5 48 (by kernel_rfl) (by kernel_rfl)) rfl
                  refine wp_callF 15 _ _ rfl #[P0 b, .int .i64 n, .slice none 0 0] (by simp [e0, e1]; rfl) (cg15 _ _) ((bound15 (F := []) ((unhide HP).step hk2 (by simp) (by simp)) (Rw.nil _) n).mono ?_)
                  rw [show boundP n [] (markP x.p x.a x.b M).2 = bm from unhide HBM]
                  rintro e w3 ⟨rfl, hk3⟩
                  exact ⟨_, rfl, _, rfl, tq_is _ _ _ _ rfl, hk3, fun _ _ _ _ _ => trivial⟩
                | 7, ho, hsk =>
                  obtain rfl := Option.some.inj ho
                  exact o_fld34_3 (.tmp 8) rfl y (0) (3) rfl ((hout 8 (by kernel_rfl)).trans rfl) ⟨_, rfl, tq_is _ _ _ _ rfl, Kept.refl _ _, fun _ _ _ _ _ => trivial⟩
                | 8, ho, hsk =>
                  obtain rfl := Option.some.inj ho
                  have e0 : a'.eval (.tmp 50) = .pointer (some ⟨y, 3, none⟩) := is_tq (hin 7 50 (by kernel_rfl) (by kernel_rfl)) rfl
                  exact o_load2 (.tmp 50) rfl _ _ e0 (fits_cell ((unhide HY).kept hk2 (by simp)) 3 _ rfl) ⟨_, rfl, tq_is _ _ _ _ rfl, Kept.refl _ _, fun _ _ _ _ _ => trivial⟩
                | 9, ho, hsk =>
                  obtain rfl := Option.some.inj ho
                  have e0 : a'.eval (.tmp 49) = .int .i64 bm := is_tq (hin 6 49 (by kernel_rfl) (by kernel_rfl)) rfl
                  have e1 : a'.eval (.tmp 51) = .int .i64 x.b := is_tq (hin 8 51 (by kernel_rfl) (by kernel_rfl)) rfl
                  exact c_gtr2 (.tmp 49) (.tmp 51) rfl _ _ (false) (by have := unhide HB1; simpa using this) e0 e1 ⟨_, rfl, tq_is _ _ _ _ rfl, Kept.refl _ _, fun _ _ _ _ _ => trivial⟩
                | 10, ho, hsk =>
                  obtain rfl := Option.some.inj ho
                  have e0 : a'.eval (.tmp 52) = .bool false := is_tq (hin 9 52 (by kernel_rfl) (by kernel_rfl)) rfl
                  exact wp_move (.tmp 52) rfl _ e0 ⟨_, rfl, tq_is _ _ _ _ rfl, Kept.refl _ _, fun _ _ _ _ _ => trivial⟩
                | 11, ho, hsk =>
                  obtain rfl := Option.some.inj ho
                  exact wp_move (.tmp 5) rfl _ ((hout 5 (by kernel_rfl)).trans rfl) ⟨_, rfl, tq_is _ _ _ _ rfl, Kept.refl _ _, fun _ _ _ _ _ => trivial⟩
                | 12, ho, hsk =>
                  obtain rfl := Option.some.inj ho
                  exact o_fld34_1 (.tmp 8) rfl y (0) (1) rfl ((hout 8 (by kernel_rfl)).trans rfl) ⟨_, rfl, tq_is _ _ _ _ rfl, Kept.refl _ _, fun _ _ _ _ _ => trivial⟩
                | 13, ho, hsk =>
                  obtain rfl := Option.some.inj ho
                  have e0 : a'.eval (.tmp 55) = .pointer (some ⟨y, 1, none⟩) := is_tq (hin 12 55 (by kernel_rfl) (by kernel_rfl)) rfl
                  exact o_load3 (.tmp 55) rfl _ _ e0 (fits_cell ((unhide HY).kept hk2 (by simp)) 1 _ rfl) ⟨_, rfl, tq_is _ _ _ _ rfl, Kept.refl _ _, fun _ _ _ _ _ => trivial⟩
                | 14, ho, hsk =>
                  obtain rfl := Option.some.inj ho
                  have e0 : a'.eval (.tmp 54) = P0 b := is_tq (hin 11 54 (by kernel_rfl) (by kernel_rfl)) rfl
                  have e1 : a'.eval (.tmp 56) = .int .i64 x.p := is_tq (hin 13 56 (by kernel_rfl) (by kernel_rfl)) rfl
                  refine wp_callF 16 _ _ rfl #[P0 b, .int .i64 x.p] (by simp [e0, e1]) (cg16 _ _) ((has16M ((unhide HP).step hk2 (by simp) (by simp))).mono ?_)
                  rw [unhide HHP]
                  rintro e w3 ⟨rfl, hk3⟩
                  exact ⟨_, rfl, _, rfl, tq_is _ _ _ _ rfl, hk3, fun _ _ _ _ _ => trivial⟩
                | 15, ho, hsk =>
                  obtain rfl := Option.some.inj ho
                  have e0 : a'.eval (.tmp 57) = .bool true := is_tq (hin 14 57 (by kernel_rfl) (by kernel_rfl)) rfl
                  exact o_not (.tmp 57) rfl (true) e0 ⟨_, rfl, tq_is _ _ _ _ rfl, Kept.refl _ _, fun _ _ _ _ _ => trivial⟩
                | 16, ho, hsk =>
                  obtain rfl := Option.some.inj ho
                  have e0 : a'.eval (.tmp 53) = .bool false := is_tq (hin 10 53 (by kernel_rfl) (by kernel_rfl)) rfl
                  have e1 : a'.eval (.tmp 58) = .bool false := is_tq (hin 15 58 (by kernel_rfl) (by kernel_rfl)) rfl
                  exact o_pickOr0 (.tmp 53) (.tmp 58) rfl _ e0 e1 ⟨_, rfl, tq_is _ _ _ _ rfl, Kept.refl _ _, fun _ _ _ _ _ => trivial⟩
                | 17, ho, hsk =>
                  obtain rfl := Option.some.inj ho
                  have e0 : a'.eval (.tmp 46) = .bool true := is_tq (hin 3 46 (by kernel_rfl) (by kernel_rfl)) rfl
                  have e1 : a'.eval (.tmp 59) = .bool false := is_tq (hin 16 59 (by kernel_rfl) (by kernel_rfl)) rfl
                  exact o_pick (.tmp 46) (.tmp 59) rfl _ e0 e1 ⟨_, rfl, tq_is _ _ _ _ rfl, Kept.refl _ _, fun _ _ _ _ _ => trivial⟩
              intro w9 hk9
              replace hk9 : Kept [] V2 w9 := ⟨hk9.os, hk9.tape, hk9.output, hk9.size, hk9.block⟩
              simp only [valsQ, List.map_cons, List.map_nil, Option.getD_some, List.take_succ_cons, List.take_zero, putAll, Act.put, List.setIfInBounds_toArray, List.set_cons_succ, List.set_cons_zero]
              refine wpAny_done (by kernel_rfl) ?_ _
              replace HP := hide ((unhide HP).step hk9 (by simp) (by simp))
              replace HK := hide ((unhide HK).trans hk9)
              go_wp2_with (
                first
                | (go_at_call 15
                   refine (bound15 (F := []) (unhide HP) (Rw.nil _) n).mono ?_
                   rw [show boundP n [] (markP x.p x.a x.b M).2 = bm from unhide HBM]
                   rintro e V3 ⟨rfl, h3⟩
                   replace HP := hide ((unhide HP).step h3 (by simp) (by simp))
                   replace HK := hide ((unhide HK).trans h3)
                   clear h3
                   refine Stp.go ?_))
              constructor
              go_wp2_with (
                first
                | (go_at_call 15
                   refine (bound15 (F := []) (unhide HP) (Rw.nil _) n).mono ?_
                   rw [show boundP n [] (markP x.p x.a x.b M).2 = bm from unhide HBM]
                   rintro e V4 ⟨rfl, h3⟩
                   replace HP := hide ((unhide HP).step h3 (by simp) (by simp))
                   replace HK := hide ((unhide HK).trans h3)
                   clear h3
                   refine Stp.go ?_))
              constructor
              go_wp2_with fail
              go_roundw
              case rel => exact ⟨k + 1, (markP x.p x.a x.b M).2, by omega, by omega, by go_num, (unhide HBM).symm ▸ rfl, HP, HK⟩
              case measure => simp [intOf]; omega
            · have HE : Hid (¬ r1 = 0) := hz
              clear hz hbm hr1
              go_wp2_with (
                first
                | (refine wpIdx22 rfl (.tmp 27) (.tmp 28) rfl ao cc X k x rfl rfl ((unhide HX).kept (unhide HK)) (unhide HXK) ?_
                   intro g o' hr
                   have HR := hide hr
                   clear hr
                   refine Stp.go ?_))
              constructor
              go_wp2_with (
                first
                | (refine wpLoadA row34 rfl (.tmp 29) rfl g o' rfl x.C rfl (unhide HR) ?_
                   refine Stp.go ?_))
              constructor
              go_wp2_with (
                first
                | (refine wpNew row34 se0.C rfl zero34 8 rfl rfl rfl (.tmp 30) rfl rfl rfl x.C rfl x.one rfl rfl ?_
                   intro V1 y e2 B2 h3
                   have HY := hide B2
                   have HNY : Hid (y ≠ mb) := by obtain ⟨_, _, h9, _⟩ := (unhide HP).map; have := (Array.getElem?_eq_some_iff.1 h9).1; show _ ≠ _; omega
                   replace HP := hide ((unhide HP).step h3 (by simp) (by simp))
                   replace HK := hide ((unhide HK).trans h3)
                   have c0 := fits_cell B2 0 _ rfl
                   have c1 := fits_cell B2 1 _ rfl
                   have c2 := fits_cell B2 2 _ rfl
                   have c3 := fits_cell B2 3 _ rfl
                   clear e2 B2 h3 HR
                   refine Stp.go ?_))
              constructor
              go_wp2_with (
                first
                | (go_at_call 13
                   refine (mark13 (unhide HP)).mono ?_
                   rw [show (markP x.p x.a x.b M).1 = r1 from unhide HR1]
                   rintro e V2 ⟨rfl, h2, h3⟩
                   replace HP := hide h2
                   replace HY := hide ((unhide HY).kept h3 (by simpa using unhide HNY))
                   replace HK := hide ((unhide HK).own h3 (by simp; exact (unhide HG).2))
                   clear h2 h3 c0 c1 c2 c3
                   refine Stp.go ?_))
              constructor
              go_upto_region 14 with fail
              refine wp_region_any mixed (wpAny_tq 18 rfl (by kernel_rfl) [some (.int .i64 r1), some (.int .i64 r1), some (.bool false), some (.bool false), none, none, none, none, none, none, none, none, none, none, none, none, none, some (.bool false)] rfl (by kernel_rfl) (by kernel_rfl) ?_ ?_)
              · intro i o' hi hsk ho a' w2 hout hin hk2
                replace hk2 : Kept [] V2 w2 := ⟨hk2.os, hk2.tape, hk2.output, hk2.size, hk2.block⟩
                match i, ho, hsk with
                | 0, ho, hsk =>
                  obtain rfl := Option.some.inj ho
                  exact wp_move (.tmp 9) rfl _ ((hout 9 (by kernel_rfl)).trans rfl) ⟨_, rfl, tq_is _ _ _ _ rfl, Kept.refl _ _, fun _ _ _ _ _ => trivial⟩
                | 1, ho, hsk =>
                  obtain rfl := Option.some.inj ho
                  have e0 : a'.eval (.tmp 43) = .int .i64 r1 := is_tq (hin 0 43 (by kernel_rfl) (by kernel_rfl)) rfl
                  refine wp_callF 14 _ _ rfl #[.int .i64 r1] (by simp [e0]) (cg14 _ _) ((num14 _ _).mono ?_)
                  rintro e w3 ⟨rfl, rfl⟩
                  exact ⟨_, rfl, _, rfl, tq_is _ _ _ _ rfl, Kept.refl _ _, fun _ _ _ _ _ => trivial⟩
                | 2, ho, hsk =>
                  obtain rfl := Option.some.inj ho
                  have e0 : a'.eval (.tmp 44) = .int .i64 r1 := is_tq (hin 1 44 (by kernel_rfl) (by kernel_rfl)) rfl
                  exact c_eql3 (.tmp 44) (.const (.int .i64 (0))) rfl _ _ (false) (by have := unhide HE; simpa using this) e0 rfl ⟨_, rfl, tq_is _ _ _ _ rfl, Kept.refl _ _, fun _ _ _ _ _ => trivial⟩
                | 3, ho, hsk =>
                  obtain rfl := Option.some.inj ho
                  have e0 : a'.eval (.tmp 45) = .bool false := is_tq (hin 2 45 (by kernel_rfl) (by kernel_rfl)) rfl
                  exact wp_move (.tmp 45) rfl _ e0 ⟨_, rfl, tq_is _ _ _ _ rfl, Kept.refl _ _, fun _ _ _ _ _ => trivial⟩
                | 4, ho, hsk =>
                  cases hsk
                | 5, ho, hsk =>
                  cases hsk
                | 6, ho, hsk =>
                  cases hsk
                | 7, ho, hsk =>
                  cases hsk
                | 8, ho, hsk =>
                  cases hsk
                | 9, ho, hsk =>
                  cases hsk
                | 10, ho, hsk =>
                  cases hsk
                | 11, ho, hsk =>
                  cases hsk
                | 12, ho, hsk =>
                  cases hsk
                | 13, ho, hsk =>
                  cases hsk
                | 14, ho, hsk =>
                  cases hsk
                | 15, ho, hsk =>
                  cases hsk
                | 16, ho, hsk =>
                  cases hsk
                | 17, ho, hsk =>
                  obtain rfl := Option.some.inj ho
                  have e0 : a'.eval (.tmp 46) = .bool false := is_tq (hin 3 46 (by kernel_rfl) (by kernel_rfl)) rfl
                  exact o_pickN (.tmp 46) (.tmp 59) rfl e0 ⟨_, rfl, tq_is _ _ _ _ rfl, Kept.refl _ _, fun _ _ _ _ _ => trivial⟩
              intro w9 hk9
              replace hk9 : Kept [] V2 w9 := ⟨hk9.os, hk9.tape, hk9.output, hk9.size, hk9.block⟩
              simp only [valsQ, List.map_cons, List.map_nil, Option.getD_some, Option.getD_none, List.take_succ_cons, List.take_zero, putAll, Act.put, List.setIfInBounds_toArray, List.set_cons_succ, List.set_cons_zero]
              refine wpAny_done (by kernel_rfl) ?_ _
              replace HP := hide ((unhide HP).step hk9 (by simp) (by simp))
              replace HK := hide ((unhide HK).trans hk9)
              go_wp2_with (
                first
                | (go_at_call 15
                   refine (bound15 (F := []) (unhide HP) (Rw.nil _) n).mono ?_
                   rw [show boundP n [] (markP x.p x.a x.b M).2 = bm from unhide HBM]
                   rintro e V3 ⟨rfl, h3⟩
                   replace HP := hide ((unhide HP).step h3 (by simp) (by simp))
                   replace HK := hide ((unhide HK).trans h3)
                   clear h3
                   refine Stp.go ?_))
              constructor
              go_wp2_with (
                first
                | (go_at_call 15
                   refine (bound15 (F := []) (unhide HP) (Rw.nil _) n).mono ?_
                   rw [show boundP n [] (markP x.p x.a x.b M).2 = bm from unhide HBM]
                   rintro e V4 ⟨rfl, h3⟩
                   replace HP := hide ((unhide HP).step h3 (by simp) (by simp))
                   replace HK := hide ((unhide HK).trans h3)
                   clear h3
                   refine Stp.go ?_))
              constructor
              go_wp2_with fail
              go_roundw
              case rel => exact ⟨k + 1, (markP x.p x.a x.b M).2, by omega, by omega, by go_num, (unhide HBM).symm ▸ rfl, HP, HK⟩
              case measure => simp [intOf]; omega
          · have q1 : decide (x.k = 1) = false := by simpa using e1
            have q2 : (x.k == 1) = false := by simpa using e1
            clear e1
            by_cases e2 : x.k = 2
            · have q3 : decide (x.k = 2) = true := by simpa using e2
              have q4 : (x.k == 2) = true := by simpa using e2
              clear e2
              obtain ⟨bm, hbm⟩ : ∃ v, bd n (discP x.p x.a M).2.2 = v := ⟨_, rfl⟩
              have HBM := hide hbm
              have d9 : decide (bm > n) = false := by have := bd_n (n := n) (M := (discP x.p x.a M).2.2); rw [hbm] at this; simpa using this
              have HLS : Hid (decide (bm < u) = false) := by
                have h9 := bd_disc (n := n) (p := x.p) (s := x.a) (M := M)
                rw [hbm, unhide HU] at h9
                show _ = _
                simpa using h9
              have d8 : decide (bm < u) = false := unhide HLS
              clear hbm
              go_wp2_with (
                first
                | (refine wpIdx22 rfl (.tmp 27) (.tmp 28) rfl ao cc X k x rfl rfl ((unhide HX).kept (unhide HK)) (unhide HXK) ?_
                   intro g o' hr
                   have HR := hide hr
                   clear hr
                   refine Stp.go ?_))
              constructor
              go_wp2_with (
                first
                | (refine wpLoadA row34 rfl (.tmp 29) rfl g o' rfl x.C rfl (unhide HR) ?_
                   refine Stp.go ?_))
              constructor
              go_wp2_with (
                first
                | (refine wpNew row34 se0.C rfl zero34 8 rfl rfl rfl (.tmp 30) rfl rfl rfl x.C rfl x.one rfl rfl ?_
                   intro V1 y e2 B2 h3
                   have HY := hide B2
                   have HNY : Hid (y ≠ mb) := by obtain ⟨_, _, h9, _⟩ := (unhide HP).map; have := (Array.getElem?_eq_some_iff.1 h9).1; show _ ≠ _; omega
                   replace HP := hide ((unhide HP).step h3 (by simp) (by simp))
                   replace HK := hide ((unhide HK).trans h3)
                   have c0 := fits_cell B2 0 _ rfl
                   have c1 := fits_cell B2 1 _ rfl
                   have c2 := fits_cell B2 2 _ rfl
                   have c3 := fits_cell B2 3 _ rfl
                   clear e2 B2 h3 HR
                   refine Stp.go ?_))
              constructor
              go_wp2_with (
                first
                | (go_at_call 17
                   refine (disc17 (unhide HP)).mono ?_
                   rintro e V2 ⟨rfl, h2, h3⟩
                   replace HP := hide h2
                   replace HY := hide ((unhide HY).kept h3 (by simpa using unhide HNY))
                   replace HK := hide ((unhide HK).own h3 (by simp; exact (unhide HG).2))
                   clear h2 h3 c0 c1 c2 c3
                   refine Stp.go ?_))
              constructor
              go_wp2_with (
                first
                | (go_at_call 15
                   refine (bound15 (F := []) (unhide HP) (Rw.nil _) n).mono ?_
                   rw [show boundP n [] (discP x.p x.a M).2.2 = bm from unhide HBM]
                   rintro e V3 ⟨rfl, h3⟩
                   replace HP := hide ((unhide HP).step h3 (by simp) (by simp))
                   replace HK := hide ((unhide HK).trans h3)
                   clear h3
                   refine Stp.go ?_))
              constructor
              go_wp2_with (
                first
                | (go_at_call 15
                   refine (bound15 (F := []) (unhide HP) (Rw.nil _) n).mono ?_
                   rw [show boundP n [] (discP x.p x.a M).2.2 = bm from unhide HBM]
                   rintro e V4 ⟨rfl, h3⟩
                   replace HP := hide ((unhide HP).step h3 (by simp) (by simp))
                   replace HK := hide ((unhide HK).trans h3)
                   clear h3
                   refine Stp.go ?_))
              constructor
              go_wp2_with fail
              go_roundw
              case rel => exact ⟨k + 1, (discP x.p x.a M).2.2, by omega, by omega, by go_num, (unhide HBM).symm ▸ rfl, HP, HK⟩
              case measure => simp [intOf]; omega
            · have q3 : decide (x.k = 2) = false := by simpa using e2
              have q4 : (x.k == 2) = false := by simpa using e2
              clear e2
              obtain ⟨bm, hbm⟩ : ∃ v, bd n M = v := ⟨_, rfl⟩
              have HBM := hide hbm
              have d9 : decide (bm > n) = false := by have := bd_n (n := n) (M := M); rw [hbm] at this; simpa using this
              obtain rfl : bm = u := by rw [← hbm]; exact unhide HU
              clear hbm
              go_wp2_with (
                first
                | (refine wpIdx22 rfl (.tmp 27) (.tmp 28) rfl ao cc X k x rfl rfl ((unhide HX).kept (unhide HK)) (unhide HXK) ?_
                   intro g o' hr
                   have HR := hide hr
                   clear hr
                   refine Stp.go ?_))
              constructor
              go_wp2_with (
                first
                | (refine wpLoadA row34 rfl (.tmp 29) rfl g o' rfl x.C rfl (unhide HR) ?_
                   refine Stp.go ?_))
              constructor
              go_wp2_with (
                first
                | (refine wpNew row34 se0.C rfl zero34 8 rfl rfl rfl (.tmp 30) rfl rfl rfl x.C rfl x.one rfl rfl ?_
                   intro V1 y e2 B2 h3
                   have HY := hide B2
                   have HNY : Hid (y ≠ mb) := by obtain ⟨_, _, h9, _⟩ := (unhide HP).map; have := (Array.getElem?_eq_some_iff.1 h9).1; show _ ≠ _; omega
                   replace HP := hide ((unhide HP).step h3 (by simp) (by simp))
                   replace HK := hide ((unhide HK).trans h3)
                   have c0 := fits_cell B2 0 _ rfl
                   have c1 := fits_cell B2 1 _ rfl
                   have c2 := fits_cell B2 2 _ rfl
                   have c3 := fits_cell B2 3 _ rfl
                   clear e2 B2 h3 HR
                   refine Stp.go ?_))
              constructor
              go_wp2_with (
                first
                | (go_at_call 15
                   refine (bound15 (F := []) (unhide HP) (Rw.nil _) n).mono ?_
                   rw [show boundP n [] M = bm from unhide HBM]
                   rintro e V3 ⟨rfl, h3⟩
                   replace HP := hide ((unhide HP).step h3 (by simp) (by simp))
                   replace HK := hide ((unhide HK).trans h3)
                   clear h3
                   refine Stp.go ?_))
              constructor
              go_wp2_with fail
              go_roundw
              case rel => exact ⟨k + 1, M, by omega, by omega, by go_num, (unhide HBM).symm ▸ rfl, HP, HK⟩
              case measure => simp [intOf]; omega
        · obtain rfl : k = 200 := by omega
          have hd2 : decide (((200 : Nat) : Int) < 200) = false := by decide
          go_wp2_with fail
          go_meet
          case rel => exact ⟨M, HP, HK⟩
      · obtain rfl : k = X.length := by omega
        have hd : decide ((X.length : Int) < (X.length : Int)) = false := by simp
        go_wp2_with fail
        go_meet
        case rel => exact ⟨M, HP, HK⟩
  case rest =>
    clear HP HK
    obtain ⟨M, HP, HK⟩ := hcut
    have HL : Hid (∀ l ∈ M, ((0 : Nat) : Int) ≤ l.p) := fun l hl => ((unhide HP).ok.may l hl).1.1
    go_wp2_with fail
    go_loopw [10] (fun x10 wr => ∃ (k : Nat) (M : List Mk), k ≤ 16 ∧ x10 = .int .i64 k ∧ Hid (Pg wr b mb M) ∧ Hid (Kept [] w wr) ∧ Hid (∀ l ∈ M, (k : Int) ≤ l.p)) (fun x10 _ => 16 - (intOf x10).toNat)
    case atStart => exact ⟨0, M, by omega, rfl, HP, HK, HL⟩
    case round =>
      clear HP HK HL
      obtain ⟨k, M, hk, rfl, HP, HK, HL⟩ := hrel
      by_cases hlt : k < 16
      · have hltI : (k : Int) < 16 := by omega
        have hd : decide ((k : Int) < 16) = true := by simpa using hltI
        have HL2 := hide (disc_all (unhide HP).ok hlt (unhide HL))
        clear HL
        go_wp2_with (
          first
          | (go_at_call 17
             refine (disc17 (unhide HP)).mono ?_
             rintro e V2 ⟨rfl, h2, h3⟩
             replace HP := hide h2
             replace HK := hide ((unhide HK).own h3 (by simp; exact (unhide HG).2))
             clear h2 h3
             refine Stp.go ?_))
        constructor
        go_wp2_with (
          first
          | (go_at_call 16
             refine (has16M (unhide HP)).mono ?_
             rw [none_of (unhide HL2)]
             rintro e V3 ⟨rfl, h3⟩
             replace HP := hide ((unhide HP).step h3 (by simp) (by simp))
             replace HK := hide ((unhide HK).trans h3)
             clear h3
             refine Stp.go ?_))
        constructor
        go_wp2_with fail
        go_roundw
        case rel => exact ⟨k + 1, _, by omega, by go_num, HP, HK, hide (fun l hl => by have := unhide HL2 l hl; omega)⟩
        case measure => simp [intOf]; omega
      · obtain rfl : k = 16 := by omega
        have hd : decide (((16 : Nat) : Int) < 16) = false := by decide
        obtain rfl : M = [] := all_gone (unhide HP).ok (unhide HL)
        have q1 : (n == n) = true := by simp
        have q2 : decide (n = n) = true := by simp
        clear HL
        go_wp2_with (
          first
          | (go_at_call 18
             refine (len18 (unhide HP)).mono ?_
             rintro e W9 ⟨rfl, q9⟩
             replace q9 := q9.symm
             subst q9
             refine Stp.go ?_))
        constructor
        go_wp2_with (
          first
          | (go_at_call 15
             refine (bound15 (F := []) (unhide HP) (Rw.nil _) n).mono ?_
             rw [show boundP n [] [] = n from rfl]
             rintro e V3 ⟨rfl, h3⟩
             replace HP := hide ((unhide HP).step h3 (by simp) (by simp))
             replace HK := hide ((unhide HK).trans h3)
             clear h3
             refine Stp.go ?_))
        constructor
        go_wp2_with fail
        go_ret
        exact ⟨rfl, unhide HK⟩

end Go.Proofs.Ythihladmifpokaa
