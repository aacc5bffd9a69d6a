/-
  The law on Same.
-/
import Derived.Test.YthihladmifpokaaTi
import Derived.Deep.CutBlock
namespace Go.Proofs.Ythihladmifpokaa
set_option maxRecDepth 100000
set_option linter.unusedSimpArgs false
open Go.RowKit

section
variable {ops : Array Oper} {rest : List Oper} {op o : Oper} {a : Act} {w : World} {K : Act → World → Prop} {Q : Exit → Act → World → Prop}
theorem o_eqlBB (x y : Operand) (ho : o.op = .binOp .eql 4 x y 4) (m : Bool) (hx : a.eval x = .bool m) (hy : a.eval y = .bool m) (h : K (a.put o.dst (.bool true)) w) : o.wp Try.prog a w K Q := by
  unfold Oper.wp execOp
  simp only [ho, hx, hy]
  simp [go_sem]
  exact h
end
theorem cg11 (vs : Array Value) (w : World) : (callFunc 11 vs).run Try.prog w = .ok (.enter 11 vs) w := by kernel_rfl
theorem cg12 (vs : Array Value) (w : World) : (callFunc 12 vs).run Try.prog w = .ok (.enter 12 vs) w := by kernel_rfl
theorem cg7 (vs : Array Value) (w : World) : (callFunc 7 vs).run Try.prog w = .ok (.enter 7 vs) w := by kernel_rfl
variable {w W W' : World} {b mb r : Nat} {v : Value} {M L : List Mk}
theorem Tw.made (h1 : Pg W b mb []) (h2 : Blk W r 30 [.slice none 0 0]) : Tw W b mb r (.slice none 0 0) [] [] := ⟨h1, ⟨h2, Rw.nil _, by decide⟩, List.Perm.refl _, List.Pairwise.nil⟩
set_option maxHeartbeats 16000000 in
theorem same4 (ao : Option Addr) (cx : Nat) (X : List Se) (ar : Option Addr) (cy : Nat) (Y : List Se) (w : World) (hX : RowS Se.C 4 w ao X) (hY : RowS Se.C 4 w ar Y) : Calls Try.prog 4 #[.slice ao X.length cx, .slice ar Y.length cy] w fun e W => e = .returned (.bool true) ∧ Kept [] w W := by
  have HX := hide hX
  have HY := hide hY
  have HK := hide (Kept.refl [] w)
  clear hX hY
  go_enter Try.func4, Try.ntmps4
  go_wp2_with (
    first
    | (go_at_call 8
       refine (new8 _).mono ?_
       rintro e W1 ⟨b1, mb1, rfl, h1, h2, h3, h4⟩
       have HP1 := hide h1
       have HG1 : Hid (w.heap.size ≤ mb1) := Nat.le_trans (unhide HK).size h4
       replace HK := hide ((unhide HK).trans h2)
       clear h1 h2 h3 h4
       refine Stp.go ?_))
  constructor
  go_wp2_with (
    first
    | (go_at_call 8
       refine (new8 _).mono ?_
       rintro e W2 ⟨b2, mb2, rfl, h1, h2, h3, h4⟩
       have HP2 := hide h1
       have HG2 : Hid (w.heap.size ≤ mb2) := Nat.le_trans (unhide HK).size h4
       have HNE : Hid (mb1 ≠ mb2) := by have := (unhide HP1).lt; show _ ≠ _; omega
       replace HP1 := hide ((unhide HP1).step h2 (by simp) (by simp))
       replace HK := hide ((unhide HK).trans h2)
       clear h1 h2 h3 h4
       refine Stp.go ?_))
  constructor
  go_wp2_with (
    first
    | (refine wpBoxV rfl (.tmp 14) rfl [.slice none 0 0] rfl ?_
       intro V1 r1 e2 B2 h2
       have HB1 := hide B2
       have HR1 : Hid (w.heap.size ≤ r1) := by have := (unhide HK).size; show _ ≤ _; omega
       replace HP1 := hide ((unhide HP1).step h2 (by simp) (by simp))
       replace HP2 := hide ((unhide HP2).step h2 (by simp) (by simp))
       replace HK := hide ((unhide HK).trans h2)
       clear e2 B2 h2
       refine Stp.go ?_))
  constructor
  go_wp2_with (
    first
    | (refine wpBoxV rfl (.tmp 16) rfl [.slice none 0 0] rfl ?_
       intro V2 r2 e2 B2 h2
       have HB2 := hide B2
       have HR2 : Hid (w.heap.size ≤ r2) := by have := (unhide HK).size; show _ ≤ _; omega
       have HNR : Hid (r1 ≠ r2) := by have := (unhide HB1).lt; show _ ≠ _; omega
       replace HB1 := hide ((unhide HB1).kept h2 (by simp))
       replace HP1 := hide ((unhide HP1).step h2 (by simp) (by simp))
       replace HP2 := hide ((unhide HP2).step h2 (by simp) (by simp))
       replace HK := hide ((unhide HK).trans h2)
       clear e2 B2 h2
       refine Stp.go ?_))
  constructor
  go_upto_block 0 with fail
  have HQ : Hid (Q2 w V2 b1 mb1 r1 (.slice none 0 0) [] [] b2 mb2 r2 (.slice none 0 0) [] []) :=
    ⟨⟨Tw.made (unhide HP1) (unhide HB1), ⟨unhide HG1, unhide HR1, fun i hi => by cases hi⟩⟩, ⟨Tw.made (unhide HP2) (unhide HB2), ⟨unhide HG2, unhide HR2, fun i hi => by cases hi⟩⟩, ⟨unhide HNE, unhide HNR, fun i hi => by cases hi⟩, unhide HK⟩
  clear HP1 HP2 HB1 HB2 HG1 HG2 HR1 HR2 HNE HNR HK
  go_cut [5, 7, 9, 10] from 24 to 47 (fun x5 x7 x9 x10 wc => ∃ (b1 mb1 : Nat) (v1 : Value) (M1 L1 : List Mk), x5 = P0 b1 ∧ x7 = P0 r1 ∧ x9 = .bool true ∧ Hid (Q2 w wc b1 mb1 r1 v1 M1 L1 b2 mb2 r2 (.slice none 0 0) [] []))
  case first =>
    go_wp2_with fail
    go_loopw [5, 7, 9, 10] (fun x5 x7 x9 x10 wr => ∃ (j b1 mb1 : Nat) (v1 : Value) (M1 L1 : List Mk), j ≤ X.length ∧ j ≤ 60 ∧ x10 = .int .i64 j ∧ x5 = P0 b1 ∧ x7 = P0 r1 ∧ x9 = .bool true ∧ Hid (Q2 w wr b1 mb1 r1 v1 M1 L1 b2 mb2 r2 (.slice none 0 0) [] [])) (fun _ _ _ x10 _ => 60 - (intOf x10).toNat)
    case atStart => exact ⟨0, b1, mb1, _, _, _, by omega, by omega, rfl, rfl, rfl, rfl, HQ⟩
    case round =>
      clear HQ
      obtain ⟨j, b1, mb1, v1, M1, L1, hjX, hj, rfl, rfl, rfl, rfl, HQ⟩ := hrel
      by_cases hk1 : j < X.length
      · have hd : decide ((j : Int) < (X.length : Int)) = true := by simp; omega
        by_cases hk2 : j < 60
        · have hkI : (j : Int) < 60 := by omega
          have hd2 : decide ((j : Int) < 60) = true := by simpa using hkI
          obtain ⟨x, hx⟩ : ∃ x, X[j]? = some x := ⟨_, List.getElem?_eq_getElem hk1⟩
          have HXK := hide hx
          clear hx
          go_wp2_with (
            first
            | (refine wpIdx22 rfl (.tmp 40) (.tmp 41) rfl _ _ X j x rfl rfl ((unhide HX).kept (unhide HQ).k) (unhide HXK) ?_
               intro g o' hr
               have HRG := hide hr
               clear hr
               refine Stp.go ?_))
          constructor
          go_wp2_with (
            first
            | (refine wpLoadA row34 rfl (.tmp 42) rfl g o' rfl x.C rfl (unhide HRG) ?_
               refine Stp.go ?_))
          constructor
          go_wp2_with (
            first
            | (go_at_call 9
               refine (do9 (unhide HQ).s1.tw x).mono ?_
               rintro e V9 ⟨c1, m1, u1, M9, L9, rfl, hD⟩
               have HQ9 := hide ((unhide HQ).do1 hD)
               clear hD HRG
               refine Stp.go ?_))
          constructor
          go_wp2_with fail
          go_roundw
          case rel => exact ⟨j + 1, c1, m1, u1, M9, L9, by omega, by omega, by go_num, rfl, rfl, rfl, HQ9⟩
          case measure => simp [intOf]; omega
        · obtain rfl : j = 60 := by omega
          have hd2 : decide (((60 : Nat) : Int) < 60) = false := by decide
          go_wp2_with fail
          go_meet
          case rel => exact ⟨_, _, _, _, _, rfl, rfl, rfl, HQ⟩
      · obtain rfl : j = X.length := by omega
        have hd : decide ((X.length : Int) < (X.length : Int)) = false := by simp
        go_wp2_with fail
        go_meet
        case rel => exact ⟨_, _, _, _, _, rfl, rfl, rfl, HQ⟩
  case rest =>
    clear HQ
    obtain ⟨b1, mb1, v1, M1, L1, rfl, rfl, rfl, HQ⟩ := hcut
    go_upto_block 2 with fail
    go_cut [6, 8, 9, 11] from 48 to 71 (fun x6 x8 x9 x11 wc => ∃ (b2 mb2 : Nat) (v2 : Value) (M2 L2 : List Mk), x6 = P0 b2 ∧ x8 = P0 r2 ∧ x9 = .bool true ∧ Hid (Q2 w wc b1 mb1 r1 v1 M1 L1 b2 mb2 r2 v2 M2 L2))
    case first =>
      go_wp2_with fail
      go_loopw [6, 8, 9, 11] (fun x6 x8 x9 x11 wr => ∃ (j b2 mb2 : Nat) (v2 : Value) (M2 L2 : List Mk), j ≤ Y.length ∧ j ≤ 60 ∧ x11 = .int .i64 j ∧ x6 = P0 b2 ∧ x8 = P0 r2 ∧ x9 = .bool true ∧ Hid (Q2 w wr b1 mb1 r1 v1 M1 L1 b2 mb2 r2 v2 M2 L2)) (fun _ _ _ x11 _ => 60 - (intOf x11).toNat)
      case atStart => exact ⟨0, b2, mb2, _, _, _, by omega, by omega, rfl, rfl, rfl, rfl, HQ⟩
      case round =>
        clear HQ
        obtain ⟨j, b2, mb2, v2, M2, L2, hjX, hj, rfl, rfl, rfl, rfl, HQ⟩ := hrel
        by_cases hk1 : j < Y.length
        · have hd : decide ((j : Int) < (Y.length : Int)) = true := by simp; omega
          by_cases hk2 : j < 60
          · have hkI : (j : Int) < 60 := by omega
            have hd2 : decide ((j : Int) < 60) = true := by simpa using hkI
            obtain ⟨x, hx⟩ : ∃ x, Y[j]? = some x := ⟨_, List.getElem?_eq_getElem hk1⟩
            have HXK := hide hx
            clear hx
            go_wp2_with (
              first
              | (refine wpIdx22 rfl (.tmp 64) (.tmp 65) rfl _ _ Y j x rfl rfl ((unhide HY).kept (unhide HQ).k) (unhide HXK) ?_
                 intro g o' hr
                 have HRG := hide hr
                 clear hr
                 refine Stp.go ?_))
            constructor
            go_wp2_with (
              first
              | (refine wpLoadA row34 rfl (.tmp 66) rfl g o' rfl x.C rfl (unhide HRG) ?_
                 refine Stp.go ?_))
            constructor
            go_wp2_with (
              first
              | (go_at_call 9
                 refine (do9 (unhide HQ).s2.tw x).mono ?_
                 rintro e V9 ⟨c1, m1, u1, M9, L9, rfl, hD⟩
                 have HQ9 := hide (((unhide HQ).swap.do1 hD).swap)
                 clear hD HRG
                 refine Stp.go ?_))
            constructor
            go_wp2_with fail
            go_roundw
            case rel => exact ⟨j + 1, c1, m1, u1, M9, L9, by omega, by omega, by go_num, rfl, rfl, rfl, HQ9⟩
            case measure => simp [intOf]; omega
          · obtain rfl : j = 60 := by omega
            have hd2 : decide (((60 : Nat) : Int) < 60) = false := by decide
            go_wp2_with fail
            go_meet
            case rel => exact ⟨_, _, _, _, _, rfl, rfl, rfl, HQ⟩
        · obtain rfl : j = Y.length := by omega
          have hd : decide ((Y.length : Int) < (Y.length : Int)) = false := by simp
          go_wp2_with fail
          go_meet
          case rel => exact ⟨_, _, _, _, _, rfl, rfl, rfl, HQ⟩
    case rest =>
      clear HQ
      obtain ⟨b2, mb2, v2, M2, L2, rfl, rfl, rfl, HQ⟩ := hcut
      obtain ⟨z, hz⟩ : ∃ z, decide (L1 = L2) = z := ⟨_, rfl⟩
      have HZ := hide hz
      have HS : Hid (sameL M1 M2 = z) := by show _ = _; rw [same_eq (unhide HQ).s1.tw.perm (unhide HQ).s1.tw.srt (unhide HQ).s2.tw.perm (unhide HQ).s2.tw.srt, hz]
      clear hz
      go_upto_region 12 with fail
      refine wp_region_any mixed (wpAny_tq 25 rfl (by kernel_rfl) [some (.bool true), some (.bool true), some (P0 b1), some (P0 b2), some (.bool z), some (P0 r1), some (P0 r1), some (P0 r1), some (v1), some (P0 r2), some (P0 r2), some (P0 r2), some (v2), some (.bool z), some (.bool true), some (.bool true), some (.bool true), some (P0 b1), some (P0 b1), some (.bool true), some (.bool true), some (.bool true), some (.bool true), some (.bool true), some (.bool true)] rfl (by kernel_rfl) (by kernel_rfl) ?_ ?_)
      · intro i o' hi hsk ho a' w2 hout hin hk2
        replace hk2 : Kept [] wc w2 := ⟨hk2.os, hk2.tape, hk2.output, hk2.size, hk2.block⟩
        match i, ho, hsk with
        | 0, ho, hsk =>
          obtain rfl := Option.some.inj ho
          exact wp_move (.tmp 9) rfl _ ((hout 9 (by kernel_rfl)).trans rfl) ⟨_, rfl, tq_is _ _ _ _ rfl, Kept.refl _ _, fun _ _ _ _ _ => trivial⟩
        | 1, ho, hsk =>
          obtain rfl := Option.some.inj ho
          have e0 : a'.eval (.tmp 72) = .bool true := is_tq (hin 0 72 (by kernel_rfl) (by kernel_rfl)) rfl
          exact wp_move (.tmp 72) rfl _ e0 ⟨_, rfl, tq_is _ _ _ _ rfl, Kept.refl _ _, fun _ _ _ _ _ => trivial⟩
        | 2, ho, hsk =>
          obtain rfl := Option.some.inj ho
          exact wp_move (.tmp 5) rfl _ ((hout 5 (by kernel_rfl)).trans rfl) ⟨_, rfl, tq_is _ _ _ _ rfl, Kept.refl _ _, fun _ _ _ _ _ => trivial⟩
        | 3, ho, hsk =>
          obtain rfl := Option.some.inj ho
          exact wp_move (.tmp 6) rfl _ ((hout 6 (by kernel_rfl)).trans rfl) ⟨_, rfl, tq_is _ _ _ _ rfl, Kept.refl _ _, fun _ _ _ _ _ => trivial⟩
        | 4, ho, hsk =>
          obtain rfl := Option.some.inj ho
          have e0 : a'.eval (.tmp 74) = P0 b1 := is_tq (hin 2 74 (by kernel_rfl) (by kernel_rfl)) rfl
          have e1 : a'.eval (.tmp 75) = P0 b2 := is_tq (hin 3 75 (by kernel_rfl) (by kernel_rfl)) rfl
          refine wp_callF 11 _ _ rfl #[P0 b1, P0 b2] (by simp [e0, e1]) (cg11 _ _) ((same11 ((unhide HQ).step0 hk2).s1.tw.pg ((unhide HQ).step0 hk2).s2.tw.pg).mono ?_)
          rw [unhide HS]
          rintro e w3 ⟨rfl, hk3⟩
          exact ⟨_, rfl, _, rfl, tq_is _ _ _ _ rfl, hk3, fun _ _ _ _ _ => trivial⟩
        | 5, ho, hsk =>
          obtain rfl := Option.some.inj ho
          exact wp_move (.tmp 7) rfl _ ((hout 7 (by kernel_rfl)).trans rfl) ⟨_, rfl, tq_is _ _ _ _ rfl, Kept.refl _ _, fun _ _ _ _ _ => trivial⟩
        | 6, ho, hsk =>
          obtain rfl := Option.some.inj ho
          have e0 : a'.eval (.tmp 77) = P0 r1 := is_tq (hin 5 77 (by kernel_rfl) (by kernel_rfl)) rfl
          exact o_nil (.tmp 77) rfl _ e0 ⟨_, rfl, tq_is _ _ _ _ rfl, Kept.refl _ _, fun _ _ _ _ _ => trivial⟩
        | 7, ho, hsk =>
          obtain rfl := Option.some.inj ho
          have e0 : a'.eval (.tmp 78) = P0 r1 := is_tq (hin 6 78 (by kernel_rfl) (by kernel_rfl)) rfl
          exact o_fld30_0 (.tmp 78) rfl r1 (0) (0) rfl e0 ⟨_, rfl, tq_is _ _ _ _ rfl, Kept.refl _ _, fun _ _ _ _ _ => trivial⟩
        | 8, ho, hsk =>
          obtain rfl := Option.some.inj ho
          have e0 : a'.eval (.tmp 79) = P0 r1 := is_tq (hin 7 79 (by kernel_rfl) (by kernel_rfl)) rfl
          exact o_load28 (.tmp 79) rfl _ _ e0 (((unhide HQ).step0 hk2).s1.tw.rp.cw) ⟨_, rfl, tq_is _ _ _ _ rfl, Kept.refl _ _, fun _ _ _ _ _ => trivial⟩
        | 9, ho, hsk =>
          obtain rfl := Option.some.inj ho
          exact wp_move (.tmp 8) rfl _ ((hout 8 (by kernel_rfl)).trans rfl) ⟨_, rfl, tq_is _ _ _ _ rfl, Kept.refl _ _, fun _ _ _ _ _ => trivial⟩
        | 10, ho, hsk =>
          obtain rfl := Option.some.inj ho
          have e0 : a'.eval (.tmp 81) = P0 r2 := is_tq (hin 9 81 (by kernel_rfl) (by kernel_rfl)) rfl
          exact o_nil (.tmp 81) rfl _ e0 ⟨_, rfl, tq_is _ _ _ _ rfl, Kept.refl _ _, fun _ _ _ _ _ => trivial⟩
        | 11, ho, hsk =>
          obtain rfl := Option.some.inj ho
          have e0 : a'.eval (.tmp 82) = P0 r2 := is_tq (hin 10 82 (by kernel_rfl) (by kernel_rfl)) rfl
          exact o_fld30_0 (.tmp 82) rfl r2 (0) (0) rfl e0 ⟨_, rfl, tq_is _ _ _ _ rfl, Kept.refl _ _, fun _ _ _ _ _ => trivial⟩
        | 12, ho, hsk =>
          obtain rfl := Option.some.inj ho
          have e0 : a'.eval (.tmp 83) = P0 r2 := is_tq (hin 11 83 (by kernel_rfl) (by kernel_rfl)) rfl
          exact o_load28 (.tmp 83) rfl _ _ e0 (((unhide HQ).step0 hk2).s2.tw.rp.cw) ⟨_, rfl, tq_is _ _ _ _ rfl, Kept.refl _ _, fun _ _ _ _ _ => trivial⟩
        | 13, ho, hsk =>
          obtain rfl := Option.some.inj ho
          have e0 : a'.eval (.tmp 80) = v1 := is_tq (hin 8 80 (by kernel_rfl) (by kernel_rfl)) rfl
          have e1 : a'.eval (.tmp 84) = v2 := is_tq (hin 12 84 (by kernel_rfl) (by kernel_rfl)) rfl
          refine wp_callF 12 _ _ rfl #[v1, v2] (by simp [e0, e1]) (cg12 _ _) ((rsame12 ((unhide HQ).step0 hk2).s1.tw.rp.row ((unhide HQ).step0 hk2).s2.tw.rp.row ((unhide HQ).step0 hk2).s1.tw.rp.many).mono ?_)
          rw [unhide HZ]
          rintro e w3 ⟨rfl, hk3⟩
          exact ⟨_, rfl, _, rfl, tq_is _ _ _ _ rfl, hk3, fun _ _ _ _ _ => trivial⟩
        | 14, ho, hsk =>
          obtain rfl := Option.some.inj ho
          have e0 : a'.eval (.tmp 76) = .bool z := is_tq (hin 4 76 (by kernel_rfl) (by kernel_rfl)) rfl
          have e1 : a'.eval (.tmp 85) = .bool z := is_tq (hin 13 85 (by kernel_rfl) (by kernel_rfl)) rfl
          exact o_eqlBB (.tmp 76) (.tmp 85) rfl z e0 e1 ⟨_, rfl, tq_is _ _ _ _ rfl, Kept.refl _ _, fun _ _ _ _ _ => trivial⟩
        | 15, ho, hsk =>
          obtain rfl := Option.some.inj ho
          have e0 : a'.eval (.tmp 73) = .bool true := is_tq (hin 1 73 (by kernel_rfl) (by kernel_rfl)) rfl
          have e1 : a'.eval (.tmp 86) = .bool true := is_tq (hin 14 86 (by kernel_rfl) (by kernel_rfl)) rfl
          exact o_pick (.tmp 73) (.tmp 86) rfl _ e0 e1 ⟨_, rfl, tq_is _ _ _ _ rfl, Kept.refl _ _, fun _ _ _ _ _ => trivial⟩
        | 16, ho, hsk =>
          obtain rfl := Option.some.inj ho
          have e0 : a'.eval (.tmp 87) = .bool true := is_tq (hin 15 87 (by kernel_rfl) (by kernel_rfl)) rfl
          exact wp_move (.tmp 87) rfl _ e0 ⟨_, rfl, tq_is _ _ _ _ rfl, Kept.refl _ _, fun _ _ _ _ _ => trivial⟩
        | 17, ho, hsk =>
          obtain rfl := Option.some.inj ho
          exact wp_move (.tmp 5) rfl _ ((hout 5 (by kernel_rfl)).trans rfl) ⟨_, rfl, tq_is _ _ _ _ rfl, Kept.refl _ _, fun _ _ _ _ _ => trivial⟩
        | 18, ho, hsk =>
          obtain rfl := Option.some.inj ho
          exact wp_move (.tmp 5) rfl _ ((hout 5 (by kernel_rfl)).trans rfl) ⟨_, rfl, tq_is _ _ _ _ rfl, Kept.refl _ _, fun _ _ _ _ _ => trivial⟩
        | 19, ho, hsk =>
          obtain rfl := Option.some.inj ho
          have e0 : a'.eval (.tmp 89) = P0 b1 := is_tq (hin 17 89 (by kernel_rfl) (by kernel_rfl)) rfl
          have e1 : a'.eval (.tmp 90) = P0 b1 := is_tq (hin 18 90 (by kernel_rfl) (by kernel_rfl)) rfl
          refine wp_callF 11 _ _ rfl #[P0 b1, P0 b1] (by simp [e0, e1]) (cg11 _ _) ((same11 ((unhide HQ).step0 hk2).s1.tw.pg ((unhide HQ).step0 hk2).s1.tw.pg).mono ?_)
          rw [sameL_refl (unhide HQ).s1.tw.pg.map]
          rintro e w3 ⟨rfl, hk3⟩
          exact ⟨_, rfl, _, rfl, tq_is _ _ _ _ rfl, hk3, fun _ _ _ _ _ => trivial⟩
        | 20, ho, hsk =>
          obtain rfl := Option.some.inj ho
          have e0 : a'.eval (.tmp 88) = .bool true := is_tq (hin 16 88 (by kernel_rfl) (by kernel_rfl)) rfl
          have e1 : a'.eval (.tmp 91) = .bool true := is_tq (hin 19 91 (by kernel_rfl) (by kernel_rfl)) rfl
          exact o_pick (.tmp 88) (.tmp 91) rfl _ e0 e1 ⟨_, rfl, tq_is _ _ _ _ rfl, Kept.refl _ _, fun _ _ _ _ _ => trivial⟩
        | 21, ho, hsk =>
          obtain rfl := Option.some.inj ho
          have e0 : a'.eval (.tmp 92) = .bool true := is_tq (hin 20 92 (by kernel_rfl) (by kernel_rfl)) rfl
          exact wp_move (.tmp 92) rfl _ e0 ⟨_, rfl, tq_is _ _ _ _ rfl, Kept.refl _ _, fun _ _ _ _ _ => trivial⟩
        | 22, ho, hsk =>
          obtain rfl := Option.some.inj ho
          refine wp_callF 7 _ _ rfl #[] (by simp) (cg7 _ _) ((known7 _).mono ?_)
          rintro e w3 ⟨rfl, hk3⟩
          exact ⟨_, rfl, _, rfl, tq_is _ _ _ _ rfl, hk3, fun _ _ _ _ _ => trivial⟩
        | 23, ho, hsk =>
          obtain rfl := Option.some.inj ho
          have e0 : a'.eval (.tmp 93) = .bool true := is_tq (hin 21 93 (by kernel_rfl) (by kernel_rfl)) rfl
          have e1 : a'.eval (.tmp 94) = .bool true := is_tq (hin 22 94 (by kernel_rfl) (by kernel_rfl)) rfl
          exact o_pick (.tmp 93) (.tmp 94) rfl _ e0 e1 ⟨_, rfl, tq_is _ _ _ _ rfl, Kept.refl _ _, fun _ _ _ _ _ => trivial⟩
        | 24, ho, hsk =>
          obtain rfl := Option.some.inj ho
          have e0 : a'.eval (.tmp 95) = .bool true := is_tq (hin 23 95 (by kernel_rfl) (by kernel_rfl)) rfl
          exact wp_assignV (.tmp 95) rfl _ e0 ⟨_, rfl, tq_is _ _ _ _ rfl, Kept.refl _ _, fun _ _ _ _ _ => trivial⟩
      intro w9 hk9
      replace hk9 : Kept [] wc w9 := ⟨hk9.os, hk9.tape, hk9.output, hk9.size, hk9.block⟩
      simp only [valsQ, List.map_cons, List.map_nil, Option.getD_some, List.take_succ_cons, List.take_zero, putAll, Act.put, List.setIfInBounds_toArray, List.set_cons_succ, List.set_cons_zero]
      refine wpAny_done (by kernel_rfl) ?_ _
      replace HQ := hide ((unhide HQ).step0 hk9)
      go_wp2_with fail
      go_ret
      exact ⟨rfl, (unhide HQ).k⟩

end Go.Proofs.Ythihladmifpokaa
