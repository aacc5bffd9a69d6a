/-
  The walk of the law PageGets.
-/
import Derived.Test.YtnflcajidgbbbaaDoorRst
namespace Go.Proofs.YtnflcajidgbbbaaDoor
open Go.RowKit

theorem rget_at {p : Int} {a b : List Int} (ha : Byts 64 a) (hb : Byts 64 b) {r : (Int × List Int) × Int} (h : getL p a b = r) (w : World) : Calls Tryd.prog 15 #[.int .i64 p, aggV (u8s a), aggV (u8s b)] w fun e w' => e = .returned (.tuple #[aggV (verC r.1.1 r.1.2), .int .i64 r.2]) ∧ Kept [] w w' := h ▸ rget15 p a b ha hb w
theorem rst_at {s : List Int} (hs : Byts 64 s) {r : (Int × Int × Int) × Bool} (h : stampL s = r) (w : World) : Calls Tryd.prog 17 #[aggV (u8s s)] w fun e w' => e = .returned (.tuple #[aggV (stC r.1.1 r.1.2.1 r.1.2.2), .bool r.2]) ∧ Kept [] w w' := h ▸ rstamp17 s hs w
theorem whole_g {p : Int} {a b : List Int} (ha : Byts 64 a) (hb : Byts 64 b) {r : (Int × List Int) × Int} (h : getL p a b = r) {c : Bool} (hc : decide (r.2 = 0) = c) (w : World) : Calls Tryd.prog 14 #[.int .i64 p, aggV (u8s a), aggV (u8s b)] w fun e w' => e = .returned (.bool c) ∧ Kept [] w w' := by
  subst h
  exact hc ▸ whole14 p a b ha hb w
theorem ver_l {w : World} {b T : Nat} {x y : List Value} (h : Blk w b T (x ++ y)) : w.rangeAt b 0 x := h.rangeIn _ (fun j hj => by rw [Nat.zero_add, List.getElem?_append_left hj])
theorem ver_r {w : World} {b T : Nat} {x y : List Value} (hx : x.length = 97) (h : Blk w b T (x ++ y)) : w.rangeAt b 97 y := h.rangeIn _ (fun j _ => by rw [List.getElem?_append_right (by omega), hx, Nat.add_sub_cancel_left])
theorem ver_c {n m : Int} {s t : List Int} (hs : s.length = 96) : (verC n s ++ verC m t)[97]? = some (.int .i64 m) := by
  rw [List.getElem?_append_right (by rw [verC_len hs]; omega), verC_len hs]
  rfl
theorem Mem.less {w W : World} {Bs Cs : List (Nat × Nat × List Value)} (h : Mem w W Bs) (hs : ∀ x ∈ Cs, x ∈ Bs) : Mem w W Cs := ⟨fun x hx => h.blk x (hs x hx), h.k⟩
theorem cf18 (vs : Array Value) (w : World) : (callFunc 18 vs).run Tryd.prog w = .ok (.enter 18 vs) w := by kernel_rfl

section
variable {o : Oper} {a : Act} {w : World} {K : Act → World → Prop} {Q : Exit → Act → World → Prop}
theorem o_eql3' (x y : Operand) (ho : o.op = .binOp .eql 3 x y 3) (m : Int) (hx : a.eval x = .int .i64 m) (hy : a.eval y = .int .i64 m) (h : K (a.put o.dst (.bool true)) w) : o.wp Tryd.prog a w K Q := by
  unfold Oper.wp execOp
  simp only [ho, hx, hy]
  simp [go_sem]
  exact h
theorem o_eql4 (x y : Operand) (ho : o.op = .binOp .eql 4 x y 4) (r : Bool) (hx : a.eval x = .bool r) (hy : a.eval y = .bool r) (h : K (a.put o.dst (.bool true)) w) : o.wp Tryd.prog a w K Q := by
  unfold Oper.wp execOp
  simp only [ho, hx, hy]
  simp [go_sem]
  exact h
theorem o_gtr2 (x y : Operand) (ho : o.op = .binOp .gtr 2 x y 2) (n m : Int) (r : Bool) (hr : decide (m < n) = r) (hx : a.eval x = .int .i64 n) (hy : a.eval y = .int .i64 m) (h : K (a.put o.dst (.bool r)) w) : o.wp Tryd.prog a w K Q := by
  unfold Oper.wp execOp
  simp only [ho, hx, hy]
  simp [go_sem, hr]
  exact h
theorem o_idx40 (x : Operand) (k : Nat) (hk : k < 2) (ho : o.op = .indexAddr 40 x (.const (.int .i64 k))) (b : Nat) (hx : a.eval x = P0 b) (h : K (a.put o.dst (.pointer (some ⟨b, 97 * k, none⟩))) w) : o.wp Tryd.prog a w K Q := by
  unfold Oper.wp execOp
  simp only [ho, hx]
  rcases (show k = 0 ∨ k = 1 by omega) with rfl | rfl <;> exact h
theorem o_fieldV (x : Operand) (ho : o.op = .fieldAddr 25 x 0) (b f : Nat) (hx : a.eval x = .pointer (some ⟨b, f, none⟩)) (h : K (a.put o.dst (.pointer (some ⟨b, f, none⟩))) w) : o.wp Tryd.prog a w K Q := by
  unfold Oper.wp execOp
  simp only [ho, hx]
  exact h
end

def getsT (p n m gn gc : Int) (a b s t gs : List Int) (b4 b5 : Nat) (c r : Bool) : List Fc := [.is (aggV (verC gn gs)), .is (aggV (verC gn gs)), .is (.bool true), .is (.bool true), .is (.int .i64 gc), .is (.int .i64 gc), .is (.int .i64 gc), .is (.bool true), .is (.bool true), .is (.bool true), .is (.int .i64 p), .is (.pointer (some ⟨b4, 0, none⟩)), .is (aggV (u8s a)), .is (.pointer (some ⟨b4, 64, none⟩)), .is (aggV (u8s b)), .is (.bool c), .is (.int .i64 gc), .is (.bool c), .is (.bool true), .is (.bool true), .is (.bool true), .is (.pointer (some ⟨b5, 0, none⟩)), .is (aggV (verC n s)), .is (.pointer (some ⟨b5, 97, none⟩)), .is (aggV (verC m t)), .is (.bool r), .is (.pointer (some ⟨b5, 0, none⟩)), .is (.pointer (some ⟨b5, 0, none⟩)), .is (.int .i64 n), .is (.pointer (some ⟨b5, 97, none⟩)), .is (.pointer (some ⟨b5, 97, none⟩)), .is (.int .i64 m), .is (.bool r), .is (.bool true), .is (.bool true), .is (.bool true), .is (.bool true), .is (.bool true), .is (.bool true)]
set_option maxHeartbeats 8000000 in
set_option maxRecDepth 100000 in
theorem gets_go (p n m : Int) (a b s t : List Int) (ha : Byts 64 a) (hb : Byts 64 b) (hs : s.length = 96) (ht : t.length = 96) (gn gc : Int) (gs : List Int) (hG : Hid (getL p a b = ((gn, gs), gc))) (hgl : gs.length = 96) (x1 x2 x3 : Int) (r1 : Bool) (hA : Hid (stampL a = ((x1, x2, x3), r1))) (y1 y2 y3 : Int) (r2 : Bool) (hB : Hid (stampL b = ((y1, y2, y3), r2))) (c r : Bool) (hc : decide (gc = 0) = c) (hr : decide (m < n) = r) (w : World) : Calls Tryd.prog 4 #[.int .i64 p, aggV (u8s (a ++ b)), aggV (verC n s ++ verC m t)] w fun e w' => e = .returned (.bool true) ∧ Kept [] w w' := by
  have hgv : (verC gn gs).length = 97 := verC_len hgl
  go_enter Tryd.func4, Tryd.ntmps4
  go_wp2_with (
    first
    | (refine wpBoxV 4 (by rfl) (by rfl) (.tmp 1) (by rfl) (u8s (a ++ b)) (by rfl) ?_
       intro W4 b4 hb4 B4 K4
       have M : Hid (Mem w W4 [(b4, 28, u8s (a ++ b))]) := ⟨by simpa using B4, K4⟩
       clear hb4 B4 K4)
    | (refine wpBoxV 5 (by rfl) (by rfl) (.tmp 2) (by rfl) (verC n s ++ verC m t) (by rfl) ?_
       intro W5 b5 hb5 B5 K5
       replace M := hide ((unhide M).add K5 B5)
       clear hb5 B5 K5)
    | (refine wpLoadA row27 (by rfl) (.tmp 18) (by rfl) b4 0 (by kernel_rfl) (u8s a) (by rw [u8s_len, ha.len]) (pair_l (y := b) ((unhide M).blk (b4, 28, u8s (a ++ b)) (by simp))) ?_)
    | (refine wpLoadA row27 (by rfl) (.tmp 20) (by rfl) b4 64 (by kernel_rfl) (u8s b) (by rw [u8s_len, hb.len]) (pair_r (x := a) ha.len ((unhide M).blk (b4, 28, u8s (a ++ b)) (by simp))) ?_))
  refine (get_at ha hb (unhide hG) _).mono ?_
  rintro e w1 ⟨rfl, k1⟩
  replace M := hide ((unhide M).quiet k1)
  clear k1
  go_wp2_with (
    first
    | (refine wpNew row25 (verC 0 (zs 96)) verC_zero zero25 7 (by rfl) (by rfl) (by rfl) (.tmp 23) (by rfl) (by rfl) (by rfl) (verC gn gs) hgv (verC_one _ _) (by kernel_rfl) (by kernel_rfl) ?_
       intro W7 b7 hb7 B7 K7
       replace M := hide ((unhide M).add K7 B7)
       clear hb7 B7 K7)
    | (refine wpLoadA row27 (by rfl) (.tmp 27) (by rfl) b4 0 (by kernel_rfl) (u8s a) (by rw [u8s_len, ha.len]) (pair_l (y := b) ((unhide M).blk (b4, 28, u8s (a ++ b)) (by simp))) ?_)
    | (refine wpLoadA row27 (by rfl) (.tmp 29) (by rfl) b4 64 (by kernel_rfl) (u8s b) (by rw [u8s_len, hb.len]) (pair_r (x := a) ha.len ((unhide M).blk (b4, 28, u8s (a ++ b)) (by simp))) ?_))
  refine (rget_at ha hb (unhide hG) _).mono ?_
  rintro e w2 ⟨rfl, k2⟩
  replace M := hide ((unhide M).quiet k2)
  clear k2
  go_wp2_with (
    first
    | (refine wpNew row25 (verC 0 (zs 96)) verC_zero zero25 9 (by rfl) (by rfl) (by rfl) (.tmp 32) (by rfl) (by rfl) (by rfl) (verC gn gs) hgv (verC_one _ _) (by kernel_rfl) (by kernel_rfl) ?_
       intro W9 b9 hb9 B9 K9
       replace M := hide ((unhide M).add K9 B9)
       clear hb9 B9 K9))
  go_loopw [11] (fun i wr => (i = .int .i64 0 ∨ i = .int .i64 1 ∨ i = .int .i64 2) ∧ Hid (Mem w wr [(b9, 25, verC gn gs), (b7, 25, verC gn gs), (b5, 40, verC n s ++ verC m t), (b4, 28, u8s (a ++ b))])) (fun i _ => 2 - (intOf i).toNat)
  case atStart => exact ⟨.inl rfl, M⟩
  case round =>
    clear M
    obtain ⟨hi, M⟩ := hrel
    rcases hi with rfl | rfl | rfl
    · go_wp2_with (
        first
        | (refine wpLoadA row27 (by rfl) (.tmp 40) (by rfl) b4 0 (by kernel_rfl) (u8s a) (by rw [u8s_len, ha.len]) (pair_l (y := b) ((unhide M).blk (b4, 28, u8s (a ++ b)) (by simp))) ?_))
      refine (stamp_at ha (unhide hA) _).mono ?_
      rintro e w1 ⟨rfl, k1⟩
      replace M := hide ((unhide M).quiet k1)
      clear k1
      go_wp2_with (
        first
        | (refine wpNew row44 (stC 0 0 0) rfl zero44 12 (by rfl) (by rfl) (by rfl) (.tmp 43) (by rfl) (by rfl) (by rfl) (stC x1 x2 x3) rfl (stC_one _ _ _) (by kernel_rfl) (by kernel_rfl) ?_
           intro W12 b12 hb12 B12 K12
           replace M := hide ((unhide M).add K12 B12)
           clear hb12 B12 K12)
        | (refine wpLoadA row27 (by rfl) (.tmp 47) (by rfl) b4 0 (by kernel_rfl) (u8s a) (by rw [u8s_len, ha.len]) (pair_l (y := b) ((unhide M).blk (b4, 28, u8s (a ++ b)) (by simp))) ?_))
      refine (rst_at ha (unhide hA) _).mono ?_
      rintro e w2 ⟨rfl, k2⟩
      replace M := hide ((unhide M).quiet k2)
      clear k2
      go_wp2_with (
        first
        | (refine wpNew row44 (stC 0 0 0) rfl zero44 14 (by rfl) (by rfl) (by rfl) (.tmp 50) (by rfl) (by rfl) (by rfl) (stC x1 x2 x3) rfl (stC_one _ _ _) (by kernel_rfl) (by kernel_rfl) ?_
           intro W14 b14 hb14 B14 K14
           replace M := hide ((unhide M).add K14 B14)
           clear hb14 B14 K14)
        | (refine wpLoadA row44 (by rfl) (.tmp 12) (by rfl) b12 0 (by kernel_rfl) (stC x1 x2 x3) rfl ((unhide M).blk (b12, 44, stC x1 x2 x3) (by simp)).range ?_)
        | (refine wpLoadA row44 (by rfl) (.tmp 14) (by rfl) b14 0 (by kernel_rfl) (stC x1 x2 x3) rfl ((unhide M).blk (b14, 44, stC x1 x2 x3) (by simp)).range ?_)
        | (refine wpNeqA 44 44 guard44 (.tmp 52) (.tmp 53) (by rfl) (by rfl) (stC x1 x2 x3) (stC x1 x2 x3) (by kernel_rfl) (by kernel_rfl) true ((equal44 _ _ _ _ _ _ _).trans (by simp)) ?_))
      go_roundw
      case rel =>
        refine ⟨.inr (.inl (by go_num)), hide ((unhide M).less (by simp))⟩
      case measure => simp [intOf]
    · go_wp2_with (
        first
        | (refine wpLoadA row27 (by rfl) (.tmp 40) (by rfl) b4 64 (by kernel_rfl) (u8s b) (by rw [u8s_len, hb.len]) (pair_r (x := a) ha.len ((unhide M).blk (b4, 28, u8s (a ++ b)) (by simp))) ?_))
      refine (stamp_at hb (unhide hB) _).mono ?_
      rintro e w1 ⟨rfl, k1⟩
      replace M := hide ((unhide M).quiet k1)
      clear k1
      go_wp2_with (
        first
        | (refine wpNew row44 (stC 0 0 0) rfl zero44 12 (by rfl) (by rfl) (by rfl) (.tmp 43) (by rfl) (by rfl) (by rfl) (stC y1 y2 y3) rfl (stC_one _ _ _) (by kernel_rfl) (by kernel_rfl) ?_
           intro W12 b12 hb12 B12 K12
           replace M := hide ((unhide M).add K12 B12)
           clear hb12 B12 K12)
        | (refine wpLoadA row27 (by rfl) (.tmp 47) (by rfl) b4 64 (by kernel_rfl) (u8s b) (by rw [u8s_len, hb.len]) (pair_r (x := a) ha.len ((unhide M).blk (b4, 28, u8s (a ++ b)) (by simp))) ?_))
      refine (rst_at hb (unhide hB) _).mono ?_
      rintro e w2 ⟨rfl, k2⟩
      replace M := hide ((unhide M).quiet k2)
      clear k2
      go_wp2_with (
        first
        | (refine wpNew row44 (stC 0 0 0) rfl zero44 14 (by rfl) (by rfl) (by rfl) (.tmp 50) (by rfl) (by rfl) (by rfl) (stC y1 y2 y3) rfl (stC_one _ _ _) (by kernel_rfl) (by kernel_rfl) ?_
           intro W14 b14 hb14 B14 K14
           replace M := hide ((unhide M).add K14 B14)
           clear hb14 B14 K14)
        | (refine wpLoadA row44 (by rfl) (.tmp 12) (by rfl) b12 0 (by kernel_rfl) (stC y1 y2 y3) rfl ((unhide M).blk (b12, 44, stC y1 y2 y3) (by simp)).range ?_)
        | (refine wpLoadA row44 (by rfl) (.tmp 14) (by rfl) b14 0 (by kernel_rfl) (stC y1 y2 y3) rfl ((unhide M).blk (b14, 44, stC y1 y2 y3) (by simp)).range ?_)
        | (refine wpNeqA 44 44 guard44 (.tmp 52) (.tmp 53) (by rfl) (by rfl) (stC y1 y2 y3) (stC y1 y2 y3) (by kernel_rfl) (by kernel_rfl) true ((equal44 _ _ _ _ _ _ _).trans (by simp)) ?_))
      go_roundw
      case rel =>
        refine ⟨.inr (.inr (by go_num)), hide ((unhide M).less (by simp))⟩
      case measure => simp [intOf]
    · go_wp2_with fail
      refine wp_region_allS mixed 39 rfl (by kernel_rfl) (tc (getsT p n m gn gc a b s t gs b4 b5 c r)) (fun _ _ _ _ => True) (skipOf (getsT p n m gn gc a b s t gs b4 b5 c r)) (fun j o i b _ => guardsS_some (by kernel_rfl) j o i b) (fun j o _ => guardsS_none (by kernel_rfl) j o) (fun j w => skip_undef w) (fun _ _ _ _ => trivial) (tc_kept _) (by kernel_rfl) ?_ ?_
      · intro j o hj hs' ho a1 w2 hout hin hk
        show o.wp Tryd.prog a1 w2 (opPc (getsT p n m gn gc a b s t gs b4 b5 c r) o a1 w2 j 39) _
        match j, ho with
        | 0, ho =>
          obtain rfl := Option.some.inj ho
          exact wp_loadA row25 (.tmp 7) rfl b7 0 ((hout 7 (by kernel_rfl)).trans (by kernel_rfl)) (verC gn gs) hgv (((unhide M).blk (b7, 25, verC gn gs) (by simp)).kept hk (by simp)).range (postc rfl (Kept.refl _ _))
        | 1, ho =>
          obtain rfl := Option.some.inj ho
          exact wp_loadA row25 (.tmp 9) rfl b9 0 ((hout 9 (by kernel_rfl)).trans (by kernel_rfl)) (verC gn gs) hgv (((unhide M).blk (b9, 25, verC gn gs) (by simp)).kept hk (by simp)).range (postc rfl (Kept.refl _ _))
        | 2, ho =>
          obtain rfl := Option.some.inj ho
          exact o_eqlA 25 25 guard25 (.tmp 60) (.tmp 61) rfl (verC gn gs) (verC gn gs) (hin 0 60 (by kernel_rfl) (by kernel_rfl)) (hin 1 61 (by kernel_rfl) (by kernel_rfl)) true ((equal25 _ _ _ _ _ hgl hgl).trans (by simp)) (postc rfl (Kept.refl _ _))
        | 3, ho =>
          obtain rfl := Option.some.inj ho
          exact wp_move (.tmp 62) rfl (by rw [show a1.eval (.tmp 62) = _ from (hin 2 62 (by kernel_rfl) (by kernel_rfl))]; exact (postc rfl (Kept.refl _ _)))
        | 4, ho =>
          obtain rfl := Option.some.inj ho
          exact wp_move (.tmp 8) rfl (by rw [show a1.eval (.tmp 8) = _ from ((hout 8 (by kernel_rfl)).trans (by kernel_rfl))]; exact (postc rfl (Kept.refl _ _)))
        | 5, ho =>
          obtain rfl := Option.some.inj ho
          have e0 : a1.eval (.tmp 64) = _ := (hin 4 64 (by kernel_rfl) (by kernel_rfl))
          refine wp_callF 10 _ _ rfl #[.int .i64 gc] (by simp [e0]) (cf10 _ _) ((num10 _ w2).mono ?_)
          rintro x w3 ⟨rfl, hw3⟩
          exact ⟨_, rfl, postc rfl (by rw [hw3]; exact Kept.refl _ _)⟩
        | 6, ho =>
          obtain rfl := Option.some.inj ho
          exact wp_move (.tmp 10) rfl (by rw [show a1.eval (.tmp 10) = _ from ((hout 10 (by kernel_rfl)).trans (by kernel_rfl))]; exact (postc rfl (Kept.refl _ _)))
        | 7, ho =>
          obtain rfl := Option.some.inj ho
          exact o_eql3' (.tmp 65) (.tmp 66) rfl gc (hin 5 65 (by kernel_rfl) (by kernel_rfl)) (hin 6 66 (by kernel_rfl) (by kernel_rfl)) (postc rfl (Kept.refl _ _))
        | 8, ho =>
          obtain rfl := Option.some.inj ho
          exact o_pick (.tmp 63) (.tmp 67) rfl true (hin 3 63 (by kernel_rfl) (by kernel_rfl)) (hin 7 67 (by kernel_rfl) (by kernel_rfl)) (postc rfl (Kept.refl _ _))
        | 9, ho =>
          obtain rfl := Option.some.inj ho
          exact wp_move (.tmp 68) rfl (by rw [show a1.eval (.tmp 68) = _ from (hin 8 68 (by kernel_rfl) (by kernel_rfl))]; exact (postc rfl (Kept.refl _ _)))
        | 10, ho =>
          obtain rfl := Option.some.inj ho
          exact wp_move (.tmp 0) rfl (by rw [show a1.eval (.tmp 0) = _ from ((hout 0 (by kernel_rfl)).trans (by kernel_rfl))]; exact (postc rfl (Kept.refl _ _)))
        | 11, ho =>
          obtain rfl := Option.some.inj ho
          exact o_idx28 (.tmp 4) 0 (by omega) rfl b4 ((hout 4 (by kernel_rfl)).trans (by kernel_rfl)) (postc rfl (Kept.refl _ _))
        | 12, ho =>
          obtain rfl := Option.some.inj ho
          exact wp_loadA row27 (.tmp 71) rfl b4 0 (hin 11 71 (by kernel_rfl) (by kernel_rfl)) (u8s a) (by rw [u8s_len, ha.len]) (pair_l (y := b) (((unhide M).blk (b4, 28, u8s (a ++ b)) (by simp)).kept hk (by simp))) (postc rfl (Kept.refl _ _))
        | 13, ho =>
          obtain rfl := Option.some.inj ho
          exact o_idx28 (.tmp 4) 1 (by omega) rfl b4 ((hout 4 (by kernel_rfl)).trans (by kernel_rfl)) (postc rfl (Kept.refl _ _))
        | 14, ho =>
          obtain rfl := Option.some.inj ho
          exact wp_loadA row27 (.tmp 73) rfl b4 64 (hin 13 73 (by kernel_rfl) (by kernel_rfl)) (u8s b) (by rw [u8s_len, hb.len]) (pair_r (x := a) ha.len (((unhide M).blk (b4, 28, u8s (a ++ b)) (by simp)).kept hk (by simp))) (postc rfl (Kept.refl _ _))
        | 15, ho =>
          obtain rfl := Option.some.inj ho
          have e0 : a1.eval (.tmp 70) = _ := (hin 10 70 (by kernel_rfl) (by kernel_rfl))
          have e1 : a1.eval (.tmp 72) = _ := (hin 12 72 (by kernel_rfl) (by kernel_rfl))
          have e2 : a1.eval (.tmp 74) = _ := (hin 14 74 (by kernel_rfl) (by kernel_rfl))
          refine wp_callF 14 _ _ rfl #[.int .i64 p, aggV (u8s a), aggV (u8s b)] (by simp [e0, e1, e2]) (cf14 _ _) ((whole_g ha hb (unhide hG) hc w2).mono ?_)
          rintro x w3 ⟨rfl, hk3⟩
          exact ⟨_, rfl, postc rfl hk3⟩
        | 16, ho =>
          obtain rfl := Option.some.inj ho
          exact wp_move (.tmp 10) rfl (by rw [show a1.eval (.tmp 10) = _ from ((hout 10 (by kernel_rfl)).trans (by kernel_rfl))]; exact (postc rfl (Kept.refl _ _)))
        | 17, ho =>
          obtain rfl := Option.some.inj ho
          exact o_eql3 (.tmp 76) 0 rfl gc c hc (hin 16 76 (by kernel_rfl) (by kernel_rfl)) (postc rfl (Kept.refl _ _))
        | 18, ho =>
          obtain rfl := Option.some.inj ho
          exact o_eql4 (.tmp 75) (.tmp 77) rfl c (hin 15 75 (by kernel_rfl) (by kernel_rfl)) (hin 17 77 (by kernel_rfl) (by kernel_rfl)) (postc rfl (Kept.refl _ _))
        | 19, ho =>
          obtain rfl := Option.some.inj ho
          exact o_pick (.tmp 69) (.tmp 78) rfl true (hin 9 69 (by kernel_rfl) (by kernel_rfl)) (hin 18 78 (by kernel_rfl) (by kernel_rfl)) (postc rfl (Kept.refl _ _))
        | 20, ho =>
          obtain rfl := Option.some.inj ho
          exact wp_move (.tmp 79) rfl (by rw [show a1.eval (.tmp 79) = _ from (hin 19 79 (by kernel_rfl) (by kernel_rfl))]; exact (postc rfl (Kept.refl _ _)))
        | 21, ho =>
          obtain rfl := Option.some.inj ho
          exact o_idx40 (.tmp 5) 0 (by omega) rfl b5 ((hout 5 (by kernel_rfl)).trans (by kernel_rfl)) (postc rfl (Kept.refl _ _))
        | 22, ho =>
          obtain rfl := Option.some.inj ho
          exact wp_loadA row25 (.tmp 81) rfl b5 0 (hin 21 81 (by kernel_rfl) (by kernel_rfl)) (verC n s) (verC_len hs) (ver_l (y := verC m t) (((unhide M).blk (b5, 40, verC n s ++ verC m t) (by simp)).kept hk (by simp))) (postc rfl (Kept.refl _ _))
        | 23, ho =>
          obtain rfl := Option.some.inj ho
          exact o_idx40 (.tmp 5) 1 (by omega) rfl b5 ((hout 5 (by kernel_rfl)).trans (by kernel_rfl)) (postc rfl (Kept.refl _ _))
        | 24, ho =>
          obtain rfl := Option.some.inj ho
          exact wp_loadA row25 (.tmp 83) rfl b5 97 (hin 23 83 (by kernel_rfl) (by kernel_rfl)) (verC m t) (verC_len ht) (ver_r (x := verC n s) (verC_len hs) (((unhide M).blk (b5, 40, verC n s ++ verC m t) (by simp)).kept hk (by simp))) (postc rfl (Kept.refl _ _))
        | 25, ho =>
          obtain rfl := Option.some.inj ho
          have e0 : a1.eval (.tmp 82) = _ := (hin 22 82 (by kernel_rfl) (by kernel_rfl))
          have e1 : a1.eval (.tmp 84) = _ := (hin 24 84 (by kernel_rfl) (by kernel_rfl))
          refine wp_callF 18 _ _ rfl #[aggV (verC n s), aggV (verC m t)] (by simp [e0, e1]) (cf18 _ _) ((better18 n m s t r hr w2).mono ?_)
          rintro x w3 ⟨rfl, hk3⟩
          exact ⟨_, rfl, postc rfl hk3⟩
        | 26, ho =>
          obtain rfl := Option.some.inj ho
          exact o_idx40 (.tmp 5) 0 (by omega) rfl b5 ((hout 5 (by kernel_rfl)).trans (by kernel_rfl)) (postc rfl (Kept.refl _ _))
        | 27, ho =>
          obtain rfl := Option.some.inj ho
          exact o_fieldV (.tmp 86) rfl b5 0 (hin 26 86 (by kernel_rfl) (by kernel_rfl)) (postc rfl (Kept.refl _ _))
        | 28, ho =>
          obtain rfl := Option.some.inj ho
          exact o_load2 (.tmp 87) rfl ⟨b5, 0, none⟩ _ (hin 27 87 (by kernel_rfl) (by kernel_rfl)) (fits_cell (((unhide M).blk (b5, 40, verC n s ++ verC m t) (by simp)).kept hk (by simp)) 0 _ rfl) (postc rfl (Kept.refl _ _))
        | 29, ho =>
          obtain rfl := Option.some.inj ho
          exact o_idx40 (.tmp 5) 1 (by omega) rfl b5 ((hout 5 (by kernel_rfl)).trans (by kernel_rfl)) (postc rfl (Kept.refl _ _))
        | 30, ho =>
          obtain rfl := Option.some.inj ho
          exact o_fieldV (.tmp 89) rfl b5 97 (hin 29 89 (by kernel_rfl) (by kernel_rfl)) (postc rfl (Kept.refl _ _))
        | 31, ho =>
          obtain rfl := Option.some.inj ho
          exact o_load2 (.tmp 90) rfl ⟨b5, 97, none⟩ _ (hin 30 90 (by kernel_rfl) (by kernel_rfl)) (fits_cell (((unhide M).blk (b5, 40, verC n s ++ verC m t) (by simp)).kept hk (by simp)) 97 _ (ver_c hs)) (postc rfl (Kept.refl _ _))
        | 32, ho =>
          obtain rfl := Option.some.inj ho
          exact o_gtr2 (.tmp 88) (.tmp 91) rfl n m r hr (hin 28 88 (by kernel_rfl) (by kernel_rfl)) (hin 31 91 (by kernel_rfl) (by kernel_rfl)) (postc rfl (Kept.refl _ _))
        | 33, ho =>
          obtain rfl := Option.some.inj ho
          exact o_eql4 (.tmp 85) (.tmp 92) rfl r (hin 25 85 (by kernel_rfl) (by kernel_rfl)) (hin 32 92 (by kernel_rfl) (by kernel_rfl)) (postc rfl (Kept.refl _ _))
        | 34, ho =>
          obtain rfl := Option.some.inj ho
          exact o_pick (.tmp 80) (.tmp 93) rfl true (hin 20 80 (by kernel_rfl) (by kernel_rfl)) (hin 33 93 (by kernel_rfl) (by kernel_rfl)) (postc rfl (Kept.refl _ _))
        | 35, ho =>
          obtain rfl := Option.some.inj ho
          exact wp_move (.tmp 94) rfl (by rw [show a1.eval (.tmp 94) = _ from (hin 34 94 (by kernel_rfl) (by kernel_rfl))]; exact (postc rfl (Kept.refl _ _)))
        | 36, ho =>
          obtain rfl := Option.some.inj ho
          refine wp_callF 11 _ _ rfl #[] (by simp) (cf11 _ _) ((known11 w2).mono ?_)
          rintro x w3 ⟨rfl, hk3⟩
          exact ⟨_, rfl, postc rfl hk3⟩
        | 37, ho =>
          obtain rfl := Option.some.inj ho
          exact o_pick (.tmp 95) (.tmp 96) rfl true (hin 35 95 (by kernel_rfl) (by kernel_rfl)) (hin 36 96 (by kernel_rfl) (by kernel_rfl)) (postc rfl (Kept.refl _ _))
        | 38, ho =>
          obtain rfl := Option.some.inj ho
          exact wp_assign (.tmp 97) rfl 6 rfl _ (hin 37 97 (by kernel_rfl) (by kernel_rfl)) (postc rfl (Kept.refl _ _))
      · intro A w3 hdef _ hF _ hk3
        have hM := (unhide M).k.trans hk3
        have h0 : A.eval (.tmp 6) = .bool true := hF 38 6 (by omega) (by kernel_rfl)
        have hd : A.defers = [] := hdef.trans rfl
        clear hF hdef
        go_wp2_with fail
        exact bodyPost_ret (results_tmp rfl _ _ _) hd ⟨congrArg Ending.returned h0, hM⟩

theorem gets4 (p n m : Int) (a b s t : List Int) (ha : Byts 64 a) (hb : Byts 64 b) (hs : s.length = 96) (ht : t.length = 96) (w : World) : Calls Tryd.prog 4 #[.int .i64 p, aggV (u8s (a ++ b)), aggV (verC n s ++ verC m t)] w fun e w' => e = .returned (.bool true) ∧ Kept [] w w' :=
  gets_go p n m a b s t ha hb hs ht (getL p a b).1.1 (getL p a b).2 (getL p a b).1.2 (hide rfl) (getL_byts ha hb).len (stampL a).1.1 (stampL a).1.2.1 (stampL a).1.2.2 (stampL a).2 (hide rfl) (stampL b).1.1 (stampL b).1.2.1 (stampL b).1.2.2 (stampL b).2 (hide rfl) _ _ rfl rfl w

end Go.Proofs.YtnflcajidgbbbaaDoor
