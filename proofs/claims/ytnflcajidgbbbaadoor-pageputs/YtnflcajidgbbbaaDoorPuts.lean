/-
  The walk of the law PagePuts.
-/
import Derived.Test.YtnflcajidgbbbaaDoorHalf
namespace Go.Proofs.YtnflcajidgbbbaaDoor
open Go.RowKit

theorem half_zs : halfL (zs 64) = zs 48 := by rfl
theorem get_put {p n : Int} {s : List Int} (hs : Byts 96 s) (h : (putL p n s).2 = 0) : getL p (fstL p n s) (sndL p n s) = ((n, s), 0) := by
  obtain ⟨h1, h2, h3⟩ := putL_ok h
  have e1 : psnL (fstL p n s) = n := fst_psn h3
  have e2 : halfL (fstL p n s) ++ halfL (sndL p n s) = s := by
    unfold fstL sndL
    by_cases h0 : n = 0
    · rw [if_pos h0, if_pos h0, half_zs]
      have : s = zs 96 := by unfold isVer at h2; rw [if_pos h0] at h2; simpa using h2
      rw [this]
      simp [zs]
    · rw [if_neg h0, if_neg h0, laid_half _ _ _ (take48 hs).len, laid_half _ _ _ (drop48 hs).len, List.take_append_drop]
  unfold getL
  rw [e1, e2, if_neg (by simp [h1]), if_neg ?_]
  rw [h, putL_eq h]
  simp
theorem put_no {p n : Int} {s : List Int} (h : (isPageB p && isVer n s) = false) : putL p n s = (zs 128, 2) := by unfold putL; rw [if_pos h]
theorem put_code {p n : Int} {s : List Int} (h : (isPageB p && isVer n s) = true) : (putL p n s).2 = 0 := by
  unfold putL
  rw [if_neg (by rw [h]; simp)]
  split <;> rfl
theorem get_back {p n : Int} {s : List Int} (hs : Byts 96 s) (h : (putL p n s).2 = 0) (w : World) : Calls Tryd.prog 12 #[.int .i64 p, aggV (u8s (fstL p n s)), aggV (u8s (sndL p n s))] w fun e w' => e = .returned (.tuple #[aggV (verC n s), .int .i64 0]) ∧ Kept [] w w' :=
  get_at (fst_byts hs) (snd_byts hs) (get_put hs h) w
theorem whole_back {p n : Int} {s : List Int} (hs : Byts 96 s) (h : (putL p n s).2 = 0) (w : World) : Calls Tryd.prog 14 #[.int .i64 p, aggV (u8s (fstL p n s)), aggV (u8s (sndL p n s))] w fun e w' => e = .returned (.bool true) ∧ Kept [] w w' := by
  have := whole14 p _ _ (fst_byts (p := p) (n := n) hs) (snd_byts (p := p) (n := n) hs) w
  rw [get_put hs h] at this
  exact this
theorem put_eqP {p n : Int} {s : List Int} (hs : Byts 96 s) (h : (putL p n s).2 = 0) (w : World) : Calls Tryd.prog 8 #[.int .i64 p, aggV (verC n s)] w fun e w' => e = .returned (.tuple #[aggV (u8s (fstL p n s ++ sndL p n s)), .int .i64 0]) ∧ Kept [] w w' := by
  have := put8 p n s hs w
  rw [putL_eq h, h] at this
  exact this
theorem equal28z (W : World) : (Op.equal 28 (aggV (u8s (zs 128))) (aggV (u8s (zs 128)))).run Tryd.prog W = .ok true W := by
  have := equal28 W (zs 64) (zs 64) (zs 64) (zs 64) (by simp [zs]) (by simp [zs]) (by simp [zs]) (by simp [zs])
  rw [← zs2] at this
  exact this.trans (by simp)
theorem cf13' (vs : Array Value) (w : World) : (callFunc 13 vs).run Tryd.prog w = .ok (.enter 13 vs) w := by kernel_rfl

set_option maxHeartbeats 8000000 in
set_option maxRecDepth 100000 in
theorem puts_A (p n : Int) (s : List Int) (hs : Byts 96 s) (hno : Hid ((isPageB p && isVer n s) = false)) (e1 : decide (p < 0) = true) (w : World) : Calls Tryd.prog 3 #[.int .i64 p, aggV (verC n s)] w fun e w' => e = .returned (.bool true) ∧ Kept [] w w' := by
  have hvs : (verC n s).length = 97 := verC_len hs.len
  go_enter Tryd.func3, Tryd.ntmps3
  go_wp2_with (
    first
    | (refine wpBoxV 3 (by rfl) (by rfl) (.tmp 1) (by rfl) (verC n s) (by kernel_rfl) ?_
       intro W3 b3 hb3 B3 K3
       have M : Hid (Mem w W3 [(b3, 25, verC n s)]) := ⟨by simpa using B3, K3⟩
       clear hb3 B3 K3)
    | (refine wpLoadA row25 (by rfl) (.tmp 3) (by rfl) b3 0 (by kernel_rfl) (verC n s) hvs ((unhide M).blk (b3, 25, verC n s) (by simp)).range ?_))
  refine (put_at hs (put_no (unhide hno)) _).mono ?_
  rintro e w1 ⟨rfl, k1⟩
  replace M := hide ((unhide M).quiet k1)
  clear k1
  go_wp2_with (
    first
    | (refine wpNew row28 (u8s (zs 128)) (zl 128) zero28 5 (by rfl) (by rfl) (by rfl) (.tmp 13) (by rfl) (by rfl) (by rfl) (u8s (zs 128)) (zl 128) (u8s_one _) (by kernel_rfl) (by kernel_rfl) ?_
       intro WS bS hbS BS KS
       replace M := hide ((unhide M).add KS BS)
       clear hbS BS KS)
    | (refine wpLoadA row28 (by rfl) (.tmp 5) (by rfl) bS 0 (by kernel_rfl) (u8s (zs 128)) (zl 128) ((unhide M).blk (bS, 28, u8s (zs 128)) (by simp)).range ?_)
    | (refine wpBuildZ (u8s (zs 128)) build28 (by rfl) (by rfl) ?_)
    | (refine wpEqlA 28 28 guard28 (.tmp 26) (.tmp 27) (by rfl) (by rfl) (u8s (zs 128)) (u8s (zs 128)) (by kernel_rfl) (by kernel_rfl) true (equal28z _) ?_)
    | (go_at_call 10; refine (num10 _ _).mono ?_; rintro e w' ⟨rfl, hw'⟩; obtain rfl := hw'.symm))
  refine (known11 _).mono ?_
  rintro e w3 ⟨rfl, k3⟩
  replace M := hide ((unhide M).quiet k3)
  clear k3
  go_wp2_with fail
  go_ret
  exact ⟨rfl, (unhide M).k⟩

set_option maxHeartbeats 8000000 in
set_option maxRecDepth 100000 in
theorem puts_B (p n : Int) (s : List Int) (hs : Byts 96 s) (hno : Hid ((isPageB p && isVer n s) = false)) (e1 : decide (p < 0) = false) (e2 : decide (15 < p) = true) (w : World) : Calls Tryd.prog 3 #[.int .i64 p, aggV (verC n s)] w fun e w' => e = .returned (.bool true) ∧ Kept [] w w' := by
  have hvs : (verC n s).length = 97 := verC_len hs.len
  go_enter Tryd.func3, Tryd.ntmps3
  go_wp2_with (
    first
    | (refine wpBoxV 3 (by rfl) (by rfl) (.tmp 1) (by rfl) (verC n s) (by kernel_rfl) ?_
       intro W3 b3 hb3 B3 K3
       have M : Hid (Mem w W3 [(b3, 25, verC n s)]) := ⟨by simpa using B3, K3⟩
       clear hb3 B3 K3)
    | (refine wpLoadA row25 (by rfl) (.tmp 3) (by rfl) b3 0 (by kernel_rfl) (verC n s) hvs ((unhide M).blk (b3, 25, verC n s) (by simp)).range ?_))
  refine (put_at hs (put_no (unhide hno)) _).mono ?_
  rintro e w1 ⟨rfl, k1⟩
  replace M := hide ((unhide M).quiet k1)
  clear k1
  go_wp2_with (
    first
    | (refine wpNew row28 (u8s (zs 128)) (zl 128) zero28 5 (by rfl) (by rfl) (by rfl) (.tmp 13) (by rfl) (by rfl) (by rfl) (u8s (zs 128)) (zl 128) (u8s_one _) (by kernel_rfl) (by kernel_rfl) ?_
       intro WS bS hbS BS KS
       replace M := hide ((unhide M).add KS BS)
       clear hbS BS KS)
    | (refine wpLoadA row28 (by rfl) (.tmp 5) (by rfl) bS 0 (by kernel_rfl) (u8s (zs 128)) (zl 128) ((unhide M).blk (bS, 28, u8s (zs 128)) (by simp)).range ?_)
    | (refine wpBuildZ (u8s (zs 128)) build28 (by rfl) (by rfl) ?_)
    | (refine wpEqlA 28 28 guard28 (.tmp 26) (.tmp 27) (by rfl) (by rfl) (u8s (zs 128)) (u8s (zs 128)) (by kernel_rfl) (by kernel_rfl) true (equal28z _) ?_)
    | (go_at_call 10; refine (num10 _ _).mono ?_; rintro e w' ⟨rfl, hw'⟩; obtain rfl := hw'.symm))
  refine (known11 _).mono ?_
  rintro e w3 ⟨rfl, k3⟩
  replace M := hide ((unhide M).quiet k3)
  clear k3
  go_wp2_with fail
  go_ret
  exact ⟨rfl, (unhide M).k⟩

set_option maxHeartbeats 8000000 in
set_option maxRecDepth 100000 in
theorem puts_C (p n : Int) (s : List Int) (hs : Byts 96 s) (hno : Hid ((isPageB p && isVer n s) = false)) (hm : Hid (mayB n s = false)) (e1 : decide (p < 0) = false) (e2 : decide (15 < p) = false) (w : World) : Calls Tryd.prog 3 #[.int .i64 p, aggV (verC n s)] w fun e w' => e = .returned (.bool true) ∧ Kept [] w w' := by
  have hvs : (verC n s).length = 97 := verC_len hs.len
  go_enter Tryd.func3, Tryd.ntmps3
  go_wp2_with (
    first
    | (refine wpBoxV 3 (by rfl) (by rfl) (.tmp 1) (by rfl) (verC n s) (by kernel_rfl) ?_
       intro W3 b3 hb3 B3 K3
       have M : Hid (Mem w W3 [(b3, 25, verC n s)]) := ⟨by simpa using B3, K3⟩
       clear hb3 B3 K3)
    | (refine wpLoadA row25 (by rfl) (.tmp 3) (by rfl) b3 0 (by kernel_rfl) (verC n s) hvs ((unhide M).blk (b3, 25, verC n s) (by simp)).range ?_))
  refine (put_at hs (put_no (unhide hno)) _).mono ?_
  rintro e w1 ⟨rfl, k1⟩
  replace M := hide ((unhide M).quiet k1)
  clear k1
  go_wp2_with (
    first
    | (refine wpNew row28 (u8s (zs 128)) (zl 128) zero28 5 (by rfl) (by rfl) (by rfl) (.tmp 13) (by rfl) (by rfl) (by rfl) (u8s (zs 128)) (zl 128) (u8s_one _) (by kernel_rfl) (by kernel_rfl) ?_
       intro WS bS hbS BS KS
       replace M := hide ((unhide M).add KS BS)
       clear hbS BS KS)
    | (refine wpLoadG row25 (.tmp 3) (by rfl) (by kernel_rfl) b3 0 (by kernel_rfl) (verC n s) hvs ((unhide M).blk (b3, 25, verC n s) (by simp)).range ?_))
  refine (may9 n s hs.len _).mono ?_
  rintro e w2 ⟨rfl, k2⟩
  replace M := hide ((unhide M).quiet k2)
  clear k2
  rw [show mayB n s = false from unhide hm]
  go_wp2_with (
    first
    | (refine wpLoadA row28 (by rfl) (.tmp 5) (by rfl) bS 0 (by kernel_rfl) (u8s (zs 128)) (zl 128) ((unhide M).blk (bS, 28, u8s (zs 128)) (by simp)).range ?_)
    | (refine wpBuildZ (u8s (zs 128)) build28 (by rfl) (by rfl) ?_)
    | (refine wpEqlA 28 28 guard28 (.tmp 26) (.tmp 27) (by rfl) (by rfl) (u8s (zs 128)) (u8s (zs 128)) (by kernel_rfl) (by kernel_rfl) true (equal28z _) ?_)
    | (go_at_call 10; refine (num10 _ _).mono ?_; rintro e w' ⟨rfl, hw'⟩; obtain rfl := hw'.symm))
  refine (known11 _).mono ?_
  rintro e w3 ⟨rfl, k3⟩
  replace M := hide ((unhide M).quiet k3)
  clear k3
  go_wp2_with fail
  go_ret
  exact ⟨rfl, (unhide M).k⟩

/-- What the operations of its last statement yield. -/
def putsT (p n : Int) (s : List Int) (bS : Nat) : List Fc := [.is (.int .i64 0), .is (.int .i64 0), .is (.int .i64 0), .is (.int .i64 0), .is (.int .i64 0), .is (.bool true), .is (.bool true), .is (.pointer (some ⟨bS, 0, none⟩)), .is (aggV (u8s (fstL p n s))), .is (.int .i64 p), .is (aggV (verC n s)), .is (aggV (u8s (fstL p n s))), .is (.bool true), .is (.bool true), .is (.bool true), .is (.pointer (some ⟨bS, 64, none⟩)), .is (aggV (u8s (sndL p n s))), .is (.int .i64 p), .is (aggV (verC n s)), .is (aggV (u8s (sndL p n s))), .is (.bool true), .is (.bool true), .is (.bool true), .is (aggV (verC n s)), .is (aggV (verC n s)), .is (.bool true), .is (.bool true), .is (.bool true), .is (.int .i64 p), .is (.pointer (some ⟨bS, 0, none⟩)), .is (aggV (u8s (fstL p n s))), .is (.pointer (some ⟨bS, 64, none⟩)), .is (aggV (u8s (sndL p n s))), .is (.bool true), .is (.bool true), .is (.bool true), .is (.bool true), .is (.bool true), .is (.bool true)]

set_option maxHeartbeats 8000000 in
set_option maxRecDepth 100000 in
theorem puts_D (p n : Int) (s : List Int) (hs : Byts 96 s) (hc : Hid ((putL p n s).2 = 0)) (hn : 0 ≤ n ∧ n ≤ 2147483647) (hm : Hid (mayB n s = true)) (e1 : decide (p < 0) = false) (e2 : decide (15 < p) = false) (w : World) : Calls Tryd.prog 3 #[.int .i64 p, aggV (verC n s)] w fun e w' => e = .returned (.bool true) ∧ Kept [] w w' := by
  have hvs : (verC n s).length = 97 := verC_len hs.len
  have HC := hc
  have hAl : (u8s (fstL p n s ++ sndL p n s)).length = 128 := pair_len (fst_byts hs) (snd_byts hs)
  go_enter Tryd.func3, Tryd.ntmps3
  go_wp2_with (
    first
    | (refine wpBoxV 3 (by rfl) (by rfl) (.tmp 1) (by rfl) (verC n s) (by kernel_rfl) ?_
       intro W3 b3 hb3 B3 K3
       have M : Hid (Mem w W3 [(b3, 25, verC n s)]) := ⟨by simpa using B3, K3⟩
       clear hb3 B3 K3)
    | (refine wpLoadA row25 (by rfl) (.tmp 3) (by rfl) b3 0 (by kernel_rfl) (verC n s) hvs ((unhide M).blk (b3, 25, verC n s) (by simp)).range ?_))
  refine (put_eqP hs (unhide hc) _).mono ?_
  rintro e w1 ⟨rfl, k1⟩
  replace M := hide ((unhide M).quiet k1)
  clear k1
  go_wp2_with (
    first
    | (refine wpNew row28 (u8s (zs 128)) (zl 128) zero28 5 (by rfl) (by rfl) (by rfl) (.tmp 13) (by rfl) (by rfl) (by rfl) (u8s (fstL p n s ++ sndL p n s)) hAl (u8s_one _) (by kernel_rfl) (by kernel_rfl) ?_
       intro WS bS hbS BS KS
       replace M := hide ((unhide M).add KS BS)
       clear hbS BS KS)
    | (refine wpLoadG row25 (.tmp 3) (by rfl) (by kernel_rfl) b3 0 (by kernel_rfl) (verC n s) hvs ((unhide M).blk (b3, 25, verC n s) (by simp)).range ?_))
  refine (may9 n s hs.len _).mono ?_
  rintro e w2 ⟨rfl, k2⟩
  replace M := hide ((unhide M).quiet k2)
  clear k2
  rw [show mayB n s = true from unhide hm]
  go_wp2_with (
    first
    | (refine wpLoadA row27 (by rfl) (.tmp 39) (by rfl) bS 0 (by kernel_rfl) (u8s (fstL p n s)) (by rw [u8s_len, (fst_byts hs).len]) (pair_l (y := sndL p n s) ((unhide M).blk (bS, 28, u8s (fstL p n s ++ sndL p n s)) (by simp))) ?_)
    | (refine wpLoadA row27 (by rfl) (.tmp 41) (by rfl) bS 64 (by kernel_rfl) (u8s (sndL p n s)) (by rw [u8s_len, (snd_byts hs).len]) (pair_r (x := fstL p n s) (fst_byts hs).len ((unhide M).blk (bS, 28, u8s (fstL p n s ++ sndL p n s)) (by simp))) ?_))
  refine (get_back hs (unhide hc) _).mono ?_
  rintro e w3 ⟨rfl, k3⟩
  replace M := hide ((unhide M).quiet k3)
  clear k3
  go_wp2_with (
    first
    | (refine wpNew row25 (verC 0 (zs 96)) verC_zero zero25 7 (by rfl) (by rfl) (by rfl) (.tmp 44) (by rfl) (by rfl) (by rfl) (verC n s) hvs (verC_one _ _) (by kernel_rfl) (by kernel_rfl) ?_
       intro WO bO hbO BO KO
       replace M := hide ((unhide M).add KO BO)
       clear hbO BO KO))
  refine wp_region_allS mixed 39 rfl (by kernel_rfl) (tc (putsT p n s bS)) (fun _ _ _ _ => True) (skipOf (putsT p n s bS)) (fun j o i b _ => guardsS_some (by kernel_rfl) j o i b) (fun j o _ => guardsS_none (by kernel_rfl) j o) (fun j w => skip_undef w) (fun _ _ _ _ => trivial) (tc_kept _) (by kernel_rfl) ?_ ?_
  · intro j o hj hs' ho a w2 hout hin hk
    show o.wp Tryd.prog a w2 (opPc (putsT p n s bS) o a w2 j 39) _
    match j, ho with
    | 0, ho =>
      obtain rfl := Option.some.inj ho
      exact wp_move (.tmp 6) rfl (by rw [show a.eval (.tmp 6) = _ from ((hout 6 (by kernel_rfl)).trans (by kernel_rfl))]; exact (postc rfl (Kept.refl _ _)))
    | 1, ho =>
      obtain rfl := Option.some.inj ho
      have e0 : a.eval (.tmp 46) = _ := (hin 0 46 (by kernel_rfl) (by kernel_rfl))
      refine wp_callF 10 _ _ rfl #[.int .i64 0] (by simp [e0]) (cf10 _ _) ((num10 _ w2).mono ?_)
      rintro x w3 ⟨rfl, hw3⟩
      exact ⟨_, rfl, postc rfl (by rw [hw3]; exact Kept.refl _ _)⟩
    | 2, ho =>
      obtain rfl := Option.some.inj ho
      exact wp_move (.tmp 8) rfl (by rw [show a.eval (.tmp 8) = _ from ((hout 8 (by kernel_rfl)).trans (by kernel_rfl))]; exact (postc rfl (Kept.refl _ _)))
    | 3, ho =>
      obtain rfl := Option.some.inj ho
      have e0 : a.eval (.tmp 48) = _ := (hin 2 48 (by kernel_rfl) (by kernel_rfl))
      refine wp_callF 10 _ _ rfl #[.int .i64 0] (by simp [e0]) (cf10 _ _) ((num10 _ w2).mono ?_)
      rintro x w3 ⟨rfl, hw3⟩
      exact ⟨_, rfl, postc rfl (by rw [hw3]; exact Kept.refl _ _)⟩
    | 4, ho =>
      obtain rfl := Option.some.inj ho
      exact o_add3 (.tmp 47) (.tmp 49) rfl 0 0 (by omega) (hin 1 47 (by kernel_rfl) (by kernel_rfl)) (hin 3 49 (by kernel_rfl) (by kernel_rfl)) (postc rfl (Kept.refl _ _))
    | 5, ho =>
      obtain rfl := Option.some.inj ho
      exact o_eql3 (.tmp 50) 0 rfl 0 true (by decide) (hin 4 50 (by kernel_rfl) (by kernel_rfl)) (postc rfl (Kept.refl _ _))
    | 6, ho =>
      obtain rfl := Option.some.inj ho
      exact wp_move (.tmp 51) rfl (by rw [show a.eval (.tmp 51) = _ from (hin 5 51 (by kernel_rfl) (by kernel_rfl))]; exact (postc rfl (Kept.refl _ _)))
    | 7, ho =>
      obtain rfl := Option.some.inj ho
      exact o_idx28 (.tmp 5) 0 (by omega) rfl bS ((hout 5 (by kernel_rfl)).trans (by kernel_rfl)) (postc rfl (Kept.refl _ _))
    | 8, ho =>
      obtain rfl := Option.some.inj ho
      exact wp_loadA row27 (.tmp 53) rfl bS 0 (hin 7 53 (by kernel_rfl) (by kernel_rfl)) (u8s (fstL p n s)) (by rw [u8s_len, (fst_byts hs).len]) (pair_l (y := sndL p n s) (((unhide M).blk (bS, 28, u8s (fstL p n s ++ sndL p n s)) (by simp)).kept hk (by simp))) (postc rfl (Kept.refl _ _))
    | 9, ho =>
      obtain rfl := Option.some.inj ho
      exact wp_move (.tmp 0) rfl (by rw [show a.eval (.tmp 0) = _ from ((hout 0 (by kernel_rfl)).trans (by kernel_rfl))]; exact (postc rfl (Kept.refl _ _)))
    | 10, ho =>
      obtain rfl := Option.some.inj ho
      exact wp_loadA row25 (.tmp 3) rfl b3 0 ((hout 3 (by kernel_rfl)).trans (by kernel_rfl)) (verC n s) hvs (((unhide M).blk (b3, 25, verC n s) (by simp)).kept hk (by simp)).range (postc rfl (Kept.refl _ _))
    | 11, ho =>
      obtain rfl := Option.some.inj ho
      have e0 : a.eval (.tmp 55) = _ := (hin 9 55 (by kernel_rfl) (by kernel_rfl))
      have e1 : a.eval (.tmp 56) = _ := (hin 10 56 (by kernel_rfl) (by kernel_rfl))
      have e2 : a.eval (.const (.int .i64 0)) = .int .i64 0 := rfl
      refine wp_callF 13 _ _ rfl #[.int .i64 p, aggV (verC n s), .int .i64 0] (by simp [e0, e1, e2]) (cf13' _ _) ((half_fst p n s hs hn w2).mono ?_)
      rintro x w3 ⟨rfl, hk3⟩
      exact ⟨_, rfl, postc rfl hk3⟩
    | 12, ho =>
      obtain rfl := Option.some.inj ho
      exact o_eqlA 27 27 guard27 (.tmp 54) (.tmp 57) rfl (u8s (fstL p n s)) (u8s (fstL p n s)) (hin 8 54 (by kernel_rfl) (by kernel_rfl)) (hin 11 57 (by kernel_rfl) (by kernel_rfl)) true ((equal27 _ _ _ (fst_byts hs).len (fst_byts hs).len).trans (by simp)) (postc rfl (Kept.refl _ _))
    | 13, ho =>
      obtain rfl := Option.some.inj ho
      exact o_pick (.tmp 52) (.tmp 58) rfl true (hin 6 52 (by kernel_rfl) (by kernel_rfl)) (hin 12 58 (by kernel_rfl) (by kernel_rfl)) (postc rfl (Kept.refl _ _))
    | 14, ho =>
      obtain rfl := Option.some.inj ho
      exact wp_move (.tmp 59) rfl (by rw [show a.eval (.tmp 59) = _ from (hin 13 59 (by kernel_rfl) (by kernel_rfl))]; exact (postc rfl (Kept.refl _ _)))
    | 15, ho =>
      obtain rfl := Option.some.inj ho
      exact o_idx28 (.tmp 5) 1 (by omega) rfl bS ((hout 5 (by kernel_rfl)).trans (by kernel_rfl)) (postc rfl (Kept.refl _ _))
    | 16, ho =>
      obtain rfl := Option.some.inj ho
      exact wp_loadA row27 (.tmp 61) rfl bS 64 (hin 15 61 (by kernel_rfl) (by kernel_rfl)) (u8s (sndL p n s)) (by rw [u8s_len, (snd_byts hs).len]) (pair_r (x := fstL p n s) (fst_byts hs).len (((unhide M).blk (bS, 28, u8s (fstL p n s ++ sndL p n s)) (by simp)).kept hk (by simp))) (postc rfl (Kept.refl _ _))
    | 17, ho =>
      obtain rfl := Option.some.inj ho
      exact wp_move (.tmp 0) rfl (by rw [show a.eval (.tmp 0) = _ from ((hout 0 (by kernel_rfl)).trans (by kernel_rfl))]; exact (postc rfl (Kept.refl _ _)))
    | 18, ho =>
      obtain rfl := Option.some.inj ho
      exact wp_loadA row25 (.tmp 3) rfl b3 0 ((hout 3 (by kernel_rfl)).trans (by kernel_rfl)) (verC n s) hvs (((unhide M).blk (b3, 25, verC n s) (by simp)).kept hk (by simp)).range (postc rfl (Kept.refl _ _))
    | 19, ho =>
      obtain rfl := Option.some.inj ho
      have e0 : a.eval (.tmp 63) = _ := (hin 17 63 (by kernel_rfl) (by kernel_rfl))
      have e1 : a.eval (.tmp 64) = _ := (hin 18 64 (by kernel_rfl) (by kernel_rfl))
      have e2 : a.eval (.const (.int .i64 1)) = .int .i64 1 := rfl
      refine wp_callF 13 _ _ rfl #[.int .i64 p, aggV (verC n s), .int .i64 1] (by simp [e0, e1, e2]) (cf13' _ _) ((half_snd p n s hs hn w2).mono ?_)
      rintro x w3 ⟨rfl, hk3⟩
      exact ⟨_, rfl, postc rfl hk3⟩
    | 20, ho =>
      obtain rfl := Option.some.inj ho
      exact o_eqlA 27 27 guard27 (.tmp 62) (.tmp 65) rfl (u8s (sndL p n s)) (u8s (sndL p n s)) (hin 16 62 (by kernel_rfl) (by kernel_rfl)) (hin 19 65 (by kernel_rfl) (by kernel_rfl)) true ((equal27 _ _ _ (snd_byts hs).len (snd_byts hs).len).trans (by simp)) (postc rfl (Kept.refl _ _))
    | 21, ho =>
      obtain rfl := Option.some.inj ho
      exact o_pick (.tmp 60) (.tmp 66) rfl true (hin 14 60 (by kernel_rfl) (by kernel_rfl)) (hin 20 66 (by kernel_rfl) (by kernel_rfl)) (postc rfl (Kept.refl _ _))
    | 22, ho =>
      obtain rfl := Option.some.inj ho
      exact wp_move (.tmp 67) rfl (by rw [show a.eval (.tmp 67) = _ from (hin 21 67 (by kernel_rfl) (by kernel_rfl))]; exact (postc rfl (Kept.refl _ _)))
    | 23, ho =>
      obtain rfl := Option.some.inj ho
      exact wp_loadA row25 (.tmp 7) rfl bO 0 ((hout 7 (by kernel_rfl)).trans (by kernel_rfl)) (verC n s) hvs (((unhide M).blk (bO, 25, verC n s) (by simp)).kept hk (by simp)).range (postc rfl (Kept.refl _ _))
    | 24, ho =>
      obtain rfl := Option.some.inj ho
      exact wp_loadA row25 (.tmp 3) rfl b3 0 ((hout 3 (by kernel_rfl)).trans (by kernel_rfl)) (verC n s) hvs (((unhide M).blk (b3, 25, verC n s) (by simp)).kept hk (by simp)).range (postc rfl (Kept.refl _ _))
    | 25, ho =>
      obtain rfl := Option.some.inj ho
      exact o_eqlA 25 25 guard25 (.tmp 69) (.tmp 70) rfl (verC n s) (verC n s) (hin 23 69 (by kernel_rfl) (by kernel_rfl)) (hin 24 70 (by kernel_rfl) (by kernel_rfl)) true ((equal25 _ _ _ _ _ hs.len hs.len).trans (by simp)) (postc rfl (Kept.refl _ _))
    | 26, ho =>
      obtain rfl := Option.some.inj ho
      exact o_pick (.tmp 68) (.tmp 71) rfl true (hin 22 68 (by kernel_rfl) (by kernel_rfl)) (hin 25 71 (by kernel_rfl) (by kernel_rfl)) (postc rfl (Kept.refl _ _))
    | 27, ho =>
      obtain rfl := Option.some.inj ho
      exact wp_move (.tmp 72) rfl (by rw [show a.eval (.tmp 72) = _ from (hin 26 72 (by kernel_rfl) (by kernel_rfl))]; exact (postc rfl (Kept.refl _ _)))
    | 28, ho =>
      obtain rfl := Option.some.inj ho
      exact wp_move (.tmp 0) rfl (by rw [show a.eval (.tmp 0) = _ from ((hout 0 (by kernel_rfl)).trans (by kernel_rfl))]; exact (postc rfl (Kept.refl _ _)))
    | 29, ho =>
      obtain rfl := Option.some.inj ho
      exact o_idx28 (.tmp 5) 0 (by omega) rfl bS ((hout 5 (by kernel_rfl)).trans (by kernel_rfl)) (postc rfl (Kept.refl _ _))
    | 30, ho =>
      obtain rfl := Option.some.inj ho
      exact wp_loadA row27 (.tmp 75) rfl bS 0 (hin 29 75 (by kernel_rfl) (by kernel_rfl)) (u8s (fstL p n s)) (by rw [u8s_len, (fst_byts hs).len]) (pair_l (y := sndL p n s) (((unhide M).blk (bS, 28, u8s (fstL p n s ++ sndL p n s)) (by simp)).kept hk (by simp))) (postc rfl (Kept.refl _ _))
    | 31, ho =>
      obtain rfl := Option.some.inj ho
      exact o_idx28 (.tmp 5) 1 (by omega) rfl bS ((hout 5 (by kernel_rfl)).trans (by kernel_rfl)) (postc rfl (Kept.refl _ _))
    | 32, ho =>
      obtain rfl := Option.some.inj ho
      exact wp_loadA row27 (.tmp 77) rfl bS 64 (hin 31 77 (by kernel_rfl) (by kernel_rfl)) (u8s (sndL p n s)) (by rw [u8s_len, (snd_byts hs).len]) (pair_r (x := fstL p n s) (fst_byts hs).len (((unhide M).blk (bS, 28, u8s (fstL p n s ++ sndL p n s)) (by simp)).kept hk (by simp))) (postc rfl (Kept.refl _ _))
    | 33, ho =>
      obtain rfl := Option.some.inj ho
      have e0 : a.eval (.tmp 74) = _ := (hin 28 74 (by kernel_rfl) (by kernel_rfl))
      have e1 : a.eval (.tmp 76) = _ := (hin 30 76 (by kernel_rfl) (by kernel_rfl))
      have e2 : a.eval (.tmp 78) = _ := (hin 32 78 (by kernel_rfl) (by kernel_rfl))
      refine wp_callF 14 _ _ rfl #[.int .i64 p, aggV (u8s (fstL p n s)), aggV (u8s (sndL p n s))] (by simp [e0, e1, e2]) (cf14 _ _) ((whole_back hs (unhide HC) w2).mono ?_)
      rintro x w3 ⟨rfl, hk3⟩
      exact ⟨_, rfl, postc rfl hk3⟩
    | 34, ho =>
      obtain rfl := Option.some.inj ho
      exact o_pick (.tmp 73) (.tmp 79) rfl true (hin 27 73 (by kernel_rfl) (by kernel_rfl)) (hin 33 79 (by kernel_rfl) (by kernel_rfl)) (postc rfl (Kept.refl _ _))
    | 35, ho =>
      obtain rfl := Option.some.inj ho
      exact wp_move (.tmp 80) rfl (by rw [show a.eval (.tmp 80) = _ from (hin 34 80 (by kernel_rfl) (by kernel_rfl))]; exact (postc rfl (Kept.refl _ _)))
    | 36, ho =>
      obtain rfl := Option.some.inj ho
      refine wp_callF 11 _ _ rfl #[] (by simp) (cf11 _ _) ((known11 w2).mono ?_)
      rintro x w3 ⟨rfl, hk3⟩
      exact ⟨_, rfl, postc rfl hk3⟩
    | 37, ho =>
      obtain rfl := Option.some.inj ho
      exact o_pick (.tmp 81) (.tmp 82) rfl true (hin 35 81 (by kernel_rfl) (by kernel_rfl)) (hin 36 82 (by kernel_rfl) (by kernel_rfl)) (postc rfl (Kept.refl _ _))
    | 38, ho =>
      obtain rfl := Option.some.inj ho
      exact wp_assign (.tmp 83) rfl 4 rfl _ (hin 37 83 (by kernel_rfl) (by kernel_rfl)) (postc rfl (Kept.refl _ _))
  · intro A w3 hdef _ hF _ hk3
    have hM := (unhide M).k.trans hk3
    have h0 : A.eval (.tmp 4) = .bool true := hF 38 4 (by omega) (by kernel_rfl)
    have hd : A.defers = [] := hdef.trans rfl
    clear hF hdef
    go_wp2_with fail
    exact bodyPost_ret (results_tmp rfl _ _ _) hd ⟨congrArg Ending.returned h0, hM⟩

theorem puts3 (p n : Int) (s : List Int) (hs : Byts 96 s) (w : World) : Calls Tryd.prog 3 #[.int .i64 p, aggV (verC n s)] w fun e w' => e = .returned (.bool true) ∧ Kept [] w w' := by
  cases hb : (isPageB p && isVer n s) with
  | true =>
    have hc := put_code hb
    obtain ⟨h1, h2, h3⟩ := putL_ok hc
    have hp : 0 ≤ p ∧ p < 16 := by simpa [isPageB] using h1
    exact puts_D p n s hs hc h3 (by rw [may_ver]; exact h2) (decide_eq_false (by omega)) (decide_eq_false (by omega)) w
  | false =>
    by_cases h1 : p < 0
    · exact puts_A p n s hs hb (decide_eq_true h1) w
    · by_cases h2 : 15 < p
      · exact puts_B p n s hs hb (decide_eq_false h1) (decide_eq_true h2) w
      · refine puts_C p n s hs hb ?_ (decide_eq_false h1) (decide_eq_false h2) w
        have hp : isPageB p = true := by simp [isPageB]; omega
        rw [hp, Bool.true_and] at hb
        show mayB n s = false
        rw [may_ver]
        exact hb

end Go.Proofs.YtnflcajidgbbbaaDoor
