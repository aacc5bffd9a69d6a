/-
  known: the chapter's rows.
-/
import Derived.Test.YtmeajhdhiebkdaaDoorLw

/-
  The chapter's rows, computed.
-/
namespace Go.Proofs.YtmeajhdhiebkdaaDoor
set_option maxRecDepth 100000
open Go.RowKit

def vb (c : Int) : List Int := c :: Rc.zs 95
theorem vb_byts (c : Int) (h : 0 ≤ c ∧ c < 256) : Rc.Byts 96 (vb c) := ⟨by simp [vb, Rc.zs], by intro x hx; rcases List.mem_cons.1 hx with rfl | hx; exact h; rw [List.eq_of_mem_replicate hx]; decide⟩
def kr (n c : Int) : Rc.Rec := ⟨0, 1, n, 0, n, vb c⟩
def kl (s : Int) (R : List Rc.Rec) (f : Nat) : Lo := ⟨lawJ, 0, 1, s, R, f⟩
def kR : List Rc.Rec := [kr 1 97, kr 2 97, kr 3 97]
def ke0 : Dv.Dev := ups (Dv.newDev lawJ.sectors.1.toNat lawJ.n.toNat) lawJ.n.toNat
def ke1 : Dv.Dev := ((kl 1 kR 0).flush ke0).1
def ke2 : Dv.Dev := ((kl 1 (kR ++ [kr 4 98]) 3).flush ke1).1
def ke3 : Dv.Dev := ((kl 1 (kR ++ [kr 4 98]) 4).cut ke2 4).1
def ke4 : Dv.Dev := ((kl 4 [kr 4 98, kr 5 99] 1).flush ke3).1
def ke5 : Dv.Dev := (ke4.up 0).2.2
def ke6 : Dv.Dev := ((kl 4 [kr 4 98, kr 5 99, kr 6 100] 2).flush ke5).1
theorem kmay : lawJ.may = true := by decide
theorem kf0 : lookR ke0 lawJ 0 true = (1, [], 0) := by kernel_rfl
theorem kf1a : (kl 1 (kR.take 0) 0).app 0 (((0 : Nat) : Int) + 1) (vb 97) = (kl 1 (kR.take (0 + 1)) 0, ((0 : Nat) : Int) + 1, 0) := by kernel_rfl
theorem kf1b : (kl 1 (kR.take 1) 0).app 0 (((1 : Nat) : Int) + 1) (vb 97) = (kl 1 (kR.take (1 + 1)) 0, ((1 : Nat) : Int) + 1, 0) := by kernel_rfl
theorem kf1c : (kl 1 (kR.take 2) 0).app 0 (((2 : Nat) : Int) + 1) (vb 97) = (kl 1 (kR.take (2 + 1)) 0, ((2 : Nat) : Int) + 1, 0) := by kernel_rfl
theorem kf1 (k : Nat) (h : k < 3) : (kl 1 (kR.take k) 0).app 0 ((k : Int) + 1) (vb 97) = (kl 1 (kR.take (k + 1)) 0, (k : Int) + 1, 0) := by
  rcases (by omega : k = 0 ∨ k = 1 ∨ k = 2) with rfl | rfl | rfl
  · exact kf1a
  · exact kf1b
  · exact kf1c
theorem kf2 : ((kl 1 kR 0).flush ke0).2 = (3, 0) := by kernel_rfl
theorem kf3 : (kl 1 kR 3).app 0 4 (vb 98) = (kl 1 (kR ++ [kr 4 98]) 3, 4, 0) := by kernel_rfl
theorem kf4 : (kl 1 (kR ++ [kr 4 98]) 3).app 0 5 (vb 99) = (kl 1 (kR ++ [kr 4 98]) 3, 0, 5) := by kernel_rfl
theorem kf5 : ((kl 1 (kR ++ [kr 4 98]) 3).flush ke1).2 = (4, 0) := by kernel_rfl
theorem kf6 : ((kl 1 (kR ++ [kr 4 98]) 4).cut ke2 4).2 = (kl 4 [kr 4 98] 1, 0) := by kernel_rfl
theorem kf7 : (kl 4 [kr 4 98] 1).app 0 5 (vb 99) = (kl 4 [kr 4 98, kr 5 99] 1, 5, 0) := by kernel_rfl
theorem kf8 : ((kl 4 [kr 4 98, kr 5 99] 1).flush ke3).2 = (2, 0) := by kernel_rfl
theorem kf9 : lookR ke4 lawJ 0 true = (4, [kr 4 98, kr 5 99], 0) := by kernel_rfl
theorem kf10 : ((ke4.up 0).1, (ke4.up 0).2.1) = (2, 0) := by kernel_rfl
theorem kf11 : (kl 4 [kr 4 98, kr 5 99] 2).app 0 6 (vb 100) = (kl 4 [kr 4 98, kr 5 99, kr 6 100] 2, 6, 0) := by kernel_rfl
theorem kf12 : ((kl 4 [kr 4 98, kr 5 99, kr 6 100] 2).flush ke5).2 = (2, 8) := by kernel_rfl
theorem kf13 : (kl 4 [kr 4 98] 1).room = 3 := by kernel_rfl
theorem kf14 : (kl 1 [] 0).room = 4 := by kernel_rfl

end Go.Proofs.YtmeajhdhiebkdaaDoor

/-
  known: the chapter's rows.
-/
namespace Go.Proofs.YtmeajhdhiebkdaaDoor
set_option maxRecDepth 100000
open Go.RowKit

theorem kc_open {W0 W : World} {b g : Nat} (hF : Rc.First W0) (h : Kd W0 W b g ke0) : Calls Tryd.prog 11 #[P0 b, aggV (Ar.jobC lawJ), .int .i64 0, .int .i64 1] W fun e w' => ∃ l, e = .returned (.tuple #[P0 l, .int .i64 0]) ∧ Ka W0 w' l b g ke0 (kl 1 [] 0) := kd_open hF lawJ 0 1 1 [] (by omega) kf0 h
theorem kc_open2 {W0 W : World} {b g : Nat} (hF : Rc.First W0) (h : Kd W0 W b g ke4) : Calls Tryd.prog 11 #[P0 b, aggV (Ar.jobC lawJ), .int .i64 0, .int .i64 1] W fun e w' => ∃ l, e = .returned (.tuple #[P0 l, .int .i64 0]) ∧ Ka W0 w' l b g ke4 (kl 4 [kr 4 98, kr 5 99] 2) := kd_open hF lawJ 0 1 4 [kr 4 98, kr 5 99] (by omega) kf9 h
theorem kc_app1 {W0 W : World} {l b g : Nat} (k : Nat) (hk : k < 3) (h : Ka W0 W l b g ke0 (kl 1 (kR.take k) 0)) : Calls Tryd.prog 16 #[P0 l, .int .i64 0, aggV (verC ((k : Int) + 1) (97 :: Rc.zs 95))] W fun e w' => e = .returned (.tuple #[.int .i64 ((k : Int) + 1), .int .i64 0]) ∧ Ka W0 w' l b g ke0 (kl 1 (kR.take (k + 1)) 0) := by
  have h9 := ka_app 0 ((k : Int) + 1) (vb 97) (vb_byts 97 (by omega)) h
  rw [kf1 k hk] at h9
  exact h9
theorem kc_app4 {W0 W : World} {l b g : Nat} (h : Ka W0 W l b g ke1 (kl 1 kR 3)) : Calls Tryd.prog 16 #[P0 l, .int .i64 0, aggV (verC 4 (98 :: Rc.zs 95))] W fun e w' => e = .returned (.tuple #[.int .i64 4, .int .i64 0]) ∧ Ka W0 w' l b g ke1 (kl 1 (kR ++ [kr 4 98]) 3) := by
  have h9 := ka_app 0 4 (vb 98) (vb_byts 98 (by omega)) h
  rw [kf3] at h9
  exact h9
theorem kc_app5 {W0 W : World} {l b g : Nat} (h : Ka W0 W l b g ke1 (kl 1 (kR ++ [kr 4 98]) 3)) : Calls Tryd.prog 16 #[P0 l, .int .i64 0, aggV (verC 5 (99 :: Rc.zs 95))] W fun e w' => e = .returned (.tuple #[.int .i64 0, .int .i64 5]) ∧ Ka W0 w' l b g ke1 (kl 1 (kR ++ [kr 4 98]) 3) := by
  have h9 := ka_app 0 5 (vb 99) (vb_byts 99 (by omega)) h
  rw [kf4] at h9
  exact h9
theorem kc_app6 {W0 W : World} {l b g : Nat} (h : Ka W0 W l b g ke3 (kl 4 [kr 4 98] 1)) : Calls Tryd.prog 16 #[P0 l, .int .i64 0, aggV (verC 5 (99 :: Rc.zs 95))] W fun e w' => e = .returned (.tuple #[.int .i64 5, .int .i64 0]) ∧ Ka W0 w' l b g ke3 (kl 4 [kr 4 98, kr 5 99] 1) := by
  have h9 := ka_app 0 5 (vb 99) (vb_byts 99 (by omega)) h
  rw [kf7] at h9
  exact h9
theorem kc_app7 {W0 W : World} {l b g : Nat} (h : Ka W0 W l b g ke5 (kl 4 [kr 4 98, kr 5 99] 2)) : Calls Tryd.prog 16 #[P0 l, .int .i64 0, aggV (verC 6 (100 :: Rc.zs 95))] W fun e w' => e = .returned (.tuple #[.int .i64 6, .int .i64 0]) ∧ Ka W0 w' l b g ke5 (kl 4 [kr 4 98, kr 5 99, kr 6 100] 2) := by
  have h9 := ka_app 0 6 (vb 100) (vb_byts 100 (by omega)) h
  rw [kf11] at h9
  exact h9
theorem kc_fl1 {W0 W : World} {l b g : Nat} (h : Ka W0 W l b g ke0 (kl 1 kR 0)) : Calls Tryd.prog 13 #[P0 l] W fun e w' => e = .returned (.int .i64 0) ∧ Ka W0 w' l b g ke1 (kl 1 kR 3) := by
  have h9 := ka_flush h
  rw [kf2] at h9
  exact h9
theorem kc_fl2 {W0 W : World} {l b g : Nat} (h : Ka W0 W l b g ke1 (kl 1 (kR ++ [kr 4 98]) 3)) : Calls Tryd.prog 13 #[P0 l] W fun e w' => e = .returned (.int .i64 0) ∧ Ka W0 w' l b g ke2 (kl 1 (kR ++ [kr 4 98]) 4) := by
  have h9 := ka_flush h
  rw [kf5] at h9
  exact h9
theorem kc_fl3 {W0 W : World} {l b g : Nat} (h : Ka W0 W l b g ke3 (kl 4 [kr 4 98, kr 5 99] 1)) : Calls Tryd.prog 13 #[P0 l] W fun e w' => e = .returned (.int .i64 0) ∧ Ka W0 w' l b g ke4 (kl 4 [kr 4 98, kr 5 99] 2) := by
  have h9 := ka_flush h
  rw [kf8] at h9
  exact h9
theorem kc_fl4 {W0 W : World} {l b g : Nat} (h : Ka W0 W l b g ke5 (kl 4 [kr 4 98, kr 5 99, kr 6 100] 2)) : Calls Tryd.prog 13 #[P0 l] W fun e w' => e = .returned (.int .i64 8) ∧ Ka W0 w' l b g ke6 (kl 4 [kr 4 98, kr 5 99, kr 6 100] 2) := by
  have h9 := ka_flush h
  rw [kf12] at h9
  exact h9
theorem kc_cut {W0 W : World} {l b g : Nat} (hF : Rc.First W0) (h : Ka W0 W l b g ke2 (kl 1 (kR ++ [kr 4 98]) 4)) : Calls Tryd.prog 14 #[P0 l, .int .i64 4] W fun e w' => e = .returned (.int .i64 0) ∧ Ka W0 w' l b g ke3 (kl 4 [kr 4 98] 1) := by
  have h9 := ka_cut hF 4 h
  rw [kf6] at h9
  exact h9
theorem kc_up {W0 W : World} {l b g : Nat} {L : Lo} (h : Ka W0 W l b g ke4 L) : Calls Tryd.prog 19 #[P0 b, .int .i64 0] W fun e w' => e = .returned (.tuple #[.int .i64 2, .int .i64 0]) ∧ Ka W0 w' l b g ke5 L := by
  have h9 := ka_up 0 h
  have h8 := kf10
  rw [Prod.mk.injEq] at h8
  rw [h8.1, h8.2] at h9
  exact h9
theorem kc_num {W0 W : World} {l b g : Nat} {D : Dv.Dev} {L : Lo} (f : Nat) (n m : Int) (hnm : n = m) (h : Calls Tryd.prog f #[P0 l] W fun e w' => e = .returned (.int .i64 n) ∧ Ka W0 w' l b g D L) : Calls Tryd.prog f #[P0 l] W fun e w' => e = .returned (.int .i64 m) ∧ Ka W0 w' l b g D L := by
  rw [← hnm]; exact h
set_option maxHeartbeats 8000000 in
theorem known9 (w : World) (hF : Rc.First w) : Calls Tryd.prog 9 #[] w fun e w' => e = .returned (.bool true) ∧ Kept [] w w' := by
  go_enter Tryd.func9, Tryd.ntmps9
  go_wp2_with (
    first
    | (go_at_call 22
       refine (job22 _).mono ?_
       rintro e V1 ⟨rfl, K1⟩
       have HQ := hide K1
       clear K1
       refine Stp.go ?_))
  constructor
  go_wp2_with (
    first
    | (refine wpNew row23 (Ar.jobC ⟨0, 0, 0, 0, 0⟩) rfl (fun w => Ar.zero23 w) 1 (by rfl) (by rfl) (by rfl) (.tmp 21) (by rfl) (by rfl) (by rfl) (Ar.jobC lawJ) rfl (Ar.jobC_one _) (by kernel_rfl) (by kernel_rfl) ?_
       intro W0 q eq BQ KQ
       replace HQ : Hid (Kept [] w W0) := (unhide HQ).trans KQ
       have HB := hide BQ
       have HF : Hid (Rc.First W0) := hF.kept (unhide HQ)
       clear eq BQ KQ
       refine Stp.go ?_))
  constructor
  go_wp2_with (
    first
    | (refine wpLoadA row23 (by rfl) (.tmp 1) (by rfl) q 0 (by kernel_rfl) (Ar.jobC lawJ) rfl (unhide HB).range ?_
       refine Stp.go ?_))
  constructor
  go_wp2_with (
    first
    | (go_at_call 10
       refine (kd_new lawJ kmay W0 _ (Kept.refl _ _)).mono ?_
       rintro e V3 ⟨b, g, rfl, h3⟩
       have HD : Hid (Kd W0 V3 b g ke0) := h3
       clear h3
       refine Stp.go ?_))
  constructor
  go_wp2_with (
    first
    | (refine wpLoadA row23 (by rfl) (.tmp 1) (by rfl) q 0 (by kernel_rfl) (Ar.jobC lawJ) rfl ((unhide HB).kept (unhide HD).k (by simp)).range ?_
       refine Stp.go ?_))
  constructor
  go_wp2_with (
    first
    | (go_at_call 11
       refine (kc_open (unhide HF) (unhide HD)).mono ?_
       rintro e V4 ⟨l, rfl, h4⟩
       have HK := hide h4
       clear h4 HD
       refine Stp.go ?_))
  constructor
  go_wp2_with (
    first
    | (go_at_call 21
       refine (kc_num 21 ((kl 1 [] 0).st) (1) (by kernel_rfl) (ka_start (unhide HK))).mono ?_
       rintro e V2 ⟨rfl, h2⟩
       replace HK := hide h2
       clear h2
       refine Stp.go ?_))
  constructor
  go_wp2_with (
    first
    | (go_at_call 23
       refine (kc_num 23 ((kl 1 [] 0).st + (kl 1 [] 0).R.length) (1) (by kernel_rfl) (ka_next (unhide HK))).mono ?_
       rintro e V3 ⟨rfl, h3⟩
       replace HK := hide h3
       clear h3
       refine Stp.go ?_))
  constructor
  go_wp2_with (
    first
    | (go_at_call 15
       refine (kc_num 15 ((kl 1 [] 0).st + (kl 1 [] 0).fl - 1) (0) (by kernel_rfl) (ka_flushed (unhide HK))).mono ?_
       rintro e V4 ⟨rfl, h4⟩
       replace HK := hide h4
       clear h4
       refine Stp.go ?_))
  constructor
  go_wp2_with (
    first
    | (go_at_call 12
       refine (kc_num 12 ((kl 1 [] 0).room) (4) (by kernel_rfl) (ka_room (unhide HK))).mono ?_
       rintro e V5 ⟨rfl, h5⟩
       replace HK := hide h5
       clear h5
       refine Stp.go ?_))
  constructor
  go_wp2_with fail
  go_loopw [5] (fun i wr => ∃ k : Nat, k ≤ 3 ∧ i = .int .i64 ((k : Int) + 1) ∧ Hid (Ka W0 wr l b g ke0 (kl 1 (kR.take k) 0))) (fun i _ => 4 - (intOf i).toNat)
  case atStart => exact ⟨0, by omega, rfl, HK⟩
  case round =>
    clear HK
    obtain ⟨k, hk3, rfl, HK⟩ := hrel
    by_cases hlt : (k : Int) + 1 ≤ 3
    · have hk2 : k < 3 := by omega
      go_wp2_with (
        first
        | (go_at_call 24
           refine (version24 _ _ _).mono ?_
           rintro e V6 ⟨rfl, K6⟩
           replace HK := hide ((unhide HK).step K6)
           clear K6
           refine Stp.go ?_))
      constructor
      go_wp2_with (
        first
        | (go_at_call 16
           refine (kc_app1 k hk2 (unhide HK)).mono ?_
           rintro e V7 ⟨rfl, h7⟩
           replace HK := hide h7
           clear h7))
      go_roundw
      case rel => exact ⟨k + 1, by omega, by go_num, HK⟩
      case measure => simp [intOf]; omega
    · obtain rfl : k = 3 := by omega
      replace HK : Hid (Ka W0 wr l b g ke0 (kl 1 kR 0)) := HK
      clear hlt
      go_wp2_with (
        first
        | (go_at_call 15
           refine (kc_num 15 ((kl 1 kR 0).st + (kl 1 kR 0).fl - 1) (0) (by kernel_rfl) (ka_flushed (unhide HK))).mono ?_
           rintro e V8 ⟨rfl, h8⟩
           replace HK := hide h8
           clear h8
           refine Stp.go ?_))
      constructor
      go_wp2_with (
        first
        | (go_at_call 13
           refine (kc_fl1 (unhide HK)).mono ?_
           rintro e V9 ⟨rfl, h9⟩
           replace HK := hide h9
           clear h9
           refine Stp.go ?_))
      constructor
      go_wp2_with (
        first
        | (go_at_call 15
           refine (kc_num 15 ((kl 1 kR 3).st + (kl 1 kR 3).fl - 1) (3) (by kernel_rfl) (ka_flushed (unhide HK))).mono ?_
           rintro e V10 ⟨rfl, h10⟩
           replace HK := hide h10
           clear h10
           refine Stp.go ?_))
      constructor
      go_wp2_with (
        first
        | (go_at_call 24
           refine (version24 _ _ _).mono ?_
           rintro e V11 ⟨rfl, K11⟩
           replace HK := hide ((unhide HK).step K11)
           clear K11
           refine Stp.go ?_))
      constructor
      go_wp2_with (
        first
        | (go_at_call 16
           refine (kc_app4 (unhide HK)).mono ?_
           rintro e V12 ⟨rfl, h12⟩
           replace HK := hide h12
           clear h12
           refine Stp.go ?_))
      constructor
      go_wp2_with (
        first
        | (go_at_call 24
           refine (version24 _ _ _).mono ?_
           rintro e V13 ⟨rfl, K13⟩
           replace HK := hide ((unhide HK).step K13)
           clear K13
           refine Stp.go ?_))
      constructor
      go_wp2_with (
        first
        | (go_at_call 16
           refine (kc_app5 (unhide HK)).mono ?_
           rintro e V14 ⟨rfl, h14⟩
           replace HK := hide h14
           clear h14
           refine Stp.go ?_))
      constructor
      go_wp2_with (
        first
        | (go_at_call 13
           refine (kc_fl2 (unhide HK)).mono ?_
           rintro e V15 ⟨rfl, h15⟩
           replace HK := hide h15
           clear h15
           refine Stp.go ?_))
      constructor
      go_wp2_with (
        first
        | (go_at_call 14
           refine (kc_cut (unhide HF) (unhide HK)).mono ?_
           rintro e V16 ⟨rfl, h16⟩
           replace HK := hide h16
           clear h16
           refine Stp.go ?_))
      constructor
      go_wp2_with (
        first
        | (go_at_call 12
           refine (kc_num 12 ((kl 4 [kr 4 98] 1).room) (3) (by kernel_rfl) (ka_room (unhide HK))).mono ?_
           rintro e V17 ⟨rfl, h17⟩
           replace HK := hide h17
           clear h17
           refine Stp.go ?_))
      constructor
      go_wp2_with (
        first
        | (go_at_call 24
           refine (version24 _ _ _).mono ?_
           rintro e V18 ⟨rfl, K18⟩
           replace HK := hide ((unhide HK).step K18)
           clear K18
           refine Stp.go ?_))
      constructor
      go_wp2_with (
        first
        | (go_at_call 16
           refine (kc_app6 (unhide HK)).mono ?_
           rintro e V19 ⟨rfl, h19⟩
           replace HK := hide h19
           clear h19
           refine Stp.go ?_))
      constructor
      go_wp2_with (
        first
        | (go_at_call 13
           refine (kc_fl3 (unhide HK)).mono ?_
           rintro e V20 ⟨rfl, h20⟩
           replace HK := hide h20
           clear h20
           refine Stp.go ?_))
      constructor
      go_wp2_with (
        first
        | (refine wpLoadA row23 (by rfl) (.tmp 1) (by rfl) q 0 (by kernel_rfl) (Ar.jobC lawJ) rfl ((unhide HB).kept (unhide HK).k (by simp)).range ?_
           refine Stp.go ?_))
      constructor
      go_wp2_with (
        first
        | (go_at_call 11
           refine (kc_open2 (unhide HF) (unhide HK).kd).mono ?_
           rintro e V5 ⟨m, rfl, h5⟩
           replace HK := hide h5
           clear h5
           refine Stp.go ?_))
      constructor
      go_wp2_with (
        first
        | (go_at_call 19
           refine (kc_up (unhide HK)).mono ?_
           rintro e V21 ⟨rfl, h21⟩
           replace HK := hide h21
           clear h21
           refine Stp.go ?_))
      constructor
      go_wp2_with (
        first
        | (go_at_call 21
           refine (kc_num 21 ((kl 4 [kr 4 98, kr 5 99] 2).st) (4) (by kernel_rfl) (ka_start (unhide HK))).mono ?_
           rintro e V22 ⟨rfl, h22⟩
           replace HK := hide h22
           clear h22
           refine Stp.go ?_))
      constructor
      go_wp2_with (
        first
        | (go_at_call 23
           refine (kc_num 23 ((kl 4 [kr 4 98, kr 5 99] 2).st + (kl 4 [kr 4 98, kr 5 99] 2).R.length) (6) (by kernel_rfl) (ka_next (unhide HK))).mono ?_
           rintro e V23 ⟨rfl, h23⟩
           replace HK := hide h23
           clear h23
           refine Stp.go ?_))
      constructor
      go_wp2_with (
        first
        | (go_at_call 24
           refine (version24 _ _ _).mono ?_
           rintro e V24 ⟨rfl, K24⟩
           replace HK := hide ((unhide HK).step K24)
           clear K24
           refine Stp.go ?_))
      constructor
      go_wp2_with (
        first
        | (go_at_call 16
           refine (kc_app7 (unhide HK)).mono ?_
           rintro e V25 ⟨rfl, h25⟩
           replace HK := hide h25
           clear h25
           refine Stp.go ?_))
      constructor
      go_wp2_with (
        first
        | (go_at_call 13
           refine (kc_fl4 (unhide HK)).mono ?_
           rintro e V26 ⟨rfl, h26⟩
           replace HK := hide h26
           clear h26
           refine Stp.go ?_))
      constructor
      go_wp2_with (
        first
        | (go_at_call 15
           refine (kc_num 15 ((kl 4 [kr 4 98, kr 5 99, kr 6 100] 2).st + (kl 4 [kr 4 98, kr 5 99, kr 6 100] 2).fl - 1) (5) (by kernel_rfl) (ka_flushed (unhide HK))).mono ?_
           rintro e V27 ⟨rfl, h27⟩
           replace HK := hide h27
           clear h27
           refine Stp.go ?_))
      constructor
      go_wp2_with fail
      go_ret
      exact ⟨rfl, (unhide HQ).trans (unhide HK).k⟩

end Go.Proofs.YtmeajhdhiebkdaaDoor
