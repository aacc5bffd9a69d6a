/-
  Same, of none and of new ones.
-/
import Derived.Test.YtbigongmlpoahaaFv
namespace Go.Proofs.Ytbigongmlpoahaa
set_option maxRecDepth 100000
set_option linter.unusedSimpArgs false
open Go.RowKit

theorem cg57 (vs : Array Value) (w : World) : (callFunc 74 vs).run Try.prog w = .ok (.enter 74 vs) w := by kernel_rfl
set_option maxHeartbeats 40000000 in
theorem same_new (b c : Nat) (w : World) (h : Blk w b 108 (lo0.C (.slice none 0 0))) (k : Blk w c 108 (lo0.C (.slice none 0 0))) : Calls Try.prog 40 #[P0 b, P0 c] w fun e w' => e = .returned (.bool true) ∧ Kept [] w w' := by
  have P := hide (none40 lo0 _ b w h)
  have R := hide (none40 lo0 _ c w k)
  have HB := hide h
  have HC := hide k
  clear h k
  go_enter Try.func40, Try.ntmps40
  go_wp2_with (
    first
    | (go_at_call 68
       refine (unhide P).mono ?_
       rintro e W11 ⟨rfl, q11⟩
       replace q11 := q11.symm
       subst q11
       refine Stp.go ?_))
  constructor
  go_wp2_with (
    first
    | (go_at_call 68
       refine (unhide R).mono ?_
       rintro e W12 ⟨rfl, q12⟩
       replace q12 := q12.symm
       subst q12
       refine Stp.go ?_))
  constructor
  go_wp2_with fail
  refine wp_region_any mixed (wpAny_tq 87 rfl (by kernel_rfl) [some (P0 b), some (P0 b), some (.pointer (some ⟨b, 3, none⟩)), some (aggV (b8 lo0.ho)), some (P0 c), some (P0 c), some (.pointer (some ⟨c, 3, none⟩)), some (aggV (b8 lo0.ho)), some (.bool true), some (.bool true), some (P0 b), some (P0 b), some (.pointer (some ⟨b, 1, none⟩)), some (.int .i64 lo0.ex), some (P0 c), some (P0 c), some (.pointer (some ⟨c, 1, none⟩)), some (.int .i64 lo0.ex), some (.bool true), some (.bool true), some (.bool true), some (P0 b), some (P0 b), some (.pointer (some ⟨b, 11, none⟩)), some (aggV (i8 lo0.ops)), some (P0 c), some (P0 c), some (.pointer (some ⟨c, 11, none⟩)), some (aggV (i8 lo0.ops)), some (.bool true), some (.bool true), some (.bool true), some (P0 b), some (P0 b), some (.pointer (some ⟨b, 2, none⟩)), some (.int .i64 lo0.ow), some (P0 c), some (P0 c), some (.pointer (some ⟨c, 2, none⟩)), some (.int .i64 lo0.ow), some (.bool true), some (.bool true), some (.bool true), some (P0 b), some (P0 b), some (.pointer (some ⟨b, 19, none⟩)), some (aggV (b8 lo0.pa)), some (P0 c), some (P0 c), some (.pointer (some ⟨c, 19, none⟩)), some (aggV (b8 lo0.pa)), some (.bool true), some (.bool true), some (.bool true), some (P0 b), some (P0 b), some (.pointer (some ⟨b, 27, none⟩)), some (.slice none 0 0), some (P0 c), some (P0 c), some (.pointer (some ⟨c, 27, none⟩)), some (.slice none 0 0), some (.bool true), some (.bool true), some (.bool true), some (P0 b), some (P0 b), some (.pointer (some ⟨b, 28, none⟩)), some (aggV (Wi.C (Lo.wi lo0))), some (P0 c), some (P0 c), some (.pointer (some ⟨c, 28, none⟩)), some (aggV (Wi.C (Lo.wi lo0))), some (.bool true), some (.bool true), some (.bool true), some (P0 b), some (P0 b), some (.pointer (some ⟨b, 30, none⟩)), some (.int .i64 lo0.op), some (P0 c), some (P0 c), some (.pointer (some ⟨c, 30, none⟩)), some (.int .i64 lo0.op), some (.bool true), some (.bool true), some (.bool true)] rfl (by kernel_rfl) (by kernel_rfl) ?_ ?_)
  · intro i o' hi hsk ho a' w2 hout hin hk2
    replace hk2 : Kept [] w w2 := ⟨hk2.os, hk2.tape, hk2.output, hk2.size, hk2.block⟩
    match i, ho, hsk with
    | 0, ho, hsk =>
      obtain rfl := Option.some.inj ho
      exact wp_move (.tmp 0) rfl _ ((hout 0 (by kernel_rfl)).trans rfl) ⟨_, rfl, tq_is _ _ _ _ rfl, Kept.refl _ _, fun _ _ _ _ _ => trivial⟩
    | 1, ho, hsk =>
      obtain rfl := Option.some.inj ho
      have e0 : a'.eval (.tmp 17) = P0 b := is_tq (hin 0 17 (by kernel_rfl) (by kernel_rfl)) rfl
      exact o_nil (.tmp 17) rfl _ e0 ⟨_, rfl, tq_is _ _ _ _ rfl, Kept.refl _ _, fun _ _ _ _ _ => trivial⟩
    | 2, ho, hsk =>
      obtain rfl := Option.some.inj ho
      have e0 : a'.eval (.tmp 18) = P0 b := is_tq (hin 1 18 (by kernel_rfl) (by kernel_rfl)) rfl
      exact o_fld75_3 (.tmp 18) rfl b (0) (3) rfl e0 ⟨_, rfl, tq_is _ _ _ _ rfl, Kept.refl _ _, fun _ _ _ _ _ => trivial⟩
    | 3, ho, hsk =>
      obtain rfl := Option.some.inj ho
      have e0 : a'.eval (.tmp 19) = .pointer (some ⟨b, 3, none⟩) := is_tq (hin 2 19 (by kernel_rfl) (by kernel_rfl)) rfl
      exact wp_loadA row73 (.tmp 19) rfl b (3) e0 (b8 lo0.ho) rfl (Blk.hoA ((unhide HB).kept hk2 (by simp))) ⟨_, rfl, tq_is _ _ _ _ rfl, Kept.refl _ _, fun _ _ _ _ _ => trivial⟩
    | 4, ho, hsk =>
      obtain rfl := Option.some.inj ho
      exact wp_move (.tmp 1) rfl _ ((hout 1 (by kernel_rfl)).trans rfl) ⟨_, rfl, tq_is _ _ _ _ rfl, Kept.refl _ _, fun _ _ _ _ _ => trivial⟩
    | 5, ho, hsk =>
      obtain rfl := Option.some.inj ho
      have e0 : a'.eval (.tmp 21) = P0 c := is_tq (hin 4 21 (by kernel_rfl) (by kernel_rfl)) rfl
      exact o_nil (.tmp 21) rfl _ e0 ⟨_, rfl, tq_is _ _ _ _ rfl, Kept.refl _ _, fun _ _ _ _ _ => trivial⟩
    | 6, ho, hsk =>
      obtain rfl := Option.some.inj ho
      have e0 : a'.eval (.tmp 22) = P0 c := is_tq (hin 5 22 (by kernel_rfl) (by kernel_rfl)) rfl
      exact o_fld75_3 (.tmp 22) rfl c (0) (3) rfl e0 ⟨_, rfl, tq_is _ _ _ _ rfl, Kept.refl _ _, fun _ _ _ _ _ => trivial⟩
    | 7, ho, hsk =>
      obtain rfl := Option.some.inj ho
      have e0 : a'.eval (.tmp 23) = .pointer (some ⟨c, 3, none⟩) := is_tq (hin 6 23 (by kernel_rfl) (by kernel_rfl)) rfl
      exact wp_loadA row73 (.tmp 23) rfl c (3) e0 (b8 lo0.ho) rfl (Blk.hoA ((unhide HC).kept hk2 (by simp))) ⟨_, rfl, tq_is _ _ _ _ rfl, Kept.refl _ _, fun _ _ _ _ _ => trivial⟩
    | 8, ho, hsk =>
      obtain rfl := Option.some.inj ho
      have e0 : a'.eval (.tmp 20) = aggV (b8 lo0.ho) := is_tq (hin 3 20 (by kernel_rfl) (by kernel_rfl)) rfl
      have e1 : a'.eval (.tmp 24) = aggV (b8 lo0.ho) := is_tq (hin 7 24 (by kernel_rfl) (by kernel_rfl)) rfl
      exact o_eqlA 106 106 guard73 (.tmp 20) (.tmp 24) rfl (b8 lo0.ho) (b8 lo0.ho) e0 e1 true ((eqA73 _ _ _).trans (by rw [like_selfN])) ⟨_, rfl, tq_is _ _ _ _ rfl, Kept.refl _ _, fun _ _ _ _ _ => trivial⟩
    | 9, ho, hsk =>
      obtain rfl := Option.some.inj ho
      have e0 : a'.eval (.tmp 25) = .bool true := is_tq (hin 8 25 (by kernel_rfl) (by kernel_rfl)) rfl
      exact wp_move (.tmp 25) rfl _ e0 ⟨_, rfl, tq_is _ _ _ _ rfl, Kept.refl _ _, fun _ _ _ _ _ => trivial⟩
    | 10, ho, hsk =>
      obtain rfl := Option.some.inj ho
      exact wp_move (.tmp 0) rfl _ ((hout 0 (by kernel_rfl)).trans rfl) ⟨_, rfl, tq_is _ _ _ _ rfl, Kept.refl _ _, fun _ _ _ _ _ => trivial⟩
    | 11, ho, hsk =>
      obtain rfl := Option.some.inj ho
      have e0 : a'.eval (.tmp 27) = P0 b := is_tq (hin 10 27 (by kernel_rfl) (by kernel_rfl)) rfl
      exact o_nil (.tmp 27) rfl _ e0 ⟨_, rfl, tq_is _ _ _ _ rfl, Kept.refl _ _, fun _ _ _ _ _ => trivial⟩
    | 12, ho, hsk =>
      obtain rfl := Option.some.inj ho
      have e0 : a'.eval (.tmp 28) = P0 b := is_tq (hin 11 28 (by kernel_rfl) (by kernel_rfl)) rfl
      exact o_fld75_1 (.tmp 28) rfl b (0) (1) rfl e0 ⟨_, rfl, tq_is _ _ _ _ rfl, Kept.refl _ _, fun _ _ _ _ _ => trivial⟩
    | 13, ho, hsk =>
      obtain rfl := Option.some.inj ho
      have e0 : a'.eval (.tmp 29) = .pointer (some ⟨b, 1, none⟩) := is_tq (hin 12 29 (by kernel_rfl) (by kernel_rfl)) rfl
      exact o_load3 (.tmp 29) rfl _ _ e0 (fits_cell ((unhide HB).kept hk2 (by simp)) 1 _ rfl) ⟨_, rfl, tq_is _ _ _ _ rfl, Kept.refl _ _, fun _ _ _ _ _ => trivial⟩
    | 14, ho, hsk =>
      obtain rfl := Option.some.inj ho
      exact wp_move (.tmp 1) rfl _ ((hout 1 (by kernel_rfl)).trans rfl) ⟨_, rfl, tq_is _ _ _ _ rfl, Kept.refl _ _, fun _ _ _ _ _ => trivial⟩
    | 15, ho, hsk =>
      obtain rfl := Option.some.inj ho
      have e0 : a'.eval (.tmp 31) = P0 c := is_tq (hin 14 31 (by kernel_rfl) (by kernel_rfl)) rfl
      exact o_nil (.tmp 31) rfl _ e0 ⟨_, rfl, tq_is _ _ _ _ rfl, Kept.refl _ _, fun _ _ _ _ _ => trivial⟩
    | 16, ho, hsk =>
      obtain rfl := Option.some.inj ho
      have e0 : a'.eval (.tmp 32) = P0 c := is_tq (hin 15 32 (by kernel_rfl) (by kernel_rfl)) rfl
      exact o_fld75_1 (.tmp 32) rfl c (0) (1) rfl e0 ⟨_, rfl, tq_is _ _ _ _ rfl, Kept.refl _ _, fun _ _ _ _ _ => trivial⟩
    | 17, ho, hsk =>
      obtain rfl := Option.some.inj ho
      have e0 : a'.eval (.tmp 33) = .pointer (some ⟨c, 1, none⟩) := is_tq (hin 16 33 (by kernel_rfl) (by kernel_rfl)) rfl
      exact o_load3 (.tmp 33) rfl _ _ e0 (fits_cell ((unhide HC).kept hk2 (by simp)) 1 _ rfl) ⟨_, rfl, tq_is _ _ _ _ rfl, Kept.refl _ _, fun _ _ _ _ _ => trivial⟩
    | 18, ho, hsk =>
      obtain rfl := Option.some.inj ho
      have e0 : a'.eval (.tmp 30) = .int .i64 lo0.ex := is_tq (hin 13 30 (by kernel_rfl) (by kernel_rfl)) rfl
      have e1 : a'.eval (.tmp 34) = .int .i64 lo0.ex := is_tq (hin 17 34 (by kernel_rfl) (by kernel_rfl)) rfl
      exact c_eql3 (.tmp 30) (.tmp 34) rfl _ _ (true) (decide_eq_true rfl) e0 e1 ⟨_, rfl, tq_is _ _ _ _ rfl, Kept.refl _ _, fun _ _ _ _ _ => trivial⟩
    | 19, ho, hsk =>
      obtain rfl := Option.some.inj ho
      have e0 : a'.eval (.tmp 26) = .bool true := is_tq (hin 9 26 (by kernel_rfl) (by kernel_rfl)) rfl
      have e1 : a'.eval (.tmp 35) = .bool true := is_tq (hin 18 35 (by kernel_rfl) (by kernel_rfl)) rfl
      exact o_pick (.tmp 26) (.tmp 35) rfl _ e0 e1 ⟨_, rfl, tq_is _ _ _ _ rfl, Kept.refl _ _, fun _ _ _ _ _ => trivial⟩
    | 20, ho, hsk =>
      obtain rfl := Option.some.inj ho
      have e0 : a'.eval (.tmp 36) = .bool true := is_tq (hin 19 36 (by kernel_rfl) (by kernel_rfl)) rfl
      exact wp_move (.tmp 36) rfl _ e0 ⟨_, rfl, tq_is _ _ _ _ rfl, Kept.refl _ _, fun _ _ _ _ _ => trivial⟩
    | 21, ho, hsk =>
      obtain rfl := Option.some.inj ho
      exact wp_move (.tmp 0) rfl _ ((hout 0 (by kernel_rfl)).trans rfl) ⟨_, rfl, tq_is _ _ _ _ rfl, Kept.refl _ _, fun _ _ _ _ _ => trivial⟩
    | 22, ho, hsk =>
      obtain rfl := Option.some.inj ho
      have e0 : a'.eval (.tmp 38) = P0 b := is_tq (hin 21 38 (by kernel_rfl) (by kernel_rfl)) rfl
      exact o_nil (.tmp 38) rfl _ e0 ⟨_, rfl, tq_is _ _ _ _ rfl, Kept.refl _ _, fun _ _ _ _ _ => trivial⟩
    | 23, ho, hsk =>
      obtain rfl := Option.some.inj ho
      have e0 : a'.eval (.tmp 39) = P0 b := is_tq (hin 22 39 (by kernel_rfl) (by kernel_rfl)) rfl
      exact o_fld75_4 (.tmp 39) rfl b (0) (11) rfl e0 ⟨_, rfl, tq_is _ _ _ _ rfl, Kept.refl _ _, fun _ _ _ _ _ => trivial⟩
    | 24, ho, hsk =>
      obtain rfl := Option.some.inj ho
      have e0 : a'.eval (.tmp 40) = .pointer (some ⟨b, 11, none⟩) := is_tq (hin 23 40 (by kernel_rfl) (by kernel_rfl)) rfl
      exact wp_loadA row37 (.tmp 40) rfl b (11) e0 (i8 lo0.ops) rfl (Blk.opsA ((unhide HB).kept hk2 (by simp))) ⟨_, rfl, tq_is _ _ _ _ rfl, Kept.refl _ _, fun _ _ _ _ _ => trivial⟩
    | 25, ho, hsk =>
      obtain rfl := Option.some.inj ho
      exact wp_move (.tmp 1) rfl _ ((hout 1 (by kernel_rfl)).trans rfl) ⟨_, rfl, tq_is _ _ _ _ rfl, Kept.refl _ _, fun _ _ _ _ _ => trivial⟩
    | 26, ho, hsk =>
      obtain rfl := Option.some.inj ho
      have e0 : a'.eval (.tmp 42) = P0 c := is_tq (hin 25 42 (by kernel_rfl) (by kernel_rfl)) rfl
      exact o_nil (.tmp 42) rfl _ e0 ⟨_, rfl, tq_is _ _ _ _ rfl, Kept.refl _ _, fun _ _ _ _ _ => trivial⟩
    | 27, ho, hsk =>
      obtain rfl := Option.some.inj ho
      have e0 : a'.eval (.tmp 43) = P0 c := is_tq (hin 26 43 (by kernel_rfl) (by kernel_rfl)) rfl
      exact o_fld75_4 (.tmp 43) rfl c (0) (11) rfl e0 ⟨_, rfl, tq_is _ _ _ _ rfl, Kept.refl _ _, fun _ _ _ _ _ => trivial⟩
    | 28, ho, hsk =>
      obtain rfl := Option.some.inj ho
      have e0 : a'.eval (.tmp 44) = .pointer (some ⟨c, 11, none⟩) := is_tq (hin 27 44 (by kernel_rfl) (by kernel_rfl)) rfl
      exact wp_loadA row37 (.tmp 44) rfl c (11) e0 (i8 lo0.ops) rfl (Blk.opsA ((unhide HC).kept hk2 (by simp))) ⟨_, rfl, tq_is _ _ _ _ rfl, Kept.refl _ _, fun _ _ _ _ _ => trivial⟩
    | 29, ho, hsk =>
      obtain rfl := Option.some.inj ho
      have e0 : a'.eval (.tmp 41) = aggV (i8 lo0.ops) := is_tq (hin 24 41 (by kernel_rfl) (by kernel_rfl)) rfl
      have e1 : a'.eval (.tmp 45) = aggV (i8 lo0.ops) := is_tq (hin 28 45 (by kernel_rfl) (by kernel_rfl)) rfl
      exact o_eqlA 34 34 guard37 (.tmp 41) (.tmp 45) rfl (i8 lo0.ops) (i8 lo0.ops) e0 e1 true ((eqA37 _ _ _).trans (by rw [like_selfN])) ⟨_, rfl, tq_is _ _ _ _ rfl, Kept.refl _ _, fun _ _ _ _ _ => trivial⟩
    | 30, ho, hsk =>
      obtain rfl := Option.some.inj ho
      have e0 : a'.eval (.tmp 37) = .bool true := is_tq (hin 20 37 (by kernel_rfl) (by kernel_rfl)) rfl
      have e1 : a'.eval (.tmp 46) = .bool true := is_tq (hin 29 46 (by kernel_rfl) (by kernel_rfl)) rfl
      exact o_pick (.tmp 37) (.tmp 46) rfl _ e0 e1 ⟨_, rfl, tq_is _ _ _ _ rfl, Kept.refl _ _, fun _ _ _ _ _ => trivial⟩
    | 31, ho, hsk =>
      obtain rfl := Option.some.inj ho
      have e0 : a'.eval (.tmp 47) = .bool true := is_tq (hin 30 47 (by kernel_rfl) (by kernel_rfl)) rfl
      exact wp_move (.tmp 47) rfl _ e0 ⟨_, rfl, tq_is _ _ _ _ rfl, Kept.refl _ _, fun _ _ _ _ _ => trivial⟩
    | 32, ho, hsk =>
      obtain rfl := Option.some.inj ho
      exact wp_move (.tmp 0) rfl _ ((hout 0 (by kernel_rfl)).trans rfl) ⟨_, rfl, tq_is _ _ _ _ rfl, Kept.refl _ _, fun _ _ _ _ _ => trivial⟩
    | 33, ho, hsk =>
      obtain rfl := Option.some.inj ho
      have e0 : a'.eval (.tmp 49) = P0 b := is_tq (hin 32 49 (by kernel_rfl) (by kernel_rfl)) rfl
      exact o_nil (.tmp 49) rfl _ e0 ⟨_, rfl, tq_is _ _ _ _ rfl, Kept.refl _ _, fun _ _ _ _ _ => trivial⟩
    | 34, ho, hsk =>
      obtain rfl := Option.some.inj ho
      have e0 : a'.eval (.tmp 50) = P0 b := is_tq (hin 33 50 (by kernel_rfl) (by kernel_rfl)) rfl
      exact o_fld75_2 (.tmp 50) rfl b (0) (2) rfl e0 ⟨_, rfl, tq_is _ _ _ _ rfl, Kept.refl _ _, fun _ _ _ _ _ => trivial⟩
    | 35, ho, hsk =>
      obtain rfl := Option.some.inj ho
      have e0 : a'.eval (.tmp 51) = .pointer (some ⟨b, 2, none⟩) := is_tq (hin 34 51 (by kernel_rfl) (by kernel_rfl)) rfl
      exact o_load3 (.tmp 51) rfl _ _ e0 (fits_cell ((unhide HB).kept hk2 (by simp)) 2 _ rfl) ⟨_, rfl, tq_is _ _ _ _ rfl, Kept.refl _ _, fun _ _ _ _ _ => trivial⟩
    | 36, ho, hsk =>
      obtain rfl := Option.some.inj ho
      exact wp_move (.tmp 1) rfl _ ((hout 1 (by kernel_rfl)).trans rfl) ⟨_, rfl, tq_is _ _ _ _ rfl, Kept.refl _ _, fun _ _ _ _ _ => trivial⟩
    | 37, ho, hsk =>
      obtain rfl := Option.some.inj ho
      have e0 : a'.eval (.tmp 53) = P0 c := is_tq (hin 36 53 (by kernel_rfl) (by kernel_rfl)) rfl
      exact o_nil (.tmp 53) rfl _ e0 ⟨_, rfl, tq_is _ _ _ _ rfl, Kept.refl _ _, fun _ _ _ _ _ => trivial⟩
    | 38, ho, hsk =>
      obtain rfl := Option.some.inj ho
      have e0 : a'.eval (.tmp 54) = P0 c := is_tq (hin 37 54 (by kernel_rfl) (by kernel_rfl)) rfl
      exact o_fld75_2 (.tmp 54) rfl c (0) (2) rfl e0 ⟨_, rfl, tq_is _ _ _ _ rfl, Kept.refl _ _, fun _ _ _ _ _ => trivial⟩
    | 39, ho, hsk =>
      obtain rfl := Option.some.inj ho
      have e0 : a'.eval (.tmp 55) = .pointer (some ⟨c, 2, none⟩) := is_tq (hin 38 55 (by kernel_rfl) (by kernel_rfl)) rfl
      exact o_load3 (.tmp 55) rfl _ _ e0 (fits_cell ((unhide HC).kept hk2 (by simp)) 2 _ rfl) ⟨_, rfl, tq_is _ _ _ _ rfl, Kept.refl _ _, fun _ _ _ _ _ => trivial⟩
    | 40, ho, hsk =>
      obtain rfl := Option.some.inj ho
      have e0 : a'.eval (.tmp 52) = .int .i64 lo0.ow := is_tq (hin 35 52 (by kernel_rfl) (by kernel_rfl)) rfl
      have e1 : a'.eval (.tmp 56) = .int .i64 lo0.ow := is_tq (hin 39 56 (by kernel_rfl) (by kernel_rfl)) rfl
      exact c_eql3 (.tmp 52) (.tmp 56) rfl _ _ (true) (decide_eq_true rfl) e0 e1 ⟨_, rfl, tq_is _ _ _ _ rfl, Kept.refl _ _, fun _ _ _ _ _ => trivial⟩
    | 41, ho, hsk =>
      obtain rfl := Option.some.inj ho
      have e0 : a'.eval (.tmp 48) = .bool true := is_tq (hin 31 48 (by kernel_rfl) (by kernel_rfl)) rfl
      have e1 : a'.eval (.tmp 57) = .bool true := is_tq (hin 40 57 (by kernel_rfl) (by kernel_rfl)) rfl
      exact o_pick (.tmp 48) (.tmp 57) rfl _ e0 e1 ⟨_, rfl, tq_is _ _ _ _ rfl, Kept.refl _ _, fun _ _ _ _ _ => trivial⟩
    | 42, ho, hsk =>
      obtain rfl := Option.some.inj ho
      have e0 : a'.eval (.tmp 58) = .bool true := is_tq (hin 41 58 (by kernel_rfl) (by kernel_rfl)) rfl
      exact wp_move (.tmp 58) rfl _ e0 ⟨_, rfl, tq_is _ _ _ _ rfl, Kept.refl _ _, fun _ _ _ _ _ => trivial⟩
    | 43, ho, hsk =>
      obtain rfl := Option.some.inj ho
      exact wp_move (.tmp 0) rfl _ ((hout 0 (by kernel_rfl)).trans rfl) ⟨_, rfl, tq_is _ _ _ _ rfl, Kept.refl _ _, fun _ _ _ _ _ => trivial⟩
    | 44, ho, hsk =>
      obtain rfl := Option.some.inj ho
      have e0 : a'.eval (.tmp 60) = P0 b := is_tq (hin 43 60 (by kernel_rfl) (by kernel_rfl)) rfl
      exact o_nil (.tmp 60) rfl _ e0 ⟨_, rfl, tq_is _ _ _ _ rfl, Kept.refl _ _, fun _ _ _ _ _ => trivial⟩
    | 45, ho, hsk =>
      obtain rfl := Option.some.inj ho
      have e0 : a'.eval (.tmp 61) = P0 b := is_tq (hin 44 61 (by kernel_rfl) (by kernel_rfl)) rfl
      exact o_fld75_5 (.tmp 61) rfl b (0) (19) rfl e0 ⟨_, rfl, tq_is _ _ _ _ rfl, Kept.refl _ _, fun _ _ _ _ _ => trivial⟩
    | 46, ho, hsk =>
      obtain rfl := Option.some.inj ho
      have e0 : a'.eval (.tmp 62) = .pointer (some ⟨b, 19, none⟩) := is_tq (hin 45 62 (by kernel_rfl) (by kernel_rfl)) rfl
      exact wp_loadA row73 (.tmp 62) rfl b (19) e0 (b8 lo0.pa) rfl (Blk.paA ((unhide HB).kept hk2 (by simp))) ⟨_, rfl, tq_is _ _ _ _ rfl, Kept.refl _ _, fun _ _ _ _ _ => trivial⟩
    | 47, ho, hsk =>
      obtain rfl := Option.some.inj ho
      exact wp_move (.tmp 1) rfl _ ((hout 1 (by kernel_rfl)).trans rfl) ⟨_, rfl, tq_is _ _ _ _ rfl, Kept.refl _ _, fun _ _ _ _ _ => trivial⟩
    | 48, ho, hsk =>
      obtain rfl := Option.some.inj ho
      have e0 : a'.eval (.tmp 64) = P0 c := is_tq (hin 47 64 (by kernel_rfl) (by kernel_rfl)) rfl
      exact o_nil (.tmp 64) rfl _ e0 ⟨_, rfl, tq_is _ _ _ _ rfl, Kept.refl _ _, fun _ _ _ _ _ => trivial⟩
    | 49, ho, hsk =>
      obtain rfl := Option.some.inj ho
      have e0 : a'.eval (.tmp 65) = P0 c := is_tq (hin 48 65 (by kernel_rfl) (by kernel_rfl)) rfl
      exact o_fld75_5 (.tmp 65) rfl c (0) (19) rfl e0 ⟨_, rfl, tq_is _ _ _ _ rfl, Kept.refl _ _, fun _ _ _ _ _ => trivial⟩
    | 50, ho, hsk =>
      obtain rfl := Option.some.inj ho
      have e0 : a'.eval (.tmp 66) = .pointer (some ⟨c, 19, none⟩) := is_tq (hin 49 66 (by kernel_rfl) (by kernel_rfl)) rfl
      exact wp_loadA row73 (.tmp 66) rfl c (19) e0 (b8 lo0.pa) rfl (Blk.paA ((unhide HC).kept hk2 (by simp))) ⟨_, rfl, tq_is _ _ _ _ rfl, Kept.refl _ _, fun _ _ _ _ _ => trivial⟩
    | 51, ho, hsk =>
      obtain rfl := Option.some.inj ho
      have e0 : a'.eval (.tmp 63) = aggV (b8 lo0.pa) := is_tq (hin 46 63 (by kernel_rfl) (by kernel_rfl)) rfl
      have e1 : a'.eval (.tmp 67) = aggV (b8 lo0.pa) := is_tq (hin 50 67 (by kernel_rfl) (by kernel_rfl)) rfl
      exact o_eqlA 106 106 guard73 (.tmp 63) (.tmp 67) rfl (b8 lo0.pa) (b8 lo0.pa) e0 e1 true ((eqA73 _ _ _).trans (by rw [like_selfN])) ⟨_, rfl, tq_is _ _ _ _ rfl, Kept.refl _ _, fun _ _ _ _ _ => trivial⟩
    | 52, ho, hsk =>
      obtain rfl := Option.some.inj ho
      have e0 : a'.eval (.tmp 59) = .bool true := is_tq (hin 42 59 (by kernel_rfl) (by kernel_rfl)) rfl
      have e1 : a'.eval (.tmp 68) = .bool true := is_tq (hin 51 68 (by kernel_rfl) (by kernel_rfl)) rfl
      exact o_pick (.tmp 59) (.tmp 68) rfl _ e0 e1 ⟨_, rfl, tq_is _ _ _ _ rfl, Kept.refl _ _, fun _ _ _ _ _ => trivial⟩
    | 53, ho, hsk =>
      obtain rfl := Option.some.inj ho
      have e0 : a'.eval (.tmp 69) = .bool true := is_tq (hin 52 69 (by kernel_rfl) (by kernel_rfl)) rfl
      exact wp_move (.tmp 69) rfl _ e0 ⟨_, rfl, tq_is _ _ _ _ rfl, Kept.refl _ _, fun _ _ _ _ _ => trivial⟩
    | 54, ho, hsk =>
      obtain rfl := Option.some.inj ho
      exact wp_move (.tmp 0) rfl _ ((hout 0 (by kernel_rfl)).trans rfl) ⟨_, rfl, tq_is _ _ _ _ rfl, Kept.refl _ _, fun _ _ _ _ _ => trivial⟩
    | 55, ho, hsk =>
      obtain rfl := Option.some.inj ho
      have e0 : a'.eval (.tmp 71) = P0 b := is_tq (hin 54 71 (by kernel_rfl) (by kernel_rfl)) rfl
      exact o_nil (.tmp 71) rfl _ e0 ⟨_, rfl, tq_is _ _ _ _ rfl, Kept.refl _ _, fun _ _ _ _ _ => trivial⟩
    | 56, ho, hsk =>
      obtain rfl := Option.some.inj ho
      have e0 : a'.eval (.tmp 72) = P0 b := is_tq (hin 55 72 (by kernel_rfl) (by kernel_rfl)) rfl
      exact o_fld75_6 (.tmp 72) rfl b (0) (27) rfl e0 ⟨_, rfl, tq_is _ _ _ _ rfl, Kept.refl _ _, fun _ _ _ _ _ => trivial⟩
    | 57, ho, hsk =>
      obtain rfl := Option.some.inj ho
      have e0 : a'.eval (.tmp 73) = .pointer (some ⟨b, 27, none⟩) := is_tq (hin 56 73 (by kernel_rfl) (by kernel_rfl)) rfl
      exact o_load38 (.tmp 73) rfl _ _ e0 (fits_cell ((unhide HB).kept hk2 (by simp)) 27 _ rfl) ⟨_, rfl, tq_is _ _ _ _ rfl, Kept.refl _ _, fun _ _ _ _ _ => trivial⟩
    | 58, ho, hsk =>
      obtain rfl := Option.some.inj ho
      exact wp_move (.tmp 1) rfl _ ((hout 1 (by kernel_rfl)).trans rfl) ⟨_, rfl, tq_is _ _ _ _ rfl, Kept.refl _ _, fun _ _ _ _ _ => trivial⟩
    | 59, ho, hsk =>
      obtain rfl := Option.some.inj ho
      have e0 : a'.eval (.tmp 75) = P0 c := is_tq (hin 58 75 (by kernel_rfl) (by kernel_rfl)) rfl
      exact o_nil (.tmp 75) rfl _ e0 ⟨_, rfl, tq_is _ _ _ _ rfl, Kept.refl _ _, fun _ _ _ _ _ => trivial⟩
    | 60, ho, hsk =>
      obtain rfl := Option.some.inj ho
      have e0 : a'.eval (.tmp 76) = P0 c := is_tq (hin 59 76 (by kernel_rfl) (by kernel_rfl)) rfl
      exact o_fld75_6 (.tmp 76) rfl c (0) (27) rfl e0 ⟨_, rfl, tq_is _ _ _ _ rfl, Kept.refl _ _, fun _ _ _ _ _ => trivial⟩
    | 61, ho, hsk =>
      obtain rfl := Option.some.inj ho
      have e0 : a'.eval (.tmp 77) = .pointer (some ⟨c, 27, none⟩) := is_tq (hin 60 77 (by kernel_rfl) (by kernel_rfl)) rfl
      exact o_load38 (.tmp 77) rfl _ _ e0 (fits_cell ((unhide HC).kept hk2 (by simp)) 27 _ rfl) ⟨_, rfl, tq_is _ _ _ _ rfl, Kept.refl _ _, fun _ _ _ _ _ => trivial⟩
    | 62, ho, hsk =>
      obtain rfl := Option.some.inj ho
      have e0 : a'.eval (.tmp 74) = .slice none 0 0 := is_tq (hin 57 74 (by kernel_rfl) (by kernel_rfl)) rfl
      have e1 : a'.eval (.tmp 78) = .slice none 0 0 := is_tq (hin 61 78 (by kernel_rfl) (by kernel_rfl)) rfl
      refine wp_callF 74 _ _ rfl #[.slice none 0 0, .slice none 0 0] (by simp [e0, e1]) (cg57 _ _) ((eqN57 _).mono ?_)
      rintro e w3 ⟨rfl, rfl⟩
      exact ⟨_, rfl, _, rfl, tq_is _ _ _ _ rfl, Kept.refl _ _, fun _ _ _ _ _ => trivial⟩
    | 63, ho, hsk =>
      obtain rfl := Option.some.inj ho
      have e0 : a'.eval (.tmp 70) = .bool true := is_tq (hin 53 70 (by kernel_rfl) (by kernel_rfl)) rfl
      have e1 : a'.eval (.tmp 79) = .bool true := is_tq (hin 62 79 (by kernel_rfl) (by kernel_rfl)) rfl
      exact o_pick (.tmp 70) (.tmp 79) rfl _ e0 e1 ⟨_, rfl, tq_is _ _ _ _ rfl, Kept.refl _ _, fun _ _ _ _ _ => trivial⟩
    | 64, ho, hsk =>
      obtain rfl := Option.some.inj ho
      have e0 : a'.eval (.tmp 80) = .bool true := is_tq (hin 63 80 (by kernel_rfl) (by kernel_rfl)) rfl
      exact wp_move (.tmp 80) rfl _ e0 ⟨_, rfl, tq_is _ _ _ _ rfl, Kept.refl _ _, fun _ _ _ _ _ => trivial⟩
    | 65, ho, hsk =>
      obtain rfl := Option.some.inj ho
      exact wp_move (.tmp 0) rfl _ ((hout 0 (by kernel_rfl)).trans rfl) ⟨_, rfl, tq_is _ _ _ _ rfl, Kept.refl _ _, fun _ _ _ _ _ => trivial⟩
    | 66, ho, hsk =>
      obtain rfl := Option.some.inj ho
      have e0 : a'.eval (.tmp 82) = P0 b := is_tq (hin 65 82 (by kernel_rfl) (by kernel_rfl)) rfl
      exact o_nil (.tmp 82) rfl _ e0 ⟨_, rfl, tq_is _ _ _ _ rfl, Kept.refl _ _, fun _ _ _ _ _ => trivial⟩
    | 67, ho, hsk =>
      obtain rfl := Option.some.inj ho
      have e0 : a'.eval (.tmp 83) = P0 b := is_tq (hin 66 83 (by kernel_rfl) (by kernel_rfl)) rfl
      exact o_fld75_7 (.tmp 83) rfl b (0) (28) rfl e0 ⟨_, rfl, tq_is _ _ _ _ rfl, Kept.refl _ _, fun _ _ _ _ _ => trivial⟩
    | 68, ho, hsk =>
      obtain rfl := Option.some.inj ho
      have e0 : a'.eval (.tmp 84) = .pointer (some ⟨b, 28, none⟩) := is_tq (hin 67 84 (by kernel_rfl) (by kernel_rfl)) rfl
      exact wp_loadA row41 (.tmp 84) rfl b (28) e0 (Wi.C (Lo.wi lo0)) rfl (Blk.hand ((unhide HB).kept hk2 (by simp))) ⟨_, rfl, tq_is _ _ _ _ rfl, Kept.refl _ _, fun _ _ _ _ _ => trivial⟩
    | 69, ho, hsk =>
      obtain rfl := Option.some.inj ho
      exact wp_move (.tmp 1) rfl _ ((hout 1 (by kernel_rfl)).trans rfl) ⟨_, rfl, tq_is _ _ _ _ rfl, Kept.refl _ _, fun _ _ _ _ _ => trivial⟩
    | 70, ho, hsk =>
      obtain rfl := Option.some.inj ho
      have e0 : a'.eval (.tmp 86) = P0 c := is_tq (hin 69 86 (by kernel_rfl) (by kernel_rfl)) rfl
      exact o_nil (.tmp 86) rfl _ e0 ⟨_, rfl, tq_is _ _ _ _ rfl, Kept.refl _ _, fun _ _ _ _ _ => trivial⟩
    | 71, ho, hsk =>
      obtain rfl := Option.some.inj ho
      have e0 : a'.eval (.tmp 87) = P0 c := is_tq (hin 70 87 (by kernel_rfl) (by kernel_rfl)) rfl
      exact o_fld75_7 (.tmp 87) rfl c (0) (28) rfl e0 ⟨_, rfl, tq_is _ _ _ _ rfl, Kept.refl _ _, fun _ _ _ _ _ => trivial⟩
    | 72, ho, hsk =>
      obtain rfl := Option.some.inj ho
      have e0 : a'.eval (.tmp 88) = .pointer (some ⟨c, 28, none⟩) := is_tq (hin 71 88 (by kernel_rfl) (by kernel_rfl)) rfl
      exact wp_loadA row41 (.tmp 88) rfl c (28) e0 (Wi.C (Lo.wi lo0)) rfl (Blk.hand ((unhide HC).kept hk2 (by simp))) ⟨_, rfl, tq_is _ _ _ _ rfl, Kept.refl _ _, fun _ _ _ _ _ => trivial⟩
    | 73, ho, hsk =>
      obtain rfl := Option.some.inj ho
      have e0 : a'.eval (.tmp 85) = aggV (Wi.C (Lo.wi lo0)) := is_tq (hin 68 85 (by kernel_rfl) (by kernel_rfl)) rfl
      have e1 : a'.eval (.tmp 89) = aggV (Wi.C (Lo.wi lo0)) := is_tq (hin 72 89 (by kernel_rfl) (by kernel_rfl)) rfl
      exact o_eqlA 38 38 guard41 (.tmp 85) (.tmp 89) rfl (Wi.C (Lo.wi lo0)) (Wi.C (Lo.wi lo0)) e0 e1 true ((eqW41 _ _ _).trans (by simp)) ⟨_, rfl, tq_is _ _ _ _ rfl, Kept.refl _ _, fun _ _ _ _ _ => trivial⟩
    | 74, ho, hsk =>
      obtain rfl := Option.some.inj ho
      have e0 : a'.eval (.tmp 81) = .bool true := is_tq (hin 64 81 (by kernel_rfl) (by kernel_rfl)) rfl
      have e1 : a'.eval (.tmp 90) = .bool true := is_tq (hin 73 90 (by kernel_rfl) (by kernel_rfl)) rfl
      exact o_pick (.tmp 81) (.tmp 90) rfl _ e0 e1 ⟨_, rfl, tq_is _ _ _ _ rfl, Kept.refl _ _, fun _ _ _ _ _ => trivial⟩
    | 75, ho, hsk =>
      obtain rfl := Option.some.inj ho
      have e0 : a'.eval (.tmp 91) = .bool true := is_tq (hin 74 91 (by kernel_rfl) (by kernel_rfl)) rfl
      exact wp_move (.tmp 91) rfl _ e0 ⟨_, rfl, tq_is _ _ _ _ rfl, Kept.refl _ _, fun _ _ _ _ _ => trivial⟩
    | 76, ho, hsk =>
      obtain rfl := Option.some.inj ho
      exact wp_move (.tmp 0) rfl _ ((hout 0 (by kernel_rfl)).trans rfl) ⟨_, rfl, tq_is _ _ _ _ rfl, Kept.refl _ _, fun _ _ _ _ _ => trivial⟩
    | 77, ho, hsk =>
      obtain rfl := Option.some.inj ho
      have e0 : a'.eval (.tmp 93) = P0 b := is_tq (hin 76 93 (by kernel_rfl) (by kernel_rfl)) rfl
      exact o_nil (.tmp 93) rfl _ e0 ⟨_, rfl, tq_is _ _ _ _ rfl, Kept.refl _ _, fun _ _ _ _ _ => trivial⟩
    | 78, ho, hsk =>
      obtain rfl := Option.some.inj ho
      have e0 : a'.eval (.tmp 94) = P0 b := is_tq (hin 77 94 (by kernel_rfl) (by kernel_rfl)) rfl
      exact o_fld75_8 (.tmp 94) rfl b (0) (30) rfl e0 ⟨_, rfl, tq_is _ _ _ _ rfl, Kept.refl _ _, fun _ _ _ _ _ => trivial⟩
    | 79, ho, hsk =>
      obtain rfl := Option.some.inj ho
      have e0 : a'.eval (.tmp 95) = .pointer (some ⟨b, 30, none⟩) := is_tq (hin 78 95 (by kernel_rfl) (by kernel_rfl)) rfl
      exact o_load2 (.tmp 95) rfl _ _ e0 (fits_cell ((unhide HB).kept hk2 (by simp)) 30 _ rfl) ⟨_, rfl, tq_is _ _ _ _ rfl, Kept.refl _ _, fun _ _ _ _ _ => trivial⟩
    | 80, ho, hsk =>
      obtain rfl := Option.some.inj ho
      exact wp_move (.tmp 1) rfl _ ((hout 1 (by kernel_rfl)).trans rfl) ⟨_, rfl, tq_is _ _ _ _ rfl, Kept.refl _ _, fun _ _ _ _ _ => trivial⟩
    | 81, ho, hsk =>
      obtain rfl := Option.some.inj ho
      have e0 : a'.eval (.tmp 97) = P0 c := is_tq (hin 80 97 (by kernel_rfl) (by kernel_rfl)) rfl
      exact o_nil (.tmp 97) rfl _ e0 ⟨_, rfl, tq_is _ _ _ _ rfl, Kept.refl _ _, fun _ _ _ _ _ => trivial⟩
    | 82, ho, hsk =>
      obtain rfl := Option.some.inj ho
      have e0 : a'.eval (.tmp 98) = P0 c := is_tq (hin 81 98 (by kernel_rfl) (by kernel_rfl)) rfl
      exact o_fld75_8 (.tmp 98) rfl c (0) (30) rfl e0 ⟨_, rfl, tq_is _ _ _ _ rfl, Kept.refl _ _, fun _ _ _ _ _ => trivial⟩
    | 83, ho, hsk =>
      obtain rfl := Option.some.inj ho
      have e0 : a'.eval (.tmp 99) = .pointer (some ⟨c, 30, none⟩) := is_tq (hin 82 99 (by kernel_rfl) (by kernel_rfl)) rfl
      exact o_load2 (.tmp 99) rfl _ _ e0 (fits_cell ((unhide HC).kept hk2 (by simp)) 30 _ rfl) ⟨_, rfl, tq_is _ _ _ _ rfl, Kept.refl _ _, fun _ _ _ _ _ => trivial⟩
    | 84, ho, hsk =>
      obtain rfl := Option.some.inj ho
      have e0 : a'.eval (.tmp 96) = .int .i64 lo0.op := is_tq (hin 79 96 (by kernel_rfl) (by kernel_rfl)) rfl
      have e1 : a'.eval (.tmp 100) = .int .i64 lo0.op := is_tq (hin 83 100 (by kernel_rfl) (by kernel_rfl)) rfl
      exact c_eql2 (.tmp 96) (.tmp 100) rfl _ _ (true) (decide_eq_true rfl) e0 e1 ⟨_, rfl, tq_is _ _ _ _ rfl, Kept.refl _ _, fun _ _ _ _ _ => trivial⟩
    | 85, ho, hsk =>
      obtain rfl := Option.some.inj ho
      have e0 : a'.eval (.tmp 92) = .bool true := is_tq (hin 75 92 (by kernel_rfl) (by kernel_rfl)) rfl
      have e1 : a'.eval (.tmp 101) = .bool true := is_tq (hin 84 101 (by kernel_rfl) (by kernel_rfl)) rfl
      exact o_pick (.tmp 92) (.tmp 101) rfl _ e0 e1 ⟨_, rfl, tq_is _ _ _ _ rfl, Kept.refl _ _, fun _ _ _ _ _ => trivial⟩
    | 86, ho, hsk =>
      obtain rfl := Option.some.inj ho
      have e0 : a'.eval (.tmp 102) = .bool true := is_tq (hin 85 102 (by kernel_rfl) (by kernel_rfl)) rfl
      exact wp_assignV (.tmp 102) rfl _ e0 ⟨_, rfl, tq_is _ _ _ _ rfl, Kept.refl _ _, fun _ _ _ _ _ => trivial⟩
  intro w9 hk9
  replace hk9 : Kept [] w w9 := ⟨hk9.os, hk9.tape, hk9.output, hk9.size, hk9.block⟩
  generalize hA : putAll _ _ _ = A
  have E : A = ⟨#[P0 b, P0 c, undef, undef, .bool true, P0 b, .bool false, .bool false, P0 c, .bool false, .bool false, undef, undef, undef, undef, undef, undef, P0 b, P0 b, .pointer (some ⟨b, 3, none⟩), aggV (b8 lo0.ho), P0 c, P0 c, .pointer (some ⟨c, 3, none⟩), aggV (b8 lo0.ho), .bool true, .bool true, P0 b, P0 b, .pointer (some ⟨b, 1, none⟩), .int .i64 lo0.ex, P0 c, P0 c, .pointer (some ⟨c, 1, none⟩), .int .i64 lo0.ex, .bool true, .bool true, .bool true, P0 b, P0 b, .pointer (some ⟨b, 11, none⟩), aggV (i8 lo0.ops), P0 c, P0 c, .pointer (some ⟨c, 11, none⟩), aggV (i8 lo0.ops), .bool true, .bool true, .bool true, P0 b, P0 b, .pointer (some ⟨b, 2, none⟩), .int .i64 lo0.ow, P0 c, P0 c, .pointer (some ⟨c, 2, none⟩), .int .i64 lo0.ow, .bool true, .bool true, .bool true, P0 b, P0 b, .pointer (some ⟨b, 19, none⟩), aggV (b8 lo0.pa), P0 c, P0 c, .pointer (some ⟨c, 19, none⟩), aggV (b8 lo0.pa), .bool true, .bool true, .bool true, P0 b, P0 b, .pointer (some ⟨b, 27, none⟩), .slice none 0 0, P0 c, P0 c, .pointer (some ⟨c, 27, none⟩), .slice none 0 0, .bool true, .bool true, .bool true, P0 b, P0 b, .pointer (some ⟨b, 28, none⟩), aggV (Wi.C (Lo.wi lo0)), P0 c, P0 c, .pointer (some ⟨c, 28, none⟩), aggV (Wi.C (Lo.wi lo0)), .bool true, .bool true, .bool true, P0 b, P0 b, .pointer (some ⟨b, 30, none⟩), .int .i64 lo0.op, P0 c, P0 c, .pointer (some ⟨c, 30, none⟩), .int .i64 lo0.op, .bool true, .bool true], []⟩ := by rw [← hA]; kernel_rfl
  subst E
  clear hA
  refine wpAny_done (by kernel_rfl) ?_ _
  go_wp2_with fail
  go_ret
  exact ⟨rfl, hk9⟩

end Go.Proofs.Ytbigongmlpoahaa
