/-
  The walk of AreaApart, where the two records lie apart (one node).
-/
import Derived.Test.YtcfoebpbbmnleaaApart
namespace Go.Proofs.Ytcfoebpbbmnleaa
open Go.RowKit

set_option maxHeartbeats 4000000 in
set_option maxRecDepth 100000 in
theorem apart_b (j : Job) (xn xp xs xl yp ys yl N a b m : Int) (hS : j.sectors = (N, 0)) (hX : j.record xn xl = (a, 0)) (hY : j.record xn yl = (b, 0)) (hl : 2 ≤ j.l ∧ j.l ≤ 64) (hx : 1 ≤ xl ∧ xl ≤ 2147483647) (hy : 1 ≤ yl ∧ yl ≤ 2147483647) (ha : 10 ≤ a ∧ a + 1 < N) (hb : 10 ≤ b ∧ b + 1 < N) (hN : N ≤ 10000)
    (hm : (xl - 1) % j.l = m) (ho1 : j.of a = (⟨4, xn, m, 0⟩, 0)) (ho2 : j.of (a + 1) = (⟨4, xn, m, 1⟩, 0)) (ht : ¬ (xl - yl).tmod j.l = 0) (hab : ¬ a = b) (hab1 : ¬ a = b + 1) (hab2 : ¬ b = a + 1)
    (c k : Int) (hP : j.page xp = (c, k)) (hk : (0 ≤ k ∧ k ≤ 2) ∧ (k = 0 → j.of c = (⟨5, 0, xp, 0⟩, 0) ∧ a + 1 < c ∧ c + 1 < N)) (w : World) :
    Calls Try.prog 5 #[aggV (jobC j), aggV (fourC xn xp xs xl), aggV (fourC xn yp ys yl)] w fun e w' => e = .returned (.bool true) ∧ Kept [] w w' := by
  have p0 := hide known14
  have p1 := hide (sectors8 j)
  rw [hS] at p1
  have p2 := hide (record16 j xn xl)
  rw [hX] at p2
  have p3 := hide (record16 j xn yl)
  rw [hY] at p3
  have q1 := hide (of13 j a (by unfold I64; omega))
  rw [ho1] at q1
  have q2 := hide (of13 j (a + 1) (by unfold I64; omega))
  rw [ho2] at q2
  have hmr := hide hm
  have hk' := hide hk
  have hP' := hide hP
  clear hS hX hY ho1 ho2 hm hk hP
  go_enter Try.func5, Try.ntmps5
  go_wp2_with (
    first
    | (refine wpBoxV rfl (.tmp 0) rfl (jobC j) rfl ?_
       intro W1 b1 e1 B1 K1
       have BB1 := hide B1
       have KK1 := hide K1
       clear e1 B1 K1)
    | (refine wpBoxV rfl (.tmp 1) rfl (fourC xn xp xs xl) rfl ?_
       intro W2 b2 e2 B2 K2
       have BB2 := hide (And.intro ((unhide BB1).kept K2 (by simp)) B2)
       have KK2 := hide ((unhide KK1).trans K2)
       clear e2 B2 K2 BB1 KK1)
    | (refine wpBoxV rfl (.tmp 2) rfl (fourC xn yp ys yl) rfl ?_
       intro W3 b3 e3 B3 K3
       have BB : Hid (Three W3 b1 b2 b3 j (fourC xn xp xs xl) (fourC xn yp ys yl)) := ⟨(unhide BB2).1.kept K3 (by simp), (unhide BB2).2.kept K3 (by simp), B3⟩
       have KK := hide ((unhide KK2).trans K3)
       clear e3 B3 K3 BB2 KK2)
    | (refine wpLoadA row23 rfl (.tmp 3) rfl b1 0 rfl (jobC j) rfl (unhide BB).1.range ?_)
    | (go_at_call 14; refine (unhide p0 _).mono ?_; clear p0; rintro e W' ⟨rfl, K'⟩
       replace BB := hide ((unhide BB).kept K')
       replace KK := hide ((unhide KK).trans K')
       clear K')
    | (go_at_call 8; refine (unhide p1 _).mono ?_; clear p1; rintro e W' ⟨rfl, K'⟩
       replace BB := hide ((unhide BB).kept K')
       replace KK := hide ((unhide KK).trans K')
       obtain ⟨x0, x1, x2, x3, y0, y1, y2, y3, z3⟩ := (unhide BB).cells
       clear K')
    | (go_at_call 16; refine (unhide p2 _).mono ?_; clear p2; rintro e W' ⟨rfl, K'⟩
       clear x0 x1 x2 x3 y0 y1 y2 y3 z3
       replace BB := hide ((unhide BB).kept K')
       replace KK := hide ((unhide KK).trans K')
       obtain ⟨x0, x1, x2, x3, y0, y1, y2, y3, z3⟩ := (unhide BB).cells
       clear K')
    | (go_at_call 16; refine (unhide p3 _).mono ?_; clear p3; rintro e W' ⟨rfl, K'⟩
       clear x0 x1 x2 x3 y0 y1 y2 y3 z3
       replace BB := hide ((unhide BB).kept K')
       replace KK := hide ((unhide KK).trans K')
       obtain ⟨x0, x1, x2, x3, y0, y1, y2, y3, z3⟩ := (unhide BB).cells
       clear K')
    | (go_at_call 11; refine (num11 _ _).mono ?_; rintro e W' ⟨rfl, rfl⟩)
    | (go_at_call 13; refine (unhide q1 _).mono ?_; clear q1; rintro e W' ⟨rfl, K'⟩
       clear x0 x1 x2 x3 y0 y1 y2 y3 z3
       replace BB := hide ((unhide BB).kept K')
       replace KK := hide ((unhide KK).trans K')
       obtain ⟨x0, x1, x2, x3, y0, y1, y2, y3, z3⟩ := (unhide BB).cells
       clear K')
    | (go_at_call 13; refine (unhide q2 _).mono ?_; clear q2; rintro e W' ⟨rfl, K'⟩
       replace BB := hide ((unhide BB).kept K')
       replace KK := hide ((unhide KK).trans K')
       replace B4' := hide ((unhide B4').kept K' (by simp))
       clear K')
    | (refine wpNew row37 (fourC 0 0 0 0) rfl zero37 14 rfl rfl rfl (.tmp 109) rfl rfl rfl (fourC 4 xn m 0) rfl (fourC_one _ _ _ _) rfl rfl ?_
       intro W4 b4 e4 B4 K4
       clear x0 x1 x2 x3 y0 y1 y2 y3 z3
       replace BB := hide ((unhide BB).kept K4)
       replace KK := hide ((unhide KK).trans K4)
       have B4' := hide B4
       clear e4 B4 K4)
    | (refine wpNew row37 (fourC 0 0 0 0) rfl zero37 16 rfl rfl rfl (.tmp 116) rfl rfl rfl (fourC 4 xn m 1) rfl (fourC_one _ _ _ _) rfl rfl ?_
       intro W5 b5 e5 B5 K5
       replace BB := hide ((unhide BB).kept K5)
       replace KK := hide ((unhide KK).trans K5)
       replace B4' := hide ((unhide B4').kept K5 (by simp))
       have B5' := hide B5
       clear e5 B5 K5))
  · rename_i hbad
    simp [hab1, hab2] at hbad
    omega
  rotate_left
  · rename_i hbad
    exact absurd (by rw [beq_false_of_ne hab, beq_false_of_ne ht]) hbad
  refine wp_region_prefG mixed 46 0 rfl (by kernel_rfl) (tab (List.map Fact.is [.int .i64 0, .int .i64 0, .int .i64 0, .int .i64 0, .int .i64 0, .bool false, .bool false, P0 b4, .int .i64 4, .bool false, .bool false, .bool false, .pointer (some ⟨b4, 1, none⟩), .int .i64 xn, P0 b2, .int .i64 xn, .bool false, .bool false, .bool false, .pointer (some ⟨b4, 3, none⟩), .int .i64 0, .bool false, .bool false, .bool false, .pointer (some ⟨b5, 3, none⟩), .int .i64 1, .bool false, .bool false, .bool false, .pointer (some ⟨b5, 2, none⟩), .int .i64 m, .pointer (some ⟨b4, 2, none⟩), .int .i64 m, .bool false, .bool false, .bool false, .pointer (some ⟨b4, 2, none⟩), .int .i64 m, .pointer (some ⟨b2, 3, none⟩), .int .i64 xl, .int .i64 (xl - 1), .pointer (some ⟨b1, 3, none⟩), .int .i64 j.l, .int .i64 m, .bool false, .bool false])) (apartE []) (fun j o i b _ ho hg => guards_spec (by kernel_rfl) j o i b ho hg) (tab_kept _) (by kernel_rfl) ?_ ?_
  · intro i o hi ho a' w2 hout hin hk
    match i, ho with
    | 0, ho =>
      obtain rfl := Option.some.inj ho
      have e0 : a'.eval (.tmp 15) = .int .i64 0 := (hout 15 (by kernel_rfl)).trans rfl
      exact o_moveV (.tmp 15) _ rfl e0 ⟨_, rfl, tab_is _ _ _ _ rfl, Kept.refl _ _, fun i u _ _ _ => apart_no' (by decide) i u _⟩
    | 1, ho =>
      obtain rfl := Option.some.inj ho
      have e0 : a'.eval (.tmp 118) = .int .i64 0 := is_tab (hin 0 118 (by kernel_rfl) (by kernel_rfl)) rfl
      refine wp_callF 11 _ _ rfl #[.int .i64 0] (by simp [e0]) (cf11 _ _) ((num11 0 w2).mono ?_)
      rintro e w3 ⟨rfl, rfl⟩
      exact ⟨_, rfl, _, rfl, tab_is _ _ _ _ rfl, Kept.refl _ _, fun i u _ _ _ => apart_no' (by decide) i u _⟩
    | 2, ho =>
      obtain rfl := Option.some.inj ho
      have e0 : a'.eval (.tmp 17) = .int .i64 0 := (hout 17 (by kernel_rfl)).trans rfl
      exact o_moveV (.tmp 17) _ rfl e0 ⟨_, rfl, tab_is _ _ _ _ rfl, Kept.refl _ _, fun i u _ _ _ => apart_no' (by decide) i u _⟩
    | 3, ho =>
      obtain rfl := Option.some.inj ho
      have e0 : a'.eval (.tmp 120) = .int .i64 0 := is_tab (hin 2 120 (by kernel_rfl) (by kernel_rfl)) rfl
      refine wp_callF 11 _ _ rfl #[.int .i64 0] (by simp [e0]) (cf11 _ _) ((num11 0 w2).mono ?_)
      rintro e w3 ⟨rfl, rfl⟩
      exact ⟨_, rfl, _, rfl, tab_is _ _ _ _ rfl, Kept.refl _ _, fun i u _ _ _ => apart_no' (by decide) i u _⟩
    | 4, ho =>
      obtain rfl := Option.some.inj ho
      have e0 : a'.eval (.tmp 119) = .int .i64 0 := is_tab (hin 1 119 (by kernel_rfl) (by kernel_rfl)) rfl
      have e1 : a'.eval (.tmp 121) = .int .i64 0 := is_tab (hin 3 121 (by kernel_rfl) (by kernel_rfl)) rfl
      exact o_add3 (.tmp 119) (.tmp 121) rfl 0 0 (by omega) e0 e1 ⟨_, rfl, tab_is _ _ _ _ rfl, Kept.refl _ _, fun i u _ _ _ => apart_no' (by decide) i u _⟩
    | 5, ho =>
      obtain rfl := Option.some.inj ho
      have e0 : a'.eval (.tmp 122) = .int .i64 0 := is_tab (hin 4 122 (by kernel_rfl) (by kernel_rfl)) rfl
      exact o_neq3 (.tmp 122) (.const (.int .i64 0)) rfl _ e0 rfl ⟨_, rfl, tab_is _ _ _ _ rfl, Kept.refl _ _, fun i u _ _ _ => apart_no' (by decide) i u _⟩
    | 6, ho =>
      obtain rfl := Option.some.inj ho
      have e0 : a'.eval (.tmp 123) = .bool false := is_tab (hin 5 123 (by kernel_rfl) (by kernel_rfl)) rfl
      exact o_moveV (.tmp 123) _ rfl e0 ⟨_, rfl, tab_is _ _ _ _ rfl, Kept.refl _ _, fun i u _ _ _ => apart_no' (by decide) i u _⟩
    | 7, ho =>
      obtain rfl := Option.some.inj ho
      have e0 : a'.eval (.tmp 14) = P0 b4 := (hout 14 (by kernel_rfl)).trans rfl
      exact o_field37 (.tmp 14) 0 (by decide) rfl _ e0 ⟨_, rfl, tab_is _ _ _ _ rfl, Kept.refl _ _, fun i u _ _ _ => apart_no' (by decide) i u _⟩
    | 8, ho =>
      obtain rfl := Option.some.inj ho
      have e0 : a'.eval (.tmp 125) = P0 b4 := is_tab (hin 7 125 (by kernel_rfl) (by kernel_rfl)) rfl
      exact o_load35 (.tmp 125) rfl ⟨b4, 0, none⟩ _ e0 (fits_cell ((unhide B4').kept hk (by simp)) 0 _ rfl) ⟨_, rfl, tab_is _ _ _ _ rfl, Kept.refl _ _, fun i u _ _ _ => apart_no' (by decide) i u _⟩
    | 9, ho =>
      obtain rfl := Option.some.inj ho
      have e0 : a'.eval (.tmp 126) = .int .i64 4 := is_tab (hin 8 126 (by kernel_rfl) (by kernel_rfl)) rfl
      exact o_neq35 (.tmp 126) (.const (.int .i64 4)) rfl _ e0 rfl ⟨_, rfl, tab_is _ _ _ _ rfl, Kept.refl _ _, fun i u _ _ _ => apart_no' (by decide) i u _⟩
    | 10, ho =>
      obtain rfl := Option.some.inj ho
      have e0 : a'.eval (.tmp 124) = .bool false := is_tab (hin 6 124 (by kernel_rfl) (by kernel_rfl)) rfl
      have e1 : a'.eval (.tmp 127) = .bool false := is_tab (hin 9 127 (by kernel_rfl) (by kernel_rfl)) rfl
      exact o_pickOr (.tmp 124) (.tmp 127) rfl false e0 e1 ⟨_, rfl, tab_is _ _ _ _ rfl, Kept.refl _ _, fun i u _ _ _ => apart_no' (by decide) i u _⟩
    | 11, ho =>
      obtain rfl := Option.some.inj ho
      have e0 : a'.eval (.tmp 128) = .bool false := is_tab (hin 10 128 (by kernel_rfl) (by kernel_rfl)) rfl
      exact o_moveV (.tmp 128) _ rfl e0 ⟨_, rfl, tab_is _ _ _ _ rfl, Kept.refl _ _, fun i u _ _ _ => apart_no' (by decide) i u _⟩
    | 12, ho =>
      obtain rfl := Option.some.inj ho
      have e0 : a'.eval (.tmp 14) = P0 b4 := (hout 14 (by kernel_rfl)).trans rfl
      exact o_field37 (.tmp 14) 1 (by decide) rfl _ e0 ⟨_, rfl, tab_is _ _ _ _ rfl, Kept.refl _ _, fun i u _ _ _ => apart_no' (by decide) i u _⟩
    | 13, ho =>
      obtain rfl := Option.some.inj ho
      have e0 : a'.eval (.tmp 130) = .pointer (some ⟨b4, 1, none⟩) := is_tab (hin 12 130 (by kernel_rfl) (by kernel_rfl)) rfl
      exact o_load3 (.tmp 130) rfl ⟨b4, 1, none⟩ _ e0 (fits_cell ((unhide B4').kept hk (by simp)) 1 _ rfl) ⟨_, rfl, tab_is _ _ _ _ rfl, Kept.refl _ _, fun i u _ _ _ => apart_no' (by decide) i u _⟩
    | 14, ho =>
      obtain rfl := Option.some.inj ho
      have e0 : a'.eval (.tmp 4) = P0 b2 := (hout 4 (by kernel_rfl)).trans rfl
      exact o_field33 (.tmp 4) 0 (by decide) rfl _ e0 ⟨_, rfl, tab_is _ _ _ _ rfl, Kept.refl _ _, fun i u _ _ _ => apart_no' (by decide) i u _⟩
    | 15, ho =>
      obtain rfl := Option.some.inj ho
      have e0 : a'.eval (.tmp 132) = P0 b2 := is_tab (hin 14 132 (by kernel_rfl) (by kernel_rfl)) rfl
      exact o_load3 (.tmp 132) rfl ⟨b2, 0, none⟩ _ e0 (fits_cell ((unhide BB).2.1.kept hk (by simp)) 0 _ rfl) ⟨_, rfl, tab_is _ _ _ _ rfl, Kept.refl _ _, fun i u _ _ _ => apart_no' (by decide) i u _⟩
    | 16, ho =>
      obtain rfl := Option.some.inj ho
      have e0 : a'.eval (.tmp 131) = .int .i64 xn := is_tab (hin 13 131 (by kernel_rfl) (by kernel_rfl)) rfl
      have e1 : a'.eval (.tmp 133) = .int .i64 xn := is_tab (hin 15 133 (by kernel_rfl) (by kernel_rfl)) rfl
      exact o_neq3 (.tmp 131) (.tmp 133) rfl _ e0 e1 ⟨_, rfl, tab_is _ _ _ _ rfl, Kept.refl _ _, fun i u _ _ _ => apart_no' (by decide) i u _⟩
    | 17, ho =>
      obtain rfl := Option.some.inj ho
      have e0 : a'.eval (.tmp 129) = .bool false := is_tab (hin 11 129 (by kernel_rfl) (by kernel_rfl)) rfl
      have e1 : a'.eval (.tmp 134) = .bool false := is_tab (hin 16 134 (by kernel_rfl) (by kernel_rfl)) rfl
      exact o_pickOr (.tmp 129) (.tmp 134) rfl false e0 e1 ⟨_, rfl, tab_is _ _ _ _ rfl, Kept.refl _ _, fun i u _ _ _ => apart_no' (by decide) i u _⟩
    | 18, ho =>
      obtain rfl := Option.some.inj ho
      have e0 : a'.eval (.tmp 135) = .bool false := is_tab (hin 17 135 (by kernel_rfl) (by kernel_rfl)) rfl
      exact o_moveV (.tmp 135) _ rfl e0 ⟨_, rfl, tab_is _ _ _ _ rfl, Kept.refl _ _, fun i u _ _ _ => apart_no' (by decide) i u _⟩
    | 19, ho =>
      obtain rfl := Option.some.inj ho
      have e0 : a'.eval (.tmp 14) = P0 b4 := (hout 14 (by kernel_rfl)).trans rfl
      exact o_field37 (.tmp 14) 3 (by decide) rfl _ e0 ⟨_, rfl, tab_is _ _ _ _ rfl, Kept.refl _ _, fun i u _ _ _ => apart_no' (by decide) i u _⟩
    | 20, ho =>
      obtain rfl := Option.some.inj ho
      have e0 : a'.eval (.tmp 137) = .pointer (some ⟨b4, 3, none⟩) := is_tab (hin 19 137 (by kernel_rfl) (by kernel_rfl)) rfl
      exact o_load3 (.tmp 137) rfl ⟨b4, 3, none⟩ _ e0 (fits_cell ((unhide B4').kept hk (by simp)) 3 _ rfl) ⟨_, rfl, tab_is _ _ _ _ rfl, Kept.refl _ _, fun i u _ _ _ => apart_no' (by decide) i u _⟩
    | 21, ho =>
      obtain rfl := Option.some.inj ho
      have e0 : a'.eval (.tmp 138) = .int .i64 0 := is_tab (hin 20 138 (by kernel_rfl) (by kernel_rfl)) rfl
      exact o_neq3 (.tmp 138) (.const (.int .i64 0)) rfl _ e0 rfl ⟨_, rfl, tab_is _ _ _ _ rfl, Kept.refl _ _, fun i u _ _ _ => apart_no' (by decide) i u _⟩
    | 22, ho =>
      obtain rfl := Option.some.inj ho
      have e0 : a'.eval (.tmp 136) = .bool false := is_tab (hin 18 136 (by kernel_rfl) (by kernel_rfl)) rfl
      have e1 : a'.eval (.tmp 139) = .bool false := is_tab (hin 21 139 (by kernel_rfl) (by kernel_rfl)) rfl
      exact o_pickOr (.tmp 136) (.tmp 139) rfl false e0 e1 ⟨_, rfl, tab_is _ _ _ _ rfl, Kept.refl _ _, fun i u _ _ _ => apart_no' (by decide) i u _⟩
    | 23, ho =>
      obtain rfl := Option.some.inj ho
      have e0 : a'.eval (.tmp 140) = .bool false := is_tab (hin 22 140 (by kernel_rfl) (by kernel_rfl)) rfl
      exact o_moveV (.tmp 140) _ rfl e0 ⟨_, rfl, tab_is _ _ _ _ rfl, Kept.refl _ _, fun i u _ _ _ => apart_no' (by decide) i u _⟩
    | 24, ho =>
      obtain rfl := Option.some.inj ho
      have e0 : a'.eval (.tmp 16) = P0 b5 := (hout 16 (by kernel_rfl)).trans rfl
      exact o_field37 (.tmp 16) 3 (by decide) rfl _ e0 ⟨_, rfl, tab_is _ _ _ _ rfl, Kept.refl _ _, fun i u _ _ _ => apart_no' (by decide) i u _⟩
    | 25, ho =>
      obtain rfl := Option.some.inj ho
      have e0 : a'.eval (.tmp 142) = .pointer (some ⟨b5, 3, none⟩) := is_tab (hin 24 142 (by kernel_rfl) (by kernel_rfl)) rfl
      exact o_load3 (.tmp 142) rfl ⟨b5, 3, none⟩ _ e0 (fits_cell ((unhide B5').kept hk (by simp)) 3 _ rfl) ⟨_, rfl, tab_is _ _ _ _ rfl, Kept.refl _ _, fun i u _ _ _ => apart_no' (by decide) i u _⟩
    | 26, ho =>
      obtain rfl := Option.some.inj ho
      have e0 : a'.eval (.tmp 143) = .int .i64 1 := is_tab (hin 25 143 (by kernel_rfl) (by kernel_rfl)) rfl
      exact o_neq3 (.tmp 143) (.const (.int .i64 1)) rfl _ e0 rfl ⟨_, rfl, tab_is _ _ _ _ rfl, Kept.refl _ _, fun i u _ _ _ => apart_no' (by decide) i u _⟩
    | 27, ho =>
      obtain rfl := Option.some.inj ho
      have e0 : a'.eval (.tmp 141) = .bool false := is_tab (hin 23 141 (by kernel_rfl) (by kernel_rfl)) rfl
      have e1 : a'.eval (.tmp 144) = .bool false := is_tab (hin 26 144 (by kernel_rfl) (by kernel_rfl)) rfl
      exact o_pickOr (.tmp 141) (.tmp 144) rfl false e0 e1 ⟨_, rfl, tab_is _ _ _ _ rfl, Kept.refl _ _, fun i u _ _ _ => apart_no' (by decide) i u _⟩
    | 28, ho =>
      obtain rfl := Option.some.inj ho
      have e0 : a'.eval (.tmp 145) = .bool false := is_tab (hin 27 145 (by kernel_rfl) (by kernel_rfl)) rfl
      exact o_moveV (.tmp 145) _ rfl e0 ⟨_, rfl, tab_is _ _ _ _ rfl, Kept.refl _ _, fun i u _ _ _ => apart_no' (by decide) i u _⟩
    | 29, ho =>
      obtain rfl := Option.some.inj ho
      have e0 : a'.eval (.tmp 16) = P0 b5 := (hout 16 (by kernel_rfl)).trans rfl
      exact o_field37 (.tmp 16) 2 (by decide) rfl _ e0 ⟨_, rfl, tab_is _ _ _ _ rfl, Kept.refl _ _, fun i u _ _ _ => apart_no' (by decide) i u _⟩
    | 30, ho =>
      obtain rfl := Option.some.inj ho
      have e0 : a'.eval (.tmp 147) = .pointer (some ⟨b5, 2, none⟩) := is_tab (hin 29 147 (by kernel_rfl) (by kernel_rfl)) rfl
      exact o_load3 (.tmp 147) rfl ⟨b5, 2, none⟩ _ e0 (fits_cell ((unhide B5').kept hk (by simp)) 2 _ rfl) ⟨_, rfl, tab_is _ _ _ _ rfl, Kept.refl _ _, fun i u _ _ _ => apart_no' (by decide) i u _⟩
    | 31, ho =>
      obtain rfl := Option.some.inj ho
      have e0 : a'.eval (.tmp 14) = P0 b4 := (hout 14 (by kernel_rfl)).trans rfl
      exact o_field37 (.tmp 14) 2 (by decide) rfl _ e0 ⟨_, rfl, tab_is _ _ _ _ rfl, Kept.refl _ _, fun i u _ _ _ => apart_no' (by decide) i u _⟩
    | 32, ho =>
      obtain rfl := Option.some.inj ho
      have e0 : a'.eval (.tmp 149) = .pointer (some ⟨b4, 2, none⟩) := is_tab (hin 31 149 (by kernel_rfl) (by kernel_rfl)) rfl
      exact o_load3 (.tmp 149) rfl ⟨b4, 2, none⟩ _ e0 (fits_cell ((unhide B4').kept hk (by simp)) 2 _ rfl) ⟨_, rfl, tab_is _ _ _ _ rfl, Kept.refl _ _, fun i u _ _ _ => apart_no' (by decide) i u _⟩
    | 33, ho =>
      obtain rfl := Option.some.inj ho
      have e0 : a'.eval (.tmp 148) = .int .i64 m := is_tab (hin 30 148 (by kernel_rfl) (by kernel_rfl)) rfl
      have e1 : a'.eval (.tmp 150) = .int .i64 m := is_tab (hin 32 150 (by kernel_rfl) (by kernel_rfl)) rfl
      exact o_neq3 (.tmp 148) (.tmp 150) rfl _ e0 e1 ⟨_, rfl, tab_is _ _ _ _ rfl, Kept.refl _ _, fun i u _ _ _ => apart_no' (by decide) i u _⟩
    | 34, ho =>
      obtain rfl := Option.some.inj ho
      have e0 : a'.eval (.tmp 146) = .bool false := is_tab (hin 28 146 (by kernel_rfl) (by kernel_rfl)) rfl
      have e1 : a'.eval (.tmp 151) = .bool false := is_tab (hin 33 151 (by kernel_rfl) (by kernel_rfl)) rfl
      exact o_pickOr (.tmp 146) (.tmp 151) rfl false e0 e1 ⟨_, rfl, tab_is _ _ _ _ rfl, Kept.refl _ _, fun i u _ _ _ => apart_no' (by decide) i u _⟩
    | 35, ho =>
      obtain rfl := Option.some.inj ho
      have e0 : a'.eval (.tmp 152) = .bool false := is_tab (hin 34 152 (by kernel_rfl) (by kernel_rfl)) rfl
      exact o_moveV (.tmp 152) _ rfl e0 ⟨_, rfl, tab_is _ _ _ _ rfl, Kept.refl _ _, fun i u _ _ _ => apart_no' (by decide) i u _⟩
    | 36, ho =>
      obtain rfl := Option.some.inj ho
      have e0 : a'.eval (.tmp 14) = P0 b4 := (hout 14 (by kernel_rfl)).trans rfl
      exact o_field37 (.tmp 14) 2 (by decide) rfl _ e0 ⟨_, rfl, tab_is _ _ _ _ rfl, Kept.refl _ _, fun i u _ _ _ => apart_no' (by decide) i u _⟩
    | 37, ho =>
      obtain rfl := Option.some.inj ho
      have e0 : a'.eval (.tmp 154) = .pointer (some ⟨b4, 2, none⟩) := is_tab (hin 36 154 (by kernel_rfl) (by kernel_rfl)) rfl
      exact o_load3 (.tmp 154) rfl ⟨b4, 2, none⟩ _ e0 (fits_cell ((unhide B4').kept hk (by simp)) 2 _ rfl) ⟨_, rfl, tab_is _ _ _ _ rfl, Kept.refl _ _, fun i u _ _ _ => apart_no' (by decide) i u _⟩
    | 38, ho =>
      obtain rfl := Option.some.inj ho
      have e0 : a'.eval (.tmp 4) = P0 b2 := (hout 4 (by kernel_rfl)).trans rfl
      exact o_field33 (.tmp 4) 3 (by decide) rfl _ e0 ⟨_, rfl, tab_is _ _ _ _ rfl, Kept.refl _ _, fun i u _ _ _ => apart_no' (by decide) i u _⟩
    | 39, ho =>
      obtain rfl := Option.some.inj ho
      have e0 : a'.eval (.tmp 156) = .pointer (some ⟨b2, 3, none⟩) := is_tab (hin 38 156 (by kernel_rfl) (by kernel_rfl)) rfl
      exact o_load2 (.tmp 156) rfl ⟨b2, 3, none⟩ _ e0 (fits_cell ((unhide BB).2.1.kept hk (by simp)) 3 _ rfl) ⟨_, rfl, tab_is _ _ _ _ rfl, Kept.refl _ _, fun i u _ _ _ => apart_no' (by decide) i u _⟩
    | 40, ho =>
      obtain rfl := Option.some.inj ho
      have e0 : a'.eval (.tmp 157) = .int .i64 xl := is_tab (hin 39 157 (by kernel_rfl) (by kernel_rfl)) rfl
      exact o_sub2 (.tmp 157) (.const (.int .i64 1)) rfl _ _ (by unfold I64; omega) e0 rfl ⟨_, rfl, tab_is _ _ _ _ rfl, Kept.refl _ _, fun i u _ _ _ => apart_no' (by decide) i u _⟩
    | 41, ho =>
      obtain rfl := Option.some.inj ho
      have e0 : a'.eval (.tmp 3) = P0 b1 := (hout 3 (by kernel_rfl)).trans rfl
      exact o_field23 (.tmp 3) rfl _ e0 ⟨_, rfl, tab_is _ _ _ _ rfl, Kept.refl _ _, fun i u _ _ _ => apart_no' (by decide) i u _⟩
    | 42, ho =>
      obtain rfl := Option.some.inj ho
      have e0 : a'.eval (.tmp 159) = .pointer (some ⟨b1, 3, none⟩) := is_tab (hin 41 159 (by kernel_rfl) (by kernel_rfl)) rfl
      exact o_load3 (.tmp 159) rfl ⟨b1, 3, none⟩ _ e0 (fits_cell ((unhide BB).1.kept hk (by simp)) 3 _ rfl) ⟨_, rfl, tab_is _ _ _ _ rfl, Kept.refl _ _, fun i u _ _ _ => apart_no' (by decide) i u _⟩
    | 43, ho =>
      obtain rfl := Option.some.inj ho
      have e0 : a'.eval (.tmp 158) = .int .i64 (xl - 1) := is_tab (hin 40 158 (by kernel_rfl) (by kernel_rfl)) rfl
      have e1 : a'.eval (.tmp 160) = .int .i64 j.l := is_tab (hin 42 160 (by kernel_rfl) (by kernel_rfl)) rfl
      exact o_rem2 (.tmp 158) (.tmp 160) rfl _ _ m (by omega) (by omega) (unhide hmr) e0 e1 ⟨_, rfl, tab_is _ _ _ _ rfl, Kept.refl _ _, fun i u _ _ _ => apart_no' (by decide) i u _⟩
    | 44, ho =>
      obtain rfl := Option.some.inj ho
      have e0 : a'.eval (.tmp 155) = .int .i64 m := is_tab (hin 37 155 (by kernel_rfl) (by kernel_rfl)) rfl
      have e1 : a'.eval (.tmp 161) = .int .i64 m := is_tab (hin 43 161 (by kernel_rfl) (by kernel_rfl)) rfl
      exact o_neq2 (.tmp 155) (.tmp 161) rfl _ e0 e1 ⟨_, rfl, tab_is _ _ _ _ rfl, Kept.refl _ _, fun i u _ _ _ => apart_no' (by decide) i u _⟩
    | 45, ho =>
      obtain rfl := Option.some.inj ho
      have e0 : a'.eval (.tmp 153) = .bool false := is_tab (hin 35 153 (by kernel_rfl) (by kernel_rfl)) rfl
      have e1 : a'.eval (.tmp 162) = .bool false := is_tab (hin 44 162 (by kernel_rfl) (by kernel_rfl)) rfl
      exact o_pickOr (.tmp 153) (.tmp 162) rfl false e0 e1 ⟨_, rfl, tab_is _ _ _ _ rfl, Kept.refl _ _, fun i u _ _ _ => apart_no' (by decide) i u _⟩
  · intro vs w3 hlen hF hE hk
    obtain rfl := vs_is hF (by rw [hlen]; rfl)
    replace BB := hide ((unhide BB).kept hk)
    replace KK := hide ((unhide KK).trans hk)
    obtain ⟨x0, x1, x2, x3, y0, y1, y2, y3, z3⟩ := (unhide BB).cells
    clear hF hE hk B4' B5'
    simp only [List.take_succ_cons, List.take_zero, putAll, Act.put, List.setIfInBounds_toArray, List.set_cons_succ, List.set_cons_zero]
    refine wpAny_done (by kernel_rfl) ?_ _
    have hkk := unhide hk'
    have p4 := hide (page17 j xp)
    rw [unhide hP'] at p4
    clear hP' hk'
    by_cases hk0 : k = 0
    · subst hk0
      obtain ⟨hoc, hac, hcN⟩ := hkk.2 rfl
      have q3 := hide (of13 j c (by unfold I64; omega))
      rw [hoc] at q3
      have hca1 : ¬ c = a := by omega
      have hca2 : ¬ c = a + 1 := by omega
      clear hkk hoc
      go_wp2_with (
        first
        | (refine wpLoadA row23 rfl (.tmp 3) rfl b1 0 rfl (jobC j) rfl (unhide BB).1.range ?_)
        | (go_at_call 17; refine (unhide p4 _).mono ?_; clear p4; rintro e W' ⟨rfl, K'⟩
           clear x0 x1 x2 x3 y0 y1 y2 y3 z3
           replace BB := hide ((unhide BB).kept K')
           replace KK := hide ((unhide KK).trans K')
           obtain ⟨x0, x1, x2, x3, y0, y1, y2, y3, z3⟩ := (unhide BB).cells
           clear K')
        | (go_at_call 11; refine (num11 _ _).mono ?_; rintro e W' ⟨rfl, rfl⟩)
        | (go_at_call 13; refine (unhide q3 _).mono ?_; clear q3; rintro e W' ⟨rfl, K'⟩
           clear x0 x1 x2 x3 y0 y1 y2 y3 z3
           replace BB := hide ((unhide BB).kept K')
           replace KK := hide ((unhide KK).trans K')
           obtain ⟨x0, x1, x2, x3, y0, y1, y2, y3, z3⟩ := (unhide BB).cells
           clear K')
        | (refine wpNew row37 (fourC 0 0 0 0) rfl zero37 20 rfl rfl rfl (.tmp 178) rfl rfl rfl (fourC 5 0 xp 0) rfl (fourC_one _ _ _ _) rfl rfl ?_
           intro W6 b6 e6 B6 K6
           clear x0 x1 x2 x3 y0 y1 y2 y3 z3
           replace BB := hide ((unhide BB).kept K6)
           obtain ⟨x0, x1, x2, x3, y0, y1, y2, y3, z3⟩ := (unhide BB).cells
           replace KK := hide ((unhide KK).trans K6)
           have B6' := hide B6
           clear e6 B6 K6)
        | (refine wpLoadG row37 (.tmp 20) rfl (by kernel_rfl) b6 0 (by kernel_rfl) (fourC 5 0 xp 0) rfl (unhide B6').range ?_)
        | (refine wpBuildG _ rfl (by kernel_rfl) #[(0, .int .i64 5), (2, .int .i64 xp)] (by kernel_rfl) (fourC 5 0 xp 0) (build37e _ _) ?_)
        | (refine wpEqlG 37 37 guard37 (.tmp 184) (.tmp 187) rfl (by kernel_rfl) (fourC 5 0 xp 0) (fourC 5 0 xp 0) (by kernel_rfl) (by kernel_rfl) true (equal_self _ _) ?_))
      go_ret
      exact ⟨by simp; omega, unhide KK⟩
    · obtain ⟨hk1, _⟩ := hkk
      go_wp2_with (
        first
        | (refine wpLoadA row23 rfl (.tmp 3) rfl b1 0 rfl (jobC j) rfl (unhide BB).1.range ?_)
        | (go_at_call 17; refine (unhide p4 _).mono ?_; clear p4; rintro e W' ⟨rfl, K'⟩
           clear x0 x1 x2 x3 y0 y1 y2 y3 z3
           replace BB := hide ((unhide BB).kept K')
           replace KK := hide ((unhide KK).trans K')
           obtain ⟨x0, x1, x2, x3, y0, y1, y2, y3, z3⟩ := (unhide BB).cells
           clear K')
        | (go_at_call 11; refine (num11 _ _).mono ?_; rintro e W' ⟨rfl, rfl⟩))
      go_ret
      exact ⟨rfl, unhide KK⟩

end Go.Proofs.Ytcfoebpbbmnleaa
