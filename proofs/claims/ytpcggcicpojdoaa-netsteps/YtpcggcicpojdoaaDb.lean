/-
  do: steps that write no bytes.
-/
import Derived.Test.YtpcggcicpojdoaaDa
import Derived.Test.YtpcggcicpojdoaaOn
namespace Go.Proofs.Ytpcggcicpojdoaa
open Go.RowKit

theorem res12 (w : World) (tmps : Array Value) (u v y : Value) (h6 : tmps[6]?.getD undef = u) (h7 : tmps[7]?.getD undef = v) (h8 : tmps[8]?.getD undef = y) : (results Try.f12 tmps).run Try.prog w = .ok (.tuple #[u, v, y]) w := by
  simp [results, Try.f12, go_sem, h6, h7, h8]
set_option maxHeartbeats 4000000 in
set_option maxRecDepth 100000 in
theorem do12_0 (x : Stq) (b mb : Nat) (v : Value) (N : Nn) (r : Nat) (lv : Value) (R : Nn) (w : World) (h : Pw w b mb v N r lv R) (hla : N.last ≤ 1000000000000) (h1 : x.k ≠ 1) (h2 : x.k ≠ 2) (h3 : x.k ≠ 3) (h4 : x.k ≠ 4) (h5 : x.k ≠ 5) (h6 : x.k ≠ 6) : Calls Try.prog 12 #[P0 b, P0 r, aggV x.C] w fun e w' => ∃ b' mb' v' N' lv' R', e = .returned (.tuple #[P0 b', P0 r, .bool true]) ∧ Dn w w' b mb v N r b' mb' v' N' lv' R' := by
  have HP := hide h
  have HLA := hide hla
  clear h hla
  go_enter Try.func12, Try.ntmps12
  go_wp2_with (
    first
    | (refine wpBoxV (by rfl) (.tmp 2) (by rfl) x.C (by kernel_rfl) ?_
       intro V1 p5 e5 B5 K5
       have HX5 := hide B5
       have HK := hide K5
       have hx0 := fits_cell (unhide HX5) 0 (.int .i64 x.k) rfl
       have hx1 := fits_cell (unhide HX5) 1 (.int .i64 x.a) rfl
       have hx2 := fits_cell (unhide HX5) 2 (.int .i64 x.b) rfl
       have hx3 := fits_cell (unhide HX5) 3 (.int .i64 x.n) rfl
       have hx4 := fits_cell (unhide HX5) 4 (.slice x.ao x.m x.c) rfl
       clear e5 B5 K5
       refine Stp.go ?_))
  constructor
  go_wp2_with fail
  exact bodyPost_ret (res12 _ _ _ _ _ rfl rfl rfl) rfl ⟨b, mb, v, N, lv, R, rfl, Dn.same (unhide HP) (unhide HK)⟩
theorem box_mut {W W' : World} {b mb : Nat} {v v' : Value} {N N' : Nn} {P : Pn} (hn : Nt W b mb v N) (hm : Mut W W' b mb v v' N' P) {p T : Nat} {us : List Value} (hp : Blk W p T us) (h1 : T ≠ 58) (h2 : T ≠ 2) : Blk W' p T us := by
  refine hp.kept hm.k ?_
  simp only [nX, List.mem_cons, Option.mem_toList, not_or]
  refine ⟨?_, map_not_cells hn.map hp, ?_⟩
  · rintro rfl
    exact h1 (blk_ty hp hn.head)
  · intro e
    obtain ⟨cs', hc'⟩ := owns_block hn.ord p e
    unfold Blk at hp
    rw [hp] at hc'
    injection hc' with hc'
    injection hc' with _ hc'
    exact h2 hc'
theorem box_rut {W W' : World} {r : Nat} {lv lv' : Value} {R R' : Nn} {P : Pn} (hr : Rt W r lv R) (hm : Rut W W' r lv' R' P) {p T : Nat} {us : List Value} (hp : Blk W p T us) (h1 : T ≠ 60) : Blk W' p T us := by
  refine hp.kept hm.k ?_
  simp
  rintro rfl
  exact h1 (blk_ty hp hr.head)
set_option maxHeartbeats 4000000 in
set_option maxRecDepth 100000 in
theorem do12_5 (x : Stq) (b mb : Nat) (v : Value) (N : Nn) (r : Nat) (lv : Value) (R : Nn) (w : World) (h : Pw w b mb v N r lv R) (hla : N.last ≤ 1000000000000) (hk : x.k = 5) : Calls Try.prog 12 #[P0 b, P0 r, aggV x.C] w fun e w' => ∃ b' mb' v' N' lv' R', e = .returned (.tuple #[P0 b', P0 r, .bool true]) ∧ Dn w w' b mb v N r b' mb' v' N' lv' R' := by
  have HP := hide h
  have HLA := hide hla
  clear h hla
  have HE := hide (congrArg (fun P => P.S.length) (unhide HP).pl)
  go_enter Try.func12, Try.ntmps12
  go_wp2_with (
    first
    | (refine wpBoxV (by rfl) (.tmp 2) (by rfl) x.C (by kernel_rfl) ?_
       intro V1 p5 e5 B5 K5
       have HX5 := hide B5
       have HK := hide K5
       have hx0 := fits_cell (unhide HX5) 0 (.int .i64 x.k) rfl
       have hx1 := fits_cell (unhide HX5) 1 (.int .i64 x.a) rfl
       have hx2 := fits_cell (unhide HX5) 2 (.int .i64 x.b) rfl
       have hx3 := fits_cell (unhide HX5) 3 (.int .i64 x.n) rfl
       have hx4 := fits_cell (unhide HX5) 4 (.slice x.ao x.m x.c) rfl
       have HP1 := hide ((unhide HP).kept0 (unhide HK))
       clear e5 B5 K5
       refine Stp.go ?_))
  constructor
  go_wp2_with (
    first
    | (go_at_call 25
       refine (p25 b mb v N _ (unhide HP1).net).mono ?_
       clear hx0 hx1 hx2 hx3 hx4
       rintro e V2 ⟨v1, N1, rfl, hm⟩
       have HM := hide hm
       have HX6 := unhide HX5
       replace HX5 := hide (box_mut (unhide HP1).net hm HX6 (by decide) (by decide))
       have HR1 := hide ((unhide HP1).ref.mut (unhide HP1).net hm)
       clear HX6
       have hx0 := fits_cell (unhide HX5) 0 (.int .i64 x.k) rfl
       have hx1 := fits_cell (unhide HX5) 1 (.int .i64 x.a) rfl
       have hx2 := fits_cell (unhide HX5) 2 (.int .i64 x.b) rfl
       have hx3 := fits_cell (unhide HX5) 3 (.int .i64 x.n) rfl
       have hx4 := fits_cell (unhide HX5) 4 (.slice x.ao x.m x.c) rfl
       clear hm
       refine Stp.go ?_))
  constructor
  go_wp2_with (
    first
    | (go_at_call 30
       refine (p30 r lv R _ (unhide HR1)).mono ?_
       clear hx0 hx1 hx2 hx3 hx4
       rintro e V3 ⟨lv1, R1, rfl, hu⟩
       have HU := hide hu
       have HX6 := unhide HX5
       replace HX5 := hide (box_rut (unhide HR1) hu HX6 (by decide))
       clear HX6
       rw [← unhide HE]
       have hx0 := fits_cell (unhide HX5) 0 (.int .i64 x.k) rfl
       have hx1 := fits_cell (unhide HX5) 1 (.int .i64 x.a) rfl
       have hx2 := fits_cell (unhide HX5) 2 (.int .i64 x.b) rfl
       have hx3 := fits_cell (unhide HX5) 3 (.int .i64 x.n) rfl
       have hx4 := fits_cell (unhide HX5) 4 (.slice x.ao x.m x.c) rfl
       clear hu
       refine Stp.go ?_))
  constructor
  go_wp2_with fail
  refine bodyPost_ret (res12 _ _ _ _ _ rfl rfl rfl) rfl ⟨b, mb, v1, N1, lv1, R1, by simp, Dn.both (unhide HP1) (unhide HK) (unhide HM) ?_ (Kept.refl _ _) (by show N.last ≤ _; omega) rfl⟩
  rw [(unhide HP1).nodes, (unhide HP1).last]
  exact unhide HU
set_option maxHeartbeats 4000000 in
set_option maxRecDepth 100000 in
theorem do12_3 (x : Stq) (b mb : Nat) (v : Value) (N : Nn) (r : Nat) (lv : Value) (R : Nn) (w : World) (h : Pw w b mb v N r lv R) (hla : N.last ≤ 1000000000000) (hk : x.k = 3) : Calls Try.prog 12 #[P0 b, P0 r, aggV x.C] w fun e w' => ∃ b' mb' v' N' lv' R', e = .returned (.tuple #[P0 b', P0 r, .bool true]) ∧ Dn w w' b mb v N r b' mb' v' N' lv' R' := by
  have HP := hide h
  have HLA := hide hla
  clear h hla
  go_enter Try.func12, Try.ntmps12
  go_wp2_with (
    first
    | (refine wpBoxV (by rfl) (.tmp 2) (by rfl) x.C (by kernel_rfl) ?_
       intro V1 p5 e5 B5 K5
       have HX5 := hide B5
       have HK := hide K5
       have hx0 := fits_cell (unhide HX5) 0 (.int .i64 x.k) rfl
       have hx1 := fits_cell (unhide HX5) 1 (.int .i64 x.a) rfl
       have hx2 := fits_cell (unhide HX5) 2 (.int .i64 x.b) rfl
       have hx3 := fits_cell (unhide HX5) 3 (.int .i64 x.n) rfl
       have hx4 := fits_cell (unhide HX5) 4 (.slice x.ao x.m x.c) rfl
       have HP1 := hide ((unhide HP).kept0 (unhide HK))
       clear e5 B5 K5
       refine Stp.go ?_))
  constructor
  go_wp2_with (
    first
    | (go_at_call 20
       refine (p20 b mb v N x.n _ (unhide HP1).net).mono ?_
       clear hx0 hx1 hx2 hx3 hx4
       rintro e V2 ⟨v1, N1, rfl, hm⟩
       have HM := hide hm
       have HX6 := unhide HX5
       replace HX5 := hide (box_mut (unhide HP1).net hm HX6 (by decide) (by decide))
       have HR1 := hide ((unhide HP1).ref.mut (unhide HP1).net hm)
       clear HX6
       have hx0 := fits_cell (unhide HX5) 0 (.int .i64 x.k) rfl
       have hx1 := fits_cell (unhide HX5) 1 (.int .i64 x.a) rfl
       have hx2 := fits_cell (unhide HX5) 2 (.int .i64 x.b) rfl
       have hx3 := fits_cell (unhide HX5) 3 (.int .i64 x.n) rfl
       have hx4 := fits_cell (unhide HX5) 4 (.slice x.ao x.m x.c) rfl
       clear hm
       refine Stp.go ?_))
  constructor
  go_wp2_with (
    first
    | (go_at_call 28
       refine (p28 r lv R x.n _ (unhide HR1) (unhide HP1).many).mono ?_
       clear hx0 hx1 hx2 hx3 hx4
       rintro e V3 ⟨lv1, R1, l, rfl, hsg, hbl, hu⟩
       have HU := hide hu
       have HX6 := unhide HX5
       replace HX5 := hide (box_rut (unhide HR1) hu HX6 (by decide))
       clear HX6
       have HBL := hide hbl
       rw [← (unhide HP1).pl]
       have hx0 := fits_cell (unhide HX5) 0 (.int .i64 x.k) rfl
       have hx1 := fits_cell (unhide HX5) 1 (.int .i64 x.a) rfl
       have hx2 := fits_cell (unhide HX5) 2 (.int .i64 x.b) rfl
       have hx3 := fits_cell (unhide HX5) 3 (.int .i64 x.n) rfl
       have hx4 := fits_cell (unhide HX5) 4 (.slice x.ao x.m x.c) rfl
       clear hsg hbl hu
       refine Stp.go ?_))
  constructor
  go_wp2_with (
    first
    | (refine wpNew row47 zL rfl alloc47 21 (by rfl) (by rfl) (by rfl) (.tmp 131) (by rfl) (by rfl) (by rfl) l.C rfl (D_one (l := l) (unhide HBL).one) (by kernel_rfl) (by kernel_rfl) ?_
       intro V4 p21 e21 B21 K21
       have HK4 := hide K21
       clear e21 B21 K21 hx0 hx1 hx2 hx3 hx4
       refine Stp.go ?_))
  constructor
  go_wp2_with (
    first
    | (go_at_call 9
       refine (st_num9 _ _).mono ?_
       rintro e w' ⟨rfl, hw9⟩
       obtain rfl := hw9.symm
       clear hw9
       refine Stp.go ?_))
  constructor
  go_wp2_with fail
  refine bodyPost_ret (res12 _ _ _ _ _ rfl rfl rfl) rfl ⟨b, mb, v1, N1, lv1, R1, by simp, Dn.both (unhide HP1) (unhide HK) (unhide HM) ?_ (unhide HK4) (pdel_last _ _) (pdel_nodes _ _)⟩
  rw [(unhide HP1).pl]
  exact unhide HU
set_option maxHeartbeats 4000000 in
set_option maxRecDepth 100000 in
theorem do12_4 (x : Stq) (b mb : Nat) (v : Value) (N : Nn) (r : Nat) (lv : Value) (R : Nn) (w : World) (h : Pw w b mb v N r lv R) (hla : N.last ≤ 1000000000000) (hk : x.k = 4) : Calls Try.prog 12 #[P0 b, P0 r, aggV x.C] w fun e w' => ∃ b' mb' v' N' lv' R', e = .returned (.tuple #[P0 b', P0 r, .bool true]) ∧ Dn w w' b mb v N r b' mb' v' N' lv' R' := by
  have HP := hide h
  have HLA := hide hla
  clear h hla
  go_enter Try.func12, Try.ntmps12
  go_wp2_with (
    first
    | (refine wpBoxV (by rfl) (.tmp 2) (by rfl) x.C (by kernel_rfl) ?_
       intro V1 p5 e5 B5 K5
       have HX5 := hide B5
       have HK := hide K5
       have hx0 := fits_cell (unhide HX5) 0 (.int .i64 x.k) rfl
       have hx1 := fits_cell (unhide HX5) 1 (.int .i64 x.a) rfl
       have hx2 := fits_cell (unhide HX5) 2 (.int .i64 x.b) rfl
       have hx3 := fits_cell (unhide HX5) 3 (.int .i64 x.n) rfl
       have hx4 := fits_cell (unhide HX5) 4 (.slice x.ao x.m x.c) rfl
       have HP1 := hide ((unhide HP).kept0 (unhide HK))
       clear e5 B5 K5
       refine Stp.go ?_))
  constructor
  go_wp2_with (
    first
    | (go_at_call 17
       refine (p17 b mb v N x.n _ (unhide HP1).net (unhide HLA)).mono ?_
       clear hx0 hx1 hx2 hx3 hx4
       rintro e V2 ⟨v1, N1, rfl, hm⟩
       have HM := hide hm
       have HX6 := unhide HX5
       replace HX5 := hide (box_mut (unhide HP1).net hm HX6 (by decide) (by decide))
       have HR1 := hide ((unhide HP1).ref.mut (unhide HP1).net hm)
       clear HX6
       have hx0 := fits_cell (unhide HX5) 0 (.int .i64 x.k) rfl
       have hx1 := fits_cell (unhide HX5) 1 (.int .i64 x.a) rfl
       have hx2 := fits_cell (unhide HX5) 2 (.int .i64 x.b) rfl
       have hx3 := fits_cell (unhide HX5) 3 (.int .i64 x.n) rfl
       have hx4 := fits_cell (unhide HX5) 4 (.slice x.ao x.m x.c) rfl
       clear hm
       refine Stp.go ?_))
  constructor
  go_wp2_with (
    first
    | (go_at_call 29
       refine (p29 r lv R x.n _ (unhide HR1) (unhide HP1).many (unhide HP1).small ((unhide HP1).la (unhide HLA))).mono ?_
       clear hx0 hx1 hx2 hx3 hx4
       rintro e V3 ⟨lv1, R1, rfl, hu⟩
       have HU := hide hu
       have HX6 := unhide HX5
       replace HX5 := hide (box_rut (unhide HR1) hu HX6 (by decide))
       clear HX6
       rw [← (unhide HP1).pl]
       have hx0 := fits_cell (unhide HX5) 0 (.int .i64 x.k) rfl
       have hx1 := fits_cell (unhide HX5) 1 (.int .i64 x.a) rfl
       have hx2 := fits_cell (unhide HX5) 2 (.int .i64 x.b) rfl
       have hx3 := fits_cell (unhide HX5) 3 (.int .i64 x.n) rfl
       have hx4 := fits_cell (unhide HX5) 4 (.slice x.ao x.m x.c) rfl
       clear hu
       refine Stp.go ?_))
  constructor
  go_wp2_with (
    first
    | (go_at_call 9
       refine (st_num9 _ _).mono ?_
       rintro e w' ⟨rfl, hw9⟩
       obtain rfl := hw9.symm
       clear hw9
       refine Stp.go ?_))
  constructor
  go_wp2_with fail
  refine bodyPost_ret (res12 _ _ _ _ _ rfl rfl rfl) rfl ⟨b, mb, v1, N1, lv1, R1, by simp, Dn.both (unhide HP1) (unhide HK) (unhide HM) ?_ (Kept.refl _ _) (pdbl_last _ _) (pdbl_nodes _ _)⟩
  rw [(unhide HP1).pl]
  exact unhide HU
theorem Rut.step {w w0 w' : World} {r : Nat} {lv' : Value} {R' : Nn} {P : Pn} (hk : Kept [] w w0) (h : Rut w0 w' r lv' R' P) : Rut w w' r lv' R' P := ⟨h.rt, h.pl, (hk.mono (by simp)).trans h.k⟩
theorem Nt.mono0 {W W' : World} {b mb : Nat} {v v' : Value} {N' : Nn} {P : Pn} {w : World} (h : Mut w W b mb v v' N' P) (hk : Kept [] W W') : Mut w W' b mb v v' N' P := ⟨h.nt.kept0 hk, h.pl, h.k.trans (hk.mono (by simp)), h.v⟩
set_option maxHeartbeats 4000000 in
set_option maxRecDepth 100000 in
theorem do12_2 (x : Stq) (b mb : Nat) (v : Value) (N : Nn) (r : Nat) (lv : Value) (R : Nn) (w : World) (h : Pw w b mb v N r lv R) (hla : N.last ≤ 1000000000000) (hk : x.k = 2) : Calls Try.prog 12 #[P0 b, P0 r, aggV x.C] w fun e w' => ∃ b' mb' v' N' lv' R', e = .returned (.tuple #[P0 b', P0 r, .bool true]) ∧ Dn w w' b mb v N r b' mb' v' N' lv' R' := by
  have HP := hide h
  have HLA := hide hla
  clear h hla
  go_enter Try.func12, Try.ntmps12
  go_wp2_with (
    first
    | (refine wpBoxV (by rfl) (.tmp 2) (by rfl) x.C (by kernel_rfl) ?_
       intro V1 p5 e5 B5 K5
       have HX5 := hide B5
       have HK := hide K5
       have hx0 := fits_cell (unhide HX5) 0 (.int .i64 x.k) rfl
       have hx1 := fits_cell (unhide HX5) 1 (.int .i64 x.a) rfl
       have hx2 := fits_cell (unhide HX5) 2 (.int .i64 x.b) rfl
       have hx3 := fits_cell (unhide HX5) 3 (.int .i64 x.n) rfl
       have hx4 := fits_cell (unhide HX5) 4 (.slice x.ao x.m x.c) rfl
       have HP1 := hide ((unhide HP).kept0 (unhide HK))
       clear e5 B5 K5
       refine Stp.go ?_))
  constructor
  go_wp2_with (
    first
    | (go_at_call 18
       refine (p18 b mb v N x.n _ (unhide HP1).net).mono ?_
       clear hx0 hx1 hx2 hx3 hx4
       rintro e V2 ⟨v1, N1, l, rfl, hsg, hbl, hm⟩
       have HM := hide hm
       have HX6 := unhide HX5
       replace HX5 := hide (box_mut (unhide HP1).net hm HX6 (by decide) (by decide))
       have HR1 := hide ((unhide HP1).ref.mut (unhide HP1).net hm)
       clear HX6
       have HSG := hide hsg
       have HBL := hide hbl
       have hx0 := fits_cell (unhide HX5) 0 (.int .i64 x.k) rfl
       have hx1 := fits_cell (unhide HX5) 1 (.int .i64 x.a) rfl
       have hx2 := fits_cell (unhide HX5) 2 (.int .i64 x.b) rfl
       have hx3 := fits_cell (unhide HX5) 3 (.int .i64 x.n) rfl
       have hx4 := fits_cell (unhide HX5) 4 (.slice x.ao x.m x.c) rfl
       clear hsg hbl hm
       refine Stp.go ?_))
  constructor
  go_wp2_with (
    first
    | (refine wpNew row47 zL rfl alloc47 16 (by rfl) (by rfl) (by rfl) (.tmp 100) (by rfl) (by rfl) (by rfl) l.C rfl (D_one (l := l) (unhide HBL).one) (by kernel_rfl) (by kernel_rfl) ?_
       intro V3 p16 e16 B16 K16
       have HB16 := hide B16
       have HK3 := hide K16
       replace HBL := hide ((unhide HBL).kept K16 (by simp))
       replace HR1 := hide ((unhide HR1).kept0 K16)
       replace HX5 := hide ((unhide HX5).kept K16 (by simp))
       clear e16 B16 K16 hx0 hx1 hx2 hx3 hx4
       have hx0 := fits_cell (unhide HX5) 0 (.int .i64 x.k) rfl
       have hx1 := fits_cell (unhide HX5) 1 (.int .i64 x.a) rfl
       have hx2 := fits_cell (unhide HX5) 2 (.int .i64 x.b) rfl
       have hx3 := fits_cell (unhide HX5) 3 (.int .i64 x.n) rfl
       have hx4 := fits_cell (unhide HX5) 4 (.slice x.ao x.m x.c) rfl
       refine Stp.go ?_))
  constructor
  go_wp2_with (
    first
    | (go_at_call 28
       refine (p28 r lv R x.n _ (unhide HR1) (unhide HP1).many).mono ?_
       clear hx0 hx1 hx2 hx3 hx4
       rintro e V4 ⟨lv1, R1, l2, rfl, hsg2, hbl2, hu⟩
       have HU := hide hu
       have HX6 := unhide HX5
       replace HX5 := hide (box_rut (unhide HR1) hu HX6 (by decide))
       clear HX6
       rw [← (unhide HP1).pl] at hsg2
       have HAL : Hid (alike l l2 = true) := alike_sig.2 ((unhide HSG).trans hsg2.symm)
       have HBL2 := hide hbl2
       replace HBL := hide ((unhide HBL).kept hu.k (by
         intro k e hm
         simp at hm
         subst hm
         obtain ⟨cs, hc⟩ := (unhide HBL).block k e
         have h1 := (unhide HR1).head
         unfold Blk at h1
         rw [h1] at hc
         cases hc))
       replace HB16 := hide (box_rut (unhide HR1) hu (unhide HB16) (by decide))
       rw [← (unhide HP1).pl]
       have hx0 := fits_cell (unhide HX5) 0 (.int .i64 x.k) rfl
       have hx1 := fits_cell (unhide HX5) 1 (.int .i64 x.a) rfl
       have hx2 := fits_cell (unhide HX5) 2 (.int .i64 x.b) rfl
       have hx3 := fits_cell (unhide HX5) 3 (.int .i64 x.n) rfl
       have hx4 := fits_cell (unhide HX5) 4 (.slice x.ao x.m x.c) rfl
       clear hsg2 hbl2 hu
       refine Stp.go ?_))
  constructor
  go_wp2_with (
    first
    | (refine wpNew row47 zL rfl alloc47 18 (by rfl) (by rfl) (by rfl) (.tmp 107) (by rfl) (by rfl) (by rfl) l2.C rfl (D_one (l := l2) (unhide HBL2).one) (by kernel_rfl) (by kernel_rfl) ?_
       intro V5 p18 e18 B18 K18
       have HB18 := hide B18
       have HK5 := hide K18
       replace HB16 := hide ((unhide HB16).kept K18 (by simp))
       replace HBL := hide ((unhide HBL).kept K18 (by simp))
       replace HBL2 := hide ((unhide HBL2).kept K18 (by simp))
       clear e18 B18 K18 hx0 hx1 hx2 hx3 hx4
       refine Stp.go ?_))
  constructor
  go_wp2_with (
    first
    | (refine wpLoadA row47 (by rfl) (.tmp 16) (by rfl) p16 0 (by kernel_rfl) l.C rfl (unhide HB16).range ?_
       refine Stp.go ?_))
  constructor
  go_wp2_with (
    first
    | (refine wpLoadA row47 (by rfl) (.tmp 18) (by rfl) p18 0 (by kernel_rfl) l2.C rfl (unhide HB18).range ?_
       refine Stp.go ?_))
  constructor
  go_wp2_with (
    first
    | (go_at_call 19
       refine (same19x l l2 _ (unhide HBL).row (unhide HBL2).row (unhide HBL).byte (unhide HBL2).byte).mono ?_
       rintro e V6 ⟨rfl, hk6⟩
       rw [unhide HAL]
       have HK6 := hide hk6
       clear hk6
       refine Stp.go ?_))
  constructor
  go_wp2_with (
    first
    | (go_at_call 9
       refine (st_num9 _ _).mono ?_
       rintro e w' ⟨rfl, hw9⟩
       obtain rfl := hw9.symm
       clear hw9
       refine Stp.go ?_))
  constructor
  go_wp2_with fail
  refine bodyPost_ret (res12 _ _ _ _ _ rfl rfl rfl) rfl ⟨b, mb, v1, N1, lv1, R1, by simp, Dn.both (unhide HP1) (unhide HK) (Nt.mono0 (unhide HM) (unhide HK3)) ?_ ((unhide HK5).trans (unhide HK6)) (pdel_last _ _) (pdel_nodes _ _)⟩
  rw [(unhide HP1).pl]
  exact unhide HU

end Go.Proofs.Ytpcggcicpojdoaa
