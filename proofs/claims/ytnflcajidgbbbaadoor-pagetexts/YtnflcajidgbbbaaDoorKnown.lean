/-
  The walk of known: the chapter's rows.
-/
import Derived.Test.YtnflcajidgbbbaaDoorOps
namespace Go.Proofs.YtnflcajidgbbbaaDoor
open Go.RowKit

/-- Blocks that are kept in mind. -/
structure Mem (w W : World) (Bs : List (Nat × Nat × List Value)) : Prop where
  blk : ∀ x ∈ Bs, Blk W x.1 x.2.1 x.2.2
  k : Kept [] w W
theorem Mem.quiet {w W W' : World} {Bs : List (Nat × Nat × List Value)} (h : Mem w W Bs) (hk : Kept [] W W') : Mem w W' Bs := ⟨fun x hx => (h.blk x hx).kept hk (by simp), h.k.trans hk⟩
theorem Mem.add {w W W' : World} {Bs : List (Nat × Nat × List Value)} (h : Mem w W Bs) (hk : Kept [] W W') {b T : Nat} {vs : List Value} (hb : Blk W' b T vs) : Mem w W' ((b, T, vs) :: Bs) :=
  ⟨fun x hx => by rcases List.mem_cons.1 hx with rfl | hx; exact hb; exact (h.blk x hx).kept hk (by simp), h.k.trans hk⟩

def kA0 : List Int := laidL 2 0 5 (120 :: zs 47)
def kA1 : List Int := laidL 2 1 5 (zs 48)
def kB0 : List Int := laidL 2 0 6 (121 :: zs 47)
def kB1 : List Int := laidL 2 1 6 (zs 48)
theorem byts_zs47 (c : Int) (h : 0 ≤ c ∧ c < 256) : Byts 48 (c :: zs 47) := ⟨by simp [zs], fun x hx => by
  rcases List.mem_cons.1 hx with rfl | hx
  · exact h
  · exact (zs_byts 47).byte x hx⟩
theorem byts_zs95 (c : Int) (h : 0 ≤ c ∧ c < 256) : Byts 96 (c :: zs 95) := ⟨by simp [zs], fun x hx => by
  rcases List.mem_cons.1 hx with rfl | hx
  · exact h
  · exact (zs_byts 95).byte x hx⟩
theorem kA0_b : Byts 64 kA0 := laidL_byts (byts_zs47 120 (by omega))
theorem kA1_b : Byts 64 kA1 := laidL_byts (zs_byts 48)
theorem kB0_b : Byts 64 kB0 := laidL_byts (byts_zs47 121 (by omega))
theorem kB1_b : Byts 64 kB1 := laidL_byts (zs_byts 48)
theorem put_a : putL 2 5 (120 :: zs 95) = (kA0 ++ kA1, 0) := by kernel_rfl
theorem put_b : putL 2 6 (121 :: zs 95) = (kB0 ++ kB1, 0) := by kernel_rfl
theorem put_k : putL 0 0 (120 :: zs 95) = (zs 128, 2) := by kernel_rfl
theorem put_l : putL 16 1 (0 :: zs 95) = (zs 128, 2) := by kernel_rfl
theorem get_v : getL 2 kA0 kA1 = ((5, 120 :: zs 95), 0) := by kernel_rfl
theorem get_h : getL 2 kA0 kB1 = ((0, zs 96), 12) := by kernel_rfl
theorem get_i : getL 1 kA0 kA1 = ((0, zs 96), 12) := by kernel_rfl
theorem get_o : getL 0 (zs 64) (zs 64) = ((0, zs 96), 0) := by kernel_rfl
def kM : List Int := [97, 32, 98] ++ zs 93
def tM : List Int := [97, 37, 50, 48, 98]
def tP : List Int := [97, 37, 48, 48]
theorem kM_b : Byts 96 kM := ⟨by simp [kM, zs], by decide⟩
theorem tM_b : ∀ x ∈ tM, 0 ≤ x ∧ x < 256 := by decide
theorem tP_b : ∀ x ∈ tP, 0 ≤ x ∧ x < 256 := by decide
theorem body_m : bodyL tM = (kM, 0) := by kernel_rfl
theorem body_p : bodyL tP = (zs 96, 4) := by kernel_rfl
theorem text_m : textL kM = tM := by kernel_rfl
theorem text_z : textL (zs 96) = [37] := by kernel_rfl
theorem strM : strV tM = .string ⟨#[97, 37, 50, 48, 98]⟩ := rfl
theorem strP : strV tP = .string ⟨#[97, 37, 48, 48]⟩ := rfl
theorem str37 : strV [37] = .string ⟨#[37]⟩ := rfl
theorem pair_len {a b : List Int} (ha : Byts 64 a) (hb : Byts 64 b) : (u8s (a ++ b)).length = 128 := by rw [u8s_len, List.length_append, ha.len, hb.len]
theorem pair_l {w : World} {b T : Nat} {x y : List Int} (h : Blk w b T (u8s (x ++ y))) : w.rangeAt b 0 (u8s x) := h.rangeIn _ (fun j hj => by rw [u8s_app, Nat.zero_add, List.getElem?_append_left hj])
theorem pair_r {w : World} {b T : Nat} {x y : List Int} (hx : x.length = 64) (h : Blk w b T (u8s (x ++ y))) : w.rangeAt b 64 (u8s y) := h.rangeIn _ (fun j _ => by rw [u8s_app, List.getElem?_append_right (by rw [u8s_len]; omega), u8s_len, hx, Nat.add_sub_cancel_left])

theorem put_at {p n : Int} {s : List Int} (hs : Byts 96 s) {r : List Int × Int} (h : putL p n s = r) (w : World) : Calls Tryd.prog 8 #[.int .i64 p, aggV (verC n s)] w fun e w' => e = .returned (.tuple #[aggV (u8s r.1), .int .i64 r.2]) ∧ Kept [] w w' := h ▸ put8 p n s hs w
theorem get_at {p : Int} {a b : List Int} (ha : Byts 64 a) (hb : Byts 64 b) {r : (Int × List Int) × Int} (h : getL p a b = r) (w : World) : Calls Tryd.prog 12 #[.int .i64 p, aggV (u8s a), aggV (u8s b)] w fun e w' => e = .returned (.tuple #[aggV (verC r.1.1 r.1.2), .int .i64 r.2]) ∧ Kept [] w w' := h ▸ get12 p a b ha hb w
theorem body_at20 {L : List Int} (hL : ∀ x ∈ L, 0 ≤ x ∧ x < 256) (hl : L.length ≤ 9000000) {r : List Int × Int} (h : bodyL L = r) (w : World) : Calls Tryd.prog 20 #[strV L] w fun e w' => e = .returned (.tuple #[aggV (u8s r.1), .int .i64 r.2]) ∧ Kept [] w w' := h ▸ body20 L hL hl w
theorem text_at {s t : List Int} (hs : Byts 96 s) (h : textL s = t) (w : World) : Calls Tryd.prog 19 #[aggV (u8s s)] w fun e w' => e = .returned (strV t) ∧ Kept [] w w' := h ▸ text19 s hs w

/-- What the operations of known's last statement yield. -/
def knownT (bA bM : Nat) : List Fct := [.is (.int .i64 0), .is (.int .i64 0), .is (.int .i64 0), .is (.int .i64 0), .is (.int .i64 0), .is (.int .i64 0), .is (.int .i64 0), .is (.int .i64 0), .is (.int .i64 0), .is (.int .i64 0), .is (.int .i64 0), .is (.int .i64 0), .is (.int .i64 0), .is (.int .i64 0), .is (.bool true), .is (.bool true), .is (.pointer (some ⟨bA, 0, none⟩)), .is (.pointer (some ⟨bA, 0, none⟩)), .is (.int .u8 161), .is (.bool true), .is (.bool true), .is (.bool true), .is (.pointer (some ⟨bA, 0, none⟩)), .is (.pointer (some ⟨bA, 1, none⟩)), .is (.int .u8 2), .is (.bool true), .is (.bool true), .is (.bool true), .is (.pointer (some ⟨bA, 0, none⟩)), .is (.pointer (some ⟨bA, 5, none⟩)), .is (.int .u8 5), .is (.bool true), .is (.bool true), .is (.bool true), .is (.pointer (some ⟨bA, 0, none⟩)), .is (.pointer (some ⟨bA, 6, none⟩)), .is (.int .u8 120), .is (.bool true), .is (.bool true), .is (.bool true), .is (.pointer (some ⟨bA, 64, none⟩)), .is (.pointer (some ⟨bA, 64, none⟩)), .is (.int .u8 162), .is (.bool true), .is (.bool true), .is (.bool true), .is (.pointer (some ⟨bA, 64, none⟩)), .is (.pointer (some ⟨bA, 69, none⟩)), .is (.int .u8 5), .is (.bool true), .is (.bool true), .is (.bool true), .is (.pointer (some ⟨bA, 64, none⟩)), .is (.pointer (some ⟨bA, 70, none⟩)), .is (.int .u8 0), .is (.bool true), .is (.bool true), .is (.bool true), .is (aggV (verC 5 (120 :: zs 95))), .is (aggV (verC 5 (120 :: zs 95))), .is (.bool true), .is (.bool true), .is (.bool true), .is (.int .i64 12), .is (.int .i64 12), .is (.bool true), .is (.bool true), .is (.bool true), .is (.int .i64 12), .is (.int .i64 12), .is (.bool true), .is (.bool true), .is (.bool true), .is (aggV (verC 0 (zs 96))), .is (aggV (verC 0 (zs 96))), .is (.bool true), .is (.bool true), .is (.bool true), .is (.int .i64 2), .is (.int .i64 2), .is (.bool true), .is (.bool true), .is (.bool true), .is (.int .i64 2), .is (.int .i64 2), .is (.bool true), .is (.bool true), .is (.bool true), .is (aggV (u8s kM)), .is (strV tM), .is (.bool true), .is (.bool true), .is (.bool true), .is (.pointer (some ⟨bM, 1, none⟩)), .is (.int .u8 32), .is (.bool true), .is (.bool true), .is (.bool true), .is (.int .i64 4), .is (.int .i64 4), .is (.bool true), .is (.bool true), .is (.bool true), .is (aggV (u8s (zs 96))), .is (strV [37]), .is (.bool true), .is (.bool true), .is (.bool true)]

set_option maxHeartbeats 8000000 in
set_option maxRecDepth 100000 in
theorem known11 (w : World) : Calls Tryd.prog 11 #[] w fun e w' => e = .returned (.bool true) ∧ Kept [] w w' := by
  have M : Hid (Mem w w []) := ⟨by simp, Kept.refl _ _⟩
  go_enter Tryd.func11, Tryd.ntmps11
  go_wp2_with fail
  refine (version23 5 120 _).mono ?_
  rintro e w1 ⟨rfl, k1⟩
  replace M := hide ((unhide M).quiet k1)
  clear k1
  go_wp2_with fail
  refine (put_at (byts_zs95 120 (by omega)) put_a _).mono ?_
  rintro e w2 ⟨rfl, k2⟩
  replace M := hide ((unhide M).quiet k2)
  clear k2
  go_wp2_with (
    first
    | (refine wpNew row28 (u8s (zs 128)) (zl 128) zero28 1 (by rfl) (by rfl) (by rfl) (.tmp 24) (by rfl) (by rfl) (by rfl) (u8s (kA0 ++ kA1)) (pair_len kA0_b kA1_b) (u8s_one _) (by kernel_rfl) (by kernel_rfl) ?_
       intro WA bA hbA BA KA
       replace M := hide ((unhide M).add KA BA)
       clear hbA BA KA))
  refine (version23 6 121 _).mono ?_
  rintro e w3 ⟨rfl, k3⟩
  replace M := hide ((unhide M).quiet k3)
  clear k3
  go_wp2_with fail
  refine (put_at (byts_zs95 121 (by omega)) put_b _).mono ?_
  rintro e w4 ⟨rfl, k4⟩
  replace M := hide ((unhide M).quiet k4)
  clear k4
  go_wp2_with (
    first
    | (refine wpNew row28 (u8s (zs 128)) (zl 128) zero28 3 (by rfl) (by rfl) (by rfl) (.tmp 29) (by rfl) (by rfl) (by rfl) (u8s (kB0 ++ kB1)) (pair_len kB0_b kB1_b) (u8s_one _) (by kernel_rfl) (by kernel_rfl) ?_
       intro WB bB hbB BB KB
       replace M := hide ((unhide M).add KB BB)
       clear hbB BB KB)
    | (refine wpLoadA row27 (by rfl) (.tmp 32) (by rfl) bA 0 (by kernel_rfl) (u8s kA0) (by rw [u8s_len, kA0_b.len]) (pair_l (y := kA1) ((unhide M).blk (bA, 28, u8s (kA0 ++ kA1)) (by simp))) ?_)
    | (refine wpLoadA row27 (by rfl) (.tmp 34) (by rfl) bA 64 (by kernel_rfl) (u8s kA1) (by rw [u8s_len, kA1_b.len]) (pair_r (x := kA0) kA0_b.len ((unhide M).blk (bA, 28, u8s (kA0 ++ kA1)) (by simp))) ?_))
  refine (get_at kA0_b kA1_b get_v _).mono ?_
  rintro e w5 ⟨rfl, k5⟩
  replace M := hide ((unhide M).quiet k5)
  clear k5
  go_wp2_with (
    first
    | (refine wpNew row25 (verC 0 (zs 96)) verC_zero zero25 5 (by rfl) (by rfl) (by rfl) (.tmp 37) (by rfl) (by rfl) (by rfl) (verC 5 (120 :: zs 95)) (verC_len (byts_zs95 120 (by omega)).len) (verC_one _ _) (by kernel_rfl) (by kernel_rfl) ?_
       intro WV bV hbV BV KV
       replace M := hide ((unhide M).add KV BV)
       clear hbV BV KV)
    | (refine wpLoadA row27 (by rfl) (.tmp 40) (by rfl) bA 0 (by kernel_rfl) (u8s kA0) (by rw [u8s_len, kA0_b.len]) (pair_l (y := kA1) ((unhide M).blk (bA, 28, u8s (kA0 ++ kA1)) (by simp))) ?_)
    | (refine wpLoadA row27 (by rfl) (.tmp 42) (by rfl) bB 64 (by kernel_rfl) (u8s kB1) (by rw [u8s_len, kB1_b.len]) (pair_r (x := kB0) kB0_b.len ((unhide M).blk (bB, 28, u8s (kB0 ++ kB1)) (by simp))) ?_))
  refine (get_at kA0_b kB1_b get_h _).mono ?_
  rintro e w6 ⟨rfl, k6⟩
  replace M := hide ((unhide M).quiet k6)
  clear k6
  go_wp2_with (
    first
    | (refine wpNew row25 (verC 0 (zs 96)) verC_zero zero25 7 (by rfl) (by rfl) (by rfl) (.tmp 45) (by rfl) (by rfl) (by rfl) (verC 0 (zs 96)) verC_zero (verC_one _ _) (by kernel_rfl) (by kernel_rfl) ?_
       intro WH bH hbH BH KH
       replace M := hide ((unhide M).add KH BH)
       clear hbH BH KH)
    | (refine wpLoadA row27 (by rfl) (.tmp 48) (by rfl) bA 0 (by kernel_rfl) (u8s kA0) (by rw [u8s_len, kA0_b.len]) (pair_l (y := kA1) ((unhide M).blk (bA, 28, u8s (kA0 ++ kA1)) (by simp))) ?_)
    | (refine wpLoadA row27 (by rfl) (.tmp 50) (by rfl) bA 64 (by kernel_rfl) (u8s kA1) (by rw [u8s_len, kA1_b.len]) (pair_r (x := kA0) kA0_b.len ((unhide M).blk (bA, 28, u8s (kA0 ++ kA1)) (by simp))) ?_))
  refine (get_at kA0_b kA1_b get_i _).mono ?_
  rintro e w7 ⟨rfl, k7⟩
  replace M := hide ((unhide M).quiet k7)
  clear k7
  go_wp2_with (
    first
    | (refine wpNew row25 (verC 0 (zs 96)) verC_zero zero25 9 (by rfl) (by rfl) (by rfl) (.tmp 53) (by rfl) (by rfl) (by rfl) (verC 0 (zs 96)) verC_zero (verC_one _ _) (by kernel_rfl) (by kernel_rfl) ?_
       intro WI bI hbI BI KI
       replace M := hide ((unhide M).add KI BI)
       clear hbI BI KI)
    | (refine wpBuildZ (u8s (zs 64)) build27 (by rfl) (by rfl) ?_))
  refine (get_at (zs_byts 64) (zs_byts 64) get_o _).mono ?_
  rintro e w8 ⟨rfl, k8⟩
  replace M := hide ((unhide M).quiet k8)
  clear k8
  go_wp2_with (
    first
    | (refine wpNew row25 (verC 0 (zs 96)) verC_zero zero25 11 (by rfl) (by rfl) (by rfl) (.tmp 59) (by rfl) (by rfl) (by rfl) (verC 0 (zs 96)) verC_zero (verC_one _ _) (by kernel_rfl) (by kernel_rfl) ?_
       intro WO bO hbO BO KO
       replace M := hide ((unhide M).add KO BO)
       clear hbO BO KO))
  refine (version23 0 120 _).mono ?_
  rintro e w9 ⟨rfl, k9⟩
  replace M := hide ((unhide M).quiet k9)
  clear k9
  go_wp2_with fail
  refine (put_at (byts_zs95 120 (by omega)) put_k _).mono ?_
  rintro e w10 ⟨rfl, k10⟩
  replace M := hide ((unhide M).quiet k10)
  clear k10
  go_wp2_with (
    first
    | (refine wpNew row28 (u8s (zs 128)) (zl 128) zero28 13 (by rfl) (by rfl) (by rfl) (.tmp 64) (by rfl) (by rfl) (by rfl) (u8s (zs 128)) (zl 128) (u8s_one _) (by kernel_rfl) (by kernel_rfl) ?_
       intro WK bK hbK BK KK
       replace M := hide ((unhide M).add KK BK)
       clear hbK BK KK))
  refine (version23 1 0 _).mono ?_
  rintro e w11 ⟨rfl, k11⟩
  replace M := hide ((unhide M).quiet k11)
  clear k11
  go_wp2_with fail
  refine (put_at (byts_zs95 0 (by omega)) put_l _).mono ?_
  rintro e w12 ⟨rfl, k12⟩
  replace M := hide ((unhide M).quiet k12)
  clear k12
  go_wp2_with (
    first
    | (refine wpNew row28 (u8s (zs 128)) (zl 128) zero28 15 (by rfl) (by rfl) (by rfl) (.tmp 69) (by rfl) (by rfl) (by rfl) (u8s (zs 128)) (zl 128) (u8s_one _) (by kernel_rfl) (by kernel_rfl) ?_
       intro WL bL hbL BL KL
       replace M := hide ((unhide M).add KL BL)
       clear hbL BL KL))
  refine (body_at20 tM_b (by decide) body_m _).mono ?_
  rintro e w13 ⟨rfl, k13⟩
  replace M := hide ((unhide M).quiet k13)
  clear k13
  go_wp2_with (
    first
    | (refine wpNew row23 (u8s (zs 96)) zl96 zero23 17 (by rfl) (by rfl) (by rfl) (.tmp 73) (by rfl) (by rfl) (by rfl) (u8s kM) (by rw [u8s_len, kM_b.len]) (u8s_one _) (by kernel_rfl) (by kernel_rfl) ?_
       intro WM bM hbM BM KM
       replace M := hide ((unhide M).add KM BM)
       clear hbM BM KM))
  refine (body_at20 tP_b (by decide) body_p _).mono ?_
  rintro e w14 ⟨rfl, k14⟩
  replace M := hide ((unhide M).quiet k14)
  clear k14
  go_wp2_with (
    first
    | (refine wpNew row23 (u8s (zs 96)) zl96 zero23 19 (by rfl) (by rfl) (by rfl) (.tmp 77) (by rfl) (by rfl) (by rfl) (u8s (zs 96)) zl96 (u8s_one _) (by kernel_rfl) (by kernel_rfl) ?_
       intro WP bP hbP BP KP
       replace M := hide ((unhide M).add KP BP)
       clear hbP BP KP))
  refine wp_region_all mixed 108 rfl (by kernel_rfl) (tb (knownT bA bM)) (fun _ _ _ _ => True) (fun j o i b _ => guards_spec (by kernel_rfl) j o i b) (tb_kept _) (by kernel_rfl) ?_ ?_
  · intro j o hj ho a w2 hout hin hk
    show o.wp Tryd.prog a w2 (opPost (knownT bA bM) o a w2 j 108) _
    match j, ho with
    | 0, ho =>
      obtain rfl := Option.some.inj ho
      exact wp_move (.tmp 2) rfl (by rw [show a.eval (.tmp 2) = _ from ((hout 2 (by kernel_rfl)).trans (by kernel_rfl))]; exact (post_of rfl (Kept.refl _ _)))
    | 1, ho =>
      obtain rfl := Option.some.inj ho
      have e0 : a.eval (.tmp 79) = _ := (hin 0 79 (by kernel_rfl) (by kernel_rfl))
      refine wp_callF 10 _ _ rfl #[.int .i64 0] (by simp [e0]) (cf10 _ _) ((num10 _ w2).mono ?_)
      rintro x w3 ⟨rfl, hw3⟩
      exact ⟨_, rfl, post_of rfl (by rw [hw3]; exact Kept.refl _ _)⟩
    | 2, ho =>
      obtain rfl := Option.some.inj ho
      exact wp_move (.tmp 4) rfl (by rw [show a.eval (.tmp 4) = _ from ((hout 4 (by kernel_rfl)).trans (by kernel_rfl))]; exact (post_of rfl (Kept.refl _ _)))
    | 3, ho =>
      obtain rfl := Option.some.inj ho
      have e0 : a.eval (.tmp 81) = _ := (hin 2 81 (by kernel_rfl) (by kernel_rfl))
      refine wp_callF 10 _ _ rfl #[.int .i64 0] (by simp [e0]) (cf10 _ _) ((num10 _ w2).mono ?_)
      rintro x w3 ⟨rfl, hw3⟩
      exact ⟨_, rfl, post_of rfl (by rw [hw3]; exact Kept.refl _ _)⟩
    | 4, ho =>
      obtain rfl := Option.some.inj ho
      exact o_add3 (.tmp 80) (.tmp 82) rfl 0 0 (by omega) (hin 1 80 (by kernel_rfl) (by kernel_rfl)) (hin 3 82 (by kernel_rfl) (by kernel_rfl)) (post_of rfl (Kept.refl _ _))
    | 5, ho =>
      obtain rfl := Option.some.inj ho
      exact wp_move (.tmp 6) rfl (by rw [show a.eval (.tmp 6) = _ from ((hout 6 (by kernel_rfl)).trans (by kernel_rfl))]; exact (post_of rfl (Kept.refl _ _)))
    | 6, ho =>
      obtain rfl := Option.some.inj ho
      have e0 : a.eval (.tmp 84) = _ := (hin 5 84 (by kernel_rfl) (by kernel_rfl))
      refine wp_callF 10 _ _ rfl #[.int .i64 0] (by simp [e0]) (cf10 _ _) ((num10 _ w2).mono ?_)
      rintro x w3 ⟨rfl, hw3⟩
      exact ⟨_, rfl, post_of rfl (by rw [hw3]; exact Kept.refl _ _)⟩
    | 7, ho =>
      obtain rfl := Option.some.inj ho
      exact o_add3 (.tmp 83) (.tmp 85) rfl 0 0 (by omega) (hin 4 83 (by kernel_rfl) (by kernel_rfl)) (hin 6 85 (by kernel_rfl) (by kernel_rfl)) (post_of rfl (Kept.refl _ _))
    | 8, ho =>
      obtain rfl := Option.some.inj ho
      exact wp_move (.tmp 12) rfl (by rw [show a.eval (.tmp 12) = _ from ((hout 12 (by kernel_rfl)).trans (by kernel_rfl))]; exact (post_of rfl (Kept.refl _ _)))
    | 9, ho =>
      obtain rfl := Option.some.inj ho
      have e0 : a.eval (.tmp 87) = _ := (hin 8 87 (by kernel_rfl) (by kernel_rfl))
      refine wp_callF 10 _ _ rfl #[.int .i64 0] (by simp [e0]) (cf10 _ _) ((num10 _ w2).mono ?_)
      rintro x w3 ⟨rfl, hw3⟩
      exact ⟨_, rfl, post_of rfl (by rw [hw3]; exact Kept.refl _ _)⟩
    | 10, ho =>
      obtain rfl := Option.some.inj ho
      exact o_add3 (.tmp 86) (.tmp 88) rfl 0 0 (by omega) (hin 7 86 (by kernel_rfl) (by kernel_rfl)) (hin 9 88 (by kernel_rfl) (by kernel_rfl)) (post_of rfl (Kept.refl _ _))
    | 11, ho =>
      obtain rfl := Option.some.inj ho
      exact wp_move (.tmp 18) rfl (by rw [show a.eval (.tmp 18) = _ from ((hout 18 (by kernel_rfl)).trans (by kernel_rfl))]; exact (post_of rfl (Kept.refl _ _)))
    | 12, ho =>
      obtain rfl := Option.some.inj ho
      have e0 : a.eval (.tmp 90) = _ := (hin 11 90 (by kernel_rfl) (by kernel_rfl))
      refine wp_callF 10 _ _ rfl #[.int .i64 0] (by simp [e0]) (cf10 _ _) ((num10 _ w2).mono ?_)
      rintro x w3 ⟨rfl, hw3⟩
      exact ⟨_, rfl, post_of rfl (by rw [hw3]; exact Kept.refl _ _)⟩
    | 13, ho =>
      obtain rfl := Option.some.inj ho
      exact o_add3 (.tmp 89) (.tmp 91) rfl 0 0 (by omega) (hin 10 89 (by kernel_rfl) (by kernel_rfl)) (hin 12 91 (by kernel_rfl) (by kernel_rfl)) (post_of rfl (Kept.refl _ _))
    | 14, ho =>
      obtain rfl := Option.some.inj ho
      exact o_eql3 (.tmp 92) 0 rfl 0 true (by decide) (hin 13 92 (by kernel_rfl) (by kernel_rfl)) (post_of rfl (Kept.refl _ _))
    | 15, ho =>
      obtain rfl := Option.some.inj ho
      exact wp_move (.tmp 93) rfl (by rw [show a.eval (.tmp 93) = _ from (hin 14 93 (by kernel_rfl) (by kernel_rfl))]; exact (post_of rfl (Kept.refl _ _)))
    | 16, ho =>
      obtain rfl := Option.some.inj ho
      exact o_idx28 (.tmp 1) 0 (by omega) rfl bA ((hout 1 (by kernel_rfl)).trans (by kernel_rfl)) (post_of rfl (Kept.refl _ _))
    | 17, ho =>
      obtain rfl := Option.some.inj ho
      exact o_idx27 (.tmp 95) 0 (by omega) rfl bA 0 (hin 16 95 (by kernel_rfl) (by kernel_rfl)) (post_of rfl (Kept.refl _ _))
    | 18, ho =>
      obtain rfl := Option.some.inj ho
      exact o_load5 (.tmp 96) rfl ⟨bA, 0, none⟩ _ (hin 17 96 (by kernel_rfl) (by kernel_rfl)) (fits_cell (((unhide M).blk (bA, 28, u8s (kA0 ++ kA1)) (by simp)).kept hk (by simp)) 0 _ (by kernel_rfl)) (post_of rfl (Kept.refl _ _))
    | 19, ho =>
      obtain rfl := Option.some.inj ho
      exact o_eql5 (.tmp 97) 161 rfl 161 true (by decide) (hin 18 97 (by kernel_rfl) (by kernel_rfl)) (post_of rfl (Kept.refl _ _))
    | 20, ho =>
      obtain rfl := Option.some.inj ho
      exact o_pick (.tmp 94) (.tmp 98) rfl true (hin 15 94 (by kernel_rfl) (by kernel_rfl)) (hin 19 98 (by kernel_rfl) (by kernel_rfl)) (post_of rfl (Kept.refl _ _))
    | 21, ho =>
      obtain rfl := Option.some.inj ho
      exact wp_move (.tmp 99) rfl (by rw [show a.eval (.tmp 99) = _ from (hin 20 99 (by kernel_rfl) (by kernel_rfl))]; exact (post_of rfl (Kept.refl _ _)))
    | 22, ho =>
      obtain rfl := Option.some.inj ho
      exact o_idx28 (.tmp 1) 0 (by omega) rfl bA ((hout 1 (by kernel_rfl)).trans (by kernel_rfl)) (post_of rfl (Kept.refl _ _))
    | 23, ho =>
      obtain rfl := Option.some.inj ho
      exact o_idx27 (.tmp 101) 1 (by omega) rfl bA 0 (hin 22 101 (by kernel_rfl) (by kernel_rfl)) (post_of rfl (Kept.refl _ _))
    | 24, ho =>
      obtain rfl := Option.some.inj ho
      exact o_load5 (.tmp 102) rfl ⟨bA, 1, none⟩ _ (hin 23 102 (by kernel_rfl) (by kernel_rfl)) (fits_cell (((unhide M).blk (bA, 28, u8s (kA0 ++ kA1)) (by simp)).kept hk (by simp)) 1 _ (by kernel_rfl)) (post_of rfl (Kept.refl _ _))
    | 25, ho =>
      obtain rfl := Option.some.inj ho
      exact o_eql5 (.tmp 103) 2 rfl 2 true (by decide) (hin 24 103 (by kernel_rfl) (by kernel_rfl)) (post_of rfl (Kept.refl _ _))
    | 26, ho =>
      obtain rfl := Option.some.inj ho
      exact o_pick (.tmp 100) (.tmp 104) rfl true (hin 21 100 (by kernel_rfl) (by kernel_rfl)) (hin 25 104 (by kernel_rfl) (by kernel_rfl)) (post_of rfl (Kept.refl _ _))
    | 27, ho =>
      obtain rfl := Option.some.inj ho
      exact wp_move (.tmp 105) rfl (by rw [show a.eval (.tmp 105) = _ from (hin 26 105 (by kernel_rfl) (by kernel_rfl))]; exact (post_of rfl (Kept.refl _ _)))
    | 28, ho =>
      obtain rfl := Option.some.inj ho
      exact o_idx28 (.tmp 1) 0 (by omega) rfl bA ((hout 1 (by kernel_rfl)).trans (by kernel_rfl)) (post_of rfl (Kept.refl _ _))
    | 29, ho =>
      obtain rfl := Option.some.inj ho
      exact o_idx27 (.tmp 107) 5 (by omega) rfl bA 0 (hin 28 107 (by kernel_rfl) (by kernel_rfl)) (post_of rfl (Kept.refl _ _))
    | 30, ho =>
      obtain rfl := Option.some.inj ho
      exact o_load5 (.tmp 108) rfl ⟨bA, 5, none⟩ _ (hin 29 108 (by kernel_rfl) (by kernel_rfl)) (fits_cell (((unhide M).blk (bA, 28, u8s (kA0 ++ kA1)) (by simp)).kept hk (by simp)) 5 _ (by kernel_rfl)) (post_of rfl (Kept.refl _ _))
    | 31, ho =>
      obtain rfl := Option.some.inj ho
      exact o_eql5 (.tmp 109) 5 rfl 5 true (by decide) (hin 30 109 (by kernel_rfl) (by kernel_rfl)) (post_of rfl (Kept.refl _ _))
    | 32, ho =>
      obtain rfl := Option.some.inj ho
      exact o_pick (.tmp 106) (.tmp 110) rfl true (hin 27 106 (by kernel_rfl) (by kernel_rfl)) (hin 31 110 (by kernel_rfl) (by kernel_rfl)) (post_of rfl (Kept.refl _ _))
    | 33, ho =>
      obtain rfl := Option.some.inj ho
      exact wp_move (.tmp 111) rfl (by rw [show a.eval (.tmp 111) = _ from (hin 32 111 (by kernel_rfl) (by kernel_rfl))]; exact (post_of rfl (Kept.refl _ _)))
    | 34, ho =>
      obtain rfl := Option.some.inj ho
      exact o_idx28 (.tmp 1) 0 (by omega) rfl bA ((hout 1 (by kernel_rfl)).trans (by kernel_rfl)) (post_of rfl (Kept.refl _ _))
    | 35, ho =>
      obtain rfl := Option.some.inj ho
      exact o_idx27 (.tmp 113) 6 (by omega) rfl bA 0 (hin 34 113 (by kernel_rfl) (by kernel_rfl)) (post_of rfl (Kept.refl _ _))
    | 36, ho =>
      obtain rfl := Option.some.inj ho
      exact o_load5 (.tmp 114) rfl ⟨bA, 6, none⟩ _ (hin 35 114 (by kernel_rfl) (by kernel_rfl)) (fits_cell (((unhide M).blk (bA, 28, u8s (kA0 ++ kA1)) (by simp)).kept hk (by simp)) 6 _ (by kernel_rfl)) (post_of rfl (Kept.refl _ _))
    | 37, ho =>
      obtain rfl := Option.some.inj ho
      exact o_eql5 (.tmp 115) 120 rfl 120 true (by decide) (hin 36 115 (by kernel_rfl) (by kernel_rfl)) (post_of rfl (Kept.refl _ _))
    | 38, ho =>
      obtain rfl := Option.some.inj ho
      exact o_pick (.tmp 112) (.tmp 116) rfl true (hin 33 112 (by kernel_rfl) (by kernel_rfl)) (hin 37 116 (by kernel_rfl) (by kernel_rfl)) (post_of rfl (Kept.refl _ _))
    | 39, ho =>
      obtain rfl := Option.some.inj ho
      exact wp_move (.tmp 117) rfl (by rw [show a.eval (.tmp 117) = _ from (hin 38 117 (by kernel_rfl) (by kernel_rfl))]; exact (post_of rfl (Kept.refl _ _)))
    | 40, ho =>
      obtain rfl := Option.some.inj ho
      exact o_idx28 (.tmp 1) 1 (by omega) rfl bA ((hout 1 (by kernel_rfl)).trans (by kernel_rfl)) (post_of rfl (Kept.refl _ _))
    | 41, ho =>
      obtain rfl := Option.some.inj ho
      exact o_idx27 (.tmp 119) 0 (by omega) rfl bA 64 (hin 40 119 (by kernel_rfl) (by kernel_rfl)) (post_of rfl (Kept.refl _ _))
    | 42, ho =>
      obtain rfl := Option.some.inj ho
      exact o_load5 (.tmp 120) rfl ⟨bA, 64, none⟩ _ (hin 41 120 (by kernel_rfl) (by kernel_rfl)) (fits_cell (((unhide M).blk (bA, 28, u8s (kA0 ++ kA1)) (by simp)).kept hk (by simp)) 64 _ (by kernel_rfl)) (post_of rfl (Kept.refl _ _))
    | 43, ho =>
      obtain rfl := Option.some.inj ho
      exact o_eql5 (.tmp 121) 162 rfl 162 true (by decide) (hin 42 121 (by kernel_rfl) (by kernel_rfl)) (post_of rfl (Kept.refl _ _))
    | 44, ho =>
      obtain rfl := Option.some.inj ho
      exact o_pick (.tmp 118) (.tmp 122) rfl true (hin 39 118 (by kernel_rfl) (by kernel_rfl)) (hin 43 122 (by kernel_rfl) (by kernel_rfl)) (post_of rfl (Kept.refl _ _))
    | 45, ho =>
      obtain rfl := Option.some.inj ho
      exact wp_move (.tmp 123) rfl (by rw [show a.eval (.tmp 123) = _ from (hin 44 123 (by kernel_rfl) (by kernel_rfl))]; exact (post_of rfl (Kept.refl _ _)))
    | 46, ho =>
      obtain rfl := Option.some.inj ho
      exact o_idx28 (.tmp 1) 1 (by omega) rfl bA ((hout 1 (by kernel_rfl)).trans (by kernel_rfl)) (post_of rfl (Kept.refl _ _))
    | 47, ho =>
      obtain rfl := Option.some.inj ho
      exact o_idx27 (.tmp 125) 5 (by omega) rfl bA 64 (hin 46 125 (by kernel_rfl) (by kernel_rfl)) (post_of rfl (Kept.refl _ _))
    | 48, ho =>
      obtain rfl := Option.some.inj ho
      exact o_load5 (.tmp 126) rfl ⟨bA, 69, none⟩ _ (hin 47 126 (by kernel_rfl) (by kernel_rfl)) (fits_cell (((unhide M).blk (bA, 28, u8s (kA0 ++ kA1)) (by simp)).kept hk (by simp)) 69 _ (by kernel_rfl)) (post_of rfl (Kept.refl _ _))
    | 49, ho =>
      obtain rfl := Option.some.inj ho
      exact o_eql5 (.tmp 127) 5 rfl 5 true (by decide) (hin 48 127 (by kernel_rfl) (by kernel_rfl)) (post_of rfl (Kept.refl _ _))
    | 50, ho =>
      obtain rfl := Option.some.inj ho
      exact o_pick (.tmp 124) (.tmp 128) rfl true (hin 45 124 (by kernel_rfl) (by kernel_rfl)) (hin 49 128 (by kernel_rfl) (by kernel_rfl)) (post_of rfl (Kept.refl _ _))
    | 51, ho =>
      obtain rfl := Option.some.inj ho
      exact wp_move (.tmp 129) rfl (by rw [show a.eval (.tmp 129) = _ from (hin 50 129 (by kernel_rfl) (by kernel_rfl))]; exact (post_of rfl (Kept.refl _ _)))
    | 52, ho =>
      obtain rfl := Option.some.inj ho
      exact o_idx28 (.tmp 1) 1 (by omega) rfl bA ((hout 1 (by kernel_rfl)).trans (by kernel_rfl)) (post_of rfl (Kept.refl _ _))
    | 53, ho =>
      obtain rfl := Option.some.inj ho
      exact o_idx27 (.tmp 131) 6 (by omega) rfl bA 64 (hin 52 131 (by kernel_rfl) (by kernel_rfl)) (post_of rfl (Kept.refl _ _))
    | 54, ho =>
      obtain rfl := Option.some.inj ho
      exact o_load5 (.tmp 132) rfl ⟨bA, 70, none⟩ _ (hin 53 132 (by kernel_rfl) (by kernel_rfl)) (fits_cell (((unhide M).blk (bA, 28, u8s (kA0 ++ kA1)) (by simp)).kept hk (by simp)) 70 _ (by kernel_rfl)) (post_of rfl (Kept.refl _ _))
    | 55, ho =>
      obtain rfl := Option.some.inj ho
      exact o_eql5 (.tmp 133) 0 rfl 0 true (by decide) (hin 54 133 (by kernel_rfl) (by kernel_rfl)) (post_of rfl (Kept.refl _ _))
    | 56, ho =>
      obtain rfl := Option.some.inj ho
      exact o_pick (.tmp 130) (.tmp 134) rfl true (hin 51 130 (by kernel_rfl) (by kernel_rfl)) (hin 55 134 (by kernel_rfl) (by kernel_rfl)) (post_of rfl (Kept.refl _ _))
    | 57, ho =>
      obtain rfl := Option.some.inj ho
      exact wp_move (.tmp 135) rfl (by rw [show a.eval (.tmp 135) = _ from (hin 56 135 (by kernel_rfl) (by kernel_rfl))]; exact (post_of rfl (Kept.refl _ _)))
    | 58, ho =>
      obtain rfl := Option.some.inj ho
      exact wp_loadA row25 (.tmp 5) rfl bV 0 ((hout 5 (by kernel_rfl)).trans (by kernel_rfl)) (verC 5 (120 :: zs 95)) (verC_len (byts_zs95 120 (by omega)).len) (((unhide M).blk (bV, 25, verC 5 (120 :: zs 95)) (by simp)).kept hk (by simp)).range (post_of rfl (Kept.refl _ _))
    | 59, ho =>
      obtain rfl := Option.some.inj ho
      refine wp_callF 23 _ _ rfl #[.int .i64 5, .int .u8 120] (by simp [Act.eval]) (cf23 _ _) ((version23 5 120 w2).mono ?_)
      rintro x w3 ⟨rfl, hk3⟩
      exact ⟨_, rfl, post_of rfl hk3⟩
    | 60, ho =>
      obtain rfl := Option.some.inj ho
      exact o_eqlA 25 25 guard25 (.tmp 137) (.tmp 138) rfl (verC 5 (120 :: zs 95)) (verC 5 (120 :: zs 95)) (hin 58 137 (by kernel_rfl) (by kernel_rfl)) (hin 59 138 (by kernel_rfl) (by kernel_rfl)) true ((equal25 _ _ _ _ _ (byts_zs95 120 (by omega)).len (byts_zs95 120 (by omega)).len).trans (by simp)) (post_of rfl (Kept.refl _ _))
    | 61, ho =>
      obtain rfl := Option.some.inj ho
      exact o_pick (.tmp 136) (.tmp 139) rfl true (hin 57 136 (by kernel_rfl) (by kernel_rfl)) (hin 60 139 (by kernel_rfl) (by kernel_rfl)) (post_of rfl (Kept.refl _ _))
    | 62, ho =>
      obtain rfl := Option.some.inj ho
      exact wp_move (.tmp 140) rfl (by rw [show a.eval (.tmp 140) = _ from (hin 61 140 (by kernel_rfl) (by kernel_rfl))]; exact (post_of rfl (Kept.refl _ _)))
    | 63, ho =>
      obtain rfl := Option.some.inj ho
      exact wp_move (.tmp 8) rfl (by rw [show a.eval (.tmp 8) = _ from ((hout 8 (by kernel_rfl)).trans (by kernel_rfl))]; exact (post_of rfl (Kept.refl _ _)))
    | 64, ho =>
      obtain rfl := Option.some.inj ho
      have e0 : a.eval (.tmp 142) = _ := (hin 63 142 (by kernel_rfl) (by kernel_rfl))
      refine wp_callF 10 _ _ rfl #[.int .i64 12] (by simp [e0]) (cf10 _ _) ((num10 _ w2).mono ?_)
      rintro x w3 ⟨rfl, hw3⟩
      exact ⟨_, rfl, post_of rfl (by rw [hw3]; exact Kept.refl _ _)⟩
    | 65, ho =>
      obtain rfl := Option.some.inj ho
      exact o_eql3 (.tmp 143) 12 rfl 12 true (by decide) (hin 64 143 (by kernel_rfl) (by kernel_rfl)) (post_of rfl (Kept.refl _ _))
    | 66, ho =>
      obtain rfl := Option.some.inj ho
      exact o_pick (.tmp 141) (.tmp 144) rfl true (hin 62 141 (by kernel_rfl) (by kernel_rfl)) (hin 65 144 (by kernel_rfl) (by kernel_rfl)) (post_of rfl (Kept.refl _ _))
    | 67, ho =>
      obtain rfl := Option.some.inj ho
      exact wp_move (.tmp 145) rfl (by rw [show a.eval (.tmp 145) = _ from (hin 66 145 (by kernel_rfl) (by kernel_rfl))]; exact (post_of rfl (Kept.refl _ _)))
    | 68, ho =>
      obtain rfl := Option.some.inj ho
      exact wp_move (.tmp 10) rfl (by rw [show a.eval (.tmp 10) = _ from ((hout 10 (by kernel_rfl)).trans (by kernel_rfl))]; exact (post_of rfl (Kept.refl _ _)))
    | 69, ho =>
      obtain rfl := Option.some.inj ho
      have e0 : a.eval (.tmp 147) = _ := (hin 68 147 (by kernel_rfl) (by kernel_rfl))
      refine wp_callF 10 _ _ rfl #[.int .i64 12] (by simp [e0]) (cf10 _ _) ((num10 _ w2).mono ?_)
      rintro x w3 ⟨rfl, hw3⟩
      exact ⟨_, rfl, post_of rfl (by rw [hw3]; exact Kept.refl _ _)⟩
    | 70, ho =>
      obtain rfl := Option.some.inj ho
      exact o_eql3 (.tmp 148) 12 rfl 12 true (by decide) (hin 69 148 (by kernel_rfl) (by kernel_rfl)) (post_of rfl (Kept.refl _ _))
    | 71, ho =>
      obtain rfl := Option.some.inj ho
      exact o_pick (.tmp 146) (.tmp 149) rfl true (hin 67 146 (by kernel_rfl) (by kernel_rfl)) (hin 70 149 (by kernel_rfl) (by kernel_rfl)) (post_of rfl (Kept.refl _ _))
    | 72, ho =>
      obtain rfl := Option.some.inj ho
      exact wp_move (.tmp 150) rfl (by rw [show a.eval (.tmp 150) = _ from (hin 71 150 (by kernel_rfl) (by kernel_rfl))]; exact (post_of rfl (Kept.refl _ _)))
    | 73, ho =>
      obtain rfl := Option.some.inj ho
      exact wp_loadA row25 (.tmp 11) rfl bO 0 ((hout 11 (by kernel_rfl)).trans (by kernel_rfl)) (verC 0 (zs 96)) verC_zero (((unhide M).blk (bO, 25, verC 0 (zs 96)) (by simp)).kept hk (by simp)).range (post_of rfl (Kept.refl _ _))
    | 74, ho =>
      obtain rfl := Option.some.inj ho
      exact o_build (verC 0 (zs 96)) build25 rfl (post_of rfl (Kept.refl _ _))
    | 75, ho =>
      obtain rfl := Option.some.inj ho
      exact o_eqlA 25 25 guard25 (.tmp 152) (.tmp 153) rfl (verC 0 (zs 96)) (verC 0 (zs 96)) (hin 73 152 (by kernel_rfl) (by kernel_rfl)) (hin 74 153 (by kernel_rfl) (by kernel_rfl)) true ((equal25 _ _ _ _ _ (zs_byts 96).len (zs_byts 96).len).trans (by simp)) (post_of rfl (Kept.refl _ _))
    | 76, ho =>
      obtain rfl := Option.some.inj ho
      exact o_pick (.tmp 151) (.tmp 154) rfl true (hin 72 151 (by kernel_rfl) (by kernel_rfl)) (hin 75 154 (by kernel_rfl) (by kernel_rfl)) (post_of rfl (Kept.refl _ _))
    | 77, ho =>
      obtain rfl := Option.some.inj ho
      exact wp_move (.tmp 155) rfl (by rw [show a.eval (.tmp 155) = _ from (hin 76 155 (by kernel_rfl) (by kernel_rfl))]; exact (post_of rfl (Kept.refl _ _)))
    | 78, ho =>
      obtain rfl := Option.some.inj ho
      exact wp_move (.tmp 14) rfl (by rw [show a.eval (.tmp 14) = _ from ((hout 14 (by kernel_rfl)).trans (by kernel_rfl))]; exact (post_of rfl (Kept.refl _ _)))
    | 79, ho =>
      obtain rfl := Option.some.inj ho
      have e0 : a.eval (.tmp 157) = _ := (hin 78 157 (by kernel_rfl) (by kernel_rfl))
      refine wp_callF 10 _ _ rfl #[.int .i64 2] (by simp [e0]) (cf10 _ _) ((num10 _ w2).mono ?_)
      rintro x w3 ⟨rfl, hw3⟩
      exact ⟨_, rfl, post_of rfl (by rw [hw3]; exact Kept.refl _ _)⟩
    | 80, ho =>
      obtain rfl := Option.some.inj ho
      exact o_eql3 (.tmp 158) 2 rfl 2 true (by decide) (hin 79 158 (by kernel_rfl) (by kernel_rfl)) (post_of rfl (Kept.refl _ _))
    | 81, ho =>
      obtain rfl := Option.some.inj ho
      exact o_pick (.tmp 156) (.tmp 159) rfl true (hin 77 156 (by kernel_rfl) (by kernel_rfl)) (hin 80 159 (by kernel_rfl) (by kernel_rfl)) (post_of rfl (Kept.refl _ _))
    | 82, ho =>
      obtain rfl := Option.some.inj ho
      exact wp_move (.tmp 160) rfl (by rw [show a.eval (.tmp 160) = _ from (hin 81 160 (by kernel_rfl) (by kernel_rfl))]; exact (post_of rfl (Kept.refl _ _)))
    | 83, ho =>
      obtain rfl := Option.some.inj ho
      exact wp_move (.tmp 16) rfl (by rw [show a.eval (.tmp 16) = _ from ((hout 16 (by kernel_rfl)).trans (by kernel_rfl))]; exact (post_of rfl (Kept.refl _ _)))
    | 84, ho =>
      obtain rfl := Option.some.inj ho
      have e0 : a.eval (.tmp 162) = _ := (hin 83 162 (by kernel_rfl) (by kernel_rfl))
      refine wp_callF 10 _ _ rfl #[.int .i64 2] (by simp [e0]) (cf10 _ _) ((num10 _ w2).mono ?_)
      rintro x w3 ⟨rfl, hw3⟩
      exact ⟨_, rfl, post_of rfl (by rw [hw3]; exact Kept.refl _ _)⟩
    | 85, ho =>
      obtain rfl := Option.some.inj ho
      exact o_eql3 (.tmp 163) 2 rfl 2 true (by decide) (hin 84 163 (by kernel_rfl) (by kernel_rfl)) (post_of rfl (Kept.refl _ _))
    | 86, ho =>
      obtain rfl := Option.some.inj ho
      exact o_pick (.tmp 161) (.tmp 164) rfl true (hin 82 161 (by kernel_rfl) (by kernel_rfl)) (hin 85 164 (by kernel_rfl) (by kernel_rfl)) (post_of rfl (Kept.refl _ _))
    | 87, ho =>
      obtain rfl := Option.some.inj ho
      exact wp_move (.tmp 165) rfl (by rw [show a.eval (.tmp 165) = _ from (hin 86 165 (by kernel_rfl) (by kernel_rfl))]; exact (post_of rfl (Kept.refl _ _)))
    | 88, ho =>
      obtain rfl := Option.some.inj ho
      exact wp_loadA row23 (.tmp 17) rfl bM 0 ((hout 17 (by kernel_rfl)).trans (by kernel_rfl)) (u8s kM) (by rw [u8s_len, kM_b.len]) (((unhide M).blk (bM, 23, u8s kM) (by simp)).kept hk (by simp)).range (post_of rfl (Kept.refl _ _))
    | 89, ho =>
      obtain rfl := Option.some.inj ho
      have e0 : a.eval (.tmp 167) = _ := (hin 88 167 (by kernel_rfl) (by kernel_rfl))
      refine wp_callF 19 _ _ rfl #[aggV (u8s kM)] (by simp [e0]) (cf19 _ _) ((text_at kM_b text_m w2).mono ?_)
      rintro x w3 ⟨rfl, hk3⟩
      exact ⟨_, rfl, post_of rfl hk3⟩
    | 90, ho =>
      obtain rfl := Option.some.inj ho
      exact o_eql9 (.tmp 168) _ rfl (strV tM) (strV tM) (hin 89 168 (by kernel_rfl) (by kernel_rfl)) rfl true (fun x y w => run_guardS _ _ _ x y w) (fun w => by kernel_rfl) (post_of rfl (Kept.refl _ _))
    | 91, ho =>
      obtain rfl := Option.some.inj ho
      exact o_pick (.tmp 166) (.tmp 169) rfl true (hin 87 166 (by kernel_rfl) (by kernel_rfl)) (hin 90 169 (by kernel_rfl) (by kernel_rfl)) (post_of rfl (Kept.refl _ _))
    | 92, ho =>
      obtain rfl := Option.some.inj ho
      exact wp_move (.tmp 170) rfl (by rw [show a.eval (.tmp 170) = _ from (hin 91 170 (by kernel_rfl) (by kernel_rfl))]; exact (post_of rfl (Kept.refl _ _)))
    | 93, ho =>
      obtain rfl := Option.some.inj ho
      exact o_idx23 (.tmp 17) 1 (by omega) rfl bM 0 ((hout 17 (by kernel_rfl)).trans (by kernel_rfl)) (post_of rfl (Kept.refl _ _))
    | 94, ho =>
      obtain rfl := Option.some.inj ho
      exact o_load5 (.tmp 172) rfl ⟨bM, 1, none⟩ _ (hin 93 172 (by kernel_rfl) (by kernel_rfl)) (fits_cell (((unhide M).blk (bM, 23, u8s kM) (by simp)).kept hk (by simp)) 1 _ (by kernel_rfl)) (post_of rfl (Kept.refl _ _))
    | 95, ho =>
      obtain rfl := Option.some.inj ho
      exact o_eql5 (.tmp 173) 32 rfl 32 true (by decide) (hin 94 173 (by kernel_rfl) (by kernel_rfl)) (post_of rfl (Kept.refl _ _))
    | 96, ho =>
      obtain rfl := Option.some.inj ho
      exact o_pick (.tmp 171) (.tmp 174) rfl true (hin 92 171 (by kernel_rfl) (by kernel_rfl)) (hin 95 174 (by kernel_rfl) (by kernel_rfl)) (post_of rfl (Kept.refl _ _))
    | 97, ho =>
      obtain rfl := Option.some.inj ho
      exact wp_move (.tmp 175) rfl (by rw [show a.eval (.tmp 175) = _ from (hin 96 175 (by kernel_rfl) (by kernel_rfl))]; exact (post_of rfl (Kept.refl _ _)))
    | 98, ho =>
      obtain rfl := Option.some.inj ho
      exact wp_move (.tmp 20) rfl (by rw [show a.eval (.tmp 20) = _ from ((hout 20 (by kernel_rfl)).trans (by kernel_rfl))]; exact (post_of rfl (Kept.refl _ _)))
    | 99, ho =>
      obtain rfl := Option.some.inj ho
      have e0 : a.eval (.tmp 177) = _ := (hin 98 177 (by kernel_rfl) (by kernel_rfl))
      refine wp_callF 10 _ _ rfl #[.int .i64 4] (by simp [e0]) (cf10 _ _) ((num10 _ w2).mono ?_)
      rintro x w3 ⟨rfl, hw3⟩
      exact ⟨_, rfl, post_of rfl (by rw [hw3]; exact Kept.refl _ _)⟩
    | 100, ho =>
      obtain rfl := Option.some.inj ho
      exact o_eql3 (.tmp 178) 4 rfl 4 true (by decide) (hin 99 178 (by kernel_rfl) (by kernel_rfl)) (post_of rfl (Kept.refl _ _))
    | 101, ho =>
      obtain rfl := Option.some.inj ho
      exact o_pick (.tmp 176) (.tmp 179) rfl true (hin 97 176 (by kernel_rfl) (by kernel_rfl)) (hin 100 179 (by kernel_rfl) (by kernel_rfl)) (post_of rfl (Kept.refl _ _))
    | 102, ho =>
      obtain rfl := Option.some.inj ho
      exact wp_move (.tmp 180) rfl (by rw [show a.eval (.tmp 180) = _ from (hin 101 180 (by kernel_rfl) (by kernel_rfl))]; exact (post_of rfl (Kept.refl _ _)))
    | 103, ho =>
      obtain rfl := Option.some.inj ho
      exact o_build (u8s (zs 96)) build23 rfl (post_of rfl (Kept.refl _ _))
    | 104, ho =>
      obtain rfl := Option.some.inj ho
      have e0 : a.eval (.tmp 182) = _ := (hin 103 182 (by kernel_rfl) (by kernel_rfl))
      refine wp_callF 19 _ _ rfl #[aggV (u8s (zs 96))] (by simp [e0]) (cf19 _ _) ((text_at (zs_byts 96) text_z w2).mono ?_)
      rintro x w3 ⟨rfl, hk3⟩
      exact ⟨_, rfl, post_of rfl hk3⟩
    | 105, ho =>
      obtain rfl := Option.some.inj ho
      exact o_eql9 (.tmp 183) _ rfl (strV [37]) (strV [37]) (hin 104 183 (by kernel_rfl) (by kernel_rfl)) rfl true (fun x y w => run_guardS _ _ _ x y w) (fun w => by kernel_rfl) (post_of rfl (Kept.refl _ _))
    | 106, ho =>
      obtain rfl := Option.some.inj ho
      exact o_pick (.tmp 181) (.tmp 184) rfl true (hin 102 181 (by kernel_rfl) (by kernel_rfl)) (hin 105 184 (by kernel_rfl) (by kernel_rfl)) (post_of rfl (Kept.refl _ _))
    | 107, ho =>
      obtain rfl := Option.some.inj ho
      exact wp_assign (.tmp 185) rfl 0 rfl _ (hin 106 185 (by kernel_rfl) (by kernel_rfl)) (post_of rfl (Kept.refl _ _))
  · intro A w3 hdef _ hF _ hk3
    have hM := (unhide M).k.trans hk3
    have h0 : A.eval (.tmp 0) = .bool true := hF 107 0 (by omega) (by kernel_rfl)
    have hd : A.defers = [] := hdef.trans rfl
    clear hF hdef
    go_wp2_with fail
    exact bodyPost_ret (results_tmp rfl _ _ _) hd ⟨congrArg Ending.returned h0, hM⟩

end Go.Proofs.YtnflcajidgbbbaaDoor
