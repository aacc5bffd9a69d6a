/-
  The walk of the document's Get.
-/
import Derived.Test.YtnflcajidgbbbaaDoorSaid
namespace Go.Proofs.YtnflcajidgbbbaaDoor
open Go.RowKit

theorem res15 (w : World) (z : Nat) (vs : List Value) (e : Int) (tmps : Array Value) (h4 : tmps[6]?.getD undef = P0 z) (h5 : tmps[7]?.getD undef = .int .i64 e) (hl : vs.length = 97) (hb : Blk w z 25 vs) : (results Tryd.f15 tmps).run Tryd.prog w = .ok (.tuple #[aggV vs, .int .i64 e]) w := by
  have := loadV row25 hl hb
  simp [results, Tryd.results15, h4, h5, this, asAddr]
theorem cf9 (vs : Array Value) (w : World) : (callFunc 9 vs).run Tryd.prog w = .ok (.enter 9 vs) w := by kernel_rfl
theorem cf13g (vs : Array Value) (w : World) : (callFunc 13 vs).run Tryd.prog w = .ok (.enter 13 vs) w := by kernel_rfl

/-- What the document's Get says of two sectors. -/
def sN (a : List Int) : Int := psnL a
def sB (a b : List Int) : List Int := halfL a ++ halfL b
theorem rget_bad1 {p : Int} {a b : List Int} (hp : isPageB p = true) (h : mayB (sN a) (sB a b) = false) : getL p a b = ((0, zs 96), 12) := by
  unfold getL
  rw [if_neg (by simp [hp])]
  rw [if_pos]
  left
  have : putL p (psnL a) (halfL a ++ halfL b) = (zs 128, 2) := by
    unfold putL
    rw [if_pos]
    rw [may_ver] at h
    simp only [sN, sB] at h
    rw [hp, h]; rfl
  rw [this]
  simp
theorem rput_ok {p : Int} {a b : List Int} (hp : isPageB p = true) (h : mayB (sN a) (sB a b) = true) : (putL p (psnL a) (halfL a ++ halfL b)).2 = 0 := by
  rw [may_ver] at h
  simp only [sN, sB] at h
  unfold putL
  rw [if_neg (by rw [hp, h]; simp)]
  split <;> rfl
theorem rget_bad2 {p : Int} {a b : List Int} (ha : Byts 64 a) (hb : Byts 64 b) (hp : isPageB p = true) (h : mayB (sN a) (sB a b) = true) (hne : ¬ (fstL p (sN a) (sB a b) = a ∧ sndL p (sN a) (sB a b) = b)) : getL p a b = ((0, zs 96), 12) := by
  unfold getL
  rw [if_neg (by simp [hp]), if_pos]
  right
  rw [putL_eq (rput_ok hp h)]
  intro e
  have := List.append_inj e (by rw [(fst_byts (halves_byts ha hb)).len, ha.len])
  exact hne this
theorem rget_ok {p : Int} {a b : List Int} (hp : isPageB p = true) (h : mayB (sN a) (sB a b) = true) (h1 : fstL p (sN a) (sB a b) = a) (h2 : sndL p (sN a) (sB a b) = b) : getL p a b = ((sN a, sB a b), 0) := by
  unfold getL
  rw [if_neg (by simp [hp]), if_neg]
  · rfl
  · rw [rput_ok hp h, putL_eq (rput_ok hp h)]
    simp only [sN, sB] at h1 h2
    rw [h1, h2]
    simp

set_option maxHeartbeats 8000000 in
set_option maxRecDepth 100000 in
theorem rget_A (p : Int) (a b : List Int) (e1 : decide (p < 0) = true) (w : World) : Calls Tryd.prog 15 #[.int .i64 p, aggV (u8s a), aggV (u8s b)] w fun e w' => e = .returned (.tuple #[aggV (verC 0 (zs 96)), .int .i64 2]) ∧ Kept [] w w' := by
  go_enter Tryd.func15, Tryd.ntmps15
  go_wp2_with (
    first
    | (refine wpBoxV 4 (by rfl) (by rfl) (.tmp 1) (by rfl) (u8s a) (by rfl) ?_
       intro W4 b4 hb4 B4 K4
       have M : Hid (Mem w W4 [(b4, 27, u8s a)]) := ⟨by simpa using B4, K4⟩
       have L4 : w.heap.size ≤ b4 := by omega
       clear hb4 B4 K4)
    | (refine wpBoxV 5 (by rfl) (by rfl) (.tmp 2) (by rfl) (u8s b) (by rfl) ?_
       intro W5 b5 hb5 B5 K5
       have hs5 := (unhide M).k.size
       have L5 : w.heap.size ≤ b5 := by omega
       replace M := hide ((unhide M).add K5 B5)
       clear hb5 B5 K5 hs5)
    | (refine wpAllocV (verC 0 (zs 96)) zero25 6 (by rfl) (by rfl) (by rfl) ?_
       intro W6 eW6
       have L6 : w.heap.size ≤ W5.heap.size := (unhide M).k.size
       replace M := hide ((unhide M).add (show Kept [] W5 W6 by rw [eW6]; exact (Kept.refl _ _).alloc _) (show Blk W6 W5.heap.size 25 (verC 0 (zs 96)) by rw [eW6]; exact Blk.new' rfl))
       generalize W5.heap.size = b6 at *
       clear eW6)
    | (refine wpBuildZ (verC 0 (zs 96)) build25 (by rfl) (by rfl) ?_)
    | (refine wpStoreA row25 (by rfl) (.tmp 6) (.tmp 15) (by rfl) b6 0 (verC 0 (zs 96)) (by rfl) (by rfl) verC_zero (verC_one _ _) (((unhide M).blk (b6, 25, verC 0 (zs 96)) (by simp)).there (by rw [verC_zero]; omega)) ?_))
  have hb6 := ((unhide M).blk (b6, 25, verC 0 (zs 96)) (by simp))
  have g4 := hb6.put (vs := verC 0 (zs 96)) (by rw [verC_zero])
  exact bodyPost_ret (res15 _ _ _ _ _ rfl rfl verC_zero g4) rfl ⟨rfl, (unhide M).k.setCells _ _ (by omega)⟩

set_option maxHeartbeats 8000000 in
set_option maxRecDepth 100000 in
theorem rget_B (p : Int) (a b : List Int) (e1 : decide (p < 0) = false) (e2 : decide (16 ≤ p) = true) (w : World) : Calls Tryd.prog 15 #[.int .i64 p, aggV (u8s a), aggV (u8s b)] w fun e w' => e = .returned (.tuple #[aggV (verC 0 (zs 96)), .int .i64 2]) ∧ Kept [] w w' := by
  go_enter Tryd.func15, Tryd.ntmps15
  go_wp2_with (
    first
    | (refine wpBoxV 4 (by rfl) (by rfl) (.tmp 1) (by rfl) (u8s a) (by rfl) ?_
       intro W4 b4 hb4 B4 K4
       have M : Hid (Mem w W4 [(b4, 27, u8s a)]) := ⟨by simpa using B4, K4⟩
       have L4 : w.heap.size ≤ b4 := by omega
       clear hb4 B4 K4)
    | (refine wpBoxV 5 (by rfl) (by rfl) (.tmp 2) (by rfl) (u8s b) (by rfl) ?_
       intro W5 b5 hb5 B5 K5
       have hs5 := (unhide M).k.size
       have L5 : w.heap.size ≤ b5 := by omega
       replace M := hide ((unhide M).add K5 B5)
       clear hb5 B5 K5 hs5)
    | (refine wpAllocV (verC 0 (zs 96)) zero25 6 (by rfl) (by rfl) (by rfl) ?_
       intro W6 eW6
       have L6 : w.heap.size ≤ W5.heap.size := (unhide M).k.size
       replace M := hide ((unhide M).add (show Kept [] W5 W6 by rw [eW6]; exact (Kept.refl _ _).alloc _) (show Blk W6 W5.heap.size 25 (verC 0 (zs 96)) by rw [eW6]; exact Blk.new' rfl))
       generalize W5.heap.size = b6 at *
       clear eW6)
    | (refine wpBuildZ (verC 0 (zs 96)) build25 (by rfl) (by rfl) ?_)
    | (refine wpStoreA row25 (by rfl) (.tmp 6) (.tmp 15) (by rfl) b6 0 (verC 0 (zs 96)) (by rfl) (by rfl) verC_zero (verC_one _ _) (((unhide M).blk (b6, 25, verC 0 (zs 96)) (by simp)).there (by rw [verC_zero]; omega)) ?_))
  have hb6 := ((unhide M).blk (b6, 25, verC 0 (zs 96)) (by simp))
  have g4 := hb6.put (vs := verC 0 (zs 96)) (by rw [verC_zero])
  exact bodyPost_ret (res15 _ _ _ _ _ rfl rfl verC_zero g4) rfl ⟨rfl, (unhide M).k.setCells _ _ (by omega)⟩

def rgTm (a b : List Int) : List Fc := [.is (aggV (verC (sN a) (sB a b))), .is (.bool false), .is (.bool true), .is (.bool true), .no, .no, .no, .no, .no, .is (.bool true), .is (.bool true), .no, .no, .no, .no, .no, .is (.bool true)]
set_option maxHeartbeats 8000000 in
set_option maxRecDepth 100000 in
theorem rget_m (p : Int) (a b : List Int) (ha : Byts 64 a) (hb : Byts 64 b) (hm : Hid (mayB (sN a) (sB a b) = false)) (e1 : decide (p < 0) = false) (e2 : decide (16 ≤ p) = false) (w : World) : Calls Tryd.prog 15 #[.int .i64 p, aggV (u8s a), aggV (u8s b)] w fun e w' => e = .returned (.tuple #[aggV (verC 0 (zs 96)), .int .i64 12]) ∧ Kept [] w w' := by
  have hvl : (verC (sN a) (sB a b)).length = 97 := verC_len (halves_byts ha hb).len
  have hau : (u8s a).length = 64 := by rw [u8s_len, ha.len]
  have hbu : (u8s b).length = 64 := by rw [u8s_len, hb.len]
  go_enter Tryd.func15, Tryd.ntmps15
  go_wp2_with (
    first
    | (refine wpBoxV 4 (by rfl) (by rfl) (.tmp 1) (by rfl) (u8s a) (by rfl) ?_
       intro W4 b4 hb4 B4 K4
       have M : Hid (Mem w W4 [(b4, 27, u8s a)]) := ⟨by simpa using B4, K4⟩
       have L4 : w.heap.size ≤ b4 := by omega
       clear hb4 B4 K4)
    | (refine wpBoxV 5 (by rfl) (by rfl) (.tmp 2) (by rfl) (u8s b) (by rfl) ?_
       intro W5 b5 hb5 B5 K5
       have hs5 := (unhide M).k.size
       have L5 : w.heap.size ≤ b5 := by omega
       replace M := hide ((unhide M).add K5 B5)
       clear hb5 B5 K5 hs5)
    | (refine wpAllocV (verC 0 (zs 96)) zero25 6 (by rfl) (by rfl) (by rfl) ?_
       intro W6 eW6
       have L6 : w.heap.size ≤ W5.heap.size := (unhide M).k.size
       replace M := hide ((unhide M).add (show Kept [] W5 W6 by rw [eW6]; exact (Kept.refl _ _).alloc _) (show Blk W6 W5.heap.size 25 (verC 0 (zs 96)) by rw [eW6]; exact Blk.new' rfl))
       generalize W5.heap.size = b6 at *
       clear eW6)
    | (refine wpLoadA row27 (by rfl) (.tmp 4) (by rfl) b4 0 (by rfl) (u8s a) hau ((unhide M).blk (b4, 27, u8s a) (by simp)).range ?_)
    | (refine wpLoadA row27 (by rfl) (.tmp 5) (by rfl) b5 0 (by rfl) (u8s b) hbu ((unhide M).blk (b5, 27, u8s b) (by simp)).range ?_))
  refine (said28 a b ha hb _).mono ?_
  rintro e w1 ⟨rfl, k1⟩
  replace M := hide ((unhide M).quiet k1)
  clear k1
  go_wp2_with (
    first
    | (refine wpNew row25 (verC 0 (zs 96)) verC_zero zero25 8 (by rfl) (by rfl) (by rfl) (.tmp 18) (by rfl) (by rfl) (by rfl) (verC (sN a) (sB a b)) hvl (verC_one _ _) (by kernel_rfl) (by kernel_rfl) ?_
       intro W8 b8 hb8 B8 K8
       replace M := hide ((unhide M).add K8 B8)
       clear hb8 B8 K8))
  refine wp_region_prefS mixed 17 0 rfl (by kernel_rfl) (tc (rgTm a b)) (fun _ _ _ _ => True) (skipOf (rgTm a b)) (fun j o i b _ => guardsS_some (by kernel_rfl) j o i b) (fun j o _ => guardsS_none (by kernel_rfl) j o) (fun j w => skip_undef w) (fun _ _ _ _ => trivial) (tc_kept _) (by kernel_rfl) ?_ ?_
  · intro j o hj hs' ho a1 w2 hout hin hk
    show o.wp Tryd.prog a1 w2 (opPc (rgTm a b) o a1 w2 j 17) _
    match j, ho with
    | 0, ho =>
      obtain rfl := Option.some.inj ho
      exact wp_loadA row25 (.tmp 8) rfl b8 0 ((hout 8 (by kernel_rfl)).trans (by kernel_rfl)) (verC (sN a) (sB a b)) hvl (((unhide M).blk (b8, 25, verC (sN a) (sB a b)) (by simp)).kept hk (by simp)).range (postc rfl (Kept.refl _ _))
    | 1, ho =>
      obtain rfl := Option.some.inj ho
      have e0 : a1.eval (.tmp 19) = _ := (hin 0 19 (by kernel_rfl) (by kernel_rfl))
      refine wp_callF 9 _ _ rfl #[aggV (verC (sN a) (sB a b))] (by simp [e0]) (cf9 _ _) ((may9 (sN a) (sB a b) (halves_byts ha hb).len w2).mono ?_)
      rintro x w3 ⟨rfl, hk3⟩
      exact ⟨_, rfl, postc (by rw [unhide hm]; rfl) hk3⟩
    | 2, ho =>
      obtain rfl := Option.some.inj ho
      exact o_not (.tmp 20) rfl false (hin 1 20 (by kernel_rfl) (by kernel_rfl)) (postc rfl (Kept.refl _ _))
    | 3, ho =>
      obtain rfl := Option.some.inj ho
      exact wp_move (.tmp 21) rfl (by rw [show a1.eval (.tmp 21) = _ from (hin 2 21 (by kernel_rfl) (by kernel_rfl))]; exact (postc rfl (Kept.refl _ _)))
    | 4, ho => exact absurd (show true = false from hs') (by decide)
    | 5, ho => exact absurd (show true = false from hs') (by decide)
    | 6, ho => exact absurd (show true = false from hs') (by decide)
    | 7, ho => exact absurd (show true = false from hs') (by decide)
    | 8, ho => exact absurd (show true = false from hs') (by decide)
    | 9, ho =>
      obtain rfl := Option.some.inj ho
      exact o_pickT (.tmp 22) (.tmp 27) rfl true false (hin 3 22 (by kernel_rfl) (by kernel_rfl)) (by simp) (postc rfl (Kept.refl _ _)) (by simp)
    | 10, ho =>
      obtain rfl := Option.some.inj ho
      exact wp_move (.tmp 28) rfl (by rw [show a1.eval (.tmp 28) = _ from (hin 9 28 (by kernel_rfl) (by kernel_rfl))]; exact (postc rfl (Kept.refl _ _)))
    | 11, ho => exact absurd (show true = false from hs') (by decide)
    | 12, ho => exact absurd (show true = false from hs') (by decide)
    | 13, ho => exact absurd (show true = false from hs') (by decide)
    | 14, ho => exact absurd (show true = false from hs') (by decide)
    | 15, ho => exact absurd (show true = false from hs') (by decide)
    | 16, ho =>
      obtain rfl := Option.some.inj ho
      exact o_pickT (.tmp 29) (.tmp 34) rfl true false (hin 10 29 (by kernel_rfl) (by kernel_rfl)) (by simp) (postc rfl (Kept.refl _ _)) (by simp)
  · intro vs w5 hlen hF _ hk5
    match vs, hlen with
    | [x0, x1, x2, x3, x4, x5, x6, x7, x8, x9, x10, x11, x12, x13, x14, x15, x16], _ =>
    obtain rfl : x0 = _ := hF 0 _ rfl
    obtain rfl : x1 = _ := hF 1 _ rfl
    obtain rfl : x2 = _ := hF 2 _ rfl
    obtain rfl : x3 = _ := hF 3 _ rfl
    obtain rfl : x4 = _ := hF 4 _ rfl
    obtain rfl : x5 = _ := hF 5 _ rfl
    obtain rfl : x6 = _ := hF 6 _ rfl
    obtain rfl : x7 = _ := hF 7 _ rfl
    obtain rfl : x8 = _ := hF 8 _ rfl
    obtain rfl : x9 = _ := hF 9 _ rfl
    obtain rfl : x10 = _ := hF 10 _ rfl
    obtain rfl : x11 = _ := hF 11 _ rfl
    obtain rfl : x12 = _ := hF 12 _ rfl
    obtain rfl : x13 = _ := hF 13 _ rfl
    obtain rfl : x14 = _ := hF 14 _ rfl
    obtain rfl : x15 = _ := hF 15 _ rfl
    obtain rfl : x16 = _ := hF 16 _ rfl
    clear hF
    simp only [List.take_succ_cons, List.take_zero, putAll, Act.put, List.setIfInBounds_toArray, List.set_cons_succ, List.set_cons_zero]
    refine wpAny_done (by kernel_rfl) ?_ _
    replace M := hide ((unhide M).quiet hk5)
    clear hk5
    go_wp2_with (
      first
      | (refine wpBuildZ (verC 0 (zs 96)) build25 (by rfl) (by rfl) ?_)
      | (refine wpStoreA row25 (by rfl) (.tmp 6) (.tmp 36) (by rfl) b6 0 (verC 0 (zs 96)) (by rfl) (by rfl) verC_zero (verC_one _ _) (((unhide M).blk (b6, 25, verC 0 (zs 96)) (by simp)).there (by rw [verC_zero]; omega)) ?_))
    have hb6 := ((unhide M).blk (b6, 25, verC 0 (zs 96)) (by simp))
    have g4 := hb6.put (vs := verC 0 (zs 96)) (by rw [verC_zero])
    exact bodyPost_ret (res15 _ _ _ _ _ rfl rfl verC_zero g4) rfl ⟨rfl, (unhide M).k.setCells _ _ (by omega)⟩

def rgTf (p : Int) (a b : List Int) : List Fc := [.is (aggV (verC (sN a) (sB a b))), .is (.bool true), .is (.bool false), .is (.bool false), .is (.int .i64 p), .is (aggV (verC (sN a) (sB a b))), .is (aggV (u8s (fstL p (sN a) (sB a b)))), .is (aggV (u8s a)), .is (.bool true), .is (.bool true), .is (.bool true), .no, .no, .no, .no, .no, .is (.bool true)]
set_option maxHeartbeats 8000000 in
set_option maxRecDepth 100000 in
theorem rget_f (p : Int) (a b : List Int) (ha : Byts 64 a) (hb : Byts 64 b) (hm : Hid (mayB (sN a) (sB a b) = true)) (hn : 0 ≤ sN a ∧ sN a ≤ 2147483647) (hq1 : decide (fstL p (sN a) (sB a b) = a) = false) (e1 : decide (p < 0) = false) (e2 : decide (16 ≤ p) = false) (w : World) : Calls Tryd.prog 15 #[.int .i64 p, aggV (u8s a), aggV (u8s b)] w fun e w' => e = .returned (.tuple #[aggV (verC 0 (zs 96)), .int .i64 12]) ∧ Kept [] w w' := by
  have hvl : (verC (sN a) (sB a b)).length = 97 := verC_len (halves_byts ha hb).len
  have hau : (u8s a).length = 64 := by rw [u8s_len, ha.len]
  have hbu : (u8s b).length = 64 := by rw [u8s_len, hb.len]
  go_enter Tryd.func15, Tryd.ntmps15
  go_wp2_with (
    first
    | (refine wpBoxV 4 (by rfl) (by rfl) (.tmp 1) (by rfl) (u8s a) (by rfl) ?_
       intro W4 b4 hb4 B4 K4
       have M : Hid (Mem w W4 [(b4, 27, u8s a)]) := ⟨by simpa using B4, K4⟩
       have L4 : w.heap.size ≤ b4 := by omega
       clear hb4 B4 K4)
    | (refine wpBoxV 5 (by rfl) (by rfl) (.tmp 2) (by rfl) (u8s b) (by rfl) ?_
       intro W5 b5 hb5 B5 K5
       have hs5 := (unhide M).k.size
       have L5 : w.heap.size ≤ b5 := by omega
       replace M := hide ((unhide M).add K5 B5)
       clear hb5 B5 K5 hs5)
    | (refine wpAllocV (verC 0 (zs 96)) zero25 6 (by rfl) (by rfl) (by rfl) ?_
       intro W6 eW6
       have L6 : w.heap.size ≤ W5.heap.size := (unhide M).k.size
       replace M := hide ((unhide M).add (show Kept [] W5 W6 by rw [eW6]; exact (Kept.refl _ _).alloc _) (show Blk W6 W5.heap.size 25 (verC 0 (zs 96)) by rw [eW6]; exact Blk.new' rfl))
       generalize W5.heap.size = b6 at *
       clear eW6)
    | (refine wpLoadA row27 (by rfl) (.tmp 4) (by rfl) b4 0 (by rfl) (u8s a) hau ((unhide M).blk (b4, 27, u8s a) (by simp)).range ?_)
    | (refine wpLoadA row27 (by rfl) (.tmp 5) (by rfl) b5 0 (by rfl) (u8s b) hbu ((unhide M).blk (b5, 27, u8s b) (by simp)).range ?_))
  refine (said28 a b ha hb _).mono ?_
  rintro e w1 ⟨rfl, k1⟩
  replace M := hide ((unhide M).quiet k1)
  clear k1
  go_wp2_with (
    first
    | (refine wpNew row25 (verC 0 (zs 96)) verC_zero zero25 8 (by rfl) (by rfl) (by rfl) (.tmp 18) (by rfl) (by rfl) (by rfl) (verC (sN a) (sB a b)) hvl (verC_one _ _) (by kernel_rfl) (by kernel_rfl) ?_
       intro W8 b8 hb8 B8 K8
       replace M := hide ((unhide M).add K8 B8)
       clear hb8 B8 K8))
  refine wp_region_prefS mixed 17 0 rfl (by kernel_rfl) (tc (rgTf p a b)) (fun _ _ _ _ => True) (skipOf (rgTf p a b)) (fun j o i b _ => guardsS_some (by kernel_rfl) j o i b) (fun j o _ => guardsS_none (by kernel_rfl) j o) (fun j w => skip_undef w) (fun _ _ _ _ => trivial) (tc_kept _) (by kernel_rfl) ?_ ?_
  · intro j o hj hs' ho a1 w2 hout hin hk
    show o.wp Tryd.prog a1 w2 (opPc (rgTf p a b) o a1 w2 j 17) _
    match j, ho with
    | 0, ho =>
      obtain rfl := Option.some.inj ho
      exact wp_loadA row25 (.tmp 8) rfl b8 0 ((hout 8 (by kernel_rfl)).trans (by kernel_rfl)) (verC (sN a) (sB a b)) hvl (((unhide M).blk (b8, 25, verC (sN a) (sB a b)) (by simp)).kept hk (by simp)).range (postc rfl (Kept.refl _ _))
    | 1, ho =>
      obtain rfl := Option.some.inj ho
      have e0 : a1.eval (.tmp 19) = _ := (hin 0 19 (by kernel_rfl) (by kernel_rfl))
      refine wp_callF 9 _ _ rfl #[aggV (verC (sN a) (sB a b))] (by simp [e0]) (cf9 _ _) ((may9 (sN a) (sB a b) (halves_byts ha hb).len w2).mono ?_)
      rintro x w3 ⟨rfl, hk3⟩
      exact ⟨_, rfl, postc (by rw [unhide hm]; rfl) hk3⟩
    | 2, ho =>
      obtain rfl := Option.some.inj ho
      exact o_not (.tmp 20) rfl true (hin 1 20 (by kernel_rfl) (by kernel_rfl)) (postc rfl (Kept.refl _ _))
    | 3, ho =>
      obtain rfl := Option.some.inj ho
      exact wp_move (.tmp 21) rfl (by rw [show a1.eval (.tmp 21) = _ from (hin 2 21 (by kernel_rfl) (by kernel_rfl))]; exact (postc rfl (Kept.refl _ _)))
    | 4, ho =>
      obtain rfl := Option.some.inj ho
      exact wp_move (.tmp 0) rfl (by rw [show a1.eval (.tmp 0) = _ from ((hout 0 (by kernel_rfl)).trans (by kernel_rfl))]; exact (postc rfl (Kept.refl _ _)))
    | 5, ho =>
      obtain rfl := Option.some.inj ho
      exact wp_loadA row25 (.tmp 8) rfl b8 0 ((hout 8 (by kernel_rfl)).trans (by kernel_rfl)) (verC (sN a) (sB a b)) hvl (((unhide M).blk (b8, 25, verC (sN a) (sB a b)) (by simp)).kept hk (by simp)).range (postc rfl (Kept.refl _ _))
    | 6, ho =>
      obtain rfl := Option.some.inj ho
      have e0 : a1.eval (.tmp 23) = _ := (hin 4 23 (by kernel_rfl) (by kernel_rfl))
      have e1 : a1.eval (.tmp 24) = _ := (hin 5 24 (by kernel_rfl) (by kernel_rfl))
      have e2 : a1.eval (.const (.int .i64 0)) = .int .i64 0 := rfl
      refine wp_callF 13 _ _ rfl #[.int .i64 p, aggV (verC (sN a) (sB a b)), .int .i64 0] (by simp [e0, e1, e2]) (cf13g _ _) ((half_fst p (sN a) (sB a b) (halves_byts ha hb) hn w2).mono ?_)
      rintro x w3 ⟨rfl, hk3⟩
      exact ⟨_, rfl, postc rfl hk3⟩
    | 7, ho =>
      obtain rfl := Option.some.inj ho
      exact wp_loadA row27 (.tmp 4) rfl b4 0 ((hout 4 (by kernel_rfl)).trans (by kernel_rfl)) (u8s a) (by rw [u8s_len, ha.len]) (((unhide M).blk (b4, 27, u8s a) (by simp)).kept hk (by simp)).range (postc rfl (Kept.refl _ _))
    | 8, ho =>
      obtain rfl := Option.some.inj ho
      exact o_neqA 27 27 guard27 (.tmp 25) (.tmp 26) rfl (u8s (fstL p (sN a) (sB a b))) (u8s a) (hin 6 25 (by kernel_rfl) (by kernel_rfl)) (hin 7 26 (by kernel_rfl) (by kernel_rfl)) false ((equal27 _ (fstL p (sN a) (sB a b)) a (fst_byts (halves_byts ha hb)).len ha.len).trans (by rw [hq1])) (postc rfl (Kept.refl _ _))
    | 9, ho =>
      obtain rfl := Option.some.inj ho
      exact o_pickT (.tmp 22) (.tmp 27) rfl false true (hin 3 22 (by kernel_rfl) (by kernel_rfl)) (fun _ => (hin 8 27 (by kernel_rfl) (by kernel_rfl))) (postc rfl (Kept.refl _ _)) (by simp)
    | 10, ho =>
      obtain rfl := Option.some.inj ho
      exact wp_move (.tmp 28) rfl (by rw [show a1.eval (.tmp 28) = _ from (hin 9 28 (by kernel_rfl) (by kernel_rfl))]; exact (postc rfl (Kept.refl _ _)))
    | 11, ho => exact absurd (show true = false from hs') (by decide)
    | 12, ho => exact absurd (show true = false from hs') (by decide)
    | 13, ho => exact absurd (show true = false from hs') (by decide)
    | 14, ho => exact absurd (show true = false from hs') (by decide)
    | 15, ho => exact absurd (show true = false from hs') (by decide)
    | 16, ho =>
      obtain rfl := Option.some.inj ho
      exact o_pickT (.tmp 29) (.tmp 34) rfl true false (hin 10 29 (by kernel_rfl) (by kernel_rfl)) (by simp) (postc rfl (Kept.refl _ _)) (by simp)
  · intro vs w5 hlen hF _ hk5
    match vs, hlen with
    | [x0, x1, x2, x3, x4, x5, x6, x7, x8, x9, x10, x11, x12, x13, x14, x15, x16], _ =>
    obtain rfl : x0 = _ := hF 0 _ rfl
    obtain rfl : x1 = _ := hF 1 _ rfl
    obtain rfl : x2 = _ := hF 2 _ rfl
    obtain rfl : x3 = _ := hF 3 _ rfl
    obtain rfl : x4 = _ := hF 4 _ rfl
    obtain rfl : x5 = _ := hF 5 _ rfl
    obtain rfl : x6 = _ := hF 6 _ rfl
    obtain rfl : x7 = _ := hF 7 _ rfl
    obtain rfl : x8 = _ := hF 8 _ rfl
    obtain rfl : x9 = _ := hF 9 _ rfl
    obtain rfl : x10 = _ := hF 10 _ rfl
    obtain rfl : x11 = _ := hF 11 _ rfl
    obtain rfl : x12 = _ := hF 12 _ rfl
    obtain rfl : x13 = _ := hF 13 _ rfl
    obtain rfl : x14 = _ := hF 14 _ rfl
    obtain rfl : x15 = _ := hF 15 _ rfl
    obtain rfl : x16 = _ := hF 16 _ rfl
    clear hF
    simp only [List.take_succ_cons, List.take_zero, putAll, Act.put, List.setIfInBounds_toArray, List.set_cons_succ, List.set_cons_zero]
    refine wpAny_done (by kernel_rfl) ?_ _
    replace M := hide ((unhide M).quiet hk5)
    clear hk5
    go_wp2_with (
      first
      | (refine wpBuildZ (verC 0 (zs 96)) build25 (by rfl) (by rfl) ?_)
      | (refine wpStoreA row25 (by rfl) (.tmp 6) (.tmp 36) (by rfl) b6 0 (verC 0 (zs 96)) (by rfl) (by rfl) verC_zero (verC_one _ _) (((unhide M).blk (b6, 25, verC 0 (zs 96)) (by simp)).there (by rw [verC_zero]; omega)) ?_))
    have hb6 := ((unhide M).blk (b6, 25, verC 0 (zs 96)) (by simp))
    have g4 := hb6.put (vs := verC 0 (zs 96)) (by rw [verC_zero])
    exact bodyPost_ret (res15 _ _ _ _ _ rfl rfl verC_zero g4) rfl ⟨rfl, (unhide M).k.setCells _ _ (by omega)⟩

def rgTs (p : Int) (a b : List Int) : List Fc := [.is (aggV (verC (sN a) (sB a b))), .is (.bool true), .is (.bool false), .is (.bool false), .is (.int .i64 p), .is (aggV (verC (sN a) (sB a b))), .is (aggV (u8s (fstL p (sN a) (sB a b)))), .is (aggV (u8s a)), .is (.bool false), .is (.bool false), .is (.bool false), .is (.int .i64 p), .is (aggV (verC (sN a) (sB a b))), .is (aggV (u8s (sndL p (sN a) (sB a b)))), .is (aggV (u8s b)), .is (.bool true), .is (.bool true)]
set_option maxHeartbeats 8000000 in
set_option maxRecDepth 100000 in
theorem rget_s (p : Int) (a b : List Int) (ha : Byts 64 a) (hb : Byts 64 b) (hm : Hid (mayB (sN a) (sB a b) = true)) (hn : 0 ≤ sN a ∧ sN a ≤ 2147483647) (hq1 : decide (fstL p (sN a) (sB a b) = a) = true) (hq2 : decide (sndL p (sN a) (sB a b) = b) = false) (e1 : decide (p < 0) = false) (e2 : decide (16 ≤ p) = false) (w : World) : Calls Tryd.prog 15 #[.int .i64 p, aggV (u8s a), aggV (u8s b)] w fun e w' => e = .returned (.tuple #[aggV (verC 0 (zs 96)), .int .i64 12]) ∧ Kept [] w w' := by
  have hvl : (verC (sN a) (sB a b)).length = 97 := verC_len (halves_byts ha hb).len
  have hau : (u8s a).length = 64 := by rw [u8s_len, ha.len]
  have hbu : (u8s b).length = 64 := by rw [u8s_len, hb.len]
  go_enter Tryd.func15, Tryd.ntmps15
  go_wp2_with (
    first
    | (refine wpBoxV 4 (by rfl) (by rfl) (.tmp 1) (by rfl) (u8s a) (by rfl) ?_
       intro W4 b4 hb4 B4 K4
       have M : Hid (Mem w W4 [(b4, 27, u8s a)]) := ⟨by simpa using B4, K4⟩
       have L4 : w.heap.size ≤ b4 := by omega
       clear hb4 B4 K4)
    | (refine wpBoxV 5 (by rfl) (by rfl) (.tmp 2) (by rfl) (u8s b) (by rfl) ?_
       intro W5 b5 hb5 B5 K5
       have hs5 := (unhide M).k.size
       have L5 : w.heap.size ≤ b5 := by omega
       replace M := hide ((unhide M).add K5 B5)
       clear hb5 B5 K5 hs5)
    | (refine wpAllocV (verC 0 (zs 96)) zero25 6 (by rfl) (by rfl) (by rfl) ?_
       intro W6 eW6
       have L6 : w.heap.size ≤ W5.heap.size := (unhide M).k.size
       replace M := hide ((unhide M).add (show Kept [] W5 W6 by rw [eW6]; exact (Kept.refl _ _).alloc _) (show Blk W6 W5.heap.size 25 (verC 0 (zs 96)) by rw [eW6]; exact Blk.new' rfl))
       generalize W5.heap.size = b6 at *
       clear eW6)
    | (refine wpLoadA row27 (by rfl) (.tmp 4) (by rfl) b4 0 (by rfl) (u8s a) hau ((unhide M).blk (b4, 27, u8s a) (by simp)).range ?_)
    | (refine wpLoadA row27 (by rfl) (.tmp 5) (by rfl) b5 0 (by rfl) (u8s b) hbu ((unhide M).blk (b5, 27, u8s b) (by simp)).range ?_))
  refine (said28 a b ha hb _).mono ?_
  rintro e w1 ⟨rfl, k1⟩
  replace M := hide ((unhide M).quiet k1)
  clear k1
  go_wp2_with (
    first
    | (refine wpNew row25 (verC 0 (zs 96)) verC_zero zero25 8 (by rfl) (by rfl) (by rfl) (.tmp 18) (by rfl) (by rfl) (by rfl) (verC (sN a) (sB a b)) hvl (verC_one _ _) (by kernel_rfl) (by kernel_rfl) ?_
       intro W8 b8 hb8 B8 K8
       replace M := hide ((unhide M).add K8 B8)
       clear hb8 B8 K8))
  refine wp_region_prefS mixed 17 0 rfl (by kernel_rfl) (tc (rgTs p a b)) (fun _ _ _ _ => True) (skipOf (rgTs p a b)) (fun j o i b _ => guardsS_some (by kernel_rfl) j o i b) (fun j o _ => guardsS_none (by kernel_rfl) j o) (fun j w => skip_undef w) (fun _ _ _ _ => trivial) (tc_kept _) (by kernel_rfl) ?_ ?_
  · intro j o hj hs' ho a1 w2 hout hin hk
    show o.wp Tryd.prog a1 w2 (opPc (rgTs p a b) o a1 w2 j 17) _
    match j, ho with
    | 0, ho =>
      obtain rfl := Option.some.inj ho
      exact wp_loadA row25 (.tmp 8) rfl b8 0 ((hout 8 (by kernel_rfl)).trans (by kernel_rfl)) (verC (sN a) (sB a b)) hvl (((unhide M).blk (b8, 25, verC (sN a) (sB a b)) (by simp)).kept hk (by simp)).range (postc rfl (Kept.refl _ _))
    | 1, ho =>
      obtain rfl := Option.some.inj ho
      have e0 : a1.eval (.tmp 19) = _ := (hin 0 19 (by kernel_rfl) (by kernel_rfl))
      refine wp_callF 9 _ _ rfl #[aggV (verC (sN a) (sB a b))] (by simp [e0]) (cf9 _ _) ((may9 (sN a) (sB a b) (halves_byts ha hb).len w2).mono ?_)
      rintro x w3 ⟨rfl, hk3⟩
      exact ⟨_, rfl, postc (by rw [unhide hm]; rfl) hk3⟩
    | 2, ho =>
      obtain rfl := Option.some.inj ho
      exact o_not (.tmp 20) rfl true (hin 1 20 (by kernel_rfl) (by kernel_rfl)) (postc rfl (Kept.refl _ _))
    | 3, ho =>
      obtain rfl := Option.some.inj ho
      exact wp_move (.tmp 21) rfl (by rw [show a1.eval (.tmp 21) = _ from (hin 2 21 (by kernel_rfl) (by kernel_rfl))]; exact (postc rfl (Kept.refl _ _)))
    | 4, ho =>
      obtain rfl := Option.some.inj ho
      exact wp_move (.tmp 0) rfl (by rw [show a1.eval (.tmp 0) = _ from ((hout 0 (by kernel_rfl)).trans (by kernel_rfl))]; exact (postc rfl (Kept.refl _ _)))
    | 5, ho =>
      obtain rfl := Option.some.inj ho
      exact wp_loadA row25 (.tmp 8) rfl b8 0 ((hout 8 (by kernel_rfl)).trans (by kernel_rfl)) (verC (sN a) (sB a b)) hvl (((unhide M).blk (b8, 25, verC (sN a) (sB a b)) (by simp)).kept hk (by simp)).range (postc rfl (Kept.refl _ _))
    | 6, ho =>
      obtain rfl := Option.some.inj ho
      have e0 : a1.eval (.tmp 23) = _ := (hin 4 23 (by kernel_rfl) (by kernel_rfl))
      have e1 : a1.eval (.tmp 24) = _ := (hin 5 24 (by kernel_rfl) (by kernel_rfl))
      have e2 : a1.eval (.const (.int .i64 0)) = .int .i64 0 := rfl
      refine wp_callF 13 _ _ rfl #[.int .i64 p, aggV (verC (sN a) (sB a b)), .int .i64 0] (by simp [e0, e1, e2]) (cf13g _ _) ((half_fst p (sN a) (sB a b) (halves_byts ha hb) hn w2).mono ?_)
      rintro x w3 ⟨rfl, hk3⟩
      exact ⟨_, rfl, postc rfl hk3⟩
    | 7, ho =>
      obtain rfl := Option.some.inj ho
      exact wp_loadA row27 (.tmp 4) rfl b4 0 ((hout 4 (by kernel_rfl)).trans (by kernel_rfl)) (u8s a) (by rw [u8s_len, ha.len]) (((unhide M).blk (b4, 27, u8s a) (by simp)).kept hk (by simp)).range (postc rfl (Kept.refl _ _))
    | 8, ho =>
      obtain rfl := Option.some.inj ho
      exact o_neqA 27 27 guard27 (.tmp 25) (.tmp 26) rfl (u8s (fstL p (sN a) (sB a b))) (u8s a) (hin 6 25 (by kernel_rfl) (by kernel_rfl)) (hin 7 26 (by kernel_rfl) (by kernel_rfl)) true ((equal27 _ (fstL p (sN a) (sB a b)) a (fst_byts (halves_byts ha hb)).len ha.len).trans (by rw [hq1])) (postc rfl (Kept.refl _ _))
    | 9, ho =>
      obtain rfl := Option.some.inj ho
      exact o_pickT (.tmp 22) (.tmp 27) rfl false false (hin 3 22 (by kernel_rfl) (by kernel_rfl)) (fun _ => (hin 8 27 (by kernel_rfl) (by kernel_rfl))) (postc rfl (Kept.refl _ _)) (by simp)
    | 10, ho =>
      obtain rfl := Option.some.inj ho
      exact wp_move (.tmp 28) rfl (by rw [show a1.eval (.tmp 28) = _ from (hin 9 28 (by kernel_rfl) (by kernel_rfl))]; exact (postc rfl (Kept.refl _ _)))
    | 11, ho =>
      obtain rfl := Option.some.inj ho
      exact wp_move (.tmp 0) rfl (by rw [show a1.eval (.tmp 0) = _ from ((hout 0 (by kernel_rfl)).trans (by kernel_rfl))]; exact (postc rfl (Kept.refl _ _)))
    | 12, ho =>
      obtain rfl := Option.some.inj ho
      exact wp_loadA row25 (.tmp 8) rfl b8 0 ((hout 8 (by kernel_rfl)).trans (by kernel_rfl)) (verC (sN a) (sB a b)) hvl (((unhide M).blk (b8, 25, verC (sN a) (sB a b)) (by simp)).kept hk (by simp)).range (postc rfl (Kept.refl _ _))
    | 13, ho =>
      obtain rfl := Option.some.inj ho
      have e0 : a1.eval (.tmp 30) = _ := (hin 11 30 (by kernel_rfl) (by kernel_rfl))
      have e1 : a1.eval (.tmp 31) = _ := (hin 12 31 (by kernel_rfl) (by kernel_rfl))
      have e2 : a1.eval (.const (.int .i64 1)) = .int .i64 1 := rfl
      refine wp_callF 13 _ _ rfl #[.int .i64 p, aggV (verC (sN a) (sB a b)), .int .i64 1] (by simp [e0, e1, e2]) (cf13g _ _) ((half_snd p (sN a) (sB a b) (halves_byts ha hb) hn w2).mono ?_)
      rintro x w3 ⟨rfl, hk3⟩
      exact ⟨_, rfl, postc rfl hk3⟩
    | 14, ho =>
      obtain rfl := Option.some.inj ho
      exact wp_loadA row27 (.tmp 5) rfl b5 0 ((hout 5 (by kernel_rfl)).trans (by kernel_rfl)) (u8s b) (by rw [u8s_len, hb.len]) (((unhide M).blk (b5, 27, u8s b) (by simp)).kept hk (by simp)).range (postc rfl (Kept.refl _ _))
    | 15, ho =>
      obtain rfl := Option.some.inj ho
      exact o_neqA 27 27 guard27 (.tmp 32) (.tmp 33) rfl (u8s (sndL p (sN a) (sB a b))) (u8s b) (hin 13 32 (by kernel_rfl) (by kernel_rfl)) (hin 14 33 (by kernel_rfl) (by kernel_rfl)) false ((equal27 _ (sndL p (sN a) (sB a b)) b (snd_byts (halves_byts ha hb)).len hb.len).trans (by rw [hq2])) (postc rfl (Kept.refl _ _))
    | 16, ho =>
      obtain rfl := Option.some.inj ho
      exact o_pickT (.tmp 29) (.tmp 34) rfl false true (hin 10 29 (by kernel_rfl) (by kernel_rfl)) (fun _ => (hin 15 34 (by kernel_rfl) (by kernel_rfl))) (postc rfl (Kept.refl _ _)) (by simp)
  · intro vs w5 hlen hF _ hk5
    match vs, hlen with
    | [x0, x1, x2, x3, x4, x5, x6, x7, x8, x9, x10, x11, x12, x13, x14, x15, x16], _ =>
    obtain rfl : x0 = _ := hF 0 _ rfl
    obtain rfl : x1 = _ := hF 1 _ rfl
    obtain rfl : x2 = _ := hF 2 _ rfl
    obtain rfl : x3 = _ := hF 3 _ rfl
    obtain rfl : x4 = _ := hF 4 _ rfl
    obtain rfl : x5 = _ := hF 5 _ rfl
    obtain rfl : x6 = _ := hF 6 _ rfl
    obtain rfl : x7 = _ := hF 7 _ rfl
    obtain rfl : x8 = _ := hF 8 _ rfl
    obtain rfl : x9 = _ := hF 9 _ rfl
    obtain rfl : x10 = _ := hF 10 _ rfl
    obtain rfl : x11 = _ := hF 11 _ rfl
    obtain rfl : x12 = _ := hF 12 _ rfl
    obtain rfl : x13 = _ := hF 13 _ rfl
    obtain rfl : x14 = _ := hF 14 _ rfl
    obtain rfl : x15 = _ := hF 15 _ rfl
    obtain rfl : x16 = _ := hF 16 _ rfl
    clear hF
    simp only [List.take_succ_cons, List.take_zero, putAll, Act.put, List.setIfInBounds_toArray, List.set_cons_succ, List.set_cons_zero]
    refine wpAny_done (by kernel_rfl) ?_ _
    replace M := hide ((unhide M).quiet hk5)
    clear hk5
    go_wp2_with (
      first
      | (refine wpBuildZ (verC 0 (zs 96)) build25 (by rfl) (by rfl) ?_)
      | (refine wpStoreA row25 (by rfl) (.tmp 6) (.tmp 36) (by rfl) b6 0 (verC 0 (zs 96)) (by rfl) (by rfl) verC_zero (verC_one _ _) (((unhide M).blk (b6, 25, verC 0 (zs 96)) (by simp)).there (by rw [verC_zero]; omega)) ?_))
    have hb6 := ((unhide M).blk (b6, 25, verC 0 (zs 96)) (by simp))
    have g4 := hb6.put (vs := verC 0 (zs 96)) (by rw [verC_zero])
    exact bodyPost_ret (res15 _ _ _ _ _ rfl rfl verC_zero g4) rfl ⟨rfl, (unhide M).k.setCells _ _ (by omega)⟩

def rgTg (p : Int) (a b : List Int) : List Fc := [.is (aggV (verC (sN a) (sB a b))), .is (.bool true), .is (.bool false), .is (.bool false), .is (.int .i64 p), .is (aggV (verC (sN a) (sB a b))), .is (aggV (u8s (fstL p (sN a) (sB a b)))), .is (aggV (u8s a)), .is (.bool false), .is (.bool false), .is (.bool false), .is (.int .i64 p), .is (aggV (verC (sN a) (sB a b))), .is (aggV (u8s (sndL p (sN a) (sB a b)))), .is (aggV (u8s b)), .is (.bool false), .is (.bool false)]
set_option maxHeartbeats 8000000 in
set_option maxRecDepth 100000 in
theorem rget_g (p : Int) (a b : List Int) (ha : Byts 64 a) (hb : Byts 64 b) (hm : Hid (mayB (sN a) (sB a b) = true)) (hn : 0 ≤ sN a ∧ sN a ≤ 2147483647) (hq1 : decide (fstL p (sN a) (sB a b) = a) = true) (hq2 : decide (sndL p (sN a) (sB a b) = b) = true) (e1 : decide (p < 0) = false) (e2 : decide (16 ≤ p) = false) (w : World) : Calls Tryd.prog 15 #[.int .i64 p, aggV (u8s a), aggV (u8s b)] w fun e w' => e = .returned (.tuple #[aggV (verC (sN a) (sB a b)), .int .i64 0]) ∧ Kept [] w w' := by
  have hvl : (verC (sN a) (sB a b)).length = 97 := verC_len (halves_byts ha hb).len
  have hau : (u8s a).length = 64 := by rw [u8s_len, ha.len]
  have hbu : (u8s b).length = 64 := by rw [u8s_len, hb.len]
  go_enter Tryd.func15, Tryd.ntmps15
  go_wp2_with (
    first
    | (refine wpBoxV 4 (by rfl) (by rfl) (.tmp 1) (by rfl) (u8s a) (by rfl) ?_
       intro W4 b4 hb4 B4 K4
       have M : Hid (Mem w W4 [(b4, 27, u8s a)]) := ⟨by simpa using B4, K4⟩
       have L4 : w.heap.size ≤ b4 := by omega
       clear hb4 B4 K4)
    | (refine wpBoxV 5 (by rfl) (by rfl) (.tmp 2) (by rfl) (u8s b) (by rfl) ?_
       intro W5 b5 hb5 B5 K5
       have hs5 := (unhide M).k.size
       have L5 : w.heap.size ≤ b5 := by omega
       replace M := hide ((unhide M).add K5 B5)
       clear hb5 B5 K5 hs5)
    | (refine wpAllocV (verC 0 (zs 96)) zero25 6 (by rfl) (by rfl) (by rfl) ?_
       intro W6 eW6
       have L6 : w.heap.size ≤ W5.heap.size := (unhide M).k.size
       replace M := hide ((unhide M).add (show Kept [] W5 W6 by rw [eW6]; exact (Kept.refl _ _).alloc _) (show Blk W6 W5.heap.size 25 (verC 0 (zs 96)) by rw [eW6]; exact Blk.new' rfl))
       generalize W5.heap.size = b6 at *
       clear eW6)
    | (refine wpLoadA row27 (by rfl) (.tmp 4) (by rfl) b4 0 (by rfl) (u8s a) hau ((unhide M).blk (b4, 27, u8s a) (by simp)).range ?_)
    | (refine wpLoadA row27 (by rfl) (.tmp 5) (by rfl) b5 0 (by rfl) (u8s b) hbu ((unhide M).blk (b5, 27, u8s b) (by simp)).range ?_))
  refine (said28 a b ha hb _).mono ?_
  rintro e w1 ⟨rfl, k1⟩
  replace M := hide ((unhide M).quiet k1)
  clear k1
  go_wp2_with (
    first
    | (refine wpNew row25 (verC 0 (zs 96)) verC_zero zero25 8 (by rfl) (by rfl) (by rfl) (.tmp 18) (by rfl) (by rfl) (by rfl) (verC (sN a) (sB a b)) hvl (verC_one _ _) (by kernel_rfl) (by kernel_rfl) ?_
       intro W8 b8 hb8 B8 K8
       replace M := hide ((unhide M).add K8 B8)
       clear hb8 B8 K8))
  refine wp_region_prefS mixed 17 0 rfl (by kernel_rfl) (tc (rgTg p a b)) (fun _ _ _ _ => True) (skipOf (rgTg p a b)) (fun j o i b _ => guardsS_some (by kernel_rfl) j o i b) (fun j o _ => guardsS_none (by kernel_rfl) j o) (fun j w => skip_undef w) (fun _ _ _ _ => trivial) (tc_kept _) (by kernel_rfl) ?_ ?_
  · intro j o hj hs' ho a1 w2 hout hin hk
    show o.wp Tryd.prog a1 w2 (opPc (rgTg p a b) o a1 w2 j 17) _
    match j, ho with
    | 0, ho =>
      obtain rfl := Option.some.inj ho
      exact wp_loadA row25 (.tmp 8) rfl b8 0 ((hout 8 (by kernel_rfl)).trans (by kernel_rfl)) (verC (sN a) (sB a b)) hvl (((unhide M).blk (b8, 25, verC (sN a) (sB a b)) (by simp)).kept hk (by simp)).range (postc rfl (Kept.refl _ _))
    | 1, ho =>
      obtain rfl := Option.some.inj ho
      have e0 : a1.eval (.tmp 19) = _ := (hin 0 19 (by kernel_rfl) (by kernel_rfl))
      refine wp_callF 9 _ _ rfl #[aggV (verC (sN a) (sB a b))] (by simp [e0]) (cf9 _ _) ((may9 (sN a) (sB a b) (halves_byts ha hb).len w2).mono ?_)
      rintro x w3 ⟨rfl, hk3⟩
      exact ⟨_, rfl, postc (by rw [unhide hm]; rfl) hk3⟩
    | 2, ho =>
      obtain rfl := Option.some.inj ho
      exact o_not (.tmp 20) rfl true (hin 1 20 (by kernel_rfl) (by kernel_rfl)) (postc rfl (Kept.refl _ _))
    | 3, ho =>
      obtain rfl := Option.some.inj ho
      exact wp_move (.tmp 21) rfl (by rw [show a1.eval (.tmp 21) = _ from (hin 2 21 (by kernel_rfl) (by kernel_rfl))]; exact (postc rfl (Kept.refl _ _)))
    | 4, ho =>
      obtain rfl := Option.some.inj ho
      exact wp_move (.tmp 0) rfl (by rw [show a1.eval (.tmp 0) = _ from ((hout 0 (by kernel_rfl)).trans (by kernel_rfl))]; exact (postc rfl (Kept.refl _ _)))
    | 5, ho =>
      obtain rfl := Option.some.inj ho
      exact wp_loadA row25 (.tmp 8) rfl b8 0 ((hout 8 (by kernel_rfl)).trans (by kernel_rfl)) (verC (sN a) (sB a b)) hvl (((unhide M).blk (b8, 25, verC (sN a) (sB a b)) (by simp)).kept hk (by simp)).range (postc rfl (Kept.refl _ _))
    | 6, ho =>
      obtain rfl := Option.some.inj ho
      have e0 : a1.eval (.tmp 23) = _ := (hin 4 23 (by kernel_rfl) (by kernel_rfl))
      have e1 : a1.eval (.tmp 24) = _ := (hin 5 24 (by kernel_rfl) (by kernel_rfl))
      have e2 : a1.eval (.const (.int .i64 0)) = .int .i64 0 := rfl
      refine wp_callF 13 _ _ rfl #[.int .i64 p, aggV (verC (sN a) (sB a b)), .int .i64 0] (by simp [e0, e1, e2]) (cf13g _ _) ((half_fst p (sN a) (sB a b) (halves_byts ha hb) hn w2).mono ?_)
      rintro x w3 ⟨rfl, hk3⟩
      exact ⟨_, rfl, postc rfl hk3⟩
    | 7, ho =>
      obtain rfl := Option.some.inj ho
      exact wp_loadA row27 (.tmp 4) rfl b4 0 ((hout 4 (by kernel_rfl)).trans (by kernel_rfl)) (u8s a) (by rw [u8s_len, ha.len]) (((unhide M).blk (b4, 27, u8s a) (by simp)).kept hk (by simp)).range (postc rfl (Kept.refl _ _))
    | 8, ho =>
      obtain rfl := Option.some.inj ho
      exact o_neqA 27 27 guard27 (.tmp 25) (.tmp 26) rfl (u8s (fstL p (sN a) (sB a b))) (u8s a) (hin 6 25 (by kernel_rfl) (by kernel_rfl)) (hin 7 26 (by kernel_rfl) (by kernel_rfl)) true ((equal27 _ (fstL p (sN a) (sB a b)) a (fst_byts (halves_byts ha hb)).len ha.len).trans (by rw [hq1])) (postc rfl (Kept.refl _ _))
    | 9, ho =>
      obtain rfl := Option.some.inj ho
      exact o_pickT (.tmp 22) (.tmp 27) rfl false false (hin 3 22 (by kernel_rfl) (by kernel_rfl)) (fun _ => (hin 8 27 (by kernel_rfl) (by kernel_rfl))) (postc rfl (Kept.refl _ _)) (by simp)
    | 10, ho =>
      obtain rfl := Option.some.inj ho
      exact wp_move (.tmp 28) rfl (by rw [show a1.eval (.tmp 28) = _ from (hin 9 28 (by kernel_rfl) (by kernel_rfl))]; exact (postc rfl (Kept.refl _ _)))
    | 11, ho =>
      obtain rfl := Option.some.inj ho
      exact wp_move (.tmp 0) rfl (by rw [show a1.eval (.tmp 0) = _ from ((hout 0 (by kernel_rfl)).trans (by kernel_rfl))]; exact (postc rfl (Kept.refl _ _)))
    | 12, ho =>
      obtain rfl := Option.some.inj ho
      exact wp_loadA row25 (.tmp 8) rfl b8 0 ((hout 8 (by kernel_rfl)).trans (by kernel_rfl)) (verC (sN a) (sB a b)) hvl (((unhide M).blk (b8, 25, verC (sN a) (sB a b)) (by simp)).kept hk (by simp)).range (postc rfl (Kept.refl _ _))
    | 13, ho =>
      obtain rfl := Option.some.inj ho
      have e0 : a1.eval (.tmp 30) = _ := (hin 11 30 (by kernel_rfl) (by kernel_rfl))
      have e1 : a1.eval (.tmp 31) = _ := (hin 12 31 (by kernel_rfl) (by kernel_rfl))
      have e2 : a1.eval (.const (.int .i64 1)) = .int .i64 1 := rfl
      refine wp_callF 13 _ _ rfl #[.int .i64 p, aggV (verC (sN a) (sB a b)), .int .i64 1] (by simp [e0, e1, e2]) (cf13g _ _) ((half_snd p (sN a) (sB a b) (halves_byts ha hb) hn w2).mono ?_)
      rintro x w3 ⟨rfl, hk3⟩
      exact ⟨_, rfl, postc rfl hk3⟩
    | 14, ho =>
      obtain rfl := Option.some.inj ho
      exact wp_loadA row27 (.tmp 5) rfl b5 0 ((hout 5 (by kernel_rfl)).trans (by kernel_rfl)) (u8s b) (by rw [u8s_len, hb.len]) (((unhide M).blk (b5, 27, u8s b) (by simp)).kept hk (by simp)).range (postc rfl (Kept.refl _ _))
    | 15, ho =>
      obtain rfl := Option.some.inj ho
      exact o_neqA 27 27 guard27 (.tmp 32) (.tmp 33) rfl (u8s (sndL p (sN a) (sB a b))) (u8s b) (hin 13 32 (by kernel_rfl) (by kernel_rfl)) (hin 14 33 (by kernel_rfl) (by kernel_rfl)) true ((equal27 _ (sndL p (sN a) (sB a b)) b (snd_byts (halves_byts ha hb)).len hb.len).trans (by rw [hq2])) (postc rfl (Kept.refl _ _))
    | 16, ho =>
      obtain rfl := Option.some.inj ho
      exact o_pickT (.tmp 29) (.tmp 34) rfl false false (hin 10 29 (by kernel_rfl) (by kernel_rfl)) (fun _ => (hin 15 34 (by kernel_rfl) (by kernel_rfl))) (postc rfl (Kept.refl _ _)) (by simp)
  · intro vs w5 hlen hF _ hk5
    match vs, hlen with
    | [x0, x1, x2, x3, x4, x5, x6, x7, x8, x9, x10, x11, x12, x13, x14, x15, x16], _ =>
    obtain rfl : x0 = _ := hF 0 _ rfl
    obtain rfl : x1 = _ := hF 1 _ rfl
    obtain rfl : x2 = _ := hF 2 _ rfl
    obtain rfl : x3 = _ := hF 3 _ rfl
    obtain rfl : x4 = _ := hF 4 _ rfl
    obtain rfl : x5 = _ := hF 5 _ rfl
    obtain rfl : x6 = _ := hF 6 _ rfl
    obtain rfl : x7 = _ := hF 7 _ rfl
    obtain rfl : x8 = _ := hF 8 _ rfl
    obtain rfl : x9 = _ := hF 9 _ rfl
    obtain rfl : x10 = _ := hF 10 _ rfl
    obtain rfl : x11 = _ := hF 11 _ rfl
    obtain rfl : x12 = _ := hF 12 _ rfl
    obtain rfl : x13 = _ := hF 13 _ rfl
    obtain rfl : x14 = _ := hF 14 _ rfl
    obtain rfl : x15 = _ := hF 15 _ rfl
    obtain rfl : x16 = _ := hF 16 _ rfl
    clear hF
    simp only [List.take_succ_cons, List.take_zero, putAll, Act.put, List.setIfInBounds_toArray, List.set_cons_succ, List.set_cons_zero]
    refine wpAny_done (by kernel_rfl) ?_ _
    replace M := hide ((unhide M).quiet hk5)
    clear hk5
    go_wp2_with (
      first
      | (refine wpLoadA row25 (by rfl) (.tmp 8) (by rfl) b8 0 (by rfl) (verC (sN a) (sB a b)) hvl ((unhide M).blk (b8, 25, verC (sN a) (sB a b)) (by simp)).range ?_)
      | (refine wpStoreA row25 (by rfl) (.tmp 6) (.tmp 37) (by rfl) b6 0 (verC (sN a) (sB a b)) (by rfl) (by rfl) hvl (verC_one _ _) (((unhide M).blk (b6, 25, verC 0 (zs 96)) (by simp)).there (by rw [verC_zero]; omega)) ?_))
    have hb6 := ((unhide M).blk (b6, 25, verC 0 (zs 96)) (by simp))
    have g4 := hb6.put (vs := verC (sN a) (sB a b)) (by rw [verC_zero]; exact hvl.symm)
    exact bodyPost_ret (res15 _ _ _ _ _ rfl rfl hvl g4) rfl ⟨rfl, (unhide M).k.setCells _ _ (by omega)⟩

theorem rget15 (p : Int) (a b : List Int) (ha : Byts 64 a) (hb : Byts 64 b) (w : World) : Calls Tryd.prog 15 #[.int .i64 p, aggV (u8s a), aggV (u8s b)] w fun e w' => e = .returned (.tuple #[aggV (verC (getL p a b).1.1 (getL p a b).1.2), .int .i64 (getL p a b).2]) ∧ Kept [] w w' := by
  by_cases h1 : p < 0
  · have e : getL p a b = ((0, zs 96), 2) := by unfold getL; rw [if_pos (by simp [isPageB]; omega)]
    rw [e]
    exact rget_A p a b (decide_eq_true h1) w
  · by_cases h2 : 16 ≤ p
    · have e : getL p a b = ((0, zs 96), 2) := by unfold getL; rw [if_pos (by simp [isPageB]; omega)]
      rw [e]
      exact rget_B p a b (decide_eq_false h1) (decide_eq_true h2) w
    · have hp : isPageB p = true := by simp [isPageB]; omega
      cases hm : mayB (sN a) (sB a b) with
      | false =>
        rw [rget_bad1 hp hm]
        exact rget_m p a b ha hb hm (decide_eq_false h1) (decide_eq_false h2) w
      | true =>
        have hn := (putL_ok (rput_ok hp hm)).2.2
        by_cases h3 : fstL p (sN a) (sB a b) = a
        · by_cases h4 : sndL p (sN a) (sB a b) = b
          · rw [rget_ok hp hm h3 h4]
            exact rget_g p a b ha hb hm hn (decide_eq_true h3) (decide_eq_true h4) (decide_eq_false h1) (decide_eq_false h2) w
          · rw [rget_bad2 ha hb hp hm (fun h => h4 h.2)]
            exact rget_s p a b ha hb hm hn (decide_eq_true h3) (decide_eq_false h4) (decide_eq_false h1) (decide_eq_false h2) w
        · rw [rget_bad2 ha hb hp hm (fun h => h3 h.1)]
          exact rget_f p a b ha hb hm hn (decide_eq_false h3) (decide_eq_false h1) (decide_eq_false h2) w

end Go.Proofs.YtnflcajidgbbbaaDoor
