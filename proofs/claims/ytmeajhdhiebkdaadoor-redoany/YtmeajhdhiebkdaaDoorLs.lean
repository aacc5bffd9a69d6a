/-
  Open of no device; the laws' job.
-/
import Derived.Test.YtmeajhdhiebkdaaDoorLq
namespace Go.Proofs.YtmeajhdhiebkdaaDoor
set_option maxRecDepth 100000
open Go.RowKit

set_option maxHeartbeats 4000000 in
theorem open_z (p : Option Addr) (J : Ar.Job) (nd ep : Int) (w : World) (h : Dz p w) : Calls Tryd.prog 11 #[.pointer p, aggV (Ar.jobC J), .int .i64 nd, .int .i64 ep] w fun e w' => e = .returned (.tuple #[.pointer none, .int .i64 1]) ∧ Kept [] w w' := by
  obtain ⟨may, hmay⟩ : ∃ x, x = decide (1 ≤ ep ∧ ep ≤ 2147483647) := ⟨_, rfl⟩
  have P32 := hide (fun W => from32 1 ep 2147483647 W)
  rw [← hmay] at P32
  have P31 := hide (fun W (hk : Kept [] w W) => look_z p J nd may W (h.kept hk))
  clear h hmay
  go_enter Tryd.func11, Tryd.ntmps11
  go_wp2_with (
    first
    | (refine wpBoxV (by rfl) (.tmp 1) (by rfl) (Ar.jobC J) (by kernel_rfl) ?_
       intro V t5 e5 B5 K5
       have H5 := hide B5
       have HK := hide K5
       clear e5 B5 K5
       refine Stp.go ?_))
  constructor
  go_wp2_with fail
  refine wp_region_any mixed (wpAny_gx 13 rfl (by kernel_rfl) [some (.pointer p), some (aggV (Ar.jobC J)), some (.int .i64 nd), some (.int .i64 ep), some (.bool may), some (.tuple #[.int .i64 0, .slice none 0 0, .int .i64 1]), some (.tuple #[.int .i64 0, .slice none 0 0, .int .i64 1]), some (.int .i64 0), some (.slice none 0 0), some (.int .i64 1), some (.int .i64 0), some (.slice none 0 0), some (.int .i64 1)] rfl (by kernel_rfl) (fun l_ vs W => (S0 V) (fun i => l_.getD i false) vs W) (⟨rfl, rfl, rfl, Nat.le_refl _, fun _ _ _ => rfl⟩) ?_ ?_)
  · intro ix o' hi ho a' w2 l_ vs hls hlf hJ hout hin hdep hnot
    match ix, ho with
    | 0, ho =>
      obtain rfl := Option.some.inj ho
      have e0 := hout 0 (by kernel_rfl)
      replace e0 : a'.eval (.tmp 0) = _ := e0.trans rfl
      exact wp_move (.tmp 0) rfl _ e0 ⟨_, rfl, told_of rfl, keepG (St := (S0 V)) [] S0.loc (by omega) (by decide) hJ⟩
    | 1, ho =>
      obtain rfl := Option.some.inj ho
      have e0 := hout 5 (by kernel_rfl)
      replace e0 : a'.eval (.tmp 5) = _ := e0.trans rfl
      exact wp_loadA row23 (.tmp 5) rfl t5 0 e0 (Ar.jobC J) rfl ((unhide H5).kept hJ (by simp)).range ⟨_, rfl, told_of rfl, keepG (St := (S0 V)) [] S0.loc (by omega) (by decide) hJ⟩
    | 2, ho =>
      obtain rfl := Option.some.inj ho
      have e0 := hout 2 (by kernel_rfl)
      replace e0 : a'.eval (.tmp 2) = _ := e0.trans rfl
      exact wp_move (.tmp 2) rfl _ e0 ⟨_, rfl, told_of rfl, keepG (St := (S0 V)) [] S0.loc (by omega) (by decide) hJ⟩
    | 3, ho =>
      obtain rfl := Option.some.inj ho
      have e0 := hout 3 (by kernel_rfl)
      replace e0 : a'.eval (.tmp 3) = _ := e0.trans rfl
      exact wp_move (.tmp 3) rfl _ e0 ⟨_, rfl, told_of rfl, keepG (St := (S0 V)) [] S0.loc (by omega) (by decide) hJ⟩
    | 4, ho =>
      obtain rfl := Option.some.inj ho
      have e0 : a'.eval (.tmp 17) = .int .i64 ep := by have h9 := hin 3 17 (by kernel_rfl) (by kernel_rfl); exact h9.1.trans (told_is _ h9.2 rfl)
      refine wp_callF 32 _ _ rfl #[.int .i64 1, .int .i64 ep, .int .i64 2147483647] (by simp only [List.map_toArray, List.map_cons, List.map_nil, e0]; rfl) (cg32 _ _) ((unhide P32 w2).mono ?_)
      rintro e w3 ⟨rfl, hw3⟩
      obtain rfl := hw3.symm
      exact ⟨_, rfl, _, rfl, told_of rfl, keepG (St := (S0 V)) [] S0.loc (by omega) (by decide) hJ⟩
    | 5, ho =>
      obtain rfl := Option.some.inj ho
      have e0 : a'.eval (.tmp 14) = .pointer p := by have h9 := hin 0 14 (by kernel_rfl) (by kernel_rfl); exact h9.1.trans (told_is _ h9.2 rfl)
      have e1 : a'.eval (.tmp 15) = aggV (Ar.jobC J) := by have h9 := hin 1 15 (by kernel_rfl) (by kernel_rfl); exact h9.1.trans (told_is _ h9.2 rfl)
      have e2 : a'.eval (.tmp 16) = .int .i64 nd := by have h9 := hin 2 16 (by kernel_rfl) (by kernel_rfl); exact h9.1.trans (told_is _ h9.2 rfl)
      have e3 : a'.eval (.tmp 18) = .bool may := by have h9 := hin 4 18 (by kernel_rfl) (by kernel_rfl); exact h9.1.trans (told_is _ h9.2 rfl)
      refine wp_callF 31 _ _ rfl #[.pointer p, aggV (Ar.jobC J), .int .i64 nd, .bool may] (by simp [e0, e1, e2, e3]) (cg31 _ _) ((unhide P31 w2 ((unhide HK).trans hJ)).mono ?_)
      rintro e w3 ⟨rfl, hk3⟩
      exact ⟨_, rfl, _, rfl, told_of rfl, keepG (St := (S0 V)) [] S0.loc (by omega) (by decide) (Kept.trans hJ hk3)⟩
    | 6, ho =>
      obtain rfl := Option.some.inj ho
      have e0 : a'.eval (.tmp 19) = .tuple #[.int .i64 0, .slice none 0 0, .int .i64 1] := by have h9 := hin 5 19 (by kernel_rfl) (by kernel_rfl); exact h9.1.trans (told_is _ h9.2 rfl)
      exact wp_move (.tmp 19) rfl _ e0 ⟨_, rfl, told_of rfl, keepG (St := (S0 V)) [] S0.loc (by omega) (by decide) hJ⟩
    | 7, ho =>
      obtain rfl := Option.some.inj ho
      have e0 : a'.eval (.tmp 13) = .tuple #[.int .i64 0, .slice none 0 0, .int .i64 1] := by have h9 := hin 6 13 (by kernel_rfl) (by kernel_rfl); exact h9.1.trans (told_is _ h9.2 rfl)
      exact o_ext3_0 (.tmp 13) rfl _ _ _ e0 ⟨_, rfl, told_of rfl, keepG (St := (S0 V)) [] S0.loc (by omega) (by decide) hJ⟩
    | 8, ho =>
      obtain rfl := Option.some.inj ho
      have e0 : a'.eval (.tmp 13) = .tuple #[.int .i64 0, .slice none 0 0, .int .i64 1] := by have h9 := hin 6 13 (by kernel_rfl) (by kernel_rfl); exact h9.1.trans (told_is _ h9.2 rfl)
      exact o_ext3_1 (.tmp 13) rfl _ _ _ e0 ⟨_, rfl, told_of rfl, keepG (St := (S0 V)) [] S0.loc (by omega) (by decide) hJ⟩
    | 9, ho =>
      obtain rfl := Option.some.inj ho
      have e0 : a'.eval (.tmp 13) = .tuple #[.int .i64 0, .slice none 0 0, .int .i64 1] := by have h9 := hin 6 13 (by kernel_rfl) (by kernel_rfl); exact h9.1.trans (told_is _ h9.2 rfl)
      exact o_ext3_2 (.tmp 13) rfl _ _ _ e0 ⟨_, rfl, told_of rfl, keepG (St := (S0 V)) [] S0.loc (by omega) (by decide) hJ⟩
    | 10, ho =>
      obtain rfl := Option.some.inj ho
      have e0 : a'.eval (.tmp 20) = .int .i64 0 := by have h9 := hin 7 20 (by kernel_rfl) (by kernel_rfl); exact h9.1.trans (told_is _ h9.2 rfl)
      exact wp_assignV (.tmp 20) rfl _ e0 ⟨_, rfl, told_of rfl, keepG (St := (S0 V)) [] S0.loc (by omega) (by decide) hJ⟩
    | 11, ho =>
      obtain rfl := Option.some.inj ho
      have e0 : a'.eval (.tmp 21) = .slice none 0 0 := by have h9 := hin 8 21 (by kernel_rfl) (by kernel_rfl); exact h9.1.trans (told_is _ h9.2 rfl)
      exact wp_assignV (.tmp 21) rfl _ e0 ⟨_, rfl, told_of rfl, keepG (St := (S0 V)) [] S0.loc (by omega) (by decide) hJ⟩
    | 12, ho =>
      obtain rfl := Option.some.inj ho
      have e0 : a'.eval (.tmp 22) = .int .i64 1 := by have h9 := hin 9 22 (by kernel_rfl) (by kernel_rfl); exact h9.1.trans (told_is _ h9.2 rfl)
      exact wp_assignV (.tmp 22) rfl _ e0 ⟨_, rfl, told_of rfl, keepG (St := (S0 V)) [] S0.loc (by omega) (by decide) hJ⟩
  intro l_ vs9 V9 hl hJ htold
  have t0 : vs9 0 = .pointer p := told_is _ (htold 0 (by decide)) rfl
  have t1 : vs9 1 = aggV (Ar.jobC J) := told_is _ (htold 1 (by decide)) rfl
  have t2 : vs9 2 = .int .i64 nd := told_is _ (htold 2 (by decide)) rfl
  have t3 : vs9 3 = .int .i64 ep := told_is _ (htold 3 (by decide)) rfl
  have t4 : vs9 4 = .bool may := told_is _ (htold 4 (by decide)) rfl
  have t5 : vs9 5 = .tuple #[.int .i64 0, .slice none 0 0, .int .i64 1] := told_is _ (htold 5 (by decide)) rfl
  have t6 : vs9 6 = .tuple #[.int .i64 0, .slice none 0 0, .int .i64 1] := told_is _ (htold 6 (by decide)) rfl
  have t7 : vs9 7 = .int .i64 0 := told_is _ (htold 7 (by decide)) rfl
  have t8 : vs9 8 = .slice none 0 0 := told_is _ (htold 8 (by decide)) rfl
  have t9 : vs9 9 = .int .i64 1 := told_is _ (htold 9 (by decide)) rfl
  have t10 : vs9 10 = .int .i64 0 := told_is _ (htold 10 (by decide)) rfl
  have t11 : vs9 11 = .slice none 0 0 := told_is _ (htold 11 (by decide)) rfl
  have t12 : vs9 12 = .int .i64 1 := told_is _ (htold 12 (by decide)) rfl
  rw [show (List.range 13).map vs9 = [vs9 0, vs9 1, vs9 2, vs9 3, vs9 4, vs9 5, vs9 6, vs9 7, vs9 8, vs9 9, vs9 10, vs9 11, vs9 12] from rfl]
  simp only [t0, t1, t2, t3, t4, t5, t6, t7, t8, t9, t10, t11, t12, putAll, Act.put, List.setIfInBounds_toArray, List.set_cons_succ, List.set_cons_zero]
  clear t0 t1 t2 t3 t4 t5 t6 t7 t8 t9 t10 t11 t12 htold
  have hk0 : Kept [] V V9 := hJ
  replace HK := hide ((unhide HK).trans hk0)
  clear hk0 hJ hl
  go_wp2_with fail
  go_ret2
  exact ⟨rfl, unhide HK⟩
theorem res22 (w : World) (z : Nat) (vs : List Value) (tmps : Array Value) (h0 : tmps[0]?.getD undef = P0 z) (hl : vs.length = 5) (hb : Blk w z 23 vs) : (results Tryd.f22 tmps).run Tryd.prog w = .ok (aggV vs) w := by
  have := loadV row23 hl hb
  simp [results, Tryd.results22, h0, this, asAddr]
def lawJ : Ar.Job := ⟨2, 1, 1, 4, 2⟩
theorem build23c (w : World) : (Instr.build 23 #[(0, .int .i64 2), (1, .int .i64 1), (2, .int .i64 1), (3, .int .i64 4), (4, .int .i64 2)]).run Tryd.prog w = .ok (aggV (Ar.jobC lawJ)) w := by kernel_rfl
theorem job22 (w : World) : Calls Tryd.prog 22 #[] w fun e w' => e = .returned (aggV (Ar.jobC lawJ)) ∧ Kept [] w w' := by
  go_enter Tryd.func22, Tryd.ntmps22
  go_wp2_with (
    first
    | (refine wpAllocW (Ar.jobC ⟨0, 0, 0, 0, 0⟩) (fun w => Ar.zero23 w) 0 (by rfl) (by rfl) (by rfl) ?_
       intro W2 zb ez BZ K2
       have HZ := hide BZ
       have HK := hide K2
       have HE : Hid (w.heap.size ≤ zb) := by rw [ez]; exact (Nat.le_refl _ : w.heap.size ≤ w.heap.size)
       clear ez BZ K2
       refine Stp.go ?_))
  constructor
  go_wp2_with (
    first
    | (refine wpBuildP (by rfl) _ (by rfl) #[(0, .int .i64 2), (1, .int .i64 1), (2, .int .i64 1), (3, .int .i64 4), (4, .int .i64 2)] (by simp only [List.map_toArray, List.map_cons, List.map_nil]; rfl) (Ar.jobC lawJ) (build23c _) ?_
       refine Stp.go ?_))
  constructor
  go_wp2_with (
    first
    | (refine wpStoreA row23 (by rfl) (.tmp 0) (.tmp 1) (by rfl) zb 0 (Ar.jobC lawJ) (by kernel_rfl) (by kernel_rfl) rfl (Ar.jobC_one _) ((unhide HZ).there (by decide)) ?_))
  have g4 := (unhide HZ).put (vs := Ar.jobC lawJ) rfl
  have hz2 := unhide HE
  exact bodyPost_ret (res22 _ _ _ _ rfl rfl g4) rfl ⟨rfl, (unhide HK).setCells _ _ (by omega)⟩

end Go.Proofs.YtmeajhdhiebkdaaDoor
