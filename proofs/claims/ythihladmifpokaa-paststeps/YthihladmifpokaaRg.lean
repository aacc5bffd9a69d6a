/-
  find, Has, Of, Oldest of none.
-/
import Derived.Test.YthihladmifpokaaRf
import Derived.WalkMore
namespace Go.Proofs.Ythihladmifpokaa
set_option maxRecDepth 100000
set_option linter.unusedSimpArgs false
open Go.RowKit Go.Shelf
attribute [local go_sem] Oper.semAt_some


variable {w W W' V : World} {B c b3 b4 b5 : Nat} {u : Value} {g : FuncId} {cs : Array Value} {k : Int}
set_option maxHeartbeats 8000000 in
theorem find36_z (h : Nil w u) : Calls Try.prog 36 #[u, fnV g cs] w fun e W => e = .returned (.tuple #[aggV mk0.C, .bool false]) ∧ Kept [] w W := by
  obtain ⟨p, rfl⟩ := h.ptr
  have HP := hide h
  have hFw := wideF
  clear h
  refine (callsIn_wide (n := 3)).1 ?_
  refine callsIn_of_wp_marks Try.func36 rfl trivial ?_ rfl
  refine wpIn_wide.2 ?_
  simp only [Try.ntmps36, List.size_toArray, List.length_cons, List.length_nil, Nat.reduceAdd, Nat.reduceSub, Array.replicate_succ, Array.replicate_zero, List.push_toArray, List.append_toArray, List.nil_append, List.cons_append]
  go_wp2_with (
    first
    | (refine wpBoxN rfl (.tmp 1) rfl g cs rfl ?_
       intro W1 b3 e1 B1 K1
       have H3 := hide B1
       have HG3 : Hid (w.heap.size ≤ b3) := by show _ ≤ _; omega
       have HK := hide K1
       clear e1 B1 K1
       refine Stp.go ?_))
  constructor
  go_wp2_with (
    first
    | (refine wpAllocW mk0.C zero54 4 rfl rfl rfl ?_
       intro W2 b4 e2 B2 K2
       have H4 := hide B2
       have HG4 : Hid (b3 < b4 ∧ w.heap.size ≤ b4) := ⟨by have := (unhide H3).lt; omega, by have := (unhide HK).size; omega⟩
       replace H3 := hide ((unhide H3).kept K2 (by simp))
       replace HK := hide ((unhide HK).trans K2)
       clear e2 B2 K2
       refine Stp.go ?_))
  constructor
  go_wp2_with (
    first
    | (refine wpAllocW ([Value.bool false]) zero4 5 rfl rfl rfl ?_
       intro W3 b5 e2 B2 K2
       have HG5 : Hid (b4 < b5) := by have := (unhide H4).lt; show _ < _; omega
       have HS : Hid (Fv w W3 W3.heap.size b3 b4 b5 (fnV g cs) mk0 false) := by
         have h3 := (unhide H3).kept K2 (by simp)
         have h4 := (unhide H4).kept K2 (by simp)
         have h5 := unhide HG5
         have hg := unhide HG4
         have hg3 := unhide HG3
         have hk := (unhide HK).trans K2
         exact ⟨h3, h4, B2, hk, ⟨h3.lt, h4.lt, B2.lt⟩, ⟨hk.size, hg.2, by omega⟩, by omega⟩
       clear e2 B2 K2 H3 H4 HG3 HG4 HG5 HK
       refine Stp.go ?_))
  constructor
  go_wp2_with fail
  go_step3
  go_wp2_with fail
  go_step3
  go_wp2_with (
    first
    | (go_at_call 30
       refine (all30 p _).mono ?_
       rintro e W4 ⟨c, rfl, hc, hg, K4⟩
       have HC := hide hc
       have HB : Hid (W3.heap.size ≤ W4.heap.size) := K4.size
       replace HS := hide ((unhide HS).step0 K4)
       clear hc hg K4
       refine Stp.go ?_))
  constructor
  go_wp2_with fail
  refine (wpIn_wide (n := 3)).1 ?_
  refine wp_rangeE 2 45 c rfl cg45 (fun lp V hk => all45_e 2 lp c _ V ((unhide HC).kept hk (by simp)) ((unhide HP).step ((unhide HS).kp.trans hk))) ?_
  intro D Wd hge hk hD
  have HSZ : Hid (W3.heap.size ≤ D) := Nat.le_trans (unhide HB) hge
  have HS2 := hide ((unhide HS).step0 hk)
  have HD := hide hD
  clear hk hge hD HS HB
  go_wp2_with fail
  have hM0 : Mm [b4, b5] Wd Wd [(b4, 54, mk0.C), (b5, 4, [.bool false])] := Mm.two (unhide HS2).h4 (unhide HS2).h5 (unhide HS2).ne.2.2
  refine wp_region_any mixed (wpAny_gx 4 rfl (by kernel_rfl) [some (aggV mk0.C), some (.bool false), some undef, some undef] rfl (by kernel_rfl) (fun _ _ W => Mm [b4, b5] Wd W [(b4, 54, mk0.C), (b5, 4, [.bool false])]) hM0.drew ?_ ?_)
  · intro ix o' hi ho a' w2 l vs hls hlf hJ hout hin hdep hnot
    match ix, ho with
    | 0, ho =>
      obtain rfl := Option.some.inj ho
      have e0 := hout 4 (by kernel_rfl)
      replace e0 : a'.eval (.tmp 4) = P0 b4 := e0.trans rfl
      exact wp_loadA row54 (.tmp 4) rfl b4 0 e0 mk0.C rfl (hJ.at 0 _ rfl).range ⟨_, rfl, told_of rfl, hJ⟩
    | 1, ho =>
      obtain rfl := Option.some.inj ho
      have e0 := hout 5 (by kernel_rfl)
      replace e0 : a'.eval (.tmp 5) = P0 b5 := e0.trans rfl
      exact o_load4 (.tmp 5) rfl _ _ e0 (fits_cell (hJ.at 1 _ rfl) 0 _ rfl) ⟨_, rfl, told_of rfl, hJ⟩
    | 2, ho =>
      obtain rfl := Option.some.inj ho
      have e0 := hout 4 (by kernel_rfl)
      replace e0 : a'.eval (.tmp 4) = P0 b4 := e0.trans rfl
      have e1 : a'.eval (.tmp 14) = aggV mk0.C := by have h9 := hin 0 14 (by kernel_rfl) (by kernel_rfl); exact h9.1.trans (told_is _ h9.2 rfl)
      exact o_stN row54 (.tmp 4) (.tmp 14) rfl rfl b4 0 0 mk0.C e0 e1 rfl mk0.one hJ rfl (by simp [Mk.len]) (fun W hB => hB.put rfl) (fun W hM => ⟨undef, rfl, told_of rfl, hM⟩)
    | 3, ho =>
      obtain rfl := Option.some.inj ho
      have e0 := hout 5 (by kernel_rfl)
      replace e0 : a'.eval (.tmp 5) = P0 b5 := e0.trans rfl
      have e1 : a'.eval (.tmp 15) = .bool false := by have h9 := hin 1 15 (by kernel_rfl) (by kernel_rfl); exact h9.1.trans (told_is _ h9.2 rfl)
      exact o_st1 size4 (.tmp 5) (.tmp 15) rfl rfl b5 0 1 (.bool false) ⟨rfl, rfl⟩ e0 e1 hJ rfl (by simp) rfl (fun W hM => ⟨undef, rfl, told_of rfl, hM⟩)
  intro l_ vs4 V4 hl hJ htold
  have t0 : vs4 0 = aggV mk0.C := told_is _ (htold 0 (by decide)) rfl
  have t1 : vs4 1 = .bool false := told_is _ (htold 1 (by decide)) rfl
  rw [show (List.range 4).map vs4 = [vs4 0, vs4 1, vs4 2, vs4 3] from rfl]
  simp only [t0, t1, putAll, Act.put, List.setIfInBounds_toArray, List.set_cons_succ, List.set_cons_zero]
  clear t0 t1 htold
  have hS := unhide HS2
  have hD : V4.heap[D]? = some (Obj.deferred (some [])) := by
    refine hJ.kept.heap (unhide HD) ?_
    have h1 := hS.lt
    have h2 := unhide HSZ
    simp
    omega
  have hSV : Fv w V4 W3.heap.size b3 b4 b5 (fnV g cs) mk0 false := ⟨hS.h3.kept hJ.kept (by have := hS.ne; simp; omega), hJ.at 0 _ rfl, hJ.at 1 _ rfl, hS.kp.fresh hJ.kept (by intro i hi hl; have := hS.ge; simp at hi; omega), hS.lt, hS.ge, hS.ne⟩
  have HSV := hide hSV
  have HDV := hide hD
  have HGD : Hid (w.heap.size ≤ D) := Nat.le_trans hS.ge.1 (unhide HSZ)
  clear hJ hl hS hD hSV hM0 HS2 HD
  go_wp2_with fail
  rw [Exit.noGoto_ret]
  exact find_leaves rfl rfl (unhide HSV) (unhide HDV) (unhide HGD)

set_option maxHeartbeats 2000000 in
theorem has16_z (h : Nil w u) : Calls Try.prog 16 #[u, .int .i64 k] w fun e W => e = .returned (.bool false) ∧ Kept [] w W := by
  have HP := hide h
  clear h
  go_enter Try.func16, Try.ntmps16
  go_wp2_with (
    first
    | (refine wpBox1 rfl (.tmp 1) rfl k rfl ?_
       intro W1 b3 e1 B1 K1
       have HK := hide K1
       clear e1 B1 K1
       refine Stp.go ?_))
  constructor
  go_wp2_with (
    first
    | (go_at_call 36
       refine (find36_z ((unhide HP).step (unhide HK))).mono ?_
       rintro e W2 ⟨rfl, K2⟩
       replace HK := hide ((unhide HK).trans K2)
       clear K2
       refine Stp.go ?_))
  constructor
  go_wp2_with (
    first
    | (refine wpNew row54 mk0.C rfl zero54 5 rfl rfl rfl (.tmp 11) rfl rfl rfl mk0.C rfl mk0.one rfl rfl ?_
       intro W3 y e2 B2 K2
       replace HK := hide ((unhide HK).trans K2)
       clear e2 B2 K2
       refine Stp.go ?_))
  constructor
  go_wp2_with fail
  go_ret
  exact ⟨rfl, unhide HK⟩
set_option maxHeartbeats 2000000 in
theorem of29_z (h : Nil w u) : Calls Try.prog 29 #[u, .int .i64 k] w fun e W => e = .returned (.slice none 0 0) ∧ Kept [] w W := by
  have HP := hide h
  clear h
  go_enter Try.func29, Try.ntmps29
  go_wp2_with (
    first
    | (refine wpBox1 rfl (.tmp 1) rfl k rfl ?_
       intro W1 b3 e1 B1 K1
       have HK := hide K1
       clear e1 B1 K1
       refine Stp.go ?_))
  constructor
  go_wp2_with (
    first
    | (go_at_call 43
       refine (those43_z ((unhide HP).step (unhide HK)) _).mono ?_
       rintro e W2 ⟨rfl, K2⟩
       replace HK := hide ((unhide HK).trans K2)
       clear K2
       refine Stp.go ?_))
  constructor
  go_wp2_with fail
  go_ret
  exact ⟨rfl, unhide HK⟩
set_option maxHeartbeats 2000000 in
theorem oldest20_z (h : Nil w u) : Calls Try.prog 20 #[u] w fun e W => e = .returned (.tuple #[aggV mk0.C, .bool false]) ∧ Kept [] w W := by
  have HP := hide h
  clear h
  go_enter Try.func20, Try.ntmps20
  go_wp2_with (
    first
    | (refine wpAllocW mk0.C zero54 2 rfl rfl rfl ?_
       intro W1 z e2 B2 K2
       have HZ := hide B2
       have HG : Hid (w.heap.size ≤ z) := by show _ ≤ _; omega
       have HK := hide K2
       clear e2 B2 K2
       refine Stp.go ?_))
  constructor
  go_wp2_with (
    first
    | (go_at_call 15
       refine (bound15_z (F := []) ((unhide HP).step (unhide HK)) (Rw.nil _) 2147483647).mono ?_
       rintro e W2 ⟨rfl, K2⟩
       replace HK := hide ((unhide HK).trans K2)
       replace HZ := hide ((unhide HZ).kept K2 (by simp))
       clear K2
       refine Stp.go ?_))
  constructor
  go_wp2_with (
    first
    | (refine wpVar (.int .i64 0) (.int .i64 (boundF 2147483647 [])) zero2w (st1 size2 ⟨rfl, rfl⟩) 4 (by rfl) (by rfl) (by rfl) (.tmp 6) (by rfl) (by rfl) (by rfl) (by kernel_rfl) (by rfl) ?_
       intro W3 b3 e2 B2 K2
       replace HK := hide ((unhide HK).trans K2)
       replace HZ := hide ((unhide HZ).kept K2 (by simp))
       clear e2 B2 K2
       refine Stp.go ?_))
  constructor
  go_wp2_with (
    first
    | (go_at_call 36
       refine (find36_z ((unhide HP).step (unhide HK))).mono ?_
       rintro e W4 ⟨rfl, K2⟩
       replace HZ := hide ((unhide HZ).kept K2 (by simp))
       replace HK := hide ((unhide HK).trans K2)
       clear K2
       refine Stp.go ?_))
  constructor
  go_wp2_with (
    first
    | (refine wpStoreA row54 rfl (.tmp 2) (.tmp 10) rfl z 0 mk0.C rfl rfl rfl mk0.one ((unhide HZ).there (Nat.le_refl _)) ?_
       obtain ⟨W5, hW⟩ : ∃ W, W = W4.setCells z 0 mk0.C := ⟨_, rfl⟩
       have HB : Hid (Blk W5 z 54 mk0.C) := by rw [hW]; exact (unhide HZ).put rfl
       have HKF : Hid (Kept [] w W5) := by rw [hW]; exact (unhide HK).fresh (X := [z]) ((Kept.refl _ _).setCells _ _ (by simp)) (fun i hi hl => by simp at hi; have := unhide HG; omega)
       rw [← hW]
       clear hW
       refine Stp.go ?_))
  constructor
  go_wp2_with fail
  refine bodyPost_ret (res20 _ _ _ _ _ rfl rfl rfl (unhide HB)) rfl ?_
  exact ⟨rfl, unhide HKF⟩

end Go.Proofs.Ythihladmifpokaa
