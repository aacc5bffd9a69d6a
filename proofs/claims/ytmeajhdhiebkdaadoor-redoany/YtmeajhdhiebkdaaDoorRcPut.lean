/-
  The walk of Put: a record's two sectors.
-/
import Derived.Test.YtmeajhdhiebkdaaDoorRcKit
namespace Go.Proofs.YtmeajhdhiebkdaaDoor.Rc
set_option maxRecDepth 100000
open Go.RowKit

theorem cf32 (vs : Array Value) (w : World) : (callFunc 62 vs).run Tryd.prog w = .ok (.enter 62 vs) w := by kernel_rfl
/-- What Put tells. -/
def putR (r : Rec) : List Int × Int := if isRec r then (laidR r 0 ++ laidR r 1, 0) else (zs 128, 2)
theorem putR_byts {r : Rec} (h : Byts 96 r.bd) : Byts 128 (putR r).1 := by
  unfold putR
  split
  · exact (laidR_byts (by omega) h).app (laidR_byts (by omega) h)
  · exact zs_byts 128
theorem res8 (w : World) (z : Nat) (vs : List Value) (e : Int) (tmps : Array Value) (h4 : tmps[2]?.getD undef = P0 z) (h5 : tmps[3]?.getD undef = .int .i64 e) (hl : vs.length = 128) (hb : Blk w z 81 vs) : (results Tryd.f35 tmps).run Tryd.prog w = .ok (.tuple #[aggV vs, .int .i64 e]) w := by
  have := loadV row30 hl hb
  simp [results, Tryd.results35, h4, h5, this, asAddr]
theorem vs5 {vs : List Value} (h : vs.length = 5) : ∃ a b c d e, vs = [a, b, c, d, e] := by
  match vs, h with
  | [a, b, c, d, e], _ => exact ⟨a, b, c, d, e, rfl⟩
theorem wp_buildP {o : Oper} {a : Act} {w : World} {K : Act → World → Prop} {Q : Exit → Act → World → Prop} {T : Nat} (parts : Array (Nat × Operand)) (ho : o.op = .build T parts) (ps : Array (Nat × Value)) (hp : (parts.map fun (i, x) => (i, a.eval x)) = ps) (vs : List Value)
    (hr : (Instr.build T ps).run Tryd.prog w = .ok (aggV vs) w) (h : K (a.put o.dst (aggV vs)) w) : o.wp Tryd.prog a w K Q := by
  subst hp
  unfold Oper.wp execOp
  simp only [ho, Sem.run_bind, hr, Result.andThen_ok]
  exact h

theorem wp_assign {o : Oper} {a : Act} {w : World} {K : Act → World → Prop} {Q : Exit → Act → World → Prop} (x : Operand) (ho : o.op = .assign x) (h : K (a.put o.dst (a.eval x)) w) : o.wp Tryd.prog a w K Q := by
  unfold Oper.wp execOp
  simp only [ho]
  exact h

set_option maxHeartbeats 1000000 in
set_option maxRecDepth 100000 in
theorem put8 (r : Rec) (hr : Byts 96 r.bd) (w : World) : Calls Tryd.prog 35 #[aggV (recC r)] w fun e w' => e = .returned (.tuple #[aggV (u8s (putR r).1), .int .i64 (putR r).2]) ∧ Kept [] w w' := by
  have l0 := recC_len hr.len
  have lz : (u8s (zs 128)).length = 128 := by simp [u8s_len, zs]
  cases hR : isRec r with
  | false =>
    have hp : putR r = (zs 128, 2) := by simp [putR, hR]
    rw [hp]
    go_enter Tryd.func35, Tryd.ntmps35
    go_wp2_with (
      first
      | (refine wpBoxV rfl (.tmp 0) rfl (recC r) rfl ?_
         intro W0 b0 e0 B0 K0
         have A0 := hide B0
         have KA := hide K0
         clear e0 B0 K0)
      | (refine wpAllocW (u8s (zs 128)) zero30 2 rfl rfl rfl ?_
         intro W2 zb ez BZ1 K2
         have d0 := hide ((unhide A0).kept K2 (by simp))
         have dz := hide BZ1
         have nz : Hid (w.heap.size ≤ zb) := by have := (unhide KA).size; show _ ≤ _; omega
         have dk := hide ((unhide KA).trans K2)
         have hI := hide (isRecord31 r W2)
         rw [hR] at hI
         clear ez BZ1 K2 A0 KA)
      | (refine wpLoadA row25 rfl (.tmp 1) rfl b0 0 rfl (recC r) l0 (unhide d0).range ?_)
      | (go_at_call 61; refine (unhide hI).mono ?_; rintro e W3 ⟨rfl, K3⟩
         have dz2 := hide ((unhide dz).kept K3 (by simp))
         have dk2 := hide ((unhide dk).trans K3)
         clear dz d0 dk K3 hI)
      | (refine wpBuildZ (u8s (zs 128)) build30 rfl rfl ?_)
      | (refine wpStoreA row30 rfl (.tmp 2) (.tmp 7) rfl zb 0 (u8s (zs 128)) rfl rfl lz (u8s_one _) ((unhide dz2).there (by rw [lz]; omega)) ?_))
    have g4 := (unhide dz2).put (vs := u8s (zs 128)) rfl
    have nz2 := unhide nz
    exact bodyPost_ret (res8 _ _ _ _ _ rfl rfl lz g4) rfl ⟨rfl, (unhide dk2).setCells _ _ (by omega)⟩
  | true =>
    have hp : putR r = (laidR r 0 ++ laidR r 1, 0) := by simp [putR, hR]
    rw [hp]
    have la := (laidR_byts (r := r) (h := 0) (by omega) hr).len
    have lb := (laidR_byts (r := r) (h := 1) (by omega) hr).len
    have lab : (u8s (laidR r 0 ++ laidR r 1)).length = 128 := by rw [u8s_len, List.length_append, la, lb]
    go_enter Tryd.func35, Tryd.ntmps35
    go_wp2_with (
      first
      | (refine wpBoxV rfl (.tmp 0) rfl (recC r) rfl ?_
         intro W0 b0 e0 B0 K0
         have A0 := hide B0
         have KA := hide K0
         clear e0 B0 K0)
      | (refine wpAllocW (u8s (zs 128)) zero30 2 rfl rfl rfl ?_
         intro W2 zb ez BZ1 K2
         have d0 := hide ((unhide A0).kept K2 (by simp))
         have dz := hide BZ1
         have nz : Hid (w.heap.size ≤ zb) := by have := (unhide KA).size; show _ ≤ _; omega
         have dk := hide ((unhide KA).trans K2)
         have hI := hide (isRecord31 r W2)
         rw [hR] at hI
         clear ez BZ1 K2 A0 KA)
      | (refine wpLoadA row25 rfl (.tmp 1) rfl b0 0 rfl (recC r) l0 (unhide d0).range ?_)
      | (go_at_call 61; refine (unhide hI).mono ?_; rintro e W3 ⟨rfl, K3⟩
         have dz2 := hide ((unhide dz).kept K3 (by simp))
         have d02 := hide ((unhide d0).kept K3 (by simp))
         have dk2 := hide ((unhide dk).trans K3)
         clear dz d0 dk K3 hI))
    refine wp_region_prefix mixed 5 2 rfl (by kernel_rfl) (tab [.is (aggV (recC r)), .is (aggV (u8s (laidR r 0))), .is (aggV (recC r)), .is (aggV (u8s (laidR r 1))), .is (aggV (u8s (laidR r 0 ++ laidR r 1)))]) (apartE []) (tab_kept _) (by kernel_rfl) ?_ ?_
    · intro j o hj ho a w2 hout hin hk
      match j, ho with
      | 0, ho =>
        obtain rfl := Option.some.inj ho
        exact wp_loadA row25 (.tmp 1) rfl b0 0 ((hout 1 (by kernel_rfl)).trans rfl) (recC r) l0 ((unhide d02).kept hk (by simp)).range ⟨_, rfl, rfl, Kept.refl _ _, fun i u _ _ _ => apart_no (by decide) i u _⟩
      | 1, ho =>
        obtain rfl := Option.some.inj ho
        have e0 : a.eval (.tmp 8) = aggV (recC r) := hin 0 8 (by kernel_rfl) (by kernel_rfl)
        refine wp_callF 62 _ _ rfl #[aggV (recC r), .int .i64 (0 : Nat)] (by simp [e0]; rfl) (cf32 _ _) ((laid32 r hR hr 0 (by omega) w2).mono ?_)
        rintro e w3 ⟨rfl, hk3⟩
        exact ⟨_, rfl, _, rfl, rfl, hk3, fun i u _ _ _ => apart_no (by decide) i u _⟩
      | 2, ho =>
        obtain rfl := Option.some.inj ho
        exact wp_loadA row25 (.tmp 1) rfl b0 0 ((hout 1 (by kernel_rfl)).trans rfl) (recC r) l0 ((unhide d02).kept hk (by simp)).range ⟨_, rfl, rfl, Kept.refl _ _, fun i u _ _ _ => apart_no (by decide) i u _⟩
      | 3, ho =>
        obtain rfl := Option.some.inj ho
        have e0 : a.eval (.tmp 10) = aggV (recC r) := hin 2 10 (by kernel_rfl) (by kernel_rfl)
        refine wp_callF 62 _ _ rfl #[aggV (recC r), .int .i64 (1 : Nat)] (by simp [e0]; rfl) (cf32 _ _) ((laid32 r hR hr 1 (by omega) w2).mono ?_)
        rintro e w3 ⟨rfl, hk3⟩
        exact ⟨_, rfl, _, rfl, rfl, hk3, fun i u _ _ _ => apart_no (by decide) i u _⟩
      | 4, ho =>
        obtain rfl := Option.some.inj ho
        have e0 : a.eval (.tmp 9) = aggV (u8s (laidR r 0)) := hin 1 9 (by kernel_rfl) (by kernel_rfl)
        have e1 : a.eval (.tmp 11) = aggV (u8s (laidR r 1)) := hin 3 11 (by kernel_rfl) (by kernel_rfl)
        exact wp_buildP _ rfl #[(0, aggV (u8s (laidR r 0))), (1, aggV (u8s (laidR r 1)))] (by simp [e0, e1]) (u8s (laidR r 0 ++ laidR r 1)) (build30p _ _ _ la lb) ⟨_, rfl, rfl, Kept.refl _ _, fun i u _ _ _ => apart_no (by decide) i u _⟩
    · intro vs w3 hlen hF hE hk
      obtain ⟨x0, x1, x2, x3, x4, rfl⟩ := vs5 hlen
      obtain rfl : x0 = aggV (recC r) := hF 0 _ rfl
      obtain rfl : x1 = aggV (u8s (laidR r 0)) := hF 1 _ rfl
      obtain rfl : x2 = aggV (recC r) := hF 2 _ rfl
      obtain rfl : x3 = aggV (u8s (laidR r 1)) := hF 3 _ rfl
      obtain rfl : x4 = aggV (u8s (laidR r 0 ++ laidR r 1)) := hF 4 _ rfl
      have dz3 := hide ((unhide dz2).kept hk (by simp))
      have dk3 := hide ((unhide dk2).trans hk)
      clear hF hE hk dz2 dk2 d02
      simp only [List.take_succ_cons, List.take_zero, putAll, Act.put, List.setIfInBounds_toArray, List.set_cons_succ, List.set_cons_zero]
      refine wpAny_all (rs := [5]) (by kernel_rfl) (by simp) ?_
      intro i hi
      obtain rfl : i = 5 := by simpa using hi
      refine wpOp_of rfl rfl (wp_storeN row30 (.tmp 2) (.tmp 12) rfl rfl zb 0 (u8s (laidR r 0 ++ laidR r 1)) rfl rfl lab (u8s_one _) ((unhide dz3).there (by rw [lz]; omega)) ?_)
      refine wpAny_all (rs := [6]) (by kernel_rfl) (by simp) ?_
      intro i hi
      obtain rfl : i = 6 := by simpa using hi
      refine wpOp_of rfl rfl (wp_assign (.const (.int .i64 0)) rfl ?_)
      refine wpAny_done (by kernel_rfl) ?_ _
      have nz2 := unhide nz
      have g4 : Hid (Blk (w3.setCells zb 0 (u8s (laidR r 0 ++ laidR r 1))) zb 81 (u8s (laidR r 0 ++ laidR r 1))) := (unhide dz3).put (by rw [lz, lab])
      have gk : Hid (Kept [] w (w3.setCells zb 0 (u8s (laidR r 0 ++ laidR r 1)))) := (unhide dk3).setCells _ _ (by omega)
      generalize w3.setCells zb 0 (u8s (laidR r 0 ++ laidR r 1)) = W5 at g4 gk ⊢
      clear dz3 dk3
      go_wp2_with fail
      exact bodyPost_ret (res8 _ _ _ _ _ rfl rfl lab (unhide g4)) rfl ⟨rfl, unhide gk⟩

end Go.Proofs.YtmeajhdhiebkdaaDoor.Rc
