/-
  The walk of ends: of each area, the sector behind its last one; and of start.
-/
import Derived.Test.YtcfoebpbbmnleaaSmall
namespace Go.Proofs.Ytcfoebpbbmnleaa
open Go.RowKit

theorem cf26 (vs : Array Value) (w : World) : (callFunc 26 vs).run Try.prog w = .ok (.enter 26 vs) w := by kernel_rfl
section
variable {o : Oper} {a : Act} {w : World} {K : Act → World → Prop} {Q : Exit → Act → World → Prop}
theorem o_mul3 (x y : Operand) (ho : o.op = .binOp .mul 3 x y 3) (m n : Int) (hm : -1000000 ≤ m * n ∧ m * n ≤ 1000000) (hx : a.eval x = .int .i64 m) (hy : a.eval y = .int .i64 n) (h : K (a.put o.dst (.int .i64 (m * n))) w) : o.wp Try.prog a w K Q := by
  have hw : IntKind.i64.wrap (m * n) = m * n := by rw [IntKind.wrap_i64]; omega
  unfold Oper.wp execOp
  simp only [ho, hx, hy]
  simp [go_sem, hw]
  exact h
theorem o_add3 (x y : Operand) (ho : o.op = .binOp .add 3 x y 3) (m n : Int) (hm : -1000000 ≤ m + n ∧ m + n ≤ 1000000) (hx : a.eval x = .int .i64 m) (hy : a.eval y = .int .i64 n) (h : K (a.put o.dst (.int .i64 (m + n))) w) : o.wp Try.prog a w K Q := by
  have hw : IntKind.i64.wrap (m + n) = m + n := by rw [IntKind.wrap_i64]; omega
  unfold Oper.wp execOp
  simp only [ho, hx, hy]
  simp [go_sem, hw]
  exact h
theorem o_load3 (x : Operand) (ho : o.op = .load 3 x) (p : Addr) (v : Value) (hx : a.eval x = .pointer (some p)) (hc : w.cell? p = some v) (h : K (a.put o.dst v) w) : o.wp Try.prog a w K Q := by
  unfold Oper.wp execOp
  simp only [ho, hx]
  simp [go_sem, hc]
  exact h
theorem o_field0 (x : Operand) (ho : o.op = .fieldAddr 23 x 0) (b : Nat) (hx : a.eval x = P0 b) (h : K (a.put o.dst (P0 b)) w) : o.wp Try.prog a w K Q := by
  unfold Oper.wp execOp
  simp only [ho, hx]
  simp [go_sem]
  exact h
theorem o_field1 (x : Operand) (ho : o.op = .fieldAddr 23 x 1) (b : Nat) (hx : a.eval x = P0 b) (h : K (a.put o.dst (.pointer (some ⟨b, 1, none⟩))) w) : o.wp Try.prog a w K Q := by
  unfold Oper.wp execOp
  simp only [ho, hx]
  simp [go_sem]
  exact h
theorem o_move (x : Operand) (ho : o.op = .move x) (h : K (a.put o.dst (a.eval x)) w) : o.wp Try.prog a w K Q := by
  unfold Oper.wp execOp
  simp only [ho]
  exact h
end
theorem vs10 {vs : List Value} (h : vs.length = 10) : ∃ a b c d e f g i j k, vs = [a, b, c, d, e, f, g, i, j, k] := by
  match vs, h with
  | [a, b, c, d, e, f, g, i, j, k], _ => exact ⟨a, b, c, d, e, f, g, i, j, k, rfl⟩

/-- How many sectors all logs have. -/
def Job.L (j : Job) : Int := j.n * (1 + 2 * j.l)
theorem Job.L_le {j : Job} (h : j.may = true) : 10 ≤ j.L ∧ j.L ≤ 1032 := by
  simp only [Job.may, decide_eq_true_eq] at h
  unfold Job.L
  constructor
  · have : 2 * 5 ≤ j.n * (1 + 2 * j.l) := Int.mul_le_mul (by omega) (by omega) (by omega) (by omega)
    omega
  · have : j.n * (1 + 2 * j.l) ≤ 8 * 129 := Int.mul_le_mul (by omega) (by omega) (by omega) (by omega)
    omega
theorem Job.p_le {j : Job} (h : j.may = true) : 1 ≤ j.p ∧ j.p ≤ 16 := by
  simp only [Job.may, decide_eq_true_eq] at h; omega
/-- The areas' ends, behind so many rounds. -/
def Job.ends (j : Job) : Nat → List Value
  | 0 => fourC 1 8 j.L (j.p * 2)
  | 1 => fourC 1 8 j.L (j.p * 2)
  | 2 => fourC 1 9 j.L (j.p * 2)
  | 3 => fourC 1 9 (j.L + 9) (j.p * 2)
  | _ => fourC 1 9 (j.L + 9) (j.p * 2 + (j.L + 9))
theorem build58 (w : World) (x y z u : Int) : (Instr.build 58 #[(0, .int .i64 x), (1, .int .i64 y), (2, .int .i64 z), (3, .int .i64 u)]).run Try.prog w = .ok (aggV (fourC x y z u)) w := by kernel_rfl
theorem res29 (w : World) (z : Nat) (a b c d : Int) (tmps : Array Value) (h4 : tmps[2]?.getD undef = P0 z) (hb : Blk w z 58 (fourC a b c d)) : (results Try.f29 tmps).run Try.prog w = .ok (aggV (fourC a b c d)) w := by
  have := loadV row58 rfl hb
  simp [results, Try.results29, h4, this, asAddr]

set_option maxHeartbeats 1000000 in
set_option maxRecDepth 100000 in
theorem ends29 (j : Job) (hm : j.may = true) (w : World) : Calls Try.prog 29 #[aggV (jobC j)] w fun e w' => e = .returned (aggV (fourC 1 9 (j.L + 9) (j.p * 2 + (j.L + 9)))) ∧ Kept [] w w' := by
  have hL := Job.L_le hm
  have hp := Job.p_le hm
  have hLd : Hid (j.n * (1 + 2 * j.l) = j.L) := rfl
  go_enter Try.func29, Try.ntmps29
  go_wp2_with (
    first
    | (refine wpBoxV rfl (.tmp 0) rfl (jobC j) rfl ?_
       intro W0 b0 e0 B0 K0
       have A0 := hide B0
       have KA := hide K0
       clear e0 B0 K0)
    | (refine wpAllocW (fourC 0 0 0 0) zero58 2 rfl rfl rfl ?_
       intro W2 zb ez BZ1 K2
       have d0 := hide ((unhide A0).kept K2 (by simp))
       have dz := hide BZ1
       have nz : Hid (w.heap.size ≤ zb) := by have := (unhide KA).size; show _ ≤ _; omega
       have dk := hide ((unhide KA).trans K2)
       clear ez BZ1 K2 A0 KA))
  refine wp_region_prefix mixed 10 1 rfl (by kernel_rfl) (tab [.is (P0 b0), .is (.int .i64 j.n), .is (aggV (jobC j)), .is (.int .i64 (1 + 2 * j.l)), .is (.int .i64 j.L), .is (.pointer (some ⟨b0, 1, none⟩)), .is (.int .i64 j.p), .is (.int .i64 (j.p * 2)), .is (aggV (fourC 1 8 j.L (j.p * 2))), .new 58 (fourC 0 0 0 0) W2.heap.size]) (apartE []) (tab_kept _) (by kernel_rfl) ?_ ?_
  · intro i o hi ho a w2 hout hin hk
    match i, ho with
    | 0, ho =>
      obtain rfl := Option.some.inj ho
      exact o_field0 (.tmp 1) rfl b0 ((hout 1 (by kernel_rfl)).trans rfl) ⟨_, rfl, rfl, Kept.refl _ _, fun i u _ _ _ => apart_no (by decide) i u _⟩
    | 1, ho =>
      obtain rfl := Option.some.inj ho
      have e0 : a.eval (.tmp 5) = P0 b0 := hin 0 5 (by kernel_rfl) (by kernel_rfl)
      exact o_load3 (.tmp 5) rfl ⟨b0, 0, none⟩ _ e0 (fits_cell ((unhide d0).kept hk (by simp)) 0 _ rfl) ⟨_, rfl, rfl, Kept.refl _ _, fun i u _ _ _ => apart_no (by decide) i u _⟩
    | 2, ho =>
      obtain rfl := Option.some.inj ho
      exact wp_loadA row23 (.tmp 1) rfl b0 0 ((hout 1 (by kernel_rfl)).trans rfl) (jobC j) rfl ((unhide d0).kept hk (by simp)).range ⟨_, rfl, rfl, Kept.refl _ _, fun i u _ _ _ => apart_no (by decide) i u _⟩
    | 3, ho =>
      obtain rfl := Option.some.inj ho
      have e0 : a.eval (.tmp 7) = aggV (jobC j) := hin 2 7 (by kernel_rfl) (by kernel_rfl)
      refine wp_callF 26 _ _ rfl #[aggV (jobC j)] (by simp [e0]) (cf26 _ _) ((logSize26 j hm w2).mono ?_)
      rintro e w3 ⟨rfl, hk3⟩
      exact ⟨_, rfl, _, rfl, rfl, hk3, fun i u _ _ _ => apart_no (by decide) i u _⟩
    | 4, ho =>
      obtain rfl := Option.some.inj ho
      have e0 : a.eval (.tmp 6) = .int .i64 j.n := hin 1 6 (by kernel_rfl) (by kernel_rfl)
      have e1 : a.eval (.tmp 8) = .int .i64 (1 + 2 * j.l) := hin 3 8 (by kernel_rfl) (by kernel_rfl)
      exact o_mul3 (.tmp 6) (.tmp 8) rfl _ _ (by rw [unhide hLd]; omega) e0 e1 ⟨_, rfl, rfl, Kept.refl _ _, fun i u _ _ _ => apart_no (by decide) i u _⟩
    | 5, ho =>
      obtain rfl := Option.some.inj ho
      exact o_field1 (.tmp 1) rfl b0 ((hout 1 (by kernel_rfl)).trans rfl) ⟨_, rfl, rfl, Kept.refl _ _, fun i u _ _ _ => apart_no (by decide) i u _⟩
    | 6, ho =>
      obtain rfl := Option.some.inj ho
      have e0 : a.eval (.tmp 10) = .pointer (some ⟨b0, 1, none⟩) := hin 5 10 (by kernel_rfl) (by kernel_rfl)
      exact o_load3 (.tmp 10) rfl ⟨b0, 1, none⟩ _ e0 (fits_cell ((unhide d0).kept hk (by simp)) 1 _ rfl) ⟨_, rfl, rfl, Kept.refl _ _, fun i u _ _ _ => apart_no (by decide) i u _⟩
    | 7, ho =>
      obtain rfl := Option.some.inj ho
      have e0 : a.eval (.tmp 11) = .int .i64 j.p := hin 6 11 (by kernel_rfl) (by kernel_rfl)
      exact o_mul3 (.tmp 11) (.const (.int .i64 2)) rfl _ _ (by omega) e0 rfl ⟨_, rfl, rfl, Kept.refl _ _, fun i u _ _ _ => apart_no (by decide) i u _⟩
    | 8, ho =>
      obtain rfl := Option.some.inj ho
      have e0 : a.eval (.tmp 9) = .int .i64 j.L := hin 4 9 (by kernel_rfl) (by kernel_rfl)
      have e1 : a.eval (.tmp 12) = .int .i64 (j.p * 2) := hin 7 12 (by kernel_rfl) (by kernel_rfl)
      exact wp_buildP _ rfl #[(0, .int .i64 1), (1, .int .i64 8), (2, .int .i64 j.L), (3, .int .i64 (j.p * 2))] (by simp [e0, e1]; exact ⟨rfl, rfl⟩) (fourC 1 8 j.L (j.p * 2)) (build58 _ _ _ _ _) ⟨_, rfl, rfl, Kept.refl _ _, fun i u _ _ _ => apart_no (by decide) i u _⟩
    | 9, ho =>
      obtain rfl := Option.some.inj ho
      exact wp_allocA (fourC 0 0 0 0) zero58 rfl ⟨_, rfl, ⟨_, rfl, hk.size, Blk.new _ _ _⟩, (Kept.refl _ _).alloc _, fun i u _ _ _ => apart_no (by decide) i u _⟩
  · intro vs w3 hlen hF hE hk
    obtain ⟨x0, x1, x2, x3, x4, x5, x6, x7, x8, x9, rfl⟩ := vs10 hlen
    obtain rfl : x0 = _ := hF 0 _ rfl
    obtain rfl : x1 = _ := hF 1 _ rfl
    obtain rfl : x2 = _ := hF 2 _ rfl
    obtain rfl : x3 = _ := hF 3 _ rfl
    obtain rfl : x4 = _ := hF 4 _ rfl
    obtain rfl : x5 = _ := hF 5 _ rfl
    obtain rfl : x6 = _ := hF 6 _ rfl
    obtain rfl : x7 = _ := hF 7 _ rfl
    obtain rfl : x8 = _ := hF 8 _ rfl
    obtain ⟨q, rfl, hq, hB⟩ := hF 9 _ rfl
    have dz3 := hide ((unhide dz).kept hk (by simp))
    have dk3 := hide ((unhide dk).trans hk)
    have hzq := (unhide dz).lt
    have dq := hide hB
    clear hF hE hk dz dk d0 hB
    simp only [List.take_succ_cons, List.take_zero, putAll, Act.put, List.setIfInBounds_toArray, List.set_cons_succ, List.set_cons_zero]
    refine wpAny_all (rs := [10]) (by kernel_rfl) (by simp) ?_
    intro i hi
    obtain rfl : i = 10 := by simpa using hi
    refine wpOp_of rfl rfl (wp_storeN row58 (.tmp 3) (.tmp 13) rfl rfl q 0 (fourC 1 8 j.L (j.p * 2)) rfl rfl rfl (fourC_one _ _ _ _) ((unhide dq).there (by show 0 + 4 ≤ 4; omega)) ?_)
    refine wpAny_done (by kernel_rfl) ?_ _
    have nz2 := unhide nz
    have g4 : Hid (Blk (w3.setCells q 0 (fourC 1 8 j.L (j.p * 2))) q 58 (j.ends 1)) := (unhide dq).put rfl
    have gz : Hid (Blk (w3.setCells q 0 (fourC 1 8 j.L (j.p * 2))) zb 58 (fourC 0 0 0 0)) := (unhide dz3).other (by omega)
    have gk : Hid (Kept [] w (w3.setCells q 0 (fourC 1 8 j.L (j.p * 2)))) := (unhide dk3).setCells _ _ (by omega)
    have hqz : Hid (q ≠ zb ∧ w.heap.size ≤ q) := ⟨by omega, by omega⟩
    generalize w3.setCells q 0 (fourC 1 8 j.L (j.p * 2)) = W5 at g4 gk gz ⊢
    clear dz3 dk3 dq
    go_wp2_with fail
    go_loopw [4] (fun i wr => ∃ k : Nat, 1 ≤ k ∧ k ≤ 4 ∧ i = .int .i64 k ∧ Hid (Blk wr q 58 (j.ends k)) ∧ Hid (Blk wr zb 58 (fourC 0 0 0 0)) ∧ Hid (Kept [] w wr)) (fun i _ => 4 - (intOf i).toNat)
    case atStart => exact ⟨1, by omega, by omega, rfl, g4, gz, gk⟩
    case round =>
      clear g4 gz gk
      obtain ⟨k, hk1, hk4, rfl, g4, gz, gk⟩ := hrel
      have nqz := (unhide hqz).1
      have nqw := (unhide hqz).2
      rcases (show k = 1 ∨ k = 2 ∨ k = 3 ∨ k = 4 by omega) with rfl | rfl | rfl | rfl
      · have gg : Blk wr q 58 (fourC 1 8 j.L (j.p * 2)) := unhide g4
        obtain ⟨c0, c1, c2, c3⟩ := four_cells gg
        have fz := gg.frozen 1
        have GG := hide gg
        clear gg
        go_wp2_with fail
        go_region
        go_wp2_with fail
        go_roundw
        case rel => exact ⟨2, by omega, by omega, by go_num, (unhide GG).set _, (unhide gz).set_other (by omega) _, ((unhide gk).setCell (p := ⟨q, 1, none⟩) (by intro h; simp at h; omega) _).drew⟩
        case measure => simp [intOf]
      · have gg : Blk wr q 58 (fourC 1 9 j.L (j.p * 2)) := unhide g4
        obtain ⟨c0, c1, c2, c3⟩ := four_cells gg
        have fz := gg.frozen 2
        have GG := hide gg
        clear gg
        go_wp2_with fail
        go_region
        go_wp2_with fail
        go_roundw
        case rel => exact ⟨3, by omega, by omega, by go_num, (unhide GG).set _, (unhide gz).set_other (by omega) _, ((unhide gk).setCell (p := ⟨q, 2, none⟩) (by intro h; simp at h; omega) _).drew⟩
        case measure => simp [intOf]
      · have gg : Blk wr q 58 (fourC 1 9 (j.L + 9) (j.p * 2)) := unhide g4
        obtain ⟨c0, c1, c2, c3⟩ := four_cells gg
        have fz := gg.frozen 3
        have GG := hide gg
        clear gg
        go_wp2_with fail
        go_region
        go_wp2_with fail
        go_roundw
        case rel => exact ⟨4, by omega, by omega, by go_num, (unhide GG).set _, (unhide gz).set_other (by omega) _, ((unhide gk).setCell (p := ⟨q, 3, none⟩) (by intro h; simp at h; omega) _).drew⟩
        case measure => simp [intOf]
      · have gg : Blk wr q 58 (fourC 1 9 (j.L + 9) (j.p * 2 + (j.L + 9))) := unhide g4
        have GG := hide gg
        clear gg g4
        go_wp2_with (
          first
          | (refine wpLoadA row58 rfl (.tmp 3) rfl q 0 rfl (fourC 1 9 (j.L + 9) (j.p * 2 + (j.L + 9))) rfl (unhide GG).range ?_)
          | (refine wpStoreA row58 rfl (.tmp 2) (.tmp 27) rfl zb 0 (fourC 1 9 (j.L + 9) (j.p * 2 + (j.L + 9))) rfl rfl rfl (fourC_one _ _ _ _) ((unhide gz).there (by show 0 + 4 ≤ 4; omega)) ?_))
        have h4 := (unhide gz).put (vs := fourC 1 9 (j.L + 9) (j.p * 2 + (j.L + 9))) rfl
        exact bodyPost_ret (res29 _ _ _ _ _ _ _ rfl h4) rfl ⟨rfl, (unhide gk).setCells _ _ (by omega)⟩

end Go.Proofs.Ytcfoebpbbmnleaa
