/-
  The walk of Of: what lies in a sector.
-/
import Derived.Test.YtcfoebpbbmnleaaFns
namespace Go.Proofs.Ytcfoebpbbmnleaa
open Go.RowKit

/-- What lies in a sector of a job that may be: four numbers. -/
structure Pl where
  k : Int
  n : Int
  i : Int
  h : Int
def Pl.C (p : Pl) : List Value := fourC p.k p.n p.i p.h
def Job.inLog (n a : Int) : Pl := if a = 0 then ⟨3, n, 0, 0⟩ else ⟨4, n, (a - 1) / 2, (a - 1) % 2⟩
def Job.of (j : Job) (s : Int) : Pl × Int :=
  if j.may && decide (0 ≤ s) then
    match j.find s with
    | (0, _) => (⟨1, 0, 0, 0⟩, 0)
    | (1, a) => (⟨2, a, 0, 0⟩, 0)
    | (2, a) => (Job.inLog (a / (1 + 2 * j.l)) (a % (1 + 2 * j.l)), 0)
    | (3, a) => (⟨5, 0, a / 2, a % 2⟩, 0)
    | _ => (⟨0, 0, 0, 0⟩, 2)
  else (⟨0, 0, 0, 0⟩, 2)
theorem inLog25' (n a : Int) (ha : 0 ≤ a ∧ a ≤ 1000) (w : World) : Calls Try.prog 25 #[.int .i64 n, .int .i64 a] w fun e w' => e = .returned (aggV (Job.inLog n a).C) ∧ Kept [] w w' := by
  have h : (Job.inLog n a).C = inLogP n a := by unfold Job.inLog inLogP; split <;> rfl
  rw [h]; exact inLog25 n a ha w
theorem res13 (w : World) (z : Nat) (a b c d e : Int) (tmps : Array Value) (h4 : tmps[4]?.getD undef = P0 z) (h5 : tmps[5]?.getD undef = .int .i64 e) (hb : Blk w z 37 (fourC a b c d)) : (results Try.f13 tmps).run Try.prog w = .ok (.tuple #[aggV (fourC a b c d), .int .i64 e]) w := by
  have := loadV row37 rfl hb
  simp [results, Try.results13, h4, h5, this, asAddr]
theorem cf25 (vs : Array Value) (w : World) : (callFunc 25 vs).run Try.prog w = .ok (.enter 25 vs) w := by kernel_rfl
section
variable {o : Oper} {a : Act} {w : World} {K : Act → World → Prop} {Q : Exit → Act → World → Prop}
theorem o_quo3 (x y : Operand) (ho : o.op = .binOp .quo 3 x y 3) (m n : Int) (hm : 0 ≤ m ∧ m ≤ 1000000) (hn : 1 ≤ n) (hx : a.eval x = .int .i64 m) (hy : a.eval y = .int .i64 n) (h : K (a.put o.dst (.int .i64 (m / n))) w) : o.wp Try.prog a w K Q := by
  have h0 : ¬ n = 0 := by omega
  have hd : m.tdiv n = m / n := Int.tdiv_eq_ediv_of_nonneg hm.1
  have hq : 0 ≤ m / n ∧ m / n ≤ m := ⟨Int.ediv_nonneg hm.1 (by omega), Int.ediv_le_self _ hm.1⟩
  have hw : IntKind.i64.wrap (m / n) = m / n := by rw [IntKind.wrap_i64]; omega
  unfold Oper.wp execOp
  simp only [ho, hx, hy]
  simp [go_sem, hw, hd, h0]
  exact h
theorem o_rem3 (x y : Operand) (ho : o.op = .binOp .rem 3 x y 3) (m n : Int) (hm : 0 ≤ m ∧ m ≤ 1000000) (hn : 1 ≤ n) (hx : a.eval x = .int .i64 m) (hy : a.eval y = .int .i64 n) (h : K (a.put o.dst (.int .i64 (m % n))) w) : o.wp Try.prog a w K Q := by
  have h0 : ¬ n = 0 := by omega
  have hd : m.tmod n = m % n := Int.tmod_eq_emod_of_nonneg hm.1
  unfold Oper.wp execOp
  simp only [ho, hx, hy]
  simp [go_sem, hd, h0]
  exact h
end
theorem vs9 {vs : List Value} (h : vs.length = 9) : ∃ a b c d e f g i j, vs = [a, b, c, d, e, f, g, i, j] := by
  match vs, h with
  | [a, b, c, d, e, f, g, i, j], _ => exact ⟨a, b, c, d, e, f, g, i, j, rfl⟩

/-- What Of tells. -/
abbrev ofV (r : Pl × Int) : Value := .tuple #[aggV r.1.C, .int .i64 r.2]

set_option maxHeartbeats 1000000 in
theorem of_no (j : Job) (s : Int) (h : (j.may && decide (0 ≤ s)) = false) (w : World) : Calls Try.prog 13 #[aggV (jobC j), .int .i64 s] w fun e w' => e = .returned (ofV (⟨0, 0, 0, 0⟩, 2)) ∧ Kept [] w w' := by
  cases hm : j.may with
  | false =>
    go_enter Try.func13, Try.ntmps13
    go_wp2_with (
      first
      | (refine wpBoxV rfl (.tmp 0) rfl (jobC j) rfl ?_
         intro W1 b1 e1 B1 K1
         have BB := hide B1
         have KK := hide K1
         clear e1 B1 K1)
      | (refine wpAllocW (fourC 0 0 0 0) zero37 4 rfl rfl rfl ?_
         intro W2 zb ez BZ1 K2
         have d0 := hide ((unhide BB).kept K2 (by simp))
         have dz := hide BZ1
         have nz : Hid (w.heap.size ≤ zb) := by have := (unhide KK).size; show _ ≤ _; omega
         have dk := hide ((unhide KK).trans K2)
         have hM := hide (may10 j W2)
         rw [hm] at hM
         clear ez BZ1 K2 BB KK)
      | (refine wpLoadA row23 rfl (.tmp 2) rfl b1 0 rfl (jobC j) rfl (unhide d0).range ?_)
      | (go_at_call 10; refine (unhide hM).mono ?_; rintro e W3 ⟨rfl, K3⟩
         have dz2 := hide ((unhide dz).kept K3 (by simp))
         have d02 := hide ((unhide d0).kept K3 (by simp))
         have dk2 := hide ((unhide dk).trans K3)
         clear dz d0 dk K3 hM)
      | (refine wpBuildZ (fourC 0 0 0 0) build37 rfl rfl ?_)
      | (refine wpStoreA row37 rfl (.tmp 4) (.tmp 15) rfl zb 0 (fourC 0 0 0 0) rfl rfl rfl (fourC_one _ _ _ _) ((unhide dz2).there (by show 0 + 4 ≤ 4; omega)) ?_))
    have g4 := (unhide dz2).put (vs := fourC 0 0 0 0) rfl
    have nz2 := unhide nz
    exact bodyPost_ret (res13 _ _ _ _ _ _ _ _ rfl rfl g4) rfl ⟨rfl, (unhide dk2).setCells _ _ (by omega)⟩
  | true =>
    have hs : s < 0 := by simp [hm] at h; exact h
    clear h
    go_enter Try.func13, Try.ntmps13
    go_wp2_with (
      first
      | (refine wpBoxV rfl (.tmp 0) rfl (jobC j) rfl ?_
         intro W1 b1 e1 B1 K1
         have BB := hide B1
         have KK := hide K1
         clear e1 B1 K1)
      | (refine wpAllocW (fourC 0 0 0 0) zero37 4 rfl rfl rfl ?_
         intro W2 zb ez BZ1 K2
         have d0 := hide ((unhide BB).kept K2 (by simp))
         have dz := hide BZ1
         have nz : Hid (w.heap.size ≤ zb) := by have := (unhide KK).size; show _ ≤ _; omega
         have dk := hide ((unhide KK).trans K2)
         have hM := hide (may10 j W2)
         rw [hm] at hM
         clear ez BZ1 K2 BB KK)
      | (refine wpLoadA row23 rfl (.tmp 2) rfl b1 0 rfl (jobC j) rfl (unhide d0).range ?_)
      | (go_at_call 10; refine (unhide hM).mono ?_; rintro e W3 ⟨rfl, K3⟩
         have dz2 := hide ((unhide dz).kept K3 (by simp))
         have d02 := hide ((unhide d0).kept K3 (by simp))
         have dk2 := hide ((unhide dk).trans K3)
         clear dz d0 dk K3 hM)
      | (refine wpBuildZ (fourC 0 0 0 0) build37 rfl rfl ?_)
      | (refine wpStoreA row37 rfl (.tmp 4) (.tmp 15) rfl zb 0 (fourC 0 0 0 0) rfl rfl rfl (fourC_one _ _ _ _) ((unhide dz2).there (by show 0 + 4 ≤ 4; omega)) ?_))
    have g4 := (unhide dz2).put (vs := fourC 0 0 0 0) rfl
    have nz2 := unhide nz
    exact bodyPost_ret (res13 _ _ _ _ _ _ _ _ rfl rfl g4) rfl ⟨rfl, (unhide dk2).setCells _ _ (by omega)⟩

set_option maxHeartbeats 1000000 in
theorem of_0 (j : Job) (hm : j.may = true) (s : Int) (hs : 0 ≤ s ∧ s ≤ 9223372036854775807) (a : Int) (hf : j.find s = (0, a)) (_ : 0 ≤ a ∧ a ≤ 1000000) (w : World) : Calls Try.prog 13 #[aggV (jobC j), .int .i64 s] w fun e w' => e = .returned (ofV (⟨1, 0, 0, 0⟩, 0)) ∧ Kept [] w w' := by
  have h0 : ¬ s < 0 := by omega
  go_enter Try.func13, Try.ntmps13
  go_wp2_with (
    first
    | (refine wpBoxV rfl (.tmp 0) rfl (jobC j) rfl ?_
       intro W1 b1 e1 B1 K1
       have BB := hide B1
       have KK := hide K1
       clear e1 B1 K1)
    | (refine wpAllocW (fourC 0 0 0 0) zero37 4 rfl rfl rfl ?_
       intro W2 zb ez BZ1 K2
       have d0 := hide ((unhide BB).kept K2 (by simp))
       have dz := hide BZ1
       have nz : Hid (w.heap.size ≤ zb) := by have := (unhide KK).size; show _ ≤ _; omega
       have dk := hide ((unhide KK).trans K2)
       have hM := hide (may10 j W2)
       rw [hm] at hM
       clear ez BZ1 K2 BB KK)
    | (refine wpLoadA row23 rfl (.tmp 2) rfl b1 0 rfl (jobC j) rfl (unhide d0).range ?_)
    | (go_at_call 10; refine (unhide hM).mono ?_; rintro e W3 ⟨rfl, K3⟩
       have dz2 := hide ((unhide dz).kept K3 (by simp))
       have d02 := hide ((unhide d0).kept K3 (by simp))
       have dk2 := hide ((unhide dk).trans K3)
       have hF := hide (find24 j hm s hs W3)
       rw [hf] at hF
       clear dz d0 dk K3 hM)
    | (refine wpLoadA row23 rfl (.tmp 2) rfl b1 0 rfl (jobC j) rfl (unhide d02).range ?_)
    | (go_at_call 24; refine (unhide hF).mono ?_; rintro e W4 ⟨rfl, K4⟩
       have dz3 := hide ((unhide dz2).kept K4 (by simp))
       have d03 := hide ((unhide d02).kept K4 (by simp))
       have dk3 := hide ((unhide dk2).trans K4)
       clear dz2 d02 dk2 K4 hF)
    | (refine wpBuildP rfl _ rfl #[(0, .int .i64 1)] (by kernel_rfl) (fourC 1 0 0 0) (build37a _ _) ?_)
    | (refine wpStoreA row37 rfl (.tmp 4) (.tmp 25) rfl zb 0 (fourC 1 0 0 0) rfl rfl rfl (fourC_one _ _ _ _) ((unhide dz3).there (by show 0 + 4 ≤ 4; omega)) ?_))
  have g4 := (unhide dz3).put (vs := fourC 1 0 0 0) rfl
  have nz2 := unhide nz
  exact bodyPost_ret (res13 _ _ _ _ _ _ _ _ rfl rfl g4) rfl ⟨rfl, (unhide dk3).setCells _ _ (by omega)⟩

set_option maxHeartbeats 1000000 in
theorem of_1 (j : Job) (hm : j.may = true) (s : Int) (hs : 0 ≤ s ∧ s ≤ 9223372036854775807) (a : Int) (hf : j.find s = (1, a)) (_ : 0 ≤ a ∧ a ≤ 1000000) (w : World) : Calls Try.prog 13 #[aggV (jobC j), .int .i64 s] w fun e w' => e = .returned (ofV (⟨2, a, 0, 0⟩, 0)) ∧ Kept [] w w' := by
  have h0 : ¬ s < 0 := by omega
  go_enter Try.func13, Try.ntmps13
  go_wp2_with (
    first
    | (refine wpBoxV rfl (.tmp 0) rfl (jobC j) rfl ?_
       intro W1 b1 e1 B1 K1
       have BB := hide B1
       have KK := hide K1
       clear e1 B1 K1)
    | (refine wpAllocW (fourC 0 0 0 0) zero37 4 rfl rfl rfl ?_
       intro W2 zb ez BZ1 K2
       have d0 := hide ((unhide BB).kept K2 (by simp))
       have dz := hide BZ1
       have nz : Hid (w.heap.size ≤ zb) := by have := (unhide KK).size; show _ ≤ _; omega
       have dk := hide ((unhide KK).trans K2)
       have hM := hide (may10 j W2)
       rw [hm] at hM
       clear ez BZ1 K2 BB KK)
    | (refine wpLoadA row23 rfl (.tmp 2) rfl b1 0 rfl (jobC j) rfl (unhide d0).range ?_)
    | (go_at_call 10; refine (unhide hM).mono ?_; rintro e W3 ⟨rfl, K3⟩
       have dz2 := hide ((unhide dz).kept K3 (by simp))
       have d02 := hide ((unhide d0).kept K3 (by simp))
       have dk2 := hide ((unhide dk).trans K3)
       have hF := hide (find24 j hm s hs W3)
       rw [hf] at hF
       clear dz d0 dk K3 hM)
    | (refine wpLoadA row23 rfl (.tmp 2) rfl b1 0 rfl (jobC j) rfl (unhide d02).range ?_)
    | (go_at_call 24; refine (unhide hF).mono ?_; rintro e W4 ⟨rfl, K4⟩
       have dz3 := hide ((unhide dz2).kept K4 (by simp))
       have d03 := hide ((unhide d02).kept K4 (by simp))
       have dk3 := hide ((unhide dk2).trans K4)
       clear dz2 d02 dk2 K4 hF)
    | (refine wpBuildP rfl _ rfl #[(0, .int .i64 2), (1, .int .i64 a)] (by kernel_rfl) (fourC 2 a 0 0) (build37b _ _ _) ?_)
    | (refine wpStoreA row37 rfl (.tmp 4) (.tmp 29) rfl zb 0 (fourC 2 a 0 0) rfl rfl rfl (fourC_one _ _ _ _) ((unhide dz3).there (by show 0 + 4 ≤ 4; omega)) ?_))
  have g4 := (unhide dz3).put (vs := fourC 2 a 0 0) rfl
  have nz2 := unhide nz
  exact bodyPost_ret (res13 _ _ _ _ _ _ _ _ rfl rfl g4) rfl ⟨rfl, (unhide dk3).setCells _ _ (by omega)⟩

set_option maxHeartbeats 1000000 in
theorem of_3 (j : Job) (hm : j.may = true) (s : Int) (hs : 0 ≤ s ∧ s ≤ 9223372036854775807) (a : Int) (hf : j.find s = (3, a)) (ha : 0 ≤ a ∧ a ≤ 1000000) (w : World) : Calls Try.prog 13 #[aggV (jobC j), .int .i64 s] w fun e w' => e = .returned (ofV (⟨5, 0, a / 2, a % 2⟩, 0)) ∧ Kept [] w w' := by
  generalize hq : a / 2 = q
  generalize hr : a % 2 = r
  have hd1 : a.tdiv 2 = q := by rw [tdiv2 _ (by omega)]; exact hq
  have hd2 : a.tmod 2 = r := by rw [tmod2 _ (by omega)]; exact hr
  have hw2 : IntKind.i64.wrap q = q := by rw [IntKind.wrap_i64]; omega
  have hw3 : IntKind.i64.wrap r = r := by rw [IntKind.wrap_i64]; omega
  clear hq hr
  have h0 : ¬ s < 0 := by omega
  go_enter Try.func13, Try.ntmps13
  go_wp2_with (
    first
    | (refine wpBoxV rfl (.tmp 0) rfl (jobC j) rfl ?_
       intro W1 b1 e1 B1 K1
       have BB := hide B1
       have KK := hide K1
       clear e1 B1 K1)
    | (refine wpAllocW (fourC 0 0 0 0) zero37 4 rfl rfl rfl ?_
       intro W2 zb ez BZ1 K2
       have d0 := hide ((unhide BB).kept K2 (by simp))
       have dz := hide BZ1
       have nz : Hid (w.heap.size ≤ zb) := by have := (unhide KK).size; show _ ≤ _; omega
       have dk := hide ((unhide KK).trans K2)
       have hM := hide (may10 j W2)
       rw [hm] at hM
       clear ez BZ1 K2 BB KK)
    | (refine wpLoadA row23 rfl (.tmp 2) rfl b1 0 rfl (jobC j) rfl (unhide d0).range ?_)
    | (go_at_call 10; refine (unhide hM).mono ?_; rintro e W3 ⟨rfl, K3⟩
       have dz2 := hide ((unhide dz).kept K3 (by simp))
       have d02 := hide ((unhide d0).kept K3 (by simp))
       have dk2 := hide ((unhide dk).trans K3)
       have hF := hide (find24 j hm s hs W3)
       rw [hf] at hF
       clear dz d0 dk K3 hM)
    | (refine wpLoadA row23 rfl (.tmp 2) rfl b1 0 rfl (jobC j) rfl (unhide d02).range ?_)
    | (go_at_call 24; refine (unhide hF).mono ?_; rintro e W4 ⟨rfl, K4⟩
       have dz3 := hide ((unhide dz2).kept K4 (by simp))
       have d03 := hide ((unhide d02).kept K4 (by simp))
       have dk3 := hide ((unhide dk2).trans K4)
       clear dz2 d02 dk2 K4 hF)
    | (refine wpBuildP rfl _ rfl #[(0, .int .i64 5), (2, .int .i64 q), (3, .int .i64 r)] (by kernel_rfl) (fourC 5 0 q r) (build37c _ _ _ _) ?_)
    | (refine wpStoreA row37 rfl (.tmp 4) (.tmp 47) rfl zb 0 (fourC 5 0 q r) rfl rfl rfl (fourC_one _ _ _ _) ((unhide dz3).there (by show 0 + 4 ≤ 4; omega)) ?_))
  have g4 := (unhide dz3).put (vs := fourC 5 0 q r) rfl
  have nz2 := unhide nz
  exact bodyPost_ret (res13 _ _ _ _ _ _ _ _ rfl rfl g4) rfl ⟨rfl, (unhide dk3).setCells _ _ (by omega)⟩

set_option maxHeartbeats 1000000 in
theorem of_4 (j : Job) (hm : j.may = true) (s : Int) (hs : 0 ≤ s ∧ s ≤ 9223372036854775807) (a : Int) (hf : j.find s = (4, a)) (w : World) : Calls Try.prog 13 #[aggV (jobC j), .int .i64 s] w fun e w' => e = .returned (ofV (⟨0, 0, 0, 0⟩, 2)) ∧ Kept [] w w' := by
  have h0 : ¬ s < 0 := by omega
  go_enter Try.func13, Try.ntmps13
  go_wp2_with (
    first
    | (refine wpBoxV rfl (.tmp 0) rfl (jobC j) rfl ?_
       intro W1 b1 e1 B1 K1
       have BB := hide B1
       have KK := hide K1
       clear e1 B1 K1)
    | (refine wpAllocW (fourC 0 0 0 0) zero37 4 rfl rfl rfl ?_
       intro W2 zb ez BZ1 K2
       have d0 := hide ((unhide BB).kept K2 (by simp))
       have dz := hide BZ1
       have nz : Hid (w.heap.size ≤ zb) := by have := (unhide KK).size; show _ ≤ _; omega
       have dk := hide ((unhide KK).trans K2)
       have hM := hide (may10 j W2)
       rw [hm] at hM
       clear ez BZ1 K2 BB KK)
    | (refine wpLoadA row23 rfl (.tmp 2) rfl b1 0 rfl (jobC j) rfl (unhide d0).range ?_)
    | (go_at_call 10; refine (unhide hM).mono ?_; rintro e W3 ⟨rfl, K3⟩
       have dz2 := hide ((unhide dz).kept K3 (by simp))
       have d02 := hide ((unhide d0).kept K3 (by simp))
       have dk2 := hide ((unhide dk).trans K3)
       have hF := hide (find24 j hm s hs W3)
       rw [hf] at hF
       clear dz d0 dk K3 hM)
    | (refine wpLoadA row23 rfl (.tmp 2) rfl b1 0 rfl (jobC j) rfl (unhide d02).range ?_)
    | (go_at_call 24; refine (unhide hF).mono ?_; rintro e W4 ⟨rfl, K4⟩
       have dz3 := hide ((unhide dz2).kept K4 (by simp))
       have d03 := hide ((unhide d02).kept K4 (by simp))
       have dk3 := hide ((unhide dk2).trans K4)
       clear dz2 d02 dk2 K4 hF)
    | (refine wpBuildZ (fourC 0 0 0 0) build37 rfl rfl ?_)
    | (refine wpStoreA row37 rfl (.tmp 4) (.tmp 48) rfl zb 0 (fourC 0 0 0 0) rfl rfl rfl (fourC_one _ _ _ _) ((unhide dz3).there (by show 0 + 4 ≤ 4; omega)) ?_))
  have g4 := (unhide dz3).put (vs := fourC 0 0 0 0) rfl
  have nz2 := unhide nz
  exact bodyPost_ret (res13 _ _ _ _ _ _ _ _ rfl rfl g4) rfl ⟨rfl, (unhide dk3).setCells _ _ (by omega)⟩

set_option maxHeartbeats 1000000 in
set_option maxRecDepth 100000 in
theorem of_2 (j : Job) (hm : j.may = true) (s : Int) (hs : 0 ≤ s ∧ s ≤ 9223372036854775807) (a : Int) (hf : j.find s = (2, a)) (ha : 0 ≤ a ∧ a ≤ 1000000) (w : World) : Calls Try.prog 13 #[aggV (jobC j), .int .i64 s] w fun e w' => e = .returned (ofV (Job.inLog (a / (1 + 2 * j.l)) (a % (1 + 2 * j.l)), 0)) ∧ Kept [] w w' := by
  have h0 : ¬ s < 0 := by omega
  have hl : 2 ≤ j.l ∧ j.l ≤ 64 := by have := hm; simp only [Job.may, decide_eq_true_eq] at this; omega
  have hr : Hid (0 ≤ a % (1 + 2 * j.l) ∧ a % (1 + 2 * j.l) < 1 + 2 * j.l) := ⟨Int.emod_nonneg _ (by omega), Int.emod_lt_of_pos _ (by omega)⟩
  go_enter Try.func13, Try.ntmps13
  go_wp2_with (
    first
    | (refine wpBoxV rfl (.tmp 0) rfl (jobC j) rfl ?_
       intro W1 b1 e1 B1 K1
       have BB := hide B1
       have KK := hide K1
       clear e1 B1 K1)
    | (refine wpAllocW (fourC 0 0 0 0) zero37 4 rfl rfl rfl ?_
       intro W2 zb ez BZ1 K2
       have d0 := hide ((unhide BB).kept K2 (by simp))
       have dz := hide BZ1
       have nz : Hid (w.heap.size ≤ zb) := by have := (unhide KK).size; show _ ≤ _; omega
       have dk := hide ((unhide KK).trans K2)
       have hM := hide (may10 j W2)
       rw [hm] at hM
       clear ez BZ1 K2 BB KK)
    | (refine wpLoadA row23 rfl (.tmp 2) rfl b1 0 rfl (jobC j) rfl (unhide d0).range ?_)
    | (go_at_call 10; refine (unhide hM).mono ?_; rintro e W3 ⟨rfl, K3⟩
       have dz2 := hide ((unhide dz).kept K3 (by simp))
       have d02 := hide ((unhide d0).kept K3 (by simp))
       have dk2 := hide ((unhide dk).trans K3)
       have hF := hide (find24 j hm s hs W3)
       rw [hf] at hF
       clear dz d0 dk K3 hM)
    | (refine wpLoadA row23 rfl (.tmp 2) rfl b1 0 rfl (jobC j) rfl (unhide d02).range ?_)
    | (go_at_call 24; refine (unhide hF).mono ?_; rintro e W4 ⟨rfl, K4⟩
       have dz3 := hide ((unhide dz2).kept K4 (by simp))
       have d03 := hide ((unhide d02).kept K4 (by simp))
       have dk3 := hide ((unhide dk2).trans K4)
       clear dz2 d02 dk2 K4 hF))
  refine wp_region_prefix mixed 9 2 rfl (by kernel_rfl) (tab [.is (.int .i64 a), .is (aggV (jobC j)), .is (.int .i64 (1 + 2 * j.l)), .is (.int .i64 (a / (1 + 2 * j.l))), .is (.int .i64 a), .is (aggV (jobC j)), .is (.int .i64 (1 + 2 * j.l)), .is (.int .i64 (a % (1 + 2 * j.l))), .is (aggV (Job.inLog (a / (1 + 2 * j.l)) (a % (1 + 2 * j.l))).C)]) (apartE []) (tab_kept _) (by kernel_rfl) ?_ ?_
  · intro i o hi ho a' w2 hout hin hk
    match i, ho with
    | 0, ho =>
      obtain rfl := Option.some.inj ho
      exact o_move (.tmp 7) rfl ⟨_, rfl, (hout 7 (by kernel_rfl)).trans rfl, Kept.refl _ _, fun i u _ _ _ => apart_no (by decide) i u _⟩
    | 1, ho =>
      obtain rfl := Option.some.inj ho
      exact wp_loadA row23 (.tmp 2) rfl b1 0 ((hout 2 (by kernel_rfl)).trans rfl) (jobC j) rfl ((unhide d03).kept hk (by simp)).range ⟨_, rfl, rfl, Kept.refl _ _, fun i u _ _ _ => apart_no (by decide) i u _⟩
    | 2, ho =>
      obtain rfl := Option.some.inj ho
      have e0 : a'.eval (.tmp 33) = aggV (jobC j) := hin 1 33 (by kernel_rfl) (by kernel_rfl)
      refine wp_callF 26 _ _ rfl #[aggV (jobC j)] (by simp [e0]) (cf26 _ _) ((logSize26 j hm w2).mono ?_)
      rintro e w3 ⟨rfl, hk3⟩
      exact ⟨_, rfl, _, rfl, rfl, hk3, fun i u _ _ _ => apart_no (by decide) i u _⟩
    | 3, ho =>
      obtain rfl := Option.some.inj ho
      have e0 : a'.eval (.tmp 32) = .int .i64 a := hin 0 32 (by kernel_rfl) (by kernel_rfl)
      have e1 : a'.eval (.tmp 34) = .int .i64 (1 + 2 * j.l) := hin 2 34 (by kernel_rfl) (by kernel_rfl)
      exact o_quo3 (.tmp 32) (.tmp 34) rfl _ _ (by omega) (by omega) e0 e1 ⟨_, rfl, rfl, Kept.refl _ _, fun i u _ _ _ => apart_no (by decide) i u _⟩
    | 4, ho =>
      obtain rfl := Option.some.inj ho
      exact o_move (.tmp 7) rfl ⟨_, rfl, (hout 7 (by kernel_rfl)).trans rfl, Kept.refl _ _, fun i u _ _ _ => apart_no (by decide) i u _⟩
    | 5, ho =>
      obtain rfl := Option.some.inj ho
      exact wp_loadA row23 (.tmp 2) rfl b1 0 ((hout 2 (by kernel_rfl)).trans rfl) (jobC j) rfl ((unhide d03).kept hk (by simp)).range ⟨_, rfl, rfl, Kept.refl _ _, fun i u _ _ _ => apart_no (by decide) i u _⟩
    | 6, ho =>
      obtain rfl := Option.some.inj ho
      have e0 : a'.eval (.tmp 37) = aggV (jobC j) := hin 5 37 (by kernel_rfl) (by kernel_rfl)
      refine wp_callF 26 _ _ rfl #[aggV (jobC j)] (by simp [e0]) (cf26 _ _) ((logSize26 j hm w2).mono ?_)
      rintro e w3 ⟨rfl, hk3⟩
      exact ⟨_, rfl, _, rfl, rfl, hk3, fun i u _ _ _ => apart_no (by decide) i u _⟩
    | 7, ho =>
      obtain rfl := Option.some.inj ho
      have e0 : a'.eval (.tmp 36) = .int .i64 a := hin 4 36 (by kernel_rfl) (by kernel_rfl)
      have e1 : a'.eval (.tmp 38) = .int .i64 (1 + 2 * j.l) := hin 6 38 (by kernel_rfl) (by kernel_rfl)
      exact o_rem3 (.tmp 36) (.tmp 38) rfl _ _ (by omega) (by omega) e0 e1 ⟨_, rfl, rfl, Kept.refl _ _, fun i u _ _ _ => apart_no (by decide) i u _⟩
    | 8, ho =>
      obtain rfl := Option.some.inj ho
      have e0 : a'.eval (.tmp 35) = .int .i64 (a / (1 + 2 * j.l)) := hin 3 35 (by kernel_rfl) (by kernel_rfl)
      have e1 : a'.eval (.tmp 39) = .int .i64 (a % (1 + 2 * j.l)) := hin 7 39 (by kernel_rfl) (by kernel_rfl)
      have hr2 := unhide hr
      refine wp_callF 25 _ _ rfl #[.int .i64 (a / (1 + 2 * j.l)), .int .i64 (a % (1 + 2 * j.l))] (by simp [e0, e1]) (cf25 _ _) ((inLog25' _ _ (by omega) w2).mono ?_)
      rintro e w3 ⟨rfl, hk3⟩
      exact ⟨_, rfl, _, rfl, rfl, hk3, fun i u _ _ _ => apart_no (by decide) i u _⟩
  · intro vs w3 hlen hF hE hk
    obtain ⟨x0, x1, x2, x3, x4, x5, x6, x7, x8, rfl⟩ := vs9 hlen
    obtain rfl : x0 = _ := hF 0 _ rfl
    obtain rfl : x1 = _ := hF 1 _ rfl
    obtain rfl : x2 = _ := hF 2 _ rfl
    obtain rfl : x3 = _ := hF 3 _ rfl
    obtain rfl : x4 = _ := hF 4 _ rfl
    obtain rfl : x5 = _ := hF 5 _ rfl
    obtain rfl : x6 = _ := hF 6 _ rfl
    obtain rfl : x7 = _ := hF 7 _ rfl
    obtain rfl : x8 = _ := hF 8 _ rfl
    have dz4 := hide ((unhide dz3).kept hk (by simp))
    have dk4 := hide ((unhide dk3).trans hk)
    clear hF hE hk dz3 dk3 d03
    generalize hP : Job.inLog (a / (1 + 2 * j.l)) (a % (1 + 2 * j.l)) = P
    have HP := hide hP
    clear hP
    simp only [List.take_succ_cons, List.take_zero, putAll, Act.put, List.setIfInBounds_toArray, List.set_cons_succ, List.set_cons_zero]
    refine wpAny_all (rs := [9]) (by kernel_rfl) (by simp) ?_
    intro i hi
    obtain rfl : i = 9 := by simpa using hi
    refine wpOp_of rfl rfl (wp_storeN row37 (.tmp 4) (.tmp 40) rfl rfl zb 0 P.C rfl rfl rfl (fourC_one _ _ _ _) ((unhide dz4).there (by show 0 + 4 ≤ 4; omega)) ?_)
    refine wpAny_all (rs := [10]) (by kernel_rfl) (by simp) ?_
    intro i hi
    obtain rfl : i = 10 := by simpa using hi
    refine wpOp_of rfl rfl (wp_assign (.const (.int .i64 0)) rfl ?_)
    refine wpAny_done (by kernel_rfl) ?_ _
    have nz2 := unhide nz
    have g4 : Hid (Blk (w3.setCells zb 0 P.C) zb 37 P.C) := (unhide dz4).put rfl
    have gk : Hid (Kept [] w (w3.setCells zb 0 P.C)) := (unhide dk4).setCells _ _ (by omega)
    generalize w3.setCells zb 0 P.C = W5 at g4 gk ⊢
    clear dz4 dk4
    go_wp2_with fail
    exact bodyPost_ret (res13 _ _ _ _ _ _ _ _ rfl rfl (unhide g4)) rfl ⟨by rw [unhide HP]; rfl, unhide gk⟩

/-- Where a sector lies: the ways. -/
theorem find_ways (j : Job) (s : Int) : (s < 1 ∧ j.find s = (0, s)) ∨ (1 ≤ s ∧ s < 9 ∧ j.find s = (1, s - 1)) ∨ (9 ≤ s ∧ s < j.L + 9 ∧ j.find s = (2, s - 9)) ∨ (9 ≤ s ∧ j.L + 9 ≤ s ∧ s < j.p * 2 + (j.L + 9) ∧ j.find s = (3, s - (j.L + 9))) ∨ (9 ≤ s ∧ j.L + 9 ≤ s ∧ j.p * 2 + (j.L + 9) ≤ s ∧ j.find s = (4, s - (j.p * 2 + (j.L + 9)))) := by
  unfold Job.find
  by_cases h1 : s < 1
  · simp [h1]
  by_cases h2 : s < 9
  · simp [h1, h2]; omega
  by_cases h3 : s < j.L + 9
  · simp [h1, h2, h3]; omega
  by_cases h4 : s < j.p * 2 + (j.L + 9)
  · simp [h1, h2, h3, h4]; omega
  · simp [h1, h2, h3, h4]; omega

theorem of13 (j : Job) (s : Int) (hs : I64 s) (w : World) : Calls Try.prog 13 #[aggV (jobC j), .int .i64 s] w fun e w' => e = .returned (ofV (j.of s)) ∧ Kept [] w w' := by
  cases h : (j.may && decide (0 ≤ s)) with
  | false =>
    have hr : j.of s = (⟨0, 0, 0, 0⟩, 2) := by simp [Job.of, h]
    rw [hr]; exact of_no j s h w
  | true =>
    have h' := h
    rw [Bool.and_eq_true, decide_eq_true_eq] at h'
    obtain ⟨hm, h0⟩ := h'
    have hL := Job.L_le hm
    have hP := Job.p_le hm
    have hs2 := hs.2
    rcases find_ways j s with ⟨_, hf⟩ | ⟨_, _, hf⟩ | ⟨_, _, hf⟩ | ⟨_, _, _, hf⟩ | ⟨_, _, _, hf⟩
    · have hr : j.of s = (⟨1, 0, 0, 0⟩, 0) := by simp [Job.of, h, hf]
      rw [hr]; exact of_0 j hm s ⟨h0, hs2⟩ _ hf (by omega) w
    · have hr : j.of s = (⟨2, s - 1, 0, 0⟩, 0) := by simp [Job.of, h, hf]
      rw [hr]; exact of_1 j hm s ⟨h0, hs2⟩ _ hf (by omega) w
    · have hr : j.of s = (Job.inLog ((s - 9) / (1 + 2 * j.l)) ((s - 9) % (1 + 2 * j.l)), 0) := by simp [Job.of, h, hf]
      rw [hr]; exact of_2 j hm s ⟨h0, hs2⟩ _ hf (by omega) w
    · have hr : j.of s = (⟨5, 0, (s - (j.L + 9)) / 2, (s - (j.L + 9)) % 2⟩, 0) := by simp [Job.of, h, hf]
      rw [hr]; exact of_3 j hm s ⟨h0, hs2⟩ _ hf (by omega) w
    · have hr : j.of s = (⟨0, 0, 0, 0⟩, 2) := by simp [Job.of, h, hf]
      rw [hr]; exact of_4 j hm s ⟨h0, hs2⟩ _ hf w

end Go.Proofs.Ytcfoebpbbmnleaa
