/-
  The walks of the small functions: Job.May, logSize, below, num, small, inLog.
-/
import Derived.Test.YtcfoebpbbmnleaaArr
namespace Go.Proofs.Ytcfoebpbbmnleaa
open Go.RowKit

/-- May it be a job. -/
def Job.may (j : Job) : Bool := decide (2 ≤ j.n ∧ j.n ≤ 8 ∧ 1 ≤ j.p ∧ j.p ≤ 16 ∧ 1 ≤ j.f ∧ j.f ≤ 16 ∧ 2 ≤ j.l ∧ j.l ≤ 64 ∧ 2 ≤ j.t ∧ j.t ≤ 100)

theorem num11 (n : Int) (w : World) : Calls Try.prog 11 #[.int .i64 n] w fun e w' => e = .returned (.int .i64 n) ∧ w' = w := by
  go_enter Try.func11, Try.ntmps11
  go_wp2_with fail
  go_ret
  exact ⟨rfl, rfl⟩

theorem below28 (n b : Int) (w : World) : Calls Try.prog 28 #[.int .i64 n, .int .i64 b] w fun e w' => e = .returned (.bool (decide (0 ≤ n ∧ n < b))) ∧ w' = w := by
  by_cases h1 : 0 ≤ n
  · go_enter Try.func28, Try.ntmps28
    go_wp2_with fail
    go_ret
    exact ⟨ret_bool (by simp; omega), rfl⟩
  · go_enter Try.func28, Try.ntmps28
    go_wp2_with fail
    go_ret
    exact ⟨ret_bool (by simp; omega), rfl⟩
set_option maxHeartbeats 1000000 in
theorem may10 (j : Job) (w : World) : Calls Try.prog 10 #[aggV (jobC j)] w fun e w' => e = .returned (.bool j.may) ∧ Kept [] w w' := by
  by_cases h0 : 2 ≤ j.n
  rotate_left
  · go_enter Try.func10, Try.ntmps10
    go_wp2_with (refine wpBoxV rfl (.tmp 0) rfl (jobC j) rfl ?_; intro W1 b1 e1 B1 K1; obtain ⟨c0, c1, c2, c3, c4⟩ := Job.cells B1; have KK := hide K1; clear e1 B1 K1)
    go_ret
    exact ⟨ret_bool (by simp [Job.may]; omega), unhide KK⟩
  by_cases h1 : j.n ≤ 8
  rotate_left
  · go_enter Try.func10, Try.ntmps10
    go_wp2_with (refine wpBoxV rfl (.tmp 0) rfl (jobC j) rfl ?_; intro W1 b1 e1 B1 K1; obtain ⟨c0, c1, c2, c3, c4⟩ := Job.cells B1; have KK := hide K1; clear e1 B1 K1)
    go_ret
    exact ⟨ret_bool (by simp [Job.may]; omega), unhide KK⟩
  by_cases h2 : 1 ≤ j.p
  rotate_left
  · go_enter Try.func10, Try.ntmps10
    go_wp2_with (refine wpBoxV rfl (.tmp 0) rfl (jobC j) rfl ?_; intro W1 b1 e1 B1 K1; obtain ⟨c0, c1, c2, c3, c4⟩ := Job.cells B1; have KK := hide K1; clear e1 B1 K1)
    go_ret
    exact ⟨ret_bool (by simp [Job.may]; omega), unhide KK⟩
  by_cases h3 : j.p ≤ 16
  rotate_left
  · go_enter Try.func10, Try.ntmps10
    go_wp2_with (refine wpBoxV rfl (.tmp 0) rfl (jobC j) rfl ?_; intro W1 b1 e1 B1 K1; obtain ⟨c0, c1, c2, c3, c4⟩ := Job.cells B1; have KK := hide K1; clear e1 B1 K1)
    go_ret
    exact ⟨ret_bool (by simp [Job.may]; omega), unhide KK⟩
  by_cases h4 : 1 ≤ j.f
  rotate_left
  · go_enter Try.func10, Try.ntmps10
    go_wp2_with (refine wpBoxV rfl (.tmp 0) rfl (jobC j) rfl ?_; intro W1 b1 e1 B1 K1; obtain ⟨c0, c1, c2, c3, c4⟩ := Job.cells B1; have KK := hide K1; clear e1 B1 K1)
    go_ret
    exact ⟨ret_bool (by simp [Job.may]; omega), unhide KK⟩
  by_cases h5 : j.f ≤ 16
  rotate_left
  · go_enter Try.func10, Try.ntmps10
    go_wp2_with (refine wpBoxV rfl (.tmp 0) rfl (jobC j) rfl ?_; intro W1 b1 e1 B1 K1; obtain ⟨c0, c1, c2, c3, c4⟩ := Job.cells B1; have KK := hide K1; clear e1 B1 K1)
    go_ret
    exact ⟨ret_bool (by simp [Job.may]; omega), unhide KK⟩
  by_cases h6 : 2 ≤ j.l
  rotate_left
  · go_enter Try.func10, Try.ntmps10
    go_wp2_with (refine wpBoxV rfl (.tmp 0) rfl (jobC j) rfl ?_; intro W1 b1 e1 B1 K1; obtain ⟨c0, c1, c2, c3, c4⟩ := Job.cells B1; have KK := hide K1; clear e1 B1 K1)
    go_ret
    exact ⟨ret_bool (by simp [Job.may]; omega), unhide KK⟩
  by_cases h7 : j.l ≤ 64
  rotate_left
  · go_enter Try.func10, Try.ntmps10
    go_wp2_with (refine wpBoxV rfl (.tmp 0) rfl (jobC j) rfl ?_; intro W1 b1 e1 B1 K1; obtain ⟨c0, c1, c2, c3, c4⟩ := Job.cells B1; have KK := hide K1; clear e1 B1 K1)
    go_ret
    exact ⟨ret_bool (by simp [Job.may]; omega), unhide KK⟩
  by_cases h8 : 2 ≤ j.t
  rotate_left
  · go_enter Try.func10, Try.ntmps10
    go_wp2_with (refine wpBoxV rfl (.tmp 0) rfl (jobC j) rfl ?_; intro W1 b1 e1 B1 K1; obtain ⟨c0, c1, c2, c3, c4⟩ := Job.cells B1; have KK := hide K1; clear e1 B1 K1)
    go_ret
    exact ⟨ret_bool (by simp [Job.may]; omega), unhide KK⟩
  go_enter Try.func10, Try.ntmps10
  go_wp2_with (refine wpBoxV rfl (.tmp 0) rfl (jobC j) rfl ?_; intro W1 b1 e1 B1 K1; obtain ⟨c0, c1, c2, c3, c4⟩ := Job.cells B1; have KK := hide K1; clear e1 B1 K1)
  go_ret
  exact ⟨ret_bool (by simp [Job.may]; omega), unhide KK⟩

theorem logSize26 (j : Job) (h : j.may = true) (w : World) : Calls Try.prog 26 #[aggV (jobC j)] w fun e w' => e = .returned (.int .i64 (1 + 2 * j.l)) ∧ Kept [] w w' := by
  simp only [Job.may, decide_eq_true_eq] at h
  have hw1 : IntKind.i64.wrap (2 * j.l) = 2 * j.l := by rw [IntKind.wrap_i64]; omega
  have hw2 : IntKind.i64.wrap (1 + 2 * j.l) = 1 + 2 * j.l := by rw [IntKind.wrap_i64]; omega
  go_enter Try.func26, Try.ntmps26
  go_wp2_with (refine wpBoxV rfl (.tmp 0) rfl (jobC j) rfl ?_; intro W1 b1 e1 B1 K1; obtain ⟨c0, c1, c2, c3, c4⟩ := Job.cells B1; have KK := hide K1; clear e1 B1 K1)
  go_ret
  exact ⟨rfl, unhide KK⟩

theorem res19 (w : World) (z : Nat) (j : Job) (tmps : Array Value) (h4 : tmps[0]?.getD undef = P0 z) (hb : Blk w z 23 (jobC j)) : (results Try.f19 tmps).run Try.prog w = .ok (aggV (jobC j)) w := by
  have := loadV row23 rfl hb
  simp [results, Try.results19, h4, this, asAddr]
theorem res25 (w : World) (z : Nat) (a b c d : Int) (tmps : Array Value) (h4 : tmps[4]?.getD undef = P0 z) (hb : Blk w z 37 (fourC a b c d)) : (results Try.f25 tmps).run Try.prog w = .ok (aggV (fourC a b c d)) w := by
  have := loadV row37 rfl hb
  simp [results, Try.results25, h4, this, asAddr]

/-- The chapter's job. -/
def smallJ : Job := ⟨2, 3, 1, 2, 2⟩
theorem build_small (w : World) : (Instr.build 23 #[(0, .int .i64 2), (1, .int .i64 3), (2, .int .i64 1), (3, .int .i64 2), (4, .int .i64 2)]).run Try.prog w = .ok (aggV (jobC smallJ)) w := by kernel_rfl
theorem small19 (w : World) : Calls Try.prog 19 #[] w fun e w' => e = .returned (aggV (jobC smallJ)) ∧ Kept [] w w' := by
  go_enter Try.func19, Try.ntmps19
  go_wp2_with (
    first
    | (refine wpAllocW (jobC ⟨0, 0, 0, 0, 0⟩) zero23 0 rfl rfl rfl ?_
       intro W1 b1 e1 B1 K1
       have BB := hide B1
       have KK := hide K1
       have nz : Hid (w.heap.size ≤ b1) := by show _ ≤ _; omega
       clear e1 B1 K1)
    | (refine wpBuildP rfl _ rfl _ rfl (jobC smallJ) (build_small _) ?_)
    | (refine wpStoreA row23 rfl (.tmp 0) (.tmp 1) rfl b1 0 (jobC smallJ) rfl rfl rfl (jobC_one _) ((unhide BB).there (by decide)) ?_))
  have g4 := (unhide BB).put (vs := jobC smallJ) rfl
  have nz2 := unhide nz
  exact bodyPost_ret (res19 _ _ _ _ rfl g4) rfl ⟨rfl, (unhide KK).setCells _ _ (by omega)⟩

/-- What lies so far behind the start of a log. -/
def inLogP (n a : Int) : List Value := if a = 0 then fourC 3 n 0 0 else fourC 4 n ((a - 1) / 2) ((a - 1) % 2)
theorem build37b (w : World) (k n : Int) : (Instr.build 37 #[(0, .int .i64 k), (1, .int .i64 n)]).run Try.prog w = .ok (aggV (fourC k n 0 0)) w := by kernel_rfl
theorem build37d (w : World) (k n i h : Int) : (Instr.build 37 #[(0, .int .i64 k), (1, .int .i64 n), (2, .int .i64 i), (3, .int .i64 h)]).run Try.prog w = .ok (aggV (fourC k n i h)) w := by kernel_rfl
theorem build37a (w : World) (k : Int) : (Instr.build 37 #[(0, .int .i64 k)]).run Try.prog w = .ok (aggV (fourC k 0 0 0)) w := by kernel_rfl
theorem build37c (w : World) (k i h : Int) : (Instr.build 37 #[(0, .int .i64 k), (2, .int .i64 i), (3, .int .i64 h)]).run Try.prog w = .ok (aggV (fourC k 0 i h)) w := by kernel_rfl
theorem tdiv2 (x : Int) (h : 0 ≤ x) : x.tdiv 2 = x / 2 := Int.tdiv_eq_ediv_of_nonneg h
theorem tmod2 (x : Int) (h : 0 ≤ x) : x.tmod 2 = x % 2 := Int.tmod_eq_emod_of_nonneg h
theorem inLog25 (n a : Int) (ha : 0 ≤ a ∧ a ≤ 1000) (w : World) : Calls Try.prog 25 #[.int .i64 n, .int .i64 a] w fun e w' => e = .returned (aggV (inLogP n a)) ∧ Kept [] w w' := by
  have hw1 : IntKind.i64.wrap (a - 1) = a - 1 := by rw [IntKind.wrap_i64]; omega
  by_cases h1 : a = 0
  · have hI : inLogP n a = fourC 3 n 0 0 := by simp [inLogP, h1]
    rw [hI]
    clear hI
    go_enter Try.func25, Try.ntmps25
    go_wp2_with (
      first
      | (refine wpAllocW (fourC 0 0 0 0) zero37 4 rfl rfl rfl ?_
         intro W1 b1 e1 B1 K1
         have BB := hide B1
         have KK := hide K1
         have nz : Hid (w.heap.size ≤ b1) := by show _ ≤ _; omega
         clear e1 B1 K1)
      | (refine wpBuildP rfl _ rfl _ rfl (fourC 3 n 0 0) (build37b _ _ _) ?_)
      | (refine wpStoreA row37 rfl (.tmp 4) (.tmp 8) rfl b1 0 (fourC 3 n 0 0) rfl rfl rfl (fourC_one _ _ _ _) ((unhide BB).there (by show 0 + 4 ≤ 4; omega)) ?_))
    have g4 := (unhide BB).put (vs := fourC 3 n 0 0) rfl
    have nz2 := unhide nz
    exact bodyPost_ret (res25 _ _ _ _ _ _ _ rfl g4) rfl ⟨rfl, (unhide KK).setCells _ _ (by omega)⟩
  · have hI : inLogP n a = fourC 4 n ((a - 1) / 2) ((a - 1) % 2) := by simp [inLogP, h1]
    rw [hI]
    clear hI
    generalize hq : (a - 1) / 2 = q
    generalize hr : (a - 1) % 2 = r
    have hd1 : (a - 1).tdiv 2 = q := by rw [tdiv2 _ (by omega)]; exact hq
    have hd2 : (a - 1).tmod 2 = r := by rw [tmod2 _ (by omega)]; exact hr
    have hw2 : IntKind.i64.wrap q = q := by rw [IntKind.wrap_i64]; omega
    have hw3 : IntKind.i64.wrap r = r := by rw [IntKind.wrap_i64]; omega
    clear hq hr
    go_enter Try.func25, Try.ntmps25
    go_wp2_with (
      first
      | (refine wpAllocW (fourC 0 0 0 0) zero37 4 rfl rfl rfl ?_
         intro W1 b1 e1 B1 K1
         have BB := hide B1
         have KK := hide K1
         have nz : Hid (w.heap.size ≤ b1) := by show _ ≤ _; omega
         clear e1 B1 K1)
      | (refine wpBuildP rfl _ rfl #[(0, .int .i64 4), (1, .int .i64 n), (2, .int .i64 q), (3, .int .i64 r)] (by kernel_rfl) (fourC 4 n q r) (build37d _ _ _ _ _) ?_)
      | (refine wpStoreA row37 rfl (.tmp 4) (.tmp 16) rfl b1 0 (fourC 4 n q r) rfl rfl rfl (fourC_one _ _ _ _) ((unhide BB).there (by show 0 + 4 ≤ 4; omega)) ?_))
    have g4 := (unhide BB).put (vs := fourC 4 n q r) rfl
    have nz2 := unhide nz
    exact bodyPost_ret (res25 _ _ _ _ _ _ _ rfl g4) rfl ⟨rfl, (unhide KK).setCells _ _ (by omega)⟩

end Go.Proofs.Ytcfoebpbbmnleaa
