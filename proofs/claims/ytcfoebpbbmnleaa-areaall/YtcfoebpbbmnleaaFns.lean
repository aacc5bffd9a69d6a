/-
  The walks of area's functions that tell where a thing lies: Sectors, View, Lease, Head, Record, Page.
-/
import Derived.Test.YtcfoebpbbmnleaaFind
namespace Go.Proofs.Ytcfoebpbbmnleaa
open Go.RowKit

/-- What a call tells: a number and an error. -/
abbrev two (r : Int × Int) : Value := .tuple #[.int .i64 r.1, .int .i64 r.2]
def Job.sectors (j : Job) : Int × Int := if j.may then (j.p * 2 + (j.L + 9), 0) else (0, 2)
def Job.view (j : Job) : Int × Int := if j.may then (0, 0) else (0, 2)
def below (n b : Int) : Bool := decide (0 ≤ n ∧ n < b)
def Job.lease (j : Job) (n : Int) : Int × Int := if j.may && below n 8 then (1 + n, 0) else (0, 2)
def Job.head (j : Job) (n : Int) : Int × Int := if j.may && below n j.n then (9 + n * (1 + 2 * j.l), 0) else (0, 2)
def lsnB (s : Int) : Bool := decide (1 ≤ s ∧ s ≤ 2147483647)
def Job.record (j : Job) (n s : Int) : Int × Int := if (j.may && below n j.n) && lsnB s then (9 + n * (1 + 2 * j.l) + 1 + 2 * ((s - 1) % j.l), 0) else (0, 2)
def Job.page (j : Job) (p : Int) : Int × Int := if j.may && below p j.p then (j.L + 9 + 2 * p, 0) else (0, 2)
theorem start_1 (j : Job) (hm : j.may = true) (w : World) : Calls Try.prog 21 #[aggV (jobC j), .int .i64 1] w fun e w' => e = .returned (.int .i64 1) ∧ Kept [] w w' := start_s j hm 0 (by omega) w
theorem start_2 (j : Job) (hm : j.may = true) (w : World) : Calls Try.prog 21 #[aggV (jobC j), .int .i64 2] w fun e w' => e = .returned (.int .i64 9) ∧ Kept [] w w' := start_s j hm 1 (by omega) w
theorem start_3 (j : Job) (hm : j.may = true) (w : World) : Calls Try.prog 21 #[aggV (jobC j), .int .i64 3] w fun e w' => e = .returned (.int .i64 (j.L + 9)) ∧ Kept [] w w' := start_s j hm 2 (by omega) w
theorem start_4 (j : Job) (hm : j.may = true) (w : World) : Calls Try.prog 21 #[aggV (jobC j), .int .i64 4] w fun e w' => e = .returned (.int .i64 (j.p * 2 + (j.L + 9))) ∧ Kept [] w w' := start_s j hm 3 (by omega) w
theorem below28' (n b : Int) (w : World) : Calls Try.prog 28 #[.int .i64 n, .int .i64 b] w fun e w' => e = .returned (.bool (below n b)) ∧ w' = w := below28 n b w

theorem sectors8 (j : Job) (w : World) : Calls Try.prog 8 #[aggV (jobC j)] w fun e w' => e = .returned (two j.sectors) ∧ Kept [] w w' := by
  cases hm : j.may with
  | false =>
    have hr : j.sectors = (0, 2) := by simp [Job.sectors, hm]
    rw [hr]
    go_enter Try.func8, Try.ntmps8
    go_wp2_with (
      first
      | (refine wpBoxV rfl (.tmp 0) rfl (jobC j) rfl ?_
         intro W1 b1 e1 B1 K1
         have BB := hide B1
         have KK := hide K1
         have hM := hide (may10 j W1)
         rw [hm] at hM
         clear e1 B1 K1)
      | (refine wpLoadA row23 rfl (.tmp 1) rfl b1 0 rfl (jobC j) rfl (unhide BB).range ?_)
      | (go_at_call 10; refine (unhide hM).mono ?_; rintro e W2 ⟨rfl, K2⟩
         obtain ⟨c0, c1, c2, c3, c4⟩ := Job.cells ((unhide BB).kept K2 (by simp))
         have BB2 := hide ((unhide BB).kept K2 (by simp))
         have KK2 := hide ((unhide KK).trans K2)
         clear BB KK hM K2))
    go_ret2
    exact ⟨rfl, unhide KK2⟩
  | true =>
    have hr : j.sectors = (j.p * 2 + (j.L + 9), 0) := by simp [Job.sectors, hm]
    rw [hr]
    go_enter Try.func8, Try.ntmps8
    go_wp2_with (
      first
      | (refine wpBoxV rfl (.tmp 0) rfl (jobC j) rfl ?_
         intro W1 b1 e1 B1 K1
         have BB := hide B1
         have KK := hide K1
         have hM := hide (may10 j W1)
         rw [hm] at hM
         clear e1 B1 K1)
      | (refine wpLoadA row23 rfl (.tmp 1) rfl b1 0 rfl (jobC j) rfl (unhide BB).range ?_)
      | (go_at_call 10; refine (unhide hM).mono ?_; rintro e W2 ⟨rfl, K2⟩
         obtain ⟨c0, c1, c2, c3, c4⟩ := Job.cells ((unhide BB).kept K2 (by simp))
         have BB2 := hide ((unhide BB).kept K2 (by simp))
         have KK2 := hide ((unhide KK).trans K2)
         clear BB KK hM K2)
      | (refine wpLoadA row23 rfl (.tmp 1) rfl b1 0 rfl (jobC j) rfl (unhide BB2).range ?_)
      | (go_at_call 21; refine (start_4 j hm _).mono ?_; rintro e W3 ⟨rfl, K3⟩
         have KK3 := hide ((unhide KK2).trans K3)
         clear BB2 KK2 K3))
    go_ret2
    exact ⟨rfl, unhide KK3⟩

theorem view9 (j : Job) (w : World) : Calls Try.prog 9 #[aggV (jobC j)] w fun e w' => e = .returned (two j.view) ∧ Kept [] w w' := by
  cases hm : j.may with
  | false =>
    have hr : j.view = (0, 2) := by simp [Job.view, hm]
    rw [hr]
    go_enter Try.func9, Try.ntmps9
    go_wp2_with (
      first
      | (refine wpBoxV rfl (.tmp 0) rfl (jobC j) rfl ?_
         intro W1 b1 e1 B1 K1
         have BB := hide B1
         have KK := hide K1
         have hM := hide (may10 j W1)
         rw [hm] at hM
         clear e1 B1 K1)
      | (refine wpLoadA row23 rfl (.tmp 1) rfl b1 0 rfl (jobC j) rfl (unhide BB).range ?_)
      | (go_at_call 10; refine (unhide hM).mono ?_; rintro e W2 ⟨rfl, K2⟩
         obtain ⟨c0, c1, c2, c3, c4⟩ := Job.cells ((unhide BB).kept K2 (by simp))
         have BB2 := hide ((unhide BB).kept K2 (by simp))
         have KK2 := hide ((unhide KK).trans K2)
         clear BB KK hM K2))
    go_ret2
    exact ⟨rfl, unhide KK2⟩
  | true =>
    have hr : j.view = (0, 0) := by simp [Job.view, hm]
    rw [hr]
    go_enter Try.func9, Try.ntmps9
    go_wp2_with (
      first
      | (refine wpBoxV rfl (.tmp 0) rfl (jobC j) rfl ?_
         intro W1 b1 e1 B1 K1
         have BB := hide B1
         have KK := hide K1
         have hM := hide (may10 j W1)
         rw [hm] at hM
         clear e1 B1 K1)
      | (refine wpLoadA row23 rfl (.tmp 1) rfl b1 0 rfl (jobC j) rfl (unhide BB).range ?_)
      | (go_at_call 10; refine (unhide hM).mono ?_; rintro e W2 ⟨rfl, K2⟩
         obtain ⟨c0, c1, c2, c3, c4⟩ := Job.cells ((unhide BB).kept K2 (by simp))
         have BB2 := hide ((unhide BB).kept K2 (by simp))
         have KK2 := hide ((unhide KK).trans K2)
         clear BB KK hM K2)
      | (refine wpLoadA row23 rfl (.tmp 1) rfl b1 0 rfl (jobC j) rfl (unhide BB2).range ?_)
      | (go_at_call 21; refine (start_0 j _).mono ?_; rintro e W3 ⟨rfl, K3⟩
         have KK3 := hide ((unhide KK2).trans K3)
         clear BB2 KK2 K3))
    go_ret2
    exact ⟨rfl, unhide KK3⟩

theorem lease18 (j : Job) (n : Int) (w : World) : Calls Try.prog 18 #[aggV (jobC j), .int .i64 n] w fun e w' => e = .returned (two (j.lease n)) ∧ Kept [] w w' := by
  cases hm : j.may with
  | false =>
    have hr : j.lease n = (0, 2) := by simp [Job.lease, hm]
    rw [hr]
    go_enter Try.func18, Try.ntmps18
    go_wp2_with (
      first
      | (refine wpBoxV rfl (.tmp 0) rfl (jobC j) rfl ?_
         intro W1 b1 e1 B1 K1
         have BB := hide B1
         have KK := hide K1
         have hM := hide (may10 j W1)
         rw [hm] at hM
         clear e1 B1 K1)
      | (refine wpLoadA row23 rfl (.tmp 2) rfl b1 0 rfl (jobC j) rfl (unhide BB).range ?_)
      | (go_at_call 10; refine (unhide hM).mono ?_; rintro e W2 ⟨rfl, K2⟩
         obtain ⟨c0, c1, c2, c3, c4⟩ := Job.cells ((unhide BB).kept K2 (by simp))
         have BB2 := hide ((unhide BB).kept K2 (by simp))
         have KK2 := hide ((unhide KK).trans K2)
         clear BB KK hM K2))
    go_ret2
    exact ⟨rfl, unhide KK2⟩
  | true =>
    have hL := Job.L_le hm
    have hP := Job.p_le hm
    cases hb : below n 8 with
    | false =>
      have hr : j.lease n = (0, 2) := by simp [Job.lease, hb]
      rw [hr]
      go_enter Try.func18, Try.ntmps18
      go_wp2_with (
        first
        | (refine wpBoxV rfl (.tmp 0) rfl (jobC j) rfl ?_
           intro W1 b1 e1 B1 K1
           have BB := hide B1
           have KK := hide K1
           have hM := hide (may10 j W1)
           rw [hm] at hM
           clear e1 B1 K1)
        | (refine wpLoadA row23 rfl (.tmp 2) rfl b1 0 rfl (jobC j) rfl (unhide BB).range ?_)
        | (go_at_call 10; refine (unhide hM).mono ?_; rintro e W2 ⟨rfl, K2⟩
           obtain ⟨c0, c1, c2, c3, c4⟩ := Job.cells ((unhide BB).kept K2 (by simp))
           have BB2 := hide ((unhide BB).kept K2 (by simp))
           have KK2 := hide ((unhide KK).trans K2)
           have hB := hide (below28' n 8 W2)
           rw [hb] at hB
           clear BB KK hM K2)
        | (go_at_call 28; refine (unhide hB).mono ?_; rintro e W3 ⟨rfl, rfl⟩; clear hB))
      go_ret2
      exact ⟨rfl, unhide KK2⟩
    | true =>
      have hr : j.lease n = (1 + n, 0) := by simp [Job.lease, hm, hb]
      rw [hr]
      have hb2 : 0 ≤ n ∧ n < 8 := by simpa [below] using hb
      have HB := hide hb
      clear hb
      have hw : IntKind.i64.wrap (1 + n) = 1 + n := by rw [IntKind.wrap_i64]; omega
      go_enter Try.func18, Try.ntmps18
      go_wp2_with (
        first
        | (refine wpBoxV rfl (.tmp 0) rfl (jobC j) rfl ?_
           intro W1 b1 e1 B1 K1
           have BB := hide B1
           have KK := hide K1
           have hM := hide (may10 j W1)
           rw [hm] at hM
           clear e1 B1 K1)
        | (refine wpLoadA row23 rfl (.tmp 2) rfl b1 0 rfl (jobC j) rfl (unhide BB).range ?_)
        | (go_at_call 10; refine (unhide hM).mono ?_; rintro e W2 ⟨rfl, K2⟩
           obtain ⟨c0, c1, c2, c3, c4⟩ := Job.cells ((unhide BB).kept K2 (by simp))
           have BB2 := hide ((unhide BB).kept K2 (by simp))
           have KK2 := hide ((unhide KK).trans K2)
           have hB := hide (below28' n 8 W2)
           rw [(unhide HB)] at hB
           clear BB KK hM K2)
        | (go_at_call 28; refine (unhide hB).mono ?_; rintro e W3 ⟨rfl, rfl⟩; clear hB)
        | (refine wpLoadA row23 rfl (.tmp 2) rfl b1 0 rfl (jobC j) rfl (unhide BB2).range ?_)
        | (go_at_call 21; refine (start_1 j hm _).mono ?_; rintro e W3 ⟨rfl, K3⟩
           have KK3 := hide ((unhide KK2).trans K3)
           clear BB2 KK2 K3))
      go_ret2
      exact ⟨rfl, unhide KK3⟩

theorem page17 (j : Job) (p : Int) (w : World) : Calls Try.prog 17 #[aggV (jobC j), .int .i64 p] w fun e w' => e = .returned (two (j.page p)) ∧ Kept [] w w' := by
  cases hm : j.may with
  | false =>
    have hr : j.page p = (0, 2) := by simp [Job.page, hm]
    rw [hr]
    go_enter Try.func17, Try.ntmps17
    go_wp2_with (
      first
      | (refine wpBoxV rfl (.tmp 0) rfl (jobC j) rfl ?_
         intro W1 b1 e1 B1 K1
         have BB := hide B1
         have KK := hide K1
         have hM := hide (may10 j W1)
         rw [hm] at hM
         clear e1 B1 K1)
      | (refine wpLoadA row23 rfl (.tmp 2) rfl b1 0 rfl (jobC j) rfl (unhide BB).range ?_)
      | (go_at_call 10; refine (unhide hM).mono ?_; rintro e W2 ⟨rfl, K2⟩
         obtain ⟨c0, c1, c2, c3, c4⟩ := Job.cells ((unhide BB).kept K2 (by simp))
         have BB2 := hide ((unhide BB).kept K2 (by simp))
         have KK2 := hide ((unhide KK).trans K2)
         clear BB KK hM K2))
    go_ret2
    exact ⟨rfl, unhide KK2⟩
  | true =>
    have hL := Job.L_le hm
    have hP := Job.p_le hm
    cases hb : below p j.p with
    | false =>
      have hr : j.page p = (0, 2) := by simp [Job.page, hb]
      rw [hr]
      go_enter Try.func17, Try.ntmps17
      go_wp2_with (
        first
        | (refine wpBoxV rfl (.tmp 0) rfl (jobC j) rfl ?_
           intro W1 b1 e1 B1 K1
           have BB := hide B1
           have KK := hide K1
           have hM := hide (may10 j W1)
           rw [hm] at hM
           clear e1 B1 K1)
        | (refine wpLoadA row23 rfl (.tmp 2) rfl b1 0 rfl (jobC j) rfl (unhide BB).range ?_)
        | (go_at_call 10; refine (unhide hM).mono ?_; rintro e W2 ⟨rfl, K2⟩
           obtain ⟨c0, c1, c2, c3, c4⟩ := Job.cells ((unhide BB).kept K2 (by simp))
           have BB2 := hide ((unhide BB).kept K2 (by simp))
           have KK2 := hide ((unhide KK).trans K2)
           have hB := hide (below28' p j.p W2)
           rw [hb] at hB
           clear BB KK hM K2)
        | (go_at_call 28; refine (unhide hB).mono ?_; rintro e W3 ⟨rfl, rfl⟩; clear hB))
      go_ret2
      exact ⟨rfl, unhide KK2⟩
    | true =>
      have hr : j.page p = (j.L + 9 + 2 * p, 0) := by simp [Job.page, hm, hb]
      rw [hr]
      have hb2 : 0 ≤ p ∧ p < j.p := by simpa [below] using hb
      have HB := hide hb
      clear hb
      have hw : IntKind.i64.wrap (2 * p) = 2 * p := by rw [IntKind.wrap_i64]; omega
      have hw2 : IntKind.i64.wrap (j.L + 9 + 2 * p) = j.L + 9 + 2 * p := by rw [IntKind.wrap_i64]; omega
      go_enter Try.func17, Try.ntmps17
      go_wp2_with (
        first
        | (refine wpBoxV rfl (.tmp 0) rfl (jobC j) rfl ?_
           intro W1 b1 e1 B1 K1
           have BB := hide B1
           have KK := hide K1
           have hM := hide (may10 j W1)
           rw [hm] at hM
           clear e1 B1 K1)
        | (refine wpLoadA row23 rfl (.tmp 2) rfl b1 0 rfl (jobC j) rfl (unhide BB).range ?_)
        | (go_at_call 10; refine (unhide hM).mono ?_; rintro e W2 ⟨rfl, K2⟩
           obtain ⟨c0, c1, c2, c3, c4⟩ := Job.cells ((unhide BB).kept K2 (by simp))
           have BB2 := hide ((unhide BB).kept K2 (by simp))
           have KK2 := hide ((unhide KK).trans K2)
           have hB := hide (below28' p j.p W2)
           rw [(unhide HB)] at hB
           clear BB KK hM K2)
        | (go_at_call 28; refine (unhide hB).mono ?_; rintro e W3 ⟨rfl, rfl⟩; clear hB)
        | (refine wpLoadA row23 rfl (.tmp 2) rfl b1 0 rfl (jobC j) rfl (unhide BB2).range ?_)
        | (go_at_call 21; refine (start_3 j hm _).mono ?_; rintro e W3 ⟨rfl, K3⟩
           have KK3 := hide ((unhide KK2).trans K3)
           clear BB2 KK2 K3))
      go_ret2
      exact ⟨rfl, unhide KK3⟩

theorem cf21 (vs : Array Value) (w : World) : (callFunc 21 vs).run Try.prog w = .ok (.enter 21 vs) w := by kernel_rfl
theorem vs7 {vs : List Value} (h : vs.length = 7) : ∃ a b c d e f g, vs = [a, b, c, d, e, f, g] := by
  match vs, h with
  | [a, b, c, d, e, f, g], _ => exact ⟨a, b, c, d, e, f, g, rfl⟩
theorem node_le {j : Job} (hm : j.may = true) {n : Int} (hb : below n j.n = true) : 0 ≤ n * (1 + 2 * j.l) ∧ n * (1 + 2 * j.l) + (1 + 2 * j.l) ≤ j.L := by
  have hb2 : 0 ≤ n ∧ n < j.n := by simpa [below] using hb
  simp only [Job.may, decide_eq_true_eq] at hm
  refine ⟨Int.mul_nonneg (by omega) (by omega), ?_⟩
  have : (n + 1) * (1 + 2 * j.l) ≤ j.n * (1 + 2 * j.l) := Int.mul_le_mul (by omega) (by omega) (by omega) (by omega)
  rw [Int.add_mul, Int.one_mul] at this
  exact this

set_option maxHeartbeats 1000000 in
set_option maxRecDepth 100000 in
theorem head20 (j : Job) (n : Int) (w : World) : Calls Try.prog 20 #[aggV (jobC j), .int .i64 n] w fun e w' => e = .returned (two (j.head n)) ∧ Kept [] w w' := by
  cases hm : j.may with
  | false =>
    have hr : j.head n = (0, 2) := by simp [Job.head, hm]
    rw [hr]
    go_enter Try.func20, Try.ntmps20
    go_wp2_with (
      first
      | (refine wpBoxV rfl (.tmp 0) rfl (jobC j) rfl ?_
         intro W1 b1 e1 B1 K1
         have BB := hide B1
         have KK := hide K1
         have hM := hide (may10 j W1)
         rw [hm] at hM
         clear e1 B1 K1)
      | (refine wpLoadA row23 rfl (.tmp 2) rfl b1 0 rfl (jobC j) rfl (unhide BB).range ?_)
      | (go_at_call 10; refine (unhide hM).mono ?_; rintro e W2 ⟨rfl, K2⟩
         obtain ⟨c0, c1, c2, c3, c4⟩ := Job.cells ((unhide BB).kept K2 (by simp))
         have BB2 := hide ((unhide BB).kept K2 (by simp))
         have KK2 := hide ((unhide KK).trans K2)
         clear BB KK hM K2))
    go_ret2
    exact ⟨rfl, unhide KK2⟩
  | true =>
    have hL := Job.L_le hm
    cases hb : below n j.n with
    | false =>
      have hr : j.head n = (0, 2) := by simp [Job.head, hb]
      rw [hr]
      go_enter Try.func20, Try.ntmps20
      go_wp2_with (
        first
        | (refine wpBoxV rfl (.tmp 0) rfl (jobC j) rfl ?_
           intro W1 b1 e1 B1 K1
           have BB := hide B1
           have KK := hide K1
           have hM := hide (may10 j W1)
           rw [hm] at hM
           clear e1 B1 K1)
        | (refine wpLoadA row23 rfl (.tmp 2) rfl b1 0 rfl (jobC j) rfl (unhide BB).range ?_)
        | (go_at_call 10; refine (unhide hM).mono ?_; rintro e W2 ⟨rfl, K2⟩
           obtain ⟨c0, c1, c2, c3, c4⟩ := Job.cells ((unhide BB).kept K2 (by simp))
           have BB2 := hide ((unhide BB).kept K2 (by simp))
           have KK2 := hide ((unhide KK).trans K2)
           have hB := hide (below28' n j.n W2)
           rw [hb] at hB
           clear BB KK hM K2)
        | (go_at_call 28; refine (unhide hB).mono ?_; rintro e W3 ⟨rfl, rfl⟩; clear hB))
      go_ret2
      exact ⟨rfl, unhide KK2⟩
    | true =>
      have hr : j.head n = (9 + n * (1 + 2 * j.l), 0) := by simp [Job.head, hm, hb]
      rw [hr]
      have hnl := hide (node_le hm hb)
      have HB := hide hb
      clear hb
      go_enter Try.func20, Try.ntmps20
      go_wp2_with (
        first
        | (refine wpBoxV rfl (.tmp 0) rfl (jobC j) rfl ?_
           intro W1 b1 e1 B1 K1
           have BB := hide B1
           have KK := hide K1
           have hM := hide (may10 j W1)
           rw [hm] at hM
           clear e1 B1 K1)
        | (refine wpLoadA row23 rfl (.tmp 2) rfl b1 0 rfl (jobC j) rfl (unhide BB).range ?_)
        | (go_at_call 10; refine (unhide hM).mono ?_; rintro e W2 ⟨rfl, K2⟩
           obtain ⟨c0, c1, c2, c3, c4⟩ := Job.cells ((unhide BB).kept K2 (by simp))
           have BB2 := hide ((unhide BB).kept K2 (by simp))
           have KK2 := hide ((unhide KK).trans K2)
           have hB := hide (below28' n j.n W2)
           rw [(unhide HB)] at hB
           clear BB KK hM K2)
        | (go_at_call 28; refine (unhide hB).mono ?_; rintro e W3 ⟨rfl, rfl⟩; clear hB))
      refine wp_region_prefix mixed 7 2 rfl (by kernel_rfl) (tab [.is (aggV (jobC j)), .is (.int .i64 9), .is (.int .i64 n), .is (aggV (jobC j)), .is (.int .i64 (1 + 2 * j.l)), .is (.int .i64 (n * (1 + 2 * j.l))), .is (.int .i64 (9 + n * (1 + 2 * j.l)))]) (apartE []) (tab_kept _) (by kernel_rfl) ?_ ?_
      · intro i o hi ho a w2 hout hin hk
        have hn1 := unhide hnl
        match i, ho with
        | 0, ho =>
          obtain rfl := Option.some.inj ho
          exact wp_loadA row23 (.tmp 2) rfl b1 0 ((hout 2 (by kernel_rfl)).trans rfl) (jobC j) rfl ((unhide BB2).kept hk (by simp)).range ⟨_, rfl, rfl, Kept.refl _ _, fun i u _ _ _ => apart_no (by decide) i u _⟩
        | 1, ho =>
          obtain rfl := Option.some.inj ho
          have e0 : a.eval (.tmp 16) = aggV (jobC j) := hin 0 16 (by kernel_rfl) (by kernel_rfl)
          refine wp_callF 21 _ _ rfl #[aggV (jobC j), .int .i64 2] (by simp [e0]; rfl) (cf21 _ _) ((start_2 j hm w2).mono ?_)
          rintro e w3 ⟨rfl, hk3⟩
          exact ⟨_, rfl, _, rfl, rfl, hk3, fun i u _ _ _ => apart_no (by decide) i u _⟩
        | 2, ho =>
          obtain rfl := Option.some.inj ho
          exact o_move (.tmp 1) rfl ⟨_, rfl, (hout 1 (by kernel_rfl)).trans rfl, Kept.refl _ _, fun i u _ _ _ => apart_no (by decide) i u _⟩
        | 3, ho =>
          obtain rfl := Option.some.inj ho
          exact wp_loadA row23 (.tmp 2) rfl b1 0 ((hout 2 (by kernel_rfl)).trans rfl) (jobC j) rfl ((unhide BB2).kept hk (by simp)).range ⟨_, rfl, rfl, Kept.refl _ _, fun i u _ _ _ => apart_no (by decide) i u _⟩
        | 4, ho =>
          obtain rfl := Option.some.inj ho
          have e0 : a.eval (.tmp 19) = aggV (jobC j) := hin 3 19 (by kernel_rfl) (by kernel_rfl)
          refine wp_callF 26 _ _ rfl #[aggV (jobC j)] (by simp [e0]) (cf26 _ _) ((logSize26 j hm w2).mono ?_)
          rintro e w3 ⟨rfl, hk3⟩
          exact ⟨_, rfl, _, rfl, rfl, hk3, fun i u _ _ _ => apart_no (by decide) i u _⟩
        | 5, ho =>
          obtain rfl := Option.some.inj ho
          have e0 : a.eval (.tmp 18) = .int .i64 n := hin 2 18 (by kernel_rfl) (by kernel_rfl)
          have e1 : a.eval (.tmp 20) = .int .i64 (1 + 2 * j.l) := hin 4 20 (by kernel_rfl) (by kernel_rfl)
          simp only [Job.may, decide_eq_true_eq] at hm
          exact o_mul3 (.tmp 18) (.tmp 20) rfl _ _ (by omega) e0 e1 ⟨_, rfl, rfl, Kept.refl _ _, fun i u _ _ _ => apart_no (by decide) i u _⟩
        | 6, ho =>
          obtain rfl := Option.some.inj ho
          have e0 : a.eval (.tmp 17) = .int .i64 9 := hin 1 17 (by kernel_rfl) (by kernel_rfl)
          have e1 : a.eval (.tmp 21) = .int .i64 (n * (1 + 2 * j.l)) := hin 5 21 (by kernel_rfl) (by kernel_rfl)
          simp only [Job.may, decide_eq_true_eq] at hm
          exact o_add3 (.tmp 17) (.tmp 21) rfl _ _ (by omega) e0 e1 ⟨_, rfl, rfl, Kept.refl _ _, fun i u _ _ _ => apart_no (by decide) i u _⟩
      · intro vs w3 hlen hF hE hk
        obtain ⟨x0, x1, x2, x3, x4, x5, x6, rfl⟩ := vs7 hlen
        obtain rfl : x0 = _ := hF 0 _ rfl
        obtain rfl : x1 = _ := hF 1 _ rfl
        obtain rfl : x2 = _ := hF 2 _ rfl
        obtain rfl : x3 = _ := hF 3 _ rfl
        obtain rfl : x4 = _ := hF 4 _ rfl
        obtain rfl : x5 = _ := hF 5 _ rfl
        obtain rfl : x6 = _ := hF 6 _ rfl
        have dk3 := hide ((unhide KK2).trans hk)
        clear hF hE hk KK2 BB2 c0 c1 c2 c3 c4
        simp only [List.take_succ_cons, List.take_zero, putAll, Act.put, List.setIfInBounds_toArray, List.set_cons_succ, List.set_cons_zero]
        refine wpAny_all (rs := [7]) (by kernel_rfl) (by simp) ?_
        intro i hi
        obtain rfl : i = 7 := by simpa using hi
        refine wpOp_of rfl rfl (wp_assign (.tmp 22) rfl ?_)
        refine wpAny_all (rs := [8]) (by kernel_rfl) (by simp) ?_
        intro i hi
        obtain rfl : i = 8 := by simpa using hi
        refine wpOp_of rfl rfl (wp_assign (.const (.int .i64 0)) rfl ?_)
        refine wpAny_done (by kernel_rfl) ?_ _
        go_wp2_with fail
        go_ret2
        exact ⟨rfl, unhide dk3⟩

set_option maxHeartbeats 1000000 in
theorem record16 (j : Job) (n s : Int) (w : World) : Calls Try.prog 16 #[aggV (jobC j), .int .i64 n, .int .i64 s] w fun e w' => e = .returned (two (j.record n s)) ∧ Kept [] w w' := by
  cases hm : (j.may && below n j.n) with
  | false =>
    have hr : j.record n s = (0, 2) := by simp [Job.record, hm]
    have hh : j.head n = (0, 2) := by simp [Job.head, hm]
    rw [hr]
    go_enter Try.func16, Try.ntmps16
    go_wp2_with (
      first
      | (refine wpBoxV rfl (.tmp 0) rfl (jobC j) rfl ?_
         intro W1 b1 e1 B1 K1
         have BB := hide B1
         have KK := hide K1
         have hM := hide (head20 j n W1)
         rw [hh] at hM
         clear e1 B1 K1)
      | (refine wpLoadA row23 rfl (.tmp 3) rfl b1 0 rfl (jobC j) rfl (unhide BB).range ?_)
      | (go_at_call 20; refine (unhide hM).mono ?_; rintro e W2 ⟨rfl, K2⟩
         obtain ⟨c0, c1, c2, c3, c4⟩ := Job.cells ((unhide BB).kept K2 (by simp))
         have KK2 := hide ((unhide KK).trans K2)
         clear BB KK hM K2))
    go_ret2
    exact ⟨rfl, unhide KK2⟩
  | true =>
    have hh : j.head n = (9 + n * (1 + 2 * j.l), 0) := by simp [Job.head, hm]
    rw [Bool.and_eq_true] at hm
    have hnl := node_le hm.1 hm.2
    have hL := Job.L_le hm.1
    have hl : 2 ≤ j.l ∧ j.l ≤ 64 := by have := hm.1; simp only [Job.may, decide_eq_true_eq] at this; omega
    generalize hnn : n * (1 + 2 * j.l) = nn at hh hnl
    by_cases h1 : s < 1
    · have hr : j.record n s = (0, 2) := by simp [Job.record, lsnB]; omega
      rw [hr]
      clear hr hnn
      go_enter Try.func16, Try.ntmps16
      go_wp2_with (
        first
        | (refine wpBoxV rfl (.tmp 0) rfl (jobC j) rfl ?_
           intro W1 b1 e1 B1 K1
           have BB := hide B1
           have KK := hide K1
           have hM := hide (head20 j n W1)
           rw [hh] at hM
           clear e1 B1 K1)
        | (refine wpLoadA row23 rfl (.tmp 3) rfl b1 0 rfl (jobC j) rfl (unhide BB).range ?_)
        | (go_at_call 20; refine (unhide hM).mono ?_; rintro e W2 ⟨rfl, K2⟩
           obtain ⟨c0, c1, c2, c3, c4⟩ := Job.cells ((unhide BB).kept K2 (by simp))
           have KK2 := hide ((unhide KK).trans K2)
           clear BB KK hM K2))
      go_ret2
      exact ⟨rfl, unhide KK2⟩
    · by_cases h2 : s > 2147483647
      · have hr : j.record n s = (0, 2) := by simp [Job.record, lsnB]; omega
        rw [hr]
        clear hr hnn
        go_enter Try.func16, Try.ntmps16
        go_wp2_with (
          first
          | (refine wpBoxV rfl (.tmp 0) rfl (jobC j) rfl ?_
             intro W1 b1 e1 B1 K1
             have BB := hide B1
             have KK := hide K1
             have hM := hide (head20 j n W1)
             rw [hh] at hM
             clear e1 B1 K1)
          | (refine wpLoadA row23 rfl (.tmp 3) rfl b1 0 rfl (jobC j) rfl (unhide BB).range ?_)
          | (go_at_call 20; refine (unhide hM).mono ?_; rintro e W2 ⟨rfl, K2⟩
             obtain ⟨c0, c1, c2, c3, c4⟩ := Job.cells ((unhide BB).kept K2 (by simp))
             have KK2 := hide ((unhide KK).trans K2)
             clear BB KK hM K2))
        go_ret2
        exact ⟨rfl, unhide KK2⟩
      · have hmod : 0 ≤ (s - 1) % j.l ∧ (s - 1) % j.l < j.l := ⟨Int.emod_nonneg _ (by omega), Int.emod_lt_of_pos _ (by omega)⟩
        have hr : j.record n s = (9 + nn + 1 + 2 * ((s - 1) % j.l), 0) := by
          have hs : lsnB s = true := by simp [lsnB]; omega
          simp [Job.record, hm.1, hm.2, hs, hnn]
        rw [hr]
        clear hr hnn
        go_enter Try.func16, Try.ntmps16
        go_wp2_with (
          first
          | (refine wpBoxV rfl (.tmp 0) rfl (jobC j) rfl ?_
             intro W1 b1 e1 B1 K1
             have BB := hide B1
             have KK := hide K1
             have hM := hide (head20 j n W1)
             rw [hh] at hM
             clear e1 B1 K1)
          | (refine wpLoadA row23 rfl (.tmp 3) rfl b1 0 rfl (jobC j) rfl (unhide BB).range ?_)
          | (go_at_call 20; refine (unhide hM).mono ?_; rintro e W2 ⟨rfl, K2⟩
             obtain ⟨c0, c1, c2, c3, c4⟩ := Job.cells ((unhide BB).kept K2 (by simp))
             have KK2 := hide ((unhide KK).trans K2)
             clear BB KK hM K2))
        go_ret2
        exact ⟨rfl, unhide KK2⟩

end Go.Proofs.Ytcfoebpbbmnleaa
