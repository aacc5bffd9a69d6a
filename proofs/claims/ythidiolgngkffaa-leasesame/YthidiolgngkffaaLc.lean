/-
  none, has, in, New.
-/
import Derived.Test.YthidiolgngkffaaLb
namespace Go.Proofs.Ythidiolgngkffaa
set_option maxRecDepth 100000
open Go.RowKit


/-- A watch that stands: its sizes may be, and no age is beyond A. -/
structure Wt.Ok (A : Int) (v : Wt) : Prop where
  n : 1 ≤ v.n ∧ v.n ≤ 8
  p : 1 ≤ v.p ∧ v.p ≤ 100
  len : v.ls.length = 8
  age : ∀ k ∈ v.ls, 0 ≤ k.age ∧ k.age ≤ A
theorem Wt.Ok.mono {A B : Int} {v : Wt} (h : v.Ok A) (hAB : A ≤ B) : v.Ok B := ⟨h.n, h.p, h.len, fun k hk => by have := h.age k hk; omega⟩
def sizeOk (n p : Int) : Bool := decide (1 ≤ n ∧ n ≤ 8 ∧ 1 ≤ p ∧ p ≤ 100)
theorem new_ok {n p : Int} (h : sizeOk n p = true) : (Wt.mk n p lk8).Ok 0 := by
  simp only [sizeOk, decide_eq_true_eq] at h
  refine ⟨by simp; omega, by simp; omega, rfl, ?_⟩
  intro k hk
  simp [lk8] at hk
  subst hk
  exact ⟨by decide, by decide⟩
def Wt.has (v : Wt) (m : Int) : Bool := decide (0 ≤ m ∧ m < v.n)
def Wt.lk (v : Wt) (m : Int) : Lk := v.ls.getD m.toNat lk0
theorem lk_at {A : Int} {v : Wt} (h : v.Ok A) {m : Int} (hm : v.has m = true) : v.ls[m.toNat]? = some (v.lk m) := by
  have := h.n
  have := h.len
  simp [Wt.has] at hm
  unfold Wt.lk
  rw [List.getD_eq_getElem?_getD, List.getElem?_eq_getElem (by omega)]; rfl
theorem Blk.n {w : World} {b T : Nat} {v : Wt} (h : Blk w b T v.C) : w.cell? ⟨b, 0, none⟩ = some (.int .i64 v.n) := fits_cell h 0 _ rfl
theorem Blk.p {w : World} {b T : Nat} {v : Wt} (h : Blk w b T v.C) : w.cell? ⟨b, 1, none⟩ = some (.int .i64 v.p) := fits_cell h 1 _ rfl
theorem none_is (v : Wt) (b : Nat) (w : World) (h : Blk w b 65 v.C) (h0 : 1 ≤ v.n) : Calls Try.prog 39 #[P0 b] w fun e w' => e = .returned (.bool false) ∧ w' = w := by
  have c0 := h.n
  have hd : decide (v.n = 0) = false := by simp; omega
  have hd2 : (v.n == 0) = false := by simp; omega
  clear h
  go_enter Try.func39, Try.ntmps39
  go_wp2_with fail
  go_ret
  exact ⟨rfl, rfl⟩
theorem none_z (v : Wt) (b : Nat) (w : World) (h : Blk w b 65 v.C) (h0 : v.n = 0) : Calls Try.prog 39 #[P0 b] w fun e w' => e = .returned (.bool true) ∧ w' = w := by
  have c0 := h.n
  rw [h0] at c0
  clear h h0
  go_enter Try.func39, Try.ntmps39
  go_wp2_with fail
  go_ret
  exact ⟨rfl, rfl⟩
theorem none_nil (w : World) : Calls Try.prog 39 #[.pointer none] w fun e w' => e = .returned (.bool true) ∧ w' = w := by
  go_enter Try.func39, Try.ntmps39
  go_wp2_with fail
  go_ret
  exact ⟨rfl, rfl⟩
theorem has_is (v : Wt) (b : Nat) (m : Int) (w : World) (h : Blk w b 65 v.C) (h0 : 1 ≤ v.n) : Calls Try.prog 40 #[P0 b, .int .i64 m] w fun e w' => e = .returned (.bool (v.has m)) ∧ w' = w := by
  have c0 := h.n
  have P39 := hide (none_is v b w h h0)
  clear h
  unfold Wt.has
  by_cases h1 : 0 ≤ m
  · have d1 : decide (0 ≤ m) = true := by simpa using h1
    go_enter Try.func40, Try.ntmps40
    go_wp2_with (
      first
      | (go_at_call 39; refine (unhide P39).mono ?_; rintro e w2 ⟨rfl, rfl⟩; clear P39))
    go_ret
    exact ⟨ret_bool (by simp; omega), rfl⟩
  · have d1 : decide (0 ≤ m) = false := by simpa using h1
    go_enter Try.func40, Try.ntmps40
    go_wp2_with (
      first
      | (go_at_call 39; refine (unhide P39).mono ?_; rintro e w2 ⟨rfl, rfl⟩; clear P39))
    go_ret
    exact ⟨ret_bool (by simp; omega), rfl⟩
theorem has_no (p : Value) (m : Int) (w : World) (hn : Calls Try.prog 39 #[p] w fun e w' => e = .returned (.bool true) ∧ w' = w) : Calls Try.prog 40 #[p, .int .i64 m] w fun e w' => e = .returned (.bool false) ∧ w' = w := by
  have P39 := hide hn
  clear hn
  go_enter Try.func40, Try.ntmps40
  go_wp2_with (
    first
    | (go_at_call 39; refine (unhide P39).mono ?_; rintro e w2 ⟨rfl, rfl⟩; clear P39))
  go_ret
  exact ⟨rfl, rfl⟩
theorem in44 (v : Wt) (b : Nat) (m : Int) (w : World) (h : Blk w b 79 v.C) : Calls Try.prog 44 #[P0 b, .int .i64 m] w fun e w' => e = .returned (.bool (v.has m)) ∧ w' = w := by
  have c0 := h.n
  clear h
  unfold Wt.has
  by_cases h1 : 0 ≤ m
  · have d1 : decide (0 ≤ m) = true := by simpa using h1
    go_enter Try.func44, Try.ntmps44
    go_wp2_with fail
    go_ret
    exact ⟨ret_bool (by simp; omega), rfl⟩
  · have d1 : decide (0 ≤ m) = false := by simpa using h1
    go_enter Try.func44, Try.ntmps44
    go_wp2_with fail
    go_ret
    exact ⟨ret_bool (by simp <;> omega), rfl⟩
theorem new_no (n p : Int) (w : World) (h : sizeOk n p = false) : Calls Try.prog 15 #[.int .i64 n, .int .i64 p] w fun e w' => e = .returned (.tuple #[.pointer none, .int .i64 2]) ∧ w' = w := by
  have hs : ¬ (1 ≤ n ∧ n ≤ 8 ∧ 1 ≤ p ∧ p ≤ 100) := by simpa [sizeOk] using h
  clear h
  by_cases h0 : n < 1
  · have d0 : decide (n < 1) = true := by simpa using h0
    clear hs
    go_enter Try.func15, Try.ntmps15
    go_wp2_with fail
    go_ret2
    exact ⟨rfl, rfl⟩
  have d0 : decide (n < 1) = false := by simpa using h0
  by_cases h1 : 8 < n
  · have d1 : decide (8 < n) = true := by simpa using h1
    clear hs
    go_enter Try.func15, Try.ntmps15
    go_wp2_with fail
    go_ret2
    exact ⟨rfl, rfl⟩
  have d1 : decide (8 < n) = false := by simpa using h1
  by_cases h2 : p < 1
  · have d2 : decide (p < 1) = true := by simpa using h2
    clear hs
    go_enter Try.func15, Try.ntmps15
    go_wp2_with fail
    go_ret2
    exact ⟨rfl, rfl⟩
  have d2 : decide (p < 1) = false := by simpa using h2
  have h3 : 100 < p := by omega
  have d3 : decide (100 < p) = true := by simpa using h3
  clear hs
  go_enter Try.func15, Try.ntmps15
  go_wp2_with fail
  go_ret2
  exact ⟨rfl, rfl⟩
theorem new_yes (n p : Int) (w : World) (h : sizeOk n p = true) : Calls Try.prog 15 #[.int .i64 n, .int .i64 p] w fun e w' => ∃ b, e = .returned (.tuple #[P0 b, .int .i64 0]) ∧ b = w.heap.size ∧ Blk w' b 65 (Wt.mk n p lk8).C ∧ Kept [] w w' := by
  have hs : (1 ≤ n ∧ n ≤ 8 ∧ 1 ≤ p ∧ p ≤ 100) := by simpa [sizeOk] using h
  obtain ⟨h0, h1, h2, h3⟩ := hs
  clear h
  have d0 : decide (n < 1) = false := by simp; omega
  have d1 : decide (8 < n) = false := by simp; omega
  have d2 : decide (p < 1) = false := by simp; omega
  have d3 : decide (100 < p) = false := by simp; omega
  go_enter Try.func15, Try.ntmps15
  go_wp2_with (
    first
    | (refine wpBuildP rfl #[(0, .tmp 20), (1, .tmp 21)] (by rfl) #[(0, .int .i64 n), (1, .int .i64 p)] (by kernel_rfl) (Wt.mk n p lk8).C (build65p _ n p) ?_
       refine Stp.go ?_))
  constructor
  go_wp2_with (
    first
    | (refine wpBoxV rfl (.tmp 22) rfl ((Wt.mk n p lk8).C) rfl ?_
       intro W1 b1 e1 B1 K1
       have EB := hide e1
       have BB := hide B1
       have KK := hide K1
       clear e1 B1 K1
       refine Stp.go ?_))
  constructor
  go_wp2_with fail
  go_ret2
  exact ⟨b1, rfl, unhide EB, unhide BB, unhide KK⟩
theorem rnew_no (n p : Int) (w : World) (h : sizeOk n p = false) : Calls Try.prog 16 #[.int .i64 n, .int .i64 p] w fun e w' => e = .returned (.pointer none) ∧ w' = w := by
  have hs : ¬ (1 ≤ n ∧ n ≤ 8 ∧ 1 ≤ p ∧ p ≤ 100) := by simpa [sizeOk] using h
  clear h
  by_cases h0 : n < 1
  · have d0 : decide (n < 1) = true := by simpa using h0
    clear hs
    go_enter Try.func16, Try.ntmps16
    go_wp2_with fail
    go_ret
    exact ⟨rfl, rfl⟩
  have d0 : decide (n < 1) = false := by simpa using h0
  by_cases h1 : 8 < n
  · have d1 : decide (8 < n) = true := by simpa using h1
    clear hs
    go_enter Try.func16, Try.ntmps16
    go_wp2_with fail
    go_ret
    exact ⟨rfl, rfl⟩
  have d1 : decide (8 < n) = false := by simpa using h1
  by_cases h2 : p < 1
  · have d2 : decide (p < 1) = true := by simpa using h2
    clear hs
    go_enter Try.func16, Try.ntmps16
    go_wp2_with fail
    go_ret
    exact ⟨rfl, rfl⟩
  have d2 : decide (p < 1) = false := by simpa using h2
  have h3 : 100 < p := by omega
  have d3 : decide (100 < p) = true := by simpa using h3
  clear hs
  go_enter Try.func16, Try.ntmps16
  go_wp2_with fail
  go_ret
  exact ⟨rfl, rfl⟩
theorem rnew_yes (n p : Int) (w : World) (h : sizeOk n p = true) : Calls Try.prog 16 #[.int .i64 n, .int .i64 p] w fun e w' => ∃ b, e = .returned (P0 b) ∧ b = w.heap.size ∧ Blk w' b 79 (Wt.mk n p lk8).C ∧ Kept [] w w' := by
  have hs : (1 ≤ n ∧ n ≤ 8 ∧ 1 ≤ p ∧ p ≤ 100) := by simpa [sizeOk] using h
  obtain ⟨h0, h1, h2, h3⟩ := hs
  clear h
  have d0 : decide (n < 1) = false := by simp; omega
  have d1 : decide (8 < n) = false := by simp; omega
  have d2 : decide (p < 1) = false := by simp; omega
  have d3 : decide (100 < p) = false := by simp; omega
  go_enter Try.func16, Try.ntmps16
  go_wp2_with (
    first
    | (refine wpBuildP rfl #[(0, .tmp 19), (1, .tmp 20)] (by rfl) #[(0, .int .i64 n), (1, .int .i64 p)] (by kernel_rfl) (Wt.mk n p lk8).C (build79p _ n p) ?_
       refine Stp.go ?_))
  constructor
  go_wp2_with (
    first
    | (refine wpBoxV rfl (.tmp 21) rfl ((Wt.mk n p lk8).C) rfl ?_
       intro W1 b1 e1 B1 K1
       have EB := hide e1
       have BB := hide B1
       have KK := hide K1
       clear e1 B1 K1
       refine Stp.go ?_))
  constructor
  go_wp2_with fail
  go_ret
  exact ⟨b1, rfl, unhide EB, unhide BB, unhide KK⟩

end Go.Proofs.Ythidiolgngkffaa
