/-
  cmp.Compare, cmp.Or.
-/
import Derived.Test.YthihladmifpokaaQd
namespace Go.Proofs.Ythihladmifpokaa
set_option maxRecDepth 100000
set_option linter.unusedSimpArgs false
open Go.RowKit

/-- As cmp.Compare says. -/
def cmpI (m n : Int) : Int := if m < n then -1 else if m > n then 1 else 0
theorem nan55 (n : Int) (w : World) : Calls Try.prog 55 #[.int .i64 n] w fun e W => e = .returned (.bool false) ∧ W = w := by
  have d0 : (n != n) = false := by simp
  have d1 : (n == n) = true := by simp
  go_enter Try.func55, Try.ntmps55
  go_wp2_with fail
  go_ret
  exact ⟨rfl, rfl⟩
theorem cmp51 (m n : Int) (w : World) : Calls Try.prog 51 #[.int .i64 m, .int .i64 n] w fun e W => e = .returned (.int .i64 (cmpI m n)) ∧ W = w := by
  unfold cmpI
  by_cases h1 : m < n
  · have d1 : decide (m < n) = true := by simpa using h1
    rw [if_pos h1]
    clear h1
    go_enter Try.func51, Try.ntmps51
    go_wp2_with (
      first
      | (go_at_call 55
         refine (nan55 m _).mono ?_
         rintro e W9 ⟨rfl, q9⟩
         replace q9 := q9.symm
         subst q9
         refine Stp.go ?_))
    constructor
    go_wp2_with (
      first
      | (go_at_call 55
         refine (nan55 n _).mono ?_
         rintro e W9 ⟨rfl, q9⟩
         replace q9 := q9.symm
         subst q9
         refine Stp.go ?_))
    constructor
    go_wp2_with fail
    go_ret
    exact ⟨rfl, rfl⟩
  · have d1 : decide (m < n) = false := by simpa using h1
    rw [if_neg h1]
    clear h1
    by_cases h2 : m > n
    · have d2 : decide (m > n) = true := by simpa using h2
      rw [if_pos h2]
      clear h2
      go_enter Try.func51, Try.ntmps51
      go_wp2_with (
        first
        | (go_at_call 55
           refine (nan55 m _).mono ?_
           rintro e W9 ⟨rfl, q9⟩
           replace q9 := q9.symm
           subst q9
           refine Stp.go ?_))
      constructor
      go_wp2_with (
        first
        | (go_at_call 55
           refine (nan55 n _).mono ?_
           rintro e W9 ⟨rfl, q9⟩
           replace q9 := q9.symm
           subst q9
           refine Stp.go ?_))
      constructor
      go_wp2_with fail
      go_ret
      exact ⟨rfl, rfl⟩
    · have d2 : decide (m > n) = false := by simpa using h2
      rw [if_neg h2]
      clear h2
      go_enter Try.func51, Try.ntmps51
      go_wp2_with (
        first
        | (go_at_call 55
           refine (nan55 m _).mono ?_
           rintro e W9 ⟨rfl, q9⟩
           replace q9 := q9.symm
           subst q9
           refine Stp.go ?_))
      constructor
      go_wp2_with (
        first
        | (go_at_call 55
           refine (nan55 n _).mono ?_
           rintro e W9 ⟨rfl, q9⟩
           replace q9 := q9.symm
           subst q9
           refine Stp.go ?_))
      constructor
      go_wp2_with fail
      go_ret
      exact ⟨rfl, rfl⟩
theorem nan56 (n : Int) (w : World) : Calls Try.prog 56 #[.int .i64 n] w fun e W => e = .returned (.bool false) ∧ W = w := by
  have d0 : (n != n) = false := by simp
  have d1 : (n == n) = true := by simp
  go_enter Try.func56, Try.ntmps56
  go_wp2_with fail
  go_ret
  exact ⟨rfl, rfl⟩
theorem cmp52 (m n : Int) (w : World) : Calls Try.prog 52 #[.int .i64 m, .int .i64 n] w fun e W => e = .returned (.int .i64 (cmpI m n)) ∧ W = w := by
  unfold cmpI
  by_cases h1 : m < n
  · have d1 : decide (m < n) = true := by simpa using h1
    rw [if_pos h1]
    clear h1
    go_enter Try.func52, Try.ntmps52
    go_wp2_with (
      first
      | (go_at_call 56
         refine (nan56 m _).mono ?_
         rintro e W9 ⟨rfl, q9⟩
         replace q9 := q9.symm
         subst q9
         refine Stp.go ?_))
    constructor
    go_wp2_with (
      first
      | (go_at_call 56
         refine (nan56 n _).mono ?_
         rintro e W9 ⟨rfl, q9⟩
         replace q9 := q9.symm
         subst q9
         refine Stp.go ?_))
    constructor
    go_wp2_with fail
    go_ret
    exact ⟨rfl, rfl⟩
  · have d1 : decide (m < n) = false := by simpa using h1
    rw [if_neg h1]
    clear h1
    by_cases h2 : m > n
    · have d2 : decide (m > n) = true := by simpa using h2
      rw [if_pos h2]
      clear h2
      go_enter Try.func52, Try.ntmps52
      go_wp2_with (
        first
        | (go_at_call 56
           refine (nan56 m _).mono ?_
           rintro e W9 ⟨rfl, q9⟩
           replace q9 := q9.symm
           subst q9
           refine Stp.go ?_))
      constructor
      go_wp2_with (
        first
        | (go_at_call 56
           refine (nan56 n _).mono ?_
           rintro e W9 ⟨rfl, q9⟩
           replace q9 := q9.symm
           subst q9
           refine Stp.go ?_))
      constructor
      go_wp2_with fail
      go_ret
      exact ⟨rfl, rfl⟩
    · have d2 : decide (m > n) = false := by simpa using h2
      rw [if_neg h2]
      clear h2
      go_enter Try.func52, Try.ntmps52
      go_wp2_with (
        first
        | (go_at_call 56
           refine (nan56 m _).mono ?_
           rintro e W9 ⟨rfl, q9⟩
           replace q9 := q9.symm
           subst q9
           refine Stp.go ?_))
      constructor
      go_wp2_with (
        first
        | (go_at_call 56
           refine (nan56 n _).mono ?_
           rintro e W9 ⟨rfl, q9⟩
           replace q9 := q9.symm
           subst q9
           refine Stp.go ?_))
      constructor
      go_wp2_with fail
      go_ret
      exact ⟨rfl, rfl⟩

end Go.Proofs.Ythihladmifpokaa
