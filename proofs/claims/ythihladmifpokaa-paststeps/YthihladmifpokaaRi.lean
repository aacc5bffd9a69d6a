/-
  The chapter's rows.
-/
import Derived.Test.YthihladmifpokaaRh
namespace Go.Proofs.Ythihladmifpokaa
set_option maxRecDepth 100000
set_option linter.unusedSimpArgs false
open Go.RowKit


def m1 : List Mk := [⟨1, 5, 3⟩]
def m2 : List Mk := [⟨1, 5, 3⟩, ⟨1, 8, 9⟩]
def m3 : List Mk := [⟨1, 8, 9⟩]
theorem srt2 : Srt m2 := by unfold Srt m2; simp [lessB]
theorem srt3 : Srt m3 := by unfold Srt m3; simp
theorem old2 : fndM (ofF (leastF m2)) m2 = ⟨1, 5, 3⟩ ∧ fndB (ofF (leastF m2)) m2 = true := by decide
theorem row2 (W : World) : (Instr.build 54 #[(0, .int .i64 1), (1, .int .i64 5), (2, .int .i64 3)]).run Try.prog W = .ok (aggV (⟨1, 5, 3⟩ : Mk).C) W := by kernel_rfl
theorem cg13 (vs : Array Value) (w : World) : (callFunc 13 vs).run Try.prog w = .ok (.enter 13 vs) w := by kernel_rfl
theorem cg14 (vs : Array Value) (w : World) : (callFunc 14 vs).run Try.prog w = .ok (.enter 14 vs) w := by kernel_rfl
theorem cg15 (vs : Array Value) (w : World) : (callFunc 15 vs).run Try.prog w = .ok (.enter 15 vs) w := by kernel_rfl
theorem cg16 (vs : Array Value) (w : World) : (callFunc 16 vs).run Try.prog w = .ok (.enter 16 vs) w := by kernel_rfl
theorem cg18 (vs : Array Value) (w : World) : (callFunc 18 vs).run Try.prog w = .ok (.enter 18 vs) w := by kernel_rfl
set_option maxHeartbeats 8000000 in
theorem known7 (w : World) : Calls Try.prog 7 #[] w fun e W => e = .returned (.bool true) ∧ Kept [] w W := by
  go_enter Try.func7, Try.ntmps7
  go_wp2_with (
    first
    | (go_at_call 8
       refine (new8 _).mono ?_
       rintro e W1 ⟨b, mb, rfl, h1, h2, h3, h4⟩
       have HP := hide h1
       have HK := hide h2
       have HG := hide (And.intro h3 h4)
       clear h1 h2 h3 h4
       refine Stp.go ?_))
  constructor
  go_wp2_with (
    first
    | (go_at_call 13
       refine (mark13 (unhide HP)).mono ?_
       rw [show markP 16 1 1 [] = (2, []) from by decide]
       rintro e W2 ⟨rfl, h2, h3⟩
       replace HP := hide h2
       replace HK := hide ((unhide HK).own h3 (by simp; exact (unhide HG).2))
       clear h2 h3
       refine Stp.go ?_))
  constructor
  go_wp2_with (
    first
    | (go_at_call 13
       refine (mark13 (unhide HP)).mono ?_
       rw [show markP 1 0 1 [] = (2, []) from by decide]
       rintro e W3 ⟨rfl, h2, h3⟩
       replace HP := hide h2
       replace HK := hide ((unhide HK).own h3 (by simp; exact (unhide HG).2))
       clear h2 h3
       refine Stp.go ?_))
  constructor
  go_wp2_with (
    first
    | (go_at_call 13
       refine (mark13 (unhide HP)).mono ?_
       rw [show markP 1 5 3 [] = (0, m1) from by decide]
       rintro e W4 ⟨rfl, h2, h3⟩
       replace HP := hide h2
       replace HK := hide ((unhide HK).own h3 (by simp; exact (unhide HG).2))
       clear h2 h3
       refine Stp.go ?_))
  constructor
  go_wp2_with (
    first
    | (go_at_call 13
       refine (mark13 (unhide HP)).mono ?_
       rw [show markP 1 8 9 m1 = (0, m2) from by decide]
       rintro e W5 ⟨rfl, h2, h3⟩
       replace HP := hide h2
       replace HK := hide ((unhide HK).own h3 (by simp; exact (unhide HG).2))
       clear h2 h3
       refine Stp.go ?_))
  constructor
  go_wp2_with (
    first
    | (go_at_call 13
       refine (mark13 (unhide HP)).mono ?_
       rw [show markP 1 5 4 m2 = (0, m2) from by decide]
       rintro e W6 ⟨rfl, h2, h3⟩
       replace HP := hide h2
       replace HK := hide ((unhide HK).own h3 (by simp; exact (unhide HG).2))
       clear h2 h3
       refine Stp.go ?_))
  constructor
  go_wp2_with (
    first
    | (go_at_call 15
       refine (bound15 (F := []) (unhide HP) (Rw.nil _) 20).mono ?_
       rw [show boundP 20 [] m2 = 3 from by decide]
       rintro e W7 ⟨rfl, h3⟩
       replace HP := hide ((unhide HP).step h3 (by simp) (by simp))
       replace HK := hide ((unhide HK).trans h3)
       clear h3
       refine Stp.go ?_))
  constructor
  go_wp2_with (
    first
    | (refine wpBs23W (by kernel_rfl) (.const (.int .i64 0)) (.const (.int .i64 2)) rfl 0 2 rfl rfl ?_
       intro V39 g39 e39 B39 h3
       have HI := hide (Is.two B39)
       replace HP := hide ((unhide HP).step h3 (by simp) (by simp))
       replace HK := hide ((unhide HK).trans h3)
       clear e39 B39 h3
       refine Stp.go ?_))
  constructor
  go_wp2_with (
    first
    | (go_at_call 15
       refine (bound15 (F := [0, 2]) (unhide HP) (unhide HI) 20).mono ?_
       rw [show boundP 20 [0, 2] m2 = 2 from by decide]
       rintro e W8 ⟨rfl, h3⟩
       replace HP := hide ((unhide HP).step h3 (by simp) (by simp))
       replace HK := hide ((unhide HK).trans h3)
       clear h3
       refine Stp.go ?_))
  constructor
  go_wp2_with (
    first
    | (go_at_call 15
       refine (bound15 (F := []) (unhide HP) (Rw.nil _) 2).mono ?_
       rw [show boundP 2 [] m2 = 2 from by decide]
       rintro e W9 ⟨rfl, h3⟩
       replace HP := hide ((unhide HP).step h3 (by simp) (by simp))
       replace HK := hide ((unhide HK).trans h3)
       clear h3
       refine Stp.go ?_))
  constructor
  go_wp2_with (
    first
    | (go_at_call 20
       refine (oldest20 (unhide HP) (List.Perm.refl _) srt2).mono ?_
       rw [old2.1, old2.2]
       rintro e V20 ⟨rfl, h3⟩
       replace HP := hide ((unhide HP).step h3 (by simp) (by simp))
       replace HK := hide ((unhide HK).trans h3)
       clear h3
       refine Stp.go ?_))
  constructor
  go_wp2_with (
    first
    | (refine wpNew row54 mk0.C rfl zero54 10 rfl rfl rfl (.tmp 40) rfl rfl rfl (⟨1, 5, 3⟩ : Mk).C rfl (⟨1, 5, 3⟩ : Mk).one rfl rfl ?_
       intro V21 z e2 B2 h3
       have HZ := hide B2
       have HGZ : Hid (z ≠ mb) := by have := (unhide HP).map; intro e; subst e; obtain ⟨_, _, h9, _⟩ := (unhide HP).map; have := (Array.getElem?_eq_some_iff.1 h9).1; omega
       replace HP := hide ((unhide HP).step h3 (by simp) (by simp))
       replace HK := hide ((unhide HK).trans h3)
       clear e2 B2 h3
       refine Stp.go ?_))
  constructor
  go_wp2_with (
    first
    | (go_at_call 17
       refine (disc17 (unhide HP)).mono ?_
       rw [show discP 1 6 m2 = (1, 0, m3) from by decide]
       rintro e W10 ⟨rfl, h2, h3⟩
       replace HP := hide h2
       replace HZ := hide ((unhide HZ).kept h3 (by simpa using unhide HGZ))
       replace HK := hide ((unhide HK).own h3 (by simp; exact (unhide HG).2))
       clear h2 h3
       refine Stp.go ?_))
  constructor
  go_wp2_with (
    first
    | (go_at_call 15
       refine (bound15 (F := []) (unhide HP) (Rw.nil _) 20).mono ?_
       rw [show boundP 20 [] m3 = 9 from by decide]
       rintro e W11 ⟨rfl, h3⟩
       replace HP := hide ((unhide HP).step h3 (by simp) (by simp))
       replace HZ := hide ((unhide HZ).kept h3 (by simp))
       replace HK := hide ((unhide HK).trans h3)
       clear h3
       refine Stp.go ?_))
  constructor
  go_wp2_with (
    first
    | (go_at_call 17
       refine (disc17 (unhide HP)).mono ?_
       rw [show discP 2 9 m3 = (0, 0, m3) from by decide]
       rintro e W12 ⟨rfl, h2, h3⟩
       replace HP := hide h2
       replace HZ := hide ((unhide HZ).kept h3 (by simpa using unhide HGZ))
       replace HK := hide ((unhide HK).own h3 (by simp; exact (unhide HG).2))
       clear h2 h3
       refine Stp.go ?_))
  constructor
  go_upto_region 10 with fail
  simp only [List.append_eq, List.cons_append, List.nil_append]
  go_wp2_with (
    first
    | (go_at_call 14
       refine (num14 _ _).mono ?_
       rintro e W9 ⟨rfl, q9⟩
       replace q9 := q9.symm
       subst q9
       refine Stp.go ?_))
  constructor
  go_wp2_with (
    first
    | (go_at_call 14
       refine (num14 _ _).mono ?_
       rintro e W9 ⟨rfl, q9⟩
       replace q9 := q9.symm
       subst q9
       refine Stp.go ?_))
  constructor
  go_wp2_with (
    first
    | (go_at_call 14
       refine (num14 _ _).mono ?_
       rintro e W9 ⟨rfl, q9⟩
       replace q9 := q9.symm
       subst q9
       refine Stp.go ?_))
  constructor
  go_wp2_with (
    first
    | (go_at_call 14
       refine (num14 _ _).mono ?_
       rintro e W9 ⟨rfl, q9⟩
       replace q9 := q9.symm
       subst q9
       refine Stp.go ?_))
  constructor
  go_wp2_with (
    first
    | (go_at_call 14
       refine (num14 _ _).mono ?_
       rintro e W9 ⟨rfl, q9⟩
       replace q9 := q9.symm
       subst q9
       refine Stp.go ?_))
  constructor
  go_wp2_with (
    first
    | (go_at_call 14
       refine (num14 _ _).mono ?_
       rintro e W9 ⟨rfl, q9⟩
       replace q9 := q9.symm
       subst q9
       refine Stp.go ?_))
  constructor
  go_wp2_with (
    first
    | (go_at_call 14
       refine (num14 _ _).mono ?_
       rintro e W9 ⟨rfl, q9⟩
       replace q9 := q9.symm
       subst q9
       refine Stp.go ?_))
  constructor
  go_wp2_with (
    first
    | (refine wpLoadG row54 (.tmp 10) rfl (by rfl) z 0 rfl (⟨1, 5, 3⟩ : Mk).C rfl (unhide HZ).range ?_
       refine Stp.go ?_))
  constructor
  go_wp2_with (
    first
    | (refine wpEqlG 54 54 guard54 (.tmp 95) (.tmp 96) rfl (by rfl) (⟨1, 5, 3⟩ : Mk).C (⟨1, 5, 3⟩ : Mk).C rfl rfl true (by have h9 := equal54 W12 ⟨1, 5, 3⟩ ⟨1, 5, 3⟩; rw [decide_eq_true rfl] at h9; exact h9) ?_
       refine Stp.go ?_))
  constructor
  go_wp2_with (
    first
    | (go_at_call 16
       refine (has16 (unhide HP) (List.Perm.refl _) srt3).mono ?_
       rw [show fndB (ofP 1) m3 = true from by decide]
       rintro e V16 ⟨rfl, h3⟩
       replace HP := hide ((unhide HP).step h3 (by simp) (by simp))
       replace HK := hide ((unhide HK).trans h3)
       clear h3
       refine Stp.go ?_))
  constructor
  go_wp2_with (
    first
    | (go_at_call 18
       refine (len18 (unhide HP)).mono ?_
       rintro e W9 ⟨rfl, q9⟩
       replace q9 := q9.symm
       subst q9
       refine Stp.go ?_))
  constructor
  go_wp2_with fail
  go_ret
  exact ⟨rfl, unhide HK⟩

end Go.Proofs.Ythihladmifpokaa
