/-
  The walks of start and find: where an area begins, and in which one a sector lies.
-/
import Derived.Test.YtcfoebpbbmnleaaEnds
namespace Go.Proofs.Ytcfoebpbbmnleaa
open Go.RowKit

theorem wpIndex58 {ops : Array Oper} {rest : List Oper} {op : Oper} {a : Act} {w : World} {Q : Exit → Act → World → Prop} (hgd : op.guard = none) (x y : Operand) (ho : op.op = .index 58 x y) (k : Nat) (p q r s : Int) (v : Value) (hv : (fourC p q r s)[k]? = some v)
    (hx : a.eval x = aggV (fourC p q r s)) (hy : a.eval y = .int .i64 k) (h : wpList Try.prog ops Q rest (a.put op.dst v) w) : wpList Try.prog ops Q (op :: rest) a w :=
  wpList_plain hgd fun K hK => by
    have hk : k < 4 := (List.getElem?_eq_some_iff.1 hv).1
    unfold Oper.wp execOp
    simp only [aggV, fourC] at hx hv
    simp only [ho, hx, hy]
    rcases (show k = 0 ∨ k = 1 ∨ k = 2 ∨ k = 3 by omega) with rfl | rfl | rfl | rfl
    all_goals
      simp at hv
      subst hv
      simp [go_sem]
      exact hK _ _ h

/-- Where an area begins. -/
def Job.st (j : Job) : Nat → Int
  | 0 => 0
  | 1 => 1
  | 2 => 9
  | 3 => j.L + 9
  | _ => j.p * 2 + (j.L + 9)

theorem start_0 (j : Job) (w : World) : Calls Try.prog 21 #[aggV (jobC j), .int .i64 0] w fun e w' => e = .returned (.int .i64 0) ∧ Kept [] w w' := by
  go_enter Try.func21, Try.ntmps21
  go_wp2_with (refine wpBoxV rfl (.tmp 0) rfl (jobC j) rfl ?_; intro W1 b1 e1 B1 K1; have KK := hide K1; clear e1 B1 K1)
  go_ret
  exact ⟨rfl, unhide KK⟩
theorem start_s (j : Job) (hm : j.may = true) (k : Nat) (hk : k < 4) (w : World) : Calls Try.prog 21 #[aggV (jobC j), .int .i64 (k + 1 : Nat)] w fun e w' => e = .returned (.int .i64 (j.st (k + 1))) ∧ Kept [] w w' := by
  have hv : (fourC 1 9 (j.L + 9) (j.p * 2 + (j.L + 9)))[k]? = some (.int .i64 (j.st (k + 1))) := by
    rcases (show k = 0 ∨ k = 1 ∨ k = 2 ∨ k = 3 by omega) with rfl | rfl | rfl | rfl <;> rfl
  have HV := hide hv
  clear hv
  generalize hn : ((k + 1 : Nat) : Int) = n
  have h0 : n ≠ 0 := by omega
  have h1 : n - 1 = (k : Int) := by omega
  have hw : IntKind.i64.wrap (k : Int) = (k : Int) := by rw [IntKind.wrap_i64]; omega
  clear hn
  generalize j.st (k + 1) = st at HV
  go_enter Try.func21, Try.ntmps21
  go_wp2_with (
    first
    | (refine wpBoxV rfl (.tmp 0) rfl (jobC j) rfl ?_
       intro W1 b1 e1 B1 K1
       have BB := hide B1
       have KK := hide K1
       clear e1 B1 K1)
    | (refine wpLoadA row23 rfl (.tmp 2) rfl b1 0 rfl (jobC j) rfl (unhide BB).range ?_)
    | (go_at_call 29; refine (ends29 j hm _).mono ?_; rintro e W2 ⟨rfl, K2⟩; have K3 := hide ((unhide KK).trans K2); clear K2 KK)
    | (refine wpIndex58 rfl (.tmp 8) (.tmp 10) rfl k _ _ _ _ _ (unhide HV) rfl rfl ?_))
  go_ret
  exact ⟨rfl, unhide K3⟩

/-- In which area a sector lies, and how far behind its start. -/
def Job.find (j : Job) (s : Int) : Nat × Int :=
  if s < 1 then (0, s) else if s < 9 then (1, s - 1) else if s < j.L + 9 then (2, s - 9) else if s < j.p * 2 + (j.L + 9) then (3, s - (j.L + 9)) else (4, s - (j.p * 2 + (j.L + 9)))
/-- The first areas don't hold it. -/
def Job.past (j : Job) (s : Int) (k : Nat) : Prop := ∀ i, i < k → j.st (i + 1) ≤ s
theorem find_at (j : Job) (s : Int) (k : Nat) (hk : k < 4) (hp : j.past s k) (h : s < j.st (k + 1)) : j.find s = (k, s - j.st k) := by
  rcases (show k = 0 ∨ k = 1 ∨ k = 2 ∨ k = 3 by omega) with rfl | rfl | rfl | rfl
  · simp [Job.st] at h; simp [Job.find, h, Job.st]
  · have := hp 0 (by omega)
    simp [Job.st] at h this
    simp [Job.find, h, Job.st, show ¬ s < 1 by omega]
  · have := hp 0 (by omega)
    have := hp 1 (by omega)
    simp [Job.st] at *
    simp [Job.find, h, show ¬ s < 1 by omega, show ¬ s < 9 by omega]
  · have := hp 0 (by omega)
    have := hp 1 (by omega)
    have := hp 2 (by omega)
    simp [Job.st] at *
    simp [Job.find, h, show ¬ s < 1 by omega, show ¬ s < 9 by omega, show ¬ s < j.L + 9 by omega]
theorem find_end (j : Job) (s : Int) (hp : j.past s 4) : j.find s = (4, s - j.st 4) := by
  have := hp 0 (by omega)
  have := hp 1 (by omega)
  have := hp 2 (by omega)
  have := hp 3 (by omega)
  simp [Job.st] at *
  simp [Job.find, show ¬ s < 1 by omega, show ¬ s < 9 by omega, show ¬ s < j.L + 9 by omega, show ¬ s < j.p * 2 + (j.L + 9) by omega]
theorem st_le {j : Job} (h : j.may = true) (k : Nat) : 0 ≤ j.st k ∧ j.st k ≤ 10000 := by
  have := Job.L_le h
  have := Job.p_le h
  unfold Job.st
  split <;> omega

theorem ret_pair {a b c d : Int} (h : a = c) (k : b = d) : Ending.returned (.tuple #[.int .i64 a, .int .i64 b]) = .returned (.tuple #[.int .i64 c, .int .i64 d]) := by rw [h, k]

set_option maxHeartbeats 1000000 in
theorem find24 (j : Job) (hm : j.may = true) (s : Int) (hs : 0 ≤ s ∧ s ≤ 9223372036854775807) (w : World) : Calls Try.prog 24 #[aggV (jobC j), .int .i64 s] w fun e w' => e = .returned (.tuple #[.int .i64 ((j.find s).1 : Nat), .int .i64 (j.find s).2]) ∧ Kept [] w w' := by
  have hall := st_le hm
  go_enter Try.func24, Try.ntmps24
  go_wp2_with (
    first
    | (refine wpBoxV rfl (.tmp 0) rfl (jobC j) rfl ?_
       intro W1 b1 e1 B1 K1
       have BB := hide B1
       have KK := hide K1
       clear e1 B1 K1)
    | (refine wpLoadA row23 rfl (.tmp 2) rfl b1 0 rfl (jobC j) rfl (unhide BB).range ?_)
    | (go_at_call 29; refine (ends29 j hm _).mono ?_; rintro e W2 ⟨rfl, K2⟩; have K3 := hide ((unhide KK).trans K2); clear K2 KK BB))
  go_step3
  go_wp2_with (
    first
    | (refine wpBoxV rfl (.tmp 0) rfl (jobC j) rfl ?_
       intro W1 b1 e1 B1 K1
       have BB := hide B1
       have KK := hide K1
       clear e1 B1 K1)
    | (refine wpLoadA row23 rfl (.tmp 2) rfl b1 0 rfl (jobC j) rfl (unhide BB).range ?_)
    | (go_at_call 29; refine (ends29 j hm _).mono ?_; rintro e W2 ⟨rfl, K2⟩; have K3 := hide ((unhide KK).trans K2); clear K2 KK BB))
  go_step3
  go_wp2_with (
    first
    | (refine wpBoxV rfl (.tmp 0) rfl (jobC j) rfl ?_
       intro W1 b1 e1 B1 K1
       have BB := hide B1
       have KK := hide K1
       clear e1 B1 K1)
    | (refine wpLoadA row23 rfl (.tmp 2) rfl b1 0 rfl (jobC j) rfl (unhide BB).range ?_)
    | (go_at_call 29; refine (ends29 j hm _).mono ?_; rintro e W2 ⟨rfl, K2⟩; have K3 := hide ((unhide KK).trans K2); clear K2 KK BB))
  go_loopw [11, 4, 6] (fun i ar bg wr => ∃ k : Nat, k ≤ 4 ∧ i = .int .i64 k ∧ ar = .int .i64 4 ∧ bg = .int .i64 (j.st k) ∧ Hid (j.past s k) ∧ wr = W2) (fun i _ _ _ => 4 - (intOf i).toNat)
  case atStart => exact ⟨0, by omega, rfl, rfl, rfl, fun i hi => by omega, rfl⟩
  case round =>
    obtain ⟨k, hk4, rfl, rfl, rfl, hp, rfl⟩ := hrel
    have hst := hall k
    have hw : IntKind.i64.wrap (s - j.st k) = s - j.st k := by rw [IntKind.wrap_i64]; omega
    by_cases hlt : k < 4
    · have hv : (fourC 1 9 (j.L + 9) (j.p * 2 + (j.L + 9)))[k]? = some (.int .i64 (j.st (k + 1))) := by
        rcases (show k = 0 ∨ k = 1 ∨ k = 2 ∨ k = 3 by omega) with rfl | rfl | rfl | rfl <;> rfl
      have HV := hide hv
      clear hv
      by_cases hlt2 : s < j.st (k + 1)
      · have hf := hide (find_at j s k hlt (unhide hp) hlt2)
        generalize j.st (k + 1) = st at HV hlt2
        go_wp2_with (refine wpIndex58 rfl (.tmp 10) (.tmp 11) rfl k _ _ _ _ _ (unhide HV) rfl rfl ?_)
        try rw [Exit.noGoto_ret]
        go_ret2
        rw [unhide hf]
        exact ⟨rfl, unhide K3⟩
      · have hp2 : Hid (j.past s (k + 1)) := by
          intro i hi
          rcases (show i < k ∨ i = k by omega) with h | rfl
          · exact unhide hp i h
          · omega
        generalize hst2 : j.st (k + 1) = st at HV hlt2
        have hst3 := hide hst2
        clear hst2
        go_wp2_with (refine wpIndex58 rfl (.tmp 10) (.tmp 11) rfl k _ _ _ _ _ (unhide HV) rfl rfl ?_)
        go_roundw
        case rel => exact ⟨k + 1, by omega, by go_num, rfl, by rw [unhide hst3], hp2, trivial⟩
        case measure => simp [intOf]; omega
    · obtain rfl : k = 4 := by omega
      have hf := hide (find_end j s (unhide hp))
      go_wp2_with fail
      try rw [Exit.noGoto_ret]
      go_ret2
      rw [unhide hf]
      exact ⟨rfl, unhide K3⟩

end Go.Proofs.Ytcfoebpbbmnleaa
