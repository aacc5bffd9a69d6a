/-
  The law on none and on as many marks as may be.
-/
import Derived.Test.YthihladmifpokaaRi
import Derived.Deep.CutBlock
namespace Go.Proofs.Ythihladmifpokaa
set_option maxRecDepth 100000
set_option linter.unusedSimpArgs false
open Go.RowKit


section
variable {ops : Array Oper} {rest : List Oper} {op o : Oper} {a : Act} {w : World} {K : Act → World → Prop} {Q : Exit → Act → World → Prop}
theorem c_rem3 (x y : Operand) (ho : o.op = .binOp .rem 3 x y 3) (m n r : Int) (hr : r = m % n) (hm : 0 ≤ m ∧ m ≤ 9223372036854775807) (hn : 1 ≤ n ∧ n ≤ 1000) (hx : a.eval x = .int .i64 m) (hy : a.eval y = .int .i64 n) (h : K (a.put o.dst (.int .i64 r)) w) : o.wp Try.prog a w K Q := by
  subst hr
  have h1 := Int.emod_nonneg m (b := n) (by omega)
  have h2 := Int.emod_lt_of_pos m (b := n) (by omega)
  have ht : Int.tmod m n = m % n := Int.tmod_eq_emod_of_nonneg hm.1
  have hn0 : ¬ n = 0 := by omega
  unfold Oper.wp execOp
  simp only [ho, hx, hy]
  simp [go_sem, hn0, ht]
  exact h
theorem wpRem3 (hgd : op.guard = none) (x y : Operand) (ho : op.op = .binOp .rem 3 x y 3) (m n r : Int) (hr : r = m % n) (hm : 0 ≤ m ∧ m ≤ 9223372036854775807) (hn : 1 ≤ n ∧ n ≤ 1000) (hx : a.eval x = .int .i64 m) (hy : a.eval y = .int .i64 n) (h : wpList Try.prog ops Q rest (a.put op.dst (.int .i64 r)) w) : wpList Try.prog ops Q (op :: rest) a w :=
  wpList_plain hgd fun _ hK => c_rem3 x y ho m n r hr hm hn hx hy (hK _ _ h)
theorem build52 (w : World) : (Instr.build 52 #[]).run Try.prog w = .ok (aggV [.map none]) w := by kernel_rfl
theorem wpBuild52W (ho : op.op = .build 52 #[]) (hw : Region.wanted op (yielded ops a.tmps) = true) (h : wpList Try.prog ops Q rest (a.put op.dst (aggV [.map none])) w) : wpList Try.prog ops Q (op :: rest) a w :=
  wpBuildG #[] ho hw #[] (by simp) _ (build52 w) h
theorem wpBoxVW {T : Nat} (hw : Region.wanted op (yielded ops a.tmps) = true) (x : Operand) (ho : op.op = .box T x) (vs : List Value) (hx : a.eval x = aggV vs)
    (h : ∀ W b, b = w.heap.size → Blk W b T vs → Kept [] w W → wpList Try.prog ops Q rest (a.put op.dst (P0 b)) W) : wpList Try.prog ops Q (op :: rest) a w :=
  BigFrame.wpList_want hw fun K hK => by
    unfold aggV at hx
    unfold Oper.wp execOp
    simp only [ho, hx]
    exact hK _ _ (h _ _ rfl (Blk.new w T vs) ((Kept.refl _ _).alloc _))
end
/-- The first k marks. -/
def full (k : Nat) : List Mk := (List.range k).map (fun i : Nat => ⟨(i : Int) % 16, (i : Int) + 1, 7⟩)
theorem full_len (k : Nat) : (full k).length = k := by simp [full]
theorem full_mem {k : Nat} {l : Mk} (h : l ∈ full k) : ∃ i < k, l = ⟨(i : Int) % 16, (i : Int) + 1, 7⟩ := by
  simp only [full, List.mem_map, List.mem_range] at h
  obtain ⟨i, hi, rfl⟩ := h
  exact ⟨i, hi, rfl⟩
theorem place_none {p s : Int} : ∀ {L : List Mk} {i : Nat}, (∀ l ∈ L, ¬ (p = l.p ∧ s = l.s)) → placeOf p s L i = none
  | [], _, _ => rfl
  | l :: L, i, h => by
    unfold placeOf
    rw [if_neg (h l (by simp))]
    exact place_none fun x hx => h x (List.mem_cons_of_mem _ hx)
theorem full_new {k : Nat} (hk : k < 256) : markP ((k : Int) % 16) ((k : Int) + 1) 7 (full k) = (0, full (k + 1)) := by
  have h1 : okM ((k : Int) % 16) ((k : Int) + 1) 7 = true := by
    simp [okM, isPg, isSt]
    omega
  have h2 : placeOf ((k : Int) % 16) ((k : Int) + 1) (full k) 0 = none := place_none fun l hl e => by
    obtain ⟨i, hi, rfl⟩ := full_mem hl
    have := e.2
    simp at this
    omega
  unfold markP
  rw [if_pos h1, h2, full_len]
  have h3 : ¬ k = 256 := by omega
  simp only [h3, if_false]
  simp [full, List.range_succ]
theorem full_more : markP 0 9999 7 (full 256) = (5, full 256) := by
  have h2 : placeOf 0 9999 (full 256) 0 = none := place_none fun l hl e => by
    obtain ⟨i, hi, rfl⟩ := full_mem hl
    have := e.2
    simp at this
    omega
  unfold markP
  rw [if_pos (by decide), h2, full_len]
  rfl
def full3 : List Mk := (full 256).set 0 ⟨0, 1, 3⟩
theorem full_old : markP 0 1 3 (full 256) = (0, full3) := by
  have h2 : placeOf 0 1 (full 256) 0 = some (0, ⟨0, 1, 7⟩) := by
    have e : full 256 = ⟨0, 1, 7⟩ :: (full 256).tail := by
      have : full 256 = (List.range 256).map (fun i : Nat => (⟨(i : Int) % 16, (i : Int) + 1, 7⟩ : Mk)) := rfl
      rw [this, show List.range 256 = 0 :: (List.range' 1 255) from by rw [List.range_eq_range']; rfl]
      rfl
    rw [e]
    unfold placeOf
    rw [if_pos ⟨rfl, rfl⟩]
  unfold markP
  rw [if_pos (by decide), h2]
  rfl
theorem minM_ge (n : Int) : ∀ L : List Mk, (∀ l ∈ L, 3 ≤ l.f) → 3 ≤ n → 3 ≤ minM n (fun _ => false) L
  | [], _, h => h
  | l :: L, h, hn => by
    have h1 := h l (by simp)
    have h2 := minM_ge n L (fun x hx => h x (List.mem_cons_of_mem _ hx)) hn
    simp [minM]
    omega
theorem full_bound : boundP 99 [] full3 = 3 := by
  have e : full3 = ⟨0, 1, 3⟩ :: (full 256).tail := by
    have h9 : ∀ (l : List Mk) (x : Mk), l ≠ [] → l.set 0 x = x :: l.tail := fun l x h => by cases l with | nil => exact absurd rfl h | cons => rfl
    exact h9 _ _ (fun e => by have := congrArg List.length e; rw [full_len] at this; simp at this)
  have h2 := minM_ge 99 (full 256).tail (fun l hl => by
    obtain ⟨i, hi, rfl⟩ := full_mem (List.mem_of_mem_tail hl)
    show (3 : Int) ≤ 7
    omega) (by omega)
  show minM 99 (fun _ => false) full3 = 3
  rw [e]
  simp only [minM, Bool.false_eq_true, if_false]
  omega
def q1 : List Mk := [⟨15, 2147483647, 2147483647⟩]
set_option maxHeartbeats 8000000 in
theorem nil6 (w : World) : Calls Try.prog 6 #[] w fun e W => e = .returned (.bool true) ∧ Kept [] w W := by
  go_enter Try.func6, Try.ntmps6
  go_wp2_with (
    first
    | (go_at_call 8
       refine (new8 _).mono ?_
       rintro e W1 ⟨b, mb, rfl, h1, h2, h3, h4⟩
       have HP : Hid (Pg W1 b mb (full 0)) := hide h1
       have HK := hide h2
       have HG := hide (And.intro h3 h4)
       clear h1 h2 h3 h4
       refine Stp.go ?_))
  constructor
  go_upto_block 0 with fail
  go_cut [2] from 15 to 26 (fun xk wc => Hid (Pg wc b mb (full 256)) ∧ Hid (Kept [] w wc))
  case first =>
    go_wp2_with fail
    go_loopw [2] (fun xk wr => ∃ k : Nat, k ≤ 256 ∧ xk = .int .i64 k ∧ Hid (Pg wr b mb (full k)) ∧ Hid (Kept [] w wr)) (fun xk _ => 256 - (intOf xk).toNat)
    case atStart => exact ⟨0, by omega, rfl, HP, HK⟩
    case round =>
      clear HP HK
      obtain ⟨k, hk, rfl, HP, HK⟩ := hrel
      by_cases hlt : k < 256
      · have hltI : (k : Int) < 256 := by omega
        have hd : decide ((k : Int) < 256) = true := by simpa using hltI
        have HLT := hide hlt
        go_wp2_with (
          first
          | (refine wpRem3 rfl (.tmp 20) (.const (.int .i64 16)) rfl (k : Int) 16 ((k : Int) % 16) rfl (by omega) (by omega) rfl rfl ?_
             refine Stp.go ?_))
        constructor
        go_wp2_with (
          first
          | (go_at_call 13
             refine (mark13 (unhide HP)).mono ?_
             rw [full_new hlt]
             rintro e V13 ⟨rfl, h2, h3⟩
             replace HP := hide h2
             replace HK := hide ((unhide HK).own h3 (by simp; exact (unhide HG).2))
             clear h2 h3
             refine Stp.go ?_))
        constructor
        go_wp2_with (
          first
          | (go_at_call 14
             refine (num14 _ _).mono ?_
             rintro e W9 ⟨rfl, q9⟩
             replace q9 := q9.symm
             subst q9
             refine Stp.go ?_))
        constructor
        go_wp2_with fail
        go_roundw
        case rel => exact ⟨k + 1, by omega, by go_num, HP, HK⟩
        case measure => simp [intOf]; omega
      · obtain rfl : k = 256 := by omega
        have hd : decide (((256 : Nat) : Int) < 256) = false := by decide
        go_wp2_with fail
        go_meet
        case rel => exact ⟨HP, HK⟩
  case rest =>
    clear HP HK
    obtain ⟨HP, HK⟩ := hcut
    go_wp2_with (
      first
      | (go_at_call 13
         refine (mark13 (unhide HP)).mono ?_
         rw [full_more]
         rintro e W2 ⟨rfl, h2, h3⟩
         replace HP := hide h2
         replace HK := hide ((unhide HK).own h3 (by simp; exact (unhide HG).2))
         clear h2 h3
         refine Stp.go ?_))
    constructor
    go_wp2_with (
      first
      | (go_at_call 13
         refine (mark13 (unhide HP)).mono ?_
         rw [full_old]
         rintro e W3 ⟨rfl, h2, h3⟩
         replace HP := hide h2
         replace HK := hide ((unhide HK).own h3 (by simp; exact (unhide HG).2))
         clear h2 h3
         refine Stp.go ?_))
    constructor
    go_wp2_with (
      first
      | (go_at_call 8
         refine (new8 _).mono ?_
         rintro e W1q ⟨c, mc, rfl, h1, h2, h3, h4⟩
         have HQ := hide h1
         have HAP : Hid (b ≠ mc ∧ mb ≠ mc) := by
           have h5 := (unhide HP).blk.lt
           obtain ⟨_, _, h9, _⟩ := (unhide HP).map
           have h6 := (Array.getElem?_eq_some_iff.1 h9).1
           show _ ∧ _
           omega
         have HGQ : Hid (w.heap.size ≤ c ∧ w.heap.size ≤ mc) := ⟨Nat.le_trans (unhide HK).size h3, Nat.le_trans (unhide HK).size h4⟩
         replace HP := hide ((unhide HP).step h2 (by simp) (by simp))
         replace HK := hide ((unhide HK).trans h2)
         clear h1 h2 h3 h4
         refine Stp.go ?_))
    constructor
    go_wp2_with (
      first
      | (go_at_call 13
         refine (mark13 (unhide HQ)).mono ?_
         rw [show markP (15) (2147483647) (2147483647) [] = (0, q1) from by decide]
         rintro e W4 ⟨rfl, h2, h3⟩
         replace HQ := hide h2
         replace HP := hide ((unhide HP).step h3 (by simpa using (unhide HAP).1) (by simpa using (unhide HAP).2))
         replace HK := hide ((unhide HK).own h3 (by simp; exact (unhide HGQ).2))
         clear h2 h3
         refine Stp.go ?_))
    constructor
    go_wp2_with (
      first
      | (go_at_call 13
         refine (mark13 (unhide HQ)).mono ?_
         rw [show markP (0) (2147483648) (1) q1 = (2, q1) from by decide]
         rintro e W5 ⟨rfl, h2, h3⟩
         replace HQ := hide h2
         replace HP := hide ((unhide HP).step h3 (by simpa using (unhide HAP).1) (by simpa using (unhide HAP).2))
         replace HK := hide ((unhide HK).own h3 (by simp; exact (unhide HGQ).2))
         clear h2 h3
         refine Stp.go ?_))
    constructor
    go_wp2_with (
      first
      | (go_at_call 13
         refine (mark13 (unhide HQ)).mono ?_
         rw [show markP (0) (1) (2147483648) q1 = (2, q1) from by decide]
         rintro e W6 ⟨rfl, h2, h3⟩
         replace HQ := hide h2
         replace HP := hide ((unhide HP).step h3 (by simpa using (unhide HAP).1) (by simpa using (unhide HAP).2))
         replace HK := hide ((unhide HK).own h3 (by simp; exact (unhide HGQ).2))
         clear h2 h3
         refine Stp.go ?_))
    constructor
    go_wp2_with (
      first
      | (go_at_call 13
         refine (mark13 (unhide HQ)).mono ?_
         rw [show markP (-1) (1) (1) q1 = (2, q1) from by decide]
         rintro e W7 ⟨rfl, h2, h3⟩
         replace HQ := hide h2
         replace HP := hide ((unhide HP).step h3 (by simpa using (unhide HAP).1) (by simpa using (unhide HAP).2))
         replace HK := hide ((unhide HK).own h3 (by simp; exact (unhide HGQ).2))
         clear h2 h3
         refine Stp.go ?_))
    constructor
    go_wp2_with (
      first
      | (go_at_call 17
         refine (disc17 (unhide HQ)).mono ?_
         rw [show discP (15) (9223372036854775807) q1 = (1, 0, []) from by decide]
         rintro e W8 ⟨rfl, h2, h3⟩
         replace HQ := hide h2
         replace HP := hide ((unhide HP).step h3 (by simpa using (unhide HAP).1) (by simpa using (unhide HAP).2))
         replace HK := hide ((unhide HK).own h3 (by simp; exact (unhide HGQ).2))
         clear h2 h3
         refine Stp.go ?_))
    constructor
    go_wp2_with (
      first
      | (go_at_call 17
         refine (disc17 (unhide HQ)).mono ?_
         rw [show discP (16) (1) [] = (0, 2, []) from by decide]
         rintro e W9 ⟨rfl, h2, h3⟩
         replace HQ := hide h2
         replace HP := hide ((unhide HP).step h3 (by simpa using (unhide HAP).1) (by simpa using (unhide HAP).2))
         replace HK := hide ((unhide HK).own h3 (by simp; exact (unhide HGQ).2))
         clear h2 h3
         refine Stp.go ?_))
    constructor
    go_wp2_with (
      first
      | (go_at_call 14
         refine (num14 _ _).mono ?_
         rintro e W9 ⟨rfl, q9⟩
         replace q9 := q9.symm
         subst q9
         refine Stp.go ?_))
    constructor
    go_wp2_with (
      first
      | (go_at_call 14
         refine (num14 _ _).mono ?_
         rintro e W9 ⟨rfl, q9⟩
         replace q9 := q9.symm
         subst q9
         refine Stp.go ?_))
    constructor
    go_wp2_with (
      first
      | (go_at_call 14
         refine (num14 _ _).mono ?_
         rintro e W9 ⟨rfl, q9⟩
         replace q9 := q9.symm
         subst q9
         refine Stp.go ?_))
    constructor
    go_wp2_with (
      first
      | (go_at_call 14
         refine (num14 _ _).mono ?_
         rintro e W9 ⟨rfl, q9⟩
         replace q9 := q9.symm
         subst q9
         refine Stp.go ?_))
    constructor
    go_wp2_with (
      first
      | (go_at_call 15
         refine (bound15 (F := []) (unhide HP) (Rw.nil _) 99).mono ?_
         rw [full_bound]
         rintro e V15 ⟨rfl, h3⟩
         replace HP := hide ((unhide HP).step h3 (by simp) (by simp))
         replace HQ := hide ((unhide HQ).step h3 (by simp) (by simp))
         replace HK := hide ((unhide HK).trans h3)
         clear h3
         refine Stp.go ?_))
    constructor
    go_wp2_with (
      first
      | (go_at_call 14
         refine (num14 _ _).mono ?_
         rintro e W9 ⟨rfl, q9⟩
         replace q9 := q9.symm
         subst q9
         refine Stp.go ?_))
    constructor
    go_wp2_with (
      first
      | (go_at_call 14
         refine (num14 _ _).mono ?_
         rintro e W9 ⟨rfl, q9⟩
         replace q9 := q9.symm
         subst q9
         refine Stp.go ?_))
    constructor
    go_wp2_with (
      first
      | (go_at_call 14
         refine (num14 _ _).mono ?_
         rintro e W9 ⟨rfl, q9⟩
         replace q9 := q9.symm
         subst q9
         refine Stp.go ?_))
    constructor
    go_wp2_with (
      first
      | (go_at_call 14
         refine (num14 _ _).mono ?_
         rintro e W9 ⟨rfl, q9⟩
         replace q9 := q9.symm
         subst q9
         refine Stp.go ?_))
    constructor
    go_wp2_with (
      first
      | (go_at_call 19
         refine (nothing19 (.inl rfl)).mono ?_
         rintro e V19a ⟨rfl, h3⟩
         replace HP := hide ((unhide HP).step h3 (by simp) (by simp))
         replace HQ := hide ((unhide HQ).step h3 (by simp) (by simp))
         replace HK := hide ((unhide HK).trans h3)
         clear h3
         refine Stp.go ?_))
    constructor
    go_wp2_with (
      first
      | (refine wpBoxVW (by rfl) (.tmp 97) rfl [.map none] rfl ?_
         intro V98 z e9 B9 h3
         have HN : Hid (Nil V98 (P0 z)) := .inr ⟨z, rfl, B9⟩
         replace HP := hide ((unhide HP).step h3 (by simp) (by simp))
         replace HQ := hide ((unhide HQ).step h3 (by simp) (by simp))
         replace HK := hide ((unhide HK).trans h3)
         clear e9 B9 h3
         refine Stp.go ?_))
    constructor
    go_wp2_with (
      first
      | (go_at_call 19
         refine (nothing19 (unhide HN)).mono ?_
         rintro e V19b ⟨rfl, h3⟩
         replace HP := hide ((unhide HP).step h3 (by simp) (by simp))
         replace HQ := hide ((unhide HQ).step h3 (by simp) (by simp))
         replace HK := hide ((unhide HK).trans h3)
         clear h3
         refine Stp.go ?_))
    constructor
    go_wp2_with (
      first
      | (go_at_call 11
         refine (same11_pz (unhide HQ) (.inl rfl)).mono ?_
         rintro e V11 ⟨rfl, h3⟩
         replace HP := hide ((unhide HP).step h3 (by simp) (by simp))
         replace HQ := hide ((unhide HQ).step h3 (by simp) (by simp))
         replace HK := hide ((unhide HK).trans h3)
         clear h3
         refine Stp.go ?_))
    constructor
    go_wp2_with (
      first
      | (go_at_call 7
         refine (known7 _).mono ?_
         rintro e V7 ⟨rfl, h3⟩
         replace HP := hide ((unhide HP).step h3 (by simp) (by simp))
         replace HQ := hide ((unhide HQ).step h3 (by simp) (by simp))
         replace HK := hide ((unhide HK).trans h3)
         clear h3
         refine Stp.go ?_))
    constructor
    go_wp2_with fail
    go_ret
    exact ⟨rfl, unhide HK⟩

end Go.Proofs.Ythihladmifpokaa
