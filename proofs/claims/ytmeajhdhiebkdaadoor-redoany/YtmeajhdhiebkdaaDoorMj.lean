/-
  How bytes that came in are opened.
-/
import Derived.Test.YtmeajhdhiebkdaaDoorMi
import Derived.ProofKit
import Derived.SizedLaws
import Derived.Lib.SmallJoins

/-
  RedoAny.
-/
namespace Go.Proofs.YtmeajhdhiebkdaaDoor
set_option maxRecDepth 100000
open Go.RowKit

section
variable {o : Oper} {a : Act} {w : World} {K : Act → World → Prop} {Q : Exit → Act → World → Prop}
theorem o_mulr3 (x : Operand) (c : Int) (ho : o.op = .binOp .mul 3 x (.const (.int .i64 c)) 3) (m r : Int) (hr : m * c = r) (hb : -9223372036854775808 ≤ r ∧ r ≤ 9223372036854775807) (hx : a.eval x = .int .i64 m) (h : K (a.put o.dst (.int .i64 r)) w) : o.wp Tryd.prog a w K Q := by
  have hw : IntKind.i64.wrap r = r := by rw [IntKind.wrap_i64]; omega
  unfold Oper.wp execOp
  have hc : a.eval (.const (.int .i64 c)) = .int .i64 c := rfl
  simp only [ho, hx, hc]
  simp [go_sem, hr, hw]
  exact h
theorem o_neqt34 (x y : Operand) (ho : o.op = .binOp .neq 34 x y 34) (m n : Int) (r : Bool) (hr : decide (m = n) = r) (hx : a.eval x = .int .i64 m) (hy : a.eval y = .int .i64 n) (h : K (a.put o.dst (.bool (!r))) w) : o.wp Tryd.prog a w K Q := by
  have hb : (m != n) = !r := by rw [← hr]; rfl
  unfold Oper.wp execOp
  simp only [ho, hx, hy]
  simp [go_sem, hb]
  exact h
theorem o_nilP (x : Operand) (ho : o.op = .binOp .eql 33 x (.const (.pointer none)) 33) (b : Nat) (hx : a.eval x = P0 b) (h : K (a.put o.dst (.bool false)) w) : o.wp Tryd.prog a w K Q := by
  unfold Oper.wp execOp
  have hc : a.eval (.const (.pointer none)) = .pointer none := rfl
  simp only [ho, hx, hc]
  simp [go_sem]
  exact h
theorem o_nilN (x : Operand) (ho : o.op = .binOp .eql 33 x (.const (.pointer none)) 33) (hx : a.eval x = .pointer none) (h : K (a.put o.dst (.bool true)) w) : o.wp Tryd.prog a w K Q := by
  unfold Oper.wp execOp
  have hc : a.eval (.const (.pointer none)) = .pointer none := rfl
  simp only [ho, hx, hc]
  simp [go_sem]
  exact h
end
theorem wpMulR {ops : Array Oper} {rest : List Oper} {op : Oper} {a : Act} {w : World} {Q : Exit → Act → World → Prop} (hgd : op.guard = none) (x : Operand) (c : Int) (ho : op.op = .binOp .mul 3 x (.const (.int .i64 c)) 3) (m r : Int) (hr : m * c = r) (hb : -9223372036854775808 ≤ r ∧ r ≤ 9223372036854775807) (hx : a.eval x = .int .i64 m) (h : wpList Tryd.prog ops Q rest (a.put op.dst (.int .i64 r)) w) : wpList Tryd.prog ops Q (op :: rest) a w :=
  wpList_plain hgd fun _ hK => o_mulr3 x c ho m r hr hb hx (hK _ _ h)
theorem own_kept0 {W W' : World} {base n : Nat} {v : Value} {xs : List Value} (h : W.ownsRow base 2 1 v n xs) (hk : Kept [] W W') : W'.ownsRow base 2 1 v n xs := by
  obtain ⟨h1, h2⟩ := h
  refine ⟨h1, ?_⟩
  rcases h2 with h2 | ⟨g, cap, cur, e1, e2, h3, h4⟩
  · exact .inl h2
  · exact .inr ⟨g, cap, cur, e1, e2, hk.heap h3 (by simp), h4⟩
theorem own_base {W : World} {base n : Nat} {v : Value} {xs : List Value} (h : W.ownsRow base 2 1 v n xs) (i : Nat) (hi : v.ownBlock = some i) : base ≤ i := by
  rcases h.2 with ⟨rfl, _⟩ | ⟨g, cap, cur, rfl, e2, _⟩
  · cases hi
  · cases hi
    exact e2
theorem look_none {D : Dv.Dev} {J : Ar.Job} {nd s0 c0 : Int} {R0 : List Rc.Rec} (h : lookR D J nd true = (s0, R0, c0)) (hc : ¬ c0 = 0) : R0 = [] := by
  unfold lookR at h
  split at h
  · injection h with _ h
    injection h with h _
    exact h.symm
  · split at h
    · injection h with _ h
      injection h with h _
      exact h.symm
    · injection h with _ h
      injection h with _ h
      exact absurd h.symm hc
theorem sect_max {J : Ar.Job} (hm : J.may = true) : J.sectors.1 ≤ 4096 := by
  unfold Ar.Job.sectors
  rw [if_pos hm]
  have h1 := Ar.Job.L_le hm
  have h2 := Ar.Job.p_le hm
  show J.p * 2 + (J.L + 9) ≤ 4096
  omega
set_option maxHeartbeats 4000000 in
theorem any_bad (J : Ar.Job) (nd : Int) (bo : Option Addr) (nb bc : Nat) (w : World) (hF : Rc.First w) (hbad : ¬ (J.may = true ∧ 0 ≤ nd ∧ nd < J.n)) : Calls Tryd.prog 5 #[aggV (Ar.jobC J), .int .i64 nd, .slice bo nb bc] w fun e w' => e = .returned (.bool true) ∧ Kept [] w w' := by
  by_cases c0 : ¬ J.may = true
  · clear hbad
    have P8 := hide (fun W => rmay8 J W)
    rw [show J.may = false by simpa using c0] at P8
    clear c0
    go_enter Tryd.func5, Tryd.ntmps5
    go_wp2_with (
      first
      | (refine wpBoxV (by rfl) (.tmp 0) (by rfl) (Ar.jobC J) (by kernel_rfl) ?_
         intro V1 q3 e3 B3 K3
         have H3 := hide B3
         have HW := hide K3
         have c30 := fits_cell B3 0 (.int .i64 J.n) rfl
         clear e3 B3 K3
         refine Stp.go ?_))
    constructor
    go_wp2_with (
      first
      | (refine wpLoadA row23 (by rfl) (.tmp 3) (by rfl) q3 0 (by kernel_rfl) (Ar.jobC J) rfl ((unhide H3).kept (Kept.refl [] _) (by simp)).range ?_
         refine Stp.go ?_))
    constructor
    go_wp2_with (
      first
      | (go_at_call 8
         refine (unhide P8 _).mono ?_
         rintro e V2 ⟨rfl, K2⟩
         have HK := hide K2
         replace c30 := K2.cell c30 (by simp)
         clear K2 P8
         refine Stp.go ?_))
    constructor
    go_wp2_with (
      first
      | (go_at_call 9
         refine (known9 _ (hF.kept ((unhide HW).trans (unhide HK)))).mono ?_
         rintro e V9 ⟨rfl, K9⟩
         have HK9 := hide K9
         clear K9
         refine Stp.go ?_))
    constructor
    go_wp2_with fail
    go_ret
    exact ⟨rfl, ((unhide HW).trans (unhide HK)).trans (unhide HK9)⟩
  by_cases c1 : nd < 0
  · clear hbad
    have P8 := hide (fun W => rmay8 J W)
    rw [show J.may = true by simpa using c0] at P8
    clear c0
    go_enter Tryd.func5, Tryd.ntmps5
    go_wp2_with (
      first
      | (refine wpBoxV (by rfl) (.tmp 0) (by rfl) (Ar.jobC J) (by kernel_rfl) ?_
         intro V1 q3 e3 B3 K3
         have H3 := hide B3
         have HW := hide K3
         have c30 := fits_cell B3 0 (.int .i64 J.n) rfl
         clear e3 B3 K3
         refine Stp.go ?_))
    constructor
    go_wp2_with (
      first
      | (refine wpLoadA row23 (by rfl) (.tmp 3) (by rfl) q3 0 (by kernel_rfl) (Ar.jobC J) rfl ((unhide H3).kept (Kept.refl [] _) (by simp)).range ?_
         refine Stp.go ?_))
    constructor
    go_wp2_with (
      first
      | (go_at_call 8
         refine (unhide P8 _).mono ?_
         rintro e V2 ⟨rfl, K2⟩
         have HK := hide K2
         replace c30 := K2.cell c30 (by simp)
         clear K2 P8
         refine Stp.go ?_))
    constructor
    go_wp2_with (
      first
      | (go_at_call 9
         refine (known9 _ (hF.kept ((unhide HW).trans (unhide HK)))).mono ?_
         rintro e V9 ⟨rfl, K9⟩
         have HK9 := hide K9
         clear K9
         refine Stp.go ?_))
    constructor
    go_wp2_with fail
    go_ret
    exact ⟨rfl, ((unhide HW).trans (unhide HK)).trans (unhide HK9)⟩
  have c2 : J.n ≤ nd := Decidable.byContradiction fun h9 => hbad ⟨by simpa using c0, by omega, by omega⟩
  clear hbad
  have P8 := hide (fun W => rmay8 J W)
  rw [show J.may = true by simpa using c0] at P8
  clear c0
  go_enter Tryd.func5, Tryd.ntmps5
  go_wp2_with (
    first
    | (refine wpBoxV (by rfl) (.tmp 0) (by rfl) (Ar.jobC J) (by kernel_rfl) ?_
       intro V1 q3 e3 B3 K3
       have H3 := hide B3
       have HW := hide K3
       have c30 := fits_cell B3 0 (.int .i64 J.n) rfl
       clear e3 B3 K3
       refine Stp.go ?_))
  constructor
  go_wp2_with (
    first
    | (refine wpLoadA row23 (by rfl) (.tmp 3) (by rfl) q3 0 (by kernel_rfl) (Ar.jobC J) rfl ((unhide H3).kept (Kept.refl [] _) (by simp)).range ?_
       refine Stp.go ?_))
  constructor
  go_wp2_with (
    first
    | (go_at_call 8
       refine (unhide P8 _).mono ?_
       rintro e V2 ⟨rfl, K2⟩
       have HK := hide K2
       replace c30 := K2.cell c30 (by simp)
       clear K2 P8
       refine Stp.go ?_))
  constructor
  go_wp2_with (
    first
    | (go_at_call 9
       refine (known9 _ (hF.kept ((unhide HW).trans (unhide HK)))).mono ?_
       rintro e V9 ⟨rfl, K9⟩
       have HK9 := hide K9
       clear K9
       refine Stp.go ?_))
  constructor
  go_wp2_with fail
  go_ret
  exact ⟨rfl, ((unhide HW).trans (unhide HK)).trans (unhide HK9)⟩
set_option maxHeartbeats 16000000 in
theorem any_ok (J : Ar.Job) (nd : Int) (bo : Option Addr) (nb bc : Nat) (B : List Int) (w : World) (hF : Rc.First w) (hm : J.may = true) (hn : 0 ≤ nd ∧ nd < J.n) (hV : Dv.Vals w bo nb bc (u8s B)) (hB : ∀ x ∈ B, 0 ≤ x ∧ x < 256) : Calls Tryd.prog 5 #[aggV (Ar.jobC J), .int .i64 nd, .slice bo nb bc] w fun e w' => e = .returned (.bool true) ∧ Kept [] w w' := by
  have P8 := hide (fun W => rmay8 J W)
  rw [hm] at P8
  have P25 := hide (fun W => rsect25 J hm W)
  have hsec : 1 ≤ J.sectors.1 ∧ J.sectors.1 ≤ 4096 := by
    have h9 := plc_in (s := 1) hm hn
    have h8 := sect_max hm
    omega
  have HOF := hide (of_ok hm hsec)
  have HLN := hide (fun l (hl : l.length = J.sectors.1.toNat * 64) => of_len (l := l) hsec.1 hl (ones J.n.toNat))
  have HM := hide hm
  have HN := hide hn
  have HVL := hide hV
  have HBB := hide hB
  obtain ⟨M, hM⟩ : ∃ M : Nat, J.sectors.1 = (M : Int) := ⟨J.sectors.1.toNat, by omega⟩
  obtain ⟨N, hN⟩ : ∃ N : Nat, J.n = (N : Int) := ⟨J.n.toNat, by simp only [Ar.Job.may, decide_eq_true_eq] at hm; omega⟩
  obtain ⟨k, hk⟩ : ∃ k : Nat, M * 64 = k := ⟨_, rfl⟩
  have hMb : M ≤ 4096 := by omega
  have hNb : N ≤ 8 := by simp only [Ar.Job.may, decide_eq_true_eq] at hm; omega
  rw [hM] at P25 HOF HLN
  rw [hN] at HOF HLN
  have e1 : ((M : Int)).toNat = M := by omega
  have e2 : ((N : Int)).toNat = N := by omega
  rw [e1, e2, hk] at HOF
  simp only [e1, e2, hk] at HLN
  have HMk : Hid ((M : Int) * 64 = (k : Int)) := by show _ = _; omega
  have hkb : k ≤ 262144 := by omega
  have HNN := hide hN
  have HMM := hide hM
  have d1 : ¬ nd < 0 := by omega
  have d2 : ¬ J.n ≤ nd := by omega
  clear hm hn hV hB hsec hM hk e1 e2 hN
  go_enter Tryd.func5, Tryd.ntmps5
  go_wp2_with (
    first
    | (refine wpBoxV (by rfl) (.tmp 0) (by rfl) (Ar.jobC J) (by kernel_rfl) ?_
       intro V1 q3 e3 B3 K3
       have H3 := hide B3
       have HW := hide K3
       have c30 := fits_cell B3 0 (.int .i64 J.n) rfl
       clear e3 B3 K3
       refine Stp.go ?_))
  constructor
  go_wp2_with (
    first
    | (refine wpLoadA row23 (by rfl) (.tmp 3) (by rfl) q3 0 (by kernel_rfl) (Ar.jobC J) rfl ((unhide H3).kept (Kept.refl [] _) (by simp)).range ?_
       refine Stp.go ?_))
  constructor
  go_wp2_with (
    first
    | (go_at_call 8
       refine (unhide P8 _).mono ?_
       rintro e V2 ⟨rfl, K2⟩
       have HK := hide K2
       replace c30 := K2.cell c30 (by simp)
       have HF : Hid (Rc.First V1) := hF.kept (unhide HW)
       clear K2 P8
       refine Stp.go ?_))
  constructor
  go_wp2_with (
    first
    | (refine wpLoadA row23 (by rfl) (.tmp 3) (by rfl) q3 0 (by kernel_rfl) (Ar.jobC J) rfl ((unhide H3).kept (unhide HK) (by simp)).range ?_
       refine Stp.go ?_))
  constructor
  go_wp2_with (
    first
    | (go_at_call 25
       refine (unhide P25 _).mono ?_
       rintro e V3 ⟨rfl, K3⟩
       replace HK := hide ((unhide HK).trans K3)
       clear K3 P25 c30 d1 d2
       refine Stp.go ?_))
  constructor
  go_wp2_with (
    first
    | (refine wpMulR (by rfl) (.tmp 37) 64 (by rfl) (M : Int) (k : Int) (unhide HMk) (by omega) (by kernel_rfl) ?_
       refine Stp.go ?_))
  constructor
  go_wp2_with (
    first
    | (refine wpMakeB (by rfl) (.tmp 39) (by rfl) k (by omega) (by kernel_rfl) ?_
       intro V4 g5 e5 B5 K5
       have HG := hide B5
       have HGE : Hid (V1.heap.size ≤ g5) := by rw [e5]; exact (unhide HK).size
       replace HK := hide ((unhide HK).trans K5)
       clear e5 B5 K5
       refine Stp.go ?_))
  constructor
  go_wp2_with (
    first
    | (refine wpCopyB (by rfl) (.tmp 41) (.tmp 42) (by rfl) g5 k nb bc bo B (by kernel_rfl) (by kernel_rfl) ((unhide HVL).kept ((unhide HW).trans (unhide HK)) (by intro b off e; simp)) (unhide HBB) (unhide HG) ?_
       intro V5 v5 l hl hlb hG5 hk5
       replace HG := hide hG5
       have HLL := hide hl
       have HLB := hide hlb
       replace HK := hide ((unhide HK).fresh hk5 (fun i hi h9 => by have := unhide HGE; simp at hi; omega))
       clear hG5 hk5 hl hlb HVL HBB
       refine Stp.go ?_))
  constructor
  go_wp2_with fail
  have HX : Hid (V5.ownsRow V5.heap.size 2 1 (.slice none 0 0) 0 ((ones 0).map (Value.int .i64)) ∧ Kept [] V5 V5) := ⟨⟨rfl, .inl ⟨rfl, rfl⟩⟩, Kept.refl _ _⟩
  go_loopw [9, 10] (fun u i wr => ∃ j : Nat, j ≤ N ∧ i = .int .i64 j ∧ Hid (wr.ownsRow V5.heap.size 2 1 u j ((ones j).map (Value.int .i64)) ∧ Kept [] V5 wr)) (fun _ i _ => N - (intOf i).toNat)
  case atStart => exact ⟨0, by omega, rfl, HX⟩
  case round =>
    clear HX
    obtain ⟨j, hjN, rfl, HX⟩ := hrel
    have HE := hide (unhide HX).1
    have HKE := hide (unhide HX).2
    have c30 : wr.cell? ⟨q3, 0, none⟩ = some (.int .i64 (N : Int)) := by
      have h9 := fits_cell ((unhide H3).kept ((unhide HK).trans (unhide HKE)) (by simp)) 0 (.int .i64 J.n) rfl
      rw [unhide HNN] at h9
      exact h9
    clear HX
    by_cases hlt : (j : Int) < (N : Int)
    · go_wp2_with (
        first
        | (refine wpBs56 (by rfl) (by rfl) ?_
           intro V7 g7 e7 B7 K7
           have HB7 := hide B7
           have HK7 := hide K7
           clear e7 B7 K7 c30
           refine Stp.go ?_))
      constructor
      go_wp2_with (
        first
        | (at_builtin; refine wpAppE (by rfl) (.tmp 50) (.tmp 51) (by rfl) V5.heap.size _ j _ (by kernel_rfl) (own_kept0 (unhide HE) (unhide HK7)) g7 (by kernel_rfl) (unhide HB7) (by omega) (Nat.le_trans (unhide HKE).size (unhide HK7).size) ?_
           intro v8 V8 hO8 hk8
           rw [ones_succ] at hO8
           have HX : Hid (V8.ownsRow V5.heap.size 2 1 v8 (j + 1) ((ones (j + 1)).map (Value.int .i64)) ∧ Kept [] V5 V8) := ⟨hO8, ((unhide HKE).trans (unhide HK7)).fresh hk8 (fun i hi h9 => by have := own_base (unhide HE) i (by simpa using hi); omega)⟩
           clear hO8 hk8
           refine Stp.go ?_))
      constructor
      go_wp2_with fail
      go_roundw
      case rel => exact ⟨j + 1, by omega, by go_num, unhide HX⟩
      case measure => simp [intOf]; omega
    · obtain rfl : j = N := by omega
      obtain ⟨eo, ec, hu, hve⟩ := own_vals (unhide HE)
      subst hu
      have HVE := hide hve
      have HVB : Hid (Dv.Vals wr (some ⟨g5, 0, none⟩) k k (u8s l)) := ⟨by rw [u8s_len]; exact unhide HLL, Nat.le_refl _, fun _ => ⟨g5, 0, rfl, ((unhide HG).kept (unhide HKE) (by simp)).range⟩⟩
      replace HK := hide ((unhide HK).trans (unhide HKE))
      obtain ⟨D, hD⟩ : ∃ D, Dv.ofDev l (ones j) = D := ⟨_, rfl⟩
      have HLD : Hid ((D.S.length : Int) = J.sectors.1) := by rw [← hD, unhide HMM]; exact unhide HLN l (unhide HLL)
      have HDE := hide hD
      clear hve hD HG HE HKE HGE HLN
      as_aux_lemma =>
        go_wp2_with (
          first
          | (go_at_call 26
             refine (Dv.of_yes _ eo k k j ec l (ones j) _ (unhide HLB) (unhide HVB) (unhide HVE) (by omega) (unhide HOF)).mono ?_
             rintro e V11 ⟨b, g, rfl, _, _, hD1, hk1⟩
             rw [unhide HDE] at hD1
             have HD := hide hD1
             replace HVB := hide ((unhide HVB).kept hk1 (by intro b off e; simp))
             replace HVE := hide ((unhide HVE).kept hk1 (by intro b off e; simp))
             replace HK := hide ((unhide HK).trans hk1)
             clear hD1 hk1
             refine Stp.go ?_))
        constructor
        go_wp2_with (
          first
          | (go_at_call 27
             refine (Dv.r_of _ eo k k j ec l (ones j) _ (unhide HLB) (unhide HVB) (unhide HVE) (by omega) (by omega)).mono ?_
             rintro e V12 ⟨hk1, hor⟩
             obtain ⟨r, sg, eg, rfl, hR1⟩ : ∃ r sg eg, e = .returned (P0 r) ∧ Dv.Rv V12 r sg eg D := by
               rcases hor with ⟨h9, _⟩ | ⟨_, r, sg, eg, h8, _, h7⟩
               · rw [unhide HOF] at h9; cases h9
               · rw [unhide HDE] at h7; exact ⟨r, sg, eg, h8, h7⟩
             have HRV := hide hR1
             replace HD := hide ((unhide HD).kept hk1 (by simp) (by simp))
             replace HK := hide ((unhide HK).trans hk1)
             clear hor hR1 hk1 HVB HVE HLB HDE HOF
             refine Stp.go ?_))
        constructor
        go_wp2_with (
          first
          | (refine wpLoadA row23 (by rfl) (.tmp 3) (by rfl) q3 0 (by kernel_rfl) (Ar.jobC J) rfl ((unhide H3).kept (unhide HK) (by simp)).range ?_
             refine Stp.go ?_))
        constructor
        go_wp2_with (
          first
          | (go_at_call 20
             refine (read20 b g D J nd _ (unhide HD) ((unhide HF).kept (unhide HK))).mono ?_
             rintro e V13 ⟨u1, rfl, hO1, _, hk1⟩
             obtain ⟨⟨s0, R0, c0⟩, hlk⟩ : ∃ t, lookR D J nd true = t := ⟨_, rfl⟩
             rw [hlk] at hO1 ⊢
             replace hO1 : OwnO V13 u1 R0.length (cellsR R0) := hO1
             have HLK := hide hlk
             obtain ⟨m, hm0⟩ : ∃ m, R0.length = m := ⟨_, rfl⟩
             rw [hm0] at hO1
             obtain ⟨xo, xc, hu1, _, _⟩ := hO1.sl
             subst hu1
             have HO1 := hide hO1
             have HM0 := hide hm0
             replace HD := hide ((unhide HD).kept hk1 (by simp) (by simp))
             replace HRV := hide ((unhide HRV).kept hk1 (by simp) (by simp) (by simp))
             replace HK := hide ((unhide HK).trans hk1)
             clear hO1 hk1 hlk hm0
             refine Stp.go ?_))
        constructor
        go_wp2_with (
          first
          | (refine wpLoadA row23 (by rfl) (.tmp 3) (by rfl) q3 0 (by kernel_rfl) (Ar.jobC J) rfl ((unhide H3).kept (unhide HK) (by simp)).range ?_
             refine Stp.go ?_))
        constructor
        go_wp2_with (
          first
          | (go_at_call 28
             refine (rread28 r sg eg D J nd _ (unhide HRV) (unhide HM) (unhide HN) (unhide HLD) s0 c0 R0 (unhide HLK)).mono ?_
             rintro e V14 ⟨u2, rfl, hO2, _, hk1⟩
             rw [unhide HM0] at hO2
             obtain ⟨yo, yc, hu2, _, _⟩ := hO2.sl
             subst hu2
             have HO2 := hide hO2
             replace HO1 := hide (OwnO.kept (unhide HO1) hk1 (by simp))
             replace HD := hide ((unhide HD).kept hk1 (by simp) (by simp))
             replace HK := hide ((unhide HK).trans hk1)
             clear hO2 hk1 HRV HLD
             refine Stp.go ?_))
        constructor
        go_wp2_with (
          first
          | (refine wpLoadA row23 (by rfl) (.tmp 3) (by rfl) q3 0 (by kernel_rfl) (Ar.jobC J) rfl ((unhide H3).kept (unhide HK) (by simp)).range ?_
             refine Stp.go ?_))
        constructor
        have HRB : Hid (m ≤ 64 ∧ ∀ q ∈ R0, Rc.Byts 96 q.bd) := by
          by_cases hc : c0 = 0
          · have h9 := look_ok (unhide HD).ok (J := J) (nd := nd) (may := true) (by rw [unhide HLK]; exact hc)
            rw [unhide HLK] at h9
            have h8 : (R0.length : Int) ≤ J.l := h9.2.2.2.2.2.1
            have h7 := unhide HM
            simp only [Ar.Job.may, decide_eq_true_eq] at h7
            rw [unhide HM0] at h8
            exact ⟨by omega, h9.2.2.2.2.2.2⟩
          · have h9 : R0 = [] := look_none (unhide HLK) hc
            subst h9
            have h8 := unhide HM0
            simp at h8
            exact ⟨by omega, fun q hq => by cases hq⟩
        have hmb : (m : Int) ≤ 64 := by have := (unhide HRB).1; omega
        by_cases hc : c0 = 0
        · subst hc
          as_aux_lemma =>
            go_wp2_with (
              first
              | (go_at_call 11
                 refine (open_yes b g D J nd 1 _ (unhide HD) ((unhide HF).kept (unhide HK)) (by rw [show decide ((1 : Int) ≤ 1 ∧ (1 : Int) ≤ 2147483647) = true from rfl, unhide HLK])).mono ?_
                 rintro e V15 ⟨l2, rv, rfl, _, hk1, _, _⟩
                 replace HO1 := hide (OwnO.kept (unhide HO1) hk1 (by simp))
                 replace HO2 := hide (OwnO.kept (unhide HO2) hk1 (by simp))
                 replace HK := hide ((unhide HK).trans hk1)
                 clear hk1 HD HLK
                 refine Stp.go ?_))
            constructor
            go_upto_region 18 with fail
            refine wp_text_tq 27 rfl (by kernel_rfl) [some (.int .i64 s0), some (.int .i64 s0), some (.bool false), some (.bool false), some (.int .i64 0), some (.int .i64 0), some (.bool false), some (.bool false), some (.bool false), some (.int .i64 0), some (.int .i64 0), some (.bool false), some (.bool false), some (.bool false), some (P0 l2), some (.bool false), some (.int .i64 0), some (.bool false), some (.bool false), some (.bool false), some (.bool false), some (.slice xo m xc), some (.int .i64 m), some (.slice yo m yc), some (.int .i64 m), some (.bool false), some (.bool false)] rfl (by kernel_rfl) (by kernel_rfl) ?_ ?_
            · intro i o' hi hsk ho a' w2 hout hin hk2
              replace hk2 : Kept [] V15 w2 := ⟨hk2.os, hk2.tape, hk2.output, hk2.size, hk2.block⟩
              match i, ho, hsk with
              | 0, ho, hsk =>
                obtain rfl := Option.some.inj ho
                exact wp_move (.tmp 14) rfl _ ((hout 14 (by kernel_rfl)).trans rfl) ⟨_, rfl, tq_is _ _ _ _ rfl, Kept.refl _ _, fun _ _ _ _ _ => trivial⟩
              | 1, ho, hsk =>
                obtain rfl := Option.some.inj ho
                exact wp_move (.tmp 16) rfl _ ((hout 16 (by kernel_rfl)).trans rfl) ⟨_, rfl, tq_is _ _ _ _ rfl, Kept.refl _ _, fun _ _ _ _ _ => trivial⟩
              | 2, ho, hsk =>
                obtain rfl := Option.some.inj ho
                have e0 : a'.eval (.tmp 91) = .int .i64 s0 := is_tq (hin 0 91 (by kernel_rfl) (by kernel_rfl)) rfl
                have e1 : a'.eval (.tmp 92) = .int .i64 s0 := is_tq (hin 1 92 (by kernel_rfl) (by kernel_rfl)) rfl
                exact o_neqt2 (.tmp 91) (.tmp 92) rfl _ _ true (by simp) e0 e1 ⟨_, rfl, tq_is _ _ _ _ rfl, Kept.refl _ _, fun _ _ _ _ _ => trivial⟩
              | 3, ho, hsk =>
                obtain rfl := Option.some.inj ho
                have e0 : a'.eval (.tmp 93) = .bool false := is_tq (hin 2 93 (by kernel_rfl) (by kernel_rfl)) rfl
                exact wp_move (.tmp 93) rfl _ e0 ⟨_, rfl, tq_is _ _ _ _ rfl, Kept.refl _ _, fun _ _ _ _ _ => trivial⟩
              | 4, ho, hsk =>
                obtain rfl := Option.some.inj ho
                exact wp_move (.tmp 12) rfl _ ((hout 12 (by kernel_rfl)).trans rfl) ⟨_, rfl, tq_is _ _ _ _ rfl, Kept.refl _ _, fun _ _ _ _ _ => trivial⟩
              | 5, ho, hsk =>
                obtain rfl := Option.some.inj ho
                exact wp_move (.tmp 18) rfl _ ((hout 18 (by kernel_rfl)).trans rfl) ⟨_, rfl, tq_is _ _ _ _ rfl, Kept.refl _ _, fun _ _ _ _ _ => trivial⟩
              | 6, ho, hsk =>
                obtain rfl := Option.some.inj ho
                have e0 : a'.eval (.tmp 95) = .int .i64 0 := is_tq (hin 4 95 (by kernel_rfl) (by kernel_rfl)) rfl
                have e1 : a'.eval (.tmp 96) = .int .i64 0 := is_tq (hin 5 96 (by kernel_rfl) (by kernel_rfl)) rfl
                exact o_neqt3 (.tmp 95) (.tmp 96) rfl _ _ true (by simp) e0 e1 ⟨_, rfl, tq_is _ _ _ _ rfl, Kept.refl _ _, fun _ _ _ _ _ => trivial⟩
              | 7, ho, hsk =>
                obtain rfl := Option.some.inj ho
                have e0 : a'.eval (.tmp 94) = .bool false := is_tq (hin 3 94 (by kernel_rfl) (by kernel_rfl)) rfl
                have e1 : a'.eval (.tmp 97) = .bool false := is_tq (hin 6 97 (by kernel_rfl) (by kernel_rfl)) rfl
                exact o_pickOr0 (.tmp 94) (.tmp 97) rfl _ e0 e1 ⟨_, rfl, tq_is _ _ _ _ rfl, Kept.refl _ _, fun _ _ _ _ _ => trivial⟩
              | 8, ho, hsk =>
                obtain rfl := Option.some.inj ho
                have e0 : a'.eval (.tmp 98) = .bool false := is_tq (hin 7 98 (by kernel_rfl) (by kernel_rfl)) rfl
                exact wp_move (.tmp 98) rfl _ e0 ⟨_, rfl, tq_is _ _ _ _ rfl, Kept.refl _ _, fun _ _ _ _ _ => trivial⟩
              | 9, ho, hsk =>
                obtain rfl := Option.some.inj ho
                exact wp_move (.tmp 20) rfl _ ((hout 20 (by kernel_rfl)).trans rfl) ⟨_, rfl, tq_is _ _ _ _ rfl, Kept.refl _ _, fun _ _ _ _ _ => trivial⟩
              | 10, ho, hsk =>
                obtain rfl := Option.some.inj ho
                exact wp_move (.tmp 12) rfl _ ((hout 12 (by kernel_rfl)).trans rfl) ⟨_, rfl, tq_is _ _ _ _ rfl, Kept.refl _ _, fun _ _ _ _ _ => trivial⟩
              | 11, ho, hsk =>
                obtain rfl := Option.some.inj ho
                have e0 : a'.eval (.tmp 100) = .int .i64 0 := is_tq (hin 9 100 (by kernel_rfl) (by kernel_rfl)) rfl
                have e1 : a'.eval (.tmp 101) = .int .i64 0 := is_tq (hin 10 101 (by kernel_rfl) (by kernel_rfl)) rfl
                exact o_neqt34 (.tmp 100) (.tmp 101) rfl _ _ true (by simp) e0 e1 ⟨_, rfl, tq_is _ _ _ _ rfl, Kept.refl _ _, fun _ _ _ _ _ => trivial⟩
              | 12, ho, hsk =>
                obtain rfl := Option.some.inj ho
                have e0 : a'.eval (.tmp 99) = .bool false := is_tq (hin 8 99 (by kernel_rfl) (by kernel_rfl)) rfl
                have e1 : a'.eval (.tmp 102) = .bool false := is_tq (hin 11 102 (by kernel_rfl) (by kernel_rfl)) rfl
                exact o_pickOr0 (.tmp 99) (.tmp 102) rfl _ e0 e1 ⟨_, rfl, tq_is _ _ _ _ rfl, Kept.refl _ _, fun _ _ _ _ _ => trivial⟩
              | 13, ho, hsk =>
                obtain rfl := Option.some.inj ho
                have e0 : a'.eval (.tmp 103) = .bool false := is_tq (hin 12 103 (by kernel_rfl) (by kernel_rfl)) rfl
                exact wp_move (.tmp 103) rfl _ e0 ⟨_, rfl, tq_is _ _ _ _ rfl, Kept.refl _ _, fun _ _ _ _ _ => trivial⟩
              | 14, ho, hsk =>
                obtain rfl := Option.some.inj ho
                exact wp_move (.tmp 19) rfl _ ((hout 19 (by kernel_rfl)).trans rfl) ⟨_, rfl, tq_is _ _ _ _ rfl, Kept.refl _ _, fun _ _ _ _ _ => trivial⟩
              | 15, ho, hsk =>
                obtain rfl := Option.some.inj ho
                have e0 : a'.eval (.tmp 105) = P0 l2 := is_tq (hin 14 105 (by kernel_rfl) (by kernel_rfl)) rfl
                exact o_nilP (.tmp 105) rfl _ e0 ⟨_, rfl, tq_is _ _ _ _ rfl, Kept.refl _ _, fun _ _ _ _ _ => trivial⟩
              | 16, ho, hsk =>
                obtain rfl := Option.some.inj ho
                exact wp_move (.tmp 12) rfl _ ((hout 12 (by kernel_rfl)).trans rfl) ⟨_, rfl, tq_is _ _ _ _ rfl, Kept.refl _ _, fun _ _ _ _ _ => trivial⟩
              | 17, ho, hsk =>
                obtain rfl := Option.some.inj ho
                have e0 : a'.eval (.tmp 107) = .int .i64 0 := is_tq (hin 16 107 (by kernel_rfl) (by kernel_rfl)) rfl
                exact o_neqc34 (.tmp 107) 0 rfl _ true rfl e0 ⟨_, rfl, tq_is _ _ _ _ rfl, Kept.refl _ _, fun _ _ _ _ _ => trivial⟩
              | 18, ho, hsk =>
                obtain rfl := Option.some.inj ho
                have e0 : a'.eval (.tmp 106) = .bool false := is_tq (hin 15 106 (by kernel_rfl) (by kernel_rfl)) rfl
                have e1 : a'.eval (.tmp 108) = .bool false := is_tq (hin 17 108 (by kernel_rfl) (by kernel_rfl)) rfl
                exact o_neq4 (.tmp 106) (.tmp 108) rfl false e0 e1 ⟨_, rfl, tq_is _ _ _ _ rfl, Kept.refl _ _, fun _ _ _ _ _ => trivial⟩
              | 19, ho, hsk =>
                obtain rfl := Option.some.inj ho
                have e0 : a'.eval (.tmp 104) = .bool false := is_tq (hin 13 104 (by kernel_rfl) (by kernel_rfl)) rfl
                have e1 : a'.eval (.tmp 109) = .bool false := is_tq (hin 18 109 (by kernel_rfl) (by kernel_rfl)) rfl
                exact o_pickOr0 (.tmp 104) (.tmp 109) rfl _ e0 e1 ⟨_, rfl, tq_is _ _ _ _ rfl, Kept.refl _ _, fun _ _ _ _ _ => trivial⟩
              | 20, ho, hsk =>
                obtain rfl := Option.some.inj ho
                have e0 : a'.eval (.tmp 110) = .bool false := is_tq (hin 19 110 (by kernel_rfl) (by kernel_rfl)) rfl
                exact wp_move (.tmp 110) rfl _ e0 ⟨_, rfl, tq_is _ _ _ _ rfl, Kept.refl _ _, fun _ _ _ _ _ => trivial⟩
              | 21, ho, hsk =>
                obtain rfl := Option.some.inj ho
                exact wp_move (.tmp 15) rfl _ ((hout 15 (by kernel_rfl)).trans rfl) ⟨_, rfl, tq_is _ _ _ _ rfl, Kept.refl _ _, fun _ _ _ _ _ => trivial⟩
              | 22, ho, hsk =>
                obtain rfl := Option.some.inj ho
                have e0 : a'.eval (.tmp 112) = .slice xo m xc := is_tq (hin 21 112 (by kernel_rfl) (by kernel_rfl)) rfl
                exact o_len37 112 rfl _ _ _ e0 ⟨_, rfl, tq_is _ _ _ _ rfl, Kept.refl _ _, fun _ _ _ _ _ => trivial⟩
              | 23, ho, hsk =>
                obtain rfl := Option.some.inj ho
                exact wp_move (.tmp 17) rfl _ ((hout 17 (by kernel_rfl)).trans rfl) ⟨_, rfl, tq_is _ _ _ _ rfl, Kept.refl _ _, fun _ _ _ _ _ => trivial⟩
              | 24, ho, hsk =>
                obtain rfl := Option.some.inj ho
                have e0 : a'.eval (.tmp 114) = .slice yo m yc := is_tq (hin 23 114 (by kernel_rfl) (by kernel_rfl)) rfl
                exact o_len37 114 rfl _ _ _ e0 ⟨_, rfl, tq_is _ _ _ _ rfl, Kept.refl _ _, fun _ _ _ _ _ => trivial⟩
              | 25, ho, hsk =>
                obtain rfl := Option.some.inj ho
                have e0 : a'.eval (.tmp 113) = .int .i64 m := is_tq (hin 22 113 (by kernel_rfl) (by kernel_rfl)) rfl
                have e1 : a'.eval (.tmp 115) = .int .i64 m := is_tq (hin 24 115 (by kernel_rfl) (by kernel_rfl)) rfl
                exact o_neqt3 (.tmp 113) (.tmp 115) rfl _ _ true (by simp) e0 e1 ⟨_, rfl, tq_is _ _ _ _ rfl, Kept.refl _ _, fun _ _ _ _ _ => trivial⟩
              | 26, ho, hsk =>
                obtain rfl := Option.some.inj ho
                have e0 : a'.eval (.tmp 111) = .bool false := is_tq (hin 20 111 (by kernel_rfl) (by kernel_rfl)) rfl
                have e1 : a'.eval (.tmp 116) = .bool false := is_tq (hin 25 116 (by kernel_rfl) (by kernel_rfl)) rfl
                exact o_pickOr0 (.tmp 111) (.tmp 116) rfl _ e0 e1 ⟨_, rfl, tq_is _ _ _ _ rfl, Kept.refl _ _, fun _ _ _ _ _ => trivial⟩
            intro w9 hk9
            replace hk9 : Kept [] V15 w9 := ⟨hk9.os, hk9.tape, hk9.output, hk9.size, hk9.block⟩
            simp only [valsQ, List.map_cons, List.map_nil, Option.getD_some, List.take_succ_cons, List.take_zero, putAll, Act.put, List.setIfInBounds_toArray, List.set_cons_succ, List.set_cons_zero]
            replace HK := hide ((unhide HK).trans hk9)
            replace HO1 := hide (OwnO.kept (unhide HO1) hk9 (by simp))
            replace HO2 := hide (OwnO.kept (unhide HO2) hk9 (by simp))
            clear hk9
            go_wp2_with fail
            go_loopw [21] (fun i wr => ∃ y : Nat, y ≤ m ∧ i = .int .i64 y ∧ Hid (Kept [] w9 wr)) (fun i _ => m - (intOf i).toNat)
            case atStart => exact ⟨0, by omega, rfl, Kept.refl _ _⟩
            case round =>
              obtain ⟨y, hym, rfl, HWR⟩ := hrel
              replace HO1 := hide (OwnO.kept (unhide HO1) (unhide HWR) (by simp))
              replace HO2 := hide (OwnO.kept (unhide HO2) (unhide HWR) (by simp))
              by_cases hy : (y : Int) < (m : Int)
              · have hyn : y < m := by omega
                have hyR : y < R0.length := by rw [unhide HM0]; exact hyn
                obtain ⟨x, hx⟩ : ∃ x, R0[y] = x := ⟨_, rfl⟩
                have hb96 : x.bd.length = 96 := by rw [← hx]; exact ((unhide HRB).2 _ (List.getElem_mem hyR)).len
                obtain ⟨ga, oa, ca, hu, hrg⟩ := OwnO.rec_at (R := R0) (v := .slice xo m xc) (by rw [unhide HM0]; exact unhide HO1) (unhide HRB).2 (k := y) hyR
                injection hu with hu1 hu2 hu3
                subst hu1
                rw [hx] at hrg
                obtain ⟨gb, ob, cb, hu', hrg'⟩ := OwnO.rec_at (R := R0) (v := .slice yo m yc) (by rw [unhide HM0]; exact unhide HO2) (unhide HRB).2 (k := y) hyR
                injection hu' with hu1' hu2' hu3'
                subst hu1'
                rw [hx] at hrg'
                have HXG := hide hrg
                have HXH := hide hrg'
                clear hu2 hu3 hu2' hu3' hrg hrg' hx hyR
                go_wp2_with fail
                refine wp_region_any mixed (wpAny_tq 9 rfl (by kernel_rfl) [some (.slice (some ⟨ga, oa, none⟩) m xc), some (.int .i64 (y : Nat)), some (.pointer (some ⟨ga, oa + y * 101, none⟩)), some (aggV (Rc.recC x)), some (.slice (some ⟨gb, ob, none⟩) m yc), some (.int .i64 (y : Nat)), some (.pointer (some ⟨gb, ob + y * 101, none⟩)), some (aggV (Rc.recC x)), some (.bool false)] rfl (by kernel_rfl) (by kernel_rfl) ?_ ?_)
                · intro i o' hi hsk ho a' w2 hout hin hk2
                  replace hk2 : Kept [] wr w2 := ⟨hk2.os, hk2.tape, hk2.output, hk2.size, hk2.block⟩
                  match i, ho, hsk with
                  | 0, ho, hsk =>
                    obtain rfl := Option.some.inj ho
                    exact wp_move (.tmp 15) rfl _ ((hout 15 (by kernel_rfl)).trans rfl) ⟨_, rfl, tq_is _ _ _ _ rfl, Kept.refl _ _, fun _ _ _ _ _ => trivial⟩
                  | 1, ho, hsk =>
                    obtain rfl := Option.some.inj ho
                    exact wp_move (.tmp 21) rfl _ ((hout 21 (by kernel_rfl)).trans rfl) ⟨_, rfl, tq_is _ _ _ _ rfl, Kept.refl _ _, fun _ _ _ _ _ => trivial⟩
                  | 2, ho, hsk =>
                    obtain rfl := Option.some.inj ho
                    have e0 : a'.eval (.tmp 124) = .slice (some ⟨ga, oa, none⟩) m xc := is_tq (hin 0 124 (by kernel_rfl) (by kernel_rfl)) rfl
                    have e1 : a'.eval (.tmp 125) = .int .i64 (y : Nat) := is_tq (hin 1 125 (by kernel_rfl) (by kernel_rfl)) rfl
                    exact o_idx37 (.tmp 124) (.tmp 125) rfl ga oa _ _ y hyn e0 e1 ⟨_, rfl, tq_is _ _ _ _ rfl, Kept.refl _ _, fun _ _ _ _ _ => trivial⟩
                  | 3, ho, hsk =>
                    obtain rfl := Option.some.inj ho
                    have e0 : a'.eval (.tmp 126) = .pointer (some ⟨ga, oa + y * 101, none⟩) := is_tq (hin 2 126 (by kernel_rfl) (by kernel_rfl)) rfl
                    exact wp_loadA row45 (.tmp 126) rfl ga (oa + y * 101) e0 (Rc.recC x) (by simp [Rc.recC, u8s_len, hb96]) (range_kept (unhide HXG) hk2) ⟨_, rfl, tq_is _ _ _ _ rfl, Kept.refl _ _, fun _ _ _ _ _ => trivial⟩
                  | 4, ho, hsk =>
                    obtain rfl := Option.some.inj ho
                    exact wp_move (.tmp 17) rfl _ ((hout 17 (by kernel_rfl)).trans rfl) ⟨_, rfl, tq_is _ _ _ _ rfl, Kept.refl _ _, fun _ _ _ _ _ => trivial⟩
                  | 5, ho, hsk =>
                    obtain rfl := Option.some.inj ho
                    exact wp_move (.tmp 21) rfl _ ((hout 21 (by kernel_rfl)).trans rfl) ⟨_, rfl, tq_is _ _ _ _ rfl, Kept.refl _ _, fun _ _ _ _ _ => trivial⟩
                  | 6, ho, hsk =>
                    obtain rfl := Option.some.inj ho
                    have e0 : a'.eval (.tmp 128) = .slice (some ⟨gb, ob, none⟩) m yc := is_tq (hin 4 128 (by kernel_rfl) (by kernel_rfl)) rfl
                    have e1 : a'.eval (.tmp 129) = .int .i64 (y : Nat) := is_tq (hin 5 129 (by kernel_rfl) (by kernel_rfl)) rfl
                    exact o_idx37 (.tmp 128) (.tmp 129) rfl gb ob _ _ y hyn e0 e1 ⟨_, rfl, tq_is _ _ _ _ rfl, Kept.refl _ _, fun _ _ _ _ _ => trivial⟩
                  | 7, ho, hsk =>
                    obtain rfl := Option.some.inj ho
                    have e0 : a'.eval (.tmp 130) = .pointer (some ⟨gb, ob + y * 101, none⟩) := is_tq (hin 6 130 (by kernel_rfl) (by kernel_rfl)) rfl
                    exact wp_loadA row45 (.tmp 130) rfl gb (ob + y * 101) e0 (Rc.recC x) (by simp [Rc.recC, u8s_len, hb96]) (range_kept (unhide HXH) hk2) ⟨_, rfl, tq_is _ _ _ _ rfl, Kept.refl _ _, fun _ _ _ _ _ => trivial⟩
                  | 8, ho, hsk =>
                    obtain rfl := Option.some.inj ho
                    have e0 : a'.eval (.tmp 127) = aggV (Rc.recC x) := is_tq (hin 3 127 (by kernel_rfl) (by kernel_rfl)) rfl
                    have e1 : a'.eval (.tmp 131) = aggV (Rc.recC x) := is_tq (hin 7 131 (by kernel_rfl) (by kernel_rfl)) rfl
                    exact o_neqR (.tmp 127) (.tmp 131) rfl x x hb96 hb96 true (Rc.recEq_self x) e0 e1 ⟨_, rfl, tq_is _ _ _ _ rfl, Kept.refl _ _, fun _ _ _ _ _ => trivial⟩
                intro w10 hk10
                replace hk10 : Kept [] wr w10 := ⟨hk10.os, hk10.tape, hk10.output, hk10.size, hk10.block⟩
                simp only [valsQ, List.map_cons, List.map_nil, Option.getD_some, List.take_succ_cons, List.take_zero, putAll, Act.put, List.setIfInBounds_toArray, List.set_cons_succ, List.set_cons_zero]
                refine wpAny_done (by kernel_rfl) ?_ _
                go_wp2_with fail
                go_roundw
                case rel => exact ⟨y + 1, by omega, by go_num, (unhide HWR).trans hk10⟩
                case measure => simp [intOf]; omega
              · replace HK := hide ((unhide HK).trans (unhide HWR))
                go_wp2_with (
                  first
                  | (go_at_call 9
                     refine (known9 _ ((unhide HF).kept (unhide HK))).mono ?_
                     rintro e V9 ⟨rfl, K9⟩
                     have HK9 := hide K9
                     clear K9
                     refine Stp.go ?_))
                constructor
                go_wp2_with fail
                go_ret
                exact ⟨rfl, ((unhide HW).trans (unhide HK)).trans (unhide HK9)⟩
        · have HC := hide hc
          as_aux_lemma =>
            go_wp2_with (
              first
              | (go_at_call 11
                 refine (open_no b g D J nd 1 _ (unhide HD) ((unhide HF).kept (unhide HK)) (by rw [show decide ((1 : Int) ≤ 1 ∧ (1 : Int) ≤ 2147483647) = true from rfl, unhide HLK]; exact unhide HC)).mono ?_
                 rintro e V15 ⟨rfl, hk1⟩
                 rw [show decide ((1 : Int) ≤ 1 ∧ (1 : Int) ≤ 2147483647) = true from rfl, unhide HLK]
                 replace HO1 := hide (OwnO.kept (unhide HO1) hk1 (by simp))
                 replace HO2 := hide (OwnO.kept (unhide HO2) hk1 (by simp))
                 replace HK := hide ((unhide HK).trans hk1)
                 clear hk1 HD HLK hc
                 refine Stp.go ?_))
            constructor
            go_upto_region 18 with fail
            refine wp_text_tq 27 rfl (by kernel_rfl) [some (.int .i64 s0), some (.int .i64 s0), some (.bool false), some (.bool false), some (.int .i64 c0), some (.int .i64 c0), some (.bool false), some (.bool false), some (.bool false), some (.int .i64 c0), some (.int .i64 c0), some (.bool false), some (.bool false), some (.bool false), some (.pointer none), some (.bool true), some (.int .i64 c0), some (.bool true), some (.bool false), some (.bool false), some (.bool false), some (.slice xo m xc), some (.int .i64 m), some (.slice yo m yc), some (.int .i64 m), some (.bool false), some (.bool false)] rfl (by kernel_rfl) (by kernel_rfl) ?_ ?_
            · intro i o' hi hsk ho a' w2 hout hin hk2
              replace hk2 : Kept [] V15 w2 := ⟨hk2.os, hk2.tape, hk2.output, hk2.size, hk2.block⟩
              match i, ho, hsk with
              | 0, ho, hsk =>
                obtain rfl := Option.some.inj ho
                exact wp_move (.tmp 14) rfl _ ((hout 14 (by kernel_rfl)).trans rfl) ⟨_, rfl, tq_is _ _ _ _ rfl, Kept.refl _ _, fun _ _ _ _ _ => trivial⟩
              | 1, ho, hsk =>
                obtain rfl := Option.some.inj ho
                exact wp_move (.tmp 16) rfl _ ((hout 16 (by kernel_rfl)).trans rfl) ⟨_, rfl, tq_is _ _ _ _ rfl, Kept.refl _ _, fun _ _ _ _ _ => trivial⟩
              | 2, ho, hsk =>
                obtain rfl := Option.some.inj ho
                have e0 : a'.eval (.tmp 91) = .int .i64 s0 := is_tq (hin 0 91 (by kernel_rfl) (by kernel_rfl)) rfl
                have e1 : a'.eval (.tmp 92) = .int .i64 s0 := is_tq (hin 1 92 (by kernel_rfl) (by kernel_rfl)) rfl
                exact o_neqt2 (.tmp 91) (.tmp 92) rfl _ _ true (by simp) e0 e1 ⟨_, rfl, tq_is _ _ _ _ rfl, Kept.refl _ _, fun _ _ _ _ _ => trivial⟩
              | 3, ho, hsk =>
                obtain rfl := Option.some.inj ho
                have e0 : a'.eval (.tmp 93) = .bool false := is_tq (hin 2 93 (by kernel_rfl) (by kernel_rfl)) rfl
                exact wp_move (.tmp 93) rfl _ e0 ⟨_, rfl, tq_is _ _ _ _ rfl, Kept.refl _ _, fun _ _ _ _ _ => trivial⟩
              | 4, ho, hsk =>
                obtain rfl := Option.some.inj ho
                exact wp_move (.tmp 12) rfl _ ((hout 12 (by kernel_rfl)).trans rfl) ⟨_, rfl, tq_is _ _ _ _ rfl, Kept.refl _ _, fun _ _ _ _ _ => trivial⟩
              | 5, ho, hsk =>
                obtain rfl := Option.some.inj ho
                exact wp_move (.tmp 18) rfl _ ((hout 18 (by kernel_rfl)).trans rfl) ⟨_, rfl, tq_is _ _ _ _ rfl, Kept.refl _ _, fun _ _ _ _ _ => trivial⟩
              | 6, ho, hsk =>
                obtain rfl := Option.some.inj ho
                have e0 : a'.eval (.tmp 95) = .int .i64 c0 := is_tq (hin 4 95 (by kernel_rfl) (by kernel_rfl)) rfl
                have e1 : a'.eval (.tmp 96) = .int .i64 c0 := is_tq (hin 5 96 (by kernel_rfl) (by kernel_rfl)) rfl
                exact o_neqt3 (.tmp 95) (.tmp 96) rfl _ _ true (by simp) e0 e1 ⟨_, rfl, tq_is _ _ _ _ rfl, Kept.refl _ _, fun _ _ _ _ _ => trivial⟩
              | 7, ho, hsk =>
                obtain rfl := Option.some.inj ho
                have e0 : a'.eval (.tmp 94) = .bool false := is_tq (hin 3 94 (by kernel_rfl) (by kernel_rfl)) rfl
                have e1 : a'.eval (.tmp 97) = .bool false := is_tq (hin 6 97 (by kernel_rfl) (by kernel_rfl)) rfl
                exact o_pickOr0 (.tmp 94) (.tmp 97) rfl _ e0 e1 ⟨_, rfl, tq_is _ _ _ _ rfl, Kept.refl _ _, fun _ _ _ _ _ => trivial⟩
              | 8, ho, hsk =>
                obtain rfl := Option.some.inj ho
                have e0 : a'.eval (.tmp 98) = .bool false := is_tq (hin 7 98 (by kernel_rfl) (by kernel_rfl)) rfl
                exact wp_move (.tmp 98) rfl _ e0 ⟨_, rfl, tq_is _ _ _ _ rfl, Kept.refl _ _, fun _ _ _ _ _ => trivial⟩
              | 9, ho, hsk =>
                obtain rfl := Option.some.inj ho
                exact wp_move (.tmp 20) rfl _ ((hout 20 (by kernel_rfl)).trans rfl) ⟨_, rfl, tq_is _ _ _ _ rfl, Kept.refl _ _, fun _ _ _ _ _ => trivial⟩
              | 10, ho, hsk =>
                obtain rfl := Option.some.inj ho
                exact wp_move (.tmp 12) rfl _ ((hout 12 (by kernel_rfl)).trans rfl) ⟨_, rfl, tq_is _ _ _ _ rfl, Kept.refl _ _, fun _ _ _ _ _ => trivial⟩
              | 11, ho, hsk =>
                obtain rfl := Option.some.inj ho
                have e0 : a'.eval (.tmp 100) = .int .i64 c0 := is_tq (hin 9 100 (by kernel_rfl) (by kernel_rfl)) rfl
                have e1 : a'.eval (.tmp 101) = .int .i64 c0 := is_tq (hin 10 101 (by kernel_rfl) (by kernel_rfl)) rfl
                exact o_neqt34 (.tmp 100) (.tmp 101) rfl _ _ true (by simp) e0 e1 ⟨_, rfl, tq_is _ _ _ _ rfl, Kept.refl _ _, fun _ _ _ _ _ => trivial⟩
              | 12, ho, hsk =>
                obtain rfl := Option.some.inj ho
                have e0 : a'.eval (.tmp 99) = .bool false := is_tq (hin 8 99 (by kernel_rfl) (by kernel_rfl)) rfl
                have e1 : a'.eval (.tmp 102) = .bool false := is_tq (hin 11 102 (by kernel_rfl) (by kernel_rfl)) rfl
                exact o_pickOr0 (.tmp 99) (.tmp 102) rfl _ e0 e1 ⟨_, rfl, tq_is _ _ _ _ rfl, Kept.refl _ _, fun _ _ _ _ _ => trivial⟩
              | 13, ho, hsk =>
                obtain rfl := Option.some.inj ho
                have e0 : a'.eval (.tmp 103) = .bool false := is_tq (hin 12 103 (by kernel_rfl) (by kernel_rfl)) rfl
                exact wp_move (.tmp 103) rfl _ e0 ⟨_, rfl, tq_is _ _ _ _ rfl, Kept.refl _ _, fun _ _ _ _ _ => trivial⟩
              | 14, ho, hsk =>
                obtain rfl := Option.some.inj ho
                exact wp_move (.tmp 19) rfl _ ((hout 19 (by kernel_rfl)).trans rfl) ⟨_, rfl, tq_is _ _ _ _ rfl, Kept.refl _ _, fun _ _ _ _ _ => trivial⟩
              | 15, ho, hsk =>
                obtain rfl := Option.some.inj ho
                have e0 : a'.eval (.tmp 105) = .pointer none := is_tq (hin 14 105 (by kernel_rfl) (by kernel_rfl)) rfl
                exact o_nilN (.tmp 105) rfl e0 ⟨_, rfl, tq_is _ _ _ _ rfl, Kept.refl _ _, fun _ _ _ _ _ => trivial⟩
              | 16, ho, hsk =>
                obtain rfl := Option.some.inj ho
                exact wp_move (.tmp 12) rfl _ ((hout 12 (by kernel_rfl)).trans rfl) ⟨_, rfl, tq_is _ _ _ _ rfl, Kept.refl _ _, fun _ _ _ _ _ => trivial⟩
              | 17, ho, hsk =>
                obtain rfl := Option.some.inj ho
                have e0 : a'.eval (.tmp 107) = .int .i64 c0 := is_tq (hin 16 107 (by kernel_rfl) (by kernel_rfl)) rfl
                exact o_neqc34 (.tmp 107) 0 rfl _ false (decide_eq_false (unhide HC)) e0 ⟨_, rfl, tq_is _ _ _ _ rfl, Kept.refl _ _, fun _ _ _ _ _ => trivial⟩
              | 18, ho, hsk =>
                obtain rfl := Option.some.inj ho
                have e0 : a'.eval (.tmp 106) = .bool true := is_tq (hin 15 106 (by kernel_rfl) (by kernel_rfl)) rfl
                have e1 : a'.eval (.tmp 108) = .bool true := is_tq (hin 17 108 (by kernel_rfl) (by kernel_rfl)) rfl
                exact o_neq4 (.tmp 106) (.tmp 108) rfl true e0 e1 ⟨_, rfl, tq_is _ _ _ _ rfl, Kept.refl _ _, fun _ _ _ _ _ => trivial⟩
              | 19, ho, hsk =>
                obtain rfl := Option.some.inj ho
                have e0 : a'.eval (.tmp 104) = .bool false := is_tq (hin 13 104 (by kernel_rfl) (by kernel_rfl)) rfl
                have e1 : a'.eval (.tmp 109) = .bool false := is_tq (hin 18 109 (by kernel_rfl) (by kernel_rfl)) rfl
                exact o_pickOr0 (.tmp 104) (.tmp 109) rfl _ e0 e1 ⟨_, rfl, tq_is _ _ _ _ rfl, Kept.refl _ _, fun _ _ _ _ _ => trivial⟩
              | 20, ho, hsk =>
                obtain rfl := Option.some.inj ho
                have e0 : a'.eval (.tmp 110) = .bool false := is_tq (hin 19 110 (by kernel_rfl) (by kernel_rfl)) rfl
                exact wp_move (.tmp 110) rfl _ e0 ⟨_, rfl, tq_is _ _ _ _ rfl, Kept.refl _ _, fun _ _ _ _ _ => trivial⟩
              | 21, ho, hsk =>
                obtain rfl := Option.some.inj ho
                exact wp_move (.tmp 15) rfl _ ((hout 15 (by kernel_rfl)).trans rfl) ⟨_, rfl, tq_is _ _ _ _ rfl, Kept.refl _ _, fun _ _ _ _ _ => trivial⟩
              | 22, ho, hsk =>
                obtain rfl := Option.some.inj ho
                have e0 : a'.eval (.tmp 112) = .slice xo m xc := is_tq (hin 21 112 (by kernel_rfl) (by kernel_rfl)) rfl
                exact o_len37 112 rfl _ _ _ e0 ⟨_, rfl, tq_is _ _ _ _ rfl, Kept.refl _ _, fun _ _ _ _ _ => trivial⟩
              | 23, ho, hsk =>
                obtain rfl := Option.some.inj ho
                exact wp_move (.tmp 17) rfl _ ((hout 17 (by kernel_rfl)).trans rfl) ⟨_, rfl, tq_is _ _ _ _ rfl, Kept.refl _ _, fun _ _ _ _ _ => trivial⟩
              | 24, ho, hsk =>
                obtain rfl := Option.some.inj ho
                have e0 : a'.eval (.tmp 114) = .slice yo m yc := is_tq (hin 23 114 (by kernel_rfl) (by kernel_rfl)) rfl
                exact o_len37 114 rfl _ _ _ e0 ⟨_, rfl, tq_is _ _ _ _ rfl, Kept.refl _ _, fun _ _ _ _ _ => trivial⟩
              | 25, ho, hsk =>
                obtain rfl := Option.some.inj ho
                have e0 : a'.eval (.tmp 113) = .int .i64 m := is_tq (hin 22 113 (by kernel_rfl) (by kernel_rfl)) rfl
                have e1 : a'.eval (.tmp 115) = .int .i64 m := is_tq (hin 24 115 (by kernel_rfl) (by kernel_rfl)) rfl
                exact o_neqt3 (.tmp 113) (.tmp 115) rfl _ _ true (by simp) e0 e1 ⟨_, rfl, tq_is _ _ _ _ rfl, Kept.refl _ _, fun _ _ _ _ _ => trivial⟩
              | 26, ho, hsk =>
                obtain rfl := Option.some.inj ho
                have e0 : a'.eval (.tmp 111) = .bool false := is_tq (hin 20 111 (by kernel_rfl) (by kernel_rfl)) rfl
                have e1 : a'.eval (.tmp 116) = .bool false := is_tq (hin 25 116 (by kernel_rfl) (by kernel_rfl)) rfl
                exact o_pickOr0 (.tmp 111) (.tmp 116) rfl _ e0 e1 ⟨_, rfl, tq_is _ _ _ _ rfl, Kept.refl _ _, fun _ _ _ _ _ => trivial⟩
            intro w9 hk9
            replace hk9 : Kept [] V15 w9 := ⟨hk9.os, hk9.tape, hk9.output, hk9.size, hk9.block⟩
            simp only [valsQ, List.map_cons, List.map_nil, Option.getD_some, List.take_succ_cons, List.take_zero, putAll, Act.put, List.setIfInBounds_toArray, List.set_cons_succ, List.set_cons_zero]
            replace HK := hide ((unhide HK).trans hk9)
            replace HO1 := hide (OwnO.kept (unhide HO1) hk9 (by simp))
            replace HO2 := hide (OwnO.kept (unhide HO2) hk9 (by simp))
            clear hk9
            go_wp2_with fail
            go_loopw [21] (fun i wr => ∃ y : Nat, y ≤ m ∧ i = .int .i64 y ∧ Hid (Kept [] w9 wr)) (fun i _ => m - (intOf i).toNat)
            case atStart => exact ⟨0, by omega, rfl, Kept.refl _ _⟩
            case round =>
              obtain ⟨y, hym, rfl, HWR⟩ := hrel
              replace HO1 := hide (OwnO.kept (unhide HO1) (unhide HWR) (by simp))
              replace HO2 := hide (OwnO.kept (unhide HO2) (unhide HWR) (by simp))
              by_cases hy : (y : Int) < (m : Int)
              · have hyn : y < m := by omega
                have hyR : y < R0.length := by rw [unhide HM0]; exact hyn
                obtain ⟨x, hx⟩ : ∃ x, R0[y] = x := ⟨_, rfl⟩
                have hb96 : x.bd.length = 96 := by rw [← hx]; exact ((unhide HRB).2 _ (List.getElem_mem hyR)).len
                obtain ⟨ga, oa, ca, hu, hrg⟩ := OwnO.rec_at (R := R0) (v := .slice xo m xc) (by rw [unhide HM0]; exact unhide HO1) (unhide HRB).2 (k := y) hyR
                injection hu with hu1 hu2 hu3
                subst hu1
                rw [hx] at hrg
                obtain ⟨gb, ob, cb, hu', hrg'⟩ := OwnO.rec_at (R := R0) (v := .slice yo m yc) (by rw [unhide HM0]; exact unhide HO2) (unhide HRB).2 (k := y) hyR
                injection hu' with hu1' hu2' hu3'
                subst hu1'
                rw [hx] at hrg'
                have HXG := hide hrg
                have HXH := hide hrg'
                clear hu2 hu3 hu2' hu3' hrg hrg' hx hyR
                go_wp2_with fail
                refine wp_region_any mixed (wpAny_tq 9 rfl (by kernel_rfl) [some (.slice (some ⟨ga, oa, none⟩) m xc), some (.int .i64 (y : Nat)), some (.pointer (some ⟨ga, oa + y * 101, none⟩)), some (aggV (Rc.recC x)), some (.slice (some ⟨gb, ob, none⟩) m yc), some (.int .i64 (y : Nat)), some (.pointer (some ⟨gb, ob + y * 101, none⟩)), some (aggV (Rc.recC x)), some (.bool false)] rfl (by kernel_rfl) (by kernel_rfl) ?_ ?_)
                · intro i o' hi hsk ho a' w2 hout hin hk2
                  replace hk2 : Kept [] wr w2 := ⟨hk2.os, hk2.tape, hk2.output, hk2.size, hk2.block⟩
                  match i, ho, hsk with
                  | 0, ho, hsk =>
                    obtain rfl := Option.some.inj ho
                    exact wp_move (.tmp 15) rfl _ ((hout 15 (by kernel_rfl)).trans rfl) ⟨_, rfl, tq_is _ _ _ _ rfl, Kept.refl _ _, fun _ _ _ _ _ => trivial⟩
                  | 1, ho, hsk =>
                    obtain rfl := Option.some.inj ho
                    exact wp_move (.tmp 21) rfl _ ((hout 21 (by kernel_rfl)).trans rfl) ⟨_, rfl, tq_is _ _ _ _ rfl, Kept.refl _ _, fun _ _ _ _ _ => trivial⟩
                  | 2, ho, hsk =>
                    obtain rfl := Option.some.inj ho
                    have e0 : a'.eval (.tmp 124) = .slice (some ⟨ga, oa, none⟩) m xc := is_tq (hin 0 124 (by kernel_rfl) (by kernel_rfl)) rfl
                    have e1 : a'.eval (.tmp 125) = .int .i64 (y : Nat) := is_tq (hin 1 125 (by kernel_rfl) (by kernel_rfl)) rfl
                    exact o_idx37 (.tmp 124) (.tmp 125) rfl ga oa _ _ y hyn e0 e1 ⟨_, rfl, tq_is _ _ _ _ rfl, Kept.refl _ _, fun _ _ _ _ _ => trivial⟩
                  | 3, ho, hsk =>
                    obtain rfl := Option.some.inj ho
                    have e0 : a'.eval (.tmp 126) = .pointer (some ⟨ga, oa + y * 101, none⟩) := is_tq (hin 2 126 (by kernel_rfl) (by kernel_rfl)) rfl
                    exact wp_loadA row45 (.tmp 126) rfl ga (oa + y * 101) e0 (Rc.recC x) (by simp [Rc.recC, u8s_len, hb96]) (range_kept (unhide HXG) hk2) ⟨_, rfl, tq_is _ _ _ _ rfl, Kept.refl _ _, fun _ _ _ _ _ => trivial⟩
                  | 4, ho, hsk =>
                    obtain rfl := Option.some.inj ho
                    exact wp_move (.tmp 17) rfl _ ((hout 17 (by kernel_rfl)).trans rfl) ⟨_, rfl, tq_is _ _ _ _ rfl, Kept.refl _ _, fun _ _ _ _ _ => trivial⟩
                  | 5, ho, hsk =>
                    obtain rfl := Option.some.inj ho
                    exact wp_move (.tmp 21) rfl _ ((hout 21 (by kernel_rfl)).trans rfl) ⟨_, rfl, tq_is _ _ _ _ rfl, Kept.refl _ _, fun _ _ _ _ _ => trivial⟩
                  | 6, ho, hsk =>
                    obtain rfl := Option.some.inj ho
                    have e0 : a'.eval (.tmp 128) = .slice (some ⟨gb, ob, none⟩) m yc := is_tq (hin 4 128 (by kernel_rfl) (by kernel_rfl)) rfl
                    have e1 : a'.eval (.tmp 129) = .int .i64 (y : Nat) := is_tq (hin 5 129 (by kernel_rfl) (by kernel_rfl)) rfl
                    exact o_idx37 (.tmp 128) (.tmp 129) rfl gb ob _ _ y hyn e0 e1 ⟨_, rfl, tq_is _ _ _ _ rfl, Kept.refl _ _, fun _ _ _ _ _ => trivial⟩
                  | 7, ho, hsk =>
                    obtain rfl := Option.some.inj ho
                    have e0 : a'.eval (.tmp 130) = .pointer (some ⟨gb, ob + y * 101, none⟩) := is_tq (hin 6 130 (by kernel_rfl) (by kernel_rfl)) rfl
                    exact wp_loadA row45 (.tmp 130) rfl gb (ob + y * 101) e0 (Rc.recC x) (by simp [Rc.recC, u8s_len, hb96]) (range_kept (unhide HXH) hk2) ⟨_, rfl, tq_is _ _ _ _ rfl, Kept.refl _ _, fun _ _ _ _ _ => trivial⟩
                  | 8, ho, hsk =>
                    obtain rfl := Option.some.inj ho
                    have e0 : a'.eval (.tmp 127) = aggV (Rc.recC x) := is_tq (hin 3 127 (by kernel_rfl) (by kernel_rfl)) rfl
                    have e1 : a'.eval (.tmp 131) = aggV (Rc.recC x) := is_tq (hin 7 131 (by kernel_rfl) (by kernel_rfl)) rfl
                    exact o_neqR (.tmp 127) (.tmp 131) rfl x x hb96 hb96 true (Rc.recEq_self x) e0 e1 ⟨_, rfl, tq_is _ _ _ _ rfl, Kept.refl _ _, fun _ _ _ _ _ => trivial⟩
                intro w10 hk10
                replace hk10 : Kept [] wr w10 := ⟨hk10.os, hk10.tape, hk10.output, hk10.size, hk10.block⟩
                simp only [valsQ, List.map_cons, List.map_nil, Option.getD_some, List.take_succ_cons, List.take_zero, putAll, Act.put, List.setIfInBounds_toArray, List.set_cons_succ, List.set_cons_zero]
                refine wpAny_done (by kernel_rfl) ?_ _
                go_wp2_with fail
                go_roundw
                case rel => exact ⟨y + 1, by omega, by go_num, (unhide HWR).trans hk10⟩
                case measure => simp [intOf]; omega
              · replace HK := hide ((unhide HK).trans (unhide HWR))
                go_wp2_with (
                  first
                  | (go_at_call 9
                     refine (known9 _ ((unhide HF).kept (unhide HK))).mono ?_
                     rintro e V9 ⟨rfl, K9⟩
                     have HK9 := hide K9
                     clear K9
                     refine Stp.go ?_))
                constructor
                go_wp2_with fail
                go_ret
                exact ⟨rfl, ((unhide HW).trans (unhide HK)).trans (unhide HK9)⟩
theorem any5 (J : Ar.Job) (nd : Int) (bo : Option Addr) (nb bc : Nat) (B : List Int) (w : World) (hF : Rc.First w) (hV : Dv.Vals w bo nb bc (u8s B)) (hB : ∀ x ∈ B, 0 ≤ x ∧ x < 256) : Calls Tryd.prog 5 #[aggV (Ar.jobC J), .int .i64 nd, .slice bo nb bc] w fun e w' => e = .returned (.bool true) ∧ Kept [] w w' := by
  by_cases h : J.may = true ∧ 0 ≤ nd ∧ nd < J.n
  · exact any_ok J nd bo nb bc B w hF h.1 h.2 hV hB
  · exact any_bad J nd bo nb bc w hF h

end Go.Proofs.YtmeajhdhiebkdaaDoor

/-
  How bytes that came in are opened.
-/
namespace Go.Proofs.YtmeajhdhiebkdaaDoor
set_option maxRecDepth 100000
open Go.ChangeShapes Go.WideShapes Go.ChangeAt Go.RowKit Go.Joins Go.Deep

theorem bytes_open {H : Type} {enc : TypeId × Value → H} {W : World} {fuel : Nat} {v : Value} {x : DataW H × List MemPlace}
    (h : DataW.trod enc Tryd.prog W 0 (fun _ => true) true fuel 54 [v] = some x) :
    ∃ ao m c l, v = .slice ao m c ∧ (ao = none → m = 0 ∧ c = 0) ∧ Dv.Vals W ao m c (u8s l) ∧ (∀ x ∈ l, 0 ≤ x ∧ x < 256) := by
  rcases open_ints Tryd.underlying54 Tryd.underlying5 (by kernel_rfl) h with ⟨hcs, hx⟩ | ⟨a, len, cap, zs, hcs, _, hl, _, hz, hx, hcell, hwf⟩
  · cases hcs
    exact ⟨none, 0, 0, [], rfl, fun _ => ⟨rfl, rfl⟩, ⟨rfl, Nat.le_refl _, fun h => absurd rfl h⟩, fun x hx => (by cases hx)⟩
  · cases hcs
    simp only [if_true] at hz
    refine ⟨some a, len, cap, zs.take len, rfl, (fun h => by cases h), ⟨by rw [u8s_len, List.length_take]; omega, hl, fun hne => ?_⟩, ?_⟩
    · have hlen : 0 < len := by
        have : u8s (zs.take len) ≠ [] := hne
        rcases Nat.eq_zero_or_pos len with h0 | h0
        · subst h0; exact absurd rfl this
        · exact h0
      have h0 := hcell 0 (by omega)
      have ha := spot_none (show W.cell? a = some _ from h0)
      refine ⟨a.block, a.off, by rw [← ha], fun j u hj => ?_⟩
      have hjl : j < len := by
        have := (List.getElem?_eq_some_iff.1 hj).1
        simp [u8s] at this; omega
      have hc := hcell j (by omega)
      rw [ha, Addr.add_mid] at hc
      rw [hc, ← hj]
      simp [u8s, hjl, List.getD, show j < zs.length by omega]
    · intro y hy
      have hw := hwf y (List.mem_of_mem_take hy)
      have := bounds_u8 hw
      omega

end Go.Proofs.YtmeajhdhiebkdaaDoor
