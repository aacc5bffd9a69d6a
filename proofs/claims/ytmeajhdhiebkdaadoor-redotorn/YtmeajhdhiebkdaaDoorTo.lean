/-
  RedoTorn.
-/
import Derived.Test.YtmeajhdhiebkdaaDoorMc
import Derived.Test.YtmeajhdhiebkdaaDoorMd
import Derived.Deep.CutRange
namespace Go.Proofs.YtmeajhdhiebkdaaDoor
set_option maxRecDepth 100000
open Go.RowKit

set_option maxHeartbeats 4000000 in
theorem torn_bad (J : Ar.Job) (fo so : Option Addr) (n1 fc n2 sc : Nat) (ct : Int) (z : Ve) (w : World) (hF : Rc.First w) (hbad : ¬ (J.may = true ∧ n1 ≤ 60 ∧ n2 ≤ 60 ∧ 0 ≤ ct ∧ ct ≤ 1000)) : Calls Tryd.prog 3 #[aggV (Ar.jobC J), .slice fo n1 fc, .slice so n2 sc, .int .i64 ct, aggV z.C] w fun e w' => e = .returned (.bool true) ∧ Kept [] w w' := by
  by_cases c0 : ¬ J.may = true
  · clear hbad
    have P8 := hide (fun W => rmay8 J W)
    rw [show J.may = false by simpa using c0] at P8
    clear c0
    go_enter Tryd.func3, Tryd.ntmps3
    go_wp2_with (
      first
      | (refine wpBoxV (by rfl) (.tmp 0) (by rfl) (Ar.jobC J) (by kernel_rfl) ?_
         intro V1 q5 e5 B5 K5
         have HB := hide B5
         have HW := hide K5
         clear e5 B5 K5
         refine Stp.go ?_))
    constructor
    go_wp2_with (
      first
      | (refine wpBoxV (by rfl) (.tmp 4) (by rfl) z.C (by kernel_rfl) ?_
         intro V2 q9 e9 B9 K9
         replace HB := hide ((unhide HB).kept K9 (by simp))
         replace HW := hide ((unhide HW).trans K9)
         have HZ := hide B9
         clear e9 B9 K9
         refine Stp.go ?_))
    constructor
    go_wp2_with (
      first
      | (refine wpLoadA row23 (by rfl) (.tmp 5) (by rfl) q5 0 (by kernel_rfl) (Ar.jobC J) rfl (unhide HB).range ?_
         refine Stp.go ?_))
    constructor
    go_wp2_with (
      first
      | (go_at_call 8
         refine (unhide P8 _).mono ?_
         rintro e V3 ⟨rfl, K3⟩
         have HK3 := hide K3
         clear K3 P8
         refine Stp.go ?_))
    constructor
    go_wp2_with (
      first
      | (go_at_call 9
         refine (known9 _ (hF.kept ((unhide HW).trans (unhide HK3)))).mono ?_
         rintro e V9 ⟨rfl, K9⟩
         have HK9 := hide K9
         clear K9
         refine Stp.go ?_))
    constructor
    go_wp2_with fail
    go_ret
    exact ⟨rfl, ((unhide HW).trans (unhide HK3)).trans (unhide HK9)⟩
  by_cases c1 : 60 < (n1 : Int)
  · clear hbad
    have P8 := hide (fun W => rmay8 J W)
    rw [show J.may = true by simpa using c0] at P8
    clear c0
    go_enter Tryd.func3, Tryd.ntmps3
    go_wp2_with (
      first
      | (refine wpBoxV (by rfl) (.tmp 0) (by rfl) (Ar.jobC J) (by kernel_rfl) ?_
         intro V1 q5 e5 B5 K5
         have HB := hide B5
         have HW := hide K5
         clear e5 B5 K5
         refine Stp.go ?_))
    constructor
    go_wp2_with (
      first
      | (refine wpBoxV (by rfl) (.tmp 4) (by rfl) z.C (by kernel_rfl) ?_
         intro V2 q9 e9 B9 K9
         replace HB := hide ((unhide HB).kept K9 (by simp))
         replace HW := hide ((unhide HW).trans K9)
         have HZ := hide B9
         clear e9 B9 K9
         refine Stp.go ?_))
    constructor
    go_wp2_with (
      first
      | (refine wpLoadA row23 (by rfl) (.tmp 5) (by rfl) q5 0 (by kernel_rfl) (Ar.jobC J) rfl (unhide HB).range ?_
         refine Stp.go ?_))
    constructor
    go_wp2_with (
      first
      | (go_at_call 8
         refine (unhide P8 _).mono ?_
         rintro e V3 ⟨rfl, K3⟩
         have HK3 := hide K3
         clear K3 P8
         refine Stp.go ?_))
    constructor
    go_wp2_with (
      first
      | (go_at_call 9
         refine (known9 _ (hF.kept ((unhide HW).trans (unhide HK3)))).mono ?_
         rintro e V9 ⟨rfl, K9⟩
         have HK9 := hide K9
         clear K9
         refine Stp.go ?_))
    constructor
    go_wp2_with fail
    go_ret
    exact ⟨rfl, ((unhide HW).trans (unhide HK3)).trans (unhide HK9)⟩
  by_cases c2 : 60 < (n2 : Int)
  · clear hbad
    have P8 := hide (fun W => rmay8 J W)
    rw [show J.may = true by simpa using c0] at P8
    clear c0
    go_enter Tryd.func3, Tryd.ntmps3
    go_wp2_with (
      first
      | (refine wpBoxV (by rfl) (.tmp 0) (by rfl) (Ar.jobC J) (by kernel_rfl) ?_
         intro V1 q5 e5 B5 K5
         have HB := hide B5
         have HW := hide K5
         clear e5 B5 K5
         refine Stp.go ?_))
    constructor
    go_wp2_with (
      first
      | (refine wpBoxV (by rfl) (.tmp 4) (by rfl) z.C (by kernel_rfl) ?_
         intro V2 q9 e9 B9 K9
         replace HB := hide ((unhide HB).kept K9 (by simp))
         replace HW := hide ((unhide HW).trans K9)
         have HZ := hide B9
         clear e9 B9 K9
         refine Stp.go ?_))
    constructor
    go_wp2_with (
      first
      | (refine wpLoadA row23 (by rfl) (.tmp 5) (by rfl) q5 0 (by kernel_rfl) (Ar.jobC J) rfl (unhide HB).range ?_
         refine Stp.go ?_))
    constructor
    go_wp2_with (
      first
      | (go_at_call 8
         refine (unhide P8 _).mono ?_
         rintro e V3 ⟨rfl, K3⟩
         have HK3 := hide K3
         clear K3 P8
         refine Stp.go ?_))
    constructor
    go_wp2_with (
      first
      | (go_at_call 9
         refine (known9 _ (hF.kept ((unhide HW).trans (unhide HK3)))).mono ?_
         rintro e V9 ⟨rfl, K9⟩
         have HK9 := hide K9
         clear K9
         refine Stp.go ?_))
    constructor
    go_wp2_with fail
    go_ret
    exact ⟨rfl, ((unhide HW).trans (unhide HK3)).trans (unhide HK9)⟩
  by_cases c3 : ct < 0
  · clear hbad
    have P8 := hide (fun W => rmay8 J W)
    rw [show J.may = true by simpa using c0] at P8
    clear c0
    go_enter Tryd.func3, Tryd.ntmps3
    go_wp2_with (
      first
      | (refine wpBoxV (by rfl) (.tmp 0) (by rfl) (Ar.jobC J) (by kernel_rfl) ?_
         intro V1 q5 e5 B5 K5
         have HB := hide B5
         have HW := hide K5
         clear e5 B5 K5
         refine Stp.go ?_))
    constructor
    go_wp2_with (
      first
      | (refine wpBoxV (by rfl) (.tmp 4) (by rfl) z.C (by kernel_rfl) ?_
         intro V2 q9 e9 B9 K9
         replace HB := hide ((unhide HB).kept K9 (by simp))
         replace HW := hide ((unhide HW).trans K9)
         have HZ := hide B9
         clear e9 B9 K9
         refine Stp.go ?_))
    constructor
    go_wp2_with (
      first
      | (refine wpLoadA row23 (by rfl) (.tmp 5) (by rfl) q5 0 (by kernel_rfl) (Ar.jobC J) rfl (unhide HB).range ?_
         refine Stp.go ?_))
    constructor
    go_wp2_with (
      first
      | (go_at_call 8
         refine (unhide P8 _).mono ?_
         rintro e V3 ⟨rfl, K3⟩
         have HK3 := hide K3
         clear K3 P8
         refine Stp.go ?_))
    constructor
    go_wp2_with (
      first
      | (go_at_call 9
         refine (known9 _ (hF.kept ((unhide HW).trans (unhide HK3)))).mono ?_
         rintro e V9 ⟨rfl, K9⟩
         have HK9 := hide K9
         clear K9
         refine Stp.go ?_))
    constructor
    go_wp2_with fail
    go_ret
    exact ⟨rfl, ((unhide HW).trans (unhide HK3)).trans (unhide HK9)⟩
  have c4 : 1000 < ct := Decidable.byContradiction fun h9 => hbad ⟨by simpa using c0, by omega, by omega, by omega, by omega⟩
  clear hbad
  have P8 := hide (fun W => rmay8 J W)
  rw [show J.may = true by simpa using c0] at P8
  clear c0
  go_enter Tryd.func3, Tryd.ntmps3
  go_wp2_with (
    first
    | (refine wpBoxV (by rfl) (.tmp 0) (by rfl) (Ar.jobC J) (by kernel_rfl) ?_
       intro V1 q5 e5 B5 K5
       have HB := hide B5
       have HW := hide K5
       clear e5 B5 K5
       refine Stp.go ?_))
  constructor
  go_wp2_with (
    first
    | (refine wpBoxV (by rfl) (.tmp 4) (by rfl) z.C (by kernel_rfl) ?_
       intro V2 q9 e9 B9 K9
       replace HB := hide ((unhide HB).kept K9 (by simp))
       replace HW := hide ((unhide HW).trans K9)
       have HZ := hide B9
       clear e9 B9 K9
       refine Stp.go ?_))
  constructor
  go_wp2_with (
    first
    | (refine wpLoadA row23 (by rfl) (.tmp 5) (by rfl) q5 0 (by kernel_rfl) (Ar.jobC J) rfl (unhide HB).range ?_
       refine Stp.go ?_))
  constructor
  go_wp2_with (
    first
    | (go_at_call 8
       refine (unhide P8 _).mono ?_
       rintro e V3 ⟨rfl, K3⟩
       have HK3 := hide K3
       clear K3 P8
       refine Stp.go ?_))
  constructor
  go_wp2_with (
    first
    | (go_at_call 9
       refine (known9 _ (hF.kept ((unhide HW).trans (unhide HK3)))).mono ?_
       rintro e V9 ⟨rfl, K9⟩
       have HK9 := hide K9
       clear K9
       refine Stp.go ?_))
  constructor
  go_wp2_with fail
  go_ret
  exact ⟨rfl, ((unhide HW).trans (unhide HK3)).trans (unhide HK9)⟩
@[reducible] def Sbp (V : World) (ib ia ic : Nat) (u : Value) (n : Nat) (xs : List Value) (r : Rc.Rec) (d : Nat → Bool) (vs : Nat → Value) (W : World) : Prop := Sap V ib ia u n xs r d vs W ∧ (d ic = true → d ia = true ∧ vs ic = vs ia)
theorem Sbp.loc {V : World} {ib ia ic : Nat} {u : Value} {n : Nat} {xs : List Value} {r : Rc.Rec} : ∀ d d' vs vs' W, (∀ i ∈ [ib, ia, ic], d i = d' i ∧ vs i = vs' i) → Sbp V ib ia ic u n xs r d vs W → Sbp V ib ia ic u n xs r d' vs' W := by
  intro d d' vs vs' W H h
  have e0 := H ib (by simp)
  have e1 := H ia (by simp)
  have e2 := H ic (by simp)
  unfold Sbp Sap at h ⊢
  rw [← e0.1, ← e0.2, ← e1.1, ← e1.2, ← e2.1, ← e2.2]
  exact h
theorem wpIdx24 {ops : Array Oper} {rest : List Oper} {op : Oper} {a : Act} {w : World} {Q : Exit → Act → World → Prop} (hgd : op.guard = none) (x y : Operand) (ho : op.op = .indexAddr 24 x y) (g off m c k : Nat) (hk : k < m) (hx : a.eval x = .slice (some ⟨g, off, none⟩) m c) (hy : a.eval y = .int .i64 k) (h : wpList Tryd.prog ops Q rest (a.put op.dst (.pointer (some ⟨g, off + k * 97, none⟩))) w) : wpList Tryd.prog ops Q (op :: rest) a w :=
  wpList_plain hgd fun _ hK => o_idx24 x y ho g off m c k hk hx hy (hK _ _ h)
theorem cg21 (vs : Array Value) (w : World) : (callFunc 21 vs).run Tryd.prog w = .ok (.enter 21 vs) w := by kernel_rfl
theorem cg9 (vs : Array Value) (w : World) : (callFunc 9 vs).run Tryd.prog w = .ok (.enter 9 vs) w := by kernel_rfl
/-- The last Append, and what is read behind its Flush. -/
theorem kt_last {J : Ar.Job} {w0 W : World} {l b g : Nat} {D1 D2 : Dv.Dev} {L : Lo} {f : Nat} (z : Ve) (hz : z.Ok) (hJ : L.J = J) (hnd : L.nd = 1) (hep : L.ep = 1) (hH : Hol D1.uncut (L.tk f)) (hf : f ≤ L.R.length) (hS : D2.S = D1.uncut.S) (hset : D2.set = false) (href : D2.ref 1 2 true = 0) (hl : lookR D2 J 1 true = (L.st, L.R.take f, 0)) (h : Ka w0 W l b g D2 (openL J 1 2 L.st (L.R.take f))) : Calls Tryd.prog 16 #[P0 l, .int .i64 0, aggV z.C] W fun e w' => ∃ (n c : Int) (M : Lo), e = .returned (.tuple #[.int .i64 n, .int .i64 c]) ∧ Ka w0 w' l b g D2 M ∧ ((¬ c = 0 ∧ lookR D2 J 1 true = (L.st, L.R.take f, 0)) ∨ (c = 0 ∧ n = L.st + f ∧ ∃ (r : Rc.Rec) (D3 : Dv.Dev) (q : Nat), r.ep = 2 ∧ r.bd = z.bd ∧ M.flush D2 = (D3, q, 0) ∧ lookR D3 J 1 true = (L.st, L.R.take f ++ [r], 0))) := by
  refine (ka_app 0 z.ps z.bd hz.bd h).mono ?_
  rintro e w' ⟨rfl, h1⟩
  refine ⟨_, _, _, rfl, h1, ?_⟩
  by_cases hps : 1 ≤ z.ps ∧ z.ps ≤ 2147483647
  · by_cases hroom : (openL J 1 2 L.st (L.R.take f)).room = 0
    · refine .inl ⟨?_, hl⟩
      unfold Lo.app
      split
      · show ¬ (2 : Int) = 0
        omega
      · show ¬ (5 : Int) = 0
        omega
    · have hlen : (L.R.take f).length = f := by rw [List.length_take]; omega
      obtain ⟨r, hr, ha, D3, hfl, hlk⟩ := hH.later (D2 := D2) (hfl := by show f = (L.R.take f).length; omega) hS hset 2 (by show L.ep ≤ 2; omega) (by omega) (by show D2.ref L.nd 2 true = 0; rw [hnd]; exact href) z.ps z.bd hz.bd hps (by show ¬ (openL L.J L.nd 2 L.st (L.R.take f)).room = 0; rw [hJ, hnd]; exact hroom)
      replace ha : (openL L.J L.nd 2 L.st (L.R.take f)).app 0 z.ps z.bd = ((openL L.J L.nd 2 L.st (L.R.take f)).more r, L.st + ((L.R.take f).length : Int), 0) := ha
      replace hfl : ((openL L.J L.nd 2 L.st (L.R.take f)).more r).flush D2 = (D3, (L.R.take f).length + 1, 0) := hfl
      replace hlk : lookR D3 L.J L.nd true = (L.st, L.R.take f ++ [r], 0) := hlk
      rw [hJ, hnd] at ha hfl hlk
      rw [ha]
      refine .inr ⟨rfl, by show L.st + ((L.R.take f).length : Int) = _; rw [hlen], r, D3, _, by rw [hr], by rw [hr], hfl, hlk⟩
  · refine .inl ⟨?_, hl⟩
    unfold Lo.app
    have : (openL J 1 2 L.st (L.R.take f)).mayA 0 z.ps = false := by
      unfold Lo.mayA
      rw [decide_eq_false (p := 1 ≤ z.ps ∧ z.ps ≤ 2147483647) hps, Bool.and_false]
    rw [if_pos this]
    show ¬ (2 : Int) = 0
    omega
set_option maxHeartbeats 32000000 in
theorem torn_ok (J : Ar.Job) (fo so : Option Addr) (n1 fc n2 sc ct : Nat) (z : Ve) (F1 F2 : List Ve) (w : World) (hF : Rc.First w) (hm : J.may = true) (l1 : F1.length = n1) (h1 : n1 ≤ 60) (l2 : F2.length = n2) (h2 : n2 ≤ 60) (hct : ct ≤ 1000) (hz : z.Ok) (o1 : ∀ x ∈ F1, x.Ok) (o2 : ∀ x ∈ F2, x.Ok) (r1 : RowS Ve.C 97 w fo F1) (r2 : RowS Ve.C 97 w so F2) : Calls Tryd.prog 3 #[aggV (Ar.jobC J), .slice fo n1 fc, .slice so n2 sc, .int .i64 (ct : Int), aggV z.C] w fun e w' => e = .returned (.bool true) ∧ Kept [] w w' := by
  have P8 := hide (fun W => rmay8 J W)
  rw [hm] at P8
  have HM := hide hm
  have HN1 : Hid ((0 : Int) ≤ 1 ∧ (1 : Int) < J.n) := by
    have hm' := hm
    simp only [Ar.Job.may, decide_eq_true_eq] at hm'
    exact ⟨by omega, by omega⟩
  have c1 : ¬ 60 < (n1 : Int) := by omega
  have c2 : ¬ 60 < (n2 : Int) := by omega
  have c3 : ¬ (ct : Int) < 0 := by omega
  have c4 : ¬ 1000 < (ct : Int) := by omega
  have HR1 := hide r1
  have HR2 := hide r2
  have HO1 := hide o1
  have HO2 := hide o2
  have HZO := hide hz
  have HL1 : Hid (F1.length = n1) := l1
  have HL2 : Hid (F2.length = n2) := l2
  clear hm r1 r2 o1 o2 hz l1 l2
  go_enter Tryd.func3, Tryd.ntmps3
  go_wp2_with (
    first
    | (refine wpBoxV (by rfl) (.tmp 0) (by rfl) (Ar.jobC J) (by kernel_rfl) ?_
       intro V1 q5 e5 B5 K5
       have HB := hide B5
       have HW := hide K5
       clear e5 B5 K5
       refine Stp.go ?_))
  constructor
  go_wp2_with (
    first
    | (refine wpBoxV (by rfl) (.tmp 4) (by rfl) z.C (by kernel_rfl) ?_
       intro V2 q9 e9 B9 K9
       replace HB := hide ((unhide HB).kept K9 (by simp))
       replace HW := hide ((unhide HW).trans K9)
       have HZ := hide B9
       clear e9 B9 K9
       refine Stp.go ?_))
  constructor
  go_wp2_with (
    first
    | (refine wpLoadA row23 (by rfl) (.tmp 5) (by rfl) q5 0 (by kernel_rfl) (Ar.jobC J) rfl (unhide HB).range ?_
       refine Stp.go ?_))
  constructor
  go_wp2_with (
    first
    | (go_at_call 8
       refine (unhide P8 _).mono ?_
       rintro e V3 ⟨rfl, K3⟩
       have HK3 := hide K3
       have HF : Hid (Rc.First V2) := hF.kept (unhide HW)
       clear K3 P8 c1 c2 c3 c4
       refine Stp.go ?_))
  constructor
  go_wp2_with (
    first
    | (refine wpLoadA row23 (by rfl) (.tmp 5) (by rfl) q5 0 (by kernel_rfl) (Ar.jobC J) rfl ((unhide HB).kept (unhide HK3) (by simp)).range ?_
       refine Stp.go ?_))
  constructor
  go_wp2_with (
    first
    | (go_at_call 10
       refine (kt_new (unhide HM) (unhide HK3)).mono ?_
       rintro e V4 ⟨b, g, rfl, h4⟩
       have HD := hide h4
       clear h4 HK3
       refine Stp.go ?_))
  constructor
  go_wp2_with (
    first
    | (refine wpLoadA row23 (by rfl) (.tmp 5) (by rfl) q5 0 (by kernel_rfl) (Ar.jobC J) rfl ((unhide HB).kept (unhide HD).k (by simp)).range ?_
       refine Stp.go ?_))
  constructor
  go_wp2_with (
    first
    | (go_at_call 11
       refine (kt_open1 (unhide HM) (unhide HN1) (unhide HF) (unhide HD)).mono ?_
       rintro e V5 ⟨l, rfl, h5⟩
       have HX : Hid (∃ D L, Kb V2 V5 l b g D L (.slice none 0 0) L.R ∧ Tn J D L) := ⟨_, _, h5.kb, tn0 (unhide HM)⟩
       clear h5 HD HN1
       refine Stp.go ?_))
  constructor
  go_wp2_with fail
  go_loopw [14, 15] (fun u i wr => ∃ k : Nat, k ≤ n1 ∧ i = .int .i64 k ∧ Hid (∃ D L, Kb V2 wr l b g D L u L.R ∧ Tn J D L)) (fun _ i _ => n1 - (intOf i).toNat)
  case atStart => exact ⟨0, by omega, rfl, HX⟩
  case round =>
    clear HX
    obtain ⟨k, hk0, rfl, HX⟩ := hrel
    obtain ⟨D, L, hK0, hT0⟩ := unhide HX
    obtain ⟨uo, uc, hu, _, _⟩ := hK0.row.sl
    obtain ⟨m, hme⟩ : ∃ m, L.R.length = m := ⟨_, rfl⟩
    rw [hme] at hu
    subst hu
    have HME := hide hme
    have HK := hide hK0
    have HT := hide hT0
    clear HX hK0 hT0 hme
    by_cases hlt : (k : Int) < (n1 : Int)
    · obtain ⟨rm, hrm⟩ : ∃ rm, L.room = rm := ⟨_, rfl⟩
      go_upto_if 78 with (
        first
        | (go_at_call 12
           refine (kb_room rm hrm (unhide HK)).mono ?_
           rintro e V11 ⟨rfl, h11⟩
           replace HK := hide h11
           clear h11 hrm))
      go_cut [14] from 70 to 111 (fun u w1c => Hid (∃ D L, Kb V2 w1c l b g D L u L.R ∧ Tn J D L))
      case first =>
        as_aux_lemma =>
          by_cases h0 : rm = 0
          · have d1 : (rm == 0) = true := by simpa using h0
            have d2 : decide (rm = 0) = true := by simpa using h0
            clear h0
            obtain ⟨D1, hf1, T1⟩ := (unhide HT).flush
            go_wp2_with (
              first
              | (go_at_call 13
                 refine (kb_flush hf1 (unhide HK)).mono ?_
                 rintro e V12 ⟨rfl, h12⟩
                 replace HK := hide h12
                 clear h12 hf1
                 obtain ⟨D9, L9, hc9, T9, hR9⟩ := T1.cutAll (unhide HK).ok rfl
                 obtain ⟨sf, hsf⟩ : ∃ sf, (L.atF L.R.length).st + ((L.atF L.R.length).fl : Int) - 1 = sf := ⟨_, rfl⟩
                 have hsb : 0 ≤ sf ∧ sf ≤ 2147483647 := by
                   have e1 := T1.hol.st
                   have e2 := T1.hol.nx
                   have e3 := T1.hol.fl
                   omega
                 rw [hsf] at hc9
                 refine Stp.go ?_))
            constructor
            go_wp2_with (
              first
              | (go_at_call 15
                 refine (kb_flushed (unhide HK)).mono ?_
                 rintro e V13 ⟨rfl, h13⟩
                 rw [hsf]
                 replace HK := hide h13
                 clear h13 hsf
                 refine Stp.go ?_))
            constructor
            go_wp2_with (
              first
              | (go_at_call 14
                 refine (kb_cut (unhide HF) _ hc9 (unhide HK)).mono ?_
                 rintro e V14 ⟨rfl, h14⟩
                 replace HK := hide h14
                 clear h14 hc9
                 refine Stp.go ?_))
            constructor
            go_wp2_with fail
            go_meet
            case rel => exact ⟨D9, L9, by rw [hR9]; exact (unhide HK).nil, T9⟩
          · have d1 : (rm == 0) = false := by simpa using h0
            have d2 : decide (rm = 0) = false := by simpa using h0
            clear h0
            go_wp2_with fail
            go_meet
            case rel => exact ⟨D, L, unhide HK, unhide HT⟩
      case rest =>
        clear HK HT HME
        obtain ⟨D, L, hK0, hT0⟩ := unhide hcut
        obtain ⟨uo, uc, hu, _, _⟩ := hK0.row.sl
        obtain ⟨m, hme⟩ : ∃ m, L.R.length = m := ⟨_, rfl⟩
        rw [hme] at hu
        subst hu
        have HME := hide hme
        have HK := hide hK0
        have HT := hide hT0
        clear hcut hK0 hT0 hme
        as_aux_lemma =>
          have hkn : k < n1 := by omega
          obtain ⟨x, hx⟩ : ∃ x, F1[k]? = some x := ⟨_, List.getElem?_eq_getElem (by rw [unhide HL1]; exact hkn)⟩
          obtain ⟨fb, fof, hfo, hrg⟩ := ve_at (RowS.kept (unhide HR1) (unhide HW)) hx
          have HXO : Hid x.Ok := unhide HO1 x (List.mem_of_getElem? hx)
          have HXW := hide hrg
          have HXL := hide (ve_len (unhide HXO))
          subst hfo
          clear hx hrg
          go_wp2_with (
            first
            | (refine wpIdx24 (by rfl) (.tmp 88) (.tmp 89) (by rfl) fb fof n1 fc k hkn (by kernel_rfl) (by kernel_rfl) ?_
               refine Stp.go ?_))
          constructor
          go_wp2_with (
            first
            | (refine wpLoadA row28 (by rfl) (.tmp 90) (by rfl) fb (fof + k * 97) (by kernel_rfl) x.C (unhide HXL) (range_kept (unhide HXW) (unhide HK).k) ?_
               refine Stp.go ?_))
          constructor
          go_wp2_with (
            first
            | (go_at_call 16
               refine (kt_app x (unhide HXO) (unhide HK) (unhide HT)).mono ?_
               rintro e V16 ⟨n, c, L9, rfl, h16, t16, hcs⟩
               have HC := hide hcs
               replace HK := hide h16
               replace HT := hide t16
               clear hcs h16 t16
               refine Stp.go ?_))
          constructor
          go_upto_if 96 with fail
          rcases unhide HC with ⟨hc0, hL9⟩ | ⟨hc0, hR9, hF9⟩
          · have d1 : (c == 0) = false := by simpa using hc0
            have d2 : decide (c = 0) = false := by simpa using hc0
            clear hc0 HC
            go_wp2_with fail
            go_roundw
            case rel => exact ⟨k + 1, by omega, by go_num, ⟨D, L9, by rw [hL9] at HK ⊢; exact unhide HK, unhide HT⟩⟩
            case measure => simp [intOf]; omega
          · subst hc0
            clear HC
            obtain ⟨R0, hR0⟩ : ∃ R0, L.R = R0 := ⟨_, rfl⟩
            rw [hR0] at hR9
            have HO : Hid (OwnO V16 (.slice uo m uc) m (cellsR R0)) := by
              have h9 := (unhide HK).row
              rw [unhide HME, hR0] at h9
              exact h9
            have HRG := hide (range_kept (unhide HXW) (unhide HK).k)
            have HLO : Hid (m ≤ 100) := by
              have e1 := (unhide HT).hol.many
              have e2 := (unhide HM)
              simp only [Ar.Job.may, decide_eq_true_eq] at e2
              rw [hR9, List.length_append, (unhide HT).J] at e1
              have e3 := unhide HME
              rw [hR0] at e3
              simp at e1
              exact (by omega : m ≤ 100)
            have HR9 := hide hR9
            have HF9 := hide hF9
            have HR0 := hide hR0
            clear hR9 hF9 hR0
            go_wp2_with fail
            refine wp_region_any mixed (wpAny_gx 16 rfl (by kernel_rfl) [some (.slice uo m uc), some (.int .i64 n), some (.slice (some ⟨fb, fof, none⟩) n1 fc), some (.int .i64 (k : Nat)), some (.pointer (some ⟨fb, fof + k * 97, none⟩)), some (.pointer (some ⟨fb, fof + k * 97 + 0, none⟩)), some (.int .i64 x.ps), some (.slice (some ⟨fb, fof, none⟩) n1 fc), some (.int .i64 (k : Nat)), some (.pointer (some ⟨fb, fof + k * 97, none⟩)), some (.pointer (some ⟨fb, fof + k * 97 + 1, none⟩)), some (aggV (u8s x.bd)), some (aggV (Rc.recC ⟨1, 1, n, 0, x.ps, x.bd⟩)), none, none, none] rfl (by kernel_rfl) (fun l_ vs W => (Sbp V16 13 14 15 (.slice uo m uc) m (cellsR R0) ⟨1, 1, n, 0, x.ps, x.bd⟩) (fun i => l_.getD i false) vs W) (⟨⟨fun _ => ⟨⟨rfl, rfl, rfl, Nat.le_refl _, fun _ _ _ => rfl⟩, (fun h => by cases h)⟩, (fun h => by cases h)⟩, fun h => by cases h⟩) ?_ ?_)
            · intro ix o' hi ho a' w2 l_ vs hls hlf hJ hout hin hdep hnot
              match ix, ho with
              | 0, ho =>
                obtain rfl := Option.some.inj ho
                have e0 := hout 14 (by kernel_rfl)
                replace e0 : a'.eval (.tmp 14) = _ := e0.trans rfl
                exact wp_move (.tmp 14) rfl _ e0 ⟨_, rfl, told_of rfl, keepG (St := (Sbp V16 13 14 15 (.slice uo m uc) m (cellsR R0) ⟨1, 1, n, 0, x.ps, x.bd⟩)) [13, 14, 15] Sbp.loc (by omega) (by decide) hJ⟩
              | 1, ho =>
                obtain rfl := Option.some.inj ho
                have e0 := hout 16 (by kernel_rfl)
                replace e0 : a'.eval (.tmp 16) = _ := e0.trans rfl
                exact wp_move (.tmp 16) rfl _ e0 ⟨_, rfl, told_of rfl, keepG (St := (Sbp V16 13 14 15 (.slice uo m uc) m (cellsR R0) ⟨1, 1, n, 0, x.ps, x.bd⟩)) [13, 14, 15] Sbp.loc (by omega) (by decide) hJ⟩
              | 2, ho =>
                obtain rfl := Option.some.inj ho
                have e0 := hout 1 (by kernel_rfl)
                replace e0 : a'.eval (.tmp 1) = _ := e0.trans rfl
                exact wp_move (.tmp 1) rfl _ e0 ⟨_, rfl, told_of rfl, keepG (St := (Sbp V16 13 14 15 (.slice uo m uc) m (cellsR R0) ⟨1, 1, n, 0, x.ps, x.bd⟩)) [13, 14, 15] Sbp.loc (by omega) (by decide) hJ⟩
              | 3, ho =>
                obtain rfl := Option.some.inj ho
                have e0 := hout 15 (by kernel_rfl)
                replace e0 : a'.eval (.tmp 15) = _ := e0.trans rfl
                exact wp_move (.tmp 15) rfl _ e0 ⟨_, rfl, told_of rfl, keepG (St := (Sbp V16 13 14 15 (.slice uo m uc) m (cellsR R0) ⟨1, 1, n, 0, x.ps, x.bd⟩)) [13, 14, 15] Sbp.loc (by omega) (by decide) hJ⟩
              | 4, ho =>
                obtain rfl := Option.some.inj ho
                have e0 : a'.eval (.tmp 99) = .slice (some ⟨fb, fof, none⟩) n1 fc := by have h9 := hin 2 99 (by kernel_rfl) (by kernel_rfl); exact h9.1.trans (told_is _ h9.2 rfl)
                have e1 : a'.eval (.tmp 100) = .int .i64 (k : Nat) := by have h9 := hin 3 100 (by kernel_rfl) (by kernel_rfl); exact h9.1.trans (told_is _ h9.2 rfl)
                exact o_idx24 (.tmp 99) (.tmp 100) rfl fb fof _ _ k hkn e0 e1 ⟨_, rfl, told_of rfl, keepG (St := (Sbp V16 13 14 15 (.slice uo m uc) m (cellsR R0) ⟨1, 1, n, 0, x.ps, x.bd⟩)) [13, 14, 15] Sbp.loc (by omega) (by decide) hJ⟩
              | 5, ho =>
                obtain rfl := Option.some.inj ho
                have e0 : a'.eval (.tmp 101) = .pointer (some ⟨fb, fof + k * 97, none⟩) := by have h9 := hin 4 101 (by kernel_rfl) (by kernel_rfl); exact h9.1.trans (told_is _ h9.2 rfl)
                exact o_fldo28_0 (.tmp 101) rfl _ _ e0 ⟨_, rfl, told_of rfl, keepG (St := (Sbp V16 13 14 15 (.slice uo m uc) m (cellsR R0) ⟨1, 1, n, 0, x.ps, x.bd⟩)) [13, 14, 15] Sbp.loc (by omega) (by decide) hJ⟩
              | 6, ho =>
                obtain rfl := Option.some.inj ho
                have e0 : a'.eval (.tmp 102) = .pointer (some ⟨fb, fof + k * 97 + 0, none⟩) := by have h9 := hin 5 102 (by kernel_rfl) (by kernel_rfl); exact h9.1.trans (told_is _ h9.2 rfl)
                exact q_load2 (.tmp 102) rfl _ _ e0 (ve_ps (range_kept (unhide HRG) (hJ.1.1 (hnot 14 (by kernel_rfl))).1)) ⟨_, rfl, told_of rfl, keepG (St := (Sbp V16 13 14 15 (.slice uo m uc) m (cellsR R0) ⟨1, 1, n, 0, x.ps, x.bd⟩)) [13, 14, 15] Sbp.loc (by omega) (by decide) hJ⟩
              | 7, ho =>
                obtain rfl := Option.some.inj ho
                have e0 := hout 1 (by kernel_rfl)
                replace e0 : a'.eval (.tmp 1) = _ := e0.trans rfl
                exact wp_move (.tmp 1) rfl _ e0 ⟨_, rfl, told_of rfl, keepG (St := (Sbp V16 13 14 15 (.slice uo m uc) m (cellsR R0) ⟨1, 1, n, 0, x.ps, x.bd⟩)) [13, 14, 15] Sbp.loc (by omega) (by decide) hJ⟩
              | 8, ho =>
                obtain rfl := Option.some.inj ho
                have e0 := hout 15 (by kernel_rfl)
                replace e0 : a'.eval (.tmp 15) = _ := e0.trans rfl
                exact wp_move (.tmp 15) rfl _ e0 ⟨_, rfl, told_of rfl, keepG (St := (Sbp V16 13 14 15 (.slice uo m uc) m (cellsR R0) ⟨1, 1, n, 0, x.ps, x.bd⟩)) [13, 14, 15] Sbp.loc (by omega) (by decide) hJ⟩
              | 9, ho =>
                obtain rfl := Option.some.inj ho
                have e0 : a'.eval (.tmp 104) = .slice (some ⟨fb, fof, none⟩) n1 fc := by have h9 := hin 7 104 (by kernel_rfl) (by kernel_rfl); exact h9.1.trans (told_is _ h9.2 rfl)
                have e1 : a'.eval (.tmp 105) = .int .i64 (k : Nat) := by have h9 := hin 8 105 (by kernel_rfl) (by kernel_rfl); exact h9.1.trans (told_is _ h9.2 rfl)
                exact o_idx24 (.tmp 104) (.tmp 105) rfl fb fof _ _ k hkn e0 e1 ⟨_, rfl, told_of rfl, keepG (St := (Sbp V16 13 14 15 (.slice uo m uc) m (cellsR R0) ⟨1, 1, n, 0, x.ps, x.bd⟩)) [13, 14, 15] Sbp.loc (by omega) (by decide) hJ⟩
              | 10, ho =>
                obtain rfl := Option.some.inj ho
                have e0 : a'.eval (.tmp 106) = .pointer (some ⟨fb, fof + k * 97, none⟩) := by have h9 := hin 9 106 (by kernel_rfl) (by kernel_rfl); exact h9.1.trans (told_is _ h9.2 rfl)
                exact o_fldo28_1 (.tmp 106) rfl _ _ e0 ⟨_, rfl, told_of rfl, keepG (St := (Sbp V16 13 14 15 (.slice uo m uc) m (cellsR R0) ⟨1, 1, n, 0, x.ps, x.bd⟩)) [13, 14, 15] Sbp.loc (by omega) (by decide) hJ⟩
              | 11, ho =>
                obtain rfl := Option.some.inj ho
                have e0 : a'.eval (.tmp 107) = .pointer (some ⟨fb, fof + k * 97 + 1, none⟩) := by have h9 := hin 10 107 (by kernel_rfl) (by kernel_rfl); exact h9.1.trans (told_is _ h9.2 rfl)
                exact wp_loadA row26 (.tmp 107) rfl fb (fof + k * 97 + 1) e0 (u8s x.bd) (by rw [u8s_len]; exact (unhide HXO).bd.len) (ve_bd (range_kept (unhide HRG) (hJ.1.1 (hnot 14 (by kernel_rfl))).1)) ⟨_, rfl, told_of rfl, keepG (St := (Sbp V16 13 14 15 (.slice uo m uc) m (cellsR R0) ⟨1, 1, n, 0, x.ps, x.bd⟩)) [13, 14, 15] Sbp.loc (by omega) (by decide) hJ⟩
              | 12, ho =>
                obtain rfl := Option.some.inj ho
                have e0 : a'.eval (.tmp 98) = .int .i64 n := by have h9 := hin 1 98 (by kernel_rfl) (by kernel_rfl); exact h9.1.trans (told_is _ h9.2 rfl)
                have e1 : a'.eval (.tmp 103) = .int .i64 x.ps := by have h9 := hin 6 103 (by kernel_rfl) (by kernel_rfl); exact h9.1.trans (told_is _ h9.2 rfl)
                have e2 : a'.eval (.tmp 108) = aggV (u8s x.bd) := by have h9 := hin 11 108 (by kernel_rfl) (by kernel_rfl); exact h9.1.trans (told_is _ h9.2 rfl)
                exact o_bldT (.tmp 98) (.tmp 103) (.tmp 108) rfl n x.ps x.bd (unhide HXO).bd.len e0 e1 e2 ⟨_, rfl, told_of rfl, keepG (St := (Sbp V16 13 14 15 (.slice uo m uc) m (cellsR R0) ⟨1, 1, n, 0, x.ps, x.bd⟩)) [13, 14, 15] Sbp.loc (by omega) (by decide) hJ⟩
              | 13, ho =>
                obtain rfl := Option.some.inj ho
                have e0 : a'.eval (.tmp 109) = aggV (Rc.recC ⟨1, 1, n, 0, x.ps, x.bd⟩) := by have h9 := hin 12 109 (by kernel_rfl) (by kernel_rfl); exact h9.1.trans (told_is _ h9.2 rfl)
                refine o_bsR (.tmp 109) rfl (Rc.recC ⟨1, 1, n, 0, x.ps, x.bd⟩) (recC_len (r := ⟨1, 1, n, 0, x.ps, x.bd⟩) (unhide HXO).bd) e0 ?_
                exact ⟨_, rfl, told_no rfl, nextG (St := (Sbp V16 13 14 15 (.slice uo m uc) m (cellsR R0) ⟨1, 1, n, 0, x.ps, x.bd⟩)) (by omega) ⟨⟨fun h14 => ⟨(hJ.1.1 (hnot 14 (by kernel_rfl))).1.alloc _, fun _ => ⟨w2.heap.size, rfl, Blk.new w2 45 _⟩⟩, fun h14 => by have h9 : l_.getD 14 false = true := h14; rw [hnot 14 (by kernel_rfl)] at h9; cases h9⟩, fun h15 => by have h9 : l_.getD 15 false = true := h15; rw [hnot 15 (by kernel_rfl)] at h9; cases h9⟩⟩
              | 14, ho =>
                obtain rfl := Option.some.inj ho
                have e0 : a'.eval (.tmp 97) = .slice uo m uc := by have h9 := hin 0 97 (by kernel_rfl) (by kernel_rfl); exact h9.1.trans (told_is _ h9.2 rfl)
                have e1 : a'.eval (.tmp 110) = vs 13 := (hin 13 110 (by kernel_rfl) (by kernel_rfl)).1
                obtain ⟨hk0, hq0⟩ := hJ.1.1 hlf
                obtain ⟨q, hq, hBq⟩ := hq0 (hdep 13 (by kernel_rfl))
                exact o_appO (.tmp 97) (.tmp 110) rfl (.slice uo m uc) m (cellsR R0) e0 ((unhide HO).kept hk0 (by simp)) q (Rc.recC ⟨1, 1, n, 0, x.ps, x.bd⟩) (e1.trans hq) hBq (recC_len (r := ⟨1, 1, n, 0, x.ps, x.bd⟩) (unhide HXO).bd) (recC_one _) (by have := unhide HLO; omega) fun v' w' h1 h2 h3 => ⟨_, rfl, told_no rfl, nextG (St := (Sbp V16 13 14 15 (.slice uo m uc) m (cellsR R0) ⟨1, 1, n, 0, x.ps, x.bd⟩)) (by omega) ⟨⟨(fun h => by cases h), fun _ => ⟨h1, (hk0.mono (by simp)).trans h2, fun k hk => by rcases h3 k hk with e | e; exact .inl e; exact .inr (by have := hk0.size; omega)⟩⟩, fun h15 => by have h9 : l_.getD 15 false = true := h15; rw [hnot 15 (by kernel_rfl)] at h9; cases h9⟩⟩
              | 15, ho =>
                obtain rfl := Option.some.inj ho
                have e0 : a'.eval (.tmp 111) = vs 14 := (hin 14 111 (by kernel_rfl) (by kernel_rfl)).1
                exact wp_assignV (.tmp 111) rfl _ e0 ⟨_, rfl, told_no rfl, nextG (St := (Sbp V16 13 14 15 (.slice uo m uc) m (cellsR R0) ⟨1, 1, n, 0, x.ps, x.bd⟩)) (by omega) ⟨⟨fun h => absurd (hdep 14 (by kernel_rfl)) (by have h9 : l_.getD 14 false = false := h; rw [h9]; decide), fun _ => hJ.1.2 (hdep 14 (by kernel_rfl))⟩, fun _ => ⟨hdep 14 (by kernel_rfl), rfl⟩⟩⟩
            intro l_ vs w8 hl hJ htold
            have t0 : vs 0 = .slice uo m uc := told_is _ (htold 0 (by decide)) rfl
            have t1 : vs 1 = .int .i64 n := told_is _ (htold 1 (by decide)) rfl
            have t2 : vs 2 = .slice (some ⟨fb, fof, none⟩) n1 fc := told_is _ (htold 2 (by decide)) rfl
            have t3 : vs 3 = .int .i64 (k : Nat) := told_is _ (htold 3 (by decide)) rfl
            have t4 : vs 4 = .pointer (some ⟨fb, fof + k * 97, none⟩) := told_is _ (htold 4 (by decide)) rfl
            have t5 : vs 5 = .pointer (some ⟨fb, fof + k * 97 + 0, none⟩) := told_is _ (htold 5 (by decide)) rfl
            have t6 : vs 6 = .int .i64 x.ps := told_is _ (htold 6 (by decide)) rfl
            have t7 : vs 7 = .slice (some ⟨fb, fof, none⟩) n1 fc := told_is _ (htold 7 (by decide)) rfl
            have t8 : vs 8 = .int .i64 (k : Nat) := told_is _ (htold 8 (by decide)) rfl
            have t9 : vs 9 = .pointer (some ⟨fb, fof + k * 97, none⟩) := told_is _ (htold 9 (by decide)) rfl
            have t10 : vs 10 = .pointer (some ⟨fb, fof + k * 97 + 1, none⟩) := told_is _ (htold 10 (by decide)) rfl
            have t11 : vs 11 = aggV (u8s x.bd) := told_is _ (htold 11 (by decide)) rfl
            have t12 : vs 12 = aggV (Rc.recC ⟨1, 1, n, 0, x.ps, x.bd⟩) := told_is _ (htold 12 (by decide)) rfl
            rw [show (List.range 16).map vs = [vs 0, vs 1, vs 2, vs 3, vs 4, vs 5, vs 6, vs 7, vs 8, vs 9, vs 10, vs 11, vs 12, vs 13, vs 14, vs 15] from rfl]
            simp only [t0, t1, t2, t3, t4, t5, t6, t7, t8, t9, t10, t11, t12, putAll, Act.put, List.setIfInBounds_toArray, List.set_cons_succ, List.set_cons_zero]
            clear t0 t1 t2 t3 t4 t5 t6 t7 t8 t9 t10 t11 t12 htold
            obtain ⟨e9, g1⟩ := hJ.2 (hl 15 (by decide))
            obtain ⟨g2, g3, g4⟩ := hJ.1.2 (hl 14 (by decide))
            rw [← g1] at g2 g4
            have hS0 : L.R.length = m := unhide HME
            replace HK : Hid (Kb V2 w8 l b g D L9 (vs 15) (L.R ++ [⟨1, 1, n, 0, x.ps, x.bd⟩])) := (unhide HK).put (r := ⟨1, 1, n, 0, x.ps, x.bd⟩) (unhide HXO).bd (by rw [hS0]) (by rw [cellsR_app, unhide HR0]) g2 g3 g4
            clear g1 g2 g3 g4 e9 hJ hl HO HRG hS0
            rw [unhide HR0, ← unhide HR9] at HK
            go_wp2_with fail
            go_roundw
            case rel => exact ⟨k + 1, by omega, by go_num, ⟨D, L9, unhide HK, unhide HT⟩⟩
            case measure => simp [intOf]; omega
    · skip
      as_aux_lemma =>
        obtain ⟨D1, hf1, T1⟩ := (unhide HT).flush
        have HFL : Hid ((L.atF L.R.length).fl = m) := unhide HME
        replace HT := hide T1
        clear T1
        go_wp2_with (
          first
          | (go_at_call 13
             refine (kb_flush hf1 (unhide HK)).mono ?_
             rintro e V21 ⟨rfl, h21⟩
             replace HK : Hid (Kb V2 V21 l b g D1 (L.atF L.R.length) (.slice uo m uc) (L.atF L.R.length).R) := h21
             have HX : Hid (∃ D L, Kb V2 V21 l b g D L (.slice uo m uc) L.R ∧ Tn J D L ∧ L.fl = m) := ⟨_, _, unhide HK, unhide HT, unhide HFL⟩
             have hmb : (m : Int) ≤ 64 := by
               have e1 := (unhide HT).hol.many
               have e2 := (unhide HM)
               simp only [Ar.Job.may, decide_eq_true_eq] at e2
               rw [(unhide HT).J] at e1
               have e3 : (L.atF L.R.length).R.length = m := unhide HME
               omega
             clear h21 hf1 HK HT HME HFL
             refine Stp.go ?_))
        constructor
        go_wp2_with fail
        go_loopw [14, 19] (fun u i wr => ∃ k : Nat, k ≤ n2 ∧ i = .int .i64 k ∧ Hid (∃ D L, Kb V2 wr l b g D L u L.R ∧ Tn J D L ∧ L.fl = m)) (fun _ i _ => n2 - (intOf i).toNat)
        case atStart => exact ⟨0, by omega, rfl, HX⟩
        case round =>
          clear HX
          obtain ⟨k2, hk2, rfl, HX⟩ := hrel
          obtain ⟨D, L, hK0, hT0, hFL⟩ := unhide HX
          obtain ⟨vo, vc, hu, _, _⟩ := hK0.row.sl
          obtain ⟨mt, hme⟩ : ∃ mt, L.R.length = mt := ⟨_, rfl⟩
          rw [hme] at hu
          subst hu
          have HME := hide hme
          have HK := hide hK0
          have HT := hide hT0
          have HFL := hide hFL
          clear HX hK0 hT0 hme hFL
          by_cases hlt2 : (k2 : Int) < (n2 : Int)
          · skip
            as_aux_lemma =>
              have hkn : k2 < n2 := by omega
              obtain ⟨x, hx⟩ : ∃ x, F2[k2]? = some x := ⟨_, List.getElem?_eq_getElem (by rw [unhide HL2]; exact hkn)⟩
              obtain ⟨fb, fof, hfo, hrg⟩ := ve_at (RowS.kept (unhide HR2) (unhide HW)) hx
              have HXO : Hid x.Ok := unhide HO2 x (List.mem_of_getElem? hx)
              have HXW := hide hrg
              have HXL := hide (ve_len (unhide HXO))
              subst hfo
              clear hx hrg
              go_wp2_with (
                first
                | (refine wpIdx24 (by rfl) (.tmp 124) (.tmp 125) (by rfl) fb fof n2 sc k2 hkn (by kernel_rfl) (by kernel_rfl) ?_
                   refine Stp.go ?_))
              constructor
              go_wp2_with (
                first
                | (refine wpLoadA row28 (by rfl) (.tmp 126) (by rfl) fb (fof + k2 * 97) (by kernel_rfl) x.C (unhide HXL) (range_kept (unhide HXW) (unhide HK).k) ?_
                   refine Stp.go ?_))
              constructor
              go_wp2_with (
                first
                | (go_at_call 16
                   refine (kt_app x (unhide HXO) (unhide HK) (unhide HT)).mono ?_
                   rintro e V16 ⟨n, c, L9, rfl, h16, t16, hcs⟩
                   have HC := hide hcs
                   replace HK := hide h16
                   replace HT := hide t16
                   clear hcs h16 t16
                   refine Stp.go ?_))
              constructor
              go_upto_if 132 with fail
              rcases unhide HC with ⟨hc0, hL9⟩ | ⟨hc0, hR9, hF9⟩
              · have d1 : (c == 0) = false := by simpa using hc0
                have d2 : decide (c = 0) = false := by simpa using hc0
                clear hc0 HC
                go_wp2_with fail
                go_roundw
                case rel => exact ⟨k2 + 1, by omega, by go_num, ⟨D, L9, by rw [hL9] at HK ⊢; exact unhide HK, unhide HT, by rw [hL9]; exact unhide HFL⟩⟩
                case measure => simp [intOf]; omega
              · subst hc0
                clear HC
                obtain ⟨R0, hR0⟩ : ∃ R0, L.R = R0 := ⟨_, rfl⟩
                rw [hR0] at hR9
                have HO : Hid (OwnO V16 (.slice vo mt vc) mt (cellsR R0)) := by
                  have h9 := (unhide HK).row
                  rw [unhide HME, hR0] at h9
                  exact h9
                have HRG := hide (range_kept (unhide HXW) (unhide HK).k)
                have HLO : Hid (mt ≤ 100) := by
                  have e1 := (unhide HT).hol.many
                  have e2 := (unhide HM)
                  simp only [Ar.Job.may, decide_eq_true_eq] at e2
                  rw [hR9, List.length_append, (unhide HT).J] at e1
                  have e3 := unhide HME
                  rw [hR0] at e3
                  simp at e1
                  exact (by omega : mt ≤ 100)
                have HR9 := hide hR9
                have HF9 := hide hF9
                have HR0 := hide hR0
                clear hR9 hF9 hR0
                go_wp2_with fail
                refine wp_region_any mixed (wpAny_gx 16 rfl (by kernel_rfl) [some (.slice vo mt vc), some (.int .i64 n), some (.slice (some ⟨fb, fof, none⟩) n2 sc), some (.int .i64 (k2 : Nat)), some (.pointer (some ⟨fb, fof + k2 * 97, none⟩)), some (.pointer (some ⟨fb, fof + k2 * 97 + 0, none⟩)), some (.int .i64 x.ps), some (.slice (some ⟨fb, fof, none⟩) n2 sc), some (.int .i64 (k2 : Nat)), some (.pointer (some ⟨fb, fof + k2 * 97, none⟩)), some (.pointer (some ⟨fb, fof + k2 * 97 + 1, none⟩)), some (aggV (u8s x.bd)), some (aggV (Rc.recC ⟨1, 1, n, 0, x.ps, x.bd⟩)), none, none, none] rfl (by kernel_rfl) (fun l_ vs W => (Sbp V16 13 14 15 (.slice vo mt vc) mt (cellsR R0) ⟨1, 1, n, 0, x.ps, x.bd⟩) (fun i => l_.getD i false) vs W) (⟨⟨fun _ => ⟨⟨rfl, rfl, rfl, Nat.le_refl _, fun _ _ _ => rfl⟩, (fun h => by cases h)⟩, (fun h => by cases h)⟩, fun h => by cases h⟩) ?_ ?_)
                · intro ix o' hi ho a' w2 l_ vs hls hlf hJ hout hin hdep hnot
                  match ix, ho with
                  | 0, ho =>
                    obtain rfl := Option.some.inj ho
                    have e0 := hout 14 (by kernel_rfl)
                    replace e0 : a'.eval (.tmp 14) = _ := e0.trans rfl
                    exact wp_move (.tmp 14) rfl _ e0 ⟨_, rfl, told_of rfl, keepG (St := (Sbp V16 13 14 15 (.slice vo mt vc) mt (cellsR R0) ⟨1, 1, n, 0, x.ps, x.bd⟩)) [13, 14, 15] Sbp.loc (by omega) (by decide) hJ⟩
                  | 1, ho =>
                    obtain rfl := Option.some.inj ho
                    have e0 := hout 20 (by kernel_rfl)
                    replace e0 : a'.eval (.tmp 20) = _ := e0.trans rfl
                    exact wp_move (.tmp 20) rfl _ e0 ⟨_, rfl, told_of rfl, keepG (St := (Sbp V16 13 14 15 (.slice vo mt vc) mt (cellsR R0) ⟨1, 1, n, 0, x.ps, x.bd⟩)) [13, 14, 15] Sbp.loc (by omega) (by decide) hJ⟩
                  | 2, ho =>
                    obtain rfl := Option.some.inj ho
                    have e0 := hout 2 (by kernel_rfl)
                    replace e0 : a'.eval (.tmp 2) = _ := e0.trans rfl
                    exact wp_move (.tmp 2) rfl _ e0 ⟨_, rfl, told_of rfl, keepG (St := (Sbp V16 13 14 15 (.slice vo mt vc) mt (cellsR R0) ⟨1, 1, n, 0, x.ps, x.bd⟩)) [13, 14, 15] Sbp.loc (by omega) (by decide) hJ⟩
                  | 3, ho =>
                    obtain rfl := Option.some.inj ho
                    have e0 := hout 19 (by kernel_rfl)
                    replace e0 : a'.eval (.tmp 19) = _ := e0.trans rfl
                    exact wp_move (.tmp 19) rfl _ e0 ⟨_, rfl, told_of rfl, keepG (St := (Sbp V16 13 14 15 (.slice vo mt vc) mt (cellsR R0) ⟨1, 1, n, 0, x.ps, x.bd⟩)) [13, 14, 15] Sbp.loc (by omega) (by decide) hJ⟩
                  | 4, ho =>
                    obtain rfl := Option.some.inj ho
                    have e0 : a'.eval (.tmp 135) = .slice (some ⟨fb, fof, none⟩) n2 sc := by have h9 := hin 2 135 (by kernel_rfl) (by kernel_rfl); exact h9.1.trans (told_is _ h9.2 rfl)
                    have e1 : a'.eval (.tmp 136) = .int .i64 (k2 : Nat) := by have h9 := hin 3 136 (by kernel_rfl) (by kernel_rfl); exact h9.1.trans (told_is _ h9.2 rfl)
                    exact o_idx24 (.tmp 135) (.tmp 136) rfl fb fof _ _ k2 hkn e0 e1 ⟨_, rfl, told_of rfl, keepG (St := (Sbp V16 13 14 15 (.slice vo mt vc) mt (cellsR R0) ⟨1, 1, n, 0, x.ps, x.bd⟩)) [13, 14, 15] Sbp.loc (by omega) (by decide) hJ⟩
                  | 5, ho =>
                    obtain rfl := Option.some.inj ho
                    have e0 : a'.eval (.tmp 137) = .pointer (some ⟨fb, fof + k2 * 97, none⟩) := by have h9 := hin 4 137 (by kernel_rfl) (by kernel_rfl); exact h9.1.trans (told_is _ h9.2 rfl)
                    exact o_fldo28_0 (.tmp 137) rfl _ _ e0 ⟨_, rfl, told_of rfl, keepG (St := (Sbp V16 13 14 15 (.slice vo mt vc) mt (cellsR R0) ⟨1, 1, n, 0, x.ps, x.bd⟩)) [13, 14, 15] Sbp.loc (by omega) (by decide) hJ⟩
                  | 6, ho =>
                    obtain rfl := Option.some.inj ho
                    have e0 : a'.eval (.tmp 138) = .pointer (some ⟨fb, fof + k2 * 97 + 0, none⟩) := by have h9 := hin 5 138 (by kernel_rfl) (by kernel_rfl); exact h9.1.trans (told_is _ h9.2 rfl)
                    exact q_load2 (.tmp 138) rfl _ _ e0 (ve_ps (range_kept (unhide HRG) (hJ.1.1 (hnot 14 (by kernel_rfl))).1)) ⟨_, rfl, told_of rfl, keepG (St := (Sbp V16 13 14 15 (.slice vo mt vc) mt (cellsR R0) ⟨1, 1, n, 0, x.ps, x.bd⟩)) [13, 14, 15] Sbp.loc (by omega) (by decide) hJ⟩
                  | 7, ho =>
                    obtain rfl := Option.some.inj ho
                    have e0 := hout 2 (by kernel_rfl)
                    replace e0 : a'.eval (.tmp 2) = _ := e0.trans rfl
                    exact wp_move (.tmp 2) rfl _ e0 ⟨_, rfl, told_of rfl, keepG (St := (Sbp V16 13 14 15 (.slice vo mt vc) mt (cellsR R0) ⟨1, 1, n, 0, x.ps, x.bd⟩)) [13, 14, 15] Sbp.loc (by omega) (by decide) hJ⟩
                  | 8, ho =>
                    obtain rfl := Option.some.inj ho
                    have e0 := hout 19 (by kernel_rfl)
                    replace e0 : a'.eval (.tmp 19) = _ := e0.trans rfl
                    exact wp_move (.tmp 19) rfl _ e0 ⟨_, rfl, told_of rfl, keepG (St := (Sbp V16 13 14 15 (.slice vo mt vc) mt (cellsR R0) ⟨1, 1, n, 0, x.ps, x.bd⟩)) [13, 14, 15] Sbp.loc (by omega) (by decide) hJ⟩
                  | 9, ho =>
                    obtain rfl := Option.some.inj ho
                    have e0 : a'.eval (.tmp 140) = .slice (some ⟨fb, fof, none⟩) n2 sc := by have h9 := hin 7 140 (by kernel_rfl) (by kernel_rfl); exact h9.1.trans (told_is _ h9.2 rfl)
                    have e1 : a'.eval (.tmp 141) = .int .i64 (k2 : Nat) := by have h9 := hin 8 141 (by kernel_rfl) (by kernel_rfl); exact h9.1.trans (told_is _ h9.2 rfl)
                    exact o_idx24 (.tmp 140) (.tmp 141) rfl fb fof _ _ k2 hkn e0 e1 ⟨_, rfl, told_of rfl, keepG (St := (Sbp V16 13 14 15 (.slice vo mt vc) mt (cellsR R0) ⟨1, 1, n, 0, x.ps, x.bd⟩)) [13, 14, 15] Sbp.loc (by omega) (by decide) hJ⟩
                  | 10, ho =>
                    obtain rfl := Option.some.inj ho
                    have e0 : a'.eval (.tmp 142) = .pointer (some ⟨fb, fof + k2 * 97, none⟩) := by have h9 := hin 9 142 (by kernel_rfl) (by kernel_rfl); exact h9.1.trans (told_is _ h9.2 rfl)
                    exact o_fldo28_1 (.tmp 142) rfl _ _ e0 ⟨_, rfl, told_of rfl, keepG (St := (Sbp V16 13 14 15 (.slice vo mt vc) mt (cellsR R0) ⟨1, 1, n, 0, x.ps, x.bd⟩)) [13, 14, 15] Sbp.loc (by omega) (by decide) hJ⟩
                  | 11, ho =>
                    obtain rfl := Option.some.inj ho
                    have e0 : a'.eval (.tmp 143) = .pointer (some ⟨fb, fof + k2 * 97 + 1, none⟩) := by have h9 := hin 10 143 (by kernel_rfl) (by kernel_rfl); exact h9.1.trans (told_is _ h9.2 rfl)
                    exact wp_loadA row26 (.tmp 143) rfl fb (fof + k2 * 97 + 1) e0 (u8s x.bd) (by rw [u8s_len]; exact (unhide HXO).bd.len) (ve_bd (range_kept (unhide HRG) (hJ.1.1 (hnot 14 (by kernel_rfl))).1)) ⟨_, rfl, told_of rfl, keepG (St := (Sbp V16 13 14 15 (.slice vo mt vc) mt (cellsR R0) ⟨1, 1, n, 0, x.ps, x.bd⟩)) [13, 14, 15] Sbp.loc (by omega) (by decide) hJ⟩
                  | 12, ho =>
                    obtain rfl := Option.some.inj ho
                    have e0 : a'.eval (.tmp 134) = .int .i64 n := by have h9 := hin 1 134 (by kernel_rfl) (by kernel_rfl); exact h9.1.trans (told_is _ h9.2 rfl)
                    have e1 : a'.eval (.tmp 139) = .int .i64 x.ps := by have h9 := hin 6 139 (by kernel_rfl) (by kernel_rfl); exact h9.1.trans (told_is _ h9.2 rfl)
                    have e2 : a'.eval (.tmp 144) = aggV (u8s x.bd) := by have h9 := hin 11 144 (by kernel_rfl) (by kernel_rfl); exact h9.1.trans (told_is _ h9.2 rfl)
                    exact o_bldT (.tmp 134) (.tmp 139) (.tmp 144) rfl n x.ps x.bd (unhide HXO).bd.len e0 e1 e2 ⟨_, rfl, told_of rfl, keepG (St := (Sbp V16 13 14 15 (.slice vo mt vc) mt (cellsR R0) ⟨1, 1, n, 0, x.ps, x.bd⟩)) [13, 14, 15] Sbp.loc (by omega) (by decide) hJ⟩
                  | 13, ho =>
                    obtain rfl := Option.some.inj ho
                    have e0 : a'.eval (.tmp 145) = aggV (Rc.recC ⟨1, 1, n, 0, x.ps, x.bd⟩) := by have h9 := hin 12 145 (by kernel_rfl) (by kernel_rfl); exact h9.1.trans (told_is _ h9.2 rfl)
                    refine o_bsR (.tmp 145) rfl (Rc.recC ⟨1, 1, n, 0, x.ps, x.bd⟩) (recC_len (r := ⟨1, 1, n, 0, x.ps, x.bd⟩) (unhide HXO).bd) e0 ?_
                    exact ⟨_, rfl, told_no rfl, nextG (St := (Sbp V16 13 14 15 (.slice vo mt vc) mt (cellsR R0) ⟨1, 1, n, 0, x.ps, x.bd⟩)) (by omega) ⟨⟨fun h14 => ⟨(hJ.1.1 (hnot 14 (by kernel_rfl))).1.alloc _, fun _ => ⟨w2.heap.size, rfl, Blk.new w2 45 _⟩⟩, fun h14 => by have h9 : l_.getD 14 false = true := h14; rw [hnot 14 (by kernel_rfl)] at h9; cases h9⟩, fun h15 => by have h9 : l_.getD 15 false = true := h15; rw [hnot 15 (by kernel_rfl)] at h9; cases h9⟩⟩
                  | 14, ho =>
                    obtain rfl := Option.some.inj ho
                    have e0 : a'.eval (.tmp 133) = .slice vo mt vc := by have h9 := hin 0 133 (by kernel_rfl) (by kernel_rfl); exact h9.1.trans (told_is _ h9.2 rfl)
                    have e1 : a'.eval (.tmp 146) = vs 13 := (hin 13 146 (by kernel_rfl) (by kernel_rfl)).1
                    obtain ⟨hk0, hq0⟩ := hJ.1.1 hlf
                    obtain ⟨q, hq, hBq⟩ := hq0 (hdep 13 (by kernel_rfl))
                    exact o_appO (.tmp 133) (.tmp 146) rfl (.slice vo mt vc) mt (cellsR R0) e0 ((unhide HO).kept hk0 (by simp)) q (Rc.recC ⟨1, 1, n, 0, x.ps, x.bd⟩) (e1.trans hq) hBq (recC_len (r := ⟨1, 1, n, 0, x.ps, x.bd⟩) (unhide HXO).bd) (recC_one _) (by have := unhide HLO; omega) fun v' w' h1 h2 h3 => ⟨_, rfl, told_no rfl, nextG (St := (Sbp V16 13 14 15 (.slice vo mt vc) mt (cellsR R0) ⟨1, 1, n, 0, x.ps, x.bd⟩)) (by omega) ⟨⟨(fun h => by cases h), fun _ => ⟨h1, (hk0.mono (by simp)).trans h2, fun k2 hk => by rcases h3 k2 hk with e | e; exact .inl e; exact .inr (by have := hk0.size; omega)⟩⟩, fun h15 => by have h9 : l_.getD 15 false = true := h15; rw [hnot 15 (by kernel_rfl)] at h9; cases h9⟩⟩
                  | 15, ho =>
                    obtain rfl := Option.some.inj ho
                    have e0 : a'.eval (.tmp 147) = vs 14 := (hin 14 147 (by kernel_rfl) (by kernel_rfl)).1
                    exact wp_assignV (.tmp 147) rfl _ e0 ⟨_, rfl, told_no rfl, nextG (St := (Sbp V16 13 14 15 (.slice vo mt vc) mt (cellsR R0) ⟨1, 1, n, 0, x.ps, x.bd⟩)) (by omega) ⟨⟨fun h => absurd (hdep 14 (by kernel_rfl)) (by have h9 : l_.getD 14 false = false := h; rw [h9]; decide), fun _ => hJ.1.2 (hdep 14 (by kernel_rfl))⟩, fun _ => ⟨hdep 14 (by kernel_rfl), rfl⟩⟩⟩
                intro l_ vs w8 hl hJ htold
                have t0 : vs 0 = .slice vo mt vc := told_is _ (htold 0 (by decide)) rfl
                have t1 : vs 1 = .int .i64 n := told_is _ (htold 1 (by decide)) rfl
                have t2 : vs 2 = .slice (some ⟨fb, fof, none⟩) n2 sc := told_is _ (htold 2 (by decide)) rfl
                have t3 : vs 3 = .int .i64 (k2 : Nat) := told_is _ (htold 3 (by decide)) rfl
                have t4 : vs 4 = .pointer (some ⟨fb, fof + k2 * 97, none⟩) := told_is _ (htold 4 (by decide)) rfl
                have t5 : vs 5 = .pointer (some ⟨fb, fof + k2 * 97 + 0, none⟩) := told_is _ (htold 5 (by decide)) rfl
                have t6 : vs 6 = .int .i64 x.ps := told_is _ (htold 6 (by decide)) rfl
                have t7 : vs 7 = .slice (some ⟨fb, fof, none⟩) n2 sc := told_is _ (htold 7 (by decide)) rfl
                have t8 : vs 8 = .int .i64 (k2 : Nat) := told_is _ (htold 8 (by decide)) rfl
                have t9 : vs 9 = .pointer (some ⟨fb, fof + k2 * 97, none⟩) := told_is _ (htold 9 (by decide)) rfl
                have t10 : vs 10 = .pointer (some ⟨fb, fof + k2 * 97 + 1, none⟩) := told_is _ (htold 10 (by decide)) rfl
                have t11 : vs 11 = aggV (u8s x.bd) := told_is _ (htold 11 (by decide)) rfl
                have t12 : vs 12 = aggV (Rc.recC ⟨1, 1, n, 0, x.ps, x.bd⟩) := told_is _ (htold 12 (by decide)) rfl
                rw [show (List.range 16).map vs = [vs 0, vs 1, vs 2, vs 3, vs 4, vs 5, vs 6, vs 7, vs 8, vs 9, vs 10, vs 11, vs 12, vs 13, vs 14, vs 15] from rfl]
                simp only [t0, t1, t2, t3, t4, t5, t6, t7, t8, t9, t10, t11, t12, putAll, Act.put, List.setIfInBounds_toArray, List.set_cons_succ, List.set_cons_zero]
                clear t0 t1 t2 t3 t4 t5 t6 t7 t8 t9 t10 t11 t12 htold
                obtain ⟨e9, g1⟩ := hJ.2 (hl 15 (by decide))
                obtain ⟨g2, g3, g4⟩ := hJ.1.2 (hl 14 (by decide))
                rw [← g1] at g2 g4
                have hS0 : L.R.length = mt := unhide HME
                replace HK : Hid (Kb V2 w8 l b g D L9 (vs 15) (L.R ++ [⟨1, 1, n, 0, x.ps, x.bd⟩])) := (unhide HK).put (r := ⟨1, 1, n, 0, x.ps, x.bd⟩) (unhide HXO).bd (by rw [hS0]) (by rw [cellsR_app, unhide HR0]) g2 g3 g4
                clear g1 g2 g3 g4 e9 hJ hl HO HRG hS0
                rw [unhide HR0, ← unhide HR9] at HK
                go_wp2_with fail
                go_roundw
                case rel => exact ⟨k2 + 1, by omega, by go_num, ⟨D, L9, unhide HK, unhide HT, (unhide HF9).trans (unhide HFL)⟩⟩
                case measure => simp [intOf]; omega
          · skip
            as_aux_lemma =>
              obtain ⟨Da, Db, f, hf, hcut, hflu, hup, hHol, hS, hset, href, hlook⟩ := (unhide HT).crash (unhide HK).ok ct
              have hfl : f ≤ mt := by rw [hf, unhide HME]; omega
              have hfe : f = min mt (m + ct / 2) := by rw [hf, unhide HME, unhide HFL]
              have hmt : mt ≤ 64 ∧ m ≤ mt := by
                have e1 := (unhide HT).hol.many
                have e2 := (unhide HM)
                have e3 := unhide HME
                have e4 := (unhide HT).hol.fl
                have e5 := unhide HFL
                simp only [Ar.Job.may, decide_eq_true_eq] at e2
                rw [(unhide HT).J] at e1
                omega
              have HFE := hide hfe
              have HFLe : Hid (f ≤ L.R.length) := by rw [unhide HME]; exact hfl
              have HHol := hide hHol
              have HS := hide hS
              have Hset := hide hset
              have Href := hide href
              have HLK := hide hlook
              have HTJ := hide (unhide HT).J
              have HTN := hide (unhide HT).nd
              have HTE := hide (unhide HT).ep
              have HBD : Hid (∀ r ∈ L.R, Rc.Byts 96 r.bd) := fun r hr => by
                obtain ⟨i, hi⟩ := List.mem_iff_getElem?.1 hr
                exact ((unhide HT).hol.recs i r hi).bd
              clear hf hHol hS hset href hlook HT HFL
              go_wp2_with (
                first
                | (go_at_call 17
                   refine (kb_dcut (ct : Int) (by omega) hcut (unhide HK)).mono ?_
                   rintro e V31 ⟨rfl, h31⟩
                   replace HK := hide h31
                   clear h31 hcut
                   refine Stp.go ?_))
              constructor
              go_wp2_with (
                first
                | (go_at_call 13
                   refine (kb_flush hflu (unhide HK)).mono ?_
                   rintro e V32 ⟨rfl, h32⟩
                   replace HK := hide h32
                   clear h32 hflu
                   refine Stp.go ?_))
              constructor
              go_wp2_with (
                first
                | (go_at_call 18
                   refine (kb_whole (unhide HK)).mono ?_
                   rintro e V33 ⟨rfl, h33⟩
                   replace HK := hide h33
                   clear h33
                   refine Stp.go ?_))
              constructor
              go_wp2_with (
                first
                | (go_at_call 19
                   refine (kb_up 1 hup (unhide HK)).mono ?_
                   rintro e V34 ⟨rfl, h34⟩
                   replace HK := hide h34
                   clear h34 hup
                   refine Stp.go ?_))
              constructor
              go_wp2_with (
                first
                | (refine wpLoadA row23 (by rfl) (.tmp 5) (by rfl) q5 0 (by kernel_rfl) (Ar.jobC J) rfl ((unhide HB).kept (unhide HK).k (by simp)).range ?_
                   refine Stp.go ?_))
              constructor
              go_wp2_with (
                first
                | (go_at_call 11
                   refine (kt_open (unhide HF) (unhide HLK) (unhide HK)).mono ?_
                   rintro e V35 ⟨l2, rfl, h35, m35⟩
                   replace HK := hide h35
                   have HKM := hide m35
                   clear h35 m35
                   refine Stp.go ?_))
              constructor
              go_wp2_with (
                first
                | (refine wpLoadA row23 (by rfl) (.tmp 5) (by rfl) q5 0 (by kernel_rfl) (Ar.jobC J) rfl ((unhide HB).kept (unhide HK).k (by simp)).range ?_
                   refine Stp.go ?_))
              constructor
              go_wp2_with (
                first
                | (go_at_call 20
                   refine (kt_read (unhide HF) (unhide HLK) (unhide HKM)).mono ?_
                   rintro e V36 ⟨ro, rc, m2, rfl, hm2, hO2, hk36⟩
                   replace HK := hide ((unhide HK).step hk36)
                   replace HKM := hide ((unhide HKM).step hk36)
                   have HO2r := hide hO2
                   have HM2 := hide hm2
                   have hm2f : m2 = f := by rw [← hm2, List.length_take, unhide HME]; omega
                   have HMF := hide hm2f
                   have q1 : decide ((m2 : Int) < (m : Int)) = false := by
                     have := unhide HFE
                     exact decide_eq_false (by omega)
                   have q2 : decide ((mt : Int) < (m2 : Int)) = false := decide_eq_false (by omega)
                   have q3 : min (mt : Int) ((m + ct / 2 : Nat) : Int) = (m2 : Int) := by
                     have := unhide HFE
                     omega
                   have Q1 := hide q1
                   have Q2 := hide q2
                   have Q3 := hide q3
                   clear hk36 hO2 hm2 q1 q2 q3 hm2f hfe
                   obtain ⟨st, hst⟩ : ∃ st, L.st = st := ⟨_, rfl⟩
                   rw [hst]
                   have HST := hide hst
                   clear hst
                   refine Stp.go ?_))
              constructor
              obtain ⟨rv, hlt9, _, _⟩ := (unhide HK).lt
              have HLT := hide hlt9
              clear hlt9
              go_upto_region 32 with fail
              refine wp_text_tq 37 rfl (by kernel_rfl) [some (.int .i64 0), some (.bool false), some (.bool false), some (.int .i64 0), some (.bool false), some (.bool false), some (.bool false), some (.slice ro m2 rc), some (.int .i64 m2), some (.int .i64 m), some (.bool false), some (.bool false), some (.bool false), some (.slice ro m2 rc), some (.int .i64 m2), some (.slice vo mt vc), some (.int .i64 mt), some (.bool false), some (.bool false), some (.bool false), some (.slice ro m2 rc), some (.int .i64 m2), some (.slice vo mt vc), some (.int .i64 mt), some (.int .i64 m), some (.int .i64 (ct : Int)), some (.int .i64 ((ct / 2 : Nat) : Int)), some (.int .i64 ((m + ct / 2 : Nat) : Int)), some (.int .i64 m2), some (.bool false), some (.bool false), some (.bool false), some (.int .i64 st), some (P0 l), some (.int .i64 st), some (.bool false), some (.bool false)] rfl (by kernel_rfl) (by kernel_rfl) ?_ ?_
              · intro i o' hi hsk ho a' w2 hout hin hk2
                replace hk2 : Kept [] V36 w2 := ⟨hk2.os, hk2.tape, hk2.output, hk2.size, hk2.block⟩
                match i, ho, hsk with
                | 0, ho, hsk =>
                  obtain rfl := Option.some.inj ho
                  exact wp_move (.tmp 13) rfl _ ((hout 13 (by kernel_rfl)).trans rfl) ⟨_, rfl, tq_is _ _ _ _ rfl, Kept.refl _ _, fun _ _ _ _ _ => trivial⟩
                | 1, ho, hsk =>
                  obtain rfl := Option.some.inj ho
                  have e0 : a'.eval (.tmp 174) = .int .i64 0 := is_tq (hin 0 174 (by kernel_rfl) (by kernel_rfl)) rfl
                  exact o_neqc34 (.tmp 174) 0 rfl _ true rfl e0 ⟨_, rfl, tq_is _ _ _ _ rfl, Kept.refl _ _, fun _ _ _ _ _ => trivial⟩
                | 2, ho, hsk =>
                  obtain rfl := Option.some.inj ho
                  have e0 : a'.eval (.tmp 175) = .bool false := is_tq (hin 1 175 (by kernel_rfl) (by kernel_rfl)) rfl
                  exact wp_move (.tmp 175) rfl _ e0 ⟨_, rfl, tq_is _ _ _ _ rfl, Kept.refl _ _, fun _ _ _ _ _ => trivial⟩
                | 3, ho, hsk =>
                  obtain rfl := Option.some.inj ho
                  exact wp_move (.tmp 27) rfl _ ((hout 27 (by kernel_rfl)).trans rfl) ⟨_, rfl, tq_is _ _ _ _ rfl, Kept.refl _ _, fun _ _ _ _ _ => trivial⟩
                | 4, ho, hsk =>
                  obtain rfl := Option.some.inj ho
                  have e0 : a'.eval (.tmp 177) = .int .i64 0 := is_tq (hin 3 177 (by kernel_rfl) (by kernel_rfl)) rfl
                  exact o_neqc34 (.tmp 177) 0 rfl _ true rfl e0 ⟨_, rfl, tq_is _ _ _ _ rfl, Kept.refl _ _, fun _ _ _ _ _ => trivial⟩
                | 5, ho, hsk =>
                  obtain rfl := Option.some.inj ho
                  have e0 : a'.eval (.tmp 176) = .bool false := is_tq (hin 2 176 (by kernel_rfl) (by kernel_rfl)) rfl
                  have e1 : a'.eval (.tmp 178) = .bool false := is_tq (hin 4 178 (by kernel_rfl) (by kernel_rfl)) rfl
                  exact o_pickOr0 (.tmp 176) (.tmp 178) rfl _ e0 e1 ⟨_, rfl, tq_is _ _ _ _ rfl, Kept.refl _ _, fun _ _ _ _ _ => trivial⟩
                | 6, ho, hsk =>
                  obtain rfl := Option.some.inj ho
                  have e0 : a'.eval (.tmp 179) = .bool false := is_tq (hin 5 179 (by kernel_rfl) (by kernel_rfl)) rfl
                  exact wp_move (.tmp 179) rfl _ e0 ⟨_, rfl, tq_is _ _ _ _ rfl, Kept.refl _ _, fun _ _ _ _ _ => trivial⟩
                | 7, ho, hsk =>
                  obtain rfl := Option.some.inj ho
                  exact wp_move (.tmp 26) rfl _ ((hout 26 (by kernel_rfl)).trans rfl) ⟨_, rfl, tq_is _ _ _ _ rfl, Kept.refl _ _, fun _ _ _ _ _ => trivial⟩
                | 8, ho, hsk =>
                  obtain rfl := Option.some.inj ho
                  have e0 : a'.eval (.tmp 181) = .slice ro m2 rc := is_tq (hin 7 181 (by kernel_rfl) (by kernel_rfl)) rfl
                  exact o_len37 181 rfl _ _ _ e0 ⟨_, rfl, tq_is _ _ _ _ rfl, Kept.refl _ _, fun _ _ _ _ _ => trivial⟩
                | 9, ho, hsk =>
                  obtain rfl := Option.some.inj ho
                  exact wp_move (.tmp 18) rfl _ ((hout 18 (by kernel_rfl)).trans rfl) ⟨_, rfl, tq_is _ _ _ _ rfl, Kept.refl _ _, fun _ _ _ _ _ => trivial⟩
                | 10, ho, hsk =>
                  obtain rfl := Option.some.inj ho
                  have e0 : a'.eval (.tmp 182) = .int .i64 m2 := is_tq (hin 8 182 (by kernel_rfl) (by kernel_rfl)) rfl
                  have e1 : a'.eval (.tmp 183) = .int .i64 m := is_tq (hin 9 183 (by kernel_rfl) (by kernel_rfl)) rfl
                  exact o_lsst3 (.tmp 182) (.tmp 183) rfl _ _ _ (unhide Q1) e0 e1 ⟨_, rfl, tq_is _ _ _ _ rfl, Kept.refl _ _, fun _ _ _ _ _ => trivial⟩
                | 11, ho, hsk =>
                  obtain rfl := Option.some.inj ho
                  have e0 : a'.eval (.tmp 180) = .bool false := is_tq (hin 6 180 (by kernel_rfl) (by kernel_rfl)) rfl
                  have e1 : a'.eval (.tmp 184) = .bool false := is_tq (hin 10 184 (by kernel_rfl) (by kernel_rfl)) rfl
                  exact o_pickOr0 (.tmp 180) (.tmp 184) rfl _ e0 e1 ⟨_, rfl, tq_is _ _ _ _ rfl, Kept.refl _ _, fun _ _ _ _ _ => trivial⟩
                | 12, ho, hsk =>
                  obtain rfl := Option.some.inj ho
                  have e0 : a'.eval (.tmp 185) = .bool false := is_tq (hin 11 185 (by kernel_rfl) (by kernel_rfl)) rfl
                  exact wp_move (.tmp 185) rfl _ e0 ⟨_, rfl, tq_is _ _ _ _ rfl, Kept.refl _ _, fun _ _ _ _ _ => trivial⟩
                | 13, ho, hsk =>
                  obtain rfl := Option.some.inj ho
                  exact wp_move (.tmp 26) rfl _ ((hout 26 (by kernel_rfl)).trans rfl) ⟨_, rfl, tq_is _ _ _ _ rfl, Kept.refl _ _, fun _ _ _ _ _ => trivial⟩
                | 14, ho, hsk =>
                  obtain rfl := Option.some.inj ho
                  have e0 : a'.eval (.tmp 187) = .slice ro m2 rc := is_tq (hin 13 187 (by kernel_rfl) (by kernel_rfl)) rfl
                  exact o_len37 187 rfl _ _ _ e0 ⟨_, rfl, tq_is _ _ _ _ rfl, Kept.refl _ _, fun _ _ _ _ _ => trivial⟩
                | 15, ho, hsk =>
                  obtain rfl := Option.some.inj ho
                  exact wp_move (.tmp 14) rfl _ ((hout 14 (by kernel_rfl)).trans rfl) ⟨_, rfl, tq_is _ _ _ _ rfl, Kept.refl _ _, fun _ _ _ _ _ => trivial⟩
                | 16, ho, hsk =>
                  obtain rfl := Option.some.inj ho
                  have e0 : a'.eval (.tmp 189) = .slice vo mt vc := is_tq (hin 15 189 (by kernel_rfl) (by kernel_rfl)) rfl
                  exact o_len37 189 rfl _ _ _ e0 ⟨_, rfl, tq_is _ _ _ _ rfl, Kept.refl _ _, fun _ _ _ _ _ => trivial⟩
                | 17, ho, hsk =>
                  obtain rfl := Option.some.inj ho
                  have e0 : a'.eval (.tmp 188) = .int .i64 m2 := is_tq (hin 14 188 (by kernel_rfl) (by kernel_rfl)) rfl
                  have e1 : a'.eval (.tmp 190) = .int .i64 mt := is_tq (hin 16 190 (by kernel_rfl) (by kernel_rfl)) rfl
                  exact o_gtrt3 (.tmp 188) (.tmp 190) rfl _ _ _ (unhide Q2) e0 e1 ⟨_, rfl, tq_is _ _ _ _ rfl, Kept.refl _ _, fun _ _ _ _ _ => trivial⟩
                | 18, ho, hsk =>
                  obtain rfl := Option.some.inj ho
                  have e0 : a'.eval (.tmp 186) = .bool false := is_tq (hin 12 186 (by kernel_rfl) (by kernel_rfl)) rfl
                  have e1 : a'.eval (.tmp 191) = .bool false := is_tq (hin 17 191 (by kernel_rfl) (by kernel_rfl)) rfl
                  exact o_pickOr0 (.tmp 186) (.tmp 191) rfl _ e0 e1 ⟨_, rfl, tq_is _ _ _ _ rfl, Kept.refl _ _, fun _ _ _ _ _ => trivial⟩
                | 19, ho, hsk =>
                  obtain rfl := Option.some.inj ho
                  have e0 : a'.eval (.tmp 192) = .bool false := is_tq (hin 18 192 (by kernel_rfl) (by kernel_rfl)) rfl
                  exact wp_move (.tmp 192) rfl _ e0 ⟨_, rfl, tq_is _ _ _ _ rfl, Kept.refl _ _, fun _ _ _ _ _ => trivial⟩
                | 20, ho, hsk =>
                  obtain rfl := Option.some.inj ho
                  exact wp_move (.tmp 26) rfl _ ((hout 26 (by kernel_rfl)).trans rfl) ⟨_, rfl, tq_is _ _ _ _ rfl, Kept.refl _ _, fun _ _ _ _ _ => trivial⟩
                | 21, ho, hsk =>
                  obtain rfl := Option.some.inj ho
                  have e0 : a'.eval (.tmp 194) = .slice ro m2 rc := is_tq (hin 20 194 (by kernel_rfl) (by kernel_rfl)) rfl
                  exact o_len37 194 rfl _ _ _ e0 ⟨_, rfl, tq_is _ _ _ _ rfl, Kept.refl _ _, fun _ _ _ _ _ => trivial⟩
                | 22, ho, hsk =>
                  obtain rfl := Option.some.inj ho
                  exact wp_move (.tmp 14) rfl _ ((hout 14 (by kernel_rfl)).trans rfl) ⟨_, rfl, tq_is _ _ _ _ rfl, Kept.refl _ _, fun _ _ _ _ _ => trivial⟩
                | 23, ho, hsk =>
                  obtain rfl := Option.some.inj ho
                  have e0 : a'.eval (.tmp 196) = .slice vo mt vc := is_tq (hin 22 196 (by kernel_rfl) (by kernel_rfl)) rfl
                  exact o_len37 196 rfl _ _ _ e0 ⟨_, rfl, tq_is _ _ _ _ rfl, Kept.refl _ _, fun _ _ _ _ _ => trivial⟩
                | 24, ho, hsk =>
                  obtain rfl := Option.some.inj ho
                  exact wp_move (.tmp 18) rfl _ ((hout 18 (by kernel_rfl)).trans rfl) ⟨_, rfl, tq_is _ _ _ _ rfl, Kept.refl _ _, fun _ _ _ _ _ => trivial⟩
                | 25, ho, hsk =>
                  obtain rfl := Option.some.inj ho
                  exact wp_move (.tmp 3) rfl _ ((hout 3 (by kernel_rfl)).trans rfl) ⟨_, rfl, tq_is _ _ _ _ rfl, Kept.refl _ _, fun _ _ _ _ _ => trivial⟩
                | 26, ho, hsk =>
                  obtain rfl := Option.some.inj ho
                  have e0 : a'.eval (.tmp 199) = .int .i64 (ct : Int) := is_tq (hin 25 199 (by kernel_rfl) (by kernel_rfl)) rfl
                  exact o_half3 (.tmp 199) rfl ct hct e0 ⟨_, rfl, tq_is _ _ _ _ rfl, Kept.refl _ _, fun _ _ _ _ _ => trivial⟩
                | 27, ho, hsk =>
                  obtain rfl := Option.some.inj ho
                  have e0 : a'.eval (.tmp 198) = .int .i64 m := is_tq (hin 24 198 (by kernel_rfl) (by kernel_rfl)) rfl
                  have e1 : a'.eval (.tmp 200) = .int .i64 ((ct / 2 : Nat) : Int) := is_tq (hin 26 200 (by kernel_rfl) (by kernel_rfl)) rfl
                  exact o_addt3 (.tmp 198) (.tmp 200) rfl _ _ _ (by omega) (by omega) e0 e1 ⟨_, rfl, tq_is _ _ _ _ rfl, Kept.refl _ _, fun _ _ _ _ _ => trivial⟩
                | 28, ho, hsk =>
                  obtain rfl := Option.some.inj ho
                  have e0 : a'.eval (.tmp 197) = .int .i64 mt := is_tq (hin 23 197 (by kernel_rfl) (by kernel_rfl)) rfl
                  have e1 : a'.eval (.tmp 201) = .int .i64 ((m + ct / 2 : Nat) : Int) := is_tq (hin 27 201 (by kernel_rfl) (by kernel_rfl)) rfl
                  exact o_min3 (.tmp 197) (.tmp 201) rfl _ _ _ (unhide Q3) e0 e1 ⟨_, rfl, tq_is _ _ _ _ rfl, Kept.refl _ _, fun _ _ _ _ _ => trivial⟩
                | 29, ho, hsk =>
                  obtain rfl := Option.some.inj ho
                  have e0 : a'.eval (.tmp 195) = .int .i64 m2 := is_tq (hin 21 195 (by kernel_rfl) (by kernel_rfl)) rfl
                  have e1 : a'.eval (.tmp 202) = .int .i64 m2 := is_tq (hin 28 202 (by kernel_rfl) (by kernel_rfl)) rfl
                  exact o_neqt3 (.tmp 195) (.tmp 202) rfl _ _ true (by simp) e0 e1 ⟨_, rfl, tq_is _ _ _ _ rfl, Kept.refl _ _, fun _ _ _ _ _ => trivial⟩
                | 30, ho, hsk =>
                  obtain rfl := Option.some.inj ho
                  have e0 : a'.eval (.tmp 193) = .bool false := is_tq (hin 19 193 (by kernel_rfl) (by kernel_rfl)) rfl
                  have e1 : a'.eval (.tmp 203) = .bool false := is_tq (hin 29 203 (by kernel_rfl) (by kernel_rfl)) rfl
                  exact o_pickOr0 (.tmp 193) (.tmp 203) rfl _ e0 e1 ⟨_, rfl, tq_is _ _ _ _ rfl, Kept.refl _ _, fun _ _ _ _ _ => trivial⟩
                | 31, ho, hsk =>
                  obtain rfl := Option.some.inj ho
                  have e0 : a'.eval (.tmp 204) = .bool false := is_tq (hin 30 204 (by kernel_rfl) (by kernel_rfl)) rfl
                  exact wp_move (.tmp 204) rfl _ e0 ⟨_, rfl, tq_is _ _ _ _ rfl, Kept.refl _ _, fun _ _ _ _ _ => trivial⟩
                | 32, ho, hsk =>
                  obtain rfl := Option.some.inj ho
                  exact wp_move (.tmp 25) rfl _ ((hout 25 (by kernel_rfl)).trans rfl) ⟨_, rfl, tq_is _ _ _ _ rfl, Kept.refl _ _, fun _ _ _ _ _ => trivial⟩
                | 33, ho, hsk =>
                  obtain rfl := Option.some.inj ho
                  exact wp_move (.tmp 12) rfl _ ((hout 12 (by kernel_rfl)).trans rfl) ⟨_, rfl, tq_is _ _ _ _ rfl, Kept.refl _ _, fun _ _ _ _ _ => trivial⟩
                | 34, ho, hsk =>
                  obtain rfl := Option.some.inj ho
                  have e0 : a'.eval (.tmp 207) = P0 l := is_tq (hin 33 207 (by kernel_rfl) (by kernel_rfl)) rfl
                  refine wp_callF 21 _ _ rfl #[P0 l] (by simp [e0]) (cg21 _ _) ((start21 l b g rv Db _ w2 ((unhide HLT).kept0 hk2)).mono ?_)
                  rintro e w3 ⟨rfl, rfl⟩
                  exact ⟨_, rfl, _, rfl, tq_is _ _ _ _ (by rw [← unhide HST]; rfl), Kept.refl _ _, fun _ _ _ _ _ => trivial⟩
                | 35, ho, hsk =>
                  obtain rfl := Option.some.inj ho
                  have e0 : a'.eval (.tmp 206) = .int .i64 st := is_tq (hin 32 206 (by kernel_rfl) (by kernel_rfl)) rfl
                  have e1 : a'.eval (.tmp 208) = .int .i64 st := is_tq (hin 34 208 (by kernel_rfl) (by kernel_rfl)) rfl
                  exact o_neqt2 (.tmp 206) (.tmp 208) rfl _ _ true (by simp) e0 e1 ⟨_, rfl, tq_is _ _ _ _ rfl, Kept.refl _ _, fun _ _ _ _ _ => trivial⟩
                | 36, ho, hsk =>
                  obtain rfl := Option.some.inj ho
                  have e0 : a'.eval (.tmp 205) = .bool false := is_tq (hin 31 205 (by kernel_rfl) (by kernel_rfl)) rfl
                  have e1 : a'.eval (.tmp 209) = .bool false := is_tq (hin 35 209 (by kernel_rfl) (by kernel_rfl)) rfl
                  exact o_pickOr0 (.tmp 205) (.tmp 209) rfl _ e0 e1 ⟨_, rfl, tq_is _ _ _ _ rfl, Kept.refl _ _, fun _ _ _ _ _ => trivial⟩
              intro w9 hk9
              replace hk9 : Kept [] V36 w9 := ⟨hk9.os, hk9.tape, hk9.output, hk9.size, hk9.block⟩
              simp only [valsQ, List.map_cons, List.map_nil, Option.getD_some, List.take_succ_cons, List.take_zero, putAll, Act.put, List.setIfInBounds_toArray, List.set_cons_succ, List.set_cons_zero]
              replace HK := hide ((unhide HK).step hk9)
              replace HKM := hide ((unhide HKM).step hk9)
              replace HO2r := hide (OwnO.kept (unhide HO2r) hk9 (by simp))
              clear hk9 HLT
              go_wp2_with fail
              go_loopw [28] (fun i wr => ∃ j : Nat, j ≤ m2 ∧ i = .int .i64 j ∧ Hid (Kept [] w9 wr)) (fun i _ => m2 - (intOf i).toNat)
              case atStart => exact ⟨0, by omega, rfl, Kept.refl _ _⟩
              case round =>
                obtain ⟨j, hjm, rfl, HWR⟩ := hrel
                replace HK := hide ((unhide HK).step (unhide HWR))
                replace HKM := hide ((unhide HKM).step (unhide HWR))
                replace HO2r := hide (OwnO.kept (unhide HO2r) (unhide HWR) (by simp))
                by_cases hj : (j : Int) < (m2 : Int)
                · have hjn : j < m2 := by omega
                  have hjL : j < L.R.length := by rw [unhide HME]; have := unhide HMF; omega
                  have hjb : (j : Int) ≤ 64 := by have := unhide HMF; omega
                  obtain ⟨x, hx⟩ : ∃ x, L.R[j] = x := ⟨_, rfl⟩
                  have hb96 : x.bd.length = 96 := by rw [← hx]; exact (unhide HBD _ (List.getElem_mem hjL)).len
                  obtain ⟨gb, off, c, hu, hrg⟩ := OwnO.rec_at (R := L.R.take f) (v := .slice ro m2 rc) (by rw [unhide HM2]; exact unhide HO2r) (fun r hr => unhide HBD r (List.mem_of_mem_take hr)) (k := j) (by rw [unhide HM2]; exact hjn)
                  injection hu with hu1 hu2 hu3
                  subst hu1
                  rw [List.getElem_take, hx] at hrg
                  obtain ⟨gb', off', c', hu', hrg'⟩ := OwnO.rec_at (unhide HK).row (unhide HBD) (k := j) hjL
                  injection hu' with hu1' hu2' hu3'
                  subst hu1'
                  replace hrg' : wr.rangeAt gb' (off' + j * 101) (Rc.recC L.R[j]) := hrg'
                  rw [hx] at hrg'
                  have hjt : j < mt := by rw [← unhide HME]; exact hjL
                  have HXG := hide hrg
                  have HXH := hide hrg'
                  have HXQ : Hid (Rc.recEq x x = true) := Rc.recEq_self x
                  clear hu2 hu3 hu2' hu3' hrg hrg' hx hjL
                  go_wp2_with fail
                  refine wp_region_any mixed (wpAny_tq 9 rfl (by kernel_rfl) [some (.slice (some ⟨gb, off, none⟩) m2 rc), some (.int .i64 (j : Nat)), some (.pointer (some ⟨gb, off + j * 101, none⟩)), some (aggV (Rc.recC x)), some (.slice (some ⟨gb', off', none⟩) mt vc), some (.int .i64 (j : Nat)), some (.pointer (some ⟨gb', off' + j * 101, none⟩)), some (aggV (Rc.recC x)), some (.bool false)] rfl (by kernel_rfl) (by kernel_rfl) ?_ ?_)
                  · intro i o' hi hsk ho a' w2 hout hin hk2
                    replace hk2 : Kept [] wr w2 := ⟨hk2.os, hk2.tape, hk2.output, hk2.size, hk2.block⟩
                    match i, ho, hsk with
                    | 0, ho, hsk =>
                      obtain rfl := Option.some.inj ho
                      exact wp_move (.tmp 26) rfl _ ((hout 26 (by kernel_rfl)).trans rfl) ⟨_, rfl, tq_is _ _ _ _ rfl, Kept.refl _ _, fun _ _ _ _ _ => trivial⟩
                    | 1, ho, hsk =>
                      obtain rfl := Option.some.inj ho
                      exact wp_move (.tmp 28) rfl _ ((hout 28 (by kernel_rfl)).trans rfl) ⟨_, rfl, tq_is _ _ _ _ rfl, Kept.refl _ _, fun _ _ _ _ _ => trivial⟩
                    | 2, ho, hsk =>
                      obtain rfl := Option.some.inj ho
                      have e0 : a'.eval (.tmp 217) = .slice (some ⟨gb, off, none⟩) m2 rc := is_tq (hin 0 217 (by kernel_rfl) (by kernel_rfl)) rfl
                      have e1 : a'.eval (.tmp 218) = .int .i64 (j : Nat) := is_tq (hin 1 218 (by kernel_rfl) (by kernel_rfl)) rfl
                      exact o_idx37 (.tmp 217) (.tmp 218) rfl gb off _ _ j hjn e0 e1 ⟨_, rfl, tq_is _ _ _ _ rfl, Kept.refl _ _, fun _ _ _ _ _ => trivial⟩
                    | 3, ho, hsk =>
                      obtain rfl := Option.some.inj ho
                      have e0 : a'.eval (.tmp 219) = .pointer (some ⟨gb, off + j * 101, none⟩) := is_tq (hin 2 219 (by kernel_rfl) (by kernel_rfl)) rfl
                      exact wp_loadA row45 (.tmp 219) rfl gb (off + j * 101) e0 (Rc.recC x) (by simp [Rc.recC, u8s_len, hb96]) (range_kept (unhide HXG) hk2) ⟨_, rfl, tq_is _ _ _ _ rfl, Kept.refl _ _, fun _ _ _ _ _ => trivial⟩
                    | 4, ho, hsk =>
                      obtain rfl := Option.some.inj ho
                      exact wp_move (.tmp 14) rfl _ ((hout 14 (by kernel_rfl)).trans rfl) ⟨_, rfl, tq_is _ _ _ _ rfl, Kept.refl _ _, fun _ _ _ _ _ => trivial⟩
                    | 5, ho, hsk =>
                      obtain rfl := Option.some.inj ho
                      exact wp_move (.tmp 28) rfl _ ((hout 28 (by kernel_rfl)).trans rfl) ⟨_, rfl, tq_is _ _ _ _ rfl, Kept.refl _ _, fun _ _ _ _ _ => trivial⟩
                    | 6, ho, hsk =>
                      obtain rfl := Option.some.inj ho
                      have e0 : a'.eval (.tmp 221) = .slice (some ⟨gb', off', none⟩) mt vc := is_tq (hin 4 221 (by kernel_rfl) (by kernel_rfl)) rfl
                      have e1 : a'.eval (.tmp 222) = .int .i64 (j : Nat) := is_tq (hin 5 222 (by kernel_rfl) (by kernel_rfl)) rfl
                      exact o_idx37 (.tmp 221) (.tmp 222) rfl gb' off' _ _ j hjt e0 e1 ⟨_, rfl, tq_is _ _ _ _ rfl, Kept.refl _ _, fun _ _ _ _ _ => trivial⟩
                    | 7, ho, hsk =>
                      obtain rfl := Option.some.inj ho
                      have e0 : a'.eval (.tmp 223) = .pointer (some ⟨gb', off' + j * 101, none⟩) := is_tq (hin 6 223 (by kernel_rfl) (by kernel_rfl)) rfl
                      exact wp_loadA row45 (.tmp 223) rfl gb' (off' + j * 101) e0 (Rc.recC x) (by simp [Rc.recC, u8s_len, hb96]) (range_kept (unhide HXH) hk2) ⟨_, rfl, tq_is _ _ _ _ rfl, Kept.refl _ _, fun _ _ _ _ _ => trivial⟩
                    | 8, ho, hsk =>
                      obtain rfl := Option.some.inj ho
                      have e0 : a'.eval (.tmp 220) = aggV (Rc.recC x) := is_tq (hin 3 220 (by kernel_rfl) (by kernel_rfl)) rfl
                      have e1 : a'.eval (.tmp 224) = aggV (Rc.recC x) := is_tq (hin 7 224 (by kernel_rfl) (by kernel_rfl)) rfl
                      exact o_neqR (.tmp 220) (.tmp 224) rfl x x hb96 hb96 true (unhide HXQ) e0 e1 ⟨_, rfl, tq_is _ _ _ _ rfl, Kept.refl _ _, fun _ _ _ _ _ => trivial⟩
                  intro w10 hk10
                  replace hk10 : Kept [] wr w10 := ⟨hk10.os, hk10.tape, hk10.output, hk10.size, hk10.block⟩
                  simp only [valsQ, List.map_cons, List.map_nil, Option.getD_some, List.take_succ_cons, List.take_zero, putAll, Act.put, List.setIfInBounds_toArray, List.set_cons_succ, List.set_cons_zero]
                  refine wpAny_done (by kernel_rfl) ?_ _
                  go_wp2_with fail
                  go_roundw
                  case rel => exact ⟨j + 1, by omega, by go_num, (unhide HWR).trans hk10⟩
                  case measure => simp [intOf]; omega
                · clear HWR HO2r
                  have HZL := hide (ve_len (unhide HZO))
                  go_wp2_with (
                    first
                    | (refine wpLoadA row28 (by rfl) (.tmp 9) (by rfl) q9 0 (by kernel_rfl) z.C (unhide HZL) ((unhide HZ).kept (unhide HKM).k (by simp)).range ?_
                       refine Stp.go ?_))
                  constructor
                  go_wp2_with (
                    first
                    | (go_at_call 16
                       refine (kt_last z (unhide HZO) (unhide HTJ) (unhide HTN) (unhide HTE) (unhide HHol) (unhide HFLe) (unhide HS) (unhide Hset) (unhide Href) (unhide HLK) (unhide HKM)).mono ?_
                       rintro e V41 ⟨n, c, M, rfl, h41, hcs⟩
                       have HC := hide hcs
                       replace HKM := hide h41
                       clear hcs h41
                       refine Stp.go ?_))
                  constructor
                  rcases unhide HC with ⟨hc0, hlk⟩ | ⟨hc0, hn, r, D3, q, hr1, hr2, hr3, hr4⟩
                  · have d1 : (c == 0) = false := by simpa using hc0
                    have d2 : decide (c = 0) = false := by simpa using hc0
                    have HC0 := hide d2
                    have HLK2 := hide hlk
                    clear hc0 HC hlk
                    go_wp2_with (
                      first
                      | (refine wpLoadA row23 (by rfl) (.tmp 5) (by rfl) q5 0 (by kernel_rfl) (Ar.jobC J) rfl ((unhide HB).kept (unhide HKM).k (by simp)).range ?_
                         refine Stp.go ?_))
                    constructor
                    go_wp2_with (
                      first
                      | (go_at_call 20
                         refine (kt_read (unhide HF) (unhide HLK2) (unhide HKM)).mono ?_
                         rintro e V43 ⟨yo, yc, my, rfl, hmy, hOy, hk43⟩
                         replace HKM := hide ((unhide HKM).step hk43)
                         have HOY := hide hOy
                         have HMY := hide hmy
                         clear hk43 hOy hmy
                         refine Stp.go ?_))
                    constructor
                    have HYY : Hid (decide ((my : Int) = (m2 : Int)) = true) := by
                      have e1 := unhide HMY
                      have e2 := unhide HM2
                      exact decide_eq_true (by omega)
                    have hFw : Rc.First V43 := (unhide HKM).first (unhide HF)
                    go_wp2_with fail
                    refine wp_region_any mixed (wpAny_tq 50 rfl (by kernel_rfl) [some (.int .i64 0), some (.bool true), some (.bool true), some (.int .i64 c), some (.bool true), some (.bool true), some (.slice yo my yc), some (.int .i64 my), some (.slice ro m2 rc), some (.int .i64 m2), some (.bool true), some (.bool true), some (.bool true), none, none, none, none, none, none, none, none, none, none, none, none, none, none, none, none, none, none, none, none, none, none, none, none, none, none, none, none, none, none, none, some (.bool true), some (.bool true), some (.bool true), some (.bool true), some (.bool true), some (.bool true)] rfl (by kernel_rfl) (by kernel_rfl) ?_ ?_)
                    · intro i o' hi hsk ho a' w2 hout hin hk2
                      replace hk2 : Kept [] V43 w2 := ⟨hk2.os, hk2.tape, hk2.output, hk2.size, hk2.block⟩
                      match i, ho, hsk with
                      | 0, ho, hsk =>
                        obtain rfl := Option.some.inj ho
                        exact wp_move (.tmp 33) rfl _ ((hout 33 (by kernel_rfl)).trans rfl) ⟨_, rfl, tq_is _ _ _ _ rfl, Kept.refl _ _, fun _ _ _ _ _ => trivial⟩
                      | 1, ho, hsk =>
                        obtain rfl := Option.some.inj ho
                        have e0 : a'.eval (.tmp 254) = .int .i64 0 := is_tq (hin 0 254 (by kernel_rfl) (by kernel_rfl)) rfl
                        exact o_eqlc34 (.tmp 254) 0 rfl _ true rfl e0 ⟨_, rfl, tq_is _ _ _ _ rfl, Kept.refl _ _, fun _ _ _ _ _ => trivial⟩
                      | 2, ho, hsk =>
                        obtain rfl := Option.some.inj ho
                        have e0 : a'.eval (.tmp 255) = .bool true := is_tq (hin 1 255 (by kernel_rfl) (by kernel_rfl)) rfl
                        exact wp_move (.tmp 255) rfl _ e0 ⟨_, rfl, tq_is _ _ _ _ rfl, Kept.refl _ _, fun _ _ _ _ _ => trivial⟩
                      | 3, ho, hsk =>
                        obtain rfl := Option.some.inj ho
                        exact wp_move (.tmp 30) rfl _ ((hout 30 (by kernel_rfl)).trans rfl) ⟨_, rfl, tq_is _ _ _ _ rfl, Kept.refl _ _, fun _ _ _ _ _ => trivial⟩
                      | 4, ho, hsk =>
                        obtain rfl := Option.some.inj ho
                        have e0 : a'.eval (.tmp 257) = .int .i64 c := is_tq (hin 3 257 (by kernel_rfl) (by kernel_rfl)) rfl
                        exact o_neqc34 (.tmp 257) 0 rfl _ false (unhide HC0) e0 ⟨_, rfl, tq_is _ _ _ _ rfl, Kept.refl _ _, fun _ _ _ _ _ => trivial⟩
                      | 5, ho, hsk =>
                        obtain rfl := Option.some.inj ho
                        have e0 : a'.eval (.tmp 258) = .bool true := is_tq (hin 4 258 (by kernel_rfl) (by kernel_rfl)) rfl
                        exact wp_move (.tmp 258) rfl _ e0 ⟨_, rfl, tq_is _ _ _ _ rfl, Kept.refl _ _, fun _ _ _ _ _ => trivial⟩
                      | 6, ho, hsk =>
                        obtain rfl := Option.some.inj ho
                        exact wp_move (.tmp 32) rfl _ ((hout 32 (by kernel_rfl)).trans rfl) ⟨_, rfl, tq_is _ _ _ _ rfl, Kept.refl _ _, fun _ _ _ _ _ => trivial⟩
                      | 7, ho, hsk =>
                        obtain rfl := Option.some.inj ho
                        have e0 : a'.eval (.tmp 260) = .slice yo my yc := is_tq (hin 6 260 (by kernel_rfl) (by kernel_rfl)) rfl
                        exact o_len37 260 rfl _ _ _ e0 ⟨_, rfl, tq_is _ _ _ _ rfl, Kept.refl _ _, fun _ _ _ _ _ => trivial⟩
                      | 8, ho, hsk =>
                        obtain rfl := Option.some.inj ho
                        exact wp_move (.tmp 26) rfl _ ((hout 26 (by kernel_rfl)).trans rfl) ⟨_, rfl, tq_is _ _ _ _ rfl, Kept.refl _ _, fun _ _ _ _ _ => trivial⟩
                      | 9, ho, hsk =>
                        obtain rfl := Option.some.inj ho
                        have e0 : a'.eval (.tmp 262) = .slice ro m2 rc := is_tq (hin 8 262 (by kernel_rfl) (by kernel_rfl)) rfl
                        exact o_len37 262 rfl _ _ _ e0 ⟨_, rfl, tq_is _ _ _ _ rfl, Kept.refl _ _, fun _ _ _ _ _ => trivial⟩
                      | 10, ho, hsk =>
                        obtain rfl := Option.some.inj ho
                        have e0 : a'.eval (.tmp 261) = .int .i64 my := is_tq (hin 7 261 (by kernel_rfl) (by kernel_rfl)) rfl
                        have e1 : a'.eval (.tmp 263) = .int .i64 m2 := is_tq (hin 9 263 (by kernel_rfl) (by kernel_rfl)) rfl
                        exact o_eqlt3 (.tmp 261) (.tmp 263) rfl _ _ true (unhide HYY) e0 e1 ⟨_, rfl, tq_is _ _ _ _ rfl, Kept.refl _ _, fun _ _ _ _ _ => trivial⟩
                      | 11, ho, hsk =>
                        obtain rfl := Option.some.inj ho
                        have e0 : a'.eval (.tmp 259) = .bool true := is_tq (hin 5 259 (by kernel_rfl) (by kernel_rfl)) rfl
                        have e1 : a'.eval (.tmp 264) = .bool true := is_tq (hin 10 264 (by kernel_rfl) (by kernel_rfl)) rfl
                        exact o_pick (.tmp 259) (.tmp 264) rfl _ e0 e1 ⟨_, rfl, tq_is _ _ _ _ rfl, Kept.refl _ _, fun _ _ _ _ _ => trivial⟩
                      | 12, ho, hsk =>
                        obtain rfl := Option.some.inj ho
                        have e0 : a'.eval (.tmp 265) = .bool true := is_tq (hin 11 265 (by kernel_rfl) (by kernel_rfl)) rfl
                        exact wp_move (.tmp 265) rfl _ e0 ⟨_, rfl, tq_is _ _ _ _ rfl, Kept.refl _ _, fun _ _ _ _ _ => trivial⟩
                      | 13, ho, hsk =>
                        cases hsk
                      | 14, ho, hsk =>
                        cases hsk
                      | 15, ho, hsk =>
                        cases hsk
                      | 16, ho, hsk =>
                        cases hsk
                      | 17, ho, hsk =>
                        cases hsk
                      | 18, ho, hsk =>
                        cases hsk
                      | 19, ho, hsk =>
                        cases hsk
                      | 20, ho, hsk =>
                        cases hsk
                      | 21, ho, hsk =>
                        cases hsk
                      | 22, ho, hsk =>
                        cases hsk
                      | 23, ho, hsk =>
                        cases hsk
                      | 24, ho, hsk =>
                        cases hsk
                      | 25, ho, hsk =>
                        cases hsk
                      | 26, ho, hsk =>
                        cases hsk
                      | 27, ho, hsk =>
                        cases hsk
                      | 28, ho, hsk =>
                        cases hsk
                      | 29, ho, hsk =>
                        cases hsk
                      | 30, ho, hsk =>
                        cases hsk
                      | 31, ho, hsk =>
                        cases hsk
                      | 32, ho, hsk =>
                        cases hsk
                      | 33, ho, hsk =>
                        cases hsk
                      | 34, ho, hsk =>
                        cases hsk
                      | 35, ho, hsk =>
                        cases hsk
                      | 36, ho, hsk =>
                        cases hsk
                      | 37, ho, hsk =>
                        cases hsk
                      | 38, ho, hsk =>
                        cases hsk
                      | 39, ho, hsk =>
                        cases hsk
                      | 40, ho, hsk =>
                        cases hsk
                      | 41, ho, hsk =>
                        cases hsk
                      | 42, ho, hsk =>
                        cases hsk
                      | 43, ho, hsk =>
                        cases hsk
                      | 44, ho, hsk =>
                        obtain rfl := Option.some.inj ho
                        have e0 : a'.eval (.tmp 266) = .bool true := is_tq (hin 12 266 (by kernel_rfl) (by kernel_rfl)) rfl
                        exact o_pickOrT (.tmp 266) (.tmp 297) rfl e0 ⟨_, rfl, tq_is _ _ _ _ rfl, Kept.refl _ _, fun _ _ _ _ _ => trivial⟩
                      | 45, ho, hsk =>
                        obtain rfl := Option.some.inj ho
                        have e0 : a'.eval (.tmp 256) = .bool true := is_tq (hin 2 256 (by kernel_rfl) (by kernel_rfl)) rfl
                        have e1 : a'.eval (.tmp 298) = .bool true := is_tq (hin 44 298 (by kernel_rfl) (by kernel_rfl)) rfl
                        exact o_pick (.tmp 256) (.tmp 298) rfl _ e0 e1 ⟨_, rfl, tq_is _ _ _ _ rfl, Kept.refl _ _, fun _ _ _ _ _ => trivial⟩
                      | 46, ho, hsk =>
                        obtain rfl := Option.some.inj ho
                        have e0 : a'.eval (.tmp 299) = .bool true := is_tq (hin 45 299 (by kernel_rfl) (by kernel_rfl)) rfl
                        exact wp_move (.tmp 299) rfl _ e0 ⟨_, rfl, tq_is _ _ _ _ rfl, Kept.refl _ _, fun _ _ _ _ _ => trivial⟩
                      | 47, ho, hsk =>
                        obtain rfl := Option.some.inj ho
                        refine wp_callF 9 _ _ rfl #[] (by simp) (cg9 _ _) ((known9 w2 (hFw.kept hk2)).mono ?_)
                        rintro e w3 ⟨rfl, hk3⟩
                        exact ⟨_, rfl, _, rfl, tq_is _ _ _ _ rfl, hk3, fun _ _ _ _ _ => trivial⟩
                      | 48, ho, hsk =>
                        obtain rfl := Option.some.inj ho
                        have e0 : a'.eval (.tmp 300) = .bool true := is_tq (hin 46 300 (by kernel_rfl) (by kernel_rfl)) rfl
                        have e1 : a'.eval (.tmp 301) = .bool true := is_tq (hin 47 301 (by kernel_rfl) (by kernel_rfl)) rfl
                        exact o_pick (.tmp 300) (.tmp 301) rfl _ e0 e1 ⟨_, rfl, tq_is _ _ _ _ rfl, Kept.refl _ _, fun _ _ _ _ _ => trivial⟩
                      | 49, ho, hsk =>
                        obtain rfl := Option.some.inj ho
                        have e0 : a'.eval (.tmp 302) = .bool true := is_tq (hin 48 302 (by kernel_rfl) (by kernel_rfl)) rfl
                        exact wp_assignV (.tmp 302) rfl _ e0 ⟨_, rfl, tq_is _ _ _ _ rfl, Kept.refl _ _, fun _ _ _ _ _ => trivial⟩
                    intro w9 hk9
                    replace hk9 : Kept [] V43 w9 := ⟨hk9.os, hk9.tape, hk9.output, hk9.size, hk9.block⟩
                    simp only [valsQ, List.map_cons, List.map_nil, Option.getD_some, Option.getD_none, List.take_succ_cons, List.take_zero, putAll, Act.put, List.setIfInBounds_toArray, List.set_cons_succ, List.set_cons_zero]
                    refine wpAny_done (by kernel_rfl) ?_ _
                    go_wp2_with fail
                    go_ret
                    exact ⟨rfl, ((unhide HW).trans (unhide HKM).k).trans hk9⟩
                  · subst hc0
                    have hn2 : n = st + (m2 : Int) := by rw [hn, unhide HST, unhide HMF]
                    have d1 : (n == st + (m2 : Int)) = true := by simpa using hn2
                    have d2 : (n != st + (m2 : Int)) = false := by simpa using hn2
                    have d3 : decide (n = st + (m2 : Int)) = true := by simpa using hn2
                    have hstb : -9223372036854775808 ≤ st + (m2 : Int) ∧ st + (m2 : Int) ≤ 9223372036854775807 := by
                      have e1 := (unhide HHol).st
                      have e2 := (unhide HHol).nx
                      have e3 : 1 ≤ L.st := e1
                      have e4 : L.st + ((L.R.take f).length : Int) ≤ 2147483647 := e2
                      have e5 := unhide HST
                      have e6 := unhide HM2
                      omega
                    have HR1 := hide hr1
                    have HR2 := hide hr2
                    have HR3 := hide hr3
                    have HR4 := hide hr4
                    clear HC hn hn2 hr1 hr2 hr3 hr4
                    go_wp2_with (
                      first
                      | (go_at_call 13
                         refine (kt_flush (unhide HR3) (unhide HKM)).mono ?_
                         rintro e V42 ⟨rfl, h42⟩
                         replace HKM := hide h42
                         clear h42
                         refine Stp.go ?_))
                    constructor
                    go_wp2_with (
                      first
                      | (refine wpLoadA row23 (by rfl) (.tmp 5) (by rfl) q5 0 (by kernel_rfl) (Ar.jobC J) rfl ((unhide HB).kept (unhide HKM).k (by simp)).range ?_
                         refine Stp.go ?_))
                    constructor
                    go_wp2_with (
                      first
                      | (go_at_call 20
                         refine (kt_read (unhide HF) (unhide HR4) (unhide HKM)).mono ?_
                         rintro e V43 ⟨yo, yc, my, rfl, hmy, hOy, hk43⟩
                         replace HKM := hide ((unhide HKM).step hk43)
                         have HOY := hide hOy
                         have HMY := hide hmy
                         clear hk43 hOy hmy
                         refine Stp.go ?_))
                    constructor
                    have hyl : my = m2 + 1 := by
                      have e1 := unhide HMY
                      have e2 := unhide HM2
                      rw [List.length_append, e2] at e1
                      simpa using e1.symm
                    have HYY : Hid (decide ((my : Int) = (m2 : Int) + 1) = true) := decide_eq_true (by omega)
                    have hmm : m2 < my := by omega
                    have hlast : (L.R.take f ++ [r])[m2]? = some r := by
                      rw [← unhide HM2]
                      simp
                    obtain ⟨yg, yoff, yc2, hu, hrg⟩ := OwnO.rec_at (R := L.R.take f ++ [r]) (v := .slice yo my yc) (by rw [unhide HMY]; exact unhide HOY) (fun s hs => by
                      rcases List.mem_append.1 hs with h9 | h9
                      · exact unhide HBD s (List.mem_of_mem_take h9)
                      · simp at h9; rw [h9, unhide HR2]; exact (unhide HZO).bd) (k := m2) (by rw [unhide HMY]; exact hmm)
                    injection hu with hu1 hu2 hu3
                    subst hu1
                    rw [(List.getElem?_eq_some_iff.1 hlast).2] at hrg
                    have HYE : Hid (V43.cell? ⟨yg, yoff + m2 * 101 + 1, none⟩ = some (.int .i64 2)) := by
                      have h9 := hrg 1 (.int .i64 r.ep) rfl
                      rw [unhide HR1] at h9
                      exact h9
                    have HYB : Hid (V43.rangeAt yg (yoff + m2 * 101 + 5) (u8s z.bd)) := fun i u hi => by
                      have h9 := hrg (i + 5) u (by rw [← unhide HR2] at hi; exact hi)
                      rw [show yoff + m2 * 101 + 5 + i = yoff + m2 * 101 + (i + 5) by omega]
                      exact h9
                    have HZV : Hid (V43.rangeAt q9 0 z.C) := ((unhide HZ).kept (unhide HKM).k (by simp)).range
                    have hm2b : (m2 : Int) ≤ 64 := by
                      have e1 := unhide HMF
                      omega
                    clear hu2 hu3 hrg hlast hyl HOY
                    have hFw : Rc.First V43 := (unhide HKM).first (unhide HF)
                    go_wp2_with fail
                    refine wp_region_any mixed (wpAny_tq 50 rfl (by kernel_rfl) [some (.int .i64 0), some (.bool true), some (.bool true), some (.int .i64 0), some (.bool false), some (.bool false), none, none, none, none, none, some (.bool false), some (.bool false), some (.int .i64 0), some (.bool true), some (.bool true), some (.slice (some ⟨yg, yoff, none⟩) my yc), some (.int .i64 my), some (.slice ro m2 rc), some (.int .i64 m2), some (.int .i64 ((m2 : Int) + 1)), some (.bool true), some (.bool true), some (.bool true), some (.slice (some ⟨yg, yoff, none⟩) my yc), some (.slice ro m2 rc), some (.int .i64 m2), some (.pointer (some ⟨yg, yoff + m2 * 101, none⟩)), some (.pointer (some ⟨yg, yoff + m2 * 101 + 5, none⟩)), some (aggV (u8s z.bd)), some (.pointer (some ⟨q9, 0 + 1, none⟩)), some (aggV (u8s z.bd)), some (.bool true), some (.bool true), some (.bool true), some (.slice (some ⟨yg, yoff, none⟩) my yc), some (.slice ro m2 rc), some (.int .i64 m2), some (.pointer (some ⟨yg, yoff + m2 * 101, none⟩)), some (.pointer (some ⟨yg, yoff + m2 * 101 + 1, none⟩)), some (.int .i64 2), some (.int .i64 2), some (.bool true), some (.bool true), some (.bool true), some (.bool true), some (.bool true), some (.bool true), some (.bool true), some (.bool true)] rfl (by kernel_rfl) (by kernel_rfl) ?_ ?_)
                    · intro i o' hi hsk ho a' w2 hout hin hk2
                      replace hk2 : Kept [] V43 w2 := ⟨hk2.os, hk2.tape, hk2.output, hk2.size, hk2.block⟩
                      match i, ho, hsk with
                      | 0, ho, hsk =>
                        obtain rfl := Option.some.inj ho
                        exact wp_move (.tmp 33) rfl _ ((hout 33 (by kernel_rfl)).trans rfl) ⟨_, rfl, tq_is _ _ _ _ rfl, Kept.refl _ _, fun _ _ _ _ _ => trivial⟩
                      | 1, ho, hsk =>
                        obtain rfl := Option.some.inj ho
                        have e0 : a'.eval (.tmp 254) = .int .i64 0 := is_tq (hin 0 254 (by kernel_rfl) (by kernel_rfl)) rfl
                        exact o_eqlc34 (.tmp 254) 0 rfl _ true rfl e0 ⟨_, rfl, tq_is _ _ _ _ rfl, Kept.refl _ _, fun _ _ _ _ _ => trivial⟩
                      | 2, ho, hsk =>
                        obtain rfl := Option.some.inj ho
                        have e0 : a'.eval (.tmp 255) = .bool true := is_tq (hin 1 255 (by kernel_rfl) (by kernel_rfl)) rfl
                        exact wp_move (.tmp 255) rfl _ e0 ⟨_, rfl, tq_is _ _ _ _ rfl, Kept.refl _ _, fun _ _ _ _ _ => trivial⟩
                      | 3, ho, hsk =>
                        obtain rfl := Option.some.inj ho
                        exact wp_move (.tmp 30) rfl _ ((hout 30 (by kernel_rfl)).trans rfl) ⟨_, rfl, tq_is _ _ _ _ rfl, Kept.refl _ _, fun _ _ _ _ _ => trivial⟩
                      | 4, ho, hsk =>
                        obtain rfl := Option.some.inj ho
                        have e0 : a'.eval (.tmp 257) = .int .i64 0 := is_tq (hin 3 257 (by kernel_rfl) (by kernel_rfl)) rfl
                        exact o_neqc34 (.tmp 257) 0 rfl _ true rfl e0 ⟨_, rfl, tq_is _ _ _ _ rfl, Kept.refl _ _, fun _ _ _ _ _ => trivial⟩
                      | 5, ho, hsk =>
                        obtain rfl := Option.some.inj ho
                        have e0 : a'.eval (.tmp 258) = .bool false := is_tq (hin 4 258 (by kernel_rfl) (by kernel_rfl)) rfl
                        exact wp_move (.tmp 258) rfl _ e0 ⟨_, rfl, tq_is _ _ _ _ rfl, Kept.refl _ _, fun _ _ _ _ _ => trivial⟩
                      | 6, ho, hsk =>
                        cases hsk
                      | 7, ho, hsk =>
                        cases hsk
                      | 8, ho, hsk =>
                        cases hsk
                      | 9, ho, hsk =>
                        cases hsk
                      | 10, ho, hsk =>
                        cases hsk
                      | 11, ho, hsk =>
                        obtain rfl := Option.some.inj ho
                        have e0 : a'.eval (.tmp 259) = .bool false := is_tq (hin 5 259 (by kernel_rfl) (by kernel_rfl)) rfl
                        exact o_pickN (.tmp 259) (.tmp 264) rfl e0 ⟨_, rfl, tq_is _ _ _ _ rfl, Kept.refl _ _, fun _ _ _ _ _ => trivial⟩
                      | 12, ho, hsk =>
                        obtain rfl := Option.some.inj ho
                        have e0 : a'.eval (.tmp 265) = .bool false := is_tq (hin 11 265 (by kernel_rfl) (by kernel_rfl)) rfl
                        exact wp_move (.tmp 265) rfl _ e0 ⟨_, rfl, tq_is _ _ _ _ rfl, Kept.refl _ _, fun _ _ _ _ _ => trivial⟩
                      | 13, ho, hsk =>
                        obtain rfl := Option.some.inj ho
                        exact wp_move (.tmp 30) rfl _ ((hout 30 (by kernel_rfl)).trans rfl) ⟨_, rfl, tq_is _ _ _ _ rfl, Kept.refl _ _, fun _ _ _ _ _ => trivial⟩
                      | 14, ho, hsk =>
                        obtain rfl := Option.some.inj ho
                        have e0 : a'.eval (.tmp 267) = .int .i64 0 := is_tq (hin 13 267 (by kernel_rfl) (by kernel_rfl)) rfl
                        exact o_eqlc34 (.tmp 267) 0 rfl _ true rfl e0 ⟨_, rfl, tq_is _ _ _ _ rfl, Kept.refl _ _, fun _ _ _ _ _ => trivial⟩
                      | 15, ho, hsk =>
                        obtain rfl := Option.some.inj ho
                        have e0 : a'.eval (.tmp 268) = .bool true := is_tq (hin 14 268 (by kernel_rfl) (by kernel_rfl)) rfl
                        exact wp_move (.tmp 268) rfl _ e0 ⟨_, rfl, tq_is _ _ _ _ rfl, Kept.refl _ _, fun _ _ _ _ _ => trivial⟩
                      | 16, ho, hsk =>
                        obtain rfl := Option.some.inj ho
                        exact wp_move (.tmp 32) rfl _ ((hout 32 (by kernel_rfl)).trans rfl) ⟨_, rfl, tq_is _ _ _ _ rfl, Kept.refl _ _, fun _ _ _ _ _ => trivial⟩
                      | 17, ho, hsk =>
                        obtain rfl := Option.some.inj ho
                        have e0 : a'.eval (.tmp 270) = .slice (some ⟨yg, yoff, none⟩) my yc := is_tq (hin 16 270 (by kernel_rfl) (by kernel_rfl)) rfl
                        exact o_len37 270 rfl _ _ _ e0 ⟨_, rfl, tq_is _ _ _ _ rfl, Kept.refl _ _, fun _ _ _ _ _ => trivial⟩
                      | 18, ho, hsk =>
                        obtain rfl := Option.some.inj ho
                        exact wp_move (.tmp 26) rfl _ ((hout 26 (by kernel_rfl)).trans rfl) ⟨_, rfl, tq_is _ _ _ _ rfl, Kept.refl _ _, fun _ _ _ _ _ => trivial⟩
                      | 19, ho, hsk =>
                        obtain rfl := Option.some.inj ho
                        have e0 : a'.eval (.tmp 272) = .slice ro m2 rc := is_tq (hin 18 272 (by kernel_rfl) (by kernel_rfl)) rfl
                        exact o_len37 272 rfl _ _ _ e0 ⟨_, rfl, tq_is _ _ _ _ rfl, Kept.refl _ _, fun _ _ _ _ _ => trivial⟩
                      | 20, ho, hsk =>
                        obtain rfl := Option.some.inj ho
                        have e0 : a'.eval (.tmp 273) = .int .i64 m2 := is_tq (hin 19 273 (by kernel_rfl) (by kernel_rfl)) rfl
                        exact o_addk3 (.tmp 273) 1 rfl _ _ rfl (by omega) e0 ⟨_, rfl, tq_is _ _ _ _ rfl, Kept.refl _ _, fun _ _ _ _ _ => trivial⟩
                      | 21, ho, hsk =>
                        obtain rfl := Option.some.inj ho
                        have e0 : a'.eval (.tmp 271) = .int .i64 my := is_tq (hin 17 271 (by kernel_rfl) (by kernel_rfl)) rfl
                        have e1 : a'.eval (.tmp 274) = .int .i64 ((m2 : Int) + 1) := is_tq (hin 20 274 (by kernel_rfl) (by kernel_rfl)) rfl
                        exact o_eqlt3 (.tmp 271) (.tmp 274) rfl _ _ true (unhide HYY) e0 e1 ⟨_, rfl, tq_is _ _ _ _ rfl, Kept.refl _ _, fun _ _ _ _ _ => trivial⟩
                      | 22, ho, hsk =>
                        obtain rfl := Option.some.inj ho
                        have e0 : a'.eval (.tmp 269) = .bool true := is_tq (hin 15 269 (by kernel_rfl) (by kernel_rfl)) rfl
                        have e1 : a'.eval (.tmp 275) = .bool true := is_tq (hin 21 275 (by kernel_rfl) (by kernel_rfl)) rfl
                        exact o_pick (.tmp 269) (.tmp 275) rfl _ e0 e1 ⟨_, rfl, tq_is _ _ _ _ rfl, Kept.refl _ _, fun _ _ _ _ _ => trivial⟩
                      | 23, ho, hsk =>
                        obtain rfl := Option.some.inj ho
                        have e0 : a'.eval (.tmp 276) = .bool true := is_tq (hin 22 276 (by kernel_rfl) (by kernel_rfl)) rfl
                        exact wp_move (.tmp 276) rfl _ e0 ⟨_, rfl, tq_is _ _ _ _ rfl, Kept.refl _ _, fun _ _ _ _ _ => trivial⟩
                      | 24, ho, hsk =>
                        obtain rfl := Option.some.inj ho
                        exact wp_move (.tmp 32) rfl _ ((hout 32 (by kernel_rfl)).trans rfl) ⟨_, rfl, tq_is _ _ _ _ rfl, Kept.refl _ _, fun _ _ _ _ _ => trivial⟩
                      | 25, ho, hsk =>
                        obtain rfl := Option.some.inj ho
                        exact wp_move (.tmp 26) rfl _ ((hout 26 (by kernel_rfl)).trans rfl) ⟨_, rfl, tq_is _ _ _ _ rfl, Kept.refl _ _, fun _ _ _ _ _ => trivial⟩
                      | 26, ho, hsk =>
                        obtain rfl := Option.some.inj ho
                        have e0 : a'.eval (.tmp 279) = .slice ro m2 rc := is_tq (hin 25 279 (by kernel_rfl) (by kernel_rfl)) rfl
                        exact o_len37 279 rfl _ _ _ e0 ⟨_, rfl, tq_is _ _ _ _ rfl, Kept.refl _ _, fun _ _ _ _ _ => trivial⟩
                      | 27, ho, hsk =>
                        obtain rfl := Option.some.inj ho
                        have e0 : a'.eval (.tmp 278) = .slice (some ⟨yg, yoff, none⟩) my yc := is_tq (hin 24 278 (by kernel_rfl) (by kernel_rfl)) rfl
                        have e1 : a'.eval (.tmp 280) = .int .i64 m2 := is_tq (hin 26 280 (by kernel_rfl) (by kernel_rfl)) rfl
                        exact o_idx37 (.tmp 278) (.tmp 280) rfl yg yoff _ _ m2 hmm e0 e1 ⟨_, rfl, tq_is _ _ _ _ rfl, Kept.refl _ _, fun _ _ _ _ _ => trivial⟩
                      | 28, ho, hsk =>
                        obtain rfl := Option.some.inj ho
                        have e0 : a'.eval (.tmp 281) = .pointer (some ⟨yg, yoff + m2 * 101, none⟩) := is_tq (hin 27 281 (by kernel_rfl) (by kernel_rfl)) rfl
                        exact o_fldo45_5 (.tmp 281) rfl _ _ e0 ⟨_, rfl, tq_is _ _ _ _ rfl, Kept.refl _ _, fun _ _ _ _ _ => trivial⟩
                      | 29, ho, hsk =>
                        obtain rfl := Option.some.inj ho
                        have e0 : a'.eval (.tmp 282) = .pointer (some ⟨yg, yoff + m2 * 101 + 5, none⟩) := is_tq (hin 28 282 (by kernel_rfl) (by kernel_rfl)) rfl
                        exact wp_loadA row26 (.tmp 282) rfl yg (yoff + m2 * 101 + 5) e0 (u8s z.bd) (by rw [u8s_len]; exact (unhide HZO).bd.len) (range_kept (unhide HYB) hk2) ⟨_, rfl, tq_is _ _ _ _ rfl, Kept.refl _ _, fun _ _ _ _ _ => trivial⟩
                      | 30, ho, hsk =>
                        obtain rfl := Option.some.inj ho
                        exact o_fldo28_1 (.tmp 9) rfl q9 0 ((hout 9 (by kernel_rfl)).trans rfl) ⟨_, rfl, tq_is _ _ _ _ rfl, Kept.refl _ _, fun _ _ _ _ _ => trivial⟩
                      | 31, ho, hsk =>
                        obtain rfl := Option.some.inj ho
                        have e0 : a'.eval (.tmp 284) = .pointer (some ⟨q9, 0 + 1, none⟩) := is_tq (hin 30 284 (by kernel_rfl) (by kernel_rfl)) rfl
                        exact wp_loadA row26 (.tmp 284) rfl q9 (0 + 1) e0 (u8s z.bd) (by rw [u8s_len]; exact (unhide HZO).bd.len) (ve_bd (range_kept (unhide HZV) hk2)) ⟨_, rfl, tq_is _ _ _ _ rfl, Kept.refl _ _, fun _ _ _ _ _ => trivial⟩
                      | 32, ho, hsk =>
                        obtain rfl := Option.some.inj ho
                        have e0 : a'.eval (.tmp 283) = aggV (u8s z.bd) := is_tq (hin 29 283 (by kernel_rfl) (by kernel_rfl)) rfl
                        have e1 : a'.eval (.tmp 285) = aggV (u8s z.bd) := is_tq (hin 31 285 (by kernel_rfl) (by kernel_rfl)) rfl
                        exact o_eqlA 26 26 Rc.guard23 (.tmp 283) (.tmp 285) rfl _ _ e0 e1 true ((Rc.equal23 _ z.bd z.bd (unhide HZO).bd.len (unhide HZO).bd.len).trans (by simp)) ⟨_, rfl, tq_is _ _ _ _ rfl, Kept.refl _ _, fun _ _ _ _ _ => trivial⟩
                      | 33, ho, hsk =>
                        obtain rfl := Option.some.inj ho
                        have e0 : a'.eval (.tmp 277) = .bool true := is_tq (hin 23 277 (by kernel_rfl) (by kernel_rfl)) rfl
                        have e1 : a'.eval (.tmp 286) = .bool true := is_tq (hin 32 286 (by kernel_rfl) (by kernel_rfl)) rfl
                        exact o_pick (.tmp 277) (.tmp 286) rfl _ e0 e1 ⟨_, rfl, tq_is _ _ _ _ rfl, Kept.refl _ _, fun _ _ _ _ _ => trivial⟩
                      | 34, ho, hsk =>
                        obtain rfl := Option.some.inj ho
                        have e0 : a'.eval (.tmp 287) = .bool true := is_tq (hin 33 287 (by kernel_rfl) (by kernel_rfl)) rfl
                        exact wp_move (.tmp 287) rfl _ e0 ⟨_, rfl, tq_is _ _ _ _ rfl, Kept.refl _ _, fun _ _ _ _ _ => trivial⟩
                      | 35, ho, hsk =>
                        obtain rfl := Option.some.inj ho
                        exact wp_move (.tmp 32) rfl _ ((hout 32 (by kernel_rfl)).trans rfl) ⟨_, rfl, tq_is _ _ _ _ rfl, Kept.refl _ _, fun _ _ _ _ _ => trivial⟩
                      | 36, ho, hsk =>
                        obtain rfl := Option.some.inj ho
                        exact wp_move (.tmp 26) rfl _ ((hout 26 (by kernel_rfl)).trans rfl) ⟨_, rfl, tq_is _ _ _ _ rfl, Kept.refl _ _, fun _ _ _ _ _ => trivial⟩
                      | 37, ho, hsk =>
                        obtain rfl := Option.some.inj ho
                        have e0 : a'.eval (.tmp 290) = .slice ro m2 rc := is_tq (hin 36 290 (by kernel_rfl) (by kernel_rfl)) rfl
                        exact o_len37 290 rfl _ _ _ e0 ⟨_, rfl, tq_is _ _ _ _ rfl, Kept.refl _ _, fun _ _ _ _ _ => trivial⟩
                      | 38, ho, hsk =>
                        obtain rfl := Option.some.inj ho
                        have e0 : a'.eval (.tmp 289) = .slice (some ⟨yg, yoff, none⟩) my yc := is_tq (hin 35 289 (by kernel_rfl) (by kernel_rfl)) rfl
                        have e1 : a'.eval (.tmp 291) = .int .i64 m2 := is_tq (hin 37 291 (by kernel_rfl) (by kernel_rfl)) rfl
                        exact o_idx37 (.tmp 289) (.tmp 291) rfl yg yoff _ _ m2 hmm e0 e1 ⟨_, rfl, tq_is _ _ _ _ rfl, Kept.refl _ _, fun _ _ _ _ _ => trivial⟩
                      | 39, ho, hsk =>
                        obtain rfl := Option.some.inj ho
                        have e0 : a'.eval (.tmp 292) = .pointer (some ⟨yg, yoff + m2 * 101, none⟩) := is_tq (hin 38 292 (by kernel_rfl) (by kernel_rfl)) rfl
                        exact o_fldo45_1 (.tmp 292) rfl _ _ e0 ⟨_, rfl, tq_is _ _ _ _ rfl, Kept.refl _ _, fun _ _ _ _ _ => trivial⟩
                      | 40, ho, hsk =>
                        obtain rfl := Option.some.inj ho
                        have e0 : a'.eval (.tmp 293) = .pointer (some ⟨yg, yoff + m2 * 101 + 1, none⟩) := is_tq (hin 39 293 (by kernel_rfl) (by kernel_rfl)) rfl
                        exact q_load2 (.tmp 293) rfl _ _ e0 (hk2.cell (unhide HYE) (by simp)) ⟨_, rfl, tq_is _ _ _ _ rfl, Kept.refl _ _, fun _ _ _ _ _ => trivial⟩
                      | 41, ho, hsk =>
                        obtain rfl := Option.some.inj ho
                        exact wp_move (.tmp 22) rfl _ ((hout 22 (by kernel_rfl)).trans rfl) ⟨_, rfl, tq_is _ _ _ _ rfl, Kept.refl _ _, fun _ _ _ _ _ => trivial⟩
                      | 42, ho, hsk =>
                        obtain rfl := Option.some.inj ho
                        have e0 : a'.eval (.tmp 294) = .int .i64 2 := is_tq (hin 40 294 (by kernel_rfl) (by kernel_rfl)) rfl
                        have e1 : a'.eval (.tmp 295) = .int .i64 2 := is_tq (hin 41 295 (by kernel_rfl) (by kernel_rfl)) rfl
                        exact o_eqlt2 (.tmp 294) (.tmp 295) rfl _ _ true rfl e0 e1 ⟨_, rfl, tq_is _ _ _ _ rfl, Kept.refl _ _, fun _ _ _ _ _ => trivial⟩
                      | 43, ho, hsk =>
                        obtain rfl := Option.some.inj ho
                        have e0 : a'.eval (.tmp 288) = .bool true := is_tq (hin 34 288 (by kernel_rfl) (by kernel_rfl)) rfl
                        have e1 : a'.eval (.tmp 296) = .bool true := is_tq (hin 42 296 (by kernel_rfl) (by kernel_rfl)) rfl
                        exact o_pick (.tmp 288) (.tmp 296) rfl _ e0 e1 ⟨_, rfl, tq_is _ _ _ _ rfl, Kept.refl _ _, fun _ _ _ _ _ => trivial⟩
                      | 44, ho, hsk =>
                        obtain rfl := Option.some.inj ho
                        have e0 : a'.eval (.tmp 266) = .bool false := is_tq (hin 12 266 (by kernel_rfl) (by kernel_rfl)) rfl
                        have e1 : a'.eval (.tmp 297) = .bool true := is_tq (hin 43 297 (by kernel_rfl) (by kernel_rfl)) rfl
                        exact o_pickOr0 (.tmp 266) (.tmp 297) rfl _ e0 e1 ⟨_, rfl, tq_is _ _ _ _ rfl, Kept.refl _ _, fun _ _ _ _ _ => trivial⟩
                      | 45, ho, hsk =>
                        obtain rfl := Option.some.inj ho
                        have e0 : a'.eval (.tmp 256) = .bool true := is_tq (hin 2 256 (by kernel_rfl) (by kernel_rfl)) rfl
                        have e1 : a'.eval (.tmp 298) = .bool true := is_tq (hin 44 298 (by kernel_rfl) (by kernel_rfl)) rfl
                        exact o_pick (.tmp 256) (.tmp 298) rfl _ e0 e1 ⟨_, rfl, tq_is _ _ _ _ rfl, Kept.refl _ _, fun _ _ _ _ _ => trivial⟩
                      | 46, ho, hsk =>
                        obtain rfl := Option.some.inj ho
                        have e0 : a'.eval (.tmp 299) = .bool true := is_tq (hin 45 299 (by kernel_rfl) (by kernel_rfl)) rfl
                        exact wp_move (.tmp 299) rfl _ e0 ⟨_, rfl, tq_is _ _ _ _ rfl, Kept.refl _ _, fun _ _ _ _ _ => trivial⟩
                      | 47, ho, hsk =>
                        obtain rfl := Option.some.inj ho
                        refine wp_callF 9 _ _ rfl #[] (by simp) (cg9 _ _) ((known9 w2 (hFw.kept hk2)).mono ?_)
                        rintro e w3 ⟨rfl, hk3⟩
                        exact ⟨_, rfl, _, rfl, tq_is _ _ _ _ rfl, hk3, fun _ _ _ _ _ => trivial⟩
                      | 48, ho, hsk =>
                        obtain rfl := Option.some.inj ho
                        have e0 : a'.eval (.tmp 300) = .bool true := is_tq (hin 46 300 (by kernel_rfl) (by kernel_rfl)) rfl
                        have e1 : a'.eval (.tmp 301) = .bool true := is_tq (hin 47 301 (by kernel_rfl) (by kernel_rfl)) rfl
                        exact o_pick (.tmp 300) (.tmp 301) rfl _ e0 e1 ⟨_, rfl, tq_is _ _ _ _ rfl, Kept.refl _ _, fun _ _ _ _ _ => trivial⟩
                      | 49, ho, hsk =>
                        obtain rfl := Option.some.inj ho
                        have e0 : a'.eval (.tmp 302) = .bool true := is_tq (hin 48 302 (by kernel_rfl) (by kernel_rfl)) rfl
                        exact wp_assignV (.tmp 302) rfl _ e0 ⟨_, rfl, tq_is _ _ _ _ rfl, Kept.refl _ _, fun _ _ _ _ _ => trivial⟩
                    intro w9 hk9
                    replace hk9 : Kept [] V43 w9 := ⟨hk9.os, hk9.tape, hk9.output, hk9.size, hk9.block⟩
                    simp only [valsQ, List.map_cons, List.map_nil, Option.getD_some, Option.getD_none, List.take_succ_cons, List.take_zero, putAll, Act.put, List.setIfInBounds_toArray, List.set_cons_succ, List.set_cons_zero]
                    refine wpAny_done (by kernel_rfl) ?_ _
                    go_wp2_with fail
                    go_ret
                    exact ⟨rfl, ((unhide HW).trans (unhide HKM).k).trans hk9⟩
theorem torn3 (J : Ar.Job) (fo so : Option Addr) (fc sc : Nat) (ct : Int) (z : Ve) (F1 F2 : List Ve) (w : World) (hF : Rc.First w) (hz : z.Ok) (o1 : ∀ x ∈ F1, x.Ok) (o2 : ∀ x ∈ F2, x.Ok) (r1 : RowS Ve.C 97 w fo F1) (r2 : RowS Ve.C 97 w so F2) : Calls Tryd.prog 3 #[aggV (Ar.jobC J), .slice fo F1.length fc, .slice so F2.length sc, .int .i64 ct, aggV z.C] w fun e w' => e = .returned (.bool true) ∧ Kept [] w w' := by
  by_cases h : J.may = true ∧ F1.length ≤ 60 ∧ F2.length ≤ 60 ∧ 0 ≤ ct ∧ ct ≤ 1000
  · obtain ⟨n, rfl⟩ : ∃ n : Nat, ct = (n : Int) := ⟨ct.toNat, by omega⟩
    exact torn_ok J fo so _ fc _ sc n z F1 F2 w hF h.1 rfl h.2.1 rfl h.2.2.1 (by omega) hz o1 o2 r1 r2
  · exact torn_bad J fo so _ fc _ sc ct z w hF h

end Go.Proofs.YtmeajhdhiebkdaaDoor
