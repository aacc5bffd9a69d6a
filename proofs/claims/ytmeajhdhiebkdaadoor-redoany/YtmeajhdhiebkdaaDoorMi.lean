/-
  What RedoAny leans on.
-/
import Derived.Test.YtmeajhdhiebkdaaDoorMf
import Derived.Test.YtmeajhdhiebkdaaDoorMg
import Derived.Test.YtmeajhdhiebkdaaDoorMh
import Derived.Test.YtmeajhdhiebkdaaDoorLl
import Derived.Deep.CutRange
import Derived.Deep.CutBlock
import Derived.Test.YtmeajhdhiebkdaaDoorMd

/-
  The document's Record and Read.
-/
namespace Go.Proofs.YtmeajhdhiebkdaaDoor
set_option maxRecDepth 100000
open Go.RowKit

section
variable {o : Oper} {a : Act} {w : World} {K : Act → World → Prop} {Q : Exit → Act → World → Prop}
theorem o_remt2 (x y : Operand) (ho : o.op = .binOp .rem 2 x y 2) (m n r : Int) (hm : 0 ≤ m) (hn : 0 < n) (hr : m % n = r) (hx : a.eval x = .int .i64 m) (hy : a.eval y = .int .i64 n) (h : K (a.put o.dst (.int .i64 r)) w) : o.wp Tryd.prog a w K Q := by
  have ht : m.tmod n = r := by rw [Int.tmod_eq_emod_of_nonneg hm]; exact hr
  have h0 : ¬ n = 0 := by omega
  unfold Oper.wp execOp
  simp only [ho, hx, hy]
  simp [go_sem, ht, h0]
  exact h
theorem o_mulk3 (x : Operand) (c : Int) (ho : o.op = .binOp .mul 3 (.const (.int .i64 c)) x 3) (m r : Int) (hr : c * m = r) (hb : -9223372036854775808 ≤ r ∧ r ≤ 9223372036854775807) (hx : a.eval x = .int .i64 m) (h : K (a.put o.dst (.int .i64 r)) w) : o.wp Tryd.prog a w K Q := by
  have hw : IntKind.i64.wrap r = r := by rw [IntKind.wrap_i64]; omega
  unfold Oper.wp execOp
  have hc : a.eval (.const (.int .i64 c)) = .int .i64 c := rfl
  simp only [ho, hx, hc]
  simp [go_sem, hr, hw]
  exact h
end
theorem cg47 (vs : Array Value) (w : World) : (callFunc 47 vs).run Tryd.prog w = .ok (.enter 47 vs) w := by kernel_rfl
set_option maxHeartbeats 4000000 in
theorem rrecord49 (J : Ar.Job) (nd s : Int) (hm : J.may = true) (hn : 0 ≤ nd ∧ nd < J.n) (hs : 1 ≤ s ∧ s ≤ 2147483647) (w : World) : Calls Tryd.prog 49 #[aggV (Ar.jobC J), .int .i64 nd, .int .i64 s] w fun e w' => e = .returned (.int .i64 (plc J nd s)) ∧ Kept [] w w' := by
  have hm' := hm
  simp only [Ar.Job.may, decide_eq_true_eq] at hm'
  have P47 := hide (fun W => rhead47 J nd hm (by omega) W)
  have i1 := plc_in (s := s) hm hn
  obtain ⟨q, hq⟩ : ∃ q, 9 + nd * (1 + 2 * J.l) = q := ⟨_, rfl⟩
  obtain ⟨m, hme⟩ : ∃ m, (s - 1) % J.l = m := ⟨_, rfl⟩
  have hml : 0 ≤ m ∧ m < J.l := by rw [← hme]; exact ⟨Int.emod_nonneg _ (by omega), Int.emod_lt_of_pos _ (by omega)⟩
  have hqb : 0 ≤ q ∧ q ≤ 5000 := by
    have h1 : nd * (1 + 2 * J.l) ≤ 8 * 129 := Int.mul_le_mul (by omega) (by omega) (by omega) (by omega)
    have h2 : 0 ≤ nd * (1 + 2 * J.l) := Int.mul_nonneg (by omega) (by omega)
    omega
  have hpe : plc J nd s = q + 1 + 2 * m := by unfold plc; rw [hq, hme]
  rw [hq] at P47
  rw [hpe]
  have HME := hide hme
  have hl2 : 2 ≤ J.l ∧ J.l ≤ 64 := by omega
  clear hm hm' i1 hq hme hpe hn
  go_enter Tryd.func49, Tryd.ntmps49
  go_wp2_with (
    first
    | (refine wpBoxV (by rfl) (.tmp 0) (by rfl) (Ar.jobC J) (by kernel_rfl) ?_
       intro V1 q4 e4 B4 K4
       have H4 := hide B4
       have HW := hide K4
       clear e4 B4 K4
       refine Stp.go ?_))
  constructor
  go_wp2_with fail
  refine wp_region_any mixed (wpAny_tq 12 rfl (by kernel_rfl) [some (aggV (Ar.jobC J)), some (.int .i64 nd), some (.int .i64 q), some (.int .i64 (q + 1)), some (.int .i64 s), some (.int .i64 (s - 1)), some (.pointer (some ⟨q4, 3, none⟩)), some (.int .i64 J.l), some (.int .i64 m), some (.int .i64 (2 * m)), some (.int .i64 (q + 1 + 2 * m)), some (.int .i64 (q + 1 + 2 * m))] rfl (by kernel_rfl) (by kernel_rfl) ?_ ?_)
  · intro i o' hi hsk ho a' w2 hout hin hk2
    replace hk2 : Kept [] V1 w2 := ⟨hk2.os, hk2.tape, hk2.output, hk2.size, hk2.block⟩
    match i, ho, hsk with
    | 0, ho, hsk =>
      obtain rfl := Option.some.inj ho
      exact wp_loadA row23 (.tmp 3) rfl q4 0 ((hout 3 (by kernel_rfl)).trans rfl) (Ar.jobC J) rfl (((unhide H4).kept hk2 (by simp)).range) ⟨_, rfl, tq_is _ _ _ _ rfl, Kept.refl _ _, fun _ _ _ _ _ => trivial⟩
    | 1, ho, hsk =>
      obtain rfl := Option.some.inj ho
      exact wp_move (.tmp 1) rfl _ ((hout 1 (by kernel_rfl)).trans rfl) ⟨_, rfl, tq_is _ _ _ _ rfl, Kept.refl _ _, fun _ _ _ _ _ => trivial⟩
    | 2, ho, hsk =>
      obtain rfl := Option.some.inj ho
      have e0 : a'.eval (.tmp 7) = aggV (Ar.jobC J) := is_tq (hin 0 7 (by kernel_rfl) (by kernel_rfl)) rfl
      have e1 : a'.eval (.tmp 8) = .int .i64 nd := is_tq (hin 1 8 (by kernel_rfl) (by kernel_rfl)) rfl
      refine wp_callF 47 _ _ rfl #[aggV (Ar.jobC J), .int .i64 nd] (by simp [e0, e1]) (cg47 _ _) ((unhide P47 _).mono ?_)
      rintro e w3 ⟨rfl, hk3⟩
      exact ⟨_, rfl, _, rfl, tq_is _ _ _ _ rfl, hk3, fun _ _ _ _ _ => trivial⟩
    | 3, ho, hsk =>
      obtain rfl := Option.some.inj ho
      have e0 : a'.eval (.tmp 9) = .int .i64 q := is_tq (hin 2 9 (by kernel_rfl) (by kernel_rfl)) rfl
      exact o_addk3 (.tmp 9) 1 rfl _ _ rfl (by omega) e0 ⟨_, rfl, tq_is _ _ _ _ rfl, Kept.refl _ _, fun _ _ _ _ _ => trivial⟩
    | 4, ho, hsk =>
      obtain rfl := Option.some.inj ho
      exact wp_move (.tmp 2) rfl _ ((hout 2 (by kernel_rfl)).trans rfl) ⟨_, rfl, tq_is _ _ _ _ rfl, Kept.refl _ _, fun _ _ _ _ _ => trivial⟩
    | 5, ho, hsk =>
      obtain rfl := Option.some.inj ho
      have e0 : a'.eval (.tmp 11) = .int .i64 s := is_tq (hin 4 11 (by kernel_rfl) (by kernel_rfl)) rfl
      exact o_subc2 (.tmp 11) 1 rfl _ _ rfl (by omega) e0 ⟨_, rfl, tq_is _ _ _ _ rfl, Kept.refl _ _, fun _ _ _ _ _ => trivial⟩
    | 6, ho, hsk =>
      obtain rfl := Option.some.inj ho
      exact o_fld23_3 (.tmp 3) rfl q4 ((hout 3 (by kernel_rfl)).trans rfl) ⟨_, rfl, tq_is _ _ _ _ rfl, Kept.refl _ _, fun _ _ _ _ _ => trivial⟩
    | 7, ho, hsk =>
      obtain rfl := Option.some.inj ho
      have e0 : a'.eval (.tmp 13) = .pointer (some ⟨q4, 3, none⟩) := is_tq (hin 6 13 (by kernel_rfl) (by kernel_rfl)) rfl
      exact q_load3 (.tmp 13) rfl _ _ e0 (fits_cell ((unhide H4).kept hk2 (by simp)) 3 _ rfl) ⟨_, rfl, tq_is _ _ _ _ rfl, Kept.refl _ _, fun _ _ _ _ _ => trivial⟩
    | 8, ho, hsk =>
      obtain rfl := Option.some.inj ho
      have e0 : a'.eval (.tmp 12) = .int .i64 (s - 1) := is_tq (hin 5 12 (by kernel_rfl) (by kernel_rfl)) rfl
      have e1 : a'.eval (.tmp 14) = .int .i64 J.l := is_tq (hin 7 14 (by kernel_rfl) (by kernel_rfl)) rfl
      exact o_remt2 (.tmp 12) (.tmp 14) rfl _ _ _ (by omega) (by omega) (unhide HME) e0 e1 ⟨_, rfl, tq_is _ _ _ _ rfl, Kept.refl _ _, fun _ _ _ _ _ => trivial⟩
    | 9, ho, hsk =>
      obtain rfl := Option.some.inj ho
      have e0 : a'.eval (.tmp 15) = .int .i64 m := is_tq (hin 8 15 (by kernel_rfl) (by kernel_rfl)) rfl
      exact o_mulk3 (.tmp 15) 2 rfl _ _ rfl (by omega) e0 ⟨_, rfl, tq_is _ _ _ _ rfl, Kept.refl _ _, fun _ _ _ _ _ => trivial⟩
    | 10, ho, hsk =>
      obtain rfl := Option.some.inj ho
      have e0 : a'.eval (.tmp 10) = .int .i64 (q + 1) := is_tq (hin 3 10 (by kernel_rfl) (by kernel_rfl)) rfl
      have e1 : a'.eval (.tmp 16) = .int .i64 (2 * m) := is_tq (hin 9 16 (by kernel_rfl) (by kernel_rfl)) rfl
      exact o_addt3 (.tmp 10) (.tmp 16) rfl _ _ _ rfl (by omega) e0 e1 ⟨_, rfl, tq_is _ _ _ _ rfl, Kept.refl _ _, fun _ _ _ _ _ => trivial⟩
    | 11, ho, hsk =>
      obtain rfl := Option.some.inj ho
      have e0 : a'.eval (.tmp 17) = .int .i64 (q + 1 + 2 * m) := is_tq (hin 10 17 (by kernel_rfl) (by kernel_rfl)) rfl
      exact wp_assignV (.tmp 17) rfl _ e0 ⟨_, rfl, tq_is _ _ _ _ rfl, Kept.refl _ _, fun _ _ _ _ _ => trivial⟩
  intro w9 hk9
  replace hk9 : Kept [] V1 w9 := ⟨hk9.os, hk9.tape, hk9.output, hk9.size, hk9.block⟩
  simp only [valsQ, List.map_cons, List.map_nil, Option.getD_some, List.take_succ_cons, List.take_zero, putAll, Act.put, List.setIfInBounds_toArray, List.set_cons_succ, List.set_cons_zero]
  refine wpAny_done (by kernel_rfl) ?_ _
  go_wp2_with fail
  go_ret
  exact ⟨rfl, (unhide HW).trans hk9⟩
/-- Does the document stop at what it got? -/
def stopB (P nd s ep c : Int) (r : Rc.Rec) : Bool := !(decide (c = 0) && (decide (r.nd = nd) && (decide (r.ls = s) && (!decide (r.ep < ep) && !decide (P ≤ r.pg)))))
theorem take_code (s : List Int) : (Rc.takeR s).2 = 0 ∨ (Rc.takeR s).2 = 12 := by
  unfold Rc.takeR
  split
  · exact .inl rfl
  · exact .inr rfl
theorem stop_fol {P nd s ep : Int} {a r : Rc.Rec} (h1 : a.ls = s - 1) (h2 : a.nd = nd) (h3 : a.ep = ep) : (decide (P ≤ r.pg) || !Rc.folB a r) = stopB P nd s ep 0 r := by
  unfold stopB Rc.folB
  rw [h1, h2, h3]
  by_cases c1 : P ≤ r.pg
  · simp [c1]
  · by_cases c2 : nd = r.nd
    · by_cases c3 : r.ls = s
      · by_cases c4 : r.ep < ep
        · simp [c1, c2, c3, c4]
        · simp [c1, c2, c3, c4]; omega
      · simp [c1, c2, c3]; omega
    · have c2' : ¬ r.nd = nd := fun e => c2 e.symm
      simp [c1, c2, c2']
/-- One step of what stands. -/
theorem stand_step (D : Dv.Dev) (J : Ar.Job) (nd s ep : Int) (m : Nat) (a : Rc.Rec) (h1 : a.ls = s - 1) (h2 : a.nd = nd) (h3 : a.ep = ep) :
    standF J.p a (laidF D J nd s (m + 1)) = bif stopB J.p nd s ep (gotA D J nd s).2 (gotA D J nd s).1 then [] else (gotA D J nd s).1 :: standF J.p (gotA D J nd s).1 (laidF D J nd (s + 1) m) := by
  rw [laidF]
  by_cases hc : (gotA D J nd s).2 = 0
  · rw [if_pos hc, standF, stop_fol h1 h2 h3, hc]
    cases stopB J.p nd s ep 0 (gotA D J nd s).1 <;> rfl
  · rw [if_neg hc, standF]
    have : stopB J.p nd s ep (gotA D J nd s).2 (gotA D J nd s).1 = true := by
      unfold stopB
      rw [decide_eq_false hc]
      rfl
    rw [this]
    rfl
theorem stop_no {P nd s ep c : Int} {r : Rc.Rec} (h : stopB P nd s ep c r = false) : c = 0 ∧ r.nd = nd ∧ r.ls = s ∧ ep ≤ r.ep ∧ r.pg < P := by
  unfold stopB at h
  simp at h
  omega
/-- What the loop of the document's Read keeps. -/
structure Rl (D : Dv.Dev) (J : Ar.Job) (nd st : Int) (R : List Rc.Rec) (N i : Nat) (ep : Int) (pre : List Rc.Rec) : Prop where
  len : pre.length = i
  le : i ≤ N
  a : ∃ a : Rc.Rec, a.ls = st + i - 1 ∧ a.nd = nd ∧ a.ep = ep ∧ R = pre ++ standF J.p a (laidF D J nd (st + i) (N - i))
theorem Rl.done {D : Dv.Dev} {J : Ar.Job} {nd st : Int} {R : List Rc.Rec} {N i : Nat} {ep : Int} {pre : List Rc.Rec} (h : Rl D J nd st R N i ep pre) (hi : ¬ i < N) : R = pre := by
  obtain ⟨a, _, _, _, e⟩ := h.a
  rw [show N - i = 0 by have := h.le; omega, laidF, standF, List.append_nil] at e
  exact e
theorem Rl.stop {D : Dv.Dev} {J : Ar.Job} {nd st : Int} {R : List Rc.Rec} {N i : Nat} {ep : Int} {pre : List Rc.Rec} (h : Rl D J nd st R N i ep pre) (hi : i < N) (hs : stopB J.p nd (st + i) ep (gotA D J nd (st + i)).2 (gotA D J nd (st + i)).1 = true) : R = pre := by
  obtain ⟨a, h1, h2, h3, e⟩ := h.a
  rw [show N - i = (N - (i + 1)) + 1 by omega, stand_step D J nd (st + i) ep _ a h1 h2 h3, hs] at e
  simpa using e
theorem Rl.next {D : Dv.Dev} {J : Ar.Job} {nd st : Int} {R : List Rc.Rec} {N i : Nat} {ep : Int} {pre : List Rc.Rec} (h : Rl D J nd st R N i ep pre) (hi : i < N) (hs : stopB J.p nd (st + i) ep (gotA D J nd (st + i)).2 (gotA D J nd (st + i)).1 = false) : Rl D J nd st R N (i + 1) (gotA D J nd (st + i)).1.ep (pre ++ [(gotA D J nd (st + i)).1]) := by
  obtain ⟨a, h1, h2, h3, e⟩ := h.a
  obtain ⟨g1, g2, g3, g4, g5⟩ := stop_no hs
  rw [show N - i = (N - (i + 1)) + 1 by omega, stand_step D J nd (st + i) ep _ a h1 h2 h3, hs] at e
  refine ⟨by rw [List.length_append, h.len]; rfl, hi, _, by rw [g3]; omega, g2, rfl, ?_⟩
  rw [e, show st + ((i + 1 : Nat) : Int) = st + i + 1 by omega]
  simp

end Go.Proofs.YtmeajhdhiebkdaaDoor

/-
  The document's Read.
-/
namespace Go.Proofs.YtmeajhdhiebkdaaDoor
set_option maxRecDepth 100000
open Go.RowKit

theorem got_ok {D : Dv.Dev} (h : D.Ok) (J : Ar.Job) (nd s : Int) : (gotA D J nd s).1.Ok := Rc.getR_ok (read_byts h _) (read_byts h _)
theorem sec_len {D : Dv.Dev} (h : D.Ok) (x : Int) : (u8s (D.read x).1).length = 64 := by rw [u8s_len]; exact (read_byts h x).len
set_option maxHeartbeats 16000000 in
theorem rread28 (r sg eg : Nat) (D : Dv.Dev) (J : Ar.Job) (nd : Int) (w : World) (h : Dv.Rv w r sg eg D) (hm : J.may = true) (hn : 0 ≤ nd ∧ nd < J.n) (hlen : (D.S.length : Int) = J.sectors.1) (s0 c0 : Int) (R0 : List Rc.Rec) (hlk0 : lookR D J nd true = (s0, R0, c0)) : Calls Tryd.prog 28 #[P0 r, aggV (Ar.jobC J), .int .i64 nd] w fun e w' => ∃ u, e = .returned (.tuple #[.int .i64 s0, u, .int .i64 c0]) ∧ OwnO w' u R0.length (cellsR R0) ∧ (∀ k, u.ownBlock = some k → w.heap.size ≤ k) ∧ Kept [] w w' := by
  have hm' := hm
  simp only [Ar.Job.may, decide_eq_true_eq] at hm'
  have HRV := hide h
  have HM := hide hm
  have HN := hide hn
  have HLen := hide hlen
  have HLK0 := hide hlk0
  clear hlk0
  have P47 := hide (fun W => rhead47 J nd hm (by omega) W)
  have HQ : Hid ((J.head nd).1 = 9 + nd * (1 + 2 * J.l)) := head_plc hm hn
  obtain ⟨q, hq⟩ : ∃ q, 9 + nd * (1 + 2 * J.l) = q := ⟨_, rfl⟩
  rw [hq] at P47 HQ
  have hl2 : 2 ≤ J.l ∧ J.l ≤ 64 := by omega
  have HL2 := hide hl2
  clear h hm hm' hn hlen hq
  go_enter Tryd.func28, Tryd.ntmps28
  go_wp2_with (
    first
    | (refine wpBoxV (by rfl) (.tmp 1) (by rfl) (Ar.jobC J) (by kernel_rfl) ?_
       intro V1 q4 e4 B4 K4
       have H4 := hide B4
       have HW := hide K4
       replace HRV := hide ((unhide HRV).kept K4 (by simp) (by simp) (by simp))
       clear e4 B4 K4
       refine Stp.go ?_))
  constructor
  go_wp2_with (
    first
    | (refine wpLoadA row23 (by rfl) (.tmp 4) (by rfl) q4 0 (by kernel_rfl) (Ar.jobC J) rfl (unhide H4).range ?_
       refine Stp.go ?_))
  constructor
  go_wp2_with (
    first
    | (go_at_call 47
       refine (unhide P47 _).mono ?_
       rintro e V2 ⟨rfl, K2⟩
       replace H4 := hide ((unhide H4).kept K2 (by simp))
       replace HW := hide ((unhide HW).trans K2)
       replace HRV := hide ((unhide HRV).kept K2 (by simp) (by simp) (by simp))
       clear K2
       refine Stp.go ?_))
  constructor
  go_wp2_with (
    first
    | (go_at_call 46
       refine (Dv.r_read r sg eg D q _ (unhide HRV)).mono ?_
       rintro e V3 ⟨rfl, K3⟩
       replace H4 := hide ((unhide H4).kept K3 (by simp))
       replace HW := hide ((unhide HW).trans K3)
       replace HRV := hide ((unhide HRV).kept K3 (by simp) (by simp) (by simp))
       clear K3
       refine Stp.go ?_))
  constructor
  go_wp2_with (
    first
    | (refine wpNew row80 (u8s Dv.nought) (by rw [u8s_len]; exact Dv.nought_len) Dv.run_alloc38 9 (by rfl) (by rfl) (by rfl) (.tmp 28) (by rfl) (by rfl) (by rfl) (u8s (D.read q).1) (sec_len (unhide HRV).ok q) (u8s_one _) (by kernel_rfl) (by kernel_rfl) ?_
       intro V4 q9 e9 B9 K9
       have H9 := hide B9
       replace H4 := hide ((unhide H4).kept K9 (by simp))
       replace HW := hide ((unhide HW).trans K9)
       replace HRV := hide ((unhide HRV).kept K9 (by simp) (by simp) (by simp))
       clear e9 B9 K9
       refine Stp.go ?_))
  constructor
  go_wp2_with (
    first
    | (refine wpLoadA row80 (by rfl) (.tmp 9) (by rfl) q9 0 (by kernel_rfl) (u8s (D.read q).1) (sec_len (unhide HRV).ok q) (unhide H9).range ?_
       refine Stp.go ?_))
  constructor
  go_wp2_with (
    first
    | (go_at_call 48
       refine (Rc.rtake22 (D.read q).1 (read_byts (unhide HRV).ok q) _).mono ?_
       rintro e V5 ⟨rfl, K5⟩
       obtain ⟨st, hst⟩ : ∃ st, (Rc.takeR (D.read q).1).1.1 = st := ⟨_, rfl⟩
       obtain ⟨ep, hep⟩ : ∃ ep, (Rc.takeR (D.read q).1).1.2 = ep := ⟨_, rfl⟩
       obtain ⟨tc, htc⟩ : ∃ tc, (Rc.takeR (D.read q).1).2 = tc := ⟨_, rfl⟩
       rw [hst, hep, htc]
       have HST := hide hst
       have HEP := hide hep
       have HTC := hide htc
       replace H4 := hide ((unhide H4).kept K5 (by simp))
       replace HW := hide ((unhide HW).trans K5)
       replace HRV := hide ((unhide HRV).kept K5 (by simp) (by simp) (by simp))
       clear K5 hst hep htc H9
       refine Stp.go ?_))
  constructor
  go_wp2_with (
    first
    | (refine wpNew row91 (Rc.hdC 0 0) rfl zero91 11 (by rfl) (by rfl) (by rfl) (.tmp 33) (by rfl) (by rfl) (by rfl) (Rc.hdC st ep) rfl (hdC_one st ep) (by kernel_rfl) (by kernel_rfl) ?_
       intro V6 q11 e11 B11 K11
       have H11 := hide B11
       replace H4 := hide ((unhide H4).kept K11 (by simp))
       replace HW := hide ((unhide HW).trans K11)
       replace HRV := hide ((unhide HRV).kept K11 (by simp) (by simp) (by simp))
       have c110 := fits_cell B11 0 (.int .i64 st) rfl
       have c111 := fits_cell B11 1 (.int .i64 ep) rfl
       clear e11 B11 K11
       refine Stp.go ?_))
  constructor
  by_cases ht : tc = 0
  · subst ht
    have hlk : lookR D J nd true = (st, standS D J nd st ep, 0) := by
      have hh : (J.head nd).2 = 0 := by
        unfold Ar.Job.head
        have := unhide HN
        rw [unhide HM, if_pos (by simp [Ar.below]; omega)]
      have hl9 := unhide HLen
      unfold lookR
      rw [if_neg (by simp [hh]; omega), unhide HQ, unhide HTC, if_neg (by simp), unhide HST, unhide HEP]
    have hst1 : 1 ≤ st ∧ st ≤ 2147483647 := by
      have h9 := take_st (s := (D.read q).1) (unhide HTC)
      rw [unhide HST] at h9
      exact h9
    obtain ⟨R, hR⟩ : ∃ R, standS D J nd st ep = R := ⟨_, rfl⟩
    rw [hR, unhide HLK0] at hlk
    injection hlk with e1 e2
    injection e2 with e2 e3
    replace e1 := e1.symm
    replace e2 := e2.symm
    replace e3 := e3.symm
    subst e1 e2 e3
    obtain ⟨N, hN⟩ : ∃ N, laidN J st = N := ⟨_, rfl⟩
    have hNv : (N : Int) = min (st + J.l) 2147483647 - st := by rw [← hN]; unfold laidN; omega
    have HRL : Hid (Rl D J nd st R N 0 ep []) := ⟨rfl, by omega, ahead0 nd ep st, by simp [ahead0], rfl, rfl, by rw [← hR, ← hN]; simp [standS, laidS]⟩
    clear hR hN HQ HTC HST HEP P47 HLK0
    go_wp2_with fail
    have HX : Hid (∃ pre, OwnO V6 (.slice none 0 0) pre.length (cellsR pre) ∧ (∀ k, (Value.slice none 0 0).ownBlock = some k → w.heap.size ≤ k) ∧ Rl D J nd st R N 0 ep pre ∧ Kept [] w V6 ∧ Dv.Rv V6 r sg eg D ∧ Blk V6 q4 23 (Ar.jobC J) ∧ Blk V6 q11 91 (Rc.hdC st ep)) := ⟨[], OwnO.nil _, (fun k e => by cases e), unhide HRL, unhide HW, unhide HRV, unhide H4, unhide H11⟩
    clear c110 c111
    go_loopw [13, 14, 15] (fun x13 u x15 wr => ∃ (i : Nat) (e9 : Int), i ≤ N ∧ x13 = .int .i64 e9 ∧ x15 = .int .i64 (st + (i : Int)) ∧ Hid (∃ pre, OwnO wr u pre.length (cellsR pre) ∧ (∀ k, u.ownBlock = some k → w.heap.size ≤ k) ∧ Rl D J nd st R N i e9 pre ∧ Kept [] w wr ∧ Dv.Rv wr r sg eg D ∧ Blk wr q4 23 (Ar.jobC J) ∧ Blk wr q11 91 (Rc.hdC st ep))) (fun _ _ x15 _ => (2147483648 - intOf x15).toNat)
    case atStart => exact ⟨0, ep, by omega, rfl, by go_num, HX⟩
    case round =>
      clear HX HRV HW H4 H11 HRL
      obtain ⟨i, e9, hiN, rfl, rfl, HX⟩ := hrel
      obtain ⟨pre, hO, hOb, hL, hW, hV, h4, h11⟩ := unhide HX
      obtain ⟨uo, uc, hu, _, _⟩ := hO.sl
      subst hu
      have hpl := hL.len
      rw [hpl] at hO hOb
      rw [hpl]
      have HO := hide hO
      have HOB := hide hOb
      have HRL := hide hL
      have HW := hide hW
      have HRV := hide hV
      have H4 := hide h4
      have H11 := hide h11
      have HPL := hide hpl
      have c110 := fits_cell h11 0 (.int .i64 st) rfl
      have c43 := fits_cell h4 3 (.int .i64 J.l) rfl
      clear HX hO hOb hL hW hV h4 h11 hpl
      by_cases hi : i < N
      · have d1 : st + (i : Int) < st + J.l := by omega
        have d2 : st + (i : Int) < 2147483647 := by omega
        have hs : 1 ≤ st + (i : Int) ∧ st + (i : Int) ≤ 2147483647 := by omega
        have P49 := hide (fun W => rrecord49 J nd (st + (i : Int)) (unhide HM) (unhide HN) hs W)
        obtain ⟨p, hp⟩ : ∃ p, plc J nd (st + (i : Int)) = p := ⟨_, rfl⟩
        have hpb : 0 ≤ p ∧ p ≤ 5000 := by
          have h9 := plc_in (s := st + (i : Int)) (unhide HM) (unhide HN)
          have h8 : J.sectors.1 ≤ 5000 := by have h7 := unhide HLen; have h6 := (unhide HRV).ok.s1; omega
          omega
        have HGA : Hid (Rc.getR (D.read p).1 (D.read (p + 1)).1 = gotA D J nd (st + (i : Int))) := by
          show _ = _
          unfold gotA
          rw [rec_plc (unhide HM) (unhide HN) hs, hp]
        rw [hp] at P49
        clear hp hs
        as_aux_lemma =>
          go_wp2_with (
            first
            | (refine wpLoadA row23 (by rfl) (.tmp 4) (by rfl) q4 0 (by kernel_rfl) (Ar.jobC J) rfl (unhide H4).range ?_
               clear c43 c110
               refine Stp.go ?_))
          constructor
          go_wp2_with (
            first
            | (go_at_call 49
               refine (unhide P49 _).mono ?_
               rintro e V11 ⟨rfl, K1⟩
               replace HO := hide (OwnO.kept (unhide HO) K1 (by simp))
               replace H4 := hide ((unhide H4).kept K1 (by simp))
               replace H11 := hide ((unhide H11).kept K1 (by simp))
               replace HW := hide ((unhide HW).trans K1)
               replace HRV := hide ((unhide HRV).kept K1 (by simp) (by simp) (by simp))
               clear K1
               refine Stp.go ?_))
          constructor
          go_wp2_with (
            first
            | (go_at_call 46
               refine (Dv.r_read r sg eg D p _ (unhide HRV)).mono ?_
               rintro e V12 ⟨rfl, K1⟩
               replace HO := hide (OwnO.kept (unhide HO) K1 (by simp))
               replace H4 := hide ((unhide H4).kept K1 (by simp))
               replace H11 := hide ((unhide H11).kept K1 (by simp))
               replace HW := hide ((unhide HW).trans K1)
               replace HRV := hide ((unhide HRV).kept K1 (by simp) (by simp) (by simp))
               clear K1
               refine Stp.go ?_))
          constructor
          go_wp2_with (
            first
            | (refine wpNew row80 (u8s Dv.nought) (by rw [u8s_len]; exact Dv.nought_len) Dv.run_alloc38 16 (by rfl) (by rfl) (by rfl) (.tmp 61) (by rfl) (by rfl) (by rfl) (u8s (D.read p).1) (sec_len (unhide HRV).ok _) (u8s_one _) (by kernel_rfl) (by kernel_rfl) ?_
               intro V13 q16 eq Bq Kq
               replace HO := hide (OwnO.kept (unhide HO) Kq (by simp))
               replace H4 := hide ((unhide H4).kept Kq (by simp))
               replace H11 := hide ((unhide H11).kept Kq (by simp))
               replace HW := hide ((unhide HW).trans Kq)
               replace HRV := hide ((unhide HRV).kept Kq (by simp) (by simp) (by simp))
               have HA16 := hide Bq
               clear eq Bq Kq
               refine Stp.go ?_))
          constructor
          go_wp2_with (
            first
            | (refine wpLoadA row23 (by rfl) (.tmp 4) (by rfl) q4 0 (by kernel_rfl) (Ar.jobC J) rfl (unhide H4).range ?_
               refine Stp.go ?_))
          constructor
          go_wp2_with (
            first
            | (go_at_call 49
               refine (unhide P49 _).mono ?_
               rintro e V14 ⟨rfl, K1⟩
               replace HO := hide (OwnO.kept (unhide HO) K1 (by simp))
               replace H4 := hide ((unhide H4).kept K1 (by simp))
               replace H11 := hide ((unhide H11).kept K1 (by simp))
               replace HW := hide ((unhide HW).trans K1)
               replace HRV := hide ((unhide HRV).kept K1 (by simp) (by simp) (by simp))
               replace HA16 := hide ((unhide HA16).kept K1 (by simp))
               clear K1
               refine Stp.go ?_))
          constructor
          go_wp2_with (
            first
            | (go_at_call 46
               refine (Dv.r_read r sg eg D (p + 1) _ (unhide HRV)).mono ?_
               rintro e V15 ⟨rfl, K1⟩
               replace HO := hide (OwnO.kept (unhide HO) K1 (by simp))
               replace H4 := hide ((unhide H4).kept K1 (by simp))
               replace H11 := hide ((unhide H11).kept K1 (by simp))
               replace HW := hide ((unhide HW).trans K1)
               replace HRV := hide ((unhide HRV).kept K1 (by simp) (by simp) (by simp))
               replace HA16 := hide ((unhide HA16).kept K1 (by simp))
               clear K1
               refine Stp.go ?_))
          constructor
          go_wp2_with (
            first
            | (refine wpNew row80 (u8s Dv.nought) (by rw [u8s_len]; exact Dv.nought_len) Dv.run_alloc38 18 (by rfl) (by rfl) (by rfl) (.tmp 71) (by rfl) (by rfl) (by rfl) (u8s (D.read (p + 1)).1) (sec_len (unhide HRV).ok _) (u8s_one _) (by kernel_rfl) (by kernel_rfl) ?_
               intro V16 q18 eq Bq Kq
               replace HO := hide (OwnO.kept (unhide HO) Kq (by simp))
               replace H4 := hide ((unhide H4).kept Kq (by simp))
               replace H11 := hide ((unhide H11).kept Kq (by simp))
               replace HW := hide ((unhide HW).trans Kq)
               replace HRV := hide ((unhide HRV).kept Kq (by simp) (by simp) (by simp))
               have HA18 := hide Bq
               replace HA16 := hide ((unhide HA16).kept Kq (by simp))
               clear eq Bq Kq
               refine Stp.go ?_))
          constructor
          go_wp2_with (
            first
            | (refine wpLoadA row80 (by rfl) (.tmp 16) (by rfl) q16 0 (by kernel_rfl) (u8s (D.read p).1) (sec_len (unhide HRV).ok _) (unhide HA16).range ?_
               refine Stp.go ?_))
          constructor
          go_wp2_with (
            first
            | (refine wpLoadA row80 (by rfl) (.tmp 18) (by rfl) q18 0 (by kernel_rfl) (u8s (D.read (p + 1)).1) (sec_len (unhide HRV).ok _) (unhide HA18).range ?_
               refine Stp.go ?_))
          constructor
          go_wp2_with (
            first
            | (go_at_call 50
               refine (Rc.rget19 (D.read p).1 (D.read (p + 1)).1 (read_byts (unhide HRV).ok _) (read_byts (unhide HRV).ok _) _).mono ?_
               rintro e V17 ⟨rfl, K1⟩
               replace HO := hide (OwnO.kept (unhide HO) K1 (by simp))
               replace H4 := hide ((unhide H4).kept K1 (by simp))
               replace H11 := hide ((unhide H11).kept K1 (by simp))
               replace HW := hide ((unhide HW).trans K1)
               replace HRV := hide ((unhide HRV).kept K1 (by simp) (by simp) (by simp))
               rw [unhide HGA]
               obtain ⟨x, hx⟩ : ∃ x, (gotA D J nd (st + (i : Int))).1 = x := ⟨_, rfl⟩
               obtain ⟨c, hc⟩ : ∃ c, (gotA D J nd (st + (i : Int))).2 = c := ⟨_, rfl⟩
               rw [hx, hc]
               have HXE := hide hx
               have HCE := hide hc
               have HXB : Hid (Rc.Byts 96 x.bd) := by rw [← hx]; exact (got_ok (unhide HRV).ok J nd (st + (i : Int))).bd
               clear K1 hx hc HGA HA16 HA18
               refine Stp.go ?_))
          constructor
          go_wp2_with (
            first
            | (refine wpNew row45 (Rc.recC Rc.zrec) (recC_len (r := Rc.zrec) (Rc.zs_byts 96)) (fun w => Rc.zero25 w) 20 (by rfl) (by rfl) (by rfl) (.tmp 77) (by rfl) (by rfl) (by rfl) (Rc.recC x) (recC_len (unhide HXB)) (recC_one x) (by kernel_rfl) (by kernel_rfl) ?_
               intro V18 q20 eq Bq Kq
               replace HO := hide (OwnO.kept (unhide HO) Kq (by simp))
               replace H4 := hide ((unhide H4).kept Kq (by simp))
               replace H11 := hide ((unhide H11).kept Kq (by simp))
               replace HW := hide ((unhide HW).trans Kq)
               replace HRV := hide ((unhide HRV).kept Kq (by simp) (by simp) (by simp))
               have H20 := hide Bq
               have c0 := fits_cell Bq 0 (.int .i64 x.nd) rfl
               have c1 := fits_cell Bq 1 (.int .i64 x.ep) rfl
               have c2 := fits_cell Bq 2 (.int .i64 x.ls) rfl
               have c3 := fits_cell Bq 3 (.int .i64 x.pg) rfl
               have c41 := fits_cell (unhide H4) 1 (.int .i64 J.p) rfl
               clear eq Bq Kq
               refine Stp.go ?_))
          constructor
          go_upto_region 13 with fail
          go_cut [105] from 41 to 114 (fun t wc => t = .bool (stopB J.p nd (st + (i : Int)) e9 c x) ∧ Hid (wc = V18))
          case first =>
            as_aux_lemma =>
              by_cases g1 : c = 0
              · have g1a : (c == 0) = true := by simpa using g1
                have g1b : (c != 0) = false := by simpa using g1
                have g1c : decide (c = 0) = true := by simpa using g1
                have Hg1 := hide g1
                clear g1
                by_cases g2 : x.nd = nd
                · have g2a : (x.nd == nd) = true := by simpa using g2
                  have g2b : (x.nd != nd) = false := by simpa using g2
                  have g2c : decide (x.nd = nd) = true := by simpa using g2
                  have Hg2 := hide g2
                  clear g2
                  by_cases g3 : x.ls = st + (i : Int)
                  · have g3a : (x.ls == st + (i : Int)) = true := by simpa using g3
                    have g3b : (x.ls != st + (i : Int)) = false := by simpa using g3
                    have g3c : decide (x.ls = st + (i : Int)) = true := by simpa using g3
                    have Hg3 := hide g3
                    clear g3
                    by_cases g4 : x.ep < e9
                    · have g4b : decide (x.ep < e9) = true := by simpa using g4
                      have Hg4 := hide g4
                      clear g4
                      go_wp2_with fail
                      go_meet
                      case rel => exact ⟨congrArg Value.bool (by unfold stopB; simp [unhide Hg4]), (rfl : V18 = V18)⟩
                    · have g4b : decide (x.ep < e9) = false := by simpa using g4
                      have Hg4 := hide g4
                      clear g4
                      by_cases g5 : J.p ≤ x.pg
                      · have g5b : decide (J.p ≤ x.pg) = true := by simpa using g5
                        have Hg5 := hide g5
                        clear g5
                        go_wp2_with fail
                        go_meet
                        case rel => exact ⟨congrArg Value.bool (by unfold stopB; simp [unhide Hg5]), (rfl : V18 = V18)⟩
                      · have g5b : decide (J.p ≤ x.pg) = false := by simpa using g5
                        have Hg5 := hide g5
                        clear g5
                        go_wp2_with fail
                        go_meet
                        case rel => exact ⟨congrArg Value.bool (by unfold stopB; simp [unhide Hg1, unhide Hg2, unhide Hg3, unhide Hg4, unhide Hg5]), (rfl : V18 = V18)⟩
                  · have g3a : (x.ls == st + (i : Int)) = false := by simpa using g3
                    have g3b : (x.ls != st + (i : Int)) = true := by simpa using g3
                    have g3c : decide (x.ls = st + (i : Int)) = false := by simpa using g3
                    have Hg3 := hide g3
                    clear g3
                    go_wp2_with fail
                    go_meet
                    case rel => exact ⟨congrArg Value.bool (by unfold stopB; simp [unhide Hg3]), (rfl : V18 = V18)⟩
                · have g2a : (x.nd == nd) = false := by simpa using g2
                  have g2b : (x.nd != nd) = true := by simpa using g2
                  have g2c : decide (x.nd = nd) = false := by simpa using g2
                  have Hg2 := hide g2
                  clear g2
                  go_wp2_with fail
                  go_meet
                  case rel => exact ⟨congrArg Value.bool (by unfold stopB; simp [unhide Hg2]), (rfl : V18 = V18)⟩
              · have g1a : (c == 0) = false := by simpa using g1
                have g1b : (c != 0) = true := by simpa using g1
                have g1c : decide (c = 0) = false := by simpa using g1
                have Hg1 := hide g1
                clear g1
                go_wp2_with fail
                go_meet
                case rel => exact ⟨congrArg Value.bool (by unfold stopB; simp [unhide Hg1]), (rfl : V18 = V18)⟩
          case rest =>
            obtain ⟨rfl, hwc⟩ := hcut
            replace hwc := unhide hwc
            subst hwc
            clear c0 c2 c3 c41
            have c110 := fits_cell (unhide H11) 0 (.int .i64 st) rfl
            obtain ⟨b, hb⟩ : ∃ b, stopB J.p nd (st + (i : Int)) e9 c x = b := ⟨_, rfl⟩
            rw [hb]
            rw [← unhide HXE, ← unhide HCE] at hb
            cases b with
            | true =>
              have HEND := hide ((unhide HRL).stop hi hb)
              clear hb
              go_wp2_with fail
              refine bodyPost_ret (results_tmp3 rfl _ _) rfl ?_
              refine ⟨_, rfl, ?_, unhide HOB, unhide HW⟩
              rw [unhide HEND, unhide HPL]
              exact unhide HO
            | false =>
              have HNX := hide ((unhide HRL).next hi hb)
              clear hb c110
              go_wp2_with (
                first
                | (refine wpLoadA row45 (by rfl) (.tmp 20) (by rfl) q20 0 (by kernel_rfl) (Rc.recC x) (recC_len (unhide HXB)) (unhide H20).range ?_
                   clear c1
                   refine Stp.go ?_))
              constructor
              go_wp2_with (
                first
                | (refine wpBsR (by rfl) (.tmp 112) (by rfl) (Rc.recC x) (recC_len (unhide HXB)) (by kernel_rfl) ?_
                   intro V21 g21 e21 B21 K21
                   have HB21 := hide B21
                   replace HO := hide (OwnO.kept (unhide HO) K21 (by simp))
                   replace H4 := hide ((unhide H4).kept K21 (by simp))
                   replace H11 := hide ((unhide H11).kept K21 (by simp))
                   replace HW := hide ((unhide HW).trans K21)
                   replace HRV := hide ((unhide HRV).kept K21 (by simp) (by simp) (by simp))
                   clear e21 B21 K21
                   refine Stp.go ?_))
              constructor
              go_wp2_with (
                first
                | (at_builtin; refine wpAppO (by rfl) (.tmp 111) (.tmp 113) (by rfl) (.slice uo i uc) i (cellsR pre) (by kernel_rfl) (unhide HO) g21 (Rc.recC x) (by kernel_rfl) (unhide HB21) (recC_len (unhide HXB)) (recC_one x) (by have := unhide HL2; omega) ?_
                   intro v22 V22 hO22 hk22 hv22
                   have HO2 := hide hO22
                   have HO2b : Hid (∀ k, v22.ownBlock = some k → w.heap.size ≤ k) := fun k e => by
                     rcases hv22 k e with h9 | h9
                     · exact unhide HOB k h9
                     · have := (unhide HW).size; omega
                   have hno : ∀ b T cs, T ≠ 45 → V21.heap[b]? = some (.cells cs T (0, 0)) → b ∉ (Value.slice uo i uc).ownBlock.toList := fun b T cs hT he hmm => by
                     obtain ⟨cs', hc'⟩ := (unhide HO).block b (by simpa using hmm)
                     rw [he] at hc'
                     injection hc' with hc'
                     injection hc' with _ hc'
                     exact hT hc'
                   replace H4 := hide ((unhide H4).kept hk22 (hno _ 23 _ (by decide) (unhide H4)))
                   replace H11 := hide ((unhide H11).kept hk22 (hno _ 91 _ (by decide) (unhide H11)))
                   replace HRV : Hid (Dv.Rv V22 r sg eg D) := by
                     obtain ⟨cap, ecap, ex, a1, ⟨ex', a2, a3⟩, a4, a5⟩ := (unhide HRV).lay
                     exact (unhide HRV).kept hk22 (hno _ 101 _ (by decide) a1) (hno _ 80 _ (by decide) a2) (hno _ 2 _ (by decide) a4)
                   replace HW := hide ((unhide HW).fresh hk22 (fun b hb hl => by have := unhide HOB b (by simpa using hb); omega))
                   clear hO22 hk22 hv22 hno
                   refine Stp.go ?_))
              constructor
              go_wp2_with fail
              go_roundw
              case rel =>
                refine ⟨i + 1, x.ep, by omega, rfl, by go_num, pre ++ [x], ?_, unhide HO2b, ?_, unhide HW, unhide HRV, unhide H4, unhide H11⟩
                · rw [List.length_append, unhide HPL, cellsR_app]
                  exact unhide HO2
                · have h9 := unhide HNX
                  rw [unhide HXE] at h9
                  exact h9
              case measure => simp [intOf]; omega
      · have HEND := hide ((unhide HRL).done hi)
        as_aux_lemma =>
          have c110b := c110
          have d1 : ¬ (st + (i : Int) < st + J.l ∧ st + (i : Int) < 2147483647) := by omega
          by_cases hq1 : st + (i : Int) < st + J.l
          · have hq2 : ¬ st + (i : Int) < 2147483647 := by omega
            clear d1 c110b
            go_wp2_with fail
            refine bodyPost_ret (results_tmp3 rfl _ _) rfl ?_
            refine ⟨_, rfl, ?_, unhide HOB, unhide HW⟩
            rw [unhide HEND, unhide HPL]
            exact unhide HO
          · clear d1 c110b
            go_wp2_with fail
            refine bodyPost_ret (results_tmp3 rfl _ _) rfl ?_
            refine ⟨_, rfl, ?_, unhide HOB, unhide HW⟩
            rw [unhide HEND, unhide HPL]
            exact unhide HO
  · have hlk : lookR D J nd true = (0, [], 12) := by
      have hh : (J.head nd).2 = 0 := by
        unfold Ar.Job.head
        have := unhide HN
        rw [unhide HM, if_pos (by simp [Ar.below]; omega)]
      have hl9 := unhide HLen
      have h12 : tc = 12 := by
        rcases take_code (D.read q).1 with h9 | h9
        · rw [unhide HTC] at h9; exact absurd h9 ht
        · rw [unhide HTC] at h9; exact h9
      unfold lookR
      rw [if_neg (by simp [hh]; omega), unhide HQ, unhide HTC, if_pos ht, h12]
    rw [unhide HLK0] at hlk
    injection hlk with e1 e2
    injection e2 with e2 e3
    replace e1 := e1.symm
    replace e2 := e2.symm
    replace e3 := e3.symm
    subst e1 e2 e3
    have d1 : (tc == 0) = false := by simpa using ht
    have d2 : (tc != 0) = true := by simpa using ht
    have d3 : decide (tc = 0) = false := by simpa using ht
    clear ht HLK0
    go_wp2_with fail
    refine bodyPost_ret (results_tmp3 rfl _ _) rfl ?_
    exact ⟨_, rfl, OwnO.nil _, (fun k e => by cases e), unhide HW⟩

end Go.Proofs.YtmeajhdhiebkdaaDoor

/-
  What RedoAny leans on.
-/
namespace Go.Proofs.YtmeajhdhiebkdaaDoor
set_option maxRecDepth 100000
open Go.RowKit

theorem u8_zs (n : Nat) : Array.replicate n (Value.int .u8 0) = (u8s (Rc.zs n)).toArray := by
  unfold u8s Rc.zs
  simp
theorem Tryd.zero5 : (Tryd.prog.info? 5).map (fun i => (i.zero, i.size, i.bytes)) = some (some (.int .u8 0), 1, 1) := by kernel_rfl
theorem made_z5 (n : Nat) : madeCells #[Value.int .u8 0] n = Array.replicate n (Value.int .u8 0) := by
  have := Dv.made_same 1 (Value.int .u8 0) n (by decide)
  simpa using this
theorem run_makeB (w : World) (n : Nat) (hn : n ≤ 2199023255552) : Sem.run Tryd.prog (Instr.makeSlice 54 (.int .i64 n) (.int .i64 n)) w = .ok (.slice (some ⟨w.heap.size, 0, none⟩) n n) (w.alloc (.cells (u8s (Rc.zs n)).toArray 5)) := by
  obtain ⟨i0, hi, hz0, hz1, hz2⟩ := info_parts Tryd.zero5
  have hr := run_make (P := Tryd.prog) w 54 5 i0 (.int .u8 0) Tryd.underlying54 hi hz0 .i64 .i64 n n (by omega) (by omega) (by rw [hz2]; omega) (by omega)
  have hc : (Value.int .u8 0).cells = #[Value.int .u8 0] := rfl
  rw [hz1, Int.toNat_natCast, hc, Nat.mul_one, made_z5, u8_zs] at hr
  exact hr
section
variable {ops : Array Oper} {rest : List Oper} {op : Oper} {a : Act} {w : World} {Q : Exit → Act → World → Prop}
theorem wpMakeB (hgd : op.guard = none) (x : Operand) (ho : op.op = .makeSlice 54 x x) (n : Nat) (hn : n ≤ 2199023255552) (hx : a.eval x = .int .i64 n)
    (h : ∀ W g, g = w.heap.size → Blk W g 5 (u8s (Rc.zs n)) → Kept [] w W → wpList Tryd.prog ops Q rest (a.put op.dst (.slice (some ⟨g, 0, none⟩) n n)) W) : wpList Tryd.prog ops Q (op :: rest) a w :=
  wpList_plain hgd fun K hK => by
    unfold Oper.wp execOp
    simp only [ho, hx, Sem.run_bind, run_makeB w n hn, Result.andThen_ok]
    exact hK _ _ (h _ _ rfl (Blk.new w 5 _) ((Kept.refl _ _).alloc _))
/-- Bytes that came in, copied into a row of noughts. -/
theorem wpCopyB (hgd : op.guard = none) (d s : Operand) (ho : op.op = .call { callee := .builtin .copy, args := #[d, s], argTypes := #[54, 54] }) (g k nb bc : Nat) (bo : Option Addr) (B : List Int) (hd : a.eval d = .slice (some ⟨g, 0, none⟩) k k) (hs : a.eval s = .slice bo nb bc) (hV : Dv.Vals w bo nb bc (u8s B)) (hB : ∀ x ∈ B, 0 ≤ x ∧ x < 256) (hG : Blk w g 5 (u8s (Rc.zs k)))
    (h : ∀ W v l, l.length = k → (∀ x ∈ l, 0 ≤ x ∧ x < 256) → Blk W g 5 (u8s l) → Kept [g] w W → wpList Tryd.prog ops Q rest (a.put op.dst v) W) : wpList Tryd.prog ops Q (op :: rest) a w :=
  wpList_plain hgd fun K hK => by
    have hlen : B.length = nb := by have := hV.len; rw [u8s_len] at this; exact this
    have hzs : ∀ x ∈ Rc.zs k, 0 ≤ x ∧ x < 256 := (Rc.zs_byts k).byte
    by_cases hn : Nat.min nb k = 0
    · have hrun := run_copy_none (P := Tryd.prog) w 54 54 op.type 5 (some ⟨g, 0, none⟩) bo k k nb bc Tryd.underlying54 (by kernel_rfl) hn
      unfold Oper.wp
      simp [execOp, ho, resolve, invoke, builtin, hd, hs, hrun, Result.andThen]
      exact hK _ _ (h _ _ (Rc.zs k) (Rc.zs_byts k).len hzs hG (Kept.refl _ _))
    · have hmin : Nat.min nb k = min nb k := rfl
      rw [hmin] at hn
      obtain ⟨hb, off, rfl, hr⟩ := hV.lies (by intro e; have h9 := congrArg List.length e; rw [u8s_len, List.length_nil] at h9; omega)
      refine Dv.wp_copyC d s 54 54 ho 5 Tryd.underlying54 (by kernel_rfl) g 0 k k ⟨hb, off, none⟩ nb bc hd hs ((u8s B).take (min nb k)) (by rw [List.length_take, u8s_len, hlen]; show _ = min nb k; omega) (fun j v hj => ?_) ?_ (fun v hv => u8s_one _ v (List.mem_of_mem_take hv)) ?_
      · have hj2 : (u8s B)[j]? = some v := by
          rw [List.getElem?_take] at hj
          split at hj
          · exact hj
          · cases hj
        rw [Addr.add_lit]
        exact hr j v hj2
      · rw [List.length_take, u8s_len, hlen, Nat.min_eq_left (Nat.min_le_left _ _)]
        exact hG.there (by rw [u8s_len, (Rc.zs_byts k).len]; omega)
      · have e1 : u8s (Rc.zs k) = [] ++ u8s (Rc.zs (min nb k)) ++ u8s (Rc.zs (k - min nb k)) := by
          rw [List.nil_append]
          unfold u8s Rc.zs
          rw [← List.map_append, List.replicate_append_replicate, show min nb k + (k - min nb k) = k by omega]
        rw [e1] at hG
        have hP := hG.part (vs := (u8s B).take (min nb k)) rfl (by rw [u8s_len, (Rc.zs_byts _).len, List.length_take, u8s_len, hlen]; omega)
        have e2 : [] ++ (u8s B).take (min nb k) ++ u8s (Rc.zs (k - min nb k)) = u8s (B.take (min nb k) ++ Rc.zs (k - min nb k)) := by
          unfold u8s
          simp
        rw [e2] at hP
        refine hK _ _ (h _ _ _ ?_ ?_ hP ((Kept.refl _ _).setCells _ _ (by simp)))
        · rw [List.length_append, List.length_take, (Rc.zs_byts _).len, hlen]
          omega
        · intro x hx
          rcases List.mem_append.1 hx with h9 | h9
          · exact hB x (List.mem_of_mem_take h9)
          · exact (Rc.zs_byts _).byte x h9
theorem bs56 (w : World) : (Instr.buildSlice 56 1 #[(0, .int .i64 1)]).run Tryd.prog w = .ok (.slice (some ⟨w.heap.size, 0, none⟩) 1 1) (w.alloc (.cells [Value.int .i64 1].toArray 2)) := by kernel_rfl
theorem wpBs56 (hgd : op.guard = none) (ho : op.op = .buildSlice 56 1 #[(0, .const (.int .i64 1))])
    (h : ∀ W g, g = w.heap.size → Blk W g 2 [.int .i64 1] → Kept [] w W → wpList Tryd.prog ops Q rest (a.put op.dst (.slice (some ⟨g, 0, none⟩) 1 1)) W) : wpList Tryd.prog ops Q (op :: rest) a w :=
  wpList_plain hgd fun K hK => by
    have hc : a.eval (.const (.int .i64 1)) = .int .i64 1 := rfl
    unfold Oper.wp execOp
    simp only [ho, List.map_toArray, List.map_cons, List.map_nil, hc, Sem.run_bind, bs56, Result.andThen_ok]
    exact hK _ _ (h _ _ rfl (Blk.new w 2 _) ((Kept.refl _ _).alloc _))
theorem Tryd.sl56 : Tryd.prog.underlying 56 = some (.slice 2) := by kernel_rfl
theorem wpAppE (hgd : op.guard = none) (s x : Operand) (ho : op.op = .call { callee := .builtin .append, args := #[s, x], argTypes := #[56, 56] }) (base : Nat) (v : Value) (n : Nat) (xs : List Value) (hs : a.eval s = v) (hO : w.ownsRow base 2 1 v n xs) (p : Nat) (hx : a.eval x = .slice (some ⟨p, 0, none⟩) 1 1) (hB : Blk w p 2 [.int .i64 1]) (hn : n ≤ 1000) (hb : base ≤ w.heap.size)
    (h : ∀ v' w', w'.ownsRow base 2 1 v' (n + 1) (xs ++ [.int .i64 1]) → Kept v.ownBlock.toList w w' → wpList Tryd.prog ops Q rest (a.put op.dst v') w') : wpList Tryd.prog ops Q (op :: rest) a w :=
  wpList_plain hgd fun K hK => by
    obtain ⟨i, hi, hz0, hz1, hz2⟩ := info_parts Dv.Tryd.zero2
    obtain ⟨v', w', hr, g2, g3, _, _⟩ := run_append_own_at (P := Tryd.prog) w base 56 op.type 2 i _ 1 8 Tryd.sl56 hi hz0 hz1 hz2 rfl (by decide) v n xs hO ⟨p, 0, none⟩ 1 1 [.int .i64 1] rfl (fun j u hj => by rw [Addr.add_lit, Nat.zero_add, hB.cell]; exact hj) (fun u hu => by simp at hu; subst hu; rfl) (by unfold maxLen; omega) (by omega) hb
    unfold Oper.wp execOp
    simp only [ho, resolve, invoke, builtin, Sem.run_bind, Sem.run_pure, Result.andThen_ok, List.map_toArray, List.map_cons, List.map_nil, hs, hx, hr]
    exact hK _ _ (h v' w' g2 (Kept.of_grown g3 (fun k e _ => by rw [e]; simp)))
end
def ones (n : Nat) : List Int := List.replicate n 1
theorem ones_succ (n : Nat) : (ones n).map (Value.int .i64) ++ [.int .i64 1] = (ones (n + 1)).map (Value.int .i64) := by
  unfold ones
  rw [List.replicate_succ']
  simp
theorem own_vals {W : World} {base n : Nat} {v : Value} {xs : List Value} (h : W.ownsRow base 2 1 v n xs) : ∃ eo ec, v = .slice eo n ec ∧ Dv.Vals W eo n ec xs := by
  obtain ⟨h1, h2⟩ := h
  rw [Nat.mul_one] at h1
  rcases h2 with ⟨rfl, rfl⟩ | ⟨g, cap, cur, rfl, _, h3, h4, h5, h6, h7⟩
  · exact ⟨none, 0, rfl, h1, Nat.le_refl _, fun hne => absurd (List.length_eq_zero_iff.1 h1) hne⟩
  · refine ⟨some ⟨g, 0, none⟩, cap, rfl, h1, h4, fun _ => ⟨g, 0, rfl, fun j u hj => ?_⟩⟩
    rw [Nat.mul_one] at h7
    rw [← h7, List.getElem?_take] at hj
    split at hj
    · rw [Nat.zero_add, cell_of_block h3, ← Array.getElem?_toList]
      exact hj
    · cases hj
theorem of_ok {J : Ar.Job} (hm : J.may = true) (hs : 1 ≤ J.sectors.1 ∧ J.sectors.1 ≤ 4096) : Dv.ofB (J.sectors.1.toNat * 64) (ones J.n.toNat) = true := by
  simp only [Ar.Job.may, decide_eq_true_eq] at hm
  unfold Dv.ofB Dv.newB
  have e1 : (ones J.n.toNat).length = J.n.toNat := by simp [ones]
  rw [e1]
  have e2 : (ones J.n.toNat).all (fun e => decide (0 ≤ e ∧ e ≤ 2147483647)) = true := by
    rw [List.all_eq_true]
    intro x hx
    unfold ones at hx
    rw [List.eq_of_mem_replicate hx]
    decide
  rw [e2, decide_eq_true (by omega), decide_eq_true (by omega)]
  rfl
theorem of_len {J : Ar.Job} {l : List Int} (hs : 1 ≤ J.sectors.1) (hl : l.length = J.sectors.1.toNat * 64) (eps : List Int) : ((Dv.ofDev l eps).S.length : Int) = J.sectors.1 := by
  show ((Dv.chunks (l.length / 64) l).length : Int) = _
  rw [Dv.chunks_len, hl, Nat.mul_div_cancel _ (by omega)]
  omega

end Go.Proofs.YtmeajhdhiebkdaaDoor
