/-
  Read and Open.
-/
import Derived.Test.YtmeajhdhiebkdaaDoorLm
namespace Go.Proofs.YtmeajhdhiebkdaaDoor
set_option maxRecDepth 100000
open Go.RowKit

theorem cg31 (vs : Array Value) (w : World) : (callFunc 31 vs).run Tryd.prog w = .ok (.enter 31 vs) w := by kernel_rfl
set_option maxHeartbeats 2000000 in
theorem read20 (b g : Nat) (D : Dv.Dev) (J : Ar.Job) (nd : Int) (w : World) (hD : Dv.Dv w b g D) (hF : Rc.First w) : Calls Tryd.prog 20 #[P0 b, aggV (Ar.jobC J), .int .i64 nd] w fun e w' => ∃ u, e = .returned (.tuple #[.int .i64 (lookR D J nd true).1, u, .int .i64 (lookR D J nd true).2.2]) ∧ OwnO w' u (lookR D J nd true).2.1.length (cellsR (lookR D J nd true).2.1) ∧ (∀ k, u.ownBlock = some k → w.heap.size ≤ k) ∧ Kept [] w w' := by
  have HJL : Hid ((Ar.jobC J).length = 5) := rfl
  obtain ⟨st, hst⟩ : ∃ x, x = (lookR D J nd true).1 := ⟨_, rfl⟩
  obtain ⟨cc, hcc⟩ : ∃ x, x = (lookR D J nd true).2.2 := ⟨_, rfl⟩
  obtain ⟨n, hn⟩ : ∃ x, x = (lookR D J nd true).2.1.length := ⟨_, rfl⟩
  obtain ⟨xs, hxs⟩ : ∃ x, x = cellsR (lookR D J nd true).2.1 := ⟨_, rfl⟩
  rw [← hst, ← hcc, ← hn, ← hxs]
  have P31 : Hid (∀ W', Kept [] w W' → Calls Tryd.prog 31 #[P0 b, aggV (Ar.jobC J), .int .i64 nd, .bool true] W' fun e w' => ∃ u, e = .returned (.tuple #[.int .i64 st, u, .int .i64 cc]) ∧ OwnO w' u n xs ∧ (∀ k, u.ownBlock = some k → W'.heap.size ≤ k) ∧ Kept [] W' w') := by
    intro W' hk
    rw [hst, hcc, hn, hxs]
    exact look31 b g D J nd true W' (hD.kept hk (by simp) (by simp)) (hF.kept hk)
  clear hst hcc hn hxs hD hF
  go_enter Tryd.func20, Tryd.ntmps20
  go_wp2_with (
    first
    | (refine wpBoxV (by rfl) (.tmp 1) (by rfl) (Ar.jobC J) (by kernel_rfl) ?_
       intro W1 t4 e4 B4 K4
       have H4 := hide B4
       have HK := hide K4
       clear e4 B4 K4
       refine Stp.go ?_))
  constructor
  go_wp2_with (
    first
    | (refine wpLoadA row23 (by rfl) (.tmp 4) (by rfl) t4 0 (by kernel_rfl) (Ar.jobC J) (unhide HJL) (unhide H4).range ?_
       refine Stp.go ?_))
  constructor
  go_wp2_with (
    first
    | (go_at_call 31
       refine (unhide P31 _ (unhide HK)).mono ?_
       rintro e W2 ⟨u, rfl, hO, hf, K2⟩
       have HO := hide hO
       have HF2 : Hid (∀ k, u.ownBlock = some k → w.heap.size ≤ k) := fun k hk => Nat.le_trans (unhide HK).size (hf k hk)
       replace HK := hide ((unhide HK).trans K2)
       clear hO hf K2))
  refine bodyPost_ret (results_tmp3 rfl _ _) rfl ?_
  exact ⟨u, rfl, unhide HO, unhide HF2, unhide HK⟩
/-- What Open's region keeps. -/
@[reducible] def S11 (w V : World) (s c : Int) (n : Nat) (xs : List Value) (d : Nat → Bool) (vs : Nat → Value) (W : World) : Prop :=
  Kept [] V W ∧ ∃ u : Value, (d 5 = true → vs 5 = .tuple #[.int .i64 s, u, .int .i64 c] ∧ OwnO W u n xs ∧ ∀ k, u.ownBlock = some k → w.heap.size ≤ k) ∧ (d 6 = true → vs 6 = .tuple #[.int .i64 s, u, .int .i64 c]) ∧ (d 8 = true → vs 8 = u) ∧ (d 11 = true → vs 11 = u)
theorem S11.loc {w V : World} {s c : Int} {n : Nat} {xs : List Value} : ∀ d d' vs vs' W, (∀ i ∈ [5, 6, 8, 11], d i = d' i ∧ vs i = vs' i) → S11 w V s c n xs d vs W → S11 w V s c n xs d' vs' W := by
  intro d d' vs vs' W H h
  have e0 := H 5 (by simp)
  have e1 := H 6 (by simp)
  have e2 := H 8 (by simp)
  have e3 := H 11 (by simp)
  unfold S11 at h ⊢
  rw [← e0.1, ← e0.2, ← e1.1, ← e1.2, ← e2.1, ← e2.2, ← e3.1, ← e3.2]
  exact h
section
variable {o : Oper} {a : Act} {w : World} {K : Act → World → Prop} {Q : Exit → Act → World → Prop}
theorem o_ext3_0 (t : Operand) (ho : o.op = .extract t 0) (x y z : Value) (hx : a.eval t = .tuple #[x, y, z]) (h : K (a.put o.dst x) w) : o.wp Tryd.prog a w K Q := by
  unfold Oper.wp execOp
  simp only [ho, hx]
  simp [go_sem]
  exact h
theorem o_ext3_1 (t : Operand) (ho : o.op = .extract t 1) (x y z : Value) (hx : a.eval t = .tuple #[x, y, z]) (h : K (a.put o.dst y) w) : o.wp Tryd.prog a w K Q := by
  unfold Oper.wp execOp
  simp only [ho, hx]
  simp [go_sem]
  exact h
theorem o_ext3_2 (t : Operand) (ho : o.op = .extract t 2) (x y z : Value) (hx : a.eval t = .tuple #[x, y, z]) (h : K (a.put o.dst z) w) : o.wp Tryd.prog a w K Q := by
  unfold Oper.wp execOp
  simp only [ho, hx]
  simp [go_sem]
  exact h
end
def openL (J : Ar.Job) (nd ep st : Int) (R : List Rc.Rec) : Lo := ⟨J, nd, ep, st, R, R.length⟩
theorem build72 (w : World) (b : Nat) (J : Ar.Job) (nd ep st : Int) (ao : Option Addr) (n c : Nat) : (Instr.build 72 #[(0, P0 b), (1, aggV (Ar.jobC J)), (2, .int .i64 nd), (3, .int .i64 ep), (4, .int .i64 st), (5, .slice ao n c), (6, .int .i64 n)]).run Tryd.prog w = .ok (aggV [P0 b, .int .i64 J.n, .int .i64 J.p, .int .i64 J.f, .int .i64 J.l, .int .i64 J.t, .int .i64 nd, .int .i64 ep, .int .i64 st, .slice ao n c, .int .i64 n]) w := by kernel_rfl
theorem standF_len (P : Int) : ∀ (S : List Rc.Rec) (a : Rc.Rec), (standF P a S).length ≤ S.length ∧ ∀ r ∈ standF P a S, r ∈ S
  | [], _ => by simp [standF]
  | r :: S, a => by
    have ih := standF_len P S r
    unfold standF
    split
    · simp
    · refine ⟨by simp only [List.length_cons]; omega, fun q hq => ?_⟩
      rcases List.mem_cons.1 hq with rfl | hq
      · simp
      · simp [ih.2 q hq]
theorem look_ok {D : Dv.Dev} {J : Ar.Job} {nd : Int} {may : Bool} (hD : D.Ok) (h : (lookR D J nd may).2.2 = 0) : may = true ∧ J.may = true ∧ (0 ≤ nd ∧ nd < J.n) ∧ 1 ≤ (lookR D J nd may).1 ∧ (lookR D J nd may).1 + (lookR D J nd may).2.1.length ≤ 2147483647 ∧ ((lookR D J nd may).2.1.length : Int) ≤ J.l ∧ ∀ r ∈ (lookR D J nd may).2.1, Rc.Byts 96 r.bd := by
  unfold lookR at h ⊢
  split at h
  · simp at h
  · rename_i hbad
    rw [if_neg hbad]
    split at h
    · rename_i ht
      exact absurd h ht
    · rename_i ht
      rw [if_neg ht]
      simp only [not_or, Classical.not_not, Bool.not_eq_false] at hbad
      have hok := head_ok hbad.1
      have hst := take_st (Classical.not_not.1 ht)
      obtain ⟨st, e1⟩ : ∃ x, x = (Rc.takeR (D.read (J.head nd).1).1).1.1 := ⟨_, rfl⟩
      obtain ⟨ep, e2⟩ : ∃ x, x = (Rc.takeR (D.read (J.head nd).1).1).1.2 := ⟨_, rfl⟩
      simp only [← e1, ← e2] at hst ⊢
      have h1 := standF_len J.p (laidS D J nd st) (ahead0 nd ep st)
      have h2 : (laidS D J nd st).length ≤ laidN J st := laidF_len D J nd _ st
      have hl := hok.1
      simp only [Ar.Job.may, decide_eq_true_eq] at hl
      have h3 : (laidN J st : Int) = min (st + J.l) 2147483647 - st := by unfold laidN; omega
      refine ⟨hbad.2.1, hok.1, hok.2, hst.1, ?_, ?_, fun r hr => (laidF_ok hD J nd _ _ r (h1.2 r hr)).bd⟩
      · show st + ((standS D J nd st ep).length : Int) ≤ _
        unfold standS
        omega
      · unfold standS
        omega

end Go.Proofs.YtmeajhdhiebkdaaDoor
