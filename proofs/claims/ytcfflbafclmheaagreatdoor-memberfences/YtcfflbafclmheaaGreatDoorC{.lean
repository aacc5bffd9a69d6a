/-
  A step to both.
-/
import Derived.Test.YtcfflbafclmheaaGreatDoorCz

/-
  A step to both.
-/
namespace Go.Proofs.YtcfflbafclmheaaGreatDoor
set_option maxRecDepth 100000
set_option linter.unusedSimpArgs false
open Go.RowKit
open Le (Mm wpStoreM wpStoreM1)


theorem cg31 (vs : Array Value) (w : World) : (callFunc 31 vs).run Tryz.prog w = .ok (.enter 31 vs) w := by kernel_rfl
theorem cg40 (vs : Array Value) (w : World) : (callFunc 40 vs).run Tryz.prog w = .ok (.enter 40 vs) w := by kernel_rfl
section
variable {o : Oper} {a : Act} {w : World} {K : Act → World → Prop} {Q : Exit → Act → World → Prop}
theorem o_fldS1 (x : Operand) (ho : o.op = .fieldAddr 38 x 1) (b : Nat) (hx : a.eval x = P0 b) (h : K (a.put o.dst (.pointer (some ⟨b, 1, none⟩))) w) : o.wp Tryz.prog a w K Q := by
  unfold Oper.wp execOp
  simp only [ho, hx]
  simp [go_sem]
  exact h
theorem o_eql33 (x y : Operand) (ho : o.op = .binOp .eql 3 x y 3) (m n : Int) (r : Bool) (hr : decide (m = n) = r) (hx : a.eval x = .int .i64 m) (hy : a.eval y = .int .i64 n) (h : K (a.put o.dst (.bool r)) w) : o.wp Tryz.prog a w K Q := by
  subst hr
  unfold Oper.wp execOp
  simp only [ho, hx, hy]
  simp [go_sem]
  have e : (m == n) = decide (m = n) := by rw [Bool.eq_iff_iff]; simp
  rw [e]
  exact h
end
/-- Both lots of a Say, in any order. -/
@[reducible] def SB (V : World) (b g r sg eg : Nat) (D E : Dv.Dev) (d : Nat → Bool) (_ : Nat → Value) (W : World) : Prop :=
  Kept [b, g, r, sg, eg] V W ∧ P2 b g r sg eg (bif d 5 then E else D) (bif d 11 then E else D) W
theorem SB.loc {V : World} {b g r sg eg : Nat} {D E : Dv.Dev} : ∀ d d' vs vs' W, (∀ i ∈ [5, 11], d i = d' i ∧ vs i = vs' i) → SB V b g r sg eg D E d vs W → SB V b g r sg eg D E d' vs' W := by
  intro d d' vs vs' W H h
  have e0 := H 5 (by simp)
  have e1 := H 11 (by simp)
  unfold SB at h ⊢
  rw [← e0.1, ← e1.1]
  exact h
theorem P2.devA {b g r sg eg : Nat} {D E D' : Dv.Dev} {W W' : World} (h : P2 b g r sg eg D E W) (k : Kept [b, g] W W') (hd : Dv.Dv W' b g D') : P2 b g r sg eg D' E W' := ((Pz.init h).devA k hd).p2
theorem P2.devB {b g r sg eg : Nat} {D E D' : Dv.Dev} {W W' : World} (h : P2 b g r sg eg D E W) (k : Kept [r, sg, eg] W W') (hd : Dv.Rv W' r sg eg D') : P2 b g r sg eg D D' W' := ((Pz.init h).devB k (fun _ q => q) hd).p2
set_option maxHeartbeats 8000000 in
theorem does_1A (b g r sg eg : Nat) (D : Dv.Dev) (J : Ar.Job) (n e who be re : Int) (w : World) (h : P2 b g r sg eg D D w) (D2 : Dv.Dev) (u1 u2 : Int) (hep : ¬ e = -1) (PU : Hid (∀ W, Dv.Dv W b g D → Calls Tryz.prog 22 #[P0 b, .int .i64 n] W fun x w' => x = .returned (.tuple #[.int .i64 u1, .int .i64 u2]) ∧ Dv.Dv w' b g D2 ∧ Kept [b, g] W w')) (PR : Hid (∀ W, Dv.Rv W r sg eg D → Calls Tryz.prog 23 #[P0 r, .int .i64 n] W fun x w' => x = .returned (.tuple #[.int .i64 u1, .int .i64 u2]) ∧ Dv.Rv w' r sg eg D2 ∧ Kept [r, eg] W w')) : Calls Tryz.prog 12 #[P0 b, P0 r, aggV (Ar.jobC J), aggV (S6.mk 1 n e who be re).C] w fun x w' => x = .returned (.bool true) ∧ P2 b g r sg eg D2 D2 w' ∧ Kept [b, g, r, sg, eg] w w' := by
  have M : Hid (Pz b g r sg eg D D w w []) := hide (Pz.init h)
  clear h
  go_enter Tryz.func12, Tryz.ntmps12
  go_wp2_with (
    first
    | (refine wpBoxV rfl (.tmp 2) rfl (Ar.jobC J) rfl ?_
       intro W1 b1 e1 B1 K1
       replace M : Hid (Pz b g r sg eg D D w W1 [(b1, 23, Ar.jobC J)]) := hide ((unhide M).new e1 B1 K1)
       clear e1 B1 K1
       refine Stp.go ?_))
  constructor
  go_wp2_with (
    first
    | (refine wpBoxV rfl (.tmp 3) rfl ((S6.mk 1 n e who be re).C) rfl ?_
       intro W2 b2 e2 B2 K2
       replace M : Hid (Pz b g r sg eg D D w W2 [(b1, 23, Ar.jobC J), (b2, 38, (S6.mk 1 n e who be re).C)]) := hide ((unhide M).new e2 B2 K2)
       clear e2 B2 K2
       have k0 := fits_cell ((unhide M).at 1 _ rfl) 0 _ rfl
       have k1 := fits_cell ((unhide M).at 1 _ rfl) 1 _ rfl
       have k2 := fits_cell ((unhide M).at 1 _ rfl) 2 _ rfl
       refine Stp.go ?_))
  constructor
  go_wp2_with (
    first
    | (go_at_call 22
       refine (unhide PU _ (unhide M).dv).mono ?_
       rintro e W3 ⟨rfl, R3, K3⟩
       replace M : Hid (Pz b g r sg eg D2 D w W3 [(b1, 23, Ar.jobC J), (b2, 38, (S6.mk 1 n e who be re).C)]) := hide ((unhide M).devA K3 R3)
       clear K3 R3
       clear k1
       have k1 := fits_cell ((unhide M).at 1 _ rfl) 1 _ rfl
       refine Stp.go ?_))
  constructor
  go_wp2_with (
    first
    | (go_at_call 23
       refine (unhide PR _ (unhide M).rv).mono ?_
       rintro e W4 ⟨rfl, R4, K4⟩
       replace M : Hid (Pz b g r sg eg D2 D2 w W4 [(b1, 23, Ar.jobC J), (b2, 38, (S6.mk 1 n e who be re).C)]) := hide ((unhide M).devB K4 (by simp) R4)
       clear K4 R4
       refine Stp.go ?_))
  constructor
  go_wp2_with fail
  go_ret
  exact ⟨rfl, (unhide M).p2, (unhide M).kept⟩
set_option maxHeartbeats 8000000 in
theorem does_1B (b g r sg eg : Nat) (D : Dv.Dev) (J : Ar.Job) (n e who be re : Int) (w : World) (h : P2 b g r sg eg D D w) (D2 : Dv.Dev) (u1 u2 : Int) (e2 : Int) (PE : Hid (∀ W, Dv.Rv W r sg eg D → Calls Tryz.prog 37 #[P0 r, .int .i64 n] W fun x w' => x = .returned (.tuple #[.int .i64 e, .int .i64 e2]) ∧ w' = W)) (PU : Hid (∀ W, Dv.Dv W b g D → Calls Tryz.prog 22 #[P0 b, .int .i64 n] W fun x w' => x = .returned (.tuple #[.int .i64 u1, .int .i64 u2]) ∧ Dv.Dv w' b g D2 ∧ Kept [b, g] W w')) (PR : Hid (∀ W, Dv.Rv W r sg eg D → Calls Tryz.prog 23 #[P0 r, .int .i64 n] W fun x w' => x = .returned (.tuple #[.int .i64 u1, .int .i64 u2]) ∧ Dv.Rv w' r sg eg D2 ∧ Kept [r, eg] W w')) : Calls Tryz.prog 12 #[P0 b, P0 r, aggV (Ar.jobC J), aggV (S6.mk 1 n (-1) who be re).C] w fun x w' => x = .returned (.bool true) ∧ P2 b g r sg eg D2 D2 w' ∧ Kept [b, g, r, sg, eg] w w' := by
  have M : Hid (Pz b g r sg eg D D w w []) := hide (Pz.init h)
  clear h
  go_enter Tryz.func12, Tryz.ntmps12
  go_wp2_with (
    first
    | (refine wpBoxV rfl (.tmp 2) rfl (Ar.jobC J) rfl ?_
       intro W1 b1 e1 B1 K1
       replace M : Hid (Pz b g r sg eg D D w W1 [(b1, 23, Ar.jobC J)]) := hide ((unhide M).new e1 B1 K1)
       clear e1 B1 K1
       refine Stp.go ?_))
  constructor
  go_wp2_with (
    first
    | (refine wpBoxV rfl (.tmp 3) rfl ((S6.mk 1 n (-1) who be re).C) rfl ?_
       intro W2 b2 e2 B2 K2
       replace M : Hid (Pz b g r sg eg D D w W2 [(b1, 23, Ar.jobC J), (b2, 38, (S6.mk 1 n (-1) who be re).C)]) := hide ((unhide M).new e2 B2 K2)
       clear e2 B2 K2
       have k0 := fits_cell ((unhide M).at 1 _ rfl) 0 _ rfl
       have k1 := fits_cell ((unhide M).at 1 _ rfl) 1 _ rfl
       have k2 := fits_cell ((unhide M).at 1 _ rfl) 2 _ rfl
       refine Stp.go ?_))
  constructor
  go_wp2_with (
    first
    | (go_at_call 37
       refine (unhide PE _ (unhide M).rv).mono ?_
       rintro e W3 ⟨rfl, q3⟩
       replace q3 := q3.symm
       subst q3
       refine Stp.go ?_))
  constructor
  go_wp2_with (
    first
    | (go_at_call 22
       refine (unhide PU _ (unhide M).dv).mono ?_
       rintro e W4 ⟨rfl, R4, K4⟩
       replace M : Hid (Pz b g r sg eg D2 D w W4 [(b1, 23, Ar.jobC J), (b2, 38, (S6.mk 1 n (-1) who be re).C)]) := hide ((unhide M).devA K4 R4)
       clear K4 R4
       clear k1
       have k1 := fits_cell ((unhide M).at 1 _ rfl) 1 _ rfl
       refine Stp.go ?_))
  constructor
  go_wp2_with (
    first
    | (go_at_call 23
       refine (unhide PR _ (unhide M).rv).mono ?_
       rintro e W5 ⟨rfl, R5, K5⟩
       replace M : Hid (Pz b g r sg eg D2 D2 w W5 [(b1, 23, Ar.jobC J), (b2, 38, (S6.mk 1 n (-1) who be re).C)]) := hide ((unhide M).devB K5 (by simp) R5)
       clear K5 R5
       refine Stp.go ?_))
  constructor
  go_wp2_with fail
  go_ret
  exact ⟨rfl, (unhide M).p2, (unhide M).kept⟩
set_option maxHeartbeats 8000000 in
theorem does_2A (b g r sg eg : Nat) (D : Dv.Dev) (J : Ar.Job) (n e who be re : Int) (w : World) (h : P2 b g r sg eg D D w) (D2 : Dv.Dev) (y : Vi.Vw) (yb : Bool) (ye : Int) (hep : ¬ e = -1) (HY8 : Hid (y.ms.length = 8)) (HYL : Hid ((Vi.vwC y).length = 19)) (PU : Hid (∀ W, P2 b g r sg eg D D W → Calls Tryz.prog 32 #[P0 b, aggV (Ar.jobC J), .int .i64 n, .int .i64 e] W fun x w' => x = .returned (.tuple #[aggV (Vi.vwC y), .bool yb, .int .i64 ye]) ∧ Kept [b, g] W w' ∧ Dv.Dv w' b g D2)) (PR : Hid (∀ W, Dv.Rv W r sg eg D → Calls Tryz.prog 38 #[P0 r, aggV (Ar.jobC J), .int .i64 n, .int .i64 e] W fun x w' => x = .returned (.tuple #[aggV (Vi.vwC y), .bool yb, .int .i64 ye]) ∧ Dv.Rv w' r sg eg D2 ∧ Kept [r, sg, eg] W w')) : Calls Tryz.prog 12 #[P0 b, P0 r, aggV (Ar.jobC J), aggV (S6.mk 2 n e who be re).C] w fun x w' => x = .returned (.bool true) ∧ P2 b g r sg eg D2 D2 w' ∧ Kept [b, g, r, sg, eg] w w' := by
  have M : Hid (Pz b g r sg eg D D w w []) := hide (Pz.init h)
  clear h
  go_enter Tryz.func12, Tryz.ntmps12
  go_wp2_with (
    first
    | (refine wpBoxV rfl (.tmp 2) rfl (Ar.jobC J) rfl ?_
       intro W1 b1 e1 B1 K1
       replace M : Hid (Pz b g r sg eg D D w W1 [(b1, 23, Ar.jobC J)]) := hide ((unhide M).new e1 B1 K1)
       clear e1 B1 K1
       refine Stp.go ?_))
  constructor
  go_wp2_with (
    first
    | (refine wpBoxV rfl (.tmp 3) rfl ((S6.mk 2 n e who be re).C) rfl ?_
       intro W2 b2 e2 B2 K2
       replace M : Hid (Pz b g r sg eg D D w W2 [(b1, 23, Ar.jobC J), (b2, 38, (S6.mk 2 n e who be re).C)]) := hide ((unhide M).new e2 B2 K2)
       clear e2 B2 K2
       have k0 := fits_cell ((unhide M).at 1 _ rfl) 0 _ rfl
       have k1 := fits_cell ((unhide M).at 1 _ rfl) 1 _ rfl
       have k2 := fits_cell ((unhide M).at 1 _ rfl) 2 _ rfl
       refine Stp.go ?_))
  constructor
  go_wp2_with (
    first
    | (refine wpLoadA jrow rfl (.tmp 6) rfl b1 0 rfl (Ar.jobC J) rfl ((unhide M).at 0 _ rfl).range ?_
       refine Stp.go ?_))
  constructor
  go_wp2_with (
    first
    | (go_at_call 32
       refine (unhide PU _ (unhide M).p2).mono ?_
       rintro e W3 ⟨rfl, K3, R3⟩
       replace M : Hid (Pz b g r sg eg D2 D w W3 [(b1, 23, Ar.jobC J), (b2, 38, (S6.mk 2 n e who be re).C)]) := hide ((unhide M).devA K3 R3)
       clear K3 R3
       clear k1
       refine Stp.go ?_))
  constructor
  go_wp2_with (
    first
    | (refine wpNew Vi.row26 (Vi.vwC Vi.zv) rfl Vi.zero26 14 rfl rfl rfl (.tmp 86) rfl rfl rfl (Vi.vwC y) (unhide HYL) (Vi.vwC_one _) (by kernel_rfl) (by kernel_rfl) ?_
       intro W4 b4 e4 B4 K4
       replace M : Hid (Pz b g r sg eg D2 D w W4 [(b1, 23, Ar.jobC J), (b2, 38, (S6.mk 2 n e who be re).C), (b4, 29, Vi.vwC y)]) := hide ((unhide M).new e4 B4 K4)
       clear e4 B4 K4
       have k1 := fits_cell ((unhide M).at 1 _ rfl) 1 _ rfl
       refine Stp.go ?_))
  constructor
  go_wp2_with (
    first
    | (refine wpLoadA jrow rfl (.tmp 6) rfl b1 0 rfl (Ar.jobC J) rfl ((unhide M).at 0 _ rfl).range ?_
       refine Stp.go ?_))
  constructor
  go_wp2_with (
    first
    | (go_at_call 38
       refine (unhide PR _ (unhide M).rv).mono ?_
       rintro e W5 ⟨rfl, R5, K5⟩
       replace M : Hid (Pz b g r sg eg D2 D2 w W5 [(b1, 23, Ar.jobC J), (b2, 38, (S6.mk 2 n e who be re).C), (b4, 29, Vi.vwC y)]) := hide ((unhide M).devB K5 (by simp) R5)
       clear K5 R5
       refine Stp.go ?_))
  constructor
  go_wp2_with (
    first
    | (refine wpNew Vi.row26 (Vi.vwC Vi.zv) rfl Vi.zero26 17 rfl rfl rfl (.tmp 96) rfl rfl rfl (Vi.vwC y) (unhide HYL) (Vi.vwC_one _) (by kernel_rfl) (by kernel_rfl) ?_
       intro W6 b6 e6 B6 K6
       replace M : Hid (Pz b g r sg eg D2 D2 w W6 [(b1, 23, Ar.jobC J), (b2, 38, (S6.mk 2 n e who be re).C), (b4, 29, Vi.vwC y), (b6, 29, Vi.vwC y)]) := hide ((unhide M).new e6 B6 K6)
       clear e6 B6 K6
       refine Stp.go ?_))
  constructor
  go_wp2_with (
    first
    | (refine wpLoadA Vi.row26 rfl (.tmp 14) rfl b4 0 rfl (Vi.vwC y) (unhide HYL) ((unhide M).at 2 _ rfl).range ?_
       refine Stp.go ?_))
  constructor
  go_wp2_with (
    first
    | (refine wpLoadA Vi.row26 rfl (.tmp 17) rfl b6 0 rfl (Vi.vwC y) (unhide HYL) ((unhide M).at 3 _ rfl).range ?_
       refine Stp.go ?_))
  constructor
  go_wp2_with (
    first
    | (refine wpEqlA 29 29 Vi.guard26 (.tmp 99) (.tmp 100) rfl rfl (Vi.vwC y) (Vi.vwC y) rfl rfl true ((Vi.equal26 _ y y (unhide HY8) (unhide HY8)).trans (by simp)) ?_
       refine Stp.go ?_))
  constructor
  go_wp2_with fail
  go_ret
  exact ⟨rfl, (unhide M).p2, (unhide M).kept⟩
set_option maxHeartbeats 8000000 in
theorem does_2B (b g r sg eg : Nat) (D : Dv.Dev) (J : Ar.Job) (n e who be re : Int) (w : World) (h : P2 b g r sg eg D D w) (D2 : Dv.Dev) (y : Vi.Vw) (yb : Bool) (ye : Int) (e2 : Int) (PE : Hid (∀ W, Dv.Rv W r sg eg D → Calls Tryz.prog 37 #[P0 r, .int .i64 n] W fun x w' => x = .returned (.tuple #[.int .i64 e, .int .i64 e2]) ∧ w' = W)) (HY8 : Hid (y.ms.length = 8)) (HYL : Hid ((Vi.vwC y).length = 19)) (PU : Hid (∀ W, P2 b g r sg eg D D W → Calls Tryz.prog 32 #[P0 b, aggV (Ar.jobC J), .int .i64 n, .int .i64 e] W fun x w' => x = .returned (.tuple #[aggV (Vi.vwC y), .bool yb, .int .i64 ye]) ∧ Kept [b, g] W w' ∧ Dv.Dv w' b g D2)) (PR : Hid (∀ W, Dv.Rv W r sg eg D → Calls Tryz.prog 38 #[P0 r, aggV (Ar.jobC J), .int .i64 n, .int .i64 e] W fun x w' => x = .returned (.tuple #[aggV (Vi.vwC y), .bool yb, .int .i64 ye]) ∧ Dv.Rv w' r sg eg D2 ∧ Kept [r, sg, eg] W w')) : Calls Tryz.prog 12 #[P0 b, P0 r, aggV (Ar.jobC J), aggV (S6.mk 2 n (-1) who be re).C] w fun x w' => x = .returned (.bool true) ∧ P2 b g r sg eg D2 D2 w' ∧ Kept [b, g, r, sg, eg] w w' := by
  have M : Hid (Pz b g r sg eg D D w w []) := hide (Pz.init h)
  clear h
  go_enter Tryz.func12, Tryz.ntmps12
  go_wp2_with (
    first
    | (refine wpBoxV rfl (.tmp 2) rfl (Ar.jobC J) rfl ?_
       intro W1 b1 e1 B1 K1
       replace M : Hid (Pz b g r sg eg D D w W1 [(b1, 23, Ar.jobC J)]) := hide ((unhide M).new e1 B1 K1)
       clear e1 B1 K1
       refine Stp.go ?_))
  constructor
  go_wp2_with (
    first
    | (refine wpBoxV rfl (.tmp 3) rfl ((S6.mk 2 n (-1) who be re).C) rfl ?_
       intro W2 b2 e2 B2 K2
       replace M : Hid (Pz b g r sg eg D D w W2 [(b1, 23, Ar.jobC J), (b2, 38, (S6.mk 2 n (-1) who be re).C)]) := hide ((unhide M).new e2 B2 K2)
       clear e2 B2 K2
       have k0 := fits_cell ((unhide M).at 1 _ rfl) 0 _ rfl
       have k1 := fits_cell ((unhide M).at 1 _ rfl) 1 _ rfl
       have k2 := fits_cell ((unhide M).at 1 _ rfl) 2 _ rfl
       refine Stp.go ?_))
  constructor
  go_wp2_with (
    first
    | (go_at_call 37
       refine (unhide PE _ (unhide M).rv).mono ?_
       rintro e W3 ⟨rfl, q3⟩
       replace q3 := q3.symm
       subst q3
       refine Stp.go ?_))
  constructor
  go_wp2_with (
    first
    | (refine wpLoadA jrow rfl (.tmp 6) rfl b1 0 rfl (Ar.jobC J) rfl ((unhide M).at 0 _ rfl).range ?_
       refine Stp.go ?_))
  constructor
  go_wp2_with (
    first
    | (go_at_call 32
       refine (unhide PU _ (unhide M).p2).mono ?_
       rintro e W4 ⟨rfl, K4, R4⟩
       replace M : Hid (Pz b g r sg eg D2 D w W4 [(b1, 23, Ar.jobC J), (b2, 38, (S6.mk 2 n (-1) who be re).C)]) := hide ((unhide M).devA K4 R4)
       clear K4 R4
       clear k1
       refine Stp.go ?_))
  constructor
  go_wp2_with (
    first
    | (refine wpNew Vi.row26 (Vi.vwC Vi.zv) rfl Vi.zero26 14 rfl rfl rfl (.tmp 86) rfl rfl rfl (Vi.vwC y) (unhide HYL) (Vi.vwC_one _) (by kernel_rfl) (by kernel_rfl) ?_
       intro W5 b5 e5 B5 K5
       replace M : Hid (Pz b g r sg eg D2 D w W5 [(b1, 23, Ar.jobC J), (b2, 38, (S6.mk 2 n (-1) who be re).C), (b5, 29, Vi.vwC y)]) := hide ((unhide M).new e5 B5 K5)
       clear e5 B5 K5
       have k1 := fits_cell ((unhide M).at 1 _ rfl) 1 _ rfl
       refine Stp.go ?_))
  constructor
  go_wp2_with (
    first
    | (refine wpLoadA jrow rfl (.tmp 6) rfl b1 0 rfl (Ar.jobC J) rfl ((unhide M).at 0 _ rfl).range ?_
       refine Stp.go ?_))
  constructor
  go_wp2_with (
    first
    | (go_at_call 38
       refine (unhide PR _ (unhide M).rv).mono ?_
       rintro e W6 ⟨rfl, R6, K6⟩
       replace M : Hid (Pz b g r sg eg D2 D2 w W6 [(b1, 23, Ar.jobC J), (b2, 38, (S6.mk 2 n (-1) who be re).C), (b5, 29, Vi.vwC y)]) := hide ((unhide M).devB K6 (by simp) R6)
       clear K6 R6
       refine Stp.go ?_))
  constructor
  go_wp2_with (
    first
    | (refine wpNew Vi.row26 (Vi.vwC Vi.zv) rfl Vi.zero26 17 rfl rfl rfl (.tmp 96) rfl rfl rfl (Vi.vwC y) (unhide HYL) (Vi.vwC_one _) (by kernel_rfl) (by kernel_rfl) ?_
       intro W7 b7 e7 B7 K7
       replace M : Hid (Pz b g r sg eg D2 D2 w W7 [(b1, 23, Ar.jobC J), (b2, 38, (S6.mk 2 n (-1) who be re).C), (b5, 29, Vi.vwC y), (b7, 29, Vi.vwC y)]) := hide ((unhide M).new e7 B7 K7)
       clear e7 B7 K7
       refine Stp.go ?_))
  constructor
  go_wp2_with (
    first
    | (refine wpLoadA Vi.row26 rfl (.tmp 14) rfl b5 0 rfl (Vi.vwC y) (unhide HYL) ((unhide M).at 2 _ rfl).range ?_
       refine Stp.go ?_))
  constructor
  go_wp2_with (
    first
    | (refine wpLoadA Vi.row26 rfl (.tmp 17) rfl b7 0 rfl (Vi.vwC y) (unhide HYL) ((unhide M).at 3 _ rfl).range ?_
       refine Stp.go ?_))
  constructor
  go_wp2_with (
    first
    | (refine wpEqlA 29 29 Vi.guard26 (.tmp 99) (.tmp 100) rfl rfl (Vi.vwC y) (Vi.vwC y) rfl rfl true ((Vi.equal26 _ y y (unhide HY8) (unhide HY8)).trans (by simp)) ?_
       refine Stp.go ?_))
  constructor
  go_wp2_with fail
  go_ret
  exact ⟨rfl, (unhide M).p2, (unhide M).kept⟩
set_option maxHeartbeats 8000000 in
theorem does_3A (b g r sg eg : Nat) (D : Dv.Dev) (J : Ar.Job) (n e who be re : Int) (w : World) (h : P2 b g r sg eg D D w) (D2 : Dv.Dev) (y : Vi.Vw) (yb : Bool) (ye : Int) (hep : ¬ e = -1) (HY8 : Hid (y.ms.length = 8)) (HYL : Hid ((Vi.vwC y).length = 19)) (PU : Hid (∀ W, P2 b g r sg eg D D W → Calls Tryz.prog 33 #[P0 b, aggV (Ar.jobC J), .int .i64 n, .int .i64 e, .int .i64 who] W fun x w' => x = .returned (.tuple #[aggV (Vi.vwC y), .bool yb, .int .i64 ye]) ∧ Kept [b, g] W w' ∧ Dv.Dv w' b g D2)) (PR : Hid (∀ W, Dv.Rv W r sg eg D → Calls Tryz.prog 39 #[P0 r, aggV (Ar.jobC J), .int .i64 n, .int .i64 e, .int .i64 who] W fun x w' => x = .returned (.tuple #[aggV (Vi.vwC y), .bool yb, .int .i64 ye]) ∧ Dv.Rv w' r sg eg D2 ∧ Kept [r, sg, eg] W w')) : Calls Tryz.prog 12 #[P0 b, P0 r, aggV (Ar.jobC J), aggV (S6.mk 3 n e who be re).C] w fun x w' => x = .returned (.bool true) ∧ P2 b g r sg eg D2 D2 w' ∧ Kept [b, g, r, sg, eg] w w' := by
  have M : Hid (Pz b g r sg eg D D w w []) := hide (Pz.init h)
  clear h
  go_enter Tryz.func12, Tryz.ntmps12
  go_wp2_with (
    first
    | (refine wpBoxV rfl (.tmp 2) rfl (Ar.jobC J) rfl ?_
       intro W1 b1 e1 B1 K1
       replace M : Hid (Pz b g r sg eg D D w W1 [(b1, 23, Ar.jobC J)]) := hide ((unhide M).new e1 B1 K1)
       clear e1 B1 K1
       refine Stp.go ?_))
  constructor
  go_wp2_with (
    first
    | (refine wpBoxV rfl (.tmp 3) rfl ((S6.mk 3 n e who be re).C) rfl ?_
       intro W2 b2 e2 B2 K2
       replace M : Hid (Pz b g r sg eg D D w W2 [(b1, 23, Ar.jobC J), (b2, 38, (S6.mk 3 n e who be re).C)]) := hide ((unhide M).new e2 B2 K2)
       clear e2 B2 K2
       have k0 := fits_cell ((unhide M).at 1 _ rfl) 0 _ rfl
       have k1 := fits_cell ((unhide M).at 1 _ rfl) 1 _ rfl
       have k2 := fits_cell ((unhide M).at 1 _ rfl) 2 _ rfl
       have k3 := fits_cell ((unhide M).at 1 _ rfl) 3 _ rfl
       refine Stp.go ?_))
  constructor
  go_wp2_with (
    first
    | (refine wpLoadA jrow rfl (.tmp 6) rfl b1 0 rfl (Ar.jobC J) rfl ((unhide M).at 0 _ rfl).range ?_
       refine Stp.go ?_))
  constructor
  go_wp2_with (
    first
    | (go_at_call 33
       refine (unhide PU _ (unhide M).p2).mono ?_
       rintro e W3 ⟨rfl, K3, R3⟩
       replace M : Hid (Pz b g r sg eg D2 D w W3 [(b1, 23, Ar.jobC J), (b2, 38, (S6.mk 3 n e who be re).C)]) := hide ((unhide M).devA K3 R3)
       clear K3 R3
       clear k1 k3
       refine Stp.go ?_))
  constructor
  go_wp2_with (
    first
    | (refine wpNew Vi.row26 (Vi.vwC Vi.zv) rfl Vi.zero26 20 rfl rfl rfl (.tmp 123) rfl rfl rfl (Vi.vwC y) (unhide HYL) (Vi.vwC_one _) (by kernel_rfl) (by kernel_rfl) ?_
       intro W4 b4 e4 B4 K4
       replace M : Hid (Pz b g r sg eg D2 D w W4 [(b1, 23, Ar.jobC J), (b2, 38, (S6.mk 3 n e who be re).C), (b4, 29, Vi.vwC y)]) := hide ((unhide M).new e4 B4 K4)
       clear e4 B4 K4
       have k1 := fits_cell ((unhide M).at 1 _ rfl) 1 _ rfl
       have k3 := fits_cell ((unhide M).at 1 _ rfl) 3 _ rfl
       refine Stp.go ?_))
  constructor
  go_wp2_with (
    first
    | (refine wpLoadA jrow rfl (.tmp 6) rfl b1 0 rfl (Ar.jobC J) rfl ((unhide M).at 0 _ rfl).range ?_
       refine Stp.go ?_))
  constructor
  go_wp2_with (
    first
    | (go_at_call 39
       refine (unhide PR _ (unhide M).rv).mono ?_
       rintro e W5 ⟨rfl, R5, K5⟩
       replace M : Hid (Pz b g r sg eg D2 D2 w W5 [(b1, 23, Ar.jobC J), (b2, 38, (S6.mk 3 n e who be re).C), (b4, 29, Vi.vwC y)]) := hide ((unhide M).devB K5 (by simp) R5)
       clear K5 R5
       refine Stp.go ?_))
  constructor
  go_wp2_with (
    first
    | (refine wpNew Vi.row26 (Vi.vwC Vi.zv) rfl Vi.zero26 23 rfl rfl rfl (.tmp 135) rfl rfl rfl (Vi.vwC y) (unhide HYL) (Vi.vwC_one _) (by kernel_rfl) (by kernel_rfl) ?_
       intro W6 b6 e6 B6 K6
       replace M : Hid (Pz b g r sg eg D2 D2 w W6 [(b1, 23, Ar.jobC J), (b2, 38, (S6.mk 3 n e who be re).C), (b4, 29, Vi.vwC y), (b6, 29, Vi.vwC y)]) := hide ((unhide M).new e6 B6 K6)
       clear e6 B6 K6
       refine Stp.go ?_))
  constructor
  go_wp2_with (
    first
    | (refine wpLoadA Vi.row26 rfl (.tmp 20) rfl b4 0 rfl (Vi.vwC y) (unhide HYL) ((unhide M).at 2 _ rfl).range ?_
       refine Stp.go ?_))
  constructor
  go_wp2_with (
    first
    | (refine wpLoadA Vi.row26 rfl (.tmp 23) rfl b6 0 rfl (Vi.vwC y) (unhide HYL) ((unhide M).at 3 _ rfl).range ?_
       refine Stp.go ?_))
  constructor
  go_wp2_with (
    first
    | (refine wpEqlA 29 29 Vi.guard26 (.tmp 138) (.tmp 139) rfl rfl (Vi.vwC y) (Vi.vwC y) rfl rfl true ((Vi.equal26 _ y y (unhide HY8) (unhide HY8)).trans (by simp)) ?_
       refine Stp.go ?_))
  constructor
  go_wp2_with fail
  go_ret
  exact ⟨rfl, (unhide M).p2, (unhide M).kept⟩
set_option maxHeartbeats 8000000 in
theorem does_3B (b g r sg eg : Nat) (D : Dv.Dev) (J : Ar.Job) (n e who be re : Int) (w : World) (h : P2 b g r sg eg D D w) (D2 : Dv.Dev) (y : Vi.Vw) (yb : Bool) (ye : Int) (e2 : Int) (PE : Hid (∀ W, Dv.Rv W r sg eg D → Calls Tryz.prog 37 #[P0 r, .int .i64 n] W fun x w' => x = .returned (.tuple #[.int .i64 e, .int .i64 e2]) ∧ w' = W)) (HY8 : Hid (y.ms.length = 8)) (HYL : Hid ((Vi.vwC y).length = 19)) (PU : Hid (∀ W, P2 b g r sg eg D D W → Calls Tryz.prog 33 #[P0 b, aggV (Ar.jobC J), .int .i64 n, .int .i64 e, .int .i64 who] W fun x w' => x = .returned (.tuple #[aggV (Vi.vwC y), .bool yb, .int .i64 ye]) ∧ Kept [b, g] W w' ∧ Dv.Dv w' b g D2)) (PR : Hid (∀ W, Dv.Rv W r sg eg D → Calls Tryz.prog 39 #[P0 r, aggV (Ar.jobC J), .int .i64 n, .int .i64 e, .int .i64 who] W fun x w' => x = .returned (.tuple #[aggV (Vi.vwC y), .bool yb, .int .i64 ye]) ∧ Dv.Rv w' r sg eg D2 ∧ Kept [r, sg, eg] W w')) : Calls Tryz.prog 12 #[P0 b, P0 r, aggV (Ar.jobC J), aggV (S6.mk 3 n (-1) who be re).C] w fun x w' => x = .returned (.bool true) ∧ P2 b g r sg eg D2 D2 w' ∧ Kept [b, g, r, sg, eg] w w' := by
  have M : Hid (Pz b g r sg eg D D w w []) := hide (Pz.init h)
  clear h
  go_enter Tryz.func12, Tryz.ntmps12
  go_wp2_with (
    first
    | (refine wpBoxV rfl (.tmp 2) rfl (Ar.jobC J) rfl ?_
       intro W1 b1 e1 B1 K1
       replace M : Hid (Pz b g r sg eg D D w W1 [(b1, 23, Ar.jobC J)]) := hide ((unhide M).new e1 B1 K1)
       clear e1 B1 K1
       refine Stp.go ?_))
  constructor
  go_wp2_with (
    first
    | (refine wpBoxV rfl (.tmp 3) rfl ((S6.mk 3 n (-1) who be re).C) rfl ?_
       intro W2 b2 e2 B2 K2
       replace M : Hid (Pz b g r sg eg D D w W2 [(b1, 23, Ar.jobC J), (b2, 38, (S6.mk 3 n (-1) who be re).C)]) := hide ((unhide M).new e2 B2 K2)
       clear e2 B2 K2
       have k0 := fits_cell ((unhide M).at 1 _ rfl) 0 _ rfl
       have k1 := fits_cell ((unhide M).at 1 _ rfl) 1 _ rfl
       have k2 := fits_cell ((unhide M).at 1 _ rfl) 2 _ rfl
       have k3 := fits_cell ((unhide M).at 1 _ rfl) 3 _ rfl
       refine Stp.go ?_))
  constructor
  go_wp2_with (
    first
    | (go_at_call 37
       refine (unhide PE _ (unhide M).rv).mono ?_
       rintro e W3 ⟨rfl, q3⟩
       replace q3 := q3.symm
       subst q3
       refine Stp.go ?_))
  constructor
  go_wp2_with (
    first
    | (refine wpLoadA jrow rfl (.tmp 6) rfl b1 0 rfl (Ar.jobC J) rfl ((unhide M).at 0 _ rfl).range ?_
       refine Stp.go ?_))
  constructor
  go_wp2_with (
    first
    | (go_at_call 33
       refine (unhide PU _ (unhide M).p2).mono ?_
       rintro e W4 ⟨rfl, K4, R4⟩
       replace M : Hid (Pz b g r sg eg D2 D w W4 [(b1, 23, Ar.jobC J), (b2, 38, (S6.mk 3 n (-1) who be re).C)]) := hide ((unhide M).devA K4 R4)
       clear K4 R4
       clear k1 k3
       refine Stp.go ?_))
  constructor
  go_wp2_with (
    first
    | (refine wpNew Vi.row26 (Vi.vwC Vi.zv) rfl Vi.zero26 20 rfl rfl rfl (.tmp 123) rfl rfl rfl (Vi.vwC y) (unhide HYL) (Vi.vwC_one _) (by kernel_rfl) (by kernel_rfl) ?_
       intro W5 b5 e5 B5 K5
       replace M : Hid (Pz b g r sg eg D2 D w W5 [(b1, 23, Ar.jobC J), (b2, 38, (S6.mk 3 n (-1) who be re).C), (b5, 29, Vi.vwC y)]) := hide ((unhide M).new e5 B5 K5)
       clear e5 B5 K5
       have k1 := fits_cell ((unhide M).at 1 _ rfl) 1 _ rfl
       have k3 := fits_cell ((unhide M).at 1 _ rfl) 3 _ rfl
       refine Stp.go ?_))
  constructor
  go_wp2_with (
    first
    | (refine wpLoadA jrow rfl (.tmp 6) rfl b1 0 rfl (Ar.jobC J) rfl ((unhide M).at 0 _ rfl).range ?_
       refine Stp.go ?_))
  constructor
  go_wp2_with (
    first
    | (go_at_call 39
       refine (unhide PR _ (unhide M).rv).mono ?_
       rintro e W6 ⟨rfl, R6, K6⟩
       replace M : Hid (Pz b g r sg eg D2 D2 w W6 [(b1, 23, Ar.jobC J), (b2, 38, (S6.mk 3 n (-1) who be re).C), (b5, 29, Vi.vwC y)]) := hide ((unhide M).devB K6 (by simp) R6)
       clear K6 R6
       refine Stp.go ?_))
  constructor
  go_wp2_with (
    first
    | (refine wpNew Vi.row26 (Vi.vwC Vi.zv) rfl Vi.zero26 23 rfl rfl rfl (.tmp 135) rfl rfl rfl (Vi.vwC y) (unhide HYL) (Vi.vwC_one _) (by kernel_rfl) (by kernel_rfl) ?_
       intro W7 b7 e7 B7 K7
       replace M : Hid (Pz b g r sg eg D2 D2 w W7 [(b1, 23, Ar.jobC J), (b2, 38, (S6.mk 3 n (-1) who be re).C), (b5, 29, Vi.vwC y), (b7, 29, Vi.vwC y)]) := hide ((unhide M).new e7 B7 K7)
       clear e7 B7 K7
       refine Stp.go ?_))
  constructor
  go_wp2_with (
    first
    | (refine wpLoadA Vi.row26 rfl (.tmp 20) rfl b5 0 rfl (Vi.vwC y) (unhide HYL) ((unhide M).at 2 _ rfl).range ?_
       refine Stp.go ?_))
  constructor
  go_wp2_with (
    first
    | (refine wpLoadA Vi.row26 rfl (.tmp 23) rfl b7 0 rfl (Vi.vwC y) (unhide HYL) ((unhide M).at 3 _ rfl).range ?_
       refine Stp.go ?_))
  constructor
  go_wp2_with (
    first
    | (refine wpEqlA 29 29 Vi.guard26 (.tmp 138) (.tmp 139) rfl rfl (Vi.vwC y) (Vi.vwC y) rfl rfl true ((Vi.equal26 _ y y (unhide HY8) (unhide HY8)).trans (by simp)) ?_
       refine Stp.go ?_))
  constructor
  go_wp2_with fail
  go_ret
  exact ⟨rfl, (unhide M).p2, (unhide M).kept⟩
set_option maxHeartbeats 8000000 in
theorem does_5A (b g r sg eg : Nat) (D : Dv.Dev) (J : Ar.Job) (n e who be re : Int) (w : World) (h : P2 b g r sg eg D D w) (D2 : Dv.Dev) (y : Vi.Vw) (yb : Bool) (ye : Int) (hep : ¬ e = -1) (HY8 : Hid (y.ms.length = 8)) (HYL : Hid ((Vi.vwC y).length = 19)) (PU : Hid (∀ W, P2 b g r sg eg D D W → Calls Tryz.prog 34 #[P0 b, aggV (Ar.jobC J), .int .i64 n, .int .i64 e] W fun x w' => x = .returned (.tuple #[aggV (Vi.vwC y), .bool yb, .int .i64 ye]) ∧ Kept [b, g] W w' ∧ Dv.Dv w' b g D2)) (PR : Hid (∀ W, Dv.Rv W r sg eg D → Calls Tryz.prog 41 #[P0 r, aggV (Ar.jobC J), .int .i64 n, .int .i64 e] W fun x w' => x = .returned (.tuple #[aggV (Vi.vwC y), .bool yb, .int .i64 ye]) ∧ Dv.Rv w' r sg eg D2 ∧ Kept [r, sg, eg] W w')) : Calls Tryz.prog 12 #[P0 b, P0 r, aggV (Ar.jobC J), aggV (S6.mk 5 n e who be re).C] w fun x w' => x = .returned (.bool true) ∧ P2 b g r sg eg D2 D2 w' ∧ Kept [b, g, r, sg, eg] w w' := by
  have M : Hid (Pz b g r sg eg D D w w []) := hide (Pz.init h)
  clear h
  go_enter Tryz.func12, Tryz.ntmps12
  go_wp2_with (
    first
    | (refine wpBoxV rfl (.tmp 2) rfl (Ar.jobC J) rfl ?_
       intro W1 b1 e1 B1 K1
       replace M : Hid (Pz b g r sg eg D D w W1 [(b1, 23, Ar.jobC J)]) := hide ((unhide M).new e1 B1 K1)
       clear e1 B1 K1
       refine Stp.go ?_))
  constructor
  go_wp2_with (
    first
    | (refine wpBoxV rfl (.tmp 3) rfl ((S6.mk 5 n e who be re).C) rfl ?_
       intro W2 b2 e2 B2 K2
       replace M : Hid (Pz b g r sg eg D D w W2 [(b1, 23, Ar.jobC J), (b2, 38, (S6.mk 5 n e who be re).C)]) := hide ((unhide M).new e2 B2 K2)
       clear e2 B2 K2
       have k0 := fits_cell ((unhide M).at 1 _ rfl) 0 _ rfl
       have k1 := fits_cell ((unhide M).at 1 _ rfl) 1 _ rfl
       have k2 := fits_cell ((unhide M).at 1 _ rfl) 2 _ rfl
       refine Stp.go ?_))
  constructor
  go_wp2_with (
    first
    | (refine wpLoadA jrow rfl (.tmp 6) rfl b1 0 rfl (Ar.jobC J) rfl ((unhide M).at 0 _ rfl).range ?_
       refine Stp.go ?_))
  constructor
  go_wp2_with (
    first
    | (go_at_call 34
       refine (unhide PU _ (unhide M).p2).mono ?_
       rintro e W3 ⟨rfl, K3, R3⟩
       replace M : Hid (Pz b g r sg eg D2 D w W3 [(b1, 23, Ar.jobC J), (b2, 38, (S6.mk 5 n e who be re).C)]) := hide ((unhide M).devA K3 R3)
       clear K3 R3
       clear k1
       refine Stp.go ?_))
  constructor
  go_wp2_with (
    first
    | (refine wpNew Vi.row26 (Vi.vwC Vi.zv) rfl Vi.zero26 30 rfl rfl rfl (.tmp 192) rfl rfl rfl (Vi.vwC y) (unhide HYL) (Vi.vwC_one _) (by kernel_rfl) (by kernel_rfl) ?_
       intro W4 b4 e4 B4 K4
       replace M : Hid (Pz b g r sg eg D2 D w W4 [(b1, 23, Ar.jobC J), (b2, 38, (S6.mk 5 n e who be re).C), (b4, 29, Vi.vwC y)]) := hide ((unhide M).new e4 B4 K4)
       clear e4 B4 K4
       have k1 := fits_cell ((unhide M).at 1 _ rfl) 1 _ rfl
       refine Stp.go ?_))
  constructor
  go_wp2_with (
    first
    | (refine wpLoadA jrow rfl (.tmp 6) rfl b1 0 rfl (Ar.jobC J) rfl ((unhide M).at 0 _ rfl).range ?_
       refine Stp.go ?_))
  constructor
  go_wp2_with (
    first
    | (go_at_call 41
       refine (unhide PR _ (unhide M).rv).mono ?_
       rintro e W5 ⟨rfl, R5, K5⟩
       replace M : Hid (Pz b g r sg eg D2 D2 w W5 [(b1, 23, Ar.jobC J), (b2, 38, (S6.mk 5 n e who be re).C), (b4, 29, Vi.vwC y)]) := hide ((unhide M).devB K5 (by simp) R5)
       clear K5 R5
       refine Stp.go ?_))
  constructor
  go_wp2_with (
    first
    | (refine wpNew Vi.row26 (Vi.vwC Vi.zv) rfl Vi.zero26 33 rfl rfl rfl (.tmp 202) rfl rfl rfl (Vi.vwC y) (unhide HYL) (Vi.vwC_one _) (by kernel_rfl) (by kernel_rfl) ?_
       intro W6 b6 e6 B6 K6
       replace M : Hid (Pz b g r sg eg D2 D2 w W6 [(b1, 23, Ar.jobC J), (b2, 38, (S6.mk 5 n e who be re).C), (b4, 29, Vi.vwC y), (b6, 29, Vi.vwC y)]) := hide ((unhide M).new e6 B6 K6)
       clear e6 B6 K6
       refine Stp.go ?_))
  constructor
  go_wp2_with (
    first
    | (refine wpLoadA Vi.row26 rfl (.tmp 30) rfl b4 0 rfl (Vi.vwC y) (unhide HYL) ((unhide M).at 2 _ rfl).range ?_
       refine Stp.go ?_))
  constructor
  go_wp2_with (
    first
    | (refine wpLoadA Vi.row26 rfl (.tmp 33) rfl b6 0 rfl (Vi.vwC y) (unhide HYL) ((unhide M).at 3 _ rfl).range ?_
       refine Stp.go ?_))
  constructor
  go_wp2_with (
    first
    | (refine wpEqlA 29 29 Vi.guard26 (.tmp 205) (.tmp 206) rfl rfl (Vi.vwC y) (Vi.vwC y) rfl rfl true ((Vi.equal26 _ y y (unhide HY8) (unhide HY8)).trans (by simp)) ?_
       refine Stp.go ?_))
  constructor
  go_wp2_with fail
  go_ret
  exact ⟨rfl, (unhide M).p2, (unhide M).kept⟩
set_option maxHeartbeats 8000000 in
theorem does_5B (b g r sg eg : Nat) (D : Dv.Dev) (J : Ar.Job) (n e who be re : Int) (w : World) (h : P2 b g r sg eg D D w) (D2 : Dv.Dev) (y : Vi.Vw) (yb : Bool) (ye : Int) (e2 : Int) (PE : Hid (∀ W, Dv.Rv W r sg eg D → Calls Tryz.prog 37 #[P0 r, .int .i64 n] W fun x w' => x = .returned (.tuple #[.int .i64 e, .int .i64 e2]) ∧ w' = W)) (HY8 : Hid (y.ms.length = 8)) (HYL : Hid ((Vi.vwC y).length = 19)) (PU : Hid (∀ W, P2 b g r sg eg D D W → Calls Tryz.prog 34 #[P0 b, aggV (Ar.jobC J), .int .i64 n, .int .i64 e] W fun x w' => x = .returned (.tuple #[aggV (Vi.vwC y), .bool yb, .int .i64 ye]) ∧ Kept [b, g] W w' ∧ Dv.Dv w' b g D2)) (PR : Hid (∀ W, Dv.Rv W r sg eg D → Calls Tryz.prog 41 #[P0 r, aggV (Ar.jobC J), .int .i64 n, .int .i64 e] W fun x w' => x = .returned (.tuple #[aggV (Vi.vwC y), .bool yb, .int .i64 ye]) ∧ Dv.Rv w' r sg eg D2 ∧ Kept [r, sg, eg] W w')) : Calls Tryz.prog 12 #[P0 b, P0 r, aggV (Ar.jobC J), aggV (S6.mk 5 n (-1) who be re).C] w fun x w' => x = .returned (.bool true) ∧ P2 b g r sg eg D2 D2 w' ∧ Kept [b, g, r, sg, eg] w w' := by
  have M : Hid (Pz b g r sg eg D D w w []) := hide (Pz.init h)
  clear h
  go_enter Tryz.func12, Tryz.ntmps12
  go_wp2_with (
    first
    | (refine wpBoxV rfl (.tmp 2) rfl (Ar.jobC J) rfl ?_
       intro W1 b1 e1 B1 K1
       replace M : Hid (Pz b g r sg eg D D w W1 [(b1, 23, Ar.jobC J)]) := hide ((unhide M).new e1 B1 K1)
       clear e1 B1 K1
       refine Stp.go ?_))
  constructor
  go_wp2_with (
    first
    | (refine wpBoxV rfl (.tmp 3) rfl ((S6.mk 5 n (-1) who be re).C) rfl ?_
       intro W2 b2 e2 B2 K2
       replace M : Hid (Pz b g r sg eg D D w W2 [(b1, 23, Ar.jobC J), (b2, 38, (S6.mk 5 n (-1) who be re).C)]) := hide ((unhide M).new e2 B2 K2)
       clear e2 B2 K2
       have k0 := fits_cell ((unhide M).at 1 _ rfl) 0 _ rfl
       have k1 := fits_cell ((unhide M).at 1 _ rfl) 1 _ rfl
       have k2 := fits_cell ((unhide M).at 1 _ rfl) 2 _ rfl
       refine Stp.go ?_))
  constructor
  go_wp2_with (
    first
    | (go_at_call 37
       refine (unhide PE _ (unhide M).rv).mono ?_
       rintro e W3 ⟨rfl, q3⟩
       replace q3 := q3.symm
       subst q3
       refine Stp.go ?_))
  constructor
  go_wp2_with (
    first
    | (refine wpLoadA jrow rfl (.tmp 6) rfl b1 0 rfl (Ar.jobC J) rfl ((unhide M).at 0 _ rfl).range ?_
       refine Stp.go ?_))
  constructor
  go_wp2_with (
    first
    | (go_at_call 34
       refine (unhide PU _ (unhide M).p2).mono ?_
       rintro e W4 ⟨rfl, K4, R4⟩
       replace M : Hid (Pz b g r sg eg D2 D w W4 [(b1, 23, Ar.jobC J), (b2, 38, (S6.mk 5 n (-1) who be re).C)]) := hide ((unhide M).devA K4 R4)
       clear K4 R4
       clear k1
       refine Stp.go ?_))
  constructor
  go_wp2_with (
    first
    | (refine wpNew Vi.row26 (Vi.vwC Vi.zv) rfl Vi.zero26 30 rfl rfl rfl (.tmp 192) rfl rfl rfl (Vi.vwC y) (unhide HYL) (Vi.vwC_one _) (by kernel_rfl) (by kernel_rfl) ?_
       intro W5 b5 e5 B5 K5
       replace M : Hid (Pz b g r sg eg D2 D w W5 [(b1, 23, Ar.jobC J), (b2, 38, (S6.mk 5 n (-1) who be re).C), (b5, 29, Vi.vwC y)]) := hide ((unhide M).new e5 B5 K5)
       clear e5 B5 K5
       have k1 := fits_cell ((unhide M).at 1 _ rfl) 1 _ rfl
       refine Stp.go ?_))
  constructor
  go_wp2_with (
    first
    | (refine wpLoadA jrow rfl (.tmp 6) rfl b1 0 rfl (Ar.jobC J) rfl ((unhide M).at 0 _ rfl).range ?_
       refine Stp.go ?_))
  constructor
  go_wp2_with (
    first
    | (go_at_call 41
       refine (unhide PR _ (unhide M).rv).mono ?_
       rintro e W6 ⟨rfl, R6, K6⟩
       replace M : Hid (Pz b g r sg eg D2 D2 w W6 [(b1, 23, Ar.jobC J), (b2, 38, (S6.mk 5 n (-1) who be re).C), (b5, 29, Vi.vwC y)]) := hide ((unhide M).devB K6 (by simp) R6)
       clear K6 R6
       refine Stp.go ?_))
  constructor
  go_wp2_with (
    first
    | (refine wpNew Vi.row26 (Vi.vwC Vi.zv) rfl Vi.zero26 33 rfl rfl rfl (.tmp 202) rfl rfl rfl (Vi.vwC y) (unhide HYL) (Vi.vwC_one _) (by kernel_rfl) (by kernel_rfl) ?_
       intro W7 b7 e7 B7 K7
       replace M : Hid (Pz b g r sg eg D2 D2 w W7 [(b1, 23, Ar.jobC J), (b2, 38, (S6.mk 5 n (-1) who be re).C), (b5, 29, Vi.vwC y), (b7, 29, Vi.vwC y)]) := hide ((unhide M).new e7 B7 K7)
       clear e7 B7 K7
       refine Stp.go ?_))
  constructor
  go_wp2_with (
    first
    | (refine wpLoadA Vi.row26 rfl (.tmp 30) rfl b5 0 rfl (Vi.vwC y) (unhide HYL) ((unhide M).at 2 _ rfl).range ?_
       refine Stp.go ?_))
  constructor
  go_wp2_with (
    first
    | (refine wpLoadA Vi.row26 rfl (.tmp 33) rfl b7 0 rfl (Vi.vwC y) (unhide HYL) ((unhide M).at 3 _ rfl).range ?_
       refine Stp.go ?_))
  constructor
  go_wp2_with (
    first
    | (refine wpEqlA 29 29 Vi.guard26 (.tmp 205) (.tmp 206) rfl rfl (Vi.vwC y) (Vi.vwC y) rfl rfl true ((Vi.equal26 _ y y (unhide HY8) (unhide HY8)).trans (by simp)) ?_
       refine Stp.go ?_))
  constructor
  go_wp2_with fail
  go_ret
  exact ⟨rfl, (unhide M).p2, (unhide M).kept⟩
set_option maxHeartbeats 8000000 in
theorem does_6A (b g r sg eg : Nat) (D : Dv.Dev) (J : Ar.Job) (n e who be re : Int) (w : World) (h : P2 b g r sg eg D D w) (y : Le.Le) (ye : Int) (hep : ¬ e = -1) (PU : Hid (∀ W, P2 b g r sg eg D D W → Calls Tryz.prog 30 #[P0 b, aggV (Ar.jobC J), .int .i64 n] W fun x w' => x = .returned (.tuple #[aggV (Le.Le.C y), .int .i64 ye]) ∧ Kept [] W w')) (PR : Hid (∀ W, Dv.Rv W r sg eg D → Calls Tryz.prog 42 #[P0 r, aggV (Ar.jobC J), .int .i64 n] W fun x w' => x = .returned (.tuple #[aggV (Le.Le.C y), .int .i64 ye]) ∧ Kept [] W w')) : Calls Tryz.prog 12 #[P0 b, P0 r, aggV (Ar.jobC J), aggV (S6.mk 6 n e who be re).C] w fun x w' => x = .returned (.bool true) ∧ P2 b g r sg eg D D w' ∧ Kept [b, g, r, sg, eg] w w' := by
  have M : Hid (Pz b g r sg eg D D w w []) := hide (Pz.init h)
  clear h
  go_enter Tryz.func12, Tryz.ntmps12
  go_wp2_with (
    first
    | (refine wpBoxV rfl (.tmp 2) rfl (Ar.jobC J) rfl ?_
       intro W1 b1 e1 B1 K1
       replace M : Hid (Pz b g r sg eg D D w W1 [(b1, 23, Ar.jobC J)]) := hide ((unhide M).new e1 B1 K1)
       clear e1 B1 K1
       refine Stp.go ?_))
  constructor
  go_wp2_with (
    first
    | (refine wpBoxV rfl (.tmp 3) rfl ((S6.mk 6 n e who be re).C) rfl ?_
       intro W2 b2 e2 B2 K2
       replace M : Hid (Pz b g r sg eg D D w W2 [(b1, 23, Ar.jobC J), (b2, 38, (S6.mk 6 n e who be re).C)]) := hide ((unhide M).new e2 B2 K2)
       clear e2 B2 K2
       have k0 := fits_cell ((unhide M).at 1 _ rfl) 0 _ rfl
       have k1 := fits_cell ((unhide M).at 1 _ rfl) 1 _ rfl
       have k2 := fits_cell ((unhide M).at 1 _ rfl) 2 _ rfl
       refine Stp.go ?_))
  constructor
  go_wp2_with (
    first
    | (refine wpLoadA jrow rfl (.tmp 6) rfl b1 0 rfl (Ar.jobC J) rfl ((unhide M).at 0 _ rfl).range ?_
       refine Stp.go ?_))
  constructor
  go_wp2_with (
    first
    | (go_at_call 30
       refine (unhide PU _ (unhide M).p2).mono ?_
       rintro e W3 ⟨rfl, K3⟩
       replace M : Hid (Pz b g r sg eg D D w W3 [(b1, 23, Ar.jobC J), (b2, 38, (S6.mk 6 n e who be re).C)]) := hide ((unhide M).step K3)
       clear K3
       clear k1
       refine Stp.go ?_))
  constructor
  go_wp2_with (
    first
    | (refine wpNew Le.row23 (Le.Le.C Le.le0) rfl Le.zero23 36 rfl rfl rfl (.tmp 226) rfl rfl rfl (Le.Le.C y) rfl (Le.leC_one _) (by kernel_rfl) (by kernel_rfl) ?_
       intro W4 b4 e4 B4 K4
       replace M : Hid (Pz b g r sg eg D D w W4 [(b1, 23, Ar.jobC J), (b2, 38, (S6.mk 6 n e who be re).C), (b4, 73, Le.Le.C y)]) := hide ((unhide M).new e4 B4 K4)
       clear e4 B4 K4
       have k1 := fits_cell ((unhide M).at 1 _ rfl) 1 _ rfl
       refine Stp.go ?_))
  constructor
  go_wp2_with (
    first
    | (refine wpLoadA jrow rfl (.tmp 6) rfl b1 0 rfl (Ar.jobC J) rfl ((unhide M).at 0 _ rfl).range ?_
       refine Stp.go ?_))
  constructor
  go_wp2_with (
    first
    | (go_at_call 42
       refine (unhide PR _ (unhide M).rv).mono ?_
       rintro e W5 ⟨rfl, K5⟩
       replace M : Hid (Pz b g r sg eg D D w W5 [(b1, 23, Ar.jobC J), (b2, 38, (S6.mk 6 n e who be re).C), (b4, 73, Le.Le.C y)]) := hide ((unhide M).step K5)
       clear K5
       refine Stp.go ?_))
  constructor
  go_wp2_with (
    first
    | (refine wpNew Le.row23 (Le.Le.C Le.le0) rfl Le.zero23 38 rfl rfl rfl (.tmp 234) rfl rfl rfl (Le.Le.C y) rfl (Le.leC_one _) (by kernel_rfl) (by kernel_rfl) ?_
       intro W6 b6 e6 B6 K6
       replace M : Hid (Pz b g r sg eg D D w W6 [(b1, 23, Ar.jobC J), (b2, 38, (S6.mk 6 n e who be re).C), (b4, 73, Le.Le.C y), (b6, 73, Le.Le.C y)]) := hide ((unhide M).new e6 B6 K6)
       clear e6 B6 K6
       refine Stp.go ?_))
  constructor
  go_wp2_with (
    first
    | (refine wpLoadA Le.row23 rfl (.tmp 36) rfl b4 0 rfl (Le.Le.C y) rfl ((unhide M).at 2 _ rfl).range ?_
       refine Stp.go ?_))
  constructor
  go_wp2_with (
    first
    | (refine wpLoadA Le.row23 rfl (.tmp 38) rfl b6 0 rfl (Le.Le.C y) rfl ((unhide M).at 3 _ rfl).range ?_
       refine Stp.go ?_))
  constructor
  go_wp2_with (
    first
    | (refine wpEqlA 73 73 Le.guard23 (.tmp 236) (.tmp 237) rfl rfl (Le.Le.C y) (Le.Le.C y) rfl rfl true ((Le.eqL23 _ y y).trans (by simp)) ?_
       refine Stp.go ?_))
  constructor
  go_wp2_with fail
  go_ret
  exact ⟨rfl, (unhide M).p2, (unhide M).kept⟩
set_option maxHeartbeats 8000000 in
theorem does_6B (b g r sg eg : Nat) (D : Dv.Dev) (J : Ar.Job) (n e who be re : Int) (w : World) (h : P2 b g r sg eg D D w) (y : Le.Le) (ye : Int) (e2 : Int) (PE : Hid (∀ W, Dv.Rv W r sg eg D → Calls Tryz.prog 37 #[P0 r, .int .i64 n] W fun x w' => x = .returned (.tuple #[.int .i64 e, .int .i64 e2]) ∧ w' = W)) (PU : Hid (∀ W, P2 b g r sg eg D D W → Calls Tryz.prog 30 #[P0 b, aggV (Ar.jobC J), .int .i64 n] W fun x w' => x = .returned (.tuple #[aggV (Le.Le.C y), .int .i64 ye]) ∧ Kept [] W w')) (PR : Hid (∀ W, Dv.Rv W r sg eg D → Calls Tryz.prog 42 #[P0 r, aggV (Ar.jobC J), .int .i64 n] W fun x w' => x = .returned (.tuple #[aggV (Le.Le.C y), .int .i64 ye]) ∧ Kept [] W w')) : Calls Tryz.prog 12 #[P0 b, P0 r, aggV (Ar.jobC J), aggV (S6.mk 6 n (-1) who be re).C] w fun x w' => x = .returned (.bool true) ∧ P2 b g r sg eg D D w' ∧ Kept [b, g, r, sg, eg] w w' := by
  have M : Hid (Pz b g r sg eg D D w w []) := hide (Pz.init h)
  clear h
  go_enter Tryz.func12, Tryz.ntmps12
  go_wp2_with (
    first
    | (refine wpBoxV rfl (.tmp 2) rfl (Ar.jobC J) rfl ?_
       intro W1 b1 e1 B1 K1
       replace M : Hid (Pz b g r sg eg D D w W1 [(b1, 23, Ar.jobC J)]) := hide ((unhide M).new e1 B1 K1)
       clear e1 B1 K1
       refine Stp.go ?_))
  constructor
  go_wp2_with (
    first
    | (refine wpBoxV rfl (.tmp 3) rfl ((S6.mk 6 n (-1) who be re).C) rfl ?_
       intro W2 b2 e2 B2 K2
       replace M : Hid (Pz b g r sg eg D D w W2 [(b1, 23, Ar.jobC J), (b2, 38, (S6.mk 6 n (-1) who be re).C)]) := hide ((unhide M).new e2 B2 K2)
       clear e2 B2 K2
       have k0 := fits_cell ((unhide M).at 1 _ rfl) 0 _ rfl
       have k1 := fits_cell ((unhide M).at 1 _ rfl) 1 _ rfl
       have k2 := fits_cell ((unhide M).at 1 _ rfl) 2 _ rfl
       refine Stp.go ?_))
  constructor
  go_wp2_with (
    first
    | (go_at_call 37
       refine (unhide PE _ (unhide M).rv).mono ?_
       rintro e W3 ⟨rfl, q3⟩
       replace q3 := q3.symm
       subst q3
       refine Stp.go ?_))
  constructor
  go_wp2_with (
    first
    | (refine wpLoadA jrow rfl (.tmp 6) rfl b1 0 rfl (Ar.jobC J) rfl ((unhide M).at 0 _ rfl).range ?_
       refine Stp.go ?_))
  constructor
  go_wp2_with (
    first
    | (go_at_call 30
       refine (unhide PU _ (unhide M).p2).mono ?_
       rintro e W4 ⟨rfl, K4⟩
       replace M : Hid (Pz b g r sg eg D D w W4 [(b1, 23, Ar.jobC J), (b2, 38, (S6.mk 6 n (-1) who be re).C)]) := hide ((unhide M).step K4)
       clear K4
       clear k1
       refine Stp.go ?_))
  constructor
  go_wp2_with (
    first
    | (refine wpNew Le.row23 (Le.Le.C Le.le0) rfl Le.zero23 36 rfl rfl rfl (.tmp 226) rfl rfl rfl (Le.Le.C y) rfl (Le.leC_one _) (by kernel_rfl) (by kernel_rfl) ?_
       intro W5 b5 e5 B5 K5
       replace M : Hid (Pz b g r sg eg D D w W5 [(b1, 23, Ar.jobC J), (b2, 38, (S6.mk 6 n (-1) who be re).C), (b5, 73, Le.Le.C y)]) := hide ((unhide M).new e5 B5 K5)
       clear e5 B5 K5
       have k1 := fits_cell ((unhide M).at 1 _ rfl) 1 _ rfl
       refine Stp.go ?_))
  constructor
  go_wp2_with (
    first
    | (refine wpLoadA jrow rfl (.tmp 6) rfl b1 0 rfl (Ar.jobC J) rfl ((unhide M).at 0 _ rfl).range ?_
       refine Stp.go ?_))
  constructor
  go_wp2_with (
    first
    | (go_at_call 42
       refine (unhide PR _ (unhide M).rv).mono ?_
       rintro e W6 ⟨rfl, K6⟩
       replace M : Hid (Pz b g r sg eg D D w W6 [(b1, 23, Ar.jobC J), (b2, 38, (S6.mk 6 n (-1) who be re).C), (b5, 73, Le.Le.C y)]) := hide ((unhide M).step K6)
       clear K6
       refine Stp.go ?_))
  constructor
  go_wp2_with (
    first
    | (refine wpNew Le.row23 (Le.Le.C Le.le0) rfl Le.zero23 38 rfl rfl rfl (.tmp 234) rfl rfl rfl (Le.Le.C y) rfl (Le.leC_one _) (by kernel_rfl) (by kernel_rfl) ?_
       intro W7 b7 e7 B7 K7
       replace M : Hid (Pz b g r sg eg D D w W7 [(b1, 23, Ar.jobC J), (b2, 38, (S6.mk 6 n (-1) who be re).C), (b5, 73, Le.Le.C y), (b7, 73, Le.Le.C y)]) := hide ((unhide M).new e7 B7 K7)
       clear e7 B7 K7
       refine Stp.go ?_))
  constructor
  go_wp2_with (
    first
    | (refine wpLoadA Le.row23 rfl (.tmp 36) rfl b5 0 rfl (Le.Le.C y) rfl ((unhide M).at 2 _ rfl).range ?_
       refine Stp.go ?_))
  constructor
  go_wp2_with (
    first
    | (refine wpLoadA Le.row23 rfl (.tmp 38) rfl b7 0 rfl (Le.Le.C y) rfl ((unhide M).at 3 _ rfl).range ?_
       refine Stp.go ?_))
  constructor
  go_wp2_with (
    first
    | (refine wpEqlA 73 73 Le.guard23 (.tmp 236) (.tmp 237) rfl rfl (Le.Le.C y) (Le.Le.C y) rfl rfl true ((Le.eqL23 _ y y).trans (by simp)) ?_
       refine Stp.go ?_))
  constructor
  go_wp2_with fail
  go_ret
  exact ⟨rfl, (unhide M).p2, (unhide M).kept⟩
set_option maxHeartbeats 8000000 in
theorem does_0A (b g r sg eg : Nat) (D : Dv.Dev) (J : Ar.Job) (n e who be re : Int) (w : World) (h : P2 b g r sg eg D D w) (kd : Int) (hep : ¬ e = -1) (q1 : ¬ kd = 1) (q2 : ¬ kd = 2) (q3 : ¬ kd = 3) (q4 : ¬ kd = 4) (q5 : ¬ kd = 5) (q6 : ¬ kd = 6) : Calls Tryz.prog 12 #[P0 b, P0 r, aggV (Ar.jobC J), aggV (S6.mk kd n e who be re).C] w fun x w' => x = .returned (.bool true) ∧ P2 b g r sg eg D D w' ∧ Kept [b, g, r, sg, eg] w w' := by
  have M : Hid (Pz b g r sg eg D D w w []) := hide (Pz.init h)
  clear h
  go_enter Tryz.func12, Tryz.ntmps12
  go_wp2_with (
    first
    | (refine wpBoxV rfl (.tmp 2) rfl (Ar.jobC J) rfl ?_
       intro W1 b1 e1 B1 K1
       replace M : Hid (Pz b g r sg eg D D w W1 [(b1, 23, Ar.jobC J)]) := hide ((unhide M).new e1 B1 K1)
       clear e1 B1 K1
       refine Stp.go ?_))
  constructor
  go_wp2_with (
    first
    | (refine wpBoxV rfl (.tmp 3) rfl ((S6.mk kd n e who be re).C) rfl ?_
       intro W2 b2 e2 B2 K2
       replace M : Hid (Pz b g r sg eg D D w W2 [(b1, 23, Ar.jobC J), (b2, 38, (S6.mk kd n e who be re).C)]) := hide ((unhide M).new e2 B2 K2)
       clear e2 B2 K2
       have k0 := fits_cell ((unhide M).at 1 _ rfl) 0 _ rfl
       have k2 := fits_cell ((unhide M).at 1 _ rfl) 2 _ rfl
       refine Stp.go ?_))
  constructor
  go_wp2_with fail
  go_ret
  exact ⟨rfl, (unhide M).p2, (unhide M).kept⟩
set_option maxHeartbeats 8000000 in
theorem does_0B (b g r sg eg : Nat) (D : Dv.Dev) (J : Ar.Job) (n e who be re : Int) (w : World) (h : P2 b g r sg eg D D w) (kd : Int) (e2 : Int) (PE : Hid (∀ W, Dv.Rv W r sg eg D → Calls Tryz.prog 37 #[P0 r, .int .i64 n] W fun x w' => x = .returned (.tuple #[.int .i64 e, .int .i64 e2]) ∧ w' = W)) (q1 : ¬ kd = 1) (q2 : ¬ kd = 2) (q3 : ¬ kd = 3) (q4 : ¬ kd = 4) (q5 : ¬ kd = 5) (q6 : ¬ kd = 6) : Calls Tryz.prog 12 #[P0 b, P0 r, aggV (Ar.jobC J), aggV (S6.mk kd n (-1) who be re).C] w fun x w' => x = .returned (.bool true) ∧ P2 b g r sg eg D D w' ∧ Kept [b, g, r, sg, eg] w w' := by
  have M : Hid (Pz b g r sg eg D D w w []) := hide (Pz.init h)
  clear h
  go_enter Tryz.func12, Tryz.ntmps12
  go_wp2_with (
    first
    | (refine wpBoxV rfl (.tmp 2) rfl (Ar.jobC J) rfl ?_
       intro W1 b1 e1 B1 K1
       replace M : Hid (Pz b g r sg eg D D w W1 [(b1, 23, Ar.jobC J)]) := hide ((unhide M).new e1 B1 K1)
       clear e1 B1 K1
       refine Stp.go ?_))
  constructor
  go_wp2_with (
    first
    | (refine wpBoxV rfl (.tmp 3) rfl ((S6.mk kd n (-1) who be re).C) rfl ?_
       intro W2 b2 e2 B2 K2
       replace M : Hid (Pz b g r sg eg D D w W2 [(b1, 23, Ar.jobC J), (b2, 38, (S6.mk kd n (-1) who be re).C)]) := hide ((unhide M).new e2 B2 K2)
       clear e2 B2 K2
       have k0 := fits_cell ((unhide M).at 1 _ rfl) 0 _ rfl
       have k1 := fits_cell ((unhide M).at 1 _ rfl) 1 _ rfl
       have k2 := fits_cell ((unhide M).at 1 _ rfl) 2 _ rfl
       refine Stp.go ?_))
  constructor
  go_wp2_with (
    first
    | (go_at_call 37
       refine (unhide PE _ (unhide M).rv).mono ?_
       rintro e W3 ⟨rfl, q3⟩
       replace q3 := q3.symm
       subst q3
       refine Stp.go ?_))
  constructor
  go_wp2_with fail
  go_ret
  exact ⟨rfl, (unhide M).p2, (unhide M).kept⟩
set_option maxHeartbeats 8000000 in
theorem does_4Aa (b g r sg eg : Nat) (D : Dv.Dev) (J : Ar.Job) (n e who be re : Int) (w : World) (h : P2 b g r sg eg D D w) (D2 : Dv.Dev) (se : Int) (hep : ¬ e = -1) (hre : ¬ re = -1) (PU : Hid (∀ W, Dv.Dv W b g D → Calls Tryz.prog 31 #[P0 b, aggV (Ar.jobC J), .int .i64 n, aggV (Le.Le.C ⟨e, be, re⟩)] W fun x w' => x = .returned (.int .i64 se) ∧ Kept [b, g] W w' ∧ Dv.Dv w' b g D2)) (PR : Hid (∀ W, Dv.Rv W r sg eg D → Calls Tryz.prog 40 #[P0 r, aggV (Ar.jobC J), .int .i64 n, aggV (Le.Le.C ⟨e, be, re⟩)] W fun x w' => x = .returned (.int .i64 se) ∧ Dv.Rv w' r sg eg D2 ∧ Kept [r, sg, eg] W w')) : Calls Tryz.prog 12 #[P0 b, P0 r, aggV (Ar.jobC J), aggV (S6.mk 4 n e who be re).C] w fun x w' => x = .returned (.bool true) ∧ P2 b g r sg eg D2 D2 w' ∧ Kept [b, g, r, sg, eg] w w' := by
  have M : Hid (Pz b g r sg eg D D w w []) := hide (Pz.init h)
  clear h
  go_enter Tryz.func12, Tryz.ntmps12
  go_wp2_with (
    first
    | (refine wpBoxV rfl (.tmp 2) rfl (Ar.jobC J) rfl ?_
       intro W1 b1 e1 B1 K1
       replace M : Hid (Pz b g r sg eg D D w W1 [(b1, 23, Ar.jobC J)]) := hide ((unhide M).new e1 B1 K1)
       clear e1 B1 K1
       refine Stp.go ?_))
  constructor
  go_wp2_with (
    first
    | (refine wpBoxV rfl (.tmp 3) rfl ((S6.mk 4 n e who be re).C) rfl ?_
       intro W2 b2 e2 B2 K2
       replace M : Hid (Pz b g r sg eg D D w W2 [(b1, 23, Ar.jobC J), (b2, 38, (S6.mk 4 n e who be re).C)]) := hide ((unhide M).new e2 B2 K2)
       clear e2 B2 K2
       have k0 := fits_cell ((unhide M).at 1 _ rfl) 0 _ rfl
       have k2 := fits_cell ((unhide M).at 1 _ rfl) 2 _ rfl
       have k5 := fits_cell ((unhide M).at 1 _ rfl) 5 _ rfl
       have k4 := fits_cell ((unhide M).at 1 _ rfl) 4 _ rfl
       refine Stp.go ?_))
  constructor
  go_wp2_with (
    first
    | (refine Ar.wpBuildP rfl #[(0, .tmp 165), (1, .tmp 167), (2, .tmp 168)] rfl #[(0, .int .i64 e), (1, .int .i64 be), (2, .int .i64 re)] (by simp [Act.eval]) (Le.Le.C ⟨e, be, re⟩) (Le.build23p _ _ _ _) ?_
       refine Stp.go ?_))
  constructor
  go_wp2_with (
    first
    | (refine wpNew Le.row23 (Le.Le.C Le.le0) rfl Le.zero23 29 rfl rfl rfl (.tmp 169) rfl rfl rfl (Le.Le.C ⟨e, be, re⟩) rfl (Le.leC_one _) (by kernel_rfl) (by kernel_rfl) ?_
       intro W3 b3 e3 B3 K3
       replace M : Hid (Pz b g r sg eg D D w W3 [(b1, 23, Ar.jobC J), (b2, 38, (S6.mk 4 n e who be re).C), (b3, 73, Le.Le.C ⟨e, be, re⟩)]) := hide ((unhide M).new e3 B3 K3)
       clear e3 B3 K3
       refine Stp.go ?_))
  constructor
  go_wp2_with fail
  refine wp_region_any mixed (wpAny_gx 14 rfl (by kernel_rfl) [some (P0 b), some (aggV (Ar.jobC J)), some (.pointer (some ⟨b2, 1, none⟩)), some (.int .i64 n), some (aggV (Le.Le.C ⟨e, be, re⟩)), some (.int .i64 se), some (P0 r), some (aggV (Ar.jobC J)), some (.pointer (some ⟨b2, 1, none⟩)), some (.int .i64 n), some (aggV (Le.Le.C ⟨e, be, re⟩)), some (.int .i64 se), some (.bool true), some (.bool true)] rfl (by kernel_rfl) (fun l vs W => (SB W3 b g r sg eg D D2) (fun i => l.getD i false) vs W) (⟨⟨rfl, rfl, rfl, Nat.le_refl _, fun _ _ _ => rfl⟩, (unhide M).p2.keptX (X := []) ⟨rfl, rfl, rfl, Nat.le_refl _, fun _ _ _ => rfl⟩ (fun _ _ => by simp) (by simp)⟩) ?_ ?_)
  · intro ix o' hi ho a' w2 l_ vs hls hlf hJ hout hin hdep hnot
    match ix, ho with
    | 0, ho =>
      obtain rfl := Option.some.inj ho
      have e0 := hout 0 (by kernel_rfl)
      replace e0 : a'.eval (.tmp 0) = _ := e0.trans rfl
      exact wp_move (.tmp 0) rfl _ e0 ⟨_, rfl, told_of rfl, Le.keepG (St := (SB W3 b g r sg eg D D2)) [5, 11] SB.loc (by omega) (by decide) hJ⟩
    | 1, ho =>
      obtain rfl := Option.some.inj ho
      have e0 := hout 6 (by kernel_rfl)
      replace e0 : a'.eval (.tmp 6) = _ := e0.trans rfl
      exact wp_loadA jrow (.tmp 6) rfl b1 0 e0 (Ar.jobC J) rfl (((unhide M).at 0 _ rfl).kept hJ.1 ((unhide M).ne (b1, 23, Ar.jobC J) (by simp))).range ⟨_, rfl, told_of rfl, Le.keepG (St := (SB W3 b g r sg eg D D2)) [5, 11] SB.loc (by omega) (by decide) hJ⟩
    | 2, ho =>
      obtain rfl := Option.some.inj ho
      have e0 := hout 7 (by kernel_rfl)
      replace e0 : a'.eval (.tmp 7) = _ := e0.trans rfl
      exact o_fldS1 (.tmp 7) rfl b2 e0 ⟨_, rfl, told_of rfl, Le.keepG (St := (SB W3 b g r sg eg D D2)) [5, 11] SB.loc (by omega) (by decide) hJ⟩
    | 3, ho =>
      obtain rfl := Option.some.inj ho
      have e0 : a'.eval (.tmp 172) = .pointer (some ⟨b2, 1, none⟩) := by have h9 := hin 2 172 (by kernel_rfl) (by kernel_rfl); exact h9.1.trans (told_is _ h9.2 rfl)
      exact Ar.o_load3 (.tmp 172) rfl _ _ e0 (fits_cell (((unhide M).at 1 _ rfl).kept hJ.1 ((unhide M).ne (b2, 38, (S6.mk 4 n e who be re).C) (by simp))) 1 _ rfl) ⟨_, rfl, told_of rfl, Le.keepG (St := (SB W3 b g r sg eg D D2)) [5, 11] SB.loc (by omega) (by decide) hJ⟩
    | 4, ho =>
      obtain rfl := Option.some.inj ho
      have e0 := hout 29 (by kernel_rfl)
      replace e0 : a'.eval (.tmp 29) = _ := e0.trans rfl
      exact wp_loadA Le.row23 (.tmp 29) rfl b3 0 e0 (Le.Le.C ⟨e, be, re⟩) rfl (((unhide M).at 2 _ rfl).kept hJ.1 ((unhide M).ne (b3, 73, Le.Le.C ⟨e, be, re⟩) (by simp))).range ⟨_, rfl, told_of rfl, Le.keepG (St := (SB W3 b g r sg eg D D2)) [5, 11] SB.loc (by omega) (by decide) hJ⟩
    | 5, ho =>
      obtain rfl := Option.some.inj ho
      have e0 : a'.eval (.tmp 170) = P0 b := by have h9 := hin 0 170 (by kernel_rfl) (by kernel_rfl); exact h9.1.trans (told_is _ h9.2 rfl)
      have e1 : a'.eval (.tmp 171) = aggV (Ar.jobC J) := by have h9 := hin 1 171 (by kernel_rfl) (by kernel_rfl); exact h9.1.trans (told_is _ h9.2 rfl)
      have e2 : a'.eval (.tmp 173) = .int .i64 n := by have h9 := hin 3 173 (by kernel_rfl) (by kernel_rfl); exact h9.1.trans (told_is _ h9.2 rfl)
      have e3 : a'.eval (.tmp 174) = aggV (Le.Le.C ⟨e, be, re⟩) := by have h9 := hin 4 174 (by kernel_rfl) (by kernel_rfl); exact h9.1.trans (told_is _ h9.2 rfl)
      have hP := hJ.2
      have e9 : (bif l_.getD 5 false then D2 else D) = D := by rw [show l_.getD 5 false = false from hlf]; rfl
      simp only [e9] at hP
      refine wp_callF 31 _ _ rfl #[P0 b, aggV (Ar.jobC J), .int .i64 n, aggV (Le.Le.C ⟨e, be, re⟩)] (by simp [e0, e1, e2, e3]) (cg31 _ _) ((unhide PU w2 hP.dv).mono ?_)
      rintro e w3 ⟨rfl, hk3, hR3⟩
      exact ⟨_, rfl, _, rfl, told_of rfl, Le.nextG (St := (SB W3 b g r sg eg D D2)) (by omega) ⟨hJ.1.trans (hk3.mono (by simp)), hP.devA hk3 hR3⟩⟩
    | 6, ho =>
      obtain rfl := Option.some.inj ho
      have e0 := hout 1 (by kernel_rfl)
      replace e0 : a'.eval (.tmp 1) = _ := e0.trans rfl
      exact wp_move (.tmp 1) rfl _ e0 ⟨_, rfl, told_of rfl, Le.keepG (St := (SB W3 b g r sg eg D D2)) [5, 11] SB.loc (by omega) (by decide) hJ⟩
    | 7, ho =>
      obtain rfl := Option.some.inj ho
      have e0 := hout 6 (by kernel_rfl)
      replace e0 : a'.eval (.tmp 6) = _ := e0.trans rfl
      exact wp_loadA jrow (.tmp 6) rfl b1 0 e0 (Ar.jobC J) rfl (((unhide M).at 0 _ rfl).kept hJ.1 ((unhide M).ne (b1, 23, Ar.jobC J) (by simp))).range ⟨_, rfl, told_of rfl, Le.keepG (St := (SB W3 b g r sg eg D D2)) [5, 11] SB.loc (by omega) (by decide) hJ⟩
    | 8, ho =>
      obtain rfl := Option.some.inj ho
      have e0 := hout 7 (by kernel_rfl)
      replace e0 : a'.eval (.tmp 7) = _ := e0.trans rfl
      exact o_fldS1 (.tmp 7) rfl b2 e0 ⟨_, rfl, told_of rfl, Le.keepG (St := (SB W3 b g r sg eg D D2)) [5, 11] SB.loc (by omega) (by decide) hJ⟩
    | 9, ho =>
      obtain rfl := Option.some.inj ho
      have e0 : a'.eval (.tmp 178) = .pointer (some ⟨b2, 1, none⟩) := by have h9 := hin 8 178 (by kernel_rfl) (by kernel_rfl); exact h9.1.trans (told_is _ h9.2 rfl)
      exact Ar.o_load3 (.tmp 178) rfl _ _ e0 (fits_cell (((unhide M).at 1 _ rfl).kept hJ.1 ((unhide M).ne (b2, 38, (S6.mk 4 n e who be re).C) (by simp))) 1 _ rfl) ⟨_, rfl, told_of rfl, Le.keepG (St := (SB W3 b g r sg eg D D2)) [5, 11] SB.loc (by omega) (by decide) hJ⟩
    | 10, ho =>
      obtain rfl := Option.some.inj ho
      have e0 := hout 29 (by kernel_rfl)
      replace e0 : a'.eval (.tmp 29) = _ := e0.trans rfl
      exact wp_loadA Le.row23 (.tmp 29) rfl b3 0 e0 (Le.Le.C ⟨e, be, re⟩) rfl (((unhide M).at 2 _ rfl).kept hJ.1 ((unhide M).ne (b3, 73, Le.Le.C ⟨e, be, re⟩) (by simp))).range ⟨_, rfl, told_of rfl, Le.keepG (St := (SB W3 b g r sg eg D D2)) [5, 11] SB.loc (by omega) (by decide) hJ⟩
    | 11, ho =>
      obtain rfl := Option.some.inj ho
      have e0 : a'.eval (.tmp 176) = P0 r := by have h9 := hin 6 176 (by kernel_rfl) (by kernel_rfl); exact h9.1.trans (told_is _ h9.2 rfl)
      have e1 : a'.eval (.tmp 177) = aggV (Ar.jobC J) := by have h9 := hin 7 177 (by kernel_rfl) (by kernel_rfl); exact h9.1.trans (told_is _ h9.2 rfl)
      have e2 : a'.eval (.tmp 179) = .int .i64 n := by have h9 := hin 9 179 (by kernel_rfl) (by kernel_rfl); exact h9.1.trans (told_is _ h9.2 rfl)
      have e3 : a'.eval (.tmp 180) = aggV (Le.Le.C ⟨e, be, re⟩) := by have h9 := hin 10 180 (by kernel_rfl) (by kernel_rfl); exact h9.1.trans (told_is _ h9.2 rfl)
      have hP := hJ.2
      have e9 : (bif l_.getD 11 false then D2 else D) = D := by rw [show l_.getD 11 false = false from hlf]; rfl
      simp only [e9] at hP
      refine wp_callF 40 _ _ rfl #[P0 r, aggV (Ar.jobC J), .int .i64 n, aggV (Le.Le.C ⟨e, be, re⟩)] (by simp [e0, e1, e2, e3]) (cg40 _ _) ((unhide PR w2 hP.rv).mono ?_)
      rintro e w3 ⟨rfl, hR3, hk3⟩
      exact ⟨_, rfl, _, rfl, told_of rfl, Le.nextG (St := (SB W3 b g r sg eg D D2)) (by omega) ⟨hJ.1.trans (hk3.mono (by simp)), hP.devB hk3 hR3⟩⟩
    | 12, ho =>
      obtain rfl := Option.some.inj ho
      have e0 : a'.eval (.tmp 175) = .int .i64 se := by have h9 := hin 5 175 (by kernel_rfl) (by kernel_rfl); exact h9.1.trans (told_is _ h9.2 rfl)
      have e1 : a'.eval (.tmp 181) = .int .i64 se := by have h9 := hin 11 181 (by kernel_rfl) (by kernel_rfl); exact h9.1.trans (told_is _ h9.2 rfl)
      exact o_eql33 (.tmp 175) (.tmp 181) rfl _ _ true (by simp) e0 e1 ⟨_, rfl, told_of rfl, Le.keepG (St := (SB W3 b g r sg eg D D2)) [5, 11] SB.loc (by omega) (by decide) hJ⟩
    | 13, ho =>
      obtain rfl := Option.some.inj ho
      have e0 : a'.eval (.tmp 182) = .bool true := by have h9 := hin 12 182 (by kernel_rfl) (by kernel_rfl); exact h9.1.trans (told_is _ h9.2 rfl)
      exact wp_assignV (.tmp 182) rfl _ e0 ⟨_, rfl, told_of rfl, Le.keepG (St := (SB W3 b g r sg eg D D2)) [5, 11] SB.loc (by omega) (by decide) hJ⟩
  intro l_ vs9 V9 hl hJ htold
  have t0 : vs9 0 = P0 b := told_is _ (htold 0 (by decide)) rfl
  have t1 : vs9 1 = aggV (Ar.jobC J) := told_is _ (htold 1 (by decide)) rfl
  have t2 : vs9 2 = .pointer (some ⟨b2, 1, none⟩) := told_is _ (htold 2 (by decide)) rfl
  have t3 : vs9 3 = .int .i64 n := told_is _ (htold 3 (by decide)) rfl
  have t4 : vs9 4 = aggV (Le.Le.C ⟨e, be, re⟩) := told_is _ (htold 4 (by decide)) rfl
  have t5 : vs9 5 = .int .i64 se := told_is _ (htold 5 (by decide)) rfl
  have t6 : vs9 6 = P0 r := told_is _ (htold 6 (by decide)) rfl
  have t7 : vs9 7 = aggV (Ar.jobC J) := told_is _ (htold 7 (by decide)) rfl
  have t8 : vs9 8 = .pointer (some ⟨b2, 1, none⟩) := told_is _ (htold 8 (by decide)) rfl
  have t9 : vs9 9 = .int .i64 n := told_is _ (htold 9 (by decide)) rfl
  have t10 : vs9 10 = aggV (Le.Le.C ⟨e, be, re⟩) := told_is _ (htold 10 (by decide)) rfl
  have t11 : vs9 11 = .int .i64 se := told_is _ (htold 11 (by decide)) rfl
  have t12 : vs9 12 = .bool true := told_is _ (htold 12 (by decide)) rfl
  have t13 : vs9 13 = .bool true := told_is _ (htold 13 (by decide)) rfl
  rw [show (List.range 14).map vs9 = [vs9 0, vs9 1, vs9 2, vs9 3, vs9 4, vs9 5, vs9 6, vs9 7, vs9 8, vs9 9, vs9 10, vs9 11, vs9 12, vs9 13] from rfl]
  simp only [t0, t1, t2, t3, t4, t5, t6, t7, t8, t9, t10, t11, t12, t13, putAll, Act.put, List.setIfInBounds_toArray, List.set_cons_succ, List.set_cons_zero]
  clear t0 t1 t2 t3 t4 t5 t6 t7 t8 t9 t10 t11 t12 t13 htold
  have hP := hJ.2
  have hK := (unhide M).kept.trans hJ.1
  simp only [hl 5 (by decide), hl 11 (by decide), cond_true] at hP
  clear hJ hl
  go_wp2_with fail
  go_ret
  exact ⟨rfl, hP, hK⟩
set_option maxHeartbeats 8000000 in
theorem does_4Ab (b g r sg eg : Nat) (D : Dv.Dev) (J : Ar.Job) (n e who be : Int) (w : World) (h : P2 b g r sg eg D D w) (D2 : Dv.Dev) (se : Int) (v : Vi.Vw) (ve : Int) (hep : ¬ e = -1) (HVL : Hid ((Vi.vwC v).length = 19)) (PV : Hid (∀ W, Dv.Rv W r sg eg D → Calls Tryz.prog 14 #[P0 r, aggV (Ar.jobC J)] W fun x w' => x = .returned (.tuple #[aggV (Vi.vwC v), .int .i64 ve]) ∧ Kept [] W w')) (PU : Hid (∀ W, Dv.Dv W b g D → Calls Tryz.prog 31 #[P0 b, aggV (Ar.jobC J), .int .i64 n, aggV (Le.Le.C ⟨e, be, v.nu⟩)] W fun x w' => x = .returned (.int .i64 se) ∧ Kept [b, g] W w' ∧ Dv.Dv w' b g D2)) (PR : Hid (∀ W, Dv.Rv W r sg eg D → Calls Tryz.prog 40 #[P0 r, aggV (Ar.jobC J), .int .i64 n, aggV (Le.Le.C ⟨e, be, v.nu⟩)] W fun x w' => x = .returned (.int .i64 se) ∧ Dv.Rv w' r sg eg D2 ∧ Kept [r, sg, eg] W w')) : Calls Tryz.prog 12 #[P0 b, P0 r, aggV (Ar.jobC J), aggV (S6.mk 4 n e who be (-1)).C] w fun x w' => x = .returned (.bool true) ∧ P2 b g r sg eg D2 D2 w' ∧ Kept [b, g, r, sg, eg] w w' := by
  have M : Hid (Pz b g r sg eg D D w w []) := hide (Pz.init h)
  clear h
  go_enter Tryz.func12, Tryz.ntmps12
  go_wp2_with (
    first
    | (refine wpBoxV rfl (.tmp 2) rfl (Ar.jobC J) rfl ?_
       intro W1 b1 e1 B1 K1
       replace M : Hid (Pz b g r sg eg D D w W1 [(b1, 23, Ar.jobC J)]) := hide ((unhide M).new e1 B1 K1)
       clear e1 B1 K1
       refine Stp.go ?_))
  constructor
  go_wp2_with (
    first
    | (refine wpBoxV rfl (.tmp 3) rfl ((S6.mk 4 n e who be (-1)).C) rfl ?_
       intro W2 b2 e2 B2 K2
       replace M : Hid (Pz b g r sg eg D D w W2 [(b1, 23, Ar.jobC J), (b2, 38, (S6.mk 4 n e who be (-1)).C)]) := hide ((unhide M).new e2 B2 K2)
       clear e2 B2 K2
       have k0 := fits_cell ((unhide M).at 1 _ rfl) 0 _ rfl
       have k2 := fits_cell ((unhide M).at 1 _ rfl) 2 _ rfl
       have k5 := fits_cell ((unhide M).at 1 _ rfl) 5 _ rfl
       refine Stp.go ?_))
  constructor
  go_wp2_with (
    first
    | (refine wpLoadA jrow rfl (.tmp 6) rfl b1 0 rfl (Ar.jobC J) rfl ((unhide M).at 0 _ rfl).range ?_
       refine Stp.go ?_))
  constructor
  go_wp2_with (
    first
    | (go_at_call 14
       refine (unhide PV _ (unhide M).rv).mono ?_
       rintro e W3 ⟨rfl, K3⟩
       replace M : Hid (Pz b g r sg eg D D w W3 [(b1, 23, Ar.jobC J), (b2, 38, (S6.mk 4 n e who be (-1)).C)]) := hide ((unhide M).step K3)
       clear K3
       refine Stp.go ?_))
  constructor
  go_wp2_with (
    first
    | (refine wpNew Vi.row26 (Vi.vwC Vi.zv) rfl Vi.zero26 27 rfl rfl rfl (.tmp 161) rfl rfl rfl (Vi.vwC v) (unhide HVL) (Vi.vwC_one _) (by kernel_rfl) (by kernel_rfl) ?_
       intro W4 b4 e4 B4 K4
       replace M : Hid (Pz b g r sg eg D D w W4 [(b1, 23, Ar.jobC J), (b2, 38, (S6.mk 4 n e who be (-1)).C), (b4, 29, Vi.vwC v)]) := hide ((unhide M).new e4 B4 K4)
       clear e4 B4 K4
       clear k5
       have k4 := fits_cell ((unhide M).at 1 _ rfl) 4 _ rfl
       have k9 := fits_cell ((unhide M).at 2 _ rfl) 0 (.int .i64 v.nu) rfl
       refine Stp.go ?_))
  constructor
  go_wp2_with (
    first
    | (refine Ar.wpBuildP rfl #[(0, .tmp 165), (1, .tmp 167), (2, .tmp 168)] rfl #[(0, .int .i64 e), (1, .int .i64 be), (2, .int .i64 v.nu)] (by simp [Act.eval]) (Le.Le.C ⟨e, be, v.nu⟩) (Le.build23p _ _ _ _) ?_
       refine Stp.go ?_))
  constructor
  go_wp2_with (
    first
    | (refine wpNew Le.row23 (Le.Le.C Le.le0) rfl Le.zero23 29 rfl rfl rfl (.tmp 169) rfl rfl rfl (Le.Le.C ⟨e, be, v.nu⟩) rfl (Le.leC_one _) (by kernel_rfl) (by kernel_rfl) ?_
       intro W5 b5 e5 B5 K5
       replace M : Hid (Pz b g r sg eg D D w W5 [(b1, 23, Ar.jobC J), (b2, 38, (S6.mk 4 n e who be (-1)).C), (b4, 29, Vi.vwC v), (b5, 73, Le.Le.C ⟨e, be, v.nu⟩)]) := hide ((unhide M).new e5 B5 K5)
       clear e5 B5 K5
       refine Stp.go ?_))
  constructor
  go_wp2_with fail
  refine wp_region_any mixed (wpAny_gx 14 rfl (by kernel_rfl) [some (P0 b), some (aggV (Ar.jobC J)), some (.pointer (some ⟨b2, 1, none⟩)), some (.int .i64 n), some (aggV (Le.Le.C ⟨e, be, v.nu⟩)), some (.int .i64 se), some (P0 r), some (aggV (Ar.jobC J)), some (.pointer (some ⟨b2, 1, none⟩)), some (.int .i64 n), some (aggV (Le.Le.C ⟨e, be, v.nu⟩)), some (.int .i64 se), some (.bool true), some (.bool true)] rfl (by kernel_rfl) (fun l vs W => (SB W5 b g r sg eg D D2) (fun i => l.getD i false) vs W) (⟨⟨rfl, rfl, rfl, Nat.le_refl _, fun _ _ _ => rfl⟩, (unhide M).p2.keptX (X := []) ⟨rfl, rfl, rfl, Nat.le_refl _, fun _ _ _ => rfl⟩ (fun _ _ => by simp) (by simp)⟩) ?_ ?_)
  · intro ix o' hi ho a' w2 l_ vs hls hlf hJ hout hin hdep hnot
    match ix, ho with
    | 0, ho =>
      obtain rfl := Option.some.inj ho
      have e0 := hout 0 (by kernel_rfl)
      replace e0 : a'.eval (.tmp 0) = _ := e0.trans rfl
      exact wp_move (.tmp 0) rfl _ e0 ⟨_, rfl, told_of rfl, Le.keepG (St := (SB W5 b g r sg eg D D2)) [5, 11] SB.loc (by omega) (by decide) hJ⟩
    | 1, ho =>
      obtain rfl := Option.some.inj ho
      have e0 := hout 6 (by kernel_rfl)
      replace e0 : a'.eval (.tmp 6) = _ := e0.trans rfl
      exact wp_loadA jrow (.tmp 6) rfl b1 0 e0 (Ar.jobC J) rfl (((unhide M).at 0 _ rfl).kept hJ.1 ((unhide M).ne (b1, 23, Ar.jobC J) (by simp))).range ⟨_, rfl, told_of rfl, Le.keepG (St := (SB W5 b g r sg eg D D2)) [5, 11] SB.loc (by omega) (by decide) hJ⟩
    | 2, ho =>
      obtain rfl := Option.some.inj ho
      have e0 := hout 7 (by kernel_rfl)
      replace e0 : a'.eval (.tmp 7) = _ := e0.trans rfl
      exact o_fldS1 (.tmp 7) rfl b2 e0 ⟨_, rfl, told_of rfl, Le.keepG (St := (SB W5 b g r sg eg D D2)) [5, 11] SB.loc (by omega) (by decide) hJ⟩
    | 3, ho =>
      obtain rfl := Option.some.inj ho
      have e0 : a'.eval (.tmp 172) = .pointer (some ⟨b2, 1, none⟩) := by have h9 := hin 2 172 (by kernel_rfl) (by kernel_rfl); exact h9.1.trans (told_is _ h9.2 rfl)
      exact Ar.o_load3 (.tmp 172) rfl _ _ e0 (fits_cell (((unhide M).at 1 _ rfl).kept hJ.1 ((unhide M).ne (b2, 38, (S6.mk 4 n e who be (-1)).C) (by simp))) 1 _ rfl) ⟨_, rfl, told_of rfl, Le.keepG (St := (SB W5 b g r sg eg D D2)) [5, 11] SB.loc (by omega) (by decide) hJ⟩
    | 4, ho =>
      obtain rfl := Option.some.inj ho
      have e0 := hout 29 (by kernel_rfl)
      replace e0 : a'.eval (.tmp 29) = _ := e0.trans rfl
      exact wp_loadA Le.row23 (.tmp 29) rfl b5 0 e0 (Le.Le.C ⟨e, be, v.nu⟩) rfl (((unhide M).at 3 _ rfl).kept hJ.1 ((unhide M).ne (b5, 73, Le.Le.C ⟨e, be, v.nu⟩) (by simp))).range ⟨_, rfl, told_of rfl, Le.keepG (St := (SB W5 b g r sg eg D D2)) [5, 11] SB.loc (by omega) (by decide) hJ⟩
    | 5, ho =>
      obtain rfl := Option.some.inj ho
      have e0 : a'.eval (.tmp 170) = P0 b := by have h9 := hin 0 170 (by kernel_rfl) (by kernel_rfl); exact h9.1.trans (told_is _ h9.2 rfl)
      have e1 : a'.eval (.tmp 171) = aggV (Ar.jobC J) := by have h9 := hin 1 171 (by kernel_rfl) (by kernel_rfl); exact h9.1.trans (told_is _ h9.2 rfl)
      have e2 : a'.eval (.tmp 173) = .int .i64 n := by have h9 := hin 3 173 (by kernel_rfl) (by kernel_rfl); exact h9.1.trans (told_is _ h9.2 rfl)
      have e3 : a'.eval (.tmp 174) = aggV (Le.Le.C ⟨e, be, v.nu⟩) := by have h9 := hin 4 174 (by kernel_rfl) (by kernel_rfl); exact h9.1.trans (told_is _ h9.2 rfl)
      have hP := hJ.2
      have e9 : (bif l_.getD 5 false then D2 else D) = D := by rw [show l_.getD 5 false = false from hlf]; rfl
      simp only [e9] at hP
      refine wp_callF 31 _ _ rfl #[P0 b, aggV (Ar.jobC J), .int .i64 n, aggV (Le.Le.C ⟨e, be, v.nu⟩)] (by simp [e0, e1, e2, e3]) (cg31 _ _) ((unhide PU w2 hP.dv).mono ?_)
      rintro e w3 ⟨rfl, hk3, hR3⟩
      exact ⟨_, rfl, _, rfl, told_of rfl, Le.nextG (St := (SB W5 b g r sg eg D D2)) (by omega) ⟨hJ.1.trans (hk3.mono (by simp)), hP.devA hk3 hR3⟩⟩
    | 6, ho =>
      obtain rfl := Option.some.inj ho
      have e0 := hout 1 (by kernel_rfl)
      replace e0 : a'.eval (.tmp 1) = _ := e0.trans rfl
      exact wp_move (.tmp 1) rfl _ e0 ⟨_, rfl, told_of rfl, Le.keepG (St := (SB W5 b g r sg eg D D2)) [5, 11] SB.loc (by omega) (by decide) hJ⟩
    | 7, ho =>
      obtain rfl := Option.some.inj ho
      have e0 := hout 6 (by kernel_rfl)
      replace e0 : a'.eval (.tmp 6) = _ := e0.trans rfl
      exact wp_loadA jrow (.tmp 6) rfl b1 0 e0 (Ar.jobC J) rfl (((unhide M).at 0 _ rfl).kept hJ.1 ((unhide M).ne (b1, 23, Ar.jobC J) (by simp))).range ⟨_, rfl, told_of rfl, Le.keepG (St := (SB W5 b g r sg eg D D2)) [5, 11] SB.loc (by omega) (by decide) hJ⟩
    | 8, ho =>
      obtain rfl := Option.some.inj ho
      have e0 := hout 7 (by kernel_rfl)
      replace e0 : a'.eval (.tmp 7) = _ := e0.trans rfl
      exact o_fldS1 (.tmp 7) rfl b2 e0 ⟨_, rfl, told_of rfl, Le.keepG (St := (SB W5 b g r sg eg D D2)) [5, 11] SB.loc (by omega) (by decide) hJ⟩
    | 9, ho =>
      obtain rfl := Option.some.inj ho
      have e0 : a'.eval (.tmp 178) = .pointer (some ⟨b2, 1, none⟩) := by have h9 := hin 8 178 (by kernel_rfl) (by kernel_rfl); exact h9.1.trans (told_is _ h9.2 rfl)
      exact Ar.o_load3 (.tmp 178) rfl _ _ e0 (fits_cell (((unhide M).at 1 _ rfl).kept hJ.1 ((unhide M).ne (b2, 38, (S6.mk 4 n e who be (-1)).C) (by simp))) 1 _ rfl) ⟨_, rfl, told_of rfl, Le.keepG (St := (SB W5 b g r sg eg D D2)) [5, 11] SB.loc (by omega) (by decide) hJ⟩
    | 10, ho =>
      obtain rfl := Option.some.inj ho
      have e0 := hout 29 (by kernel_rfl)
      replace e0 : a'.eval (.tmp 29) = _ := e0.trans rfl
      exact wp_loadA Le.row23 (.tmp 29) rfl b5 0 e0 (Le.Le.C ⟨e, be, v.nu⟩) rfl (((unhide M).at 3 _ rfl).kept hJ.1 ((unhide M).ne (b5, 73, Le.Le.C ⟨e, be, v.nu⟩) (by simp))).range ⟨_, rfl, told_of rfl, Le.keepG (St := (SB W5 b g r sg eg D D2)) [5, 11] SB.loc (by omega) (by decide) hJ⟩
    | 11, ho =>
      obtain rfl := Option.some.inj ho
      have e0 : a'.eval (.tmp 176) = P0 r := by have h9 := hin 6 176 (by kernel_rfl) (by kernel_rfl); exact h9.1.trans (told_is _ h9.2 rfl)
      have e1 : a'.eval (.tmp 177) = aggV (Ar.jobC J) := by have h9 := hin 7 177 (by kernel_rfl) (by kernel_rfl); exact h9.1.trans (told_is _ h9.2 rfl)
      have e2 : a'.eval (.tmp 179) = .int .i64 n := by have h9 := hin 9 179 (by kernel_rfl) (by kernel_rfl); exact h9.1.trans (told_is _ h9.2 rfl)
      have e3 : a'.eval (.tmp 180) = aggV (Le.Le.C ⟨e, be, v.nu⟩) := by have h9 := hin 10 180 (by kernel_rfl) (by kernel_rfl); exact h9.1.trans (told_is _ h9.2 rfl)
      have hP := hJ.2
      have e9 : (bif l_.getD 11 false then D2 else D) = D := by rw [show l_.getD 11 false = false from hlf]; rfl
      simp only [e9] at hP
      refine wp_callF 40 _ _ rfl #[P0 r, aggV (Ar.jobC J), .int .i64 n, aggV (Le.Le.C ⟨e, be, v.nu⟩)] (by simp [e0, e1, e2, e3]) (cg40 _ _) ((unhide PR w2 hP.rv).mono ?_)
      rintro e w3 ⟨rfl, hR3, hk3⟩
      exact ⟨_, rfl, _, rfl, told_of rfl, Le.nextG (St := (SB W5 b g r sg eg D D2)) (by omega) ⟨hJ.1.trans (hk3.mono (by simp)), hP.devB hk3 hR3⟩⟩
    | 12, ho =>
      obtain rfl := Option.some.inj ho
      have e0 : a'.eval (.tmp 175) = .int .i64 se := by have h9 := hin 5 175 (by kernel_rfl) (by kernel_rfl); exact h9.1.trans (told_is _ h9.2 rfl)
      have e1 : a'.eval (.tmp 181) = .int .i64 se := by have h9 := hin 11 181 (by kernel_rfl) (by kernel_rfl); exact h9.1.trans (told_is _ h9.2 rfl)
      exact o_eql33 (.tmp 175) (.tmp 181) rfl _ _ true (by simp) e0 e1 ⟨_, rfl, told_of rfl, Le.keepG (St := (SB W5 b g r sg eg D D2)) [5, 11] SB.loc (by omega) (by decide) hJ⟩
    | 13, ho =>
      obtain rfl := Option.some.inj ho
      have e0 : a'.eval (.tmp 182) = .bool true := by have h9 := hin 12 182 (by kernel_rfl) (by kernel_rfl); exact h9.1.trans (told_is _ h9.2 rfl)
      exact wp_assignV (.tmp 182) rfl _ e0 ⟨_, rfl, told_of rfl, Le.keepG (St := (SB W5 b g r sg eg D D2)) [5, 11] SB.loc (by omega) (by decide) hJ⟩
  intro l_ vs9 V9 hl hJ htold
  have t0 : vs9 0 = P0 b := told_is _ (htold 0 (by decide)) rfl
  have t1 : vs9 1 = aggV (Ar.jobC J) := told_is _ (htold 1 (by decide)) rfl
  have t2 : vs9 2 = .pointer (some ⟨b2, 1, none⟩) := told_is _ (htold 2 (by decide)) rfl
  have t3 : vs9 3 = .int .i64 n := told_is _ (htold 3 (by decide)) rfl
  have t4 : vs9 4 = aggV (Le.Le.C ⟨e, be, v.nu⟩) := told_is _ (htold 4 (by decide)) rfl
  have t5 : vs9 5 = .int .i64 se := told_is _ (htold 5 (by decide)) rfl
  have t6 : vs9 6 = P0 r := told_is _ (htold 6 (by decide)) rfl
  have t7 : vs9 7 = aggV (Ar.jobC J) := told_is _ (htold 7 (by decide)) rfl
  have t8 : vs9 8 = .pointer (some ⟨b2, 1, none⟩) := told_is _ (htold 8 (by decide)) rfl
  have t9 : vs9 9 = .int .i64 n := told_is _ (htold 9 (by decide)) rfl
  have t10 : vs9 10 = aggV (Le.Le.C ⟨e, be, v.nu⟩) := told_is _ (htold 10 (by decide)) rfl
  have t11 : vs9 11 = .int .i64 se := told_is _ (htold 11 (by decide)) rfl
  have t12 : vs9 12 = .bool true := told_is _ (htold 12 (by decide)) rfl
  have t13 : vs9 13 = .bool true := told_is _ (htold 13 (by decide)) rfl
  rw [show (List.range 14).map vs9 = [vs9 0, vs9 1, vs9 2, vs9 3, vs9 4, vs9 5, vs9 6, vs9 7, vs9 8, vs9 9, vs9 10, vs9 11, vs9 12, vs9 13] from rfl]
  simp only [t0, t1, t2, t3, t4, t5, t6, t7, t8, t9, t10, t11, t12, t13, putAll, Act.put, List.setIfInBounds_toArray, List.set_cons_succ, List.set_cons_zero]
  clear t0 t1 t2 t3 t4 t5 t6 t7 t8 t9 t10 t11 t12 t13 htold
  have hP := hJ.2
  have hK := (unhide M).kept.trans hJ.1
  simp only [hl 5 (by decide), hl 11 (by decide), cond_true] at hP
  clear hJ hl
  go_wp2_with fail
  go_ret
  exact ⟨rfl, hP, hK⟩
set_option maxHeartbeats 8000000 in
theorem does_4Ba (b g r sg eg : Nat) (D : Dv.Dev) (J : Ar.Job) (n e who be re : Int) (w : World) (h : P2 b g r sg eg D D w) (D2 : Dv.Dev) (se : Int) (e2 : Int) (PE : Hid (∀ W, Dv.Rv W r sg eg D → Calls Tryz.prog 37 #[P0 r, .int .i64 n] W fun x w' => x = .returned (.tuple #[.int .i64 e, .int .i64 e2]) ∧ w' = W)) (hre : ¬ re = -1) (PU : Hid (∀ W, Dv.Dv W b g D → Calls Tryz.prog 31 #[P0 b, aggV (Ar.jobC J), .int .i64 n, aggV (Le.Le.C ⟨e, be, re⟩)] W fun x w' => x = .returned (.int .i64 se) ∧ Kept [b, g] W w' ∧ Dv.Dv w' b g D2)) (PR : Hid (∀ W, Dv.Rv W r sg eg D → Calls Tryz.prog 40 #[P0 r, aggV (Ar.jobC J), .int .i64 n, aggV (Le.Le.C ⟨e, be, re⟩)] W fun x w' => x = .returned (.int .i64 se) ∧ Dv.Rv w' r sg eg D2 ∧ Kept [r, sg, eg] W w')) : Calls Tryz.prog 12 #[P0 b, P0 r, aggV (Ar.jobC J), aggV (S6.mk 4 n (-1) who be re).C] w fun x w' => x = .returned (.bool true) ∧ P2 b g r sg eg D2 D2 w' ∧ Kept [b, g, r, sg, eg] w w' := by
  have M : Hid (Pz b g r sg eg D D w w []) := hide (Pz.init h)
  clear h
  go_enter Tryz.func12, Tryz.ntmps12
  go_wp2_with (
    first
    | (refine wpBoxV rfl (.tmp 2) rfl (Ar.jobC J) rfl ?_
       intro W1 b1 e1 B1 K1
       replace M : Hid (Pz b g r sg eg D D w W1 [(b1, 23, Ar.jobC J)]) := hide ((unhide M).new e1 B1 K1)
       clear e1 B1 K1
       refine Stp.go ?_))
  constructor
  go_wp2_with (
    first
    | (refine wpBoxV rfl (.tmp 3) rfl ((S6.mk 4 n (-1) who be re).C) rfl ?_
       intro W2 b2 e2 B2 K2
       replace M : Hid (Pz b g r sg eg D D w W2 [(b1, 23, Ar.jobC J), (b2, 38, (S6.mk 4 n (-1) who be re).C)]) := hide ((unhide M).new e2 B2 K2)
       clear e2 B2 K2
       have k0 := fits_cell ((unhide M).at 1 _ rfl) 0 _ rfl
       have k1 := fits_cell ((unhide M).at 1 _ rfl) 1 _ rfl
       have k2 := fits_cell ((unhide M).at 1 _ rfl) 2 _ rfl
       have k5 := fits_cell ((unhide M).at 1 _ rfl) 5 _ rfl
       have k4 := fits_cell ((unhide M).at 1 _ rfl) 4 _ rfl
       refine Stp.go ?_))
  constructor
  go_wp2_with (
    first
    | (go_at_call 37
       refine (unhide PE _ (unhide M).rv).mono ?_
       rintro e W3 ⟨rfl, q3⟩
       replace q3 := q3.symm
       subst q3
       refine Stp.go ?_))
  constructor
  go_wp2_with (
    first
    | (refine Ar.wpBuildP rfl #[(0, .tmp 165), (1, .tmp 167), (2, .tmp 168)] rfl #[(0, .int .i64 e), (1, .int .i64 be), (2, .int .i64 re)] (by simp [Act.eval]) (Le.Le.C ⟨e, be, re⟩) (Le.build23p _ _ _ _) ?_
       refine Stp.go ?_))
  constructor
  go_wp2_with (
    first
    | (refine wpNew Le.row23 (Le.Le.C Le.le0) rfl Le.zero23 29 rfl rfl rfl (.tmp 169) rfl rfl rfl (Le.Le.C ⟨e, be, re⟩) rfl (Le.leC_one _) (by kernel_rfl) (by kernel_rfl) ?_
       intro W4 b4 e4 B4 K4
       replace M : Hid (Pz b g r sg eg D D w W4 [(b1, 23, Ar.jobC J), (b2, 38, (S6.mk 4 n (-1) who be re).C), (b4, 73, Le.Le.C ⟨e, be, re⟩)]) := hide ((unhide M).new e4 B4 K4)
       clear e4 B4 K4
       refine Stp.go ?_))
  constructor
  go_wp2_with fail
  refine wp_region_any mixed (wpAny_gx 14 rfl (by kernel_rfl) [some (P0 b), some (aggV (Ar.jobC J)), some (.pointer (some ⟨b2, 1, none⟩)), some (.int .i64 n), some (aggV (Le.Le.C ⟨e, be, re⟩)), some (.int .i64 se), some (P0 r), some (aggV (Ar.jobC J)), some (.pointer (some ⟨b2, 1, none⟩)), some (.int .i64 n), some (aggV (Le.Le.C ⟨e, be, re⟩)), some (.int .i64 se), some (.bool true), some (.bool true)] rfl (by kernel_rfl) (fun l vs W => (SB W4 b g r sg eg D D2) (fun i => l.getD i false) vs W) (⟨⟨rfl, rfl, rfl, Nat.le_refl _, fun _ _ _ => rfl⟩, (unhide M).p2.keptX (X := []) ⟨rfl, rfl, rfl, Nat.le_refl _, fun _ _ _ => rfl⟩ (fun _ _ => by simp) (by simp)⟩) ?_ ?_)
  · intro ix o' hi ho a' w2 l_ vs hls hlf hJ hout hin hdep hnot
    match ix, ho with
    | 0, ho =>
      obtain rfl := Option.some.inj ho
      have e0 := hout 0 (by kernel_rfl)
      replace e0 : a'.eval (.tmp 0) = _ := e0.trans rfl
      exact wp_move (.tmp 0) rfl _ e0 ⟨_, rfl, told_of rfl, Le.keepG (St := (SB W4 b g r sg eg D D2)) [5, 11] SB.loc (by omega) (by decide) hJ⟩
    | 1, ho =>
      obtain rfl := Option.some.inj ho
      have e0 := hout 6 (by kernel_rfl)
      replace e0 : a'.eval (.tmp 6) = _ := e0.trans rfl
      exact wp_loadA jrow (.tmp 6) rfl b1 0 e0 (Ar.jobC J) rfl (((unhide M).at 0 _ rfl).kept hJ.1 ((unhide M).ne (b1, 23, Ar.jobC J) (by simp))).range ⟨_, rfl, told_of rfl, Le.keepG (St := (SB W4 b g r sg eg D D2)) [5, 11] SB.loc (by omega) (by decide) hJ⟩
    | 2, ho =>
      obtain rfl := Option.some.inj ho
      have e0 := hout 7 (by kernel_rfl)
      replace e0 : a'.eval (.tmp 7) = _ := e0.trans rfl
      exact o_fldS1 (.tmp 7) rfl b2 e0 ⟨_, rfl, told_of rfl, Le.keepG (St := (SB W4 b g r sg eg D D2)) [5, 11] SB.loc (by omega) (by decide) hJ⟩
    | 3, ho =>
      obtain rfl := Option.some.inj ho
      have e0 : a'.eval (.tmp 172) = .pointer (some ⟨b2, 1, none⟩) := by have h9 := hin 2 172 (by kernel_rfl) (by kernel_rfl); exact h9.1.trans (told_is _ h9.2 rfl)
      exact Ar.o_load3 (.tmp 172) rfl _ _ e0 (fits_cell (((unhide M).at 1 _ rfl).kept hJ.1 ((unhide M).ne (b2, 38, (S6.mk 4 n (-1) who be re).C) (by simp))) 1 _ rfl) ⟨_, rfl, told_of rfl, Le.keepG (St := (SB W4 b g r sg eg D D2)) [5, 11] SB.loc (by omega) (by decide) hJ⟩
    | 4, ho =>
      obtain rfl := Option.some.inj ho
      have e0 := hout 29 (by kernel_rfl)
      replace e0 : a'.eval (.tmp 29) = _ := e0.trans rfl
      exact wp_loadA Le.row23 (.tmp 29) rfl b4 0 e0 (Le.Le.C ⟨e, be, re⟩) rfl (((unhide M).at 2 _ rfl).kept hJ.1 ((unhide M).ne (b4, 73, Le.Le.C ⟨e, be, re⟩) (by simp))).range ⟨_, rfl, told_of rfl, Le.keepG (St := (SB W4 b g r sg eg D D2)) [5, 11] SB.loc (by omega) (by decide) hJ⟩
    | 5, ho =>
      obtain rfl := Option.some.inj ho
      have e0 : a'.eval (.tmp 170) = P0 b := by have h9 := hin 0 170 (by kernel_rfl) (by kernel_rfl); exact h9.1.trans (told_is _ h9.2 rfl)
      have e1 : a'.eval (.tmp 171) = aggV (Ar.jobC J) := by have h9 := hin 1 171 (by kernel_rfl) (by kernel_rfl); exact h9.1.trans (told_is _ h9.2 rfl)
      have e2 : a'.eval (.tmp 173) = .int .i64 n := by have h9 := hin 3 173 (by kernel_rfl) (by kernel_rfl); exact h9.1.trans (told_is _ h9.2 rfl)
      have e3 : a'.eval (.tmp 174) = aggV (Le.Le.C ⟨e, be, re⟩) := by have h9 := hin 4 174 (by kernel_rfl) (by kernel_rfl); exact h9.1.trans (told_is _ h9.2 rfl)
      have hP := hJ.2
      have e9 : (bif l_.getD 5 false then D2 else D) = D := by rw [show l_.getD 5 false = false from hlf]; rfl
      simp only [e9] at hP
      refine wp_callF 31 _ _ rfl #[P0 b, aggV (Ar.jobC J), .int .i64 n, aggV (Le.Le.C ⟨e, be, re⟩)] (by simp [e0, e1, e2, e3]) (cg31 _ _) ((unhide PU w2 hP.dv).mono ?_)
      rintro e w3 ⟨rfl, hk3, hR3⟩
      exact ⟨_, rfl, _, rfl, told_of rfl, Le.nextG (St := (SB W4 b g r sg eg D D2)) (by omega) ⟨hJ.1.trans (hk3.mono (by simp)), hP.devA hk3 hR3⟩⟩
    | 6, ho =>
      obtain rfl := Option.some.inj ho
      have e0 := hout 1 (by kernel_rfl)
      replace e0 : a'.eval (.tmp 1) = _ := e0.trans rfl
      exact wp_move (.tmp 1) rfl _ e0 ⟨_, rfl, told_of rfl, Le.keepG (St := (SB W4 b g r sg eg D D2)) [5, 11] SB.loc (by omega) (by decide) hJ⟩
    | 7, ho =>
      obtain rfl := Option.some.inj ho
      have e0 := hout 6 (by kernel_rfl)
      replace e0 : a'.eval (.tmp 6) = _ := e0.trans rfl
      exact wp_loadA jrow (.tmp 6) rfl b1 0 e0 (Ar.jobC J) rfl (((unhide M).at 0 _ rfl).kept hJ.1 ((unhide M).ne (b1, 23, Ar.jobC J) (by simp))).range ⟨_, rfl, told_of rfl, Le.keepG (St := (SB W4 b g r sg eg D D2)) [5, 11] SB.loc (by omega) (by decide) hJ⟩
    | 8, ho =>
      obtain rfl := Option.some.inj ho
      have e0 := hout 7 (by kernel_rfl)
      replace e0 : a'.eval (.tmp 7) = _ := e0.trans rfl
      exact o_fldS1 (.tmp 7) rfl b2 e0 ⟨_, rfl, told_of rfl, Le.keepG (St := (SB W4 b g r sg eg D D2)) [5, 11] SB.loc (by omega) (by decide) hJ⟩
    | 9, ho =>
      obtain rfl := Option.some.inj ho
      have e0 : a'.eval (.tmp 178) = .pointer (some ⟨b2, 1, none⟩) := by have h9 := hin 8 178 (by kernel_rfl) (by kernel_rfl); exact h9.1.trans (told_is _ h9.2 rfl)
      exact Ar.o_load3 (.tmp 178) rfl _ _ e0 (fits_cell (((unhide M).at 1 _ rfl).kept hJ.1 ((unhide M).ne (b2, 38, (S6.mk 4 n (-1) who be re).C) (by simp))) 1 _ rfl) ⟨_, rfl, told_of rfl, Le.keepG (St := (SB W4 b g r sg eg D D2)) [5, 11] SB.loc (by omega) (by decide) hJ⟩
    | 10, ho =>
      obtain rfl := Option.some.inj ho
      have e0 := hout 29 (by kernel_rfl)
      replace e0 : a'.eval (.tmp 29) = _ := e0.trans rfl
      exact wp_loadA Le.row23 (.tmp 29) rfl b4 0 e0 (Le.Le.C ⟨e, be, re⟩) rfl (((unhide M).at 2 _ rfl).kept hJ.1 ((unhide M).ne (b4, 73, Le.Le.C ⟨e, be, re⟩) (by simp))).range ⟨_, rfl, told_of rfl, Le.keepG (St := (SB W4 b g r sg eg D D2)) [5, 11] SB.loc (by omega) (by decide) hJ⟩
    | 11, ho =>
      obtain rfl := Option.some.inj ho
      have e0 : a'.eval (.tmp 176) = P0 r := by have h9 := hin 6 176 (by kernel_rfl) (by kernel_rfl); exact h9.1.trans (told_is _ h9.2 rfl)
      have e1 : a'.eval (.tmp 177) = aggV (Ar.jobC J) := by have h9 := hin 7 177 (by kernel_rfl) (by kernel_rfl); exact h9.1.trans (told_is _ h9.2 rfl)
      have e2 : a'.eval (.tmp 179) = .int .i64 n := by have h9 := hin 9 179 (by kernel_rfl) (by kernel_rfl); exact h9.1.trans (told_is _ h9.2 rfl)
      have e3 : a'.eval (.tmp 180) = aggV (Le.Le.C ⟨e, be, re⟩) := by have h9 := hin 10 180 (by kernel_rfl) (by kernel_rfl); exact h9.1.trans (told_is _ h9.2 rfl)
      have hP := hJ.2
      have e9 : (bif l_.getD 11 false then D2 else D) = D := by rw [show l_.getD 11 false = false from hlf]; rfl
      simp only [e9] at hP
      refine wp_callF 40 _ _ rfl #[P0 r, aggV (Ar.jobC J), .int .i64 n, aggV (Le.Le.C ⟨e, be, re⟩)] (by simp [e0, e1, e2, e3]) (cg40 _ _) ((unhide PR w2 hP.rv).mono ?_)
      rintro e w3 ⟨rfl, hR3, hk3⟩
      exact ⟨_, rfl, _, rfl, told_of rfl, Le.nextG (St := (SB W4 b g r sg eg D D2)) (by omega) ⟨hJ.1.trans (hk3.mono (by simp)), hP.devB hk3 hR3⟩⟩
    | 12, ho =>
      obtain rfl := Option.some.inj ho
      have e0 : a'.eval (.tmp 175) = .int .i64 se := by have h9 := hin 5 175 (by kernel_rfl) (by kernel_rfl); exact h9.1.trans (told_is _ h9.2 rfl)
      have e1 : a'.eval (.tmp 181) = .int .i64 se := by have h9 := hin 11 181 (by kernel_rfl) (by kernel_rfl); exact h9.1.trans (told_is _ h9.2 rfl)
      exact o_eql33 (.tmp 175) (.tmp 181) rfl _ _ true (by simp) e0 e1 ⟨_, rfl, told_of rfl, Le.keepG (St := (SB W4 b g r sg eg D D2)) [5, 11] SB.loc (by omega) (by decide) hJ⟩
    | 13, ho =>
      obtain rfl := Option.some.inj ho
      have e0 : a'.eval (.tmp 182) = .bool true := by have h9 := hin 12 182 (by kernel_rfl) (by kernel_rfl); exact h9.1.trans (told_is _ h9.2 rfl)
      exact wp_assignV (.tmp 182) rfl _ e0 ⟨_, rfl, told_of rfl, Le.keepG (St := (SB W4 b g r sg eg D D2)) [5, 11] SB.loc (by omega) (by decide) hJ⟩
  intro l_ vs9 V9 hl hJ htold
  have t0 : vs9 0 = P0 b := told_is _ (htold 0 (by decide)) rfl
  have t1 : vs9 1 = aggV (Ar.jobC J) := told_is _ (htold 1 (by decide)) rfl
  have t2 : vs9 2 = .pointer (some ⟨b2, 1, none⟩) := told_is _ (htold 2 (by decide)) rfl
  have t3 : vs9 3 = .int .i64 n := told_is _ (htold 3 (by decide)) rfl
  have t4 : vs9 4 = aggV (Le.Le.C ⟨e, be, re⟩) := told_is _ (htold 4 (by decide)) rfl
  have t5 : vs9 5 = .int .i64 se := told_is _ (htold 5 (by decide)) rfl
  have t6 : vs9 6 = P0 r := told_is _ (htold 6 (by decide)) rfl
  have t7 : vs9 7 = aggV (Ar.jobC J) := told_is _ (htold 7 (by decide)) rfl
  have t8 : vs9 8 = .pointer (some ⟨b2, 1, none⟩) := told_is _ (htold 8 (by decide)) rfl
  have t9 : vs9 9 = .int .i64 n := told_is _ (htold 9 (by decide)) rfl
  have t10 : vs9 10 = aggV (Le.Le.C ⟨e, be, re⟩) := told_is _ (htold 10 (by decide)) rfl
  have t11 : vs9 11 = .int .i64 se := told_is _ (htold 11 (by decide)) rfl
  have t12 : vs9 12 = .bool true := told_is _ (htold 12 (by decide)) rfl
  have t13 : vs9 13 = .bool true := told_is _ (htold 13 (by decide)) rfl
  rw [show (List.range 14).map vs9 = [vs9 0, vs9 1, vs9 2, vs9 3, vs9 4, vs9 5, vs9 6, vs9 7, vs9 8, vs9 9, vs9 10, vs9 11, vs9 12, vs9 13] from rfl]
  simp only [t0, t1, t2, t3, t4, t5, t6, t7, t8, t9, t10, t11, t12, t13, putAll, Act.put, List.setIfInBounds_toArray, List.set_cons_succ, List.set_cons_zero]
  clear t0 t1 t2 t3 t4 t5 t6 t7 t8 t9 t10 t11 t12 t13 htold
  have hP := hJ.2
  have hK := (unhide M).kept.trans hJ.1
  simp only [hl 5 (by decide), hl 11 (by decide), cond_true] at hP
  clear hJ hl
  go_wp2_with fail
  go_ret
  exact ⟨rfl, hP, hK⟩
set_option maxHeartbeats 8000000 in
theorem does_4Bb (b g r sg eg : Nat) (D : Dv.Dev) (J : Ar.Job) (n e who be : Int) (w : World) (h : P2 b g r sg eg D D w) (D2 : Dv.Dev) (se : Int) (v : Vi.Vw) (ve : Int) (e2 : Int) (PE : Hid (∀ W, Dv.Rv W r sg eg D → Calls Tryz.prog 37 #[P0 r, .int .i64 n] W fun x w' => x = .returned (.tuple #[.int .i64 e, .int .i64 e2]) ∧ w' = W)) (HVL : Hid ((Vi.vwC v).length = 19)) (PV : Hid (∀ W, Dv.Rv W r sg eg D → Calls Tryz.prog 14 #[P0 r, aggV (Ar.jobC J)] W fun x w' => x = .returned (.tuple #[aggV (Vi.vwC v), .int .i64 ve]) ∧ Kept [] W w')) (PU : Hid (∀ W, Dv.Dv W b g D → Calls Tryz.prog 31 #[P0 b, aggV (Ar.jobC J), .int .i64 n, aggV (Le.Le.C ⟨e, be, v.nu⟩)] W fun x w' => x = .returned (.int .i64 se) ∧ Kept [b, g] W w' ∧ Dv.Dv w' b g D2)) (PR : Hid (∀ W, Dv.Rv W r sg eg D → Calls Tryz.prog 40 #[P0 r, aggV (Ar.jobC J), .int .i64 n, aggV (Le.Le.C ⟨e, be, v.nu⟩)] W fun x w' => x = .returned (.int .i64 se) ∧ Dv.Rv w' r sg eg D2 ∧ Kept [r, sg, eg] W w')) : Calls Tryz.prog 12 #[P0 b, P0 r, aggV (Ar.jobC J), aggV (S6.mk 4 n (-1) who be (-1)).C] w fun x w' => x = .returned (.bool true) ∧ P2 b g r sg eg D2 D2 w' ∧ Kept [b, g, r, sg, eg] w w' := by
  have M : Hid (Pz b g r sg eg D D w w []) := hide (Pz.init h)
  clear h
  go_enter Tryz.func12, Tryz.ntmps12
  go_wp2_with (
    first
    | (refine wpBoxV rfl (.tmp 2) rfl (Ar.jobC J) rfl ?_
       intro W1 b1 e1 B1 K1
       replace M : Hid (Pz b g r sg eg D D w W1 [(b1, 23, Ar.jobC J)]) := hide ((unhide M).new e1 B1 K1)
       clear e1 B1 K1
       refine Stp.go ?_))
  constructor
  go_wp2_with (
    first
    | (refine wpBoxV rfl (.tmp 3) rfl ((S6.mk 4 n (-1) who be (-1)).C) rfl ?_
       intro W2 b2 e2 B2 K2
       replace M : Hid (Pz b g r sg eg D D w W2 [(b1, 23, Ar.jobC J), (b2, 38, (S6.mk 4 n (-1) who be (-1)).C)]) := hide ((unhide M).new e2 B2 K2)
       clear e2 B2 K2
       have k0 := fits_cell ((unhide M).at 1 _ rfl) 0 _ rfl
       have k1 := fits_cell ((unhide M).at 1 _ rfl) 1 _ rfl
       have k2 := fits_cell ((unhide M).at 1 _ rfl) 2 _ rfl
       have k5 := fits_cell ((unhide M).at 1 _ rfl) 5 _ rfl
       refine Stp.go ?_))
  constructor
  go_wp2_with (
    first
    | (go_at_call 37
       refine (unhide PE _ (unhide M).rv).mono ?_
       rintro e W3 ⟨rfl, q3⟩
       replace q3 := q3.symm
       subst q3
       refine Stp.go ?_))
  constructor
  go_wp2_with (
    first
    | (refine wpLoadA jrow rfl (.tmp 6) rfl b1 0 rfl (Ar.jobC J) rfl ((unhide M).at 0 _ rfl).range ?_
       refine Stp.go ?_))
  constructor
  go_wp2_with (
    first
    | (go_at_call 14
       refine (unhide PV _ (unhide M).rv).mono ?_
       rintro e W4 ⟨rfl, K4⟩
       replace M : Hid (Pz b g r sg eg D D w W4 [(b1, 23, Ar.jobC J), (b2, 38, (S6.mk 4 n (-1) who be (-1)).C)]) := hide ((unhide M).step K4)
       clear K4
       refine Stp.go ?_))
  constructor
  go_wp2_with (
    first
    | (refine wpNew Vi.row26 (Vi.vwC Vi.zv) rfl Vi.zero26 27 rfl rfl rfl (.tmp 161) rfl rfl rfl (Vi.vwC v) (unhide HVL) (Vi.vwC_one _) (by kernel_rfl) (by kernel_rfl) ?_
       intro W5 b5 e5 B5 K5
       replace M : Hid (Pz b g r sg eg D D w W5 [(b1, 23, Ar.jobC J), (b2, 38, (S6.mk 4 n (-1) who be (-1)).C), (b5, 29, Vi.vwC v)]) := hide ((unhide M).new e5 B5 K5)
       clear e5 B5 K5
       clear k5
       have k4 := fits_cell ((unhide M).at 1 _ rfl) 4 _ rfl
       have k9 := fits_cell ((unhide M).at 2 _ rfl) 0 (.int .i64 v.nu) rfl
       refine Stp.go ?_))
  constructor
  go_wp2_with (
    first
    | (refine Ar.wpBuildP rfl #[(0, .tmp 165), (1, .tmp 167), (2, .tmp 168)] rfl #[(0, .int .i64 e), (1, .int .i64 be), (2, .int .i64 v.nu)] (by simp [Act.eval]) (Le.Le.C ⟨e, be, v.nu⟩) (Le.build23p _ _ _ _) ?_
       refine Stp.go ?_))
  constructor
  go_wp2_with (
    first
    | (refine wpNew Le.row23 (Le.Le.C Le.le0) rfl Le.zero23 29 rfl rfl rfl (.tmp 169) rfl rfl rfl (Le.Le.C ⟨e, be, v.nu⟩) rfl (Le.leC_one _) (by kernel_rfl) (by kernel_rfl) ?_
       intro W6 b6 e6 B6 K6
       replace M : Hid (Pz b g r sg eg D D w W6 [(b1, 23, Ar.jobC J), (b2, 38, (S6.mk 4 n (-1) who be (-1)).C), (b5, 29, Vi.vwC v), (b6, 73, Le.Le.C ⟨e, be, v.nu⟩)]) := hide ((unhide M).new e6 B6 K6)
       clear e6 B6 K6
       refine Stp.go ?_))
  constructor
  go_wp2_with fail
  refine wp_region_any mixed (wpAny_gx 14 rfl (by kernel_rfl) [some (P0 b), some (aggV (Ar.jobC J)), some (.pointer (some ⟨b2, 1, none⟩)), some (.int .i64 n), some (aggV (Le.Le.C ⟨e, be, v.nu⟩)), some (.int .i64 se), some (P0 r), some (aggV (Ar.jobC J)), some (.pointer (some ⟨b2, 1, none⟩)), some (.int .i64 n), some (aggV (Le.Le.C ⟨e, be, v.nu⟩)), some (.int .i64 se), some (.bool true), some (.bool true)] rfl (by kernel_rfl) (fun l vs W => (SB W6 b g r sg eg D D2) (fun i => l.getD i false) vs W) (⟨⟨rfl, rfl, rfl, Nat.le_refl _, fun _ _ _ => rfl⟩, (unhide M).p2.keptX (X := []) ⟨rfl, rfl, rfl, Nat.le_refl _, fun _ _ _ => rfl⟩ (fun _ _ => by simp) (by simp)⟩) ?_ ?_)
  · intro ix o' hi ho a' w2 l_ vs hls hlf hJ hout hin hdep hnot
    match ix, ho with
    | 0, ho =>
      obtain rfl := Option.some.inj ho
      have e0 := hout 0 (by kernel_rfl)
      replace e0 : a'.eval (.tmp 0) = _ := e0.trans rfl
      exact wp_move (.tmp 0) rfl _ e0 ⟨_, rfl, told_of rfl, Le.keepG (St := (SB W6 b g r sg eg D D2)) [5, 11] SB.loc (by omega) (by decide) hJ⟩
    | 1, ho =>
      obtain rfl := Option.some.inj ho
      have e0 := hout 6 (by kernel_rfl)
      replace e0 : a'.eval (.tmp 6) = _ := e0.trans rfl
      exact wp_loadA jrow (.tmp 6) rfl b1 0 e0 (Ar.jobC J) rfl (((unhide M).at 0 _ rfl).kept hJ.1 ((unhide M).ne (b1, 23, Ar.jobC J) (by simp))).range ⟨_, rfl, told_of rfl, Le.keepG (St := (SB W6 b g r sg eg D D2)) [5, 11] SB.loc (by omega) (by decide) hJ⟩
    | 2, ho =>
      obtain rfl := Option.some.inj ho
      have e0 := hout 7 (by kernel_rfl)
      replace e0 : a'.eval (.tmp 7) = _ := e0.trans rfl
      exact o_fldS1 (.tmp 7) rfl b2 e0 ⟨_, rfl, told_of rfl, Le.keepG (St := (SB W6 b g r sg eg D D2)) [5, 11] SB.loc (by omega) (by decide) hJ⟩
    | 3, ho =>
      obtain rfl := Option.some.inj ho
      have e0 : a'.eval (.tmp 172) = .pointer (some ⟨b2, 1, none⟩) := by have h9 := hin 2 172 (by kernel_rfl) (by kernel_rfl); exact h9.1.trans (told_is _ h9.2 rfl)
      exact Ar.o_load3 (.tmp 172) rfl _ _ e0 (fits_cell (((unhide M).at 1 _ rfl).kept hJ.1 ((unhide M).ne (b2, 38, (S6.mk 4 n (-1) who be (-1)).C) (by simp))) 1 _ rfl) ⟨_, rfl, told_of rfl, Le.keepG (St := (SB W6 b g r sg eg D D2)) [5, 11] SB.loc (by omega) (by decide) hJ⟩
    | 4, ho =>
      obtain rfl := Option.some.inj ho
      have e0 := hout 29 (by kernel_rfl)
      replace e0 : a'.eval (.tmp 29) = _ := e0.trans rfl
      exact wp_loadA Le.row23 (.tmp 29) rfl b6 0 e0 (Le.Le.C ⟨e, be, v.nu⟩) rfl (((unhide M).at 3 _ rfl).kept hJ.1 ((unhide M).ne (b6, 73, Le.Le.C ⟨e, be, v.nu⟩) (by simp))).range ⟨_, rfl, told_of rfl, Le.keepG (St := (SB W6 b g r sg eg D D2)) [5, 11] SB.loc (by omega) (by decide) hJ⟩
    | 5, ho =>
      obtain rfl := Option.some.inj ho
      have e0 : a'.eval (.tmp 170) = P0 b := by have h9 := hin 0 170 (by kernel_rfl) (by kernel_rfl); exact h9.1.trans (told_is _ h9.2 rfl)
      have e1 : a'.eval (.tmp 171) = aggV (Ar.jobC J) := by have h9 := hin 1 171 (by kernel_rfl) (by kernel_rfl); exact h9.1.trans (told_is _ h9.2 rfl)
      have e2 : a'.eval (.tmp 173) = .int .i64 n := by have h9 := hin 3 173 (by kernel_rfl) (by kernel_rfl); exact h9.1.trans (told_is _ h9.2 rfl)
      have e3 : a'.eval (.tmp 174) = aggV (Le.Le.C ⟨e, be, v.nu⟩) := by have h9 := hin 4 174 (by kernel_rfl) (by kernel_rfl); exact h9.1.trans (told_is _ h9.2 rfl)
      have hP := hJ.2
      have e9 : (bif l_.getD 5 false then D2 else D) = D := by rw [show l_.getD 5 false = false from hlf]; rfl
      simp only [e9] at hP
      refine wp_callF 31 _ _ rfl #[P0 b, aggV (Ar.jobC J), .int .i64 n, aggV (Le.Le.C ⟨e, be, v.nu⟩)] (by simp [e0, e1, e2, e3]) (cg31 _ _) ((unhide PU w2 hP.dv).mono ?_)
      rintro e w3 ⟨rfl, hk3, hR3⟩
      exact ⟨_, rfl, _, rfl, told_of rfl, Le.nextG (St := (SB W6 b g r sg eg D D2)) (by omega) ⟨hJ.1.trans (hk3.mono (by simp)), hP.devA hk3 hR3⟩⟩
    | 6, ho =>
      obtain rfl := Option.some.inj ho
      have e0 := hout 1 (by kernel_rfl)
      replace e0 : a'.eval (.tmp 1) = _ := e0.trans rfl
      exact wp_move (.tmp 1) rfl _ e0 ⟨_, rfl, told_of rfl, Le.keepG (St := (SB W6 b g r sg eg D D2)) [5, 11] SB.loc (by omega) (by decide) hJ⟩
    | 7, ho =>
      obtain rfl := Option.some.inj ho
      have e0 := hout 6 (by kernel_rfl)
      replace e0 : a'.eval (.tmp 6) = _ := e0.trans rfl
      exact wp_loadA jrow (.tmp 6) rfl b1 0 e0 (Ar.jobC J) rfl (((unhide M).at 0 _ rfl).kept hJ.1 ((unhide M).ne (b1, 23, Ar.jobC J) (by simp))).range ⟨_, rfl, told_of rfl, Le.keepG (St := (SB W6 b g r sg eg D D2)) [5, 11] SB.loc (by omega) (by decide) hJ⟩
    | 8, ho =>
      obtain rfl := Option.some.inj ho
      have e0 := hout 7 (by kernel_rfl)
      replace e0 : a'.eval (.tmp 7) = _ := e0.trans rfl
      exact o_fldS1 (.tmp 7) rfl b2 e0 ⟨_, rfl, told_of rfl, Le.keepG (St := (SB W6 b g r sg eg D D2)) [5, 11] SB.loc (by omega) (by decide) hJ⟩
    | 9, ho =>
      obtain rfl := Option.some.inj ho
      have e0 : a'.eval (.tmp 178) = .pointer (some ⟨b2, 1, none⟩) := by have h9 := hin 8 178 (by kernel_rfl) (by kernel_rfl); exact h9.1.trans (told_is _ h9.2 rfl)
      exact Ar.o_load3 (.tmp 178) rfl _ _ e0 (fits_cell (((unhide M).at 1 _ rfl).kept hJ.1 ((unhide M).ne (b2, 38, (S6.mk 4 n (-1) who be (-1)).C) (by simp))) 1 _ rfl) ⟨_, rfl, told_of rfl, Le.keepG (St := (SB W6 b g r sg eg D D2)) [5, 11] SB.loc (by omega) (by decide) hJ⟩
    | 10, ho =>
      obtain rfl := Option.some.inj ho
      have e0 := hout 29 (by kernel_rfl)
      replace e0 : a'.eval (.tmp 29) = _ := e0.trans rfl
      exact wp_loadA Le.row23 (.tmp 29) rfl b6 0 e0 (Le.Le.C ⟨e, be, v.nu⟩) rfl (((unhide M).at 3 _ rfl).kept hJ.1 ((unhide M).ne (b6, 73, Le.Le.C ⟨e, be, v.nu⟩) (by simp))).range ⟨_, rfl, told_of rfl, Le.keepG (St := (SB W6 b g r sg eg D D2)) [5, 11] SB.loc (by omega) (by decide) hJ⟩
    | 11, ho =>
      obtain rfl := Option.some.inj ho
      have e0 : a'.eval (.tmp 176) = P0 r := by have h9 := hin 6 176 (by kernel_rfl) (by kernel_rfl); exact h9.1.trans (told_is _ h9.2 rfl)
      have e1 : a'.eval (.tmp 177) = aggV (Ar.jobC J) := by have h9 := hin 7 177 (by kernel_rfl) (by kernel_rfl); exact h9.1.trans (told_is _ h9.2 rfl)
      have e2 : a'.eval (.tmp 179) = .int .i64 n := by have h9 := hin 9 179 (by kernel_rfl) (by kernel_rfl); exact h9.1.trans (told_is _ h9.2 rfl)
      have e3 : a'.eval (.tmp 180) = aggV (Le.Le.C ⟨e, be, v.nu⟩) := by have h9 := hin 10 180 (by kernel_rfl) (by kernel_rfl); exact h9.1.trans (told_is _ h9.2 rfl)
      have hP := hJ.2
      have e9 : (bif l_.getD 11 false then D2 else D) = D := by rw [show l_.getD 11 false = false from hlf]; rfl
      simp only [e9] at hP
      refine wp_callF 40 _ _ rfl #[P0 r, aggV (Ar.jobC J), .int .i64 n, aggV (Le.Le.C ⟨e, be, v.nu⟩)] (by simp [e0, e1, e2, e3]) (cg40 _ _) ((unhide PR w2 hP.rv).mono ?_)
      rintro e w3 ⟨rfl, hR3, hk3⟩
      exact ⟨_, rfl, _, rfl, told_of rfl, Le.nextG (St := (SB W6 b g r sg eg D D2)) (by omega) ⟨hJ.1.trans (hk3.mono (by simp)), hP.devB hk3 hR3⟩⟩
    | 12, ho =>
      obtain rfl := Option.some.inj ho
      have e0 : a'.eval (.tmp 175) = .int .i64 se := by have h9 := hin 5 175 (by kernel_rfl) (by kernel_rfl); exact h9.1.trans (told_is _ h9.2 rfl)
      have e1 : a'.eval (.tmp 181) = .int .i64 se := by have h9 := hin 11 181 (by kernel_rfl) (by kernel_rfl); exact h9.1.trans (told_is _ h9.2 rfl)
      exact o_eql33 (.tmp 175) (.tmp 181) rfl _ _ true (by simp) e0 e1 ⟨_, rfl, told_of rfl, Le.keepG (St := (SB W6 b g r sg eg D D2)) [5, 11] SB.loc (by omega) (by decide) hJ⟩
    | 13, ho =>
      obtain rfl := Option.some.inj ho
      have e0 : a'.eval (.tmp 182) = .bool true := by have h9 := hin 12 182 (by kernel_rfl) (by kernel_rfl); exact h9.1.trans (told_is _ h9.2 rfl)
      exact wp_assignV (.tmp 182) rfl _ e0 ⟨_, rfl, told_of rfl, Le.keepG (St := (SB W6 b g r sg eg D D2)) [5, 11] SB.loc (by omega) (by decide) hJ⟩
  intro l_ vs9 V9 hl hJ htold
  have t0 : vs9 0 = P0 b := told_is _ (htold 0 (by decide)) rfl
  have t1 : vs9 1 = aggV (Ar.jobC J) := told_is _ (htold 1 (by decide)) rfl
  have t2 : vs9 2 = .pointer (some ⟨b2, 1, none⟩) := told_is _ (htold 2 (by decide)) rfl
  have t3 : vs9 3 = .int .i64 n := told_is _ (htold 3 (by decide)) rfl
  have t4 : vs9 4 = aggV (Le.Le.C ⟨e, be, v.nu⟩) := told_is _ (htold 4 (by decide)) rfl
  have t5 : vs9 5 = .int .i64 se := told_is _ (htold 5 (by decide)) rfl
  have t6 : vs9 6 = P0 r := told_is _ (htold 6 (by decide)) rfl
  have t7 : vs9 7 = aggV (Ar.jobC J) := told_is _ (htold 7 (by decide)) rfl
  have t8 : vs9 8 = .pointer (some ⟨b2, 1, none⟩) := told_is _ (htold 8 (by decide)) rfl
  have t9 : vs9 9 = .int .i64 n := told_is _ (htold 9 (by decide)) rfl
  have t10 : vs9 10 = aggV (Le.Le.C ⟨e, be, v.nu⟩) := told_is _ (htold 10 (by decide)) rfl
  have t11 : vs9 11 = .int .i64 se := told_is _ (htold 11 (by decide)) rfl
  have t12 : vs9 12 = .bool true := told_is _ (htold 12 (by decide)) rfl
  have t13 : vs9 13 = .bool true := told_is _ (htold 13 (by decide)) rfl
  rw [show (List.range 14).map vs9 = [vs9 0, vs9 1, vs9 2, vs9 3, vs9 4, vs9 5, vs9 6, vs9 7, vs9 8, vs9 9, vs9 10, vs9 11, vs9 12, vs9 13] from rfl]
  simp only [t0, t1, t2, t3, t4, t5, t6, t7, t8, t9, t10, t11, t12, t13, putAll, Act.put, List.setIfInBounds_toArray, List.set_cons_succ, List.set_cons_zero]
  clear t0 t1 t2 t3 t4 t5 t6 t7 t8 t9 t10 t11 t12 t13 htold
  have hP := hJ.2
  have hK := (unhide M).kept.trans hJ.1
  simp only [hl 5 (by decide), hl 11 (by decide), cond_true] at hP
  clear hJ hl
  go_wp2_with fail
  go_ret
  exact ⟨rfl, hP, hK⟩

end Go.Proofs.YtcfflbafclmheaaGreatDoor
