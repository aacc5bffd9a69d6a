/-
  do.
-/
import Derived.Test.YthidiolgngkffaaNo
import Derived.Test.YthidiolgngkffaaSp
namespace Go.Proofs.Ythidiolgngkffaa
set_option maxRecDepth 100000
open Go.RowKit


/-- What a step makes of a watch. -/
def Wt.step (v : Wt) (x : Sp) : Wt := if x.kd = 1 then (v.look x.n x.l).1 else if x.kd = 2 then (v.forget x.n).1 else if x.kd = 3 then v.clear else v
theorem step_ok {A : Int} {v : Wt} (h : v.Ok A) (hA : 0 ≤ A) (x : Sp) : (v.step x).Ok (A + 1) := by
  unfold Wt.step
  split
  · exact look_ok h hA _ _
  · split
    · exact (forget_ok h hA _).mono (by omega)
    · split
      · exact (clear_ok h hA).mono (by omega)
      · exact h.mono (by omega)
theorem res17 (w : World) (a b c : Value) (tmps : Array Value) (h4 : tmps[6]?.getD undef = a) (h5 : tmps[7]?.getD undef = b) (h6 : tmps[8]?.getD undef = c) : (results Try.f17 tmps).run Try.prog w = .ok (.tuple #[a, b, c]) w := by
  simp [results, Try.results17, h4, h5, h6]
theorem blk_ne {W : World} {a b T U : Nat} {us vs : List Value} (h1 : Blk W a T us) (h2 : Blk W b U vs) (h : T ≠ U) : a ≠ b := by
  rintro rfl
  unfold Blk at h1 h2
  rw [h1] at h2
  injection h2 with h2
  injection h2 with _ h2
  exact h h2
section
variable {o : Oper} {a : Act} {w : World} {K : Act → World → Prop} {Q : Exit → Act → World → Prop}
theorem o_eqlII (x y : Operand) (ho : o.op = .binOp .eql 3 x y 3) (m : Int) (hx : a.eval x = .int .i64 m) (hy : a.eval y = .int .i64 m) (h : K (a.put o.dst (.bool true)) w) : o.wp Try.prog a w K Q := by
  unfold Oper.wp execOp
  simp only [ho, hx, hy]
  simp [go_sem]
  exact h
end
/-- Two blocks turn, each at an operation of its own. -/
@[reducible] def SD (X : List Nat) (w : World) (mk : Wt → Wt → List (Nat × Nat × List Value)) (S0 S1 : Wt) (d : Nat → Bool) (_ : Nat → Value) (W : World) : Prop :=
  ∃ S R, Mm X w W (mk S R) ∧ (d 5 = false → S = S0) ∧ (d 5 = true → S = S1) ∧ (d 10 = false → R = S0) ∧ (d 10 = true → R = S1)
theorem SD.loc {X : List Nat} {w : World} {mk : Wt → Wt → List (Nat × Nat × List Value)} {S0 S1 : Wt} : ∀ d d' vs vs' W, (∀ i ∈ [5, 10], d i = d' i ∧ vs i = vs' i) → SD X w mk S0 S1 d vs W → SD X w mk S0 S1 d' vs' W := by
  intro d d' vs vs' W H h
  have e0 := (H 5 (by simp)).1
  have e1 := (H 10 (by simp)).1
  unfold SD at h ⊢
  rw [← e0, ← e1]
  exact h
theorem l_in (x : Sp) (j : Nat) (hj : j < x.l.C.length) : x.C[2 + j]? = x.l.C[j]? := by
  have : j < 3 := by simpa [Le.C] using hj
  rcases (show j = 0 ∨ j = 1 ∨ j = 2 by omega) with rfl | rfl | rfl <;> rfl
set_option maxHeartbeats 2000000 in
theorem do_1true (v u : Wt) (b c : Nat) (x : Sp) (r2 : Int) (w : World) (hB : Blk w b 65 v.C) (hC : Blk w c 79 v.C) (hk1 : x.kd = 1) (p21 : ∀ W, Blk W b 65 v.C → Calls Try.prog 21 #[P0 b, .int .i64 x.n, aggV x.l.C] W fun e w' => e = .returned (.tuple #[.bool true, .int .i64 r2]) ∧ Blk w' b 65 u.C ∧ Kept [b] W w') (p31 : ∀ W, Blk W c 79 v.C → Calls Try.prog 31 #[P0 c, .int .i64 x.n, aggV x.l.C] W fun e w' => e = .returned (.tuple #[.bool true, .int .i64 r2]) ∧ Blk w' c 79 u.C ∧ Kept [c] W w') : Calls Try.prog 17 #[P0 b, P0 c, aggV x.C] w fun e w' => e = .returned (.tuple #[P0 b, P0 c, .bool true]) ∧ Blk w' b 65 (Wt.C u) ∧ Blk w' c 79 (Wt.C u) ∧ Kept [b, c] w w' := by
  have dk1 : decide (x.kd = 1) = true := by simpa using hk1
  have dq1 : (x.kd == 1) = true := by simpa using hk1
  have P21 : ∀ W, Blk W b 65 v.C → Hid (Calls Try.prog 21 #[P0 b, .int .i64 x.n, aggV x.l.C] W fun e w' => e = .returned (.tuple #[.bool true, .int .i64 r2]) ∧ Blk w' b 65 u.C ∧ Kept [b] W w') := fun W hW => hide (p21 W hW)
  have P31 : ∀ W, Blk W c 79 v.C → Hid (Calls Try.prog 31 #[P0 c, .int .i64 x.n, aggV x.l.C] W fun e w' => e = .returned (.tuple #[.bool true, .int .i64 r2]) ∧ Blk w' c 79 u.C ∧ Kept [c] W w') := fun W hW => hide (p31 W hW)
  clear p21 p31 hk1
  go_enter Try.func17, Try.ntmps17
  have M : Hid (Mm [b, c] w w [(b, 65, v.C), (c, 79, v.C)]) := hide (Mm.two hB hC (blk_ne hB hC (by decide)))
  go_wp2_with (
    first
    | (refine wpBoxV rfl (.tmp 2) rfl (x.C) rfl ?_
       intro W1 b1 e1 B1 K1
       replace M : Hid (Mm [b, c] w W1 [(b, 65, v.C), (c, 79, v.C), (b1, 48, x.C)]) := hide ((unhide M).new e1 B1 K1)
       clear e1 B1 K1
       have ck : W1.cell? ⟨b1, 0, none⟩ = some (.int .i64 x.kd) := fits_cell ((unhide M).at 2 _ rfl) 0 _ rfl
       have c1 := fits_cell ((unhide M).at 2 _ rfl) 1 _ rfl
       refine Stp.go ?_))
  constructor
  go_wp2_with (
    first
    | (refine wpLoadA row23 rfl (.tmp 23) rfl b1 2 rfl x.l.C rfl (((unhide M).at 2 _ rfl).rangeIn _ (fun j hj => l_in x j hj)) ?_
       clear ck c1
       refine Stp.go ?_))
  constructor
  go_wp2_with (
    first
    | (go_at_call 21
       refine (unhide (P21 _ ((unhide M).at 0 _ rfl))).mono ?_
       rintro e W2 ⟨rfl, B2, K2⟩
       replace M : Hid (Mm [b, c] w W2 [(b, 65, Wt.C u), (c, 79, v.C), (b1, 48, x.C)]) := hide ((unhide M).mut 0 rfl K2 B2)
       clear B2 K2
       have c1 := fits_cell ((unhide M).at 2 _ rfl) 1 _ rfl
       refine Stp.go ?_))
  constructor
  go_wp2_with (
    first
    | (refine wpLoadA row23 rfl (.tmp 32) rfl b1 2 rfl x.l.C rfl (((unhide M).at 2 _ rfl).rangeIn _ (fun j hj => l_in x j hj)) ?_
       clear c1
       refine Stp.go ?_))
  constructor
  go_wp2_with (
    first
    | (go_at_call 31
       refine (unhide (P31 _ ((unhide M).at 1 _ rfl))).mono ?_
       rintro e W3 ⟨rfl, B3, K3⟩
       replace M : Hid (Mm [b, c] w W3 [(b, 65, Wt.C u), (c, 79, Wt.C u), (b1, 48, x.C)]) := hide ((unhide M).mut 1 rfl K3 B3)
       clear B3 K3
       refine Stp.go ?_))
  constructor
  go_wp2_with (
    first
    | (go_at_call 11
       refine (num11 _ _).mono ?_
       rintro e W4 ⟨rfl, q4⟩
       replace q4 := q4.symm
       subst q4
       refine Stp.go ?_))
  constructor
  go_wp2_with fail
  refine bodyPost_ret (res17 _ _ _ _ _ rfl rfl rfl) rfl ?_
  exact ⟨rfl, (unhide M).at 0 _ rfl, (unhide M).at 1 _ rfl, (unhide M).kept⟩
set_option maxHeartbeats 2000000 in
theorem do_1false (v u : Wt) (b c : Nat) (x : Sp) (r2 : Int) (w : World) (hB : Blk w b 65 v.C) (hC : Blk w c 79 v.C) (hk1 : x.kd = 1) (p21 : ∀ W, Blk W b 65 v.C → Calls Try.prog 21 #[P0 b, .int .i64 x.n, aggV x.l.C] W fun e w' => e = .returned (.tuple #[.bool false, .int .i64 r2]) ∧ Blk w' b 65 u.C ∧ Kept [b] W w') (p31 : ∀ W, Blk W c 79 v.C → Calls Try.prog 31 #[P0 c, .int .i64 x.n, aggV x.l.C] W fun e w' => e = .returned (.tuple #[.bool false, .int .i64 r2]) ∧ Blk w' c 79 u.C ∧ Kept [c] W w') : Calls Try.prog 17 #[P0 b, P0 c, aggV x.C] w fun e w' => e = .returned (.tuple #[P0 b, P0 c, .bool true]) ∧ Blk w' b 65 (Wt.C u) ∧ Blk w' c 79 (Wt.C u) ∧ Kept [b, c] w w' := by
  have dk1 : decide (x.kd = 1) = true := by simpa using hk1
  have dq1 : (x.kd == 1) = true := by simpa using hk1
  have P21 : ∀ W, Blk W b 65 v.C → Hid (Calls Try.prog 21 #[P0 b, .int .i64 x.n, aggV x.l.C] W fun e w' => e = .returned (.tuple #[.bool false, .int .i64 r2]) ∧ Blk w' b 65 u.C ∧ Kept [b] W w') := fun W hW => hide (p21 W hW)
  have P31 : ∀ W, Blk W c 79 v.C → Hid (Calls Try.prog 31 #[P0 c, .int .i64 x.n, aggV x.l.C] W fun e w' => e = .returned (.tuple #[.bool false, .int .i64 r2]) ∧ Blk w' c 79 u.C ∧ Kept [c] W w') := fun W hW => hide (p31 W hW)
  clear p21 p31 hk1
  go_enter Try.func17, Try.ntmps17
  have M : Hid (Mm [b, c] w w [(b, 65, v.C), (c, 79, v.C)]) := hide (Mm.two hB hC (blk_ne hB hC (by decide)))
  go_wp2_with (
    first
    | (refine wpBoxV rfl (.tmp 2) rfl (x.C) rfl ?_
       intro W1 b1 e1 B1 K1
       replace M : Hid (Mm [b, c] w W1 [(b, 65, v.C), (c, 79, v.C), (b1, 48, x.C)]) := hide ((unhide M).new e1 B1 K1)
       clear e1 B1 K1
       have ck : W1.cell? ⟨b1, 0, none⟩ = some (.int .i64 x.kd) := fits_cell ((unhide M).at 2 _ rfl) 0 _ rfl
       have c1 := fits_cell ((unhide M).at 2 _ rfl) 1 _ rfl
       refine Stp.go ?_))
  constructor
  go_wp2_with (
    first
    | (refine wpLoadA row23 rfl (.tmp 23) rfl b1 2 rfl x.l.C rfl (((unhide M).at 2 _ rfl).rangeIn _ (fun j hj => l_in x j hj)) ?_
       clear ck c1
       refine Stp.go ?_))
  constructor
  go_wp2_with (
    first
    | (go_at_call 21
       refine (unhide (P21 _ ((unhide M).at 0 _ rfl))).mono ?_
       rintro e W2 ⟨rfl, B2, K2⟩
       replace M : Hid (Mm [b, c] w W2 [(b, 65, Wt.C u), (c, 79, v.C), (b1, 48, x.C)]) := hide ((unhide M).mut 0 rfl K2 B2)
       clear B2 K2
       have c1 := fits_cell ((unhide M).at 2 _ rfl) 1 _ rfl
       refine Stp.go ?_))
  constructor
  go_wp2_with (
    first
    | (refine wpLoadA row23 rfl (.tmp 32) rfl b1 2 rfl x.l.C rfl (((unhide M).at 2 _ rfl).rangeIn _ (fun j hj => l_in x j hj)) ?_
       clear c1
       refine Stp.go ?_))
  constructor
  go_wp2_with (
    first
    | (go_at_call 31
       refine (unhide (P31 _ ((unhide M).at 1 _ rfl))).mono ?_
       rintro e W3 ⟨rfl, B3, K3⟩
       replace M : Hid (Mm [b, c] w W3 [(b, 65, Wt.C u), (c, 79, Wt.C u), (b1, 48, x.C)]) := hide ((unhide M).mut 1 rfl K3 B3)
       clear B3 K3
       refine Stp.go ?_))
  constructor
  go_wp2_with (
    first
    | (go_at_call 11
       refine (num11 _ _).mono ?_
       rintro e W4 ⟨rfl, q4⟩
       replace q4 := q4.symm
       subst q4
       refine Stp.go ?_))
  constructor
  go_wp2_with fail
  refine bodyPost_ret (res17 _ _ _ _ _ rfl rfl rfl) rfl ?_
  exact ⟨rfl, (unhide M).at 0 _ rfl, (unhide M).at 1 _ rfl, (unhide M).kept⟩
set_option maxHeartbeats 2000000 in
theorem do_2 (v u : Wt) (b c : Nat) (x : Sp) (r2 : Int) (w : World) (hB : Blk w b 65 v.C) (hC : Blk w c 79 v.C) (hk1 : ¬ x.kd = 1) (hk2 : x.kd = 2) (p29 : ∀ W, Blk W b 65 v.C → Calls Try.prog 29 #[P0 b, .int .i64 x.n] W fun e w' => e = .returned (.int .i64 r2) ∧ Blk w' b 65 u.C ∧ Kept [b] W w') (p32 : ∀ W, Blk W c 79 v.C → Calls Try.prog 32 #[P0 c, .int .i64 x.n] W fun e w' => e = .returned (.int .i64 r2) ∧ Blk w' c 79 u.C ∧ Kept [c] W w') : Calls Try.prog 17 #[P0 b, P0 c, aggV x.C] w fun e w' => e = .returned (.tuple #[P0 b, P0 c, .bool true]) ∧ Blk w' b 65 (Wt.C u) ∧ Blk w' c 79 (Wt.C u) ∧ Kept [b, c] w w' := by
  have dk1 : decide (x.kd = 1) = false := by simpa using hk1
  have dq1 : (x.kd == 1) = false := by simpa using hk1
  have dk2 : decide (x.kd = 2) = true := by simpa using hk2
  have dq2 : (x.kd == 2) = true := by simpa using hk2
  have P29 : ∀ W, Blk W b 65 v.C → Hid (Calls Try.prog 29 #[P0 b, .int .i64 x.n] W fun e w' => e = .returned (.int .i64 r2) ∧ Blk w' b 65 u.C ∧ Kept [b] W w') := fun W hW => hide (p29 W hW)
  have P32 : ∀ W, Blk W c 79 v.C → Hid (Calls Try.prog 32 #[P0 c, .int .i64 x.n] W fun e w' => e = .returned (.int .i64 r2) ∧ Blk w' c 79 u.C ∧ Kept [c] W w') := fun W hW => hide (p32 W hW)
  clear p29 p32 hk1 hk2
  go_enter Try.func17, Try.ntmps17
  have M : Hid (Mm [b, c] w w [(b, 65, v.C), (c, 79, v.C)]) := hide (Mm.two hB hC (blk_ne hB hC (by decide)))
  go_wp2_with (
    first
    | (refine wpBoxV rfl (.tmp 2) rfl (x.C) rfl ?_
       intro W1 b1 e1 B1 K1
       replace M : Hid (Mm [b, c] w W1 [(b, 65, v.C), (c, 79, v.C), (b1, 48, x.C)]) := hide ((unhide M).new e1 B1 K1)
       clear e1 B1 K1
       have ck : W1.cell? ⟨b1, 0, none⟩ = some (.int .i64 x.kd) := fits_cell ((unhide M).at 2 _ rfl) 0 _ rfl
       refine Stp.go ?_))
  constructor
  go_wp2_with fail
  refine wp_region_any mixed (wpAny_gx 15 rfl (by kernel_rfl) [some (P0 b), some (P0 c), some (P0 b), some (.pointer (some ⟨b1, 0 + 1, none⟩)), some (.int .i64 x.n), some (.int .i64 r2), some (.int .i64 r2), some (P0 c), some (.pointer (some ⟨b1, 0 + 1, none⟩)), some (.int .i64 x.n), some (.int .i64 r2), some (.bool true), some (P0 b), some (P0 c), some (.bool true)] rfl (by kernel_rfl) (fun l vs W => (SD [b, c] w (fun S R : Wt => [(b, 65, S.C), (c, 79, R.C), (b1, 48, x.C)]) v u) (fun i => l.getD i false) vs W) (⟨v, v, (unhide M).drew, (fun _ => rfl), (fun h => by cases h), (fun _ => rfl), fun h => by cases h⟩) ?_ ?_)
  · intro ix o' hi ho a' w2 l vs hls hlf hJ hout hin hdep hnot
    match ix, ho with
    | 0, ho =>
      obtain rfl := Option.some.inj ho
      have e0 := hout 0 (by kernel_rfl)
      replace e0 : a'.eval (.tmp 0) = _ := e0.trans rfl
      exact wp_move (.tmp 0) rfl _ e0 ⟨_, rfl, told_of rfl, keepG (St := (SD [b, c] w (fun S R : Wt => [(b, 65, S.C), (c, 79, R.C), (b1, 48, x.C)]) v u)) [5, 10] SD.loc (by omega) (by decide) hJ⟩
    | 1, ho =>
      obtain rfl := Option.some.inj ho
      have e0 := hout 1 (by kernel_rfl)
      replace e0 : a'.eval (.tmp 1) = _ := e0.trans rfl
      exact wp_move (.tmp 1) rfl _ e0 ⟨_, rfl, told_of rfl, keepG (St := (SD [b, c] w (fun S R : Wt => [(b, 65, S.C), (c, 79, R.C), (b1, 48, x.C)]) v u)) [5, 10] SD.loc (by omega) (by decide) hJ⟩
    | 2, ho =>
      obtain rfl := Option.some.inj ho
      have e0 := hout 0 (by kernel_rfl)
      replace e0 : a'.eval (.tmp 0) = _ := e0.trans rfl
      exact wp_move (.tmp 0) rfl _ e0 ⟨_, rfl, told_of rfl, keepG (St := (SD [b, c] w (fun S R : Wt => [(b, 65, S.C), (c, 79, R.C), (b1, 48, x.C)]) v u)) [5, 10] SD.loc (by omega) (by decide) hJ⟩
    | 3, ho =>
      obtain rfl := Option.some.inj ho
      have e0 := hout 5 (by kernel_rfl)
      replace e0 : a'.eval (.tmp 5) = _ := e0.trans rfl
      exact o_fld48_1 (.tmp 5) rfl b1 0 e0 ⟨_, rfl, told_of rfl, keepG (St := (SD [b, c] w (fun S R : Wt => [(b, 65, S.C), (c, 79, R.C), (b1, 48, x.C)]) v u)) [5, 10] SD.loc (by omega) (by decide) hJ⟩
    | 4, ho =>
      obtain rfl := Option.some.inj ho
      have e0 : a'.eval (.tmp 53) = .pointer (some ⟨b1, 0 + 1, none⟩) := by have h9 := hin 3 53 (by kernel_rfl) (by kernel_rfl); exact h9.1.trans (told_is _ h9.2 rfl)
      have hJ2 := hJ
      obtain ⟨S, R, hM, _⟩ := hJ2
      exact o_load3 (.tmp 53) rfl _ _ e0 (fits_cell (hM.at 2 _ rfl) 1 _ rfl) ⟨_, rfl, told_of rfl, keepG (St := (SD [b, c] w (fun S R : Wt => [(b, 65, S.C), (c, 79, R.C), (b1, 48, x.C)]) v u)) [5, 10] SD.loc (by omega) (by decide) hJ⟩
    | 5, ho =>
      obtain rfl := Option.some.inj ho
      have e0 : a'.eval (.tmp 52) = P0 b := by have h9 := hin 2 52 (by kernel_rfl) (by kernel_rfl); exact h9.1.trans (told_is _ h9.2 rfl)
      have e1 : a'.eval (.tmp 54) = .int .i64 x.n := by have h9 := hin 4 54 (by kernel_rfl) (by kernel_rfl); exact h9.1.trans (told_is _ h9.2 rfl)
      obtain ⟨S, R, hM, hS0, hS1, hR0, hR1⟩ := hJ
      obtain rfl := (hS0 hlf).symm
      refine wp_callF 29 _ _ rfl #[P0 b, .int .i64 x.n] (by simp [e0, e1]) (cg29 _ _) ((unhide (P29 _ (hM.at 0 _ rfl))).mono ?_)
      rintro e w3 ⟨rfl, hB3, hk3⟩
      exact ⟨_, rfl, _, rfl, told_of rfl, nextG (St := (SD [b, c] w (fun S R : Wt => [(b, 65, S.C), (c, 79, R.C), (b1, 48, x.C)]) v u)) (by omega) ⟨_, R, hM.mut 0 rfl hk3 hB3, (fun h => by cases h), (fun _ => rfl), hR0, hR1⟩⟩
    | 6, ho =>
      obtain rfl := Option.some.inj ho
      have e0 : a'.eval (.tmp 55) = .int .i64 r2 := by have h9 := hin 5 55 (by kernel_rfl) (by kernel_rfl); exact h9.1.trans (told_is _ h9.2 rfl)
      refine wp_callF 11 _ _ rfl #[.int .i64 r2] (by simp [e0]) (cg11 _ _) ((num11 _ _).mono ?_)
      rintro e w3 ⟨rfl, rfl⟩
      exact ⟨_, rfl, _, rfl, told_of rfl, keepG (St := (SD [b, c] w (fun S R : Wt => [(b, 65, S.C), (c, 79, R.C), (b1, 48, x.C)]) v u)) [5, 10] SD.loc (by omega) (by decide) hJ⟩
    | 7, ho =>
      obtain rfl := Option.some.inj ho
      have e0 := hout 1 (by kernel_rfl)
      replace e0 : a'.eval (.tmp 1) = _ := e0.trans rfl
      exact wp_move (.tmp 1) rfl _ e0 ⟨_, rfl, told_of rfl, keepG (St := (SD [b, c] w (fun S R : Wt => [(b, 65, S.C), (c, 79, R.C), (b1, 48, x.C)]) v u)) [5, 10] SD.loc (by omega) (by decide) hJ⟩
    | 8, ho =>
      obtain rfl := Option.some.inj ho
      have e0 := hout 5 (by kernel_rfl)
      replace e0 : a'.eval (.tmp 5) = _ := e0.trans rfl
      exact o_fld48_1 (.tmp 5) rfl b1 0 e0 ⟨_, rfl, told_of rfl, keepG (St := (SD [b, c] w (fun S R : Wt => [(b, 65, S.C), (c, 79, R.C), (b1, 48, x.C)]) v u)) [5, 10] SD.loc (by omega) (by decide) hJ⟩
    | 9, ho =>
      obtain rfl := Option.some.inj ho
      have e0 : a'.eval (.tmp 58) = .pointer (some ⟨b1, 0 + 1, none⟩) := by have h9 := hin 8 58 (by kernel_rfl) (by kernel_rfl); exact h9.1.trans (told_is _ h9.2 rfl)
      have hJ2 := hJ
      obtain ⟨S, R, hM, _⟩ := hJ2
      exact o_load3 (.tmp 58) rfl _ _ e0 (fits_cell (hM.at 2 _ rfl) 1 _ rfl) ⟨_, rfl, told_of rfl, keepG (St := (SD [b, c] w (fun S R : Wt => [(b, 65, S.C), (c, 79, R.C), (b1, 48, x.C)]) v u)) [5, 10] SD.loc (by omega) (by decide) hJ⟩
    | 10, ho =>
      obtain rfl := Option.some.inj ho
      have e0 : a'.eval (.tmp 57) = P0 c := by have h9 := hin 7 57 (by kernel_rfl) (by kernel_rfl); exact h9.1.trans (told_is _ h9.2 rfl)
      have e1 : a'.eval (.tmp 59) = .int .i64 x.n := by have h9 := hin 9 59 (by kernel_rfl) (by kernel_rfl); exact h9.1.trans (told_is _ h9.2 rfl)
      obtain ⟨S, R, hM, hS0, hS1, hR0, hR1⟩ := hJ
      obtain rfl := (hR0 hlf).symm
      refine wp_callF 32 _ _ rfl #[P0 c, .int .i64 x.n] (by simp [e0, e1]) (cg32 _ _) ((unhide (P32 _ (hM.at 1 _ rfl))).mono ?_)
      rintro e w3 ⟨rfl, hB3, hk3⟩
      exact ⟨_, rfl, _, rfl, told_of rfl, nextG (St := (SD [b, c] w (fun S R : Wt => [(b, 65, S.C), (c, 79, R.C), (b1, 48, x.C)]) v u)) (by omega) ⟨S, _, hM.mut 1 rfl hk3 hB3, hS0, hS1, (fun h => by cases h), (fun _ => rfl)⟩⟩
    | 11, ho =>
      obtain rfl := Option.some.inj ho
      have e0 : a'.eval (.tmp 56) = .int .i64 r2 := by have h9 := hin 6 56 (by kernel_rfl) (by kernel_rfl); exact h9.1.trans (told_is _ h9.2 rfl)
      have e1 : a'.eval (.tmp 60) = .int .i64 r2 := by have h9 := hin 10 60 (by kernel_rfl) (by kernel_rfl); exact h9.1.trans (told_is _ h9.2 rfl)
      exact o_eqlII (.tmp 56) (.tmp 60) rfl r2 e0 e1 ⟨_, rfl, told_of rfl, keepG (St := (SD [b, c] w (fun S R : Wt => [(b, 65, S.C), (c, 79, R.C), (b1, 48, x.C)]) v u)) [5, 10] SD.loc (by omega) (by decide) hJ⟩
    | 12, ho =>
      obtain rfl := Option.some.inj ho
      have e0 : a'.eval (.tmp 50) = P0 b := by have h9 := hin 0 50 (by kernel_rfl) (by kernel_rfl); exact h9.1.trans (told_is _ h9.2 rfl)
      exact wp_assignV (.tmp 50) rfl _ e0 ⟨_, rfl, told_of rfl, keepG (St := (SD [b, c] w (fun S R : Wt => [(b, 65, S.C), (c, 79, R.C), (b1, 48, x.C)]) v u)) [5, 10] SD.loc (by omega) (by decide) hJ⟩
    | 13, ho =>
      obtain rfl := Option.some.inj ho
      have e0 : a'.eval (.tmp 51) = P0 c := by have h9 := hin 1 51 (by kernel_rfl) (by kernel_rfl); exact h9.1.trans (told_is _ h9.2 rfl)
      exact wp_assignV (.tmp 51) rfl _ e0 ⟨_, rfl, told_of rfl, keepG (St := (SD [b, c] w (fun S R : Wt => [(b, 65, S.C), (c, 79, R.C), (b1, 48, x.C)]) v u)) [5, 10] SD.loc (by omega) (by decide) hJ⟩
    | 14, ho =>
      obtain rfl := Option.some.inj ho
      have e0 : a'.eval (.tmp 61) = .bool true := by have h9 := hin 11 61 (by kernel_rfl) (by kernel_rfl); exact h9.1.trans (told_is _ h9.2 rfl)
      exact wp_assignV (.tmp 61) rfl _ e0 ⟨_, rfl, told_of rfl, keepG (St := (SD [b, c] w (fun S R : Wt => [(b, 65, S.C), (c, 79, R.C), (b1, 48, x.C)]) v u)) [5, 10] SD.loc (by omega) (by decide) hJ⟩
  intro l_ vs4 V4 hl hJ htold
  have t0 : vs4 0 = P0 b := told_is _ (htold 0 (by decide)) rfl
  have t1 : vs4 1 = P0 c := told_is _ (htold 1 (by decide)) rfl
  have t2 : vs4 2 = P0 b := told_is _ (htold 2 (by decide)) rfl
  have t3 : vs4 3 = .pointer (some ⟨b1, 0 + 1, none⟩) := told_is _ (htold 3 (by decide)) rfl
  have t4 : vs4 4 = .int .i64 x.n := told_is _ (htold 4 (by decide)) rfl
  have t5 : vs4 5 = .int .i64 r2 := told_is _ (htold 5 (by decide)) rfl
  have t6 : vs4 6 = .int .i64 r2 := told_is _ (htold 6 (by decide)) rfl
  have t7 : vs4 7 = P0 c := told_is _ (htold 7 (by decide)) rfl
  have t8 : vs4 8 = .pointer (some ⟨b1, 0 + 1, none⟩) := told_is _ (htold 8 (by decide)) rfl
  have t9 : vs4 9 = .int .i64 x.n := told_is _ (htold 9 (by decide)) rfl
  have t10 : vs4 10 = .int .i64 r2 := told_is _ (htold 10 (by decide)) rfl
  have t11 : vs4 11 = .bool true := told_is _ (htold 11 (by decide)) rfl
  have t12 : vs4 12 = P0 b := told_is _ (htold 12 (by decide)) rfl
  have t13 : vs4 13 = P0 c := told_is _ (htold 13 (by decide)) rfl
  have t14 : vs4 14 = .bool true := told_is _ (htold 14 (by decide)) rfl
  rw [show (List.range 15).map vs4 = [vs4 0, vs4 1, vs4 2, vs4 3, vs4 4, vs4 5, vs4 6, vs4 7, vs4 8, vs4 9, vs4 10, vs4 11, vs4 12, vs4 13, vs4 14] from rfl]
  simp only [t0, t1, t2, t3, t4, t5, t6, t7, t8, t9, t10, t11, t12, t13, t14, putAll, Act.put, List.setIfInBounds_toArray, List.set_cons_succ, List.set_cons_zero]
  clear t0 t1 t2 t3 t4 t5 t6 t7 t8 t9 t10 t11 t12 t13 t14 htold
  obtain ⟨S4, R4, hM4, _, hS4, _, hR4⟩ := hJ
  obtain rfl := (hS4 (hl 5 (by decide))).symm
  obtain rfl := (hR4 (hl 10 (by decide))).symm
  replace M : Hid (Mm [b, c] w V4 [(b, 65, u.C), (c, 79, u.C), (b1, 48, x.C)]) := hide hM4
  clear hS4 hR4 hM4 hl ck
  go_wp2_with fail
  refine bodyPost_ret (res17 _ _ _ _ _ rfl rfl rfl) rfl ?_
  exact ⟨rfl, (unhide M).at 0 _ rfl, (unhide M).at 1 _ rfl, (unhide M).kept⟩
set_option maxHeartbeats 2000000 in
theorem do_3 {A : Int} (v : Wt) (b c : Nat) (x : Sp) (w : World) (hB : Blk w b 65 v.C) (hC : Blk w c 79 v.C) (hv : v.Ok A) (hk1 : ¬ x.kd = 1) (hk2 : ¬ x.kd = 2) (hk3 : x.kd = 3) : Calls Try.prog 17 #[P0 b, P0 c, aggV x.C] w fun e w' => e = .returned (.tuple #[P0 b, P0 c, .bool true]) ∧ Blk w' b 65 (Wt.C v.clear) ∧ Blk w' c 79 (Wt.C v.clear) ∧ Kept [b, c] w w' := by
  have dk1 : decide (x.kd = 1) = false := by simpa using hk1
  have dq1 : (x.kd == 1) = false := by simpa using hk1
  have dk2 : decide (x.kd = 2) = false := by simpa using hk2
  have dq2 : (x.kd == 2) = false := by simpa using hk2
  have dk3 : decide (x.kd = 3) = true := by simpa using hk3
  have dq3 : (x.kd == 3) = true := by simpa using hk3
  have P33 : ∀ W, Blk W b 65 v.C → Hid (Calls Try.prog 33 #[P0 b] W fun e w' => e = .returned (.int .i64 0) ∧ Blk w' b 65 (Wt.C v.clear) ∧ Kept [b] W w') := fun W hW => hide (clear33 v b W hW hv)
  have P34 : ∀ W, Blk W c 79 v.C → Hid (Calls Try.prog 34 #[P0 c] W fun e w' => e = .returned (.int .i64 0) ∧ Blk w' c 79 (Wt.C v.clear) ∧ Kept [c] W w') := fun W hW => hide (rclear34 v c W hW hv)
  clear hk1 hk2 hk3
  go_enter Try.func17, Try.ntmps17
  have M : Hid (Mm [b, c] w w [(b, 65, v.C), (c, 79, v.C)]) := hide (Mm.two hB hC (blk_ne hB hC (by decide)))
  go_wp2_with (
    first
    | (refine wpBoxV rfl (.tmp 2) rfl (x.C) rfl ?_
       intro W1 b1 e1 B1 K1
       replace M : Hid (Mm [b, c] w W1 [(b, 65, v.C), (c, 79, v.C), (b1, 48, x.C)]) := hide ((unhide M).new e1 B1 K1)
       clear e1 B1 K1
       have ck : W1.cell? ⟨b1, 0, none⟩ = some (.int .i64 x.kd) := fits_cell ((unhide M).at 2 _ rfl) 0 _ rfl
       refine Stp.go ?_))
  constructor
  go_wp2_with (
    first
    | (go_at_call 33
       refine (unhide (P33 _ ((unhide M).at 0 _ rfl))).mono ?_
       rintro e W2 ⟨rfl, B2, K2⟩
       replace M : Hid (Mm [b, c] w W2 [(b, 65, Wt.C v.clear), (c, 79, v.C), (b1, 48, x.C)]) := hide ((unhide M).mut 0 rfl K2 B2)
       clear B2 K2
       refine Stp.go ?_))
  constructor
  go_wp2_with (
    first
    | (go_at_call 11
       refine (num11 _ _).mono ?_
       rintro e W3 ⟨rfl, q3⟩
       replace q3 := q3.symm
       subst q3
       refine Stp.go ?_))
  constructor
  go_wp2_with (
    first
    | (go_at_call 34
       refine (unhide (P34 _ ((unhide M).at 1 _ rfl))).mono ?_
       rintro e W4 ⟨rfl, B4, K4⟩
       replace M : Hid (Mm [b, c] w W4 [(b, 65, Wt.C v.clear), (c, 79, Wt.C v.clear), (b1, 48, x.C)]) := hide ((unhide M).mut 1 rfl K4 B4)
       clear B4 K4
       refine Stp.go ?_))
  constructor
  go_wp2_with fail
  refine bodyPost_ret (res17 _ _ _ _ _ rfl rfl rfl) rfl ?_
  exact ⟨rfl, (unhide M).at 0 _ rfl, (unhide M).at 1 _ rfl, (unhide M).kept⟩
set_option maxHeartbeats 2000000 in
theorem do_4 {A : Int} (v : Wt) (b c : Nat) (x : Sp) (w : World) (hB : Blk w b 65 v.C) (hC : Blk w c 79 v.C) (hv : v.Ok A) (hA : 0 ≤ A ∧ A ≤ 1000000) (hk1 : ¬ x.kd = 1) (hk2 : ¬ x.kd = 2) (hk3 : ¬ x.kd = 3) (hk4 : x.kd = 4) : Calls Try.prog 17 #[P0 b, P0 c, aggV x.C] w fun e w' => ∃ bn, e = .returned (.tuple #[P0 bn, P0 c, .bool true]) ∧ Blk w' bn 65 v.C ∧ Blk w' c 79 v.C ∧ Kept [b, c] w w' ∧ w.heap.size ≤ bn := by
  have dk1 : decide (x.kd = 1) = false := by simpa using hk1
  have dq1 : (x.kd == 1) = false := by simpa using hk1
  have dk2 : decide (x.kd = 2) = false := by simpa using hk2
  have dq2 : (x.kd == 2) = false := by simpa using hk2
  have dk3 : decide (x.kd = 3) = false := by simpa using hk3
  have dq3 : (x.kd == 3) = false := by simpa using hk3
  have dk4 : decide (x.kd = 4) = true := by simpa using hk4
  have dq4 : (x.kd == 4) = true := by simpa using hk4
  have P35 : ∀ W, Blk W b 65 v.C → Hid (Calls Try.prog 35 #[P0 b] W fun e w' => ∃ c, e = .returned (P0 c) ∧ W.heap.size ≤ c ∧ Blk w' c 65 v.C ∧ Kept [] W w') := fun W hW => hide (copy35 v b W hW hv)
  have P19 : ∀ q W, Blk W q 65 v.C → Blk W b 65 v.C → Hid (Calls Try.prog 19 #[P0 q, P0 b] W fun e w' => e = .returned (.bool true) ∧ Kept [] W w') := fun q W hq hW => hide (by have := same_yy v v q b W hq hW hv.len hv.len hv.n.1 hv.n.1; rw [decide_eq_true rfl] at this; exact this)
  obtain ⟨r1, hr1⟩ : ∃ r1, r1 = (v.look 0 ⟨0, 777, 0⟩).2.1 := ⟨_, rfl⟩
  obtain ⟨r2, hr2⟩ : ∃ r2, r2 = (v.look 0 ⟨0, 777, 0⟩).2.2 := ⟨_, rfl⟩
  have P21 : ∀ W, Blk W b 65 v.C → Hid (Calls Try.prog 21 #[P0 b, .int .i64 0, aggV (Le.mk 0 777 0).C] W fun e w' => e = .returned (.tuple #[.bool r1, .int .i64 r2]) ∧ Blk w' b 65 (Wt.C (v.look 0 ⟨0, 777, 0⟩).1) ∧ Kept [b] W w') := fun W hW => hide (by have := look21 v b 0 ⟨0, 777, 0⟩ W hW hv hA; rw [← hr1, ← hr2] at this; exact this)
  clear hk1 hk2 hk3 hk4 hr1 hr2
  go_enter Try.func17, Try.ntmps17
  have M : Hid (Mm [b, c] w w [(b, 65, v.C), (c, 79, v.C)]) := hide (Mm.two hB hC (blk_ne hB hC (by decide)))
  go_wp2_with (
    first
    | (refine wpBoxV rfl (.tmp 2) rfl (x.C) rfl ?_
       intro W1 b1 e1 B1 K1
       replace M : Hid (Mm [b, c] w W1 [(b, 65, v.C), (c, 79, v.C), (b1, 48, x.C)]) := hide ((unhide M).new e1 B1 K1)
       clear e1 B1 K1
       have ck : W1.cell? ⟨b1, 0, none⟩ = some (.int .i64 x.kd) := fits_cell ((unhide M).at 2 _ rfl) 0 _ rfl
       refine Stp.go ?_))
  constructor
  go_wp2_with (
    first
    | (go_at_call 35
       refine (unhide (P35 _ ((unhide M).at 0 _ rfl))).mono ?_
       rintro e W2 ⟨bn, rfl, hbn, B2, K2⟩
       have hl0 := ((unhide M).at 0 _ rfl).lt
       have hl1 := ((unhide M).at 1 _ rfl).lt
       have hl2 := ((unhide M).at 2 _ rfl).lt
       have hlz := (unhide M).kept.size
       have HBN : Hid (w.heap.size ≤ bn) := hide (by omega)
       replace M : Hid (Mm [b, c] w W2 [(b, 65, v.C), (c, 79, v.C), (b1, 48, x.C), (bn, 65, v.C)]) := hide (((unhide M).step K2).add B2 (by omega) (fun y hy => by simp at hy; rcases hy with rfl | rfl | rfl <;> simp at * <;> omega))
       clear hbn B2 K2 hl0 hl1 hl2 hlz
       refine Stp.go ?_))
  constructor
  go_wp2_with (
    first
    | (go_at_call 19
       refine (unhide (P19 bn _ ((unhide M).at 3 _ rfl) ((unhide M).at 0 _ rfl))).mono ?_
       rintro e W3 ⟨rfl, K3⟩
       replace M : Hid (Mm [b, c] w W3 [(b, 65, v.C), (c, 79, v.C), (b1, 48, x.C), (bn, 65, v.C)]) := hide ((unhide M).step K3)
       clear K3
       refine Stp.go ?_))
  constructor
  go_wp2_with (
    first
    | (refine wpBuildP (by rfl) #[(1, .const (.int .i64 777))] (by rfl) #[(1, .int .i64 777)] (by kernel_rfl) (Le.mk 0 777 0).C (build23q _ 777) ?_
       refine Stp.go ?_))
  constructor
  go_wp2_with (
    first
    | (go_at_call 21
       refine (unhide (P21 _ ((unhide M).at 0 _ rfl))).mono ?_
       rintro e W4 ⟨rfl, B4, K4⟩
       replace M : Hid (Mm [b, c] w W4 [(b, 65, Wt.C (v.look 0 ⟨0, 777, 0⟩).1), (c, 79, v.C), (b1, 48, x.C), (bn, 65, v.C)]) := hide ((unhide M).mut 0 rfl K4 B4)
       clear B4 K4
       refine Stp.go ?_))
  constructor
  go_wp2_with fail
  refine bodyPost_ret (res17 _ _ _ _ _ rfl rfl rfl) rfl ?_
  exact ⟨bn, rfl, (unhide M).at 3 _ rfl, (unhide M).at 1 _ rfl, (unhide M).kept, unhide HBN⟩
set_option maxHeartbeats 2000000 in
theorem do_5 (v : Wt) (b c : Nat) (x : Sp) (w : World) (hB : Blk w b 65 v.C) (hC : Blk w c 79 v.C) (hk1 : ¬ x.kd = 1) (hk2 : ¬ x.kd = 2) (hk3 : ¬ x.kd = 3) (hk4 : ¬ x.kd = 4) : Calls Try.prog 17 #[P0 b, P0 c, aggV x.C] w fun e w' => e = .returned (.tuple #[P0 b, P0 c, .bool true]) ∧ Blk w' b 65 (Wt.C v) ∧ Blk w' c 79 (Wt.C v) ∧ Kept [b, c] w w' := by
  have dk1 : decide (x.kd = 1) = false := by simpa using hk1
  have dq1 : (x.kd == 1) = false := by simpa using hk1
  have dk2 : decide (x.kd = 2) = false := by simpa using hk2
  have dq2 : (x.kd == 2) = false := by simpa using hk2
  have dk3 : decide (x.kd = 3) = false := by simpa using hk3
  have dq3 : (x.kd == 3) = false := by simpa using hk3
  have dk4 : decide (x.kd = 4) = false := by simpa using hk4
  have dq4 : (x.kd == 4) = false := by simpa using hk4
  clear hk1 hk2 hk3 hk4
  go_enter Try.func17, Try.ntmps17
  have M : Hid (Mm [b, c] w w [(b, 65, v.C), (c, 79, v.C)]) := hide (Mm.two hB hC (blk_ne hB hC (by decide)))
  go_wp2_with (
    first
    | (refine wpBoxV rfl (.tmp 2) rfl (x.C) rfl ?_
       intro W1 b1 e1 B1 K1
       replace M : Hid (Mm [b, c] w W1 [(b, 65, v.C), (c, 79, v.C), (b1, 48, x.C)]) := hide ((unhide M).new e1 B1 K1)
       clear e1 B1 K1
       have ck : W1.cell? ⟨b1, 0, none⟩ = some (.int .i64 x.kd) := fits_cell ((unhide M).at 2 _ rfl) 0 _ rfl
       refine Stp.go ?_))
  constructor
  go_wp2_with fail
  refine bodyPost_ret (res17 _ _ _ _ _ rfl rfl rfl) rfl ?_
  exact ⟨rfl, (unhide M).at 0 _ rfl, (unhide M).at 1 _ rfl, (unhide M).kept⟩
/-- do: one step of both. -/
theorem do17 {A : Int} (v : Wt) (b c : Nat) (x : Sp) (w : World) (hB : Blk w b 65 v.C) (hC : Blk w c 79 v.C) (hv : v.Ok A) (hA : 0 ≤ A ∧ A ≤ 1000000) : Calls Try.prog 17 #[P0 b, P0 c, aggV x.C] w fun e w' => ∃ bn, e = .returned (.tuple #[P0 bn, P0 c, .bool true]) ∧ Blk w' bn 65 (v.step x).C ∧ Blk w' c 79 (v.step x).C ∧ Kept [b, c] w w' ∧ (bn = b ∨ w.heap.size ≤ bn) := by
  have one : ∀ u : Wt, (Calls Try.prog 17 #[P0 b, P0 c, aggV x.C] w fun e w' => e = .returned (.tuple #[P0 b, P0 c, .bool true]) ∧ Blk w' b 65 (Wt.C u) ∧ Blk w' c 79 (Wt.C u) ∧ Kept [b, c] w w') → Calls Try.prog 17 #[P0 b, P0 c, aggV x.C] w fun e w' => ∃ bn, e = .returned (.tuple #[P0 bn, P0 c, .bool true]) ∧ Blk w' bn 65 u.C ∧ Blk w' c 79 u.C ∧ Kept [b, c] w w' ∧ (bn = b ∨ w.heap.size ≤ bn) :=
    fun u h => h.mono (fun e w' ⟨h1, h2, h3, h4⟩ => ⟨b, h1, h2, h3, h4, .inl rfl⟩)
  unfold Wt.step
  by_cases hk1 : x.kd = 1
  · rw [if_pos hk1]
    refine one _ ?_
    cases hr : (v.look x.n x.l).2.1 with
    | true => exact do_1true v _ b c x (v.look x.n x.l).2.2 w hB hC hk1 (fun W hW => by have := look21 v b x.n x.l W hW hv hA; rw [hr] at this; exact this) (fun W hW => by have := rlook31 v c x.n x.l W hW hv hA; rw [hr] at this; exact this)
    | false => exact do_1false v _ b c x (v.look x.n x.l).2.2 w hB hC hk1 (fun W hW => by have := look21 v b x.n x.l W hW hv hA; rw [hr] at this; exact this) (fun W hW => by have := rlook31 v c x.n x.l W hW hv hA; rw [hr] at this; exact this)
  · rw [if_neg hk1]
    by_cases hk2 : x.kd = 2
    · rw [if_pos hk2]
      exact one _ (do_2 v _ b c x (v.forget x.n).2 w hB hC hk1 hk2 (fun W hW => forget29 v b x.n W hW hv) (fun W hW => rforget32 v c x.n W hW hv))
    · rw [if_neg hk2]
      by_cases hk3 : x.kd = 3
      · rw [if_pos hk3]; exact one _ (do_3 v b c x w hB hC hv hk1 hk2 hk3)
      · rw [if_neg hk3]
        by_cases hk4 : x.kd = 4
        · exact (do_4 v b c x w hB hC hv hA hk1 hk2 hk3 hk4).mono (fun e w' ⟨bn, h1, h2, h3, h4, h5⟩ => ⟨bn, h1, h2, h3, h4, .inr h5⟩)
        · exact one _ (do_5 v b c x w hB hC hk1 hk2 hk3 hk4)

end Go.Proofs.Ythidiolgngkffaa
