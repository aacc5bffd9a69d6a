/-
  stands; LeaseWatches.
-/
import Derived.Test.YthidiolgngkffaaDt
namespace Go.Proofs.Ythidiolgngkffaa
set_option maxRecDepth 100000
open Go.RowKit


section
variable {o : Oper} {a : Act} {w : World} {K : Act → World → Prop} {Q : Exit → Act → World → Prop}
theorem o_neqBB (x y : Operand) (ho : o.op = .binOp .neq 4 x y 4) (m : Bool) (hx : a.eval x = .bool m) (hy : a.eval y = .bool m) (h : K (a.put o.dst (.bool false)) w) : o.wp Try.prog a w K Q := by
  unfold Oper.wp execOp
  simp only [ho, hx, hy]
  simp [go_sem]
  exact h
end
set_option maxHeartbeats 4000000 in
theorem stands18 {A : Int} (v : Wt) (b c : Nat) (w : World) (hB : Blk w b 65 v.C) (hC : Blk w c 79 v.C) (hv : v.Ok A) : Calls Try.prog 18 #[P0 b, P0 c] w fun e w' => e = .returned (.bool true) ∧ Kept [] w w' := by
  have H0 := hide hB
  have H1 := hide hC
  go_enter Try.func18, Try.ntmps18
  have M : Hid (Mm [b, c] w w [(b, 65, v.C), (c, 79, v.C)]) := hide (Mm.two hB hC (blk_ne hB hC (by decide)))
  clear hB hC
  go_wp2_with fail
  go_loopw [5] (fun i wr => ∃ m : Int, -1 ≤ m ∧ m ≤ 9 ∧ i = .int .i64 m ∧ Hid (Mm [b, c] w wr [(b, 65, v.C), (c, 79, v.C)])) (fun i _ => (9 - intOf i).toNat)
  case atStart => exact ⟨-1, by omega, by omega, rfl, M⟩
  case round =>
    clear M
    obtain ⟨m, hm1, hm9, rfl, M⟩ := hrel
    by_cases hlt : m ≤ 8
    · have hd : decide (m ≤ 8) = true := by simpa using hlt
      go_wp2_with (
        first
        | (go_at_call 30
           refine (said30 v b m _ ((unhide M).at 0 _ rfl) hv).mono ?_
           rintro e W21 ⟨rfl, K21⟩
           replace M : Hid (Mm [b, c] w W21 [(b, 65, v.C), (c, 79, v.C)]) := hide ((unhide M).step K21)
           clear K21
           refine Stp.go ?_))
      constructor
      go_wp2_with (
        first
        | (refine wpNew row23 (le0.C) rfl zero23 6 rfl rfl rfl (.tmp 17) rfl rfl rfl ((v.of m).said.C) rfl (leC_one _) (by kernel_rfl) (by kernel_rfl) ?_
           intro W22 b22 e22 B22 K22
           replace M : Hid (Mm [b, c] w W22 [(b, 65, v.C), (c, 79, v.C), (b22, 23, (v.of m).said.C)]) := hide ((unhide M).new e22 B22 K22)
           clear e22 B22 K22
           refine Stp.go ?_))
      constructor
      go_wp2_with (
        first
        | (go_at_call 36
           refine (of36 v c m _ ((unhide M).at 1 _ rfl) hv).mono ?_
           rintro e W23 ⟨rfl, K23⟩
           replace M : Hid (Mm [b, c] w W23 [(b, 65, v.C), (c, 79, v.C), (b22, 23, (v.of m).said.C)]) := hide ((unhide M).step K23)
           clear K23
           refine Stp.go ?_))
      constructor
      go_wp2_with (
        first
        | (refine wpNew row76 (lk0.C) rfl zero76 8 rfl rfl rfl (.tmp 21) rfl rfl rfl ((v.of m).C) rfl (lkC_one _) (by kernel_rfl) (by kernel_rfl) ?_
           intro W24 b24 e24 B24 K24
           replace M : Hid (Mm [b, c] w W24 [(b, 65, v.C), (c, 79, v.C), (b22, 23, (v.of m).said.C), (b24, 76, (v.of m).C)]) := hide ((unhide M).new e24 B24 K24)
           clear e24 B24 K24
           refine Stp.go ?_))
      constructor
      go_wp2_with fail
      refine wp_region_any mixed (wpAny_tq 18 rfl (by kernel_rfl) [some (P0 b), some (.int .i64 m), some (.int .i64 (v.of m).age), some (.pointer (some ⟨b24, 0 + 4, none⟩)), some (.int .i64 (v.of m).age), some (.bool false), some (.bool false), some (aggV (v.of m).said.C), some (.pointer (some ⟨b24, 0 + 1, none⟩)), some (aggV (v.of m).said.C), some (.bool false), some (.bool false), some (.bool false), some (.bool (v.of m).is), some (.pointer (some ⟨b24, 0, none⟩)), some (.bool (v.of m).is), some (.bool false), some (.bool false)] rfl (by kernel_rfl) (by kernel_rfl) ?_ ?_)
      · intro i o' hi hsk ho a' w2 hout hin hk2
        replace hk2 : Kept [] W24 w2 := ⟨hk2.os, hk2.tape, hk2.output, hk2.size, hk2.block⟩
        match i, ho, hsk with
        | 0, ho, hsk =>
          obtain rfl := Option.some.inj ho
          exact wp_move (.tmp 0) rfl _ ((hout 0 (by kernel_rfl)).trans rfl) ⟨_, rfl, tq_is _ _ _ _ rfl, Kept.refl _ _, fun _ _ _ _ _ => trivial⟩
        | 1, ho, hsk =>
          obtain rfl := Option.some.inj ho
          exact wp_move (.tmp 5) rfl _ ((hout 5 (by kernel_rfl)).trans rfl) ⟨_, rfl, tq_is _ _ _ _ rfl, Kept.refl _ _, fun _ _ _ _ _ => trivial⟩
        | 2, ho, hsk =>
          obtain rfl := Option.some.inj ho
          have e0 : a'.eval (.tmp 22) = P0 b := is_tq (hin 0 22 (by kernel_rfl) (by kernel_rfl)) rfl
          have e1 : a'.eval (.tmp 23) = .int .i64 m := is_tq (hin 1 23 (by kernel_rfl) (by kernel_rfl)) rfl
          refine wp_callF 22 _ _ rfl #[P0 b, .int .i64 m] (by simp [e0, e1]) (cg22 _ _) ((age22 v b m _ (((unhide M).step hk2).at 0 _ rfl) hv).mono ?_)
          rintro e w3 ⟨rfl, rfl⟩
          exact ⟨_, rfl, _, rfl, tq_is _ _ _ _ rfl, Kept.refl _ _, fun _ _ _ _ _ => trivial⟩
        | 3, ho, hsk =>
          obtain rfl := Option.some.inj ho
          exact o_fld76_2 (.tmp 8) rfl b24 0 ((hout 8 (by kernel_rfl)).trans rfl) ⟨_, rfl, tq_is _ _ _ _ rfl, Kept.refl _ _, fun _ _ _ _ _ => trivial⟩
        | 4, ho, hsk =>
          obtain rfl := Option.some.inj ho
          have e0 : a'.eval (.tmp 25) = .pointer (some ⟨b24, 0 + 4, none⟩) := is_tq (hin 3 25 (by kernel_rfl) (by kernel_rfl)) rfl
          exact o_load3 (.tmp 25) rfl _ _ e0 (fits_cell (((unhide M).step hk2).at 3 _ rfl) 4 _ rfl) ⟨_, rfl, tq_is _ _ _ _ rfl, Kept.refl _ _, fun _ _ _ _ _ => trivial⟩
        | 5, ho, hsk =>
          obtain rfl := Option.some.inj ho
          have e0 : a'.eval (.tmp 24) = .int .i64 (v.of m).age := is_tq (hin 2 24 (by kernel_rfl) (by kernel_rfl)) rfl
          have e1 : a'.eval (.tmp 26) = .int .i64 (v.of m).age := is_tq (hin 4 26 (by kernel_rfl) (by kernel_rfl)) rfl
          exact o_neqII (.tmp 24) (.tmp 26) rfl _ e0 e1 ⟨_, rfl, tq_is _ _ _ _ rfl, Kept.refl _ _, fun _ _ _ _ _ => trivial⟩
        | 6, ho, hsk =>
          obtain rfl := Option.some.inj ho
          have e0 : a'.eval (.tmp 27) = .bool false := is_tq (hin 5 27 (by kernel_rfl) (by kernel_rfl)) rfl
          exact wp_move (.tmp 27) rfl _ e0 ⟨_, rfl, tq_is _ _ _ _ rfl, Kept.refl _ _, fun _ _ _ _ _ => trivial⟩
        | 7, ho, hsk =>
          obtain rfl := Option.some.inj ho
          exact wp_loadA row23 (.tmp 6) rfl b22 0 ((hout 6 (by kernel_rfl)).trans rfl) ((v.of m).said.C) rfl (((unhide M).step hk2).at 2 _ rfl).range ⟨_, rfl, tq_is _ _ _ _ rfl, Kept.refl _ _, fun _ _ _ _ _ => trivial⟩
        | 8, ho, hsk =>
          obtain rfl := Option.some.inj ho
          exact o_fld76_1 (.tmp 8) rfl b24 0 ((hout 8 (by kernel_rfl)).trans rfl) ⟨_, rfl, tq_is _ _ _ _ rfl, Kept.refl _ _, fun _ _ _ _ _ => trivial⟩
        | 9, ho, hsk =>
          obtain rfl := Option.some.inj ho
          have e0 : a'.eval (.tmp 30) = .pointer (some ⟨b24, 0 + 1, none⟩) := is_tq (hin 8 30 (by kernel_rfl) (by kernel_rfl)) rfl
          exact wp_loadA row23 (.tmp 30) rfl b24 1 e0 (v.of m).said.C rfl ((((unhide M).step hk2).at 3 _ rfl).rangeIn _ (fun j hj => said_in _ j hj)) ⟨_, rfl, tq_is _ _ _ _ rfl, Kept.refl _ _, fun _ _ _ _ _ => trivial⟩
        | 10, ho, hsk =>
          obtain rfl := Option.some.inj ho
          have e0 : a'.eval (.tmp 29) = aggV (v.of m).said.C := is_tq (hin 7 29 (by kernel_rfl) (by kernel_rfl)) rfl
          have e1 : a'.eval (.tmp 31) = aggV (v.of m).said.C := is_tq (hin 9 31 (by kernel_rfl) (by kernel_rfl)) rfl
          exact o_neqA 23 23 guard23 (.tmp 29) (.tmp 31) rfl _ _ e0 e1 true ((eqL23 _ _ _).trans (by simp)) ⟨_, rfl, tq_is _ _ _ _ rfl, Kept.refl _ _, fun _ _ _ _ _ => trivial⟩
        | 11, ho, hsk =>
          obtain rfl := Option.some.inj ho
          have e0 : a'.eval (.tmp 28) = .bool false := is_tq (hin 6 28 (by kernel_rfl) (by kernel_rfl)) rfl
          have e1 : a'.eval (.tmp 32) = .bool false := is_tq (hin 10 32 (by kernel_rfl) (by kernel_rfl)) rfl
          exact o_pickOr0 (.tmp 28) (.tmp 32) rfl _ e0 e1 ⟨_, rfl, tq_is _ _ _ _ rfl, Kept.refl _ _, fun _ _ _ _ _ => trivial⟩
        | 12, ho, hsk =>
          obtain rfl := Option.some.inj ho
          have e0 : a'.eval (.tmp 33) = .bool false := is_tq (hin 11 33 (by kernel_rfl) (by kernel_rfl)) rfl
          exact wp_move (.tmp 33) rfl _ e0 ⟨_, rfl, tq_is _ _ _ _ rfl, Kept.refl _ _, fun _ _ _ _ _ => trivial⟩
        | 13, ho, hsk =>
          obtain rfl := Option.some.inj ho
          exact wp_move (.tmp 7) rfl _ ((hout 7 (by kernel_rfl)).trans rfl) ⟨_, rfl, tq_is _ _ _ _ rfl, Kept.refl _ _, fun _ _ _ _ _ => trivial⟩
        | 14, ho, hsk =>
          obtain rfl := Option.some.inj ho
          exact o_fld76_0 (.tmp 8) rfl b24 0 ((hout 8 (by kernel_rfl)).trans rfl) ⟨_, rfl, tq_is _ _ _ _ rfl, Kept.refl _ _, fun _ _ _ _ _ => trivial⟩
        | 15, ho, hsk =>
          obtain rfl := Option.some.inj ho
          have e0 : a'.eval (.tmp 36) = .pointer (some ⟨b24, 0, none⟩) := is_tq (hin 14 36 (by kernel_rfl) (by kernel_rfl)) rfl
          exact o_load4 (.tmp 36) rfl _ _ e0 (fits_cell (((unhide M).step hk2).at 3 _ rfl) 0 _ rfl) ⟨_, rfl, tq_is _ _ _ _ rfl, Kept.refl _ _, fun _ _ _ _ _ => trivial⟩
        | 16, ho, hsk =>
          obtain rfl := Option.some.inj ho
          have e0 : a'.eval (.tmp 35) = .bool (v.of m).is := is_tq (hin 13 35 (by kernel_rfl) (by kernel_rfl)) rfl
          have e1 : a'.eval (.tmp 37) = .bool (v.of m).is := is_tq (hin 15 37 (by kernel_rfl) (by kernel_rfl)) rfl
          exact o_neqBB (.tmp 35) (.tmp 37) rfl _ e0 e1 ⟨_, rfl, tq_is _ _ _ _ rfl, Kept.refl _ _, fun _ _ _ _ _ => trivial⟩
        | 17, ho, hsk =>
          obtain rfl := Option.some.inj ho
          have e0 : a'.eval (.tmp 34) = .bool false := is_tq (hin 12 34 (by kernel_rfl) (by kernel_rfl)) rfl
          have e1 : a'.eval (.tmp 38) = .bool false := is_tq (hin 16 38 (by kernel_rfl) (by kernel_rfl)) rfl
          exact o_pickOr0 (.tmp 34) (.tmp 38) rfl _ e0 e1 ⟨_, rfl, tq_is _ _ _ _ rfl, Kept.refl _ _, fun _ _ _ _ _ => trivial⟩
      intro w9 hk9
      replace hk9 : Kept [] W24 w9 := ⟨hk9.os, hk9.tape, hk9.output, hk9.size, hk9.block⟩
      simp only [valsQ, List.map_cons, List.map_nil, Option.getD_some, List.take_succ_cons, List.take_zero, putAll, Act.put, List.setIfInBounds_toArray, List.set_cons_succ, List.set_cons_zero]
      refine wpAny_done (by kernel_rfl) ?_ _
      replace M : Hid (Mm [b, c] w w9 [(b, 65, v.C), (c, 79, v.C), (b22, 23, (v.of m).said.C), (b24, 76, (v.of m).C)]) := hide ((unhide M).step hk9)
      clear hk9
      go_wp2_with fail
      go_roundw
      case rel => exact ⟨m + 1, by omega, by omega, by go_num, hide ((unhide M).less (by simp))⟩
      case measure => simp [intOf]; omega
    · have hd : decide (m ≤ 8) = false := by simpa using hlt
      go_wp2_with (
        first
        | (go_at_call 28
           refine (sus28 v b _ ((unhide M).at 0 _ rfl) hv).mono ?_
           rintro e W1 ⟨u1, rfl, I1, K1⟩
           have HI1 := hide I1
           replace M := hide ((unhide M).step K1)
           clear I1 K1
           refine Stp.go ?_))
      constructor
      go_wp2_with (
        first
        | (go_at_call 38
           refine (rsus38 v c _ ((unhide M).at 1 _ rfl) hv).mono ?_
           rintro e W2 ⟨u2, rfl, I2, K2⟩
           have HI2 := hide I2
           replace HI1 := hide ((unhide HI1).kept K2 (by simp))
           replace M := hide ((unhide M).step K2)
           clear I2 K2
           refine Stp.go ?_))
      constructor
      go_wp2_with (
        first
        | (go_at_call 37
           refine (same37 u1 u2 _ _ _ _ (unhide HI1) (unhide HI2) (by have h1 := sus_len v v.n.toNat; have h2 := hv.n; omega)).mono ?_
           rintro e W3 ⟨rfl, K3⟩
           replace M := hide ((unhide M).step K3)
           clear K3
           refine Stp.go ?_))
      constructor
      go_wp2_with fail
      go_ret
      refine ⟨rfl, ?_⟩
      have h9 := unhide M
      refine ⟨h9.kept.os, h9.kept.tape, h9.kept.output, h9.kept.size, fun k hk _ => ?_⟩
      by_cases e1 : k = b
      · subst e1; rw [show _ = _ from h9.at 0 _ rfl, show _ = _ from unhide H0]
      · by_cases e2 : k = c
        · subst e2; rw [show _ = _ from h9.at 1 _ rfl, show _ = _ from unhide H1]
        · exact h9.kept.block k hk (by simp [e1, e2])
set_option maxHeartbeats 2000000 in
theorem watches_a (sn sp : Int) (ao : Option Addr) (N cc : Nat) (w : World) (hz : sizeOk sn sp = false) : Calls Try.prog 4 #[aggV [.int .i64 sn, .int .i64 sp], .slice ao N cc] w fun e w' => e = .returned (.bool true) ∧ Kept [] w w' := by
  have P15 : ∀ W, Hid (Calls Try.prog 15 #[.int .i64 sn, .int .i64 sp] W fun e w' => e = .returned (.tuple #[.pointer none, .int .i64 2]) ∧ w' = W) := fun W => hide (new_no sn sp W hz)
  have P16 : ∀ W, Hid (Calls Try.prog 16 #[.int .i64 sn, .int .i64 sp] W fun e w' => e = .returned (.pointer none) ∧ w' = W) := fun W => hide (rnew_no sn sp W hz)
  go_enter Try.func4, Try.ntmps4
  have M : Hid (Mm [] w w []) := hide Mm.init
  go_wp2_with (
    first
    | (refine wpBoxV rfl (.tmp 0) rfl ([.int .i64 sn, .int .i64 sp]) rfl ?_
       intro W1 b1 e1 B1 K1
       replace M : Hid (Mm [] w W1 [(b1, 38, [.int .i64 sn, .int .i64 sp])]) := hide ((unhide M).new e1 B1 K1)
       clear e1 B1 K1
       have c0 := fits_cell ((unhide M).at 0 _ rfl) 0 _ rfl
       have c1 := fits_cell ((unhide M).at 0 _ rfl) 1 _ rfl
       refine Stp.go ?_))
  constructor
  go_wp2_with (
    first
    | (go_at_call 15
       refine (unhide (P15 _)).mono ?_
       rintro e W2 ⟨rfl, q2⟩
       replace q2 := q2.symm
       subst q2
       refine Stp.go ?_))
  constructor
  go_wp2_with (
    first
    | (go_at_call 16
       refine (unhide (P16 _)).mono ?_
       rintro e W3 ⟨rfl, q3⟩
       replace q3 := q3.symm
       subst q3
       clear c0 c1
       refine Stp.go ?_))
  constructor
  go_wp2_with (
    first
    | (go_at_call 11
       refine (num11 _ _).mono ?_
       rintro e W4 ⟨rfl, q4⟩
       replace q4 := q4.symm
       subst q4
       refine Stp.go ?_))
  constructor
  go_wp2_with (
    first
    | (go_at_call 13
       refine (known13 _).mono ?_
       rintro e W5 ⟨rfl, K5⟩
       replace M : Hid (Mm [] w W5 [(b1, 38, [.int .i64 sn, .int .i64 sp])]) := hide ((unhide M).step K5)
       clear K5
       refine Stp.go ?_))
  constructor
  go_wp2_with fail
  go_ret
  exact ⟨rfl, (unhide M).kept⟩
theorem Mm.pair {w0 W W' : World} {b c bn : Nat} {us vs us' vs' : List Value} (h : Mm [] w0 W [(b, 65, us), (c, 79, vs)]) (hB : Blk W' bn 65 us') (hC : Blk W' c 79 vs') (hK : Kept [b, c] W W') (hO : bn = b ∨ W.heap.size ≤ bn) : Mm [] w0 W' [(bn, 65, us'), (c, 79, vs')] := by
  have hb : ∀ k ∈ [b, c], k < w0.heap.size → k ∈ ([] : List Nat) := by
    intro k hk hl
    simp at hk
    rcases hk with rfl | rfl
    · exact h.own (k, 65, us) (by simp) hl
    · exact h.own (k, 79, vs) (by simp) hl
  refine ⟨h.kept.fresh hK hb, ?_, ?_, ?_⟩
  · intro x hx
    simp at hx
    rcases hx with rfl | rfl
    · exact hB
    · exact hC
  · intro x hx hl
    simp at hx
    rcases hx with rfl | rfl
    · rcases hO with rfl | hO
      · exact hb _ (by simp) hl
      · have := h.kept.size; simp at hl; omega
    · exact hb c (by simp) hl
  · simp
    exact blk_ne hB hC (by decide)
set_option maxHeartbeats 4000000 in
theorem watches_b (sn sp : Int) (ao : Option Addr) (N cc : Nat) (X : List Sp) (w : World) (hN : X.length = N) (hX : StepS w ao X) (hz : sizeOk sn sp = true) : Calls Try.prog 4 #[aggV [.int .i64 sn, .int .i64 sp], .slice ao N cc] w fun e w' => e = .returned (.bool true) ∧ Kept [] w w' := by
  have P15 : ∀ W, Hid (Calls Try.prog 15 #[.int .i64 sn, .int .i64 sp] W fun e w' => ∃ b, e = .returned (.tuple #[P0 b, .int .i64 0]) ∧ b = W.heap.size ∧ Blk w' b 65 (Wt.mk sn sp lk8).C ∧ Kept [] W w') := fun W => hide (new_yes sn sp W hz)
  have P16 : ∀ W, Hid (Calls Try.prog 16 #[.int .i64 sn, .int .i64 sp] W fun e w' => ∃ b, e = .returned (P0 b) ∧ b = W.heap.size ∧ Blk w' b 79 (Wt.mk sn sp lk8).C ∧ Kept [] W w') := fun W => hide (rnew_yes sn sp W hz)
  have HX := hide hX
  have HN := hide hN
  have HZ := hide hz
  clear hN hX hz
  go_enter Try.func4, Try.ntmps4
  have M : Hid (Mm [] w w []) := hide Mm.init
  go_wp2_with (
    first
    | (refine wpBoxV rfl (.tmp 0) rfl ([.int .i64 sn, .int .i64 sp]) rfl ?_
       intro W1 b1 e1 B1 K1
       replace M : Hid (Mm [] w W1 [(b1, 38, [.int .i64 sn, .int .i64 sp])]) := hide ((unhide M).new e1 B1 K1)
       clear e1 B1 K1
       have c0 := fits_cell ((unhide M).at 0 _ rfl) 0 _ rfl
       have c1 := fits_cell ((unhide M).at 0 _ rfl) 1 _ rfl
       refine Stp.go ?_))
  constructor
  go_wp2_with (
    first
    | (go_at_call 15
       refine (unhide (P15 _)).mono ?_
       rintro e W2 ⟨bw, rfl, eb, B2, K2⟩
       replace M : Hid (Mm [] w W2 [(b1, 38, [.int .i64 sn, .int .i64 sp]), (bw, 65, (Wt.mk sn sp lk8).C)]) := hide ((unhide M).new eb B2 K2)
       replace c0 := K2.cell c0 (by simp)
       replace c1 := K2.cell c1 (by simp)
       clear eb B2 K2
       refine Stp.go ?_))
  constructor
  go_wp2_with (
    first
    | (go_at_call 16
       refine (unhide (P16 _)).mono ?_
       rintro e W3 ⟨br, rfl, eb, B3, K3⟩
       replace M : Hid (Mm [] w W3 [(b1, 38, [.int .i64 sn, .int .i64 sp]), (bw, 65, (Wt.mk sn sp lk8).C), (br, 79, (Wt.mk sn sp lk8).C)]) := hide ((unhide M).new eb B3 K3)
       clear c0 c1
       clear eb B3 K3
       refine Stp.go ?_))
  constructor
  go_wp2_with (
    first
    | (go_at_call 11
       refine (num11 _ _).mono ?_
       rintro e W4 ⟨rfl, q4⟩
       replace q4 := q4.symm
       subst q4
       refine Stp.go ?_))
  constructor
  go_wp2_with fail
  clear P15 P16
  replace M : Hid (Mm [] w W3 [(bw, 65, (Wt.mk sn sp lk8).C), (br, 79, (Wt.mk sn sp lk8).C)]) := hide ((unhide M).less (by simp))
  go_loopw [5, 7, 8] (fun xw xr i wr => ∃ (j bw br : Nat) (v : Wt), j ≤ 300 ∧ xw = P0 bw ∧ xr = P0 br ∧ i = .int .i64 j ∧ Hid (v.Ok j) ∧ Hid (Mm [] w wr [(bw, 65, v.C), (br, 79, v.C)])) (fun _ _ i _ => 300 - (intOf i).toNat)
  case atStart => exact ⟨0, _, _, _, by omega, rfl, rfl, rfl, hide (new_ok (unhide HZ)), M⟩
  case round =>
    clear M
    obtain ⟨j, bw, br, v, hj, rfl, rfl, rfl, HV, M⟩ := hrel
    by_cases hjn : j < N
    rotate_left
    · have hdn : decide ((j : Int) < (N : Int)) = false := by simp; omega
      go_wp2_with (
        first
        | (go_at_call 13
           refine (known13 _).mono ?_
           rintro e W61 ⟨rfl, K61⟩
           replace M : Hid (Mm [] w W61 [(bw, 65, v.C), (br, 79, v.C)]) := hide ((unhide M).step K61)
           clear K61
           refine Stp.go ?_))
      constructor
      go_wp2_with fail
      go_ret
      exact ⟨rfl, (unhide M).kept⟩
    have hjnI : (j : Int) < (N : Int) := by omega
    have hdn : decide ((j : Int) < (N : Int)) = true := by simpa using hjnI
    by_cases hlt : j < 300
    rotate_left
    · have hd : decide ((j : Int) < 300) = false := by simp; omega
      go_wp2_with (
        first
        | (go_at_call 13
           refine (known13 _).mono ?_
           rintro e W61 ⟨rfl, K61⟩
           replace M : Hid (Mm [] w W61 [(bw, 65, v.C), (br, 79, v.C)]) := hide ((unhide M).step K61)
           clear K61
           refine Stp.go ?_))
      constructor
      go_wp2_with fail
      go_ret
      exact ⟨rfl, (unhide M).kept⟩
    · have hjI : (j : Int) < 300 := by omega
      have hd : decide ((j : Int) < 300) = true := by simpa using hjI
      obtain ⟨x, hx⟩ : ∃ x, X[j]? = some x := ⟨_, List.getElem?_eq_getElem (by have := unhide HN; omega)⟩
      obtain ⟨bo, oo, rfl, hcs⟩ := (unhide HX) j x hx
      have HXR : Hid (∀ W, Kept [] w W → W.rangeAt bo (oo + j * 5) x.C) := by
        intro W hW i u hu
        exact hW.cell (hcs i u hu) (by simp)
      clear hcs hx
      go_wp2_with (
        first
        | (refine wpLoadA row48 rfl (.tmp 57) rfl bo (oo + j * 5) rfl x.C rfl (unhide HXR _ (unhide M).kept) ?_
           refine Stp.go ?_))
      constructor
      go_wp2_with (
        first
        | (go_at_call 17
           refine (do17 v bw br x _ ((unhide M).at 0 _ rfl) ((unhide M).at 1 _ rfl) (unhide HV) ⟨by omega, by omega⟩).mono ?_
           rintro e W41 ⟨bn, rfl, B41, C41, K41, O41⟩
           replace M : Hid (Mm [] w W41 [(bn, 65, (v.step x).C), (br, 79, (v.step x).C)]) := hide (Mm.pair (unhide M) B41 C41 K41 O41)
           clear B41 C41 K41 O41
           refine Stp.go ?_))
      constructor
      go_wp2_with (
        first
        | (go_at_call 18
           refine (stands18 (v.step x) bn br _ ((unhide M).at 0 _ rfl) ((unhide M).at 1 _ rfl) (step_ok (unhide HV) (by omega) x)).mono ?_
           rintro e W42 ⟨rfl, K42⟩
           replace M : Hid (Mm [] w W42 [(bn, 65, (v.step x).C), (br, 79, (v.step x).C)]) := hide ((unhide M).step K42)
           clear K42
           refine Stp.go ?_))
      constructor
      go_wp2_with fail
      go_roundw
      case rel => exact ⟨j + 1, bn, br, v.step x, by omega, rfl, rfl, by go_num, hide (step_ok (unhide HV) (by omega) x), M⟩
      case measure => simp [intOf]; omega
theorem watches4 (sn sp : Int) (ao : Option Addr) (cc : Nat) (X : List Sp) (w : World) (hX : StepS w ao X) : Calls Try.prog 4 #[aggV [.int .i64 sn, .int .i64 sp], .slice ao X.length cc] w fun e w' => e = .returned (.bool true) ∧ Kept [] w w' := by
  cases hz : sizeOk sn sp with
  | false => exact watches_a sn sp ao _ cc w hz
  | true => exact watches_b sn sp ao _ cc X w rfl hX hz

end Go.Proofs.Ythidiolgngkffaa
