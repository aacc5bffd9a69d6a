/-
  ViewNext.
-/
import Derived.Test.YtbpnnbbinhdoiaaDoorVs
import Derived.Deep.CutBlock
namespace Go.Proofs.YtbpnnbbinhdoiaaDoor
set_option maxRecDepth 100000
open Go.RowKit

/-- A region in the text's order, by its table. -/
theorem wp_text_tq {id : Nat} {ops : Array Oper} {Q : Exit → Act → World → Prop} {a0 : Act} {w0 : World} (n : Nat) (hn : ops.size = n) (hok : prefG ops n = true) (us : List (Option Value)) (hu : us.length = n) (hg : guardsQ ops us = true)
    (hsl : ops.all (fun o => match o.dst with | none => true | some t => decide (t < a0.tmps.size)) = true)
    (hop : ∀ (j : Nat) (o : Oper), j < n → skipQ us j = false → ops[j]? = some o → ∀ a w, (∀ t : Nat, (ops.toList.take n).all (fun p => p.dst != some t) = true → a.eval (.tmp t) = a0.eval (.tmp t)) →
      (∀ (i t : Nat), o.after.any (fun e => Region.binds .any e && e.on == i) = true → ops[i]?.bind (·.dst) = some t → tq us i (a.eval (.tmp t)) w) → Kept [] w0 w →
      o.wp Tryd.prog a w (fun a' w' => ∃ v, a' = a.put o.dst v ∧ tq us j v w' ∧ Kept [] w w' ∧ ∀ i u, i < n → i ≠ j → tq us i u w → True) Q)
    (hQ : ∀ w, Kept [] w0 w → Q .normal (putAll a0 (ops.toList.take n) (valsQ us)) w) : (Code.region id ops false).wp Tryd.prog Q a0 w0 := by
  refine wp_region_text n hn hok (tq us) (fun _ _ _ _ => True) (skipQ us) (fun j o i b _ ho hg' => guardsQ_some hg j o i b ho hg') (fun j o _ ho hg' => guardsQ_none hg j o ho hg') (fun j w h => skipQ_undef w h) (fun _ _ _ _ => trivial) (tq_kept us) hsl hop ?_
  intro vs w hlen hv hk
  obtain rfl := vs_tq hv (by omega)
  exact hQ w hk

/-- An ask. -/
structure Ask where
  a : Int
  b : Int
  p : Int
  q : Int
  e : Int
def Ask.C (x : Ask) : List Value := [.int .i64 x.a, .int .i64 x.b, .int .i64 x.p, .int .i64 x.q, .int .i64 x.e]
theorem cg14 (vs : Array Value) (w : World) : (callFunc 14 vs).run Tryd.prog w = .ok (.enter 14 vs) w := by kernel_rfl
theorem join_len {v : Vw} {n e : Int} (h : v.ms.length = 8) : (joinV v n e).1.ms.length = 8 := by
  unfold joinV
  split
  · rfl
  · split
    · rfl
    · exact next_len h
theorem out_len {v : Vw} {f n : Int} (h : v.ms.length = 8) : (outV v f n).1.ms.length = 8 := by
  unfold outV
  split
  · rfl
  · split
    · rfl
    · exact next_len h
theorem open_len {v : Vw} (h : v.ms.length = 8) : (openV v).1.ms.length = 8 := by
  unfold openV
  split
  · rfl
  · split
    · rfl
    · exact h
section
variable {o : Oper} {a : Act} {w : World} {K : Act → World → Prop} {Q : Exit → Act → World → Prop}
theorem o_eqlI (x y : Operand) (ho : o.op = .binOp .eql 3 x y 3) (m : Int) (hx : a.eval x = .int .i64 m) (hy : a.eval y = .int .i64 m) (h : K (a.put o.dst (.bool true)) w) : o.wp Tryd.prog a w K Q := by
  unfold Oper.wp execOp
  simp only [ho, hx, hy]
  simp [go_sem]
  exact h
end
set_option maxHeartbeats 8000000 in
theorem next_gen (v J O P : Vw) (j o p : Int) (x : Ask) (w : World) (hF : First w) (hok : v.Ok) (hJ : J.ms.length = 8) (hO : O.ms.length = 8) (hP : P.ms.length = 8)
    (k1 : ∀ W, First W → Calls Tryd.prog 16 #[aggV (vwC v), .int .i64 x.a, .int .i64 x.e] W fun e w' => e = .returned (two (J, j)) ∧ Kept [] W w')
    (k2 : ∀ W, First W → Calls Tryd.prog 17 #[aggV (vwC v), .int .i64 x.a, .int .i64 x.e] W fun e w' => e = .returned (two (J, j)) ∧ Kept [] W w')
    (k3 : ∀ W, First W → Calls Tryd.prog 18 #[aggV (vwC v), .int .i64 x.a, .int .i64 x.b] W fun e w' => e = .returned (two (O, o)) ∧ Kept [] W w')
    (k4 : ∀ W, First W → Calls Tryd.prog 19 #[aggV (vwC v), .int .i64 x.a, .int .i64 x.b] W fun e w' => e = .returned (two (O, o)) ∧ Kept [] W w')
    (k5 : ∀ W, First W → Calls Tryd.prog 20 #[aggV (vwC v)] W fun e w' => e = .returned (two (P, p)) ∧ Kept [] W w')
    (k6 : ∀ W, First W → Calls Tryd.prog 21 #[aggV (vwC v)] W fun e w' => e = .returned (two (P, p)) ∧ Kept [] W w') : Calls Tryd.prog 4 #[aggV (vwC v), aggV x.C] w fun e w' => e = .returned (.bool true) ∧ Kept [] w w' := by
  have Hk1 := hide k1
  have Hk2 := hide k2
  have Hk3 := hide k3
  have Hk4 := hide k4
  have Hk5 := hide k5
  have Hk6 := hide k6
  clear k1 k2 k3 k4 k5 k6
  go_enter Tryd.func4, Tryd.ntmps4
  have M : Hid (Mm w w []) := hide (Mm.init hF)
  go_wp2_with (
    first
    | (refine wpBoxV rfl (.tmp 0) rfl (vwC v) rfl ?_
       intro W1 b1 e1 B1 K1
       replace M : Hid (Mm w W1 [(b1, 26, vwC v)]) := hide ((unhide M).new e1 B1 K1)
       clear e1 B1 K1
       refine Stp.go ?_))
  constructor
  go_wp2_with (
    first
    | (refine wpBoxV rfl (.tmp 1) rfl (x.C) rfl ?_
       intro W2 b2 e2 B2 K2
       replace M : Hid (Mm w W2 [(b1, 26, vwC v), (b2, 42, x.C)]) := hide ((unhide M).new e2 B2 K2)
       clear e2 B2 K2
       refine Stp.go ?_))
  constructor
  go_wp2_with (
    first
    | (refine wpLoadA row26 rfl (.tmp 2) rfl b1 0 rfl (vwC v) (vwC_len hok.len) ((unhide M).at 0 _ rfl).range ?_
       have c0 := fits_cell ((unhide M).at 1 _ rfl) 0 _ rfl
       have c4 := fits_cell ((unhide M).at 1 _ rfl) 4 _ rfl
       refine Stp.go ?_))
  constructor
  go_wp2_with (
    first
    | (go_at_call 16
       refine (unhide Hk1 _ (unhide M).first).mono ?_
       rintro e W3 ⟨rfl, K3⟩
       replace M : Hid (Mm w W3 [(b1, 26, vwC v), (b2, 42, x.C)]) := hide ((unhide M).step K3)
       clear K3
       clear c0 c4
       refine Stp.go ?_))
  constructor
  go_wp2_with (
    first
    | (refine wpNew row26 (vwC zv) rfl zero26 5 rfl rfl rfl (.tmp 24) rfl rfl rfl (vwC J) (vwC_len hJ) (vwC_one _) (by kernel_rfl) (by kernel_rfl) ?_
       intro W4 b4 e4 B4 K4
       replace M : Hid (Mm w W4 [(b1, 26, vwC v), (b2, 42, x.C), (b4, 26, vwC J)]) := hide ((unhide M).new e4 B4 K4)
       clear e4 B4 K4
       refine Stp.go ?_))
  constructor
  go_wp2_with (
    first
    | (refine wpLoadA row26 rfl (.tmp 2) rfl b1 0 rfl (vwC v) (vwC_len hok.len) ((unhide M).at 0 _ rfl).range ?_
       have c0 := fits_cell ((unhide M).at 1 _ rfl) 0 _ rfl
       have c4 := fits_cell ((unhide M).at 1 _ rfl) 4 _ rfl
       refine Stp.go ?_))
  constructor
  go_wp2_with (
    first
    | (go_at_call 17
       refine (unhide Hk2 _ (unhide M).first).mono ?_
       rintro e W5 ⟨rfl, K5⟩
       replace M : Hid (Mm w W5 [(b1, 26, vwC v), (b2, 42, x.C), (b4, 26, vwC J)]) := hide ((unhide M).step K5)
       clear K5
       clear c0 c4
       refine Stp.go ?_))
  constructor
  go_wp2_with (
    first
    | (refine wpNew row26 (vwC zv) rfl zero26 7 rfl rfl rfl (.tmp 33) rfl rfl rfl (vwC J) (vwC_len hJ) (vwC_one _) (by kernel_rfl) (by kernel_rfl) ?_
       intro W6 b6 e6 B6 K6
       replace M : Hid (Mm w W6 [(b1, 26, vwC v), (b2, 42, x.C), (b4, 26, vwC J), (b6, 26, vwC J)]) := hide ((unhide M).new e6 B6 K6)
       clear e6 B6 K6
       refine Stp.go ?_))
  constructor
  go_wp2_with (
    first
    | (refine wpLoadA row26 rfl (.tmp 2) rfl b1 0 rfl (vwC v) (vwC_len hok.len) ((unhide M).at 0 _ rfl).range ?_
       have c0 := fits_cell ((unhide M).at 1 _ rfl) 0 _ rfl
       have c1 := fits_cell ((unhide M).at 1 _ rfl) 1 _ rfl
       refine Stp.go ?_))
  constructor
  go_wp2_with (
    first
    | (go_at_call 18
       refine (unhide Hk3 _ (unhide M).first).mono ?_
       rintro e W7 ⟨rfl, K7⟩
       replace M : Hid (Mm w W7 [(b1, 26, vwC v), (b2, 42, x.C), (b4, 26, vwC J), (b6, 26, vwC J)]) := hide ((unhide M).step K7)
       clear K7
       clear c0 c1
       refine Stp.go ?_))
  constructor
  go_wp2_with (
    first
    | (refine wpNew row26 (vwC zv) rfl zero26 9 rfl rfl rfl (.tmp 42) rfl rfl rfl (vwC O) (vwC_len hO) (vwC_one _) (by kernel_rfl) (by kernel_rfl) ?_
       intro W8 b8 e8 B8 K8
       replace M : Hid (Mm w W8 [(b1, 26, vwC v), (b2, 42, x.C), (b4, 26, vwC J), (b6, 26, vwC J), (b8, 26, vwC O)]) := hide ((unhide M).new e8 B8 K8)
       clear e8 B8 K8
       refine Stp.go ?_))
  constructor
  go_wp2_with (
    first
    | (refine wpLoadA row26 rfl (.tmp 2) rfl b1 0 rfl (vwC v) (vwC_len hok.len) ((unhide M).at 0 _ rfl).range ?_
       have c0 := fits_cell ((unhide M).at 1 _ rfl) 0 _ rfl
       have c1 := fits_cell ((unhide M).at 1 _ rfl) 1 _ rfl
       refine Stp.go ?_))
  constructor
  go_wp2_with (
    first
    | (go_at_call 19
       refine (unhide Hk4 _ (unhide M).first).mono ?_
       rintro e W9 ⟨rfl, K9⟩
       replace M : Hid (Mm w W9 [(b1, 26, vwC v), (b2, 42, x.C), (b4, 26, vwC J), (b6, 26, vwC J), (b8, 26, vwC O)]) := hide ((unhide M).step K9)
       clear K9
       clear c0 c1
       refine Stp.go ?_))
  constructor
  go_wp2_with (
    first
    | (refine wpNew row26 (vwC zv) rfl zero26 11 rfl rfl rfl (.tmp 51) rfl rfl rfl (vwC O) (vwC_len hO) (vwC_one _) (by kernel_rfl) (by kernel_rfl) ?_
       intro W10 b10 e10 B10 K10
       replace M : Hid (Mm w W10 [(b1, 26, vwC v), (b2, 42, x.C), (b4, 26, vwC J), (b6, 26, vwC J), (b8, 26, vwC O), (b10, 26, vwC O)]) := hide ((unhide M).new e10 B10 K10)
       clear e10 B10 K10
       refine Stp.go ?_))
  constructor
  go_wp2_with (
    first
    | (refine wpLoadA row26 rfl (.tmp 2) rfl b1 0 rfl (vwC v) (vwC_len hok.len) ((unhide M).at 0 _ rfl).range ?_
       refine Stp.go ?_))
  constructor
  go_wp2_with (
    first
    | (go_at_call 20
       refine (unhide Hk5 _ (unhide M).first).mono ?_
       rintro e W11 ⟨rfl, K11⟩
       replace M : Hid (Mm w W11 [(b1, 26, vwC v), (b2, 42, x.C), (b4, 26, vwC J), (b6, 26, vwC J), (b8, 26, vwC O), (b10, 26, vwC O)]) := hide ((unhide M).step K11)
       clear K11
       refine Stp.go ?_))
  constructor
  go_wp2_with (
    first
    | (refine wpNew row26 (vwC zv) rfl zero26 13 rfl rfl rfl (.tmp 56) rfl rfl rfl (vwC P) (vwC_len hP) (vwC_one _) (by kernel_rfl) (by kernel_rfl) ?_
       intro W12 b12 e12 B12 K12
       replace M : Hid (Mm w W12 [(b1, 26, vwC v), (b2, 42, x.C), (b4, 26, vwC J), (b6, 26, vwC J), (b8, 26, vwC O), (b10, 26, vwC O), (b12, 26, vwC P)]) := hide ((unhide M).new e12 B12 K12)
       clear e12 B12 K12
       refine Stp.go ?_))
  constructor
  go_wp2_with (
    first
    | (refine wpLoadA row26 rfl (.tmp 2) rfl b1 0 rfl (vwC v) (vwC_len hok.len) ((unhide M).at 0 _ rfl).range ?_
       refine Stp.go ?_))
  constructor
  go_wp2_with (
    first
    | (go_at_call 21
       refine (unhide Hk6 _ (unhide M).first).mono ?_
       rintro e W13 ⟨rfl, K13⟩
       replace M : Hid (Mm w W13 [(b1, 26, vwC v), (b2, 42, x.C), (b4, 26, vwC J), (b6, 26, vwC J), (b8, 26, vwC O), (b10, 26, vwC O), (b12, 26, vwC P)]) := hide ((unhide M).step K13)
       clear K13
       refine Stp.go ?_))
  constructor
  go_wp2_with (
    first
    | (refine wpNew row26 (vwC zv) rfl zero26 15 rfl rfl rfl (.tmp 61) rfl rfl rfl (vwC P) (vwC_len hP) (vwC_one _) (by kernel_rfl) (by kernel_rfl) ?_
       intro W14 b14 e14 B14 K14
       replace M : Hid (Mm w W14 [(b1, 26, vwC v), (b2, 42, x.C), (b4, 26, vwC J), (b6, 26, vwC J), (b8, 26, vwC O), (b10, 26, vwC O), (b12, 26, vwC P), (b14, 26, vwC P)]) := hide ((unhide M).new e14 B14 K14)
       clear e14 B14 K14
       refine Stp.go ?_))
  constructor
  go_upto_region 7 with fail
  refine wp_text_tq 35 rfl (by kernel_rfl) [some (aggV (vwC J)), some (aggV (vwC J)), some (.bool true), some (.bool true), some (.int .i64 j), some (.int .i64 j), some (.int .i64 j), some (.bool true), some (.bool true), some (.bool true), some (aggV (vwC O)), some (aggV (vwC O)), some (.bool true), some (.bool true), some (.bool true), some (.int .i64 o), some (.int .i64 o), some (.int .i64 o), some (.bool true), some (.bool true), some (.bool true), some (aggV (vwC P)), some (aggV (vwC P)), some (.bool true), some (.bool true), some (.bool true), some (.int .i64 p), some (.int .i64 p), some (.int .i64 p), some (.bool true), some (.bool true), some (.bool true), some (.bool true), some (.bool true), some (.bool true)] rfl (by kernel_rfl) (by kernel_rfl) ?_ ?_
  · intro i o' hi hsk ho a' w2 hout hin hk2
    replace hk2 : Kept [] W14 w2 := ⟨hk2.os, hk2.tape, hk2.output, hk2.size, hk2.block⟩
    match i, ho, hsk with
    | 0, ho, hsk =>
      obtain rfl := Option.some.inj ho
      exact wp_loadA row26 (.tmp 5) rfl b4 0 ((hout 5 (by kernel_rfl)).trans rfl) (vwC J) (vwC_len hJ) (((unhide M).step hk2).at 2 _ rfl).range ⟨_, rfl, tq_is _ _ _ _ rfl, Kept.refl _ _, fun _ _ _ _ _ => trivial⟩
    | 1, ho, hsk =>
      obtain rfl := Option.some.inj ho
      exact wp_loadA row26 (.tmp 7) rfl b6 0 ((hout 7 (by kernel_rfl)).trans rfl) (vwC J) (vwC_len hJ) (((unhide M).step hk2).at 3 _ rfl).range ⟨_, rfl, tq_is _ _ _ _ rfl, Kept.refl _ _, fun _ _ _ _ _ => trivial⟩
    | 2, ho, hsk =>
      obtain rfl := Option.some.inj ho
      have e0 : a'.eval (.tmp 63) = aggV (vwC J) := is_tq (hin 0 63 (by kernel_rfl) (by kernel_rfl)) rfl
      have e1 : a'.eval (.tmp 64) = aggV (vwC J) := is_tq (hin 1 64 (by kernel_rfl) (by kernel_rfl)) rfl
      exact o_eqlA 26 26 guard26 (.tmp 63) (.tmp 64) rfl (vwC J) (vwC J) e0 e1 true ((equal26 _ J J hJ hJ).trans (by simp)) ⟨_, rfl, tq_is _ _ _ _ rfl, Kept.refl _ _, fun _ _ _ _ _ => trivial⟩
    | 3, ho, hsk =>
      obtain rfl := Option.some.inj ho
      have e0 : a'.eval (.tmp 65) = .bool true := is_tq (hin 2 65 (by kernel_rfl) (by kernel_rfl)) rfl
      exact wp_move (.tmp 65) rfl _ e0 ⟨_, rfl, tq_is _ _ _ _ rfl, Kept.refl _ _, fun _ _ _ _ _ => trivial⟩
    | 4, ho, hsk =>
      obtain rfl := Option.some.inj ho
      exact wp_move (.tmp 6) rfl _ ((hout 6 (by kernel_rfl)).trans rfl) ⟨_, rfl, tq_is _ _ _ _ rfl, Kept.refl _ _, fun _ _ _ _ _ => trivial⟩
    | 5, ho, hsk =>
      obtain rfl := Option.some.inj ho
      have e0 : a'.eval (.tmp 67) = .int .i64 j := is_tq (hin 4 67 (by kernel_rfl) (by kernel_rfl)) rfl
      refine wp_callF 11 _ _ rfl #[.int .i64 j] (by simp [e0]) (cg11 _ _) ((num11 _ _).mono ?_)
      rintro e w3 ⟨rfl, rfl⟩
      exact ⟨_, rfl, _, rfl, tq_is _ _ _ _ rfl, Kept.refl _ _, fun _ _ _ _ _ => trivial⟩
    | 6, ho, hsk =>
      obtain rfl := Option.some.inj ho
      exact wp_move (.tmp 8) rfl _ ((hout 8 (by kernel_rfl)).trans rfl) ⟨_, rfl, tq_is _ _ _ _ rfl, Kept.refl _ _, fun _ _ _ _ _ => trivial⟩
    | 7, ho, hsk =>
      obtain rfl := Option.some.inj ho
      have e0 : a'.eval (.tmp 68) = .int .i64 j := is_tq (hin 5 68 (by kernel_rfl) (by kernel_rfl)) rfl
      have e1 : a'.eval (.tmp 69) = .int .i64 j := is_tq (hin 6 69 (by kernel_rfl) (by kernel_rfl)) rfl
      exact o_eqlI (.tmp 68) (.tmp 69) rfl j e0 e1 ⟨_, rfl, tq_is _ _ _ _ rfl, Kept.refl _ _, fun _ _ _ _ _ => trivial⟩
    | 8, ho, hsk =>
      obtain rfl := Option.some.inj ho
      have e0 : a'.eval (.tmp 66) = .bool true := is_tq (hin 3 66 (by kernel_rfl) (by kernel_rfl)) rfl
      have e1 : a'.eval (.tmp 70) = .bool true := is_tq (hin 7 70 (by kernel_rfl) (by kernel_rfl)) rfl
      exact o_pick (.tmp 66) (.tmp 70) rfl _ e0 e1 ⟨_, rfl, tq_is _ _ _ _ rfl, Kept.refl _ _, fun _ _ _ _ _ => trivial⟩
    | 9, ho, hsk =>
      obtain rfl := Option.some.inj ho
      have e0 : a'.eval (.tmp 71) = .bool true := is_tq (hin 8 71 (by kernel_rfl) (by kernel_rfl)) rfl
      exact wp_move (.tmp 71) rfl _ e0 ⟨_, rfl, tq_is _ _ _ _ rfl, Kept.refl _ _, fun _ _ _ _ _ => trivial⟩
    | 10, ho, hsk =>
      obtain rfl := Option.some.inj ho
      exact wp_loadA row26 (.tmp 9) rfl b8 0 ((hout 9 (by kernel_rfl)).trans rfl) (vwC O) (vwC_len hO) (((unhide M).step hk2).at 4 _ rfl).range ⟨_, rfl, tq_is _ _ _ _ rfl, Kept.refl _ _, fun _ _ _ _ _ => trivial⟩
    | 11, ho, hsk =>
      obtain rfl := Option.some.inj ho
      exact wp_loadA row26 (.tmp 11) rfl b10 0 ((hout 11 (by kernel_rfl)).trans rfl) (vwC O) (vwC_len hO) (((unhide M).step hk2).at 5 _ rfl).range ⟨_, rfl, tq_is _ _ _ _ rfl, Kept.refl _ _, fun _ _ _ _ _ => trivial⟩
    | 12, ho, hsk =>
      obtain rfl := Option.some.inj ho
      have e0 : a'.eval (.tmp 73) = aggV (vwC O) := is_tq (hin 10 73 (by kernel_rfl) (by kernel_rfl)) rfl
      have e1 : a'.eval (.tmp 74) = aggV (vwC O) := is_tq (hin 11 74 (by kernel_rfl) (by kernel_rfl)) rfl
      exact o_eqlA 26 26 guard26 (.tmp 73) (.tmp 74) rfl (vwC O) (vwC O) e0 e1 true ((equal26 _ O O hO hO).trans (by simp)) ⟨_, rfl, tq_is _ _ _ _ rfl, Kept.refl _ _, fun _ _ _ _ _ => trivial⟩
    | 13, ho, hsk =>
      obtain rfl := Option.some.inj ho
      have e0 : a'.eval (.tmp 72) = .bool true := is_tq (hin 9 72 (by kernel_rfl) (by kernel_rfl)) rfl
      have e1 : a'.eval (.tmp 75) = .bool true := is_tq (hin 12 75 (by kernel_rfl) (by kernel_rfl)) rfl
      exact o_pick (.tmp 72) (.tmp 75) rfl _ e0 e1 ⟨_, rfl, tq_is _ _ _ _ rfl, Kept.refl _ _, fun _ _ _ _ _ => trivial⟩
    | 14, ho, hsk =>
      obtain rfl := Option.some.inj ho
      have e0 : a'.eval (.tmp 76) = .bool true := is_tq (hin 13 76 (by kernel_rfl) (by kernel_rfl)) rfl
      exact wp_move (.tmp 76) rfl _ e0 ⟨_, rfl, tq_is _ _ _ _ rfl, Kept.refl _ _, fun _ _ _ _ _ => trivial⟩
    | 15, ho, hsk =>
      obtain rfl := Option.some.inj ho
      exact wp_move (.tmp 10) rfl _ ((hout 10 (by kernel_rfl)).trans rfl) ⟨_, rfl, tq_is _ _ _ _ rfl, Kept.refl _ _, fun _ _ _ _ _ => trivial⟩
    | 16, ho, hsk =>
      obtain rfl := Option.some.inj ho
      have e0 : a'.eval (.tmp 78) = .int .i64 o := is_tq (hin 15 78 (by kernel_rfl) (by kernel_rfl)) rfl
      refine wp_callF 11 _ _ rfl #[.int .i64 o] (by simp [e0]) (cg11 _ _) ((num11 _ _).mono ?_)
      rintro e w3 ⟨rfl, rfl⟩
      exact ⟨_, rfl, _, rfl, tq_is _ _ _ _ rfl, Kept.refl _ _, fun _ _ _ _ _ => trivial⟩
    | 17, ho, hsk =>
      obtain rfl := Option.some.inj ho
      exact wp_move (.tmp 12) rfl _ ((hout 12 (by kernel_rfl)).trans rfl) ⟨_, rfl, tq_is _ _ _ _ rfl, Kept.refl _ _, fun _ _ _ _ _ => trivial⟩
    | 18, ho, hsk =>
      obtain rfl := Option.some.inj ho
      have e0 : a'.eval (.tmp 79) = .int .i64 o := is_tq (hin 16 79 (by kernel_rfl) (by kernel_rfl)) rfl
      have e1 : a'.eval (.tmp 80) = .int .i64 o := is_tq (hin 17 80 (by kernel_rfl) (by kernel_rfl)) rfl
      exact o_eqlI (.tmp 79) (.tmp 80) rfl o e0 e1 ⟨_, rfl, tq_is _ _ _ _ rfl, Kept.refl _ _, fun _ _ _ _ _ => trivial⟩
    | 19, ho, hsk =>
      obtain rfl := Option.some.inj ho
      have e0 : a'.eval (.tmp 77) = .bool true := is_tq (hin 14 77 (by kernel_rfl) (by kernel_rfl)) rfl
      have e1 : a'.eval (.tmp 81) = .bool true := is_tq (hin 18 81 (by kernel_rfl) (by kernel_rfl)) rfl
      exact o_pick (.tmp 77) (.tmp 81) rfl _ e0 e1 ⟨_, rfl, tq_is _ _ _ _ rfl, Kept.refl _ _, fun _ _ _ _ _ => trivial⟩
    | 20, ho, hsk =>
      obtain rfl := Option.some.inj ho
      have e0 : a'.eval (.tmp 82) = .bool true := is_tq (hin 19 82 (by kernel_rfl) (by kernel_rfl)) rfl
      exact wp_move (.tmp 82) rfl _ e0 ⟨_, rfl, tq_is _ _ _ _ rfl, Kept.refl _ _, fun _ _ _ _ _ => trivial⟩
    | 21, ho, hsk =>
      obtain rfl := Option.some.inj ho
      exact wp_loadA row26 (.tmp 13) rfl b12 0 ((hout 13 (by kernel_rfl)).trans rfl) (vwC P) (vwC_len hP) (((unhide M).step hk2).at 6 _ rfl).range ⟨_, rfl, tq_is _ _ _ _ rfl, Kept.refl _ _, fun _ _ _ _ _ => trivial⟩
    | 22, ho, hsk =>
      obtain rfl := Option.some.inj ho
      exact wp_loadA row26 (.tmp 15) rfl b14 0 ((hout 15 (by kernel_rfl)).trans rfl) (vwC P) (vwC_len hP) (((unhide M).step hk2).at 7 _ rfl).range ⟨_, rfl, tq_is _ _ _ _ rfl, Kept.refl _ _, fun _ _ _ _ _ => trivial⟩
    | 23, ho, hsk =>
      obtain rfl := Option.some.inj ho
      have e0 : a'.eval (.tmp 84) = aggV (vwC P) := is_tq (hin 21 84 (by kernel_rfl) (by kernel_rfl)) rfl
      have e1 : a'.eval (.tmp 85) = aggV (vwC P) := is_tq (hin 22 85 (by kernel_rfl) (by kernel_rfl)) rfl
      exact o_eqlA 26 26 guard26 (.tmp 84) (.tmp 85) rfl (vwC P) (vwC P) e0 e1 true ((equal26 _ P P hP hP).trans (by simp)) ⟨_, rfl, tq_is _ _ _ _ rfl, Kept.refl _ _, fun _ _ _ _ _ => trivial⟩
    | 24, ho, hsk =>
      obtain rfl := Option.some.inj ho
      have e0 : a'.eval (.tmp 83) = .bool true := is_tq (hin 20 83 (by kernel_rfl) (by kernel_rfl)) rfl
      have e1 : a'.eval (.tmp 86) = .bool true := is_tq (hin 23 86 (by kernel_rfl) (by kernel_rfl)) rfl
      exact o_pick (.tmp 83) (.tmp 86) rfl _ e0 e1 ⟨_, rfl, tq_is _ _ _ _ rfl, Kept.refl _ _, fun _ _ _ _ _ => trivial⟩
    | 25, ho, hsk =>
      obtain rfl := Option.some.inj ho
      have e0 : a'.eval (.tmp 87) = .bool true := is_tq (hin 24 87 (by kernel_rfl) (by kernel_rfl)) rfl
      exact wp_move (.tmp 87) rfl _ e0 ⟨_, rfl, tq_is _ _ _ _ rfl, Kept.refl _ _, fun _ _ _ _ _ => trivial⟩
    | 26, ho, hsk =>
      obtain rfl := Option.some.inj ho
      exact wp_move (.tmp 14) rfl _ ((hout 14 (by kernel_rfl)).trans rfl) ⟨_, rfl, tq_is _ _ _ _ rfl, Kept.refl _ _, fun _ _ _ _ _ => trivial⟩
    | 27, ho, hsk =>
      obtain rfl := Option.some.inj ho
      have e0 : a'.eval (.tmp 89) = .int .i64 p := is_tq (hin 26 89 (by kernel_rfl) (by kernel_rfl)) rfl
      refine wp_callF 11 _ _ rfl #[.int .i64 p] (by simp [e0]) (cg11 _ _) ((num11 _ _).mono ?_)
      rintro e w3 ⟨rfl, rfl⟩
      exact ⟨_, rfl, _, rfl, tq_is _ _ _ _ rfl, Kept.refl _ _, fun _ _ _ _ _ => trivial⟩
    | 28, ho, hsk =>
      obtain rfl := Option.some.inj ho
      exact wp_move (.tmp 16) rfl _ ((hout 16 (by kernel_rfl)).trans rfl) ⟨_, rfl, tq_is _ _ _ _ rfl, Kept.refl _ _, fun _ _ _ _ _ => trivial⟩
    | 29, ho, hsk =>
      obtain rfl := Option.some.inj ho
      have e0 : a'.eval (.tmp 90) = .int .i64 p := is_tq (hin 27 90 (by kernel_rfl) (by kernel_rfl)) rfl
      have e1 : a'.eval (.tmp 91) = .int .i64 p := is_tq (hin 28 91 (by kernel_rfl) (by kernel_rfl)) rfl
      exact o_eqlI (.tmp 90) (.tmp 91) rfl p e0 e1 ⟨_, rfl, tq_is _ _ _ _ rfl, Kept.refl _ _, fun _ _ _ _ _ => trivial⟩
    | 30, ho, hsk =>
      obtain rfl := Option.some.inj ho
      have e0 : a'.eval (.tmp 88) = .bool true := is_tq (hin 25 88 (by kernel_rfl) (by kernel_rfl)) rfl
      have e1 : a'.eval (.tmp 92) = .bool true := is_tq (hin 29 92 (by kernel_rfl) (by kernel_rfl)) rfl
      exact o_pick (.tmp 88) (.tmp 92) rfl _ e0 e1 ⟨_, rfl, tq_is _ _ _ _ rfl, Kept.refl _ _, fun _ _ _ _ _ => trivial⟩
    | 31, ho, hsk =>
      obtain rfl := Option.some.inj ho
      have e0 : a'.eval (.tmp 93) = .bool true := is_tq (hin 30 93 (by kernel_rfl) (by kernel_rfl)) rfl
      exact wp_move (.tmp 93) rfl _ e0 ⟨_, rfl, tq_is _ _ _ _ rfl, Kept.refl _ _, fun _ _ _ _ _ => trivial⟩
    | 32, ho, hsk =>
      obtain rfl := Option.some.inj ho
      refine wp_callF 14 _ _ rfl #[] (by simp) (cg14 _ _) ((known14 _ ((unhide M).step hk2).first).mono ?_)
      rintro e w3 ⟨rfl, hk3⟩
      exact ⟨_, rfl, _, rfl, tq_is _ _ _ _ rfl, hk3, fun _ _ _ _ _ => trivial⟩
    | 33, ho, hsk =>
      obtain rfl := Option.some.inj ho
      have e0 : a'.eval (.tmp 94) = .bool true := is_tq (hin 31 94 (by kernel_rfl) (by kernel_rfl)) rfl
      have e1 : a'.eval (.tmp 95) = .bool true := is_tq (hin 32 95 (by kernel_rfl) (by kernel_rfl)) rfl
      exact o_pick (.tmp 94) (.tmp 95) rfl _ e0 e1 ⟨_, rfl, tq_is _ _ _ _ rfl, Kept.refl _ _, fun _ _ _ _ _ => trivial⟩
    | 34, ho, hsk =>
      obtain rfl := Option.some.inj ho
      have e0 : a'.eval (.tmp 96) = .bool true := is_tq (hin 33 96 (by kernel_rfl) (by kernel_rfl)) rfl
      exact wp_assignV (.tmp 96) rfl _ e0 ⟨_, rfl, tq_is _ _ _ _ rfl, Kept.refl _ _, fun _ _ _ _ _ => trivial⟩
  intro w9 hk9
  replace hk9 : Kept [] W14 w9 := ⟨hk9.os, hk9.tape, hk9.output, hk9.size, hk9.block⟩
  simp only [valsQ, List.map_cons, List.map_nil, Option.getD_some, List.take_succ_cons, List.take_zero, putAll, Act.put, List.setIfInBounds_toArray, List.set_cons_succ, List.set_cons_zero]
  go_wp2_with fail
  go_ret
  exact ⟨rfl, (unhide M).kept.trans hk9⟩
theorem next4 (v : Vw) (x : Ask) (w : World) (hF : First w) (hok : v.Ok) : Calls Tryd.prog 4 #[aggV (vwC v), aggV x.C] w fun e w' => e = .returned (.bool true) ∧ Kept [] w w' :=
  next_gen v (joinV v x.a x.e).1 (outV v x.a x.b).1 (openV v).1 (joinV v x.a x.e).2 (outV v x.a x.b).2 (openV v).2 x w hF hok (join_len hok.len) (out_len hok.len) (open_len hok.len)
    (fun W hW => join16 v x.a x.e W hW hok) (fun W hW => rjoin17 v x.a x.e W hW hok) (fun W hW => out18 v x.a x.b W hW hok) (fun W hW => rout19 v x.a x.b W hW hok) (fun W hW => opened20 v W hW hok) (fun W hW => ropened21 v W hW hok)

end Go.Proofs.YtbpnnbbinhdoiaaDoor
