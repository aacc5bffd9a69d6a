/-
  ViewBounds.
-/
import Derived.Test.YtbpnnbbinhdoiaaDoorPe
import Derived.Test.YtbpnnbbinhdoiaaDoorVt
import Derived.Test.YtbpnnbbinhdoiaaDoorVp
namespace Go.Proofs.YtbpnnbbinhdoiaaDoor
set_option maxRecDepth 100000
open Go.RowKit


/-- Three variables made and filled in one region. -/
@[reducible] def S3 (V : World) (v : Vw) (d : Nat → Bool) (vs : Nat → Value) (W : World) : Prop :=
  Kept [] V W ∧ (∀ k, k < 3 → d (3 + k) = true → ∃ p, vs (3 + k) = P0 p ∧ V.heap.size ≤ p ∧ Blk W p 26 (cond (d (6 + k)) (vwC v) (vwC zv))) ∧ (∀ i j, i < 3 → j < 3 → i ≠ j → d (3 + i) = true → d (3 + j) = true → vs (3 + i) ≠ vs (3 + j))
theorem S3.loc {V : World} {v : Vw} : ∀ d d' vs vs' W, (∀ i ∈ [3, 4, 5, 6, 7, 8], d i = d' i ∧ vs i = vs' i) → S3 V v d vs W → S3 V v d' vs' W := by
  intro d d' vs vs' W H h
  have e : ∀ k, k < 3 → d (3 + k) = d' (3 + k) ∧ vs (3 + k) = vs' (3 + k) := fun k hk => H (3 + k) (by rcases (show k = 0 ∨ k = 1 ∨ k = 2 by omega) with rfl | rfl | rfl <;> simp)
  have e2 : ∀ k, k < 3 → d (6 + k) = d' (6 + k) := fun k hk => (H (6 + k) (by rcases (show k = 0 ∨ k = 1 ∨ k = 2 by omega) with rfl | rfl | rfl <;> simp)).1
  refine ⟨h.1, fun k hk hd => ?_, fun i j hi hj hne h1 h2 => ?_⟩
  · obtain ⟨p, g1, g2, g3⟩ := h.2.1 k hk (by rw [(e k hk).1]; exact hd)
    exact ⟨p, by rw [← (e k hk).2]; exact g1, g2, by rw [← e2 k hk]; exact g3⟩
  · rw [← (e i hi).2, ← (e j hj).2]
    exact h.2.2 i j hi hj hne (by rw [(e i hi).1]; exact h1) (by rw [(e j hj).1]; exact h2)
theorem S3.alloc {V : World} {v : Vw} {d : Nat → Bool} {vs : Nat → Value} {W : World} (h : S3 V v d vs W) (k : Nat) (hk : k < 3) (hd6 : d (6 + k) = false) : S3 V v (fun i => if i = 3 + k then true else d i) (fun i => if i = 3 + k then P0 W.heap.size else vs i) (W.alloc (.cells (vwC zv).toArray 26)) := by
  refine ⟨h.1.alloc _, fun q hq hd => ?_, fun i j hi hj hne h1 h2 => ?_⟩
  · dsimp only at hd ⊢
    by_cases e : q = k
    · subst e
      refine ⟨W.heap.size, by simp, h.1.size, ?_⟩
      rw [if_neg (show ¬ 6 + q = 3 + q by omega), hd6]
      exact Blk.new W 26 _
    · rw [if_neg (show ¬ 3 + q = 3 + k by omega)] at hd
      obtain ⟨p, g1, g2, g3⟩ := h.2.1 q hq hd
      refine ⟨p, by rw [if_neg (show ¬ 3 + q = 3 + k by omega)]; exact g1, g2, ?_⟩
      rw [if_neg (show ¬ 6 + q = 3 + k by omega)]
      exact g3.alloc _
  · dsimp only at h1 h2 ⊢
    have key : ∀ q, q < 3 → d (3 + q) = true → vs (3 + q) ≠ P0 W.heap.size := by
      intro q hq hd e
      obtain ⟨p, g1, g2, g3⟩ := h.2.1 q hq hd
      rw [g1] at e
      exact p0_lt g3 e
    by_cases e1 : i = k
    · subst e1
      rw [if_pos rfl, if_neg (show ¬ 3 + j = 3 + i by omega)]
      rw [if_neg (show ¬ 3 + j = 3 + i by omega)] at h2
      exact (key j hj h2).symm
    · rw [if_neg (show ¬ 3 + i = 3 + k by omega)] at h1 ⊢
      by_cases e2 : j = k
      · subst e2
        rw [if_pos rfl]
        exact key i hi h1
      · rw [if_neg (show ¬ 3 + j = 3 + k by omega)] at h2 ⊢
        exact h.2.2 i j hi hj hne h1 h2
theorem S3.fill {V : World} {v : Vw} {d : Nat → Bool} {vs : Nat → Value} {W : World} (h : S3 V v d vs W) (k : Nat) (hk : k < 3) (p : Nat) (hp : vs (3 + k) = P0 p) (hd3 : d (3 + k) = true) (u : Value) (hge : V.heap.size ≤ p) (hB : Blk W p 26 (vwC zv)) (hv : v.ms.length = 8) : S3 V v (fun i => if i = 6 + k then true else d i) (fun i => if i = 6 + k then u else vs i) (W.setCells p 0 (vwC v)) := by
  refine ⟨h.1.setCells _ _ (by omega), fun q hq hd => ?_, fun i j hi hj hne h1 h2 => ?_⟩
  · dsimp only at hd ⊢
    rw [if_neg (show ¬ 3 + q = 6 + k by omega)] at hd
    obtain ⟨p', g1, g2, g3⟩ := h.2.1 q hq hd
    refine ⟨p', by rw [if_neg (show ¬ 3 + q = 6 + k by omega)]; exact g1, g2, ?_⟩
    by_cases e : q = k
    · subst e
      rw [g1] at hp
      obtain rfl := p0_inj hp
      rw [if_pos rfl]
      exact hB.put (by rw [vwC_len hv]; rfl)
    · rw [if_neg (show ¬ 6 + q = 6 + k by omega)]
      refine g3.other ?_
      intro e2
      subst e2
      exact h.2.2 q k hq hk e hd hd3 (g1.trans hp.symm)
  · dsimp only at h1 h2 ⊢
    rw [if_neg (show ¬ 3 + i = 6 + k by omega)] at h1 ⊢
    rw [if_neg (show ¬ 3 + j = 6 + k by omega)] at h2 ⊢
    exact h.2.2 i j hi hj hne h1 h2
section
variable {o : Oper} {a : Act} {w : World} {K : Act → World → Prop} {Q : Exit → Act → World → Prop}
theorem o_len50 (t : Nat) (ho : o.op = .call { callee := .builtin .len, args := #[.tmp t], argTypes := #[50] }) (ao : Option Addr) (n c : Nat) (hx : a.eval (.tmp t) = .slice ao n c) (h : K (a.put o.dst (.int .i64 n)) w) : o.wp Tryd.prog a w K Q := by
  have hr : (Builtin.len_ #[50] o.type #[.slice ao n c]).run Tryd.prog w = .ok (.int .i64 n) w := by kernel_rfl
  unfold Oper.wp execOp
  simp only [ho, resolve, invoke, builtin, Sem.run_bind, Sem.run_pure, Result.andThen_ok, List.map_toArray, List.map_cons, List.map_nil, hx, hr]
  exact h
end
theorem cg28 (vs : Array Value) (w : World) : (callFunc 28 vs).run Tryd.prog w = .ok (.enter 28 vs) w := by kernel_rfl
def fullJ (j : Nat) : List (Bool × Int) := List.replicate j (true, 2147483647) ++ no8.drop j
theorem fullJ_next (j : Nat) (h : j < 8) : (fullJ j).set j (true, 2147483647) = fullJ (j + 1) := by
  rcases (show j = 0 ∨ j = 1 ∨ j = 2 ∨ j = 3 ∨ j = 4 ∨ j = 5 ∨ j = 6 ∨ j = 7 by omega) with rfl | rfl | rfl | rfl | rfl | rfl | rfl | rfl <;> rfl
theorem fullJ_len (j : Nat) (h : j ≤ 8) : (fullJ j).length = 8 := by simp [fullJ, no8]; omega
set_option maxHeartbeats 2000000 in
theorem pages_17 (v : Vw) (n m : Int) (w : World) (hF : First w) (hm : 16 < m) : Calls Tryd.prog 28 #[aggV (vwC v), .int .i64 n, .int .i64 m] w fun e w' => e = .returned (.slice none 0 0) ∧ Kept [] w w' := by
  have hd : decide (16 < m) = true := by simpa using hm
  go_enter Tryd.func28, Tryd.ntmps28
  have M : Hid (Mm w w []) := hide (Mm.init hF)
  go_wp2_with (
    first
    | (refine wpBoxV rfl (.tmp 0) rfl (vwC v) rfl ?_
       intro W1 b1 e1 B1 K1
       replace M : Hid (Mm w W1 [(b1, 26, vwC v)]) := hide ((unhide M).new e1 B1 K1)
       clear e1 B1 K1
       refine Stp.go ?_))
  constructor
  go_wp2_with fail
  go_ret
  exact ⟨rfl, (unhide M).kept⟩
set_option maxHeartbeats 16000000 in
theorem bounds_gen (V U U1 X Y Z O : Vw) (S : List Int) (w : World) (hF : First w) (hVe : (⟨4611686018427387904, false, 7, fullJ 8⟩ : Vw) = V) (hV : V.ms.length = 8) (hU : U.ms.length = 8) (hU1 : U1.ms.length = 8) (hX : X.ms.length = 8) (hY : Y.ms.length = 8) (hZ : Z.ms.length = 8) (hO : O.ms.length = 8) (hS : S.length = 64)
    (sU : (vwC V).set 4 (.int .i64 5) = vwC U) (sU1 : (vwC U).set 0 (.int .i64 4611686018427387905) = vwC U1) (sX : (vwC V).set 2 (.int .i64 8) = vwC X) (sY : (vwC V).set 10 (.int .i64 2147483648) = vwC Y) (sZ : (vwC V).set 9 (.bool false) = vwC Z) (un : U.nu = 4611686018427387904)
    (k1 : ∀ W, First W → Calls Tryd.prog 8 #[aggV (vwC V)] W fun e w' => e = .returned (.tuple #[aggV (u8s S), .int .i64 0]) ∧ Kept [] W w')
    (k2 : ∀ W, First W → Calls Tryd.prog 9 #[aggV (u8s S)] W fun e w' => e = .returned (two (V, 0)) ∧ Kept [] W w')
    (k3 : ∀ W, First W → Calls Tryd.prog 18 #[aggV (vwC V), .int .i64 1, .int .i64 0] W fun e w' => e = .returned (two (zv, 5)) ∧ Kept [] W w')
    (k4 : ∀ W, First W → Calls Tryd.prog 16 #[aggV (vwC U), .int .i64 0, .int .i64 6] W fun e w' => e = .returned (two (zv, 5)) ∧ Kept [] W w')
    (k5 : ∀ W, First W → Calls Tryd.prog 20 #[aggV (vwC V)] W fun e w' => e = .returned (two (O, 0)) ∧ Kept [] W w')
    (k6 : ∀ W, First W → Calls Tryd.prog 20 #[aggV (vwC O)] W fun e w' => e = .returned (two (zv, 7)) ∧ Kept [] W w')
    (k7 : ∀ W, First W → Calls Tryd.prog 20 #[aggV (vwC fv)] W fun e w' => e = .returned (two (zv, 2)) ∧ Kept [] W w')
    (k8 : ∀ W, First W → Calls Tryd.prog 16 #[aggV (vwC V), .int .i64 0, .int .i64 2147483648] W fun e w' => e = .returned (two (zv, 2)) ∧ Kept [] W w')
    (k9 : ∀ W, First W → Calls Tryd.prog 16 #[aggV (vwC V), .int .i64 8, .int .i64 1] W fun e w' => e = .returned (two (zv, 2)) ∧ Kept [] W w')
    (k10 : ∀ W, First W → Calls Tryd.prog 12 #[aggV (vwC U1)] W fun e w' => e = .returned (.bool false) ∧ Kept [] W w')
    (k11 : ∀ W, First W → Calls Tryd.prog 12 #[aggV (vwC X)] W fun e w' => e = .returned (.bool false) ∧ Kept [] W w')
    (k12 : ∀ W, First W → Calls Tryd.prog 12 #[aggV (vwC Y)] W fun e w' => e = .returned (.bool false) ∧ Kept [] W w')
    (k13 : ∀ W, First W → Calls Tryd.prog 12 #[aggV (vwC Z)] W fun e w' => e = .returned (.bool false) ∧ Kept [] W w')
    (k14 : ∀ W, First W → Calls Tryd.prog 28 #[aggV (vwC V), .int .i64 0, .int .i64 17] W fun e w' => e = .returned (.slice none 0 0) ∧ Kept [] W w') : Calls Tryd.prog 7 #[] w fun e w' => e = .returned (.bool true) ∧ Kept [] w w' := by
  have Hk1 := hide k1
  have Hk2 := hide k2
  have Hk3 := hide k3
  have Hk4 := hide k4
  have Hk5 := hide k5
  have Hk6 := hide k6
  have Hk7 := hide k7
  have Hk8 := hide k8
  have Hk9 := hide k9
  have Hk10 := hide k10
  have Hk11 := hide k11
  have Hk12 := hide k12
  have Hk13 := hide k13
  have Hk14 := hide k14
  have HsU := hide sU
  have HsU1 := hide sU1
  have HsX := hide sX
  have HsY := hide sY
  have HsZ := hide sZ
  have Hun := hide un
  have HVe := hide hVe
  clear hVe sU sU1 sX sY sZ un k1 k2 k3 k4 k5 k6 k7 k8 k9 k10 k11 k12 k13 k14
  go_enter Tryd.func7, Tryd.ntmps7
  have M : Hid (Mm w w []) := hide (Mm.init hF)
  go_wp2_with (
    first
    | (refine wpNew row26 (vwC zv) rfl zero26 1 rfl rfl rfl (.tmp 25) rfl rfl rfl (vwC ⟨4611686018427387904, false, 7, fullJ 0⟩) rfl (vwC_one _) (by kernel_rfl) (by kernel_rfl) ?_
       intro W1 b1 e1 B1 K1
       replace M : Hid (Mm w W1 [(b1, 26, vwC ⟨4611686018427387904, false, 7, fullJ 0⟩)]) := hide ((unhide M).new e1 B1 K1)
       clear e1 B1 K1
       refine Stp.go ?_))
  constructor
  go_wp2_with fail
  go_loopw [2] (fun i wr => ∃ j : Nat, j ≤ 8 ∧ i = .int .i64 j ∧ Hid (Mm w wr [(b1, 26, vwC ⟨4611686018427387904, false, 7, fullJ j⟩)])) (fun i _ => 8 - (intOf i).toNat)
  case atStart => exact ⟨0, by omega, rfl, M⟩
  case round =>
    clear M
    obtain ⟨j, hj, rfl, M⟩ := hrel
    by_cases hlt : j < 8
    · have hltI : (j : Int) < 8 := by omega
      have hd : decide ((j : Int) < 8) = true := by simpa using hltI
      have HJ8 := hide hlt
      go_wp2_with (
        first
        | (refine wpStoreMem rfl (.tmp 33) (.tmp 31) rfl rfl b1 0 j ⟨4611686018427387904, false, 7, fullJ j⟩ (true, 2147483647) rfl rfl (unhide M) rfl (unhide HJ8) (fullJ_len j (by omega)) ?_
           intro W11 N11
           replace M : Hid (Mm w W11 [(b1, 26, vwC ⟨4611686018427387904, false, 7, (fullJ j).set j (true, 2147483647)⟩)]) := hide N11
           clear N11
           refine Stp.go ?_))
      constructor
      go_wp2_with fail
      go_roundw
      case rel =>
        refine ⟨j + 1, by omega, by go_num, ?_⟩
        have h9 := unhide M
        rw [fullJ_next j (unhide HJ8)] at h9
        exact h9
      case measure => simp [intOf]; omega
    have hd : decide ((j : Int) < 8) = false := by simp; omega
    replace M : Hid (Mm w wr [(b1, 26, vwC V)]) := by have h9 := unhide M; rw [show j = 8 by omega, unhide HVe] at h9; exact h9
    go_wp2_with (
      first
      | (refine wpLoadA row26 rfl (.tmp 1) rfl b1 0 rfl (vwC V) (vwC_len hV) ((unhide M).at 0 _ rfl).range ?_
         refine Stp.go ?_))
    constructor
    go_wp2_with (
      first
      | (go_at_call 8
         refine (unhide Hk1 _ (unhide M).first).mono ?_
         rintro e W21 ⟨rfl, K21⟩
         replace M : Hid (Mm w W21 [(b1, 26, vwC V)]) := hide ((unhide M).step K21)
         clear K21
         refine Stp.go ?_))
    constructor
    go_wp2_with (
      first
      | (refine wpNew row28 (u8s (zs 64)) (zl 64) zero28 3 rfl rfl rfl (.tmp 37) rfl rfl rfl (u8s S) (by rw [u8s_len]; exact hS) (u8s_one _) (by kernel_rfl) (by kernel_rfl) ?_
         intro W22 b22 e22 B22 K22
         replace M : Hid (Mm w W22 [(b1, 26, vwC V), (b22, 28, u8s S)]) := hide ((unhide M).new e22 B22 K22)
         clear e22 B22 K22
         refine Stp.go ?_))
    constructor
    go_wp2_with (
      first
      | (refine wpLoadA row28 rfl (.tmp 3) rfl b22 0 rfl (u8s S) (by rw [u8s_len]; exact hS) ((unhide M).at 1 _ rfl).range ?_
         refine Stp.go ?_))
    constructor
    go_wp2_with (
      first
      | (go_at_call 9
         refine (unhide Hk2 _ (unhide M).first).mono ?_
         rintro e W23 ⟨rfl, K23⟩
         replace M : Hid (Mm w W23 [(b1, 26, vwC V), (b22, 28, u8s S)]) := hide ((unhide M).step K23)
         clear K23
         refine Stp.go ?_))
    constructor
    go_wp2_with (
      first
      | (refine wpNew row26 (vwC zv) rfl zero26 5 rfl rfl rfl (.tmp 42) rfl rfl rfl (vwC V) (vwC_len hV) (vwC_one _) (by kernel_rfl) (by kernel_rfl) ?_
         intro W24 b24 e24 B24 K24
         replace M : Hid (Mm w W24 [(b1, 26, vwC V), (b22, 28, u8s S), (b24, 26, vwC V)]) := hide ((unhide M).new e24 B24 K24)
         clear e24 B24 K24
         refine Stp.go ?_))
    constructor
    go_wp2_with (
      first
      | (refine wpLoadA row26 rfl (.tmp 1) rfl b1 0 rfl (vwC V) (vwC_len hV) ((unhide M).at 0 _ rfl).range ?_
         refine Stp.go ?_))
    constructor
    go_wp2_with (
      first
      | (go_at_call 18
         refine (unhide Hk3 _ (unhide M).first).mono ?_
         rintro e W25 ⟨rfl, K25⟩
         replace M : Hid (Mm w W25 [(b1, 26, vwC V), (b22, 28, u8s S), (b24, 26, vwC V)]) := hide ((unhide M).step K25)
         clear K25
         refine Stp.go ?_))
    constructor
    go_wp2_with (
      first
      | (refine wpNew row26 (vwC zv) rfl zero26 7 rfl rfl rfl (.tmp 47) rfl rfl rfl (vwC zv) rfl (vwC_one _) (by kernel_rfl) (by kernel_rfl) ?_
         intro W26 b26 e26 B26 K26
         replace M : Hid (Mm w W26 [(b1, 26, vwC V), (b22, 28, u8s S), (b24, 26, vwC V), (b26, 26, vwC zv)]) := hide ((unhide M).new e26 B26 K26)
         clear e26 B26 K26
         refine Stp.go ?_))
    constructor
    go_wp2_with (
      first
      | (refine wpLoadA row26 rfl (.tmp 1) rfl b1 0 rfl (vwC V) (vwC_len hV) ((unhide M).at 0 _ rfl).range ?_
         refine Stp.go ?_))
    constructor
    go_wp2_with (
      first
      | (refine wpNew row26 (vwC zv) rfl zero26 9 rfl rfl rfl (.tmp 49) rfl rfl rfl (vwC V) (vwC_len hV) (vwC_one _) (by kernel_rfl) (by kernel_rfl) ?_
         intro W27 b27 e27 B27 K27
         replace M : Hid (Mm w W27 [(b1, 26, vwC V), (b22, 28, u8s S), (b24, 26, vwC V), (b26, 26, vwC zv), (b27, 26, vwC V)]) := hide ((unhide M).new e27 B27 K27)
         clear e27 B27 K27
         refine Stp.go ?_))
    constructor
    go_wp2_with (
      first
      | (refine wpStoreM1 size2 rfl (.tmp 52) (.const (.int .i64 5)) rfl rfl b27 4 4 (.int .i64 5) ⟨rfl, rfl⟩ rfl rfl (unhide M) rfl (vw_lt hV (by decide)) ?_
         intro W28 N28
         replace M : Hid (Mm w W28 [(b1, 26, vwC V), (b22, 28, u8s S), (b24, 26, vwC V), (b26, 26, vwC zv), (b27, 26, vwC U)]) := hide (by have h9 := N28; simp only [List.set_cons_succ, List.set_cons_zero] at h9; rw [unhide HsU] at h9; exact h9)
         clear N28
         refine Stp.go ?_))
    constructor
    go_wp2_with (
      first
      | (refine wpLoadA row26 rfl (.tmp 9) rfl b27 0 rfl (vwC U) (vwC_len hU) ((unhide M).at 4 _ rfl).range ?_
         refine Stp.go ?_))
    constructor
    go_wp2_with (
      first
      | (go_at_call 16
         refine (unhide Hk4 _ (unhide M).first).mono ?_
         rintro e W29 ⟨rfl, K29⟩
         replace M : Hid (Mm w W29 [(b1, 26, vwC V), (b22, 28, u8s S), (b24, 26, vwC V), (b26, 26, vwC zv), (b27, 26, vwC U)]) := hide ((unhide M).step K29)
         clear K29
         refine Stp.go ?_))
    constructor
    go_wp2_with (
      first
      | (refine wpNew row26 (vwC zv) rfl zero26 10 rfl rfl rfl (.tmp 56) rfl rfl rfl (vwC zv) rfl (vwC_one _) (by kernel_rfl) (by kernel_rfl) ?_
         intro W30 b30 e30 B30 K30
         replace M : Hid (Mm w W30 [(b1, 26, vwC V), (b22, 28, u8s S), (b24, 26, vwC V), (b26, 26, vwC zv), (b27, 26, vwC U), (b30, 26, vwC zv)]) := hide ((unhide M).new e30 B30 K30)
         clear e30 B30 K30
         have c0 : W30.cell? ⟨b27, 0, none⟩ = some (.int .i64 4611686018427387904) := by have h9 := fits_cell ((unhide M).at 4 _ rfl) 0 _ rfl; rw [unhide Hun] at h9; exact h9
         refine Stp.go ?_))
    constructor
    go_wp2_with (
      first
      | (refine wpStoreM1 size2 rfl (.tmp 61) (.tmp 60) rfl rfl b27 0 4 (.int .i64 4611686018427387905) ⟨rfl, rfl⟩ rfl rfl (unhide M) rfl (vw_lt hU (by decide)) ?_
         intro W31 N31
         replace M : Hid (Mm w W31 [(b1, 26, vwC V), (b22, 28, u8s S), (b24, 26, vwC V), (b26, 26, vwC zv), (b27, 26, vwC U1), (b30, 26, vwC zv)]) := hide (by have h9 := N31; simp only [List.set_cons_succ, List.set_cons_zero] at h9; rw [unhide HsU1] at h9; exact h9)
         clear N31
         clear c0
         refine Stp.go ?_))
    constructor
    go_wp2_with fail
    refine wp_region_any mixed (wpAny_gx 9 rfl (by kernel_rfl) [some (aggV (vwC V)), some (aggV (vwC V)), some (aggV (vwC V)), none, none, none, none, none, none] rfl (by kernel_rfl) (fun l vs W => (S3 W31 V) (fun i => l.getD i false) vs W) (⟨⟨rfl, rfl, rfl, Nat.le_refl _, fun _ _ _ => rfl⟩, (fun k hk h => by rcases (show k = 0 ∨ k = 1 ∨ k = 2 by omega) with rfl | rfl | rfl <;> cases h), fun k j hk _ _ h => by rcases (show k = 0 ∨ k = 1 ∨ k = 2 by omega) with rfl | rfl | rfl <;> cases h⟩) ?_ ?_)
    · intro ix o' hi ho a' w2 l vs hls hlf hJ hout hin hdep hnot
      match ix, ho with
      | 0, ho =>
        obtain rfl := Option.some.inj ho
        have e0 := hout 1 (by kernel_rfl)
        replace e0 : a'.eval (.tmp 1) = _ := e0.trans rfl
        exact wp_loadA row26 (.tmp 1) rfl b1 0 e0 (vwC V) (vwC_len hV) (((unhide M).step hJ.1).at 0 _ rfl).range ⟨_, rfl, told_of rfl, keepG (St := (S3 W31 V)) [3, 4, 5, 6, 7, 8] S3.loc (by omega) (by decide) hJ⟩
      | 1, ho =>
        obtain rfl := Option.some.inj ho
        have e0 := hout 1 (by kernel_rfl)
        replace e0 : a'.eval (.tmp 1) = _ := e0.trans rfl
        exact wp_loadA row26 (.tmp 1) rfl b1 0 e0 (vwC V) (vwC_len hV) (((unhide M).step hJ.1).at 0 _ rfl).range ⟨_, rfl, told_of rfl, keepG (St := (S3 W31 V)) [3, 4, 5, 6, 7, 8] S3.loc (by omega) (by decide) hJ⟩
      | 2, ho =>
        obtain rfl := Option.some.inj ho
        have e0 := hout 1 (by kernel_rfl)
        replace e0 : a'.eval (.tmp 1) = _ := e0.trans rfl
        exact wp_loadA row26 (.tmp 1) rfl b1 0 e0 (vwC V) (vwC_len hV) (((unhide M).step hJ.1).at 0 _ rfl).range ⟨_, rfl, told_of rfl, keepG (St := (S3 W31 V)) [3, 4, 5, 6, 7, 8] S3.loc (by omega) (by decide) hJ⟩
      | 3, ho =>
        obtain rfl := Option.some.inj ho
        exact wp_allocA (vwC zv) zero26 rfl ⟨_, rfl, told_no rfl, nextG (St := (S3 W31 V)) (by omega) (S3.alloc hJ 0 (by omega) (hnot 6 (by kernel_rfl)))⟩
      | 4, ho =>
        obtain rfl := Option.some.inj ho
        exact wp_allocA (vwC zv) zero26 rfl ⟨_, rfl, told_no rfl, nextG (St := (S3 W31 V)) (by omega) (S3.alloc hJ 1 (by omega) (hnot 7 (by kernel_rfl)))⟩
      | 5, ho =>
        obtain rfl := Option.some.inj ho
        exact wp_allocA (vwC zv) zero26 rfl ⟨_, rfl, told_no rfl, nextG (St := (S3 W31 V)) (by omega) (S3.alloc hJ 2 (by omega) (hnot 8 (by kernel_rfl)))⟩
      | 6, ho =>
        obtain rfl := Option.some.inj ho
        have e0 : a'.eval (.tmp 12) = vs 3 := (hin 3 12 (by kernel_rfl) (by kernel_rfl)).1
        have e1 : a'.eval (.tmp 62) = aggV (vwC V) := by have h9 := hin 0 62 (by kernel_rfl) (by kernel_rfl); exact h9.1.trans (told_is _ h9.2 rfl)
        have hd3 : l.getD 3 false = true := hdep 3 (by kernel_rfl)
        obtain ⟨p, hp, hge, hz0⟩ := hJ.2.1 0 (by omega) hd3
        have hz1 : Blk w2 p 26 (vwC zv) := by have h9 : Blk w2 p 26 (cond (l.getD 6 false) (vwC V) (vwC zv)) := hz0; rw [hlf] at h9; exact h9
        exact wp_storeN row26 (.tmp 12) (.tmp 62) rfl rfl p 0 _ (e0.trans hp) e1 (vwC_len hV) (vwC_one _) (hz1.there (by decide)) ⟨undef, rfl, told_no rfl, nextG (St := (S3 W31 V)) (by omega) (S3.fill hJ 0 (by omega) p hp hd3 undef hge hz1 hV)⟩
      | 7, ho =>
        obtain rfl := Option.some.inj ho
        have e0 : a'.eval (.tmp 13) = vs 4 := (hin 4 13 (by kernel_rfl) (by kernel_rfl)).1
        have e1 : a'.eval (.tmp 63) = aggV (vwC V) := by have h9 := hin 1 63 (by kernel_rfl) (by kernel_rfl); exact h9.1.trans (told_is _ h9.2 rfl)
        have hd3 : l.getD 4 false = true := hdep 4 (by kernel_rfl)
        obtain ⟨p, hp, hge, hz0⟩ := hJ.2.1 1 (by omega) hd3
        have hz1 : Blk w2 p 26 (vwC zv) := by have h9 : Blk w2 p 26 (cond (l.getD 7 false) (vwC V) (vwC zv)) := hz0; rw [hlf] at h9; exact h9
        exact wp_storeN row26 (.tmp 13) (.tmp 63) rfl rfl p 0 _ (e0.trans hp) e1 (vwC_len hV) (vwC_one _) (hz1.there (by decide)) ⟨undef, rfl, told_no rfl, nextG (St := (S3 W31 V)) (by omega) (S3.fill hJ 1 (by omega) p hp hd3 undef hge hz1 hV)⟩
      | 8, ho =>
        obtain rfl := Option.some.inj ho
        have e0 : a'.eval (.tmp 14) = vs 5 := (hin 5 14 (by kernel_rfl) (by kernel_rfl)).1
        have e1 : a'.eval (.tmp 64) = aggV (vwC V) := by have h9 := hin 2 64 (by kernel_rfl) (by kernel_rfl); exact h9.1.trans (told_is _ h9.2 rfl)
        have hd3 : l.getD 5 false = true := hdep 5 (by kernel_rfl)
        obtain ⟨p, hp, hge, hz0⟩ := hJ.2.1 2 (by omega) hd3
        have hz1 : Blk w2 p 26 (vwC zv) := by have h9 : Blk w2 p 26 (cond (l.getD 8 false) (vwC V) (vwC zv)) := hz0; rw [hlf] at h9; exact h9
        exact wp_storeN row26 (.tmp 14) (.tmp 64) rfl rfl p 0 _ (e0.trans hp) e1 (vwC_len hV) (vwC_one _) (hz1.there (by decide)) ⟨undef, rfl, told_no rfl, nextG (St := (S3 W31 V)) (by omega) (S3.fill hJ 2 (by omega) p hp hd3 undef hge hz1 hV)⟩
    intro l_ vs4 V4 hl hJ htold
    have t0 : vs4 0 = aggV (vwC V) := told_is _ (htold 0 (by decide)) rfl
    have t1 : vs4 1 = aggV (vwC V) := told_is _ (htold 1 (by decide)) rfl
    have t2 : vs4 2 = aggV (vwC V) := told_is _ (htold 2 (by decide)) rfl
    rw [show (List.range 9).map vs4 = [vs4 0, vs4 1, vs4 2, vs4 3, vs4 4, vs4 5, vs4 6, vs4 7, vs4 8] from rfl]
    simp only [t0, t1, t2, putAll, Act.put, List.setIfInBounds_toArray, List.set_cons_succ, List.set_cons_zero]
    clear t0 t1 t2 htold
    obtain ⟨p0, ep0, hg0, hb0⟩ := hJ.2.1 0 (by omega) (hl 3 (by decide))
    obtain ⟨p1, ep1, hg1, hb1⟩ := hJ.2.1 1 (by omega) (hl 4 (by decide))
    obtain ⟨p2, ep2, hg2, hb2⟩ := hJ.2.1 2 (by omega) (hl 5 (by decide))
    have hn01 : p0 ≠ p1 := by rintro rfl; exact hJ.2.2 0 1 (by omega) (by omega) (by omega) (hl 3 (by decide)) (hl 4 (by decide)) (ep0.trans ep1.symm)
    have hn02 : p0 ≠ p2 := by rintro rfl; exact hJ.2.2 0 2 (by omega) (by omega) (by omega) (hl 3 (by decide)) (hl 5 (by decide)) (ep0.trans ep2.symm)
    have hn12 : p1 ≠ p2 := by rintro rfl; exact hJ.2.2 1 2 (by omega) (by omega) (by omega) (hl 4 (by decide)) (hl 5 (by decide)) (ep1.trans ep2.symm)
    replace hb0 : Blk V4 p0 26 (vwC V) := by have h9 : Blk V4 p0 26 (cond (l_.getD 6 false) (vwC V) (vwC zv)) := hb0; rw [hl 6 (by decide)] at h9; exact h9
    replace hb1 : Blk V4 p1 26 (vwC V) := by have h9 : Blk V4 p1 26 (cond (l_.getD 7 false) (vwC V) (vwC zv)) := hb1; rw [hl 7 (by decide)] at h9; exact h9
    replace hb2 : Blk V4 p2 26 (vwC V) := by have h9 : Blk V4 p2 26 (cond (l_.getD 8 false) (vwC V) (vwC zv)) := hb2; rw [hl 8 (by decide)] at h9; exact h9
    have hlt : ∀ x ∈ [(b1, 26, vwC V), (b22, 28, u8s S), (b24, 26, vwC V), (b26, 26, vwC zv), (b27, 26, vwC U1), (b30, 26, vwC zv)], x.1 < W31.heap.size := fun x hx => ((unhide M).blk x hx).1.lt
    have hwz := (unhide M).kept.size
    replace M : Hid (Mm w V4 [(b1, 26, vwC V), (b22, 28, u8s S), (b24, 26, vwC V), (b26, 26, vwC zv), (b27, 26, vwC U1), (b30, 26, vwC zv), (p0, 26, vwC V), (p1, 26, vwC V), (p2, 26, vwC V)]) := hide (((((unhide M).step hJ.1).add hb0 (by omega) (fun x hx => by have := hlt x hx; omega)).add hb1 (by omega) (fun x hx => by rcases List.mem_append.1 hx with h | h; have := hlt x h; omega; simp at h; subst h; exact hn01)).add hb2 (by omega) (fun x hx => by rcases List.mem_append.1 hx with h | h; rcases List.mem_append.1 h with h | h; have := hlt x h; omega; simp at h; subst h; exact hn02; simp at h; subst h; exact hn12))
    have ep0 : vs4 3 = P0 p0 := ep0
    have ep1 : vs4 4 = P0 p1 := ep1
    have ep2 : vs4 5 = P0 p2 := ep2
    rw [ep0, ep1, ep2]
    clear hJ hl ep0 ep1 ep2 hg0 hg1 hg2 hb0 hb1 hb2 hn01 hn02 hn12 hlt hwz
    go_wp2_with (
      first
      | (refine wpStoreM1 size3 rfl (.tmp 65) (.const (.int .i64 8)) rfl rfl p0 2 6 (.int .i64 8) ⟨rfl, rfl⟩ rfl rfl (unhide M) rfl (vw_lt hV (by decide)) ?_
         intro W32 N32
         replace M : Hid (Mm w W32 [(b1, 26, vwC V), (b22, 28, u8s S), (b24, 26, vwC V), (b26, 26, vwC zv), (b27, 26, vwC U1), (b30, 26, vwC zv), (p0, 26, vwC X), (p1, 26, vwC V), (p2, 26, vwC V)]) := hide (by have h9 := N32; simp only [List.set_cons_succ, List.set_cons_zero] at h9; rw [unhide HsX] at h9; exact h9)
         clear N32
         refine Stp.go ?_))
    constructor
    go_wp2_with (
      first
      | (refine wpStoreM1 size2 rfl (.tmp 68) (.const (.int .i64 2147483648)) rfl rfl p1 10 7 (.int .i64 2147483648) ⟨rfl, rfl⟩ rfl rfl (unhide M) rfl (vw_lt hV (by decide)) ?_
         intro W33 N33
         replace M : Hid (Mm w W33 [(b1, 26, vwC V), (b22, 28, u8s S), (b24, 26, vwC V), (b26, 26, vwC zv), (b27, 26, vwC U1), (b30, 26, vwC zv), (p0, 26, vwC X), (p1, 26, vwC Y), (p2, 26, vwC V)]) := hide (by have h9 := N33; simp only [List.set_cons_succ, List.set_cons_zero] at h9; rw [unhide HsY] at h9; exact h9)
         clear N33
         refine Stp.go ?_))
    constructor
    go_wp2_with (
      first
      | (refine wpStoreM1 size4 rfl (.tmp 71) (.const (.bool false)) rfl rfl p2 9 8 (.bool false) ⟨rfl, rfl⟩ rfl rfl (unhide M) rfl (vw_lt hV (by decide)) ?_
         intro W34 N34
         replace M : Hid (Mm w W34 [(b1, 26, vwC V), (b22, 28, u8s S), (b24, 26, vwC V), (b26, 26, vwC zv), (b27, 26, vwC U1), (b30, 26, vwC zv), (p0, 26, vwC X), (p1, 26, vwC Y), (p2, 26, vwC Z)]) := hide (by have h9 := N34; simp only [List.set_cons_succ, List.set_cons_zero] at h9; rw [unhide HsZ] at h9; exact h9)
         clear N34
         refine Stp.go ?_))
    constructor
    go_wp2_with (
      first
      | (refine wpLoadA row26 rfl (.tmp 1) rfl b1 0 rfl (vwC V) (vwC_len hV) ((unhide M).at 0 _ rfl).range ?_
         refine Stp.go ?_))
    constructor
    go_wp2_with (
      first
      | (go_at_call 20
         refine (unhide Hk5 _ (unhide M).first).mono ?_
         rintro e W35 ⟨rfl, K35⟩
         replace M : Hid (Mm w W35 [(b1, 26, vwC V), (b22, 28, u8s S), (b24, 26, vwC V), (b26, 26, vwC zv), (b27, 26, vwC U1), (b30, 26, vwC zv), (p0, 26, vwC X), (p1, 26, vwC Y), (p2, 26, vwC Z)]) := hide ((unhide M).step K35)
         clear K35
         refine Stp.go ?_))
    constructor
    go_wp2_with (
      first
      | (refine wpNew row26 (vwC zv) rfl zero26 15 rfl rfl rfl (.tmp 75) rfl rfl rfl (vwC O) (vwC_len hO) (vwC_one _) (by kernel_rfl) (by kernel_rfl) ?_
         intro W36 b36 e36 B36 K36
         replace M : Hid (Mm w W36 [(b1, 26, vwC V), (b22, 28, u8s S), (b24, 26, vwC V), (b26, 26, vwC zv), (b27, 26, vwC U1), (b30, 26, vwC zv), (p0, 26, vwC X), (p1, 26, vwC Y), (p2, 26, vwC Z), (b36, 26, vwC O)]) := hide ((unhide M).new e36 B36 K36)
         clear e36 B36 K36
         refine Stp.go ?_))
    constructor
    go_wp2_with (
      first
      | (refine wpLoadA row26 rfl (.tmp 15) rfl b36 0 rfl (vwC O) (vwC_len hO) ((unhide M).at 9 _ rfl).range ?_
         refine Stp.go ?_))
    constructor
    go_wp2_with (
      first
      | (go_at_call 20
         refine (unhide Hk6 _ (unhide M).first).mono ?_
         rintro e W37 ⟨rfl, K37⟩
         replace M : Hid (Mm w W37 [(b1, 26, vwC V), (b22, 28, u8s S), (b24, 26, vwC V), (b26, 26, vwC zv), (b27, 26, vwC U1), (b30, 26, vwC zv), (p0, 26, vwC X), (p1, 26, vwC Y), (p2, 26, vwC Z), (b36, 26, vwC O)]) := hide ((unhide M).step K37)
         clear K37
         refine Stp.go ?_))
    constructor
    go_wp2_with (
      first
      | (refine wpNew row26 (vwC zv) rfl zero26 17 rfl rfl rfl (.tmp 80) rfl rfl rfl (vwC zv) rfl (vwC_one _) (by kernel_rfl) (by kernel_rfl) ?_
         intro W38 b38 e38 B38 K38
         replace M : Hid (Mm w W38 [(b1, 26, vwC V), (b22, 28, u8s S), (b24, 26, vwC V), (b26, 26, vwC zv), (b27, 26, vwC U1), (b30, 26, vwC zv), (p0, 26, vwC X), (p1, 26, vwC Y), (p2, 26, vwC Z), (b36, 26, vwC O), (b38, 26, vwC zv)]) := hide ((unhide M).new e38 B38 K38)
         clear e38 B38 K38
         refine Stp.go ?_))
    constructor
    go_wp2_with (
      first
      | (go_at_call 31
         refine (first31 _).mono ?_
         rintro e W39 ⟨rfl, K39⟩
         replace M : Hid (Mm w W39 [(b1, 26, vwC V), (b22, 28, u8s S), (b24, 26, vwC V), (b26, 26, vwC zv), (b27, 26, vwC U1), (b30, 26, vwC zv), (p0, 26, vwC X), (p1, 26, vwC Y), (p2, 26, vwC Z), (b36, 26, vwC O), (b38, 26, vwC zv)]) := hide ((unhide M).step K39)
         clear K39
         refine Stp.go ?_))
    constructor
    go_wp2_with (
      first
      | (go_at_call 20
         refine (unhide Hk7 _ (unhide M).first).mono ?_
         rintro e W40 ⟨rfl, K40⟩
         replace M : Hid (Mm w W40 [(b1, 26, vwC V), (b22, 28, u8s S), (b24, 26, vwC V), (b26, 26, vwC zv), (b27, 26, vwC U1), (b30, 26, vwC zv), (p0, 26, vwC X), (p1, 26, vwC Y), (p2, 26, vwC Z), (b36, 26, vwC O), (b38, 26, vwC zv)]) := hide ((unhide M).step K40)
         clear K40
         refine Stp.go ?_))
    constructor
    go_wp2_with (
      first
      | (refine wpNew row26 (vwC zv) rfl zero26 19 rfl rfl rfl (.tmp 85) rfl rfl rfl (vwC zv) rfl (vwC_one _) (by kernel_rfl) (by kernel_rfl) ?_
         intro W41 b41 e41 B41 K41
         replace M : Hid (Mm w W41 [(b1, 26, vwC V), (b22, 28, u8s S), (b24, 26, vwC V), (b26, 26, vwC zv), (b27, 26, vwC U1), (b30, 26, vwC zv), (p0, 26, vwC X), (p1, 26, vwC Y), (p2, 26, vwC Z), (b36, 26, vwC O), (b38, 26, vwC zv), (b41, 26, vwC zv)]) := hide ((unhide M).new e41 B41 K41)
         clear e41 B41 K41
         refine Stp.go ?_))
    constructor
    go_wp2_with (
      first
      | (refine wpLoadA row26 rfl (.tmp 1) rfl b1 0 rfl (vwC V) (vwC_len hV) ((unhide M).at 0 _ rfl).range ?_
         refine Stp.go ?_))
    constructor
    go_wp2_with (
      first
      | (go_at_call 16
         refine (unhide Hk8 _ (unhide M).first).mono ?_
         rintro e W42 ⟨rfl, K42⟩
         replace M : Hid (Mm w W42 [(b1, 26, vwC V), (b22, 28, u8s S), (b24, 26, vwC V), (b26, 26, vwC zv), (b27, 26, vwC U1), (b30, 26, vwC zv), (p0, 26, vwC X), (p1, 26, vwC Y), (p2, 26, vwC Z), (b36, 26, vwC O), (b38, 26, vwC zv), (b41, 26, vwC zv)]) := hide ((unhide M).step K42)
         clear K42
         refine Stp.go ?_))
    constructor
    go_wp2_with (
      first
      | (refine wpNew row26 (vwC zv) rfl zero26 21 rfl rfl rfl (.tmp 90) rfl rfl rfl (vwC zv) rfl (vwC_one _) (by kernel_rfl) (by kernel_rfl) ?_
         intro W43 b43 e43 B43 K43
         replace M : Hid (Mm w W43 [(b1, 26, vwC V), (b22, 28, u8s S), (b24, 26, vwC V), (b26, 26, vwC zv), (b27, 26, vwC U1), (b30, 26, vwC zv), (p0, 26, vwC X), (p1, 26, vwC Y), (p2, 26, vwC Z), (b36, 26, vwC O), (b38, 26, vwC zv), (b41, 26, vwC zv), (b43, 26, vwC zv)]) := hide ((unhide M).new e43 B43 K43)
         clear e43 B43 K43
         refine Stp.go ?_))
    constructor
    go_wp2_with (
      first
      | (refine wpLoadA row26 rfl (.tmp 1) rfl b1 0 rfl (vwC V) (vwC_len hV) ((unhide M).at 0 _ rfl).range ?_
         refine Stp.go ?_))
    constructor
    go_wp2_with (
      first
      | (go_at_call 16
         refine (unhide Hk9 _ (unhide M).first).mono ?_
         rintro e W44 ⟨rfl, K44⟩
         replace M : Hid (Mm w W44 [(b1, 26, vwC V), (b22, 28, u8s S), (b24, 26, vwC V), (b26, 26, vwC zv), (b27, 26, vwC U1), (b30, 26, vwC zv), (p0, 26, vwC X), (p1, 26, vwC Y), (p2, 26, vwC Z), (b36, 26, vwC O), (b38, 26, vwC zv), (b41, 26, vwC zv), (b43, 26, vwC zv)]) := hide ((unhide M).step K44)
         clear K44
         refine Stp.go ?_))
    constructor
    go_wp2_with (
      first
      | (refine wpNew row26 (vwC zv) rfl zero26 23 rfl rfl rfl (.tmp 95) rfl rfl rfl (vwC zv) rfl (vwC_one _) (by kernel_rfl) (by kernel_rfl) ?_
         intro W45 b45 e45 B45 K45
         replace M : Hid (Mm w W45 [(b1, 26, vwC V), (b22, 28, u8s S), (b24, 26, vwC V), (b26, 26, vwC zv), (b27, 26, vwC U1), (b30, 26, vwC zv), (p0, 26, vwC X), (p1, 26, vwC Y), (p2, 26, vwC Z), (b36, 26, vwC O), (b38, 26, vwC zv), (b41, 26, vwC zv), (b43, 26, vwC zv), (b45, 26, vwC zv)]) := hide ((unhide M).new e45 B45 K45)
         clear e45 B45 K45
         refine Stp.go ?_))
    constructor
    go_upto_region 22 with fail
    simp only [List.append_eq, List.cons_append, List.nil_append]
    refine wp_text_tq 74 rfl (by kernel_rfl) [some (.int .i64 0), some (.int .i64 0), some (.int .i64 0), some (.int .i64 0), some (.int .i64 0), some (.int .i64 0), some (.int .i64 0), some (.int .i64 0), some (.bool true), some (.bool true), some (aggV (vwC V)), some (aggV (vwC V)), some (.bool true), some (.bool true), some (.bool true), some (.int .i64 5), some (.int .i64 5), some (.bool true), some (.bool true), some (.bool true), some (.int .i64 5), some (.int .i64 5), some (.bool true), some (.bool true), some (.bool true), some (aggV (vwC U1)), some (.bool false), some (.bool true), some (.bool true), some (.bool true), some (aggV (vwC X)), some (.bool false), some (.bool true), some (.bool true), some (.bool true), some (aggV (vwC Y)), some (.bool false), some (.bool true), some (.bool true), some (.bool true), some (aggV (vwC Z)), some (.bool false), some (.bool true), some (.bool true), some (.bool true), some (.int .i64 7), some (.int .i64 7), some (.bool true), some (.bool true), some (.bool true), some (.int .i64 2), some (.int .i64 2), some (.bool true), some (.bool true), some (.bool true), some (.int .i64 2), some (.int .i64 2), some (.bool true), some (.bool true), some (.bool true), some (.int .i64 2), some (.int .i64 2), some (.bool true), some (.bool true), some (.bool true), some (aggV (vwC V)), some (.slice none 0 0), some (.int .i64 ((0 : Nat) : Int)), some (.bool true), some (.bool true), some (.bool true), some (.bool true), some (.bool true), some (.bool true)] rfl (by kernel_rfl) (by kernel_rfl) ?_ ?_
    · intro i o' hi hsk ho a' w2 hout hin hk2
      replace hk2 : Kept [] W45 w2 := ⟨hk2.os, hk2.tape, hk2.output, hk2.size, hk2.block⟩
      match i, ho, hsk with
      | 0, ho, hsk =>
        obtain rfl := Option.some.inj ho
        exact wp_move (.tmp 4) rfl _ ((hout 4 (by kernel_rfl)).trans rfl) ⟨_, rfl, tq_is _ _ _ _ rfl, Kept.refl _ _, fun _ _ _ _ _ => trivial⟩
      | 1, ho, hsk =>
        obtain rfl := Option.some.inj ho
        have e0 : a'.eval (.tmp 97) = .int .i64 0 := is_tq (hin 0 97 (by kernel_rfl) (by kernel_rfl)) rfl
        refine wp_callF 11 _ _ rfl #[.int .i64 0] (by simp [e0]) (cg11 _ _) ((num11 _ _).mono ?_)
        rintro e w3 ⟨rfl, rfl⟩
        exact ⟨_, rfl, _, rfl, tq_is _ _ _ _ rfl, Kept.refl _ _, fun _ _ _ _ _ => trivial⟩
      | 2, ho, hsk =>
        obtain rfl := Option.some.inj ho
        exact wp_move (.tmp 6) rfl _ ((hout 6 (by kernel_rfl)).trans rfl) ⟨_, rfl, tq_is _ _ _ _ rfl, Kept.refl _ _, fun _ _ _ _ _ => trivial⟩
      | 3, ho, hsk =>
        obtain rfl := Option.some.inj ho
        have e0 : a'.eval (.tmp 99) = .int .i64 0 := is_tq (hin 2 99 (by kernel_rfl) (by kernel_rfl)) rfl
        refine wp_callF 11 _ _ rfl #[.int .i64 0] (by simp [e0]) (cg11 _ _) ((num11 _ _).mono ?_)
        rintro e w3 ⟨rfl, rfl⟩
        exact ⟨_, rfl, _, rfl, tq_is _ _ _ _ rfl, Kept.refl _ _, fun _ _ _ _ _ => trivial⟩
      | 4, ho, hsk =>
        obtain rfl := Option.some.inj ho
        have e0 : a'.eval (.tmp 98) = .int .i64 0 := is_tq (hin 1 98 (by kernel_rfl) (by kernel_rfl)) rfl
        have e1 : a'.eval (.tmp 100) = .int .i64 0 := is_tq (hin 3 100 (by kernel_rfl) (by kernel_rfl)) rfl
        exact o_add3 (.tmp 98) (.tmp 100) rfl 0 0 (by omega) e0 e1 ⟨_, rfl, tq_is _ _ _ _ rfl, Kept.refl _ _, fun _ _ _ _ _ => trivial⟩
      | 5, ho, hsk =>
        obtain rfl := Option.some.inj ho
        exact wp_move (.tmp 16) rfl _ ((hout 16 (by kernel_rfl)).trans rfl) ⟨_, rfl, tq_is _ _ _ _ rfl, Kept.refl _ _, fun _ _ _ _ _ => trivial⟩
      | 6, ho, hsk =>
        obtain rfl := Option.some.inj ho
        have e0 : a'.eval (.tmp 102) = .int .i64 0 := is_tq (hin 5 102 (by kernel_rfl) (by kernel_rfl)) rfl
        refine wp_callF 11 _ _ rfl #[.int .i64 0] (by simp [e0]) (cg11 _ _) ((num11 _ _).mono ?_)
        rintro e w3 ⟨rfl, rfl⟩
        exact ⟨_, rfl, _, rfl, tq_is _ _ _ _ rfl, Kept.refl _ _, fun _ _ _ _ _ => trivial⟩
      | 7, ho, hsk =>
        obtain rfl := Option.some.inj ho
        have e0 : a'.eval (.tmp 101) = .int .i64 0 := is_tq (hin 4 101 (by kernel_rfl) (by kernel_rfl)) rfl
        have e1 : a'.eval (.tmp 103) = .int .i64 0 := is_tq (hin 6 103 (by kernel_rfl) (by kernel_rfl)) rfl
        exact o_add3 (.tmp 101) (.tmp 103) rfl 0 0 (by omega) e0 e1 ⟨_, rfl, tq_is _ _ _ _ rfl, Kept.refl _ _, fun _ _ _ _ _ => trivial⟩
      | 8, ho, hsk =>
        obtain rfl := Option.some.inj ho
        have e0 : a'.eval (.tmp 104) = .int .i64 0 := is_tq (hin 7 104 (by kernel_rfl) (by kernel_rfl)) rfl
        exact o_eql3 (.tmp 104) 0 rfl _ true (by simp) e0 ⟨_, rfl, tq_is _ _ _ _ rfl, Kept.refl _ _, fun _ _ _ _ _ => trivial⟩
      | 9, ho, hsk =>
        obtain rfl := Option.some.inj ho
        have e0 : a'.eval (.tmp 105) = .bool true := is_tq (hin 8 105 (by kernel_rfl) (by kernel_rfl)) rfl
        exact wp_move (.tmp 105) rfl _ e0 ⟨_, rfl, tq_is _ _ _ _ rfl, Kept.refl _ _, fun _ _ _ _ _ => trivial⟩
      | 10, ho, hsk =>
        obtain rfl := Option.some.inj ho
        exact wp_loadA row26 (.tmp 5) rfl b24 0 ((hout 5 (by kernel_rfl)).trans rfl) (vwC V) (vwC_len hV) (((unhide M).step hk2).at 2 _ rfl).range ⟨_, rfl, tq_is _ _ _ _ rfl, Kept.refl _ _, fun _ _ _ _ _ => trivial⟩
      | 11, ho, hsk =>
        obtain rfl := Option.some.inj ho
        exact wp_loadA row26 (.tmp 1) rfl b1 0 ((hout 1 (by kernel_rfl)).trans rfl) (vwC V) (vwC_len hV) (((unhide M).step hk2).at 0 _ rfl).range ⟨_, rfl, tq_is _ _ _ _ rfl, Kept.refl _ _, fun _ _ _ _ _ => trivial⟩
      | 12, ho, hsk =>
        obtain rfl := Option.some.inj ho
        have e0 : a'.eval (.tmp 107) = aggV (vwC V) := is_tq (hin 10 107 (by kernel_rfl) (by kernel_rfl)) rfl
        have e1 : a'.eval (.tmp 108) = aggV (vwC V) := is_tq (hin 11 108 (by kernel_rfl) (by kernel_rfl)) rfl
        exact o_eqlA 26 26 guard26 (.tmp 107) (.tmp 108) rfl (vwC V) (vwC V) e0 e1 true ((equal26 _ V V hV hV).trans (by simp)) ⟨_, rfl, tq_is _ _ _ _ rfl, Kept.refl _ _, fun _ _ _ _ _ => trivial⟩
      | 13, ho, hsk =>
        obtain rfl := Option.some.inj ho
        have e0 : a'.eval (.tmp 106) = .bool true := is_tq (hin 9 106 (by kernel_rfl) (by kernel_rfl)) rfl
        have e1 : a'.eval (.tmp 109) = .bool true := is_tq (hin 12 109 (by kernel_rfl) (by kernel_rfl)) rfl
        exact o_pick (.tmp 106) (.tmp 109) rfl _ e0 e1 ⟨_, rfl, tq_is _ _ _ _ rfl, Kept.refl _ _, fun _ _ _ _ _ => trivial⟩
      | 14, ho, hsk =>
        obtain rfl := Option.some.inj ho
        have e0 : a'.eval (.tmp 110) = .bool true := is_tq (hin 13 110 (by kernel_rfl) (by kernel_rfl)) rfl
        exact wp_move (.tmp 110) rfl _ e0 ⟨_, rfl, tq_is _ _ _ _ rfl, Kept.refl _ _, fun _ _ _ _ _ => trivial⟩
      | 15, ho, hsk =>
        obtain rfl := Option.some.inj ho
        exact wp_move (.tmp 8) rfl _ ((hout 8 (by kernel_rfl)).trans rfl) ⟨_, rfl, tq_is _ _ _ _ rfl, Kept.refl _ _, fun _ _ _ _ _ => trivial⟩
      | 16, ho, hsk =>
        obtain rfl := Option.some.inj ho
        have e0 : a'.eval (.tmp 112) = .int .i64 5 := is_tq (hin 15 112 (by kernel_rfl) (by kernel_rfl)) rfl
        refine wp_callF 11 _ _ rfl #[.int .i64 5] (by simp [e0]) (cg11 _ _) ((num11 _ _).mono ?_)
        rintro e w3 ⟨rfl, rfl⟩
        exact ⟨_, rfl, _, rfl, tq_is _ _ _ _ rfl, Kept.refl _ _, fun _ _ _ _ _ => trivial⟩
      | 17, ho, hsk =>
        obtain rfl := Option.some.inj ho
        have e0 : a'.eval (.tmp 113) = .int .i64 5 := is_tq (hin 16 113 (by kernel_rfl) (by kernel_rfl)) rfl
        exact o_eql3 (.tmp 113) 5 rfl _ true (by simp) e0 ⟨_, rfl, tq_is _ _ _ _ rfl, Kept.refl _ _, fun _ _ _ _ _ => trivial⟩
      | 18, ho, hsk =>
        obtain rfl := Option.some.inj ho
        have e0 : a'.eval (.tmp 111) = .bool true := is_tq (hin 14 111 (by kernel_rfl) (by kernel_rfl)) rfl
        have e1 : a'.eval (.tmp 114) = .bool true := is_tq (hin 17 114 (by kernel_rfl) (by kernel_rfl)) rfl
        exact o_pick (.tmp 111) (.tmp 114) rfl _ e0 e1 ⟨_, rfl, tq_is _ _ _ _ rfl, Kept.refl _ _, fun _ _ _ _ _ => trivial⟩
      | 19, ho, hsk =>
        obtain rfl := Option.some.inj ho
        have e0 : a'.eval (.tmp 115) = .bool true := is_tq (hin 18 115 (by kernel_rfl) (by kernel_rfl)) rfl
        exact wp_move (.tmp 115) rfl _ e0 ⟨_, rfl, tq_is _ _ _ _ rfl, Kept.refl _ _, fun _ _ _ _ _ => trivial⟩
      | 20, ho, hsk =>
        obtain rfl := Option.some.inj ho
        exact wp_move (.tmp 11) rfl _ ((hout 11 (by kernel_rfl)).trans rfl) ⟨_, rfl, tq_is _ _ _ _ rfl, Kept.refl _ _, fun _ _ _ _ _ => trivial⟩
      | 21, ho, hsk =>
        obtain rfl := Option.some.inj ho
        have e0 : a'.eval (.tmp 117) = .int .i64 5 := is_tq (hin 20 117 (by kernel_rfl) (by kernel_rfl)) rfl
        refine wp_callF 11 _ _ rfl #[.int .i64 5] (by simp [e0]) (cg11 _ _) ((num11 _ _).mono ?_)
        rintro e w3 ⟨rfl, rfl⟩
        exact ⟨_, rfl, _, rfl, tq_is _ _ _ _ rfl, Kept.refl _ _, fun _ _ _ _ _ => trivial⟩
      | 22, ho, hsk =>
        obtain rfl := Option.some.inj ho
        have e0 : a'.eval (.tmp 118) = .int .i64 5 := is_tq (hin 21 118 (by kernel_rfl) (by kernel_rfl)) rfl
        exact o_eql3 (.tmp 118) 5 rfl _ true (by simp) e0 ⟨_, rfl, tq_is _ _ _ _ rfl, Kept.refl _ _, fun _ _ _ _ _ => trivial⟩
      | 23, ho, hsk =>
        obtain rfl := Option.some.inj ho
        have e0 : a'.eval (.tmp 116) = .bool true := is_tq (hin 19 116 (by kernel_rfl) (by kernel_rfl)) rfl
        have e1 : a'.eval (.tmp 119) = .bool true := is_tq (hin 22 119 (by kernel_rfl) (by kernel_rfl)) rfl
        exact o_pick (.tmp 116) (.tmp 119) rfl _ e0 e1 ⟨_, rfl, tq_is _ _ _ _ rfl, Kept.refl _ _, fun _ _ _ _ _ => trivial⟩
      | 24, ho, hsk =>
        obtain rfl := Option.some.inj ho
        have e0 : a'.eval (.tmp 120) = .bool true := is_tq (hin 23 120 (by kernel_rfl) (by kernel_rfl)) rfl
        exact wp_move (.tmp 120) rfl _ e0 ⟨_, rfl, tq_is _ _ _ _ rfl, Kept.refl _ _, fun _ _ _ _ _ => trivial⟩
      | 25, ho, hsk =>
        obtain rfl := Option.some.inj ho
        exact wp_loadA row26 (.tmp 9) rfl b27 0 ((hout 9 (by kernel_rfl)).trans rfl) (vwC U1) (vwC_len hU1) (((unhide M).step hk2).at 4 _ rfl).range ⟨_, rfl, tq_is _ _ _ _ rfl, Kept.refl _ _, fun _ _ _ _ _ => trivial⟩
      | 26, ho, hsk =>
        obtain rfl := Option.some.inj ho
        have e0 : a'.eval (.tmp 122) = aggV (vwC U1) := is_tq (hin 25 122 (by kernel_rfl) (by kernel_rfl)) rfl
        refine wp_callF 12 _ _ rfl #[aggV (vwC U1)] (by simp [e0]) (cg12 _ _) ((unhide Hk10 _ ((unhide M).step hk2).first).mono ?_)
        rintro e w3 ⟨rfl, hk3⟩
        exact ⟨_, rfl, _, rfl, tq_is _ _ _ _ rfl, hk3, fun _ _ _ _ _ => trivial⟩
      | 27, ho, hsk =>
        obtain rfl := Option.some.inj ho
        have e0 : a'.eval (.tmp 123) = .bool false := is_tq (hin 26 123 (by kernel_rfl) (by kernel_rfl)) rfl
        exact o_not (.tmp 123) rfl false e0 ⟨_, rfl, tq_is _ _ _ _ rfl, Kept.refl _ _, fun _ _ _ _ _ => trivial⟩
      | 28, ho, hsk =>
        obtain rfl := Option.some.inj ho
        have e0 : a'.eval (.tmp 121) = .bool true := is_tq (hin 24 121 (by kernel_rfl) (by kernel_rfl)) rfl
        have e1 : a'.eval (.tmp 124) = .bool true := is_tq (hin 27 124 (by kernel_rfl) (by kernel_rfl)) rfl
        exact o_pick (.tmp 121) (.tmp 124) rfl _ e0 e1 ⟨_, rfl, tq_is _ _ _ _ rfl, Kept.refl _ _, fun _ _ _ _ _ => trivial⟩
      | 29, ho, hsk =>
        obtain rfl := Option.some.inj ho
        have e0 : a'.eval (.tmp 125) = .bool true := is_tq (hin 28 125 (by kernel_rfl) (by kernel_rfl)) rfl
        exact wp_move (.tmp 125) rfl _ e0 ⟨_, rfl, tq_is _ _ _ _ rfl, Kept.refl _ _, fun _ _ _ _ _ => trivial⟩
      | 30, ho, hsk =>
        obtain rfl := Option.some.inj ho
        exact wp_loadA row26 (.tmp 12) rfl p0 0 ((hout 12 (by kernel_rfl)).trans rfl) (vwC X) (vwC_len hX) (((unhide M).step hk2).at 6 _ rfl).range ⟨_, rfl, tq_is _ _ _ _ rfl, Kept.refl _ _, fun _ _ _ _ _ => trivial⟩
      | 31, ho, hsk =>
        obtain rfl := Option.some.inj ho
        have e0 : a'.eval (.tmp 127) = aggV (vwC X) := is_tq (hin 30 127 (by kernel_rfl) (by kernel_rfl)) rfl
        refine wp_callF 12 _ _ rfl #[aggV (vwC X)] (by simp [e0]) (cg12 _ _) ((unhide Hk11 _ ((unhide M).step hk2).first).mono ?_)
        rintro e w3 ⟨rfl, hk3⟩
        exact ⟨_, rfl, _, rfl, tq_is _ _ _ _ rfl, hk3, fun _ _ _ _ _ => trivial⟩
      | 32, ho, hsk =>
        obtain rfl := Option.some.inj ho
        have e0 : a'.eval (.tmp 128) = .bool false := is_tq (hin 31 128 (by kernel_rfl) (by kernel_rfl)) rfl
        exact o_not (.tmp 128) rfl false e0 ⟨_, rfl, tq_is _ _ _ _ rfl, Kept.refl _ _, fun _ _ _ _ _ => trivial⟩
      | 33, ho, hsk =>
        obtain rfl := Option.some.inj ho
        have e0 : a'.eval (.tmp 126) = .bool true := is_tq (hin 29 126 (by kernel_rfl) (by kernel_rfl)) rfl
        have e1 : a'.eval (.tmp 129) = .bool true := is_tq (hin 32 129 (by kernel_rfl) (by kernel_rfl)) rfl
        exact o_pick (.tmp 126) (.tmp 129) rfl _ e0 e1 ⟨_, rfl, tq_is _ _ _ _ rfl, Kept.refl _ _, fun _ _ _ _ _ => trivial⟩
      | 34, ho, hsk =>
        obtain rfl := Option.some.inj ho
        have e0 : a'.eval (.tmp 130) = .bool true := is_tq (hin 33 130 (by kernel_rfl) (by kernel_rfl)) rfl
        exact wp_move (.tmp 130) rfl _ e0 ⟨_, rfl, tq_is _ _ _ _ rfl, Kept.refl _ _, fun _ _ _ _ _ => trivial⟩
      | 35, ho, hsk =>
        obtain rfl := Option.some.inj ho
        exact wp_loadA row26 (.tmp 13) rfl p1 0 ((hout 13 (by kernel_rfl)).trans rfl) (vwC Y) (vwC_len hY) (((unhide M).step hk2).at 7 _ rfl).range ⟨_, rfl, tq_is _ _ _ _ rfl, Kept.refl _ _, fun _ _ _ _ _ => trivial⟩
      | 36, ho, hsk =>
        obtain rfl := Option.some.inj ho
        have e0 : a'.eval (.tmp 132) = aggV (vwC Y) := is_tq (hin 35 132 (by kernel_rfl) (by kernel_rfl)) rfl
        refine wp_callF 12 _ _ rfl #[aggV (vwC Y)] (by simp [e0]) (cg12 _ _) ((unhide Hk12 _ ((unhide M).step hk2).first).mono ?_)
        rintro e w3 ⟨rfl, hk3⟩
        exact ⟨_, rfl, _, rfl, tq_is _ _ _ _ rfl, hk3, fun _ _ _ _ _ => trivial⟩
      | 37, ho, hsk =>
        obtain rfl := Option.some.inj ho
        have e0 : a'.eval (.tmp 133) = .bool false := is_tq (hin 36 133 (by kernel_rfl) (by kernel_rfl)) rfl
        exact o_not (.tmp 133) rfl false e0 ⟨_, rfl, tq_is _ _ _ _ rfl, Kept.refl _ _, fun _ _ _ _ _ => trivial⟩
      | 38, ho, hsk =>
        obtain rfl := Option.some.inj ho
        have e0 : a'.eval (.tmp 131) = .bool true := is_tq (hin 34 131 (by kernel_rfl) (by kernel_rfl)) rfl
        have e1 : a'.eval (.tmp 134) = .bool true := is_tq (hin 37 134 (by kernel_rfl) (by kernel_rfl)) rfl
        exact o_pick (.tmp 131) (.tmp 134) rfl _ e0 e1 ⟨_, rfl, tq_is _ _ _ _ rfl, Kept.refl _ _, fun _ _ _ _ _ => trivial⟩
      | 39, ho, hsk =>
        obtain rfl := Option.some.inj ho
        have e0 : a'.eval (.tmp 135) = .bool true := is_tq (hin 38 135 (by kernel_rfl) (by kernel_rfl)) rfl
        exact wp_move (.tmp 135) rfl _ e0 ⟨_, rfl, tq_is _ _ _ _ rfl, Kept.refl _ _, fun _ _ _ _ _ => trivial⟩
      | 40, ho, hsk =>
        obtain rfl := Option.some.inj ho
        exact wp_loadA row26 (.tmp 14) rfl p2 0 ((hout 14 (by kernel_rfl)).trans rfl) (vwC Z) (vwC_len hZ) (((unhide M).step hk2).at 8 _ rfl).range ⟨_, rfl, tq_is _ _ _ _ rfl, Kept.refl _ _, fun _ _ _ _ _ => trivial⟩
      | 41, ho, hsk =>
        obtain rfl := Option.some.inj ho
        have e0 : a'.eval (.tmp 137) = aggV (vwC Z) := is_tq (hin 40 137 (by kernel_rfl) (by kernel_rfl)) rfl
        refine wp_callF 12 _ _ rfl #[aggV (vwC Z)] (by simp [e0]) (cg12 _ _) ((unhide Hk13 _ ((unhide M).step hk2).first).mono ?_)
        rintro e w3 ⟨rfl, hk3⟩
        exact ⟨_, rfl, _, rfl, tq_is _ _ _ _ rfl, hk3, fun _ _ _ _ _ => trivial⟩
      | 42, ho, hsk =>
        obtain rfl := Option.some.inj ho
        have e0 : a'.eval (.tmp 138) = .bool false := is_tq (hin 41 138 (by kernel_rfl) (by kernel_rfl)) rfl
        exact o_not (.tmp 138) rfl false e0 ⟨_, rfl, tq_is _ _ _ _ rfl, Kept.refl _ _, fun _ _ _ _ _ => trivial⟩
      | 43, ho, hsk =>
        obtain rfl := Option.some.inj ho
        have e0 : a'.eval (.tmp 136) = .bool true := is_tq (hin 39 136 (by kernel_rfl) (by kernel_rfl)) rfl
        have e1 : a'.eval (.tmp 139) = .bool true := is_tq (hin 42 139 (by kernel_rfl) (by kernel_rfl)) rfl
        exact o_pick (.tmp 136) (.tmp 139) rfl _ e0 e1 ⟨_, rfl, tq_is _ _ _ _ rfl, Kept.refl _ _, fun _ _ _ _ _ => trivial⟩
      | 44, ho, hsk =>
        obtain rfl := Option.some.inj ho
        have e0 : a'.eval (.tmp 140) = .bool true := is_tq (hin 43 140 (by kernel_rfl) (by kernel_rfl)) rfl
        exact wp_move (.tmp 140) rfl _ e0 ⟨_, rfl, tq_is _ _ _ _ rfl, Kept.refl _ _, fun _ _ _ _ _ => trivial⟩
      | 45, ho, hsk =>
        obtain rfl := Option.some.inj ho
        exact wp_move (.tmp 18) rfl _ ((hout 18 (by kernel_rfl)).trans rfl) ⟨_, rfl, tq_is _ _ _ _ rfl, Kept.refl _ _, fun _ _ _ _ _ => trivial⟩
      | 46, ho, hsk =>
        obtain rfl := Option.some.inj ho
        have e0 : a'.eval (.tmp 142) = .int .i64 7 := is_tq (hin 45 142 (by kernel_rfl) (by kernel_rfl)) rfl
        refine wp_callF 11 _ _ rfl #[.int .i64 7] (by simp [e0]) (cg11 _ _) ((num11 _ _).mono ?_)
        rintro e w3 ⟨rfl, rfl⟩
        exact ⟨_, rfl, _, rfl, tq_is _ _ _ _ rfl, Kept.refl _ _, fun _ _ _ _ _ => trivial⟩
      | 47, ho, hsk =>
        obtain rfl := Option.some.inj ho
        have e0 : a'.eval (.tmp 143) = .int .i64 7 := is_tq (hin 46 143 (by kernel_rfl) (by kernel_rfl)) rfl
        exact o_eql3 (.tmp 143) 7 rfl _ true (by simp) e0 ⟨_, rfl, tq_is _ _ _ _ rfl, Kept.refl _ _, fun _ _ _ _ _ => trivial⟩
      | 48, ho, hsk =>
        obtain rfl := Option.some.inj ho
        have e0 : a'.eval (.tmp 141) = .bool true := is_tq (hin 44 141 (by kernel_rfl) (by kernel_rfl)) rfl
        have e1 : a'.eval (.tmp 144) = .bool true := is_tq (hin 47 144 (by kernel_rfl) (by kernel_rfl)) rfl
        exact o_pick (.tmp 141) (.tmp 144) rfl _ e0 e1 ⟨_, rfl, tq_is _ _ _ _ rfl, Kept.refl _ _, fun _ _ _ _ _ => trivial⟩
      | 49, ho, hsk =>
        obtain rfl := Option.some.inj ho
        have e0 : a'.eval (.tmp 145) = .bool true := is_tq (hin 48 145 (by kernel_rfl) (by kernel_rfl)) rfl
        exact wp_move (.tmp 145) rfl _ e0 ⟨_, rfl, tq_is _ _ _ _ rfl, Kept.refl _ _, fun _ _ _ _ _ => trivial⟩
      | 50, ho, hsk =>
        obtain rfl := Option.some.inj ho
        exact wp_move (.tmp 20) rfl _ ((hout 20 (by kernel_rfl)).trans rfl) ⟨_, rfl, tq_is _ _ _ _ rfl, Kept.refl _ _, fun _ _ _ _ _ => trivial⟩
      | 51, ho, hsk =>
        obtain rfl := Option.some.inj ho
        have e0 : a'.eval (.tmp 147) = .int .i64 2 := is_tq (hin 50 147 (by kernel_rfl) (by kernel_rfl)) rfl
        refine wp_callF 11 _ _ rfl #[.int .i64 2] (by simp [e0]) (cg11 _ _) ((num11 _ _).mono ?_)
        rintro e w3 ⟨rfl, rfl⟩
        exact ⟨_, rfl, _, rfl, tq_is _ _ _ _ rfl, Kept.refl _ _, fun _ _ _ _ _ => trivial⟩
      | 52, ho, hsk =>
        obtain rfl := Option.some.inj ho
        have e0 : a'.eval (.tmp 148) = .int .i64 2 := is_tq (hin 51 148 (by kernel_rfl) (by kernel_rfl)) rfl
        exact o_eql3 (.tmp 148) 2 rfl _ true (by simp) e0 ⟨_, rfl, tq_is _ _ _ _ rfl, Kept.refl _ _, fun _ _ _ _ _ => trivial⟩
      | 53, ho, hsk =>
        obtain rfl := Option.some.inj ho
        have e0 : a'.eval (.tmp 146) = .bool true := is_tq (hin 49 146 (by kernel_rfl) (by kernel_rfl)) rfl
        have e1 : a'.eval (.tmp 149) = .bool true := is_tq (hin 52 149 (by kernel_rfl) (by kernel_rfl)) rfl
        exact o_pick (.tmp 146) (.tmp 149) rfl _ e0 e1 ⟨_, rfl, tq_is _ _ _ _ rfl, Kept.refl _ _, fun _ _ _ _ _ => trivial⟩
      | 54, ho, hsk =>
        obtain rfl := Option.some.inj ho
        have e0 : a'.eval (.tmp 150) = .bool true := is_tq (hin 53 150 (by kernel_rfl) (by kernel_rfl)) rfl
        exact wp_move (.tmp 150) rfl _ e0 ⟨_, rfl, tq_is _ _ _ _ rfl, Kept.refl _ _, fun _ _ _ _ _ => trivial⟩
      | 55, ho, hsk =>
        obtain rfl := Option.some.inj ho
        exact wp_move (.tmp 22) rfl _ ((hout 22 (by kernel_rfl)).trans rfl) ⟨_, rfl, tq_is _ _ _ _ rfl, Kept.refl _ _, fun _ _ _ _ _ => trivial⟩
      | 56, ho, hsk =>
        obtain rfl := Option.some.inj ho
        have e0 : a'.eval (.tmp 152) = .int .i64 2 := is_tq (hin 55 152 (by kernel_rfl) (by kernel_rfl)) rfl
        refine wp_callF 11 _ _ rfl #[.int .i64 2] (by simp [e0]) (cg11 _ _) ((num11 _ _).mono ?_)
        rintro e w3 ⟨rfl, rfl⟩
        exact ⟨_, rfl, _, rfl, tq_is _ _ _ _ rfl, Kept.refl _ _, fun _ _ _ _ _ => trivial⟩
      | 57, ho, hsk =>
        obtain rfl := Option.some.inj ho
        have e0 : a'.eval (.tmp 153) = .int .i64 2 := is_tq (hin 56 153 (by kernel_rfl) (by kernel_rfl)) rfl
        exact o_eql3 (.tmp 153) 2 rfl _ true (by simp) e0 ⟨_, rfl, tq_is _ _ _ _ rfl, Kept.refl _ _, fun _ _ _ _ _ => trivial⟩
      | 58, ho, hsk =>
        obtain rfl := Option.some.inj ho
        have e0 : a'.eval (.tmp 151) = .bool true := is_tq (hin 54 151 (by kernel_rfl) (by kernel_rfl)) rfl
        have e1 : a'.eval (.tmp 154) = .bool true := is_tq (hin 57 154 (by kernel_rfl) (by kernel_rfl)) rfl
        exact o_pick (.tmp 151) (.tmp 154) rfl _ e0 e1 ⟨_, rfl, tq_is _ _ _ _ rfl, Kept.refl _ _, fun _ _ _ _ _ => trivial⟩
      | 59, ho, hsk =>
        obtain rfl := Option.some.inj ho
        have e0 : a'.eval (.tmp 155) = .bool true := is_tq (hin 58 155 (by kernel_rfl) (by kernel_rfl)) rfl
        exact wp_move (.tmp 155) rfl _ e0 ⟨_, rfl, tq_is _ _ _ _ rfl, Kept.refl _ _, fun _ _ _ _ _ => trivial⟩
      | 60, ho, hsk =>
        obtain rfl := Option.some.inj ho
        exact wp_move (.tmp 24) rfl _ ((hout 24 (by kernel_rfl)).trans rfl) ⟨_, rfl, tq_is _ _ _ _ rfl, Kept.refl _ _, fun _ _ _ _ _ => trivial⟩
      | 61, ho, hsk =>
        obtain rfl := Option.some.inj ho
        have e0 : a'.eval (.tmp 157) = .int .i64 2 := is_tq (hin 60 157 (by kernel_rfl) (by kernel_rfl)) rfl
        refine wp_callF 11 _ _ rfl #[.int .i64 2] (by simp [e0]) (cg11 _ _) ((num11 _ _).mono ?_)
        rintro e w3 ⟨rfl, rfl⟩
        exact ⟨_, rfl, _, rfl, tq_is _ _ _ _ rfl, Kept.refl _ _, fun _ _ _ _ _ => trivial⟩
      | 62, ho, hsk =>
        obtain rfl := Option.some.inj ho
        have e0 : a'.eval (.tmp 158) = .int .i64 2 := is_tq (hin 61 158 (by kernel_rfl) (by kernel_rfl)) rfl
        exact o_eql3 (.tmp 158) 2 rfl _ true (by simp) e0 ⟨_, rfl, tq_is _ _ _ _ rfl, Kept.refl _ _, fun _ _ _ _ _ => trivial⟩
      | 63, ho, hsk =>
        obtain rfl := Option.some.inj ho
        have e0 : a'.eval (.tmp 156) = .bool true := is_tq (hin 59 156 (by kernel_rfl) (by kernel_rfl)) rfl
        have e1 : a'.eval (.tmp 159) = .bool true := is_tq (hin 62 159 (by kernel_rfl) (by kernel_rfl)) rfl
        exact o_pick (.tmp 156) (.tmp 159) rfl _ e0 e1 ⟨_, rfl, tq_is _ _ _ _ rfl, Kept.refl _ _, fun _ _ _ _ _ => trivial⟩
      | 64, ho, hsk =>
        obtain rfl := Option.some.inj ho
        have e0 : a'.eval (.tmp 160) = .bool true := is_tq (hin 63 160 (by kernel_rfl) (by kernel_rfl)) rfl
        exact wp_move (.tmp 160) rfl _ e0 ⟨_, rfl, tq_is _ _ _ _ rfl, Kept.refl _ _, fun _ _ _ _ _ => trivial⟩
      | 65, ho, hsk =>
        obtain rfl := Option.some.inj ho
        exact wp_loadA row26 (.tmp 1) rfl b1 0 ((hout 1 (by kernel_rfl)).trans rfl) (vwC V) (vwC_len hV) (((unhide M).step hk2).at 0 _ rfl).range ⟨_, rfl, tq_is _ _ _ _ rfl, Kept.refl _ _, fun _ _ _ _ _ => trivial⟩
      | 66, ho, hsk =>
        obtain rfl := Option.some.inj ho
        have e0 : a'.eval (.tmp 162) = aggV (vwC V) := is_tq (hin 65 162 (by kernel_rfl) (by kernel_rfl)) rfl
        refine wp_callF 28 _ _ rfl #[aggV (vwC V), .int .i64 0, .int .i64 17] (by simp [e0]; exact ⟨rfl, rfl⟩) (cg28 _ _) ((unhide Hk14 _ ((unhide M).step hk2).first).mono ?_)
        rintro e w3 ⟨rfl, hk3⟩
        exact ⟨_, rfl, _, rfl, tq_is _ _ _ _ rfl, hk3, fun _ _ _ _ _ => trivial⟩
      | 67, ho, hsk =>
        obtain rfl := Option.some.inj ho
        have e0 : a'.eval (.tmp 163) = .slice none 0 0 := is_tq (hin 66 163 (by kernel_rfl) (by kernel_rfl)) rfl
        exact o_len50 163 rfl none 0 0 e0 ⟨_, rfl, tq_is _ _ _ _ rfl, Kept.refl _ _, fun _ _ _ _ _ => trivial⟩
      | 68, ho, hsk =>
        obtain rfl := Option.some.inj ho
        have e0 : a'.eval (.tmp 164) = .int .i64 ((0 : Nat) : Int) := is_tq (hin 67 164 (by kernel_rfl) (by kernel_rfl)) rfl
        exact o_eql3 (.tmp 164) 0 rfl _ true (by simp) e0 ⟨_, rfl, tq_is _ _ _ _ rfl, Kept.refl _ _, fun _ _ _ _ _ => trivial⟩
      | 69, ho, hsk =>
        obtain rfl := Option.some.inj ho
        have e0 : a'.eval (.tmp 161) = .bool true := is_tq (hin 64 161 (by kernel_rfl) (by kernel_rfl)) rfl
        have e1 : a'.eval (.tmp 165) = .bool true := is_tq (hin 68 165 (by kernel_rfl) (by kernel_rfl)) rfl
        exact o_pick (.tmp 161) (.tmp 165) rfl _ e0 e1 ⟨_, rfl, tq_is _ _ _ _ rfl, Kept.refl _ _, fun _ _ _ _ _ => trivial⟩
      | 70, ho, hsk =>
        obtain rfl := Option.some.inj ho
        have e0 : a'.eval (.tmp 166) = .bool true := is_tq (hin 69 166 (by kernel_rfl) (by kernel_rfl)) rfl
        exact wp_move (.tmp 166) rfl _ e0 ⟨_, rfl, tq_is _ _ _ _ rfl, Kept.refl _ _, fun _ _ _ _ _ => trivial⟩
      | 71, ho, hsk =>
        obtain rfl := Option.some.inj ho
        refine wp_callF 14 _ _ rfl #[] (by simp) (cg14 _ _) ((known14 _ ((unhide M).step hk2).first).mono ?_)
        rintro e w3 ⟨rfl, hk3⟩
        exact ⟨_, rfl, _, rfl, tq_is _ _ _ _ rfl, hk3, fun _ _ _ _ _ => trivial⟩
      | 72, ho, hsk =>
        obtain rfl := Option.some.inj ho
        have e0 : a'.eval (.tmp 167) = .bool true := is_tq (hin 70 167 (by kernel_rfl) (by kernel_rfl)) rfl
        have e1 : a'.eval (.tmp 168) = .bool true := is_tq (hin 71 168 (by kernel_rfl) (by kernel_rfl)) rfl
        exact o_pick (.tmp 167) (.tmp 168) rfl _ e0 e1 ⟨_, rfl, tq_is _ _ _ _ rfl, Kept.refl _ _, fun _ _ _ _ _ => trivial⟩
      | 73, ho, hsk =>
        obtain rfl := Option.some.inj ho
        have e0 : a'.eval (.tmp 169) = .bool true := is_tq (hin 72 169 (by kernel_rfl) (by kernel_rfl)) rfl
        exact wp_assignV (.tmp 169) rfl _ e0 ⟨_, rfl, tq_is _ _ _ _ rfl, Kept.refl _ _, fun _ _ _ _ _ => trivial⟩
    intro w9 hk9
    replace hk9 : Kept [] W45 w9 := ⟨hk9.os, hk9.tape, hk9.output, hk9.size, hk9.block⟩
    simp only [valsQ, List.map_cons, List.map_nil, Option.getD_some, List.take_succ_cons, List.take_zero, putAll, Act.put, List.setIfInBounds_toArray, List.set_cons_succ, List.set_cons_zero]
    go_wp2_with fail
    go_ret
    exact ⟨rfl, (unhide M).kept.trans hk9⟩

def bV : Vw := ⟨4611686018427387904, false, 7, fullJ 8⟩
def bU : Vw := ⟨4611686018427387904, false, 7, (fullJ 8).set 0 (true, 5)⟩
def bU1 : Vw := ⟨4611686018427387905, false, 7, (fullJ 8).set 0 (true, 5)⟩
def bX : Vw := ⟨4611686018427387904, false, 8, fullJ 8⟩
def bY : Vw := ⟨4611686018427387904, false, 7, (fullJ 8).set 3 (true, 2147483648)⟩
def bZ : Vw := ⟨4611686018427387904, false, 7, (fullJ 8).set 3 (false, 2147483647)⟩
def bO : Vw := ⟨4611686018427387904, true, 7, fullJ 8⟩
theorem bounds7 (w : World) (hF : First w) : Calls Tryd.prog 7 #[] w fun e w' => e = .returned (.bool true) ∧ Kept [] w w' := by
  have hok : bV.Ok := okB_ok (by decide)
  have hput : putV bV = (secV bV, 0) := by decide
  have hb : Byts 64 (secV bV) := ⟨by decide, by decide⟩
  refine bounds_gen bV bU bU1 bX bY bZ bO (secV bV) w hF rfl rfl rfl rfl rfl rfl rfl rfl hb.len rfl rfl rfl rfl rfl rfl ?_ ?_ ?_ ?_ ?_ ?_ ?_ ?_ ?_ ?_ ?_ ?_ ?_ ?_
  · exact fun W hW => by have := put8 bV W hW hok; rw [hput] at this; exact this
  · exact fun W hW => by have := get9 (secV bV) W hW hb; rw [show getV (secV bV) = (bV, 0) by have h9 := get_put (v := bV) (by decide) hok; rw [hput] at h9; exact h9] at this; exact this
  · exact fun W hW => by have := out18 bV 1 0 W hW hok; rw [show outV bV 1 0 = (zv, 5) by decide] at this; exact this
  · exact fun W hW => by have := join16 bU 0 6 W hW (okB_ok (by decide)); rw [show joinV bU 0 6 = (zv, 5) by decide] at this; exact this
  · exact fun W hW => by have := opened20 bV W hW hok; rw [show openV bV = (bO, 0) by decide] at this; exact this
  · exact fun W hW => by have := opened20 bO W hW (okB_ok (by decide)); rw [show openV bO = (zv, 7) by decide] at this; exact this
  · exact fun W hW => by have := opened20 fv W hW fv_ok; rw [show openV fv = (zv, 2) by decide] at this; exact this
  · exact fun W hW => by have := join16 bV 0 2147483648 W hW hok; rw [show joinV bV 0 2147483648 = (zv, 2) by decide] at this; exact this
  · exact fun W hW => by have := join16 bV 8 1 W hW hok; rw [show joinV bV 8 1 = (zv, 2) by decide] at this; exact this
  · exact fun W hW => by have := may12 bU1 W hW rfl; rw [show bU1.may = false by decide] at this; exact this
  · exact fun W hW => by have := may12 bX W hW rfl; rw [show bX.may = false by decide] at this; exact this
  · exact fun W hW => by have := may12 bY W hW rfl; rw [show bY.may = false by decide] at this; exact this
  · exact fun W hW => by have := may12 bZ W hW rfl; rw [show bZ.may = false by decide] at this; exact this
  · exact fun W hW => pages_17 bV 0 17 W hW (by decide)

end Go.Proofs.YtbpnnbbinhdoiaaDoor
