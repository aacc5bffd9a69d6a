/-
  ViewMasters.
-/
import Derived.Test.YtbpnnbbinhdoiaaDoorVw
import Derived.Deep.CutBlock
namespace Go.Proofs.YtbpnnbbinhdoiaaDoor
set_option maxRecDepth 100000
open Go.RowKit

theorem and_one2 (n : Int) : ∃ i : Nat, i < 2 ∧ bits BinOp.and IntKind.i64 n 1 = (i : Int) := by
  refine ⟨(BitVec.ofInt 64 n &&& 1#64).toNat, ?_, ?_⟩
  · rw [BitVec.toNat_and]
    have := @Nat.and_le_right (BitVec.ofInt 64 n).toNat (1#64).toNat
    have h1 : (1#64).toNat = 1 := by decide
    omega
  · have h0 : (BitVec.ofInt 64 n &&& 1#64).toNat < 2 := by
      rw [BitVec.toNat_and]
      have := @Nat.and_le_right (BitVec.ofInt 64 n).toNat (1#64).toNat
      have h1 : (1#64).toNat = 1 := by decide
      omega
    show IntKind.i64.wrap ((BitVec.ofInt 64 n &&& BitVec.ofInt 64 1).toNat : Int) = _
    rw [show BitVec.ofInt 64 1 = 1#64 from by decide, IntKind.wrap_i64]
    omega

/-- Asks that came in. -/
def AskS (W : World) (ao : Option Addr) (l : List Ask) : Prop := ∀ i x, l[i]? = some x → ∃ g off, ao = some ⟨g, off, none⟩ ∧ W.rangeAt g (off + i * 5) x.C
theorem AskS.kept {W W' : World} {ao : Option Addr} {l : List Ask} (h : AskS W ao l) (hk : Kept [] W W') : AskS W' ao l := fun i x hx => by
  obtain ⟨g, off, e, hr⟩ := h i x hx
  exact ⟨g, off, e, fun j v hj => hk.cell (hr j v hj) (by simp)⟩
section
variable {ops : Array Oper} {rest : List Oper} {op : Oper} {a : Act} {w : World} {Q : Exit → Act → World → Prop}
theorem wpAnd1 (hgd : op.guard = none) (x : Operand) (ho : op.op = .binOp .and 3 x (.const (.int .i64 1)) 3) (n : Int) (i : Int) (hi : bits BinOp.and IntKind.i64 n 1 = i) (hx : a.eval x = .int .i64 n)
    (h : wpList Tryd.prog ops Q rest (a.put op.dst (.int .i64 i)) w) : wpList Tryd.prog ops Q (op :: rest) a w :=
  wpList_plain hgd fun K hK => by
    subst hi
    unfold Oper.wp execOp
    simp only [ho, hx]
    simp [go_sem, Act.eval]
    exact hK _ _ h
theorem wpNeq2G (hw : Region.wanted op (yielded ops a.tmps) = true) (x y : Operand) (ho : op.op = .binOp .neq 2 x y 2) (n : Int) (hx : a.eval x = .int .i64 n) (hy : a.eval y = .int .i64 n)
    (h : wpList Tryd.prog ops Q rest (a.put op.dst (.bool false)) w) : wpList Tryd.prog ops Q (op :: rest) a w :=
  BigFrame.wpList_want hw fun K hK => by
    unfold Oper.wp execOp
    simp only [ho, hx, hy]
    simp [go_sem]
    exact hK _ _ h
theorem wpMin3 (hgd : op.guard = none) (x y : Operand) (ho : op.op = .call { callee := .builtin .min, args := #[x, y], argTypes := #[3, 3] }) (m n M : Int) (hM : M = min m n) (hx : a.eval x = .int .i64 m) (hy : a.eval y = .int .i64 n)
    (h : wpList Tryd.prog ops Q rest (a.put op.dst (.int .i64 M)) w) : wpList Tryd.prog ops Q (op :: rest) a w :=
  wpList_plain hgd fun K hK => by
    have hr : (execOp a.eval op).run Tryd.prog w = .ok (.value (.int .i64 M)) w := by
      unfold execOp
      simp only [ho, resolve, invoke, builtin, Sem.run_bind, Sem.run_pure, Result.andThen_ok, List.map_toArray, List.map_cons, List.map_nil, hx, hy]
      by_cases hlt : m ≤ n
      · rw [hM, Int.min_eq_left hlt]
        simp [go_sem]
        omega
      · rw [hM, Int.min_eq_right (by omega)]
        simp [go_sem]
        omega
    unfold Oper.wp
    rw [hr]
    exact hK _ _ h
theorem wpMax3 (hgd : op.guard = none) (x y : Operand) (ho : op.op = .call { callee := .builtin .max, args := #[x, y], argTypes := #[3, 3] }) (m n M : Int) (hM : M = max m n) (hx : a.eval x = .int .i64 m) (hy : a.eval y = .int .i64 n)
    (h : wpList Tryd.prog ops Q rest (a.put op.dst (.int .i64 M)) w) : wpList Tryd.prog ops Q (op :: rest) a w :=
  wpList_plain hgd fun K hK => by
    have hr : (execOp a.eval op).run Tryd.prog w = .ok (.value (.int .i64 M)) w := by
      unfold execOp
      simp only [ho, resolve, invoke, builtin, Sem.run_bind, Sem.run_pure, Result.andThen_ok, List.map_toArray, List.map_cons, List.map_nil, hx, hy]
      by_cases hlt : m ≤ n
      · rw [hM, Int.max_eq_right hlt]
        simp [go_sem]
        omega
      · rw [hM, Int.max_eq_left (by omega)]
        simp [go_sem]
        omega
    unfold Oper.wp
    rw [hr]
    exact hK _ _ h
end
set_option maxHeartbeats 2000000 in
theorem masters_no (v : Vw) (ao : Option Addr) (c : Nat) (l : List Ask) (w : World) (hF : First w) (hok : v.Ok) (hm : v.may = false) : Calls Tryd.prog 6 #[aggV (vwC v), .slice ao l.length c] w fun e w' => e = .returned (.bool true) ∧ Kept [] w w' := by
  have P12 : ∀ W, First W → Hid (Calls Tryd.prog 12 #[aggV (vwC v)] W fun e w' => e = .returned (.bool false) ∧ Kept [] W w') := fun W hW => hide (by have := may12 v W hW hok.len; rw [hm] at this; exact this)
  go_enter Tryd.func6, Tryd.ntmps6
  have M : Hid (Mm w w []) := hide (Mm.init hF)
  go_wp2_with (
    first
    | (refine wpBoxV rfl (.tmp 0) rfl (vwC v) rfl ?_
       intro W1 b1 e1 B1 K1
       replace M : Hid (Mm w W1 [(b1, 26, vwC v)]) := hide ((unhide M).new e1 B1 K1)
       clear e1 B1 K1
       refine Stp.go ?_))
  constructor
  go_wp2_with (
    first
    | (go_at_call 14
       refine (known14 _ (unhide M).first).mono ?_
       rintro e W2 ⟨rfl, K2⟩
       replace M : Hid (Mm w W2 [(b1, 26, vwC v)]) := hide ((unhide M).step K2)
       clear K2
       refine Stp.go ?_))
  constructor
  go_wp2_with (
    first
    | (refine wpLoadA row26 rfl (.tmp 2) rfl b1 0 rfl (vwC v) (vwC_len hok.len) ((unhide M).at 0 _ rfl).range ?_
       refine Stp.go ?_))
  constructor
  go_wp2_with (
    first
    | (go_at_call 12
       refine (unhide (P12 _ (unhide M).first)).mono ?_
       rintro e W3 ⟨rfl, K3⟩
       replace M : Hid (Mm w W3 [(b1, 26, vwC v)]) := hide ((unhide M).step K3)
       clear K3
       refine Stp.go ?_))
  constructor
  go_wp2_with fail
  go_ret
  exact ⟨rfl, (unhide M).kept⟩
set_option maxHeartbeats 16000000 in
theorem masters_yes (v : Vw) (ao : Option Addr) (c : Nat) (l : List Ask) (w : World) (hF : First w) (hok : v.Ok) (hL : AskS w ao l) (hm : v.may = true) : Calls Tryd.prog 6 #[aggV (vwC v), .slice ao l.length c] w fun e w' => e = .returned (.bool true) ∧ Kept [] w w' := by
  have P12 : ∀ W, First W → Hid (Calls Tryd.prog 12 #[aggV (vwC v)] W fun e w' => e = .returned (.bool true) ∧ Kept [] W w') := fun W hW => hide (by have := may12 v W hW hok.len; rw [hm] at this; exact this)
  obtain ⟨n, hn⟩ : ∃ n, n = l.length := ⟨_, rfl⟩
  have HN := hide hn
  have HL := hide hL
  have HM0 := hide hm
  have HO0 := hide hok
  rw [← hn]
  clear hn hL hm
  go_enter Tryd.func6, Tryd.ntmps6
  have M : Hid (Mm w w []) := hide (Mm.init hF)
  go_wp2_with (
    first
    | (refine wpBoxV rfl (.tmp 0) rfl (vwC v) rfl ?_
       intro W1 b1 e1 B1 K1
       replace M : Hid (Mm w W1 [(b1, 26, vwC v)]) := hide ((unhide M).new e1 B1 K1)
       clear e1 B1 K1
       refine Stp.go ?_))
  constructor
  go_wp2_with (
    first
    | (go_at_call 14
       refine (known14 _ (unhide M).first).mono ?_
       rintro e W2 ⟨rfl, K2⟩
       replace M : Hid (Mm w W2 [(b1, 26, vwC v)]) := hide ((unhide M).step K2)
       clear K2
       refine Stp.go ?_))
  constructor
  go_wp2_with (
    first
    | (refine wpLoadA row26 rfl (.tmp 2) rfl b1 0 rfl (vwC v) (vwC_len hok.len) ((unhide M).at 0 _ rfl).range ?_
       refine Stp.go ?_))
  constructor
  go_wp2_with (
    first
    | (go_at_call 12
       refine (unhide (P12 _ (unhide M).first)).mono ?_
       rintro e W3 ⟨rfl, K3⟩
       replace M : Hid (Mm w W3 [(b1, 26, vwC v)]) := hide ((unhide M).step K3)
       clear K3
       refine Stp.go ?_))
  constructor
  go_wp2_with fail
  clear P12
  go_loopw [5] (fun i wr => ∃ (j : Nat) (V : Vw), j ≤ n ∧ j ≤ 40 ∧ i = .int .i64 j ∧ Hid (V.may = true) ∧ Hid V.Ok ∧ Hid (Mm w wr [(b1, 26, vwC V)])) (fun i _ => 40 - (intOf i).toNat)
  case atStart => exact ⟨0, v, by omega, by omega, rfl, HM0, HO0, M⟩
  case round =>
    clear M HM0 HO0
    obtain ⟨j, V, hjn, hj40, rfl, HM, HO, M⟩ := hrel
    by_cases hlt : j < n
    rotate_left
    · have hd : decide ((j : Int) < (n : Int)) = false := by simp; omega
      go_wp2_with fail
      go_ret
      exact ⟨rfl, (unhide M).kept⟩
    by_cases h40 : j < 40
    rotate_left
    · have hd : decide ((j : Int) < (n : Int)) = true := by simp; omega
      have hd2 : decide ((j : Int) < 40) = false := by simp; omega
      have h40I : ¬ (j : Int) < 40 := by omega
      have hltI : (j : Int) < (n : Int) := by omega
      go_wp2_with fail
      go_ret
      exact ⟨rfl, (unhide M).kept⟩
    have hd : decide ((j : Int) < (n : Int)) = true := by simp; omega
    have hd2 : decide ((j : Int) < 40) = true := by simp; omega
    have hjL : j < l.length := by have := unhide HN; omega
    obtain ⟨x, hx⟩ : ∃ x, l[j]? = some x := ⟨_, List.getElem?_eq_getElem hjL⟩
    obtain ⟨gb, off, rfl, hr⟩ := ((unhide HL).kept (unhide M).kept) j x hx
    have HR := hide hr
    obtain ⟨bi, hbi2, hbi⟩ := and_one2 x.q
    have HBI := hide hbi
    have hltI : (j : Int) < (n : Int) := by omega
    clear hx hr hbi hjL
    go_wp2_with (
      first
      | (refine wpLoadA row42 rfl (.tmp 31) rfl gb (off + j * 5) rfl x.C rfl (unhide HR) ?_
         refine Stp.go ?_))
    constructor
    go_wp2_with (
      first
      | (refine wpNew row42 ([.int .i64 0, .int .i64 0, .int .i64 0, .int .i64 0, .int .i64 0]) rfl zero42 6 rfl rfl rfl (.tmp 32) rfl rfl rfl (x.C) rfl (fun u hu => by simp [Ask.C] at hu; rcases hu with rfl | rfl | rfl | rfl | rfl <;> rfl) (by kernel_rfl) (by kernel_rfl) ?_
         intro W21 b21 e21 B21 K21
         replace M : Hid (Mm w W21 [(b1, 26, vwC V), (b21, 42, x.C)]) := hide ((unhide M).new e21 B21 K21)
         clear e21 B21 K21
         refine Stp.go ?_))
    constructor
    go_wp2_with (
      first
      | (refine wpLoadA row26 rfl (.tmp 2) rfl b1 0 rfl (vwC V) (vwC_len (unhide HO).len) ((unhide M).at 0 _ rfl).range ?_
         have c0 := fits_cell ((unhide M).at 1 _ rfl) 0 _ rfl
         have c4 := fits_cell ((unhide M).at 1 _ rfl) 4 _ rfl
         refine Stp.go ?_))
    constructor
    go_wp2_with (
      first
      | (go_at_call 16
         refine (join16 V x.a x.e _ (unhide M).first (unhide HO)).mono ?_
         rintro e W22 ⟨rfl, K22⟩
         replace M : Hid (Mm w W22 [(b1, 26, vwC V), (b21, 42, x.C)]) := hide ((unhide M).step K22)
         clear K22
         clear c0 c4
         refine Stp.go ?_))
    constructor
    go_wp2_with (
      first
      | (refine wpNew row26 (vwC zv) rfl zero26 7 rfl rfl rfl (.tmp 40) rfl rfl rfl (vwC (joinV V x.a x.e).1) (vwC_len (join_len (unhide HO).len)) (vwC_one _) (by kernel_rfl) (by kernel_rfl) ?_
         intro W23 b23 e23 B23 K23
         replace M : Hid (Mm w W23 [(b1, 26, vwC V), (b21, 42, x.C), (b23, 26, vwC (joinV V x.a x.e).1)]) := hide ((unhide M).new e23 B23 K23)
         clear e23 B23 K23
         have c3 := fits_cell ((unhide M).at 1 _ rfl) 3 _ rfl
         refine Stp.go ?_))
    constructor
    go_wp2_with (
      first
      | (refine wpAnd1 rfl (.tmp 43) rfl x.q (bi : Int) (unhide HBI) rfl ?_
         refine Stp.go ?_))
    constructor
    go_upto_if 45 with fail
    clear HR HBI c3
    go_cut [8] from 19 to 118 (fun xe wc => ∃ (U : Vw) (ue : Int), xe = .int .i64 ue ∧ Hid (ue = 0 → U.may = true ∧ U.nu = V.nu + 1 ∧ U.op = false ∧ U.isIn U.fd = true ∧ U.Ok) ∧ Hid (U.ms.length = 8) ∧ Hid (Mm w wc [(b1, 26, vwC V), (b21, 42, x.C), (b23, 26, vwC U)]))
    case first =>
      rcases (show bi = 0 ∨ bi = 1 by omega) with rfl | rfl
      · go_wp2_with fail
        go_meet
        case rel => exact ⟨_, _, rfl, hide (fun h => join_may (unhide HM) (unhide HO) (Prod.ext rfl h)), hide (join_len (unhide HO).len), M⟩
      · go_wp2_with (
          first
          | (refine wpLoadA row26 rfl (.tmp 2) rfl b1 0 rfl (vwC V) (vwC_len (unhide HO).len) ((unhide M).at 0 _ rfl).range ?_
             have c0 := fits_cell ((unhide M).at 1 _ rfl) 0 _ rfl
             have c1 := fits_cell ((unhide M).at 1 _ rfl) 1 _ rfl
             refine Stp.go ?_))
        constructor
        go_wp2_with (
          first
          | (go_at_call 18
             refine (out18 V x.a x.b _ (unhide M).first (unhide HO)).mono ?_
             rintro e W41 ⟨rfl, K41⟩
             replace M : Hid (Mm w W41 [(b1, 26, vwC V), (b21, 42, x.C), (b23, 26, vwC (joinV V x.a x.e).1)]) := hide ((unhide M).step K41)
             clear K41
             refine Stp.go ?_))
        constructor
        go_wp2_with (
          first
          | (refine wpStoreM row26 rfl (.tmp 7) (.tmp 53) rfl rfl b23 2 (vwC (outV V x.a x.b).1) rfl rfl (vwC_len (out_len (unhide HO).len)) (vwC_one _) (unhide M) rfl (vwC_len (join_len (unhide HO).len)) ?_
             intro W42 N42
             replace M : Hid (Mm w W42 [(b1, 26, vwC V), (b21, 42, x.C), (b23, 26, vwC (outV V x.a x.b).1)]) := hide N42
             clear N42
             refine Stp.go ?_))
        constructor
        go_wp2_with fail
        go_meet
        case rel => exact ⟨_, _, rfl, hide (fun h => out_may (unhide HM) (unhide HO) (Prod.ext rfl h)), hide (out_len (unhide HO).len), M⟩
    case rest =>
      clear M
      obtain ⟨U, ue, rfl, HU, HUL, M⟩ := hcut
      go_wp2_with (
        first
        | (go_at_call 11
           refine (num11 ue _).mono ?_
           rintro e W99 ⟨rfl, rfl⟩
           refine Stp.go ?_))
      constructor
      go_upto_if 57 with fail
      go_cut [8] from 19 to 118 (fun xe wd => ∃ X : Vw, xe = .int .i64 ue ∧ Hid (X.may = true) ∧ Hid X.Ok ∧ Hid (Mm w wd [(b1, 26, vwC X), (b21, 42, x.C), (b23, 26, vwC U)]))
      case first =>
        by_cases h0 : ue = 0
        · subst h0
          obtain ⟨g1, g2, g3, g4, g5⟩ := unhide HU rfl
          have PU : ∀ W, First W → Hid (Calls Tryd.prog 12 #[aggV (vwC U)] W fun e w' => e = .returned (.bool true) ∧ Kept [] W w') := fun W hW => hide (by have := may12 U W hW g5.len; rw [g1] at this; exact this)
          have HUN := hide g2
          have HUO := hide g3
          have hfd : 0 ≤ U.fd ∧ U.fd < 8 := by simp [Vw.isIn, isNo] at g4; omega
          obtain ⟨f0, f8⟩ := hfd
          have HUI : Hid ((U.mem U.fd).1 = true) := hide (by simp [Vw.isIn] at g4; exact g4.2)
          have HUM := hide g1
          have HUK := hide g5
          have hvn := may_nu (unhide HM)
          obtain ⟨q0, q1⟩ := hvn
          clear g1 g2 g3 g4 g5
          go_wp2_with (
            first
            | (refine wpLoadA row26 rfl (.tmp 7) rfl b23 0 rfl (vwC U) (vwC_len (unhide HUL)) ((unhide M).at 2 _ rfl).range ?_
               refine Stp.go ?_))
          constructor
          go_wp2_with (
            first
            | (go_at_call 12
               refine (unhide (PU _ (unhide M).first)).mono ?_
               rintro e W51 ⟨rfl, K51⟩
               replace M : Hid (Mm w W51 [(b1, 26, vwC V), (b21, 42, x.C), (b23, 26, vwC U)]) := hide ((unhide M).step K51)
               clear K51
               have d0 : W51.cell? ⟨b23, 0, none⟩ = some (.int .i64 (V.nu + 1)) := by have h9 := fits_cell ((unhide M).at 2 _ rfl) 0 _ rfl; rw [unhide HUN] at h9; exact h9
               have d1 : W51.cell? ⟨b23, 1, none⟩ = some (.bool false) := by have h9 := fits_cell ((unhide M).at 2 _ rfl) 1 _ rfl; rw [unhide HUO] at h9; exact h9
               have d2 := fits_cell ((unhide M).at 2 _ rfl) 2 _ rfl
               have e0 := fits_cell ((unhide M).at 0 _ rfl) 0 _ rfl
               obtain ⟨m0, m1⟩ := Blk.mem ((unhide M).at 2 _ rfl) (unhide HUL) f0 f8
               rw [unhide HUI] at m0
               refine Stp.go ?_))
          constructor
          go_wp2_with (
            first
            | (refine wpNeq2G rfl (.tmp 63) (.tmp 66) rfl (V.nu + 1) rfl rfl ?_
               refine Stp.go ?_))
          constructor
          go_wp2_with (
            first
            | (refine wpLoadA row26 rfl (.tmp 7) rfl b23 0 rfl (vwC U) (vwC_len (unhide HUL)) ((unhide M).at 2 _ rfl).range ?_
               refine Stp.go ?_))
          constructor
          go_wp2_with (
            first
            | (refine wpStoreM row26 rfl (.tmp 2) (.tmp 82) rfl rfl b1 0 (vwC U) rfl rfl (vwC_len (unhide HUL)) (vwC_one _) (unhide M) rfl (vwC_len (unhide HO).len) ?_
               intro W52 N52
               replace M : Hid (Mm w W52 [(b1, 26, vwC U), (b21, 42, x.C), (b23, 26, vwC U)]) := hide N52
               clear N52
               refine Stp.go ?_))
          constructor
          go_wp2_with fail
          go_meet
          case rel => exact ⟨U, rfl, HUM, HUK, M⟩
        · have hd9 : (ue == 0) = false := by simpa using h0
          go_wp2_with fail
          go_meet
          case rel => exact ⟨V, rfl, HM, HO, M⟩
      case rest =>
        clear M HU HUL HM HO
        obtain ⟨X, rfl, HX0, HX, M⟩ := hcut
        obtain ⟨N, hN⟩ : ∃ N, N = X.list.length := ⟨_, rfl⟩
        have hN8 : N ≤ 8 := by rw [hN]; exact list_len (unhide HX).len
        have HNL := hide hN
        have PC : ∀ W, First W → Hid (Calls Tryd.prog 26 #[aggV (vwC X)] W fun e w' => e = .returned (.int .i64 N) ∧ Kept [] W w') := fun W hW => hide (by have := count26 X W hW (unhide HX).len; rw [← unhide HNL] at this; exact this)
        clear hN
        by_cases hN0 : N = 0
        · have hd5 : ((N : Int) == 0) = true := by simp; omega
          go_wp2_with (
            first
            | (refine wpLoadA row26 rfl (.tmp 2) rfl b1 0 rfl (vwC X) (vwC_len (unhide HX).len) ((unhide M).at 0 _ rfl).range ?_
               refine Stp.go ?_))
          constructor
          go_wp2_with (
            first
            | (go_at_call 26
               refine (unhide (PC _ (unhide M).first)).mono ?_
               rintro e W61 ⟨rfl, K61⟩
               replace M : Hid (Mm w W61 [(b1, 26, vwC X), (b21, 42, x.C), (b23, 26, vwC U)]) := hide ((unhide M).step K61)
               clear K61
               refine Stp.go ?_))
          constructor
          go_wp2_with fail
          go_roundw
          case rel => exact ⟨j + 1, X, by omega, by omega, by go_num, HX0, HX, hide ⟨(unhide M).kept, (unhide M).first, (unhide M).first0, fun y hy => (unhide M).blk y (by simp at hy; subst hy; simp), by simp⟩⟩
          case measure => simp [intOf]; omega
        · have hd5 : ((N : Int) == 0) = false := by simp; omega
          go_wp2_with (
            first
            | (refine wpLoadA row26 rfl (.tmp 2) rfl b1 0 rfl (vwC X) (vwC_len (unhide HX).len) ((unhide M).at 0 _ rfl).range ?_
               refine Stp.go ?_))
          constructor
          go_wp2_with (
            first
            | (go_at_call 26
               refine (unhide (PC _ (unhide M).first)).mono ?_
               rintro e W61 ⟨rfl, K61⟩
               replace M : Hid (Mm w W61 [(b1, 26, vwC X), (b21, 42, x.C), (b23, 26, vwC U)]) := hide ((unhide M).step K61)
               clear K61
               refine Stp.go ?_))
          constructor
          go_wp2_with fail
          have HKN : Hid ((memF 0 X.ms).length = N) := by show _ = _; rw [unhide HNL]; unfold Vw.list; rw [unhide HX0, if_pos rfl]
          clear PC hd5
          go_loopw [9, 10, 11, 12] (fun xl xm xs xi wr => ∃ q a b s : Nat, q ≤ 8 ∧ xl = .int .i64 a ∧ xm = .int .i64 b ∧ xs = .int .i64 s ∧ xi = .int .i64 q ∧ Hid (fold3 N (memF 0 (X.ms.take q)).length = (a, b, s)) ∧ Hid (Mm w wr [(b1, 26, vwC X), (b21, 42, x.C), (b23, 26, vwC U)])) (fun _ _ _ i _ => 8 - (intOf i).toNat)
          case atStart => exact ⟨0, 16, 0, 0, by omega, rfl, rfl, rfl, rfl, rfl, M⟩
          case round =>
            clear M
            obtain ⟨q, a, b, s, hq8, rfl, rfl, rfl, rfl, HFO, M⟩ := hrel
            obtain ⟨k, hk⟩ : ∃ k, k = (memF 0 (X.ms.take q)).length := ⟨_, rfl⟩
            rw [← hk] at HFO
            have hkle : k ≤ 8 := by rw [hk]; have := memF_len (X.ms.take q) 0; rw [List.length_take] at this; omega
            have hsm := fold3_small N k hN8 hkle
            rw [unhide HFO] at hsm
            obtain ⟨ha, hb, hs⟩ := hsm
            have ha : a ≤ 16 := ha
            have hb : b ≤ 16 := hb
            have hs : s ≤ 200 := hs
            have haI : (a : Int) ≤ 16 := by omega
            have hbI : (b : Int) ≤ 16 := by omega
            have hsI : (s : Int) ≤ 200 := by omega
            have haJ : 0 ≤ (a : Int) := by omega
            have hbJ : 0 ≤ (b : Int) := by omega
            have hsJ : 0 ≤ (s : Int) := by omega
            by_cases hlt8 : q < 8
            · obtain ⟨m, hm⟩ : ∃ m, X.ms[q]? = some m := ⟨_, List.getElem?_eq_getElem (by have := (unhide HX).len; omega)⟩
              have hq8I : (q : Int) < 8 := by omega
              have hd6 : decide ((q : Int) < 8) = true := by simpa using hq8I
              have HC : Hid (∀ W, Mm w W [(b1, 26, vwC X), (b21, 42, x.C), (b23, 26, vwC U)] → W.cell? ⟨b1, 3 + q * 2, none⟩ = some (.bool m.1)) := by
                intro W hW
                have B := hW.at 0 _ rfl
                obtain ⟨x0, x1⟩ := vwC_at hm
                rw [Nat.mul_comm] at x0
                exact fits_cell B _ _ x0
              have hT := memF_take X.ms 0 q m hm
              obtain ⟨L, hL⟩ : ∃ L, L = (X.pgs q 16).length := ⟨_, rfl⟩
              have hPG : ∀ W, First W → Calls Tryd.prog 28 #[aggV (vwC X), .int .i64 q, .int .i64 16] W fun e w' => ∃ ao' c', e = .returned (.slice ao' L c') ∧ Kept [] W w' := fun W hW => by
                refine (pages28 X q 16 W hW (unhide HX).len).mono ?_
                rintro e w' ⟨u, rfl, hI, hK⟩
                obtain ⟨ao', c', rfl⟩ := hI.sl
                refine ⟨ao', c', ?_, hK⟩
                have : X.pages q 16 = X.pgs q 16 := rfl
                rw [this, ← hL]
              obtain ⟨mi, me⟩ := m
              cases mi with
              | false =>
                have h0 : L = 0 := by rw [hL]; exact share_out (unhide HX0) hm
                subst h0
                have PG : ∀ W, First W → Hid (Calls Tryd.prog 28 #[aggV (vwC X), .int .i64 q, .int .i64 16] W fun e w' => ∃ ao' c', e = .returned (.slice ao' 0 c') ∧ Kept [] W w') := fun W hW => hide (hPG W hW)
                have HT : Hid (fold3 N (memF 0 (X.ms.take (q + 1))).length = (a, b, s)) := by
                  show _ = _
                  rw [hT]
                  simp
                  rw [← hk]
                  exact unhide HFO
                clear hPG hL hT hm hk hkle HFO
                go_wp2_with (
                  first
                  | (refine wpLoadA row26 rfl (.tmp 2) rfl b1 0 rfl (vwC X) (vwC_len (unhide HX).len) ((unhide M).at 0 _ rfl).range ?_
                     refine Stp.go ?_))
                constructor
                go_wp2_with (
                  first
                  | (go_at_call 28
                     refine (unhide (PG _ (unhide M).first)).mono ?_
                     rintro e W81 ⟨ao9, c9, rfl, K81⟩
                     replace M : Hid (Mm w W81 [(b1, 26, vwC X), (b21, 42, x.C), (b23, 26, vwC U)]) := hide ((unhide M).step K81)
                     have hc := unhide HC _ (unhide M)
                     clear K81
                     refine Stp.go ?_))
                constructor
                go_wp2_with fail
                go_roundw
                case rel => exact ⟨q + 1, a, b, s, by omega, rfl, rfl, rfl, by go_num, HT, M⟩
                case measure => simp [intOf]; omega
              | true =>
                have hat := list_at hm
                have hLS : X.list = memF 0 X.ms := by unfold Vw.list; rw [unhide HX0, if_pos rfl]
                have hsh : L = shr N k := by
                  rw [hL, unhide HNL]
                  refine share_in (unhide HX0) (i := k) (e := me) ?_
                  rw [hLS, hk]
                  exact hat
                have hL16 : L ≤ 16 := by rw [hsh]; exact shr_small N k
                have hLI : (L : Int) ≤ 16 := by omega
                have hLJ : 0 ≤ (L : Int) := by omega
                have PG : ∀ W, First W → Hid (Calls Tryd.prog 28 #[aggV (vwC X), .int .i64 q, .int .i64 16] W fun e w' => ∃ ao' c', e = .returned (.slice ao' L c') ∧ Kept [] W w') := fun W hW => hide (hPG W hW)
                have HT : Hid (fold3 N (memF 0 (X.ms.take (q + 1))).length = (min a L, max b L, s + L)) := by
                  show _ = _
                  rw [hT]
                  simp only [if_true, List.length_append, List.length_cons, List.length_nil]
                  rw [← hk]
                  show fold3 N (k + 1) = _
                  rw [fold3, unhide HFO, hsh]
                clear hPG hL hT hm hk hkle HFO hat hLS hsh
                go_wp2_with (
                  first
                  | (refine wpLoadA row26 rfl (.tmp 2) rfl b1 0 rfl (vwC X) (vwC_len (unhide HX).len) ((unhide M).at 0 _ rfl).range ?_
                     refine Stp.go ?_))
                constructor
                go_wp2_with (
                  first
                  | (go_at_call 28
                     refine (unhide (PG _ (unhide M).first)).mono ?_
                     rintro e W81 ⟨ao9, c9, rfl, K81⟩
                     replace M : Hid (Mm w W81 [(b1, 26, vwC X), (b21, 42, x.C), (b23, 26, vwC U)]) := hide ((unhide M).step K81)
                     have hc := unhide HC _ (unhide M)
                     clear K81
                     refine Stp.go ?_))
                constructor
                go_wp2_with (
                  first
                  | (refine wpMin3 rfl (.tmp 102) (.tmp 103) rfl (a : Int) (L : Int) ((min a L : Nat) : Int) (by omega) rfl rfl ?_
                     refine Stp.go ?_))
                constructor
                go_wp2_with (
                  first
                  | (refine wpMax3 rfl (.tmp 105) (.tmp 106) rfl (b : Int) (L : Int) ((max b L : Nat) : Int) (by omega) rfl rfl ?_
                     refine Stp.go ?_))
                constructor
                go_wp2_with fail
                go_roundw
                case rel => exact ⟨q + 1, min a L, max b L, s + L, by omega, rfl, rfl, by go_num, by go_num, HT, M⟩
                case measure => simp [intOf]; omega
            · have hd6 : decide ((q : Int) < 8) = false := by simp; omega
              have hq : X.ms.take q = X.ms := List.take_of_length_le (by have := (unhide HX).len; omega)
              have hkN : k = N := by rw [hk, hq]; exact unhide HKN
              have hend := fold3_end N (by omega) hN8
              rw [hkN] at HFO
              rw [unhide HFO] at hend
              obtain ⟨he1, he2⟩ := hend
              have he1 : s = 16 := he1
              have he2 : b ≤ a + 1 := he2
              have hd7 : ((s : Int) == 16) = true := by simp; omega
              have hd8 : ((s : Int) != 16) = false := by simp; omega
              have hd9 : decide (1 < (b : Int) - (a : Int)) = false := by simp; omega
              clear he1 he2 hk hkN hq HFO hlt8
              go_wp2_with fail
              go_roundw
              case rel => exact ⟨j + 1, X, by omega, by omega, by go_num, HX0, HX, hide ⟨(unhide M).kept, (unhide M).first, (unhide M).first0, fun y hy => (unhide M).blk y (by simp at hy; subst hy; simp), by simp⟩⟩
              case measure => simp [intOf]; omega
theorem masters6 (v : Vw) (ao : Option Addr) (c : Nat) (l : List Ask) (w : World) (hF : First w) (hok : v.Ok) (hL : AskS w ao l) : Calls Tryd.prog 6 #[aggV (vwC v), .slice ao l.length c] w fun e w' => e = .returned (.bool true) ∧ Kept [] w w' := by
  cases hm : v.may with
  | false => exact masters_no v ao c l w hF hok hm
  | true => exact masters_yes v ao c l w hF hok hL hm

end Go.Proofs.YtbpnnbbinhdoiaaDoor
