/-
  The document's pool: which frames may be.
-/
import Derived.Test.YtgnafbohikbpfaaRa
namespace Go.Proofs.Ytgnafbohikbpfaa
set_option maxRecDepth 100000
set_option linter.unusedSimpArgs false
open Go.RowKit

set_option linter.unusedVariables false
theorem Blk.body {w : World} {g T : Nat} {x : Fr} (h : Blk w g T x.C) : w.rangeAt g 5 (u8s x.bd) := h.rangeIn _ (fun j hj => by
  have hb := x.hb
  rw [u8s_len, hb] at hj
  rw [x.C_ver, List.append_assoc, List.getElem?_append_right (by simp; omega), List.getElem?_append_left (by rw [verC_len x.hb]; simp; omega)]
  unfold verC
  show (_ :: _)[5 + j - 4]? = _
  rw [show 5 + j - 4 = j + 1 by omega]
  rfl)
theorem may_za (x : Fr) (w : World) (h0 : (x.pg < 0)) : Calls Try.prog 47 #[aggV x.C] w fun e w' => e = .returned (.bool false) ∧ Kept [] w w' := by
  have e0a : decide (x.pg < 0) = true := decide_eq_true h0
  have e0b : decide (0 > x.pg) = true := decide_eq_true h0
  clear h0
  obtain ⟨fc, hfc⟩ : ∃ c, c = x.C := ⟨_, rfl⟩
  rw [← hfc]
  have HFC := hide hfc
  obtain ⟨sc, hsc⟩ : ∃ c, c = u8s x.bd := ⟨_, rfl⟩
  have HSC := hide hsc
  clear hfc hsc
  go_enter Try.func47, Try.ntmps47
  go_wp2_with (
    first
    | (refine wpBoxV rfl (.tmp 0) rfl fc rfl ?_
       intro W1 g e1 B1 K1
       have HK := hide K1
       rw [unhide HFC] at B1
       have c0 : W1.cell? ⟨g, 0, none⟩ = some (.int .i64 x.pg) := fits_cell B1 0 _ rfl
       have c1 : W1.cell? ⟨g, 1, none⟩ = some (.int .i64 x.md) := fits_cell B1 1 _ rfl
       have c2 : W1.cell? ⟨g, 2, none⟩ = some (.int .i64 x.op) := fits_cell B1 2 _ rfl
       have c3 : W1.cell? ⟨g, 3, none⟩ = some (.int .i64 x.fi) := fits_cell B1 3 _ rfl
       have c4 : W1.cell? ⟨g, 4, none⟩ = some (.int .i64 x.ps) := fits_cell B1 4 _ rfl
       have HR : Hid (W1.rangeAt g 5 sc) := by rw [unhide HSC]; exact Blk.body B1
       clear e1 B1 K1
       refine Stp.go ?_))
  constructor
  go_wp2_with fail
  go_ret
  exact ⟨rfl, unhide HK⟩
theorem may_zb (x : Fr) (w : World) (h0 : ¬ (x.pg < 0)) (h1 : (x.pg ≥ 16)) : Calls Try.prog 47 #[aggV x.C] w fun e w' => e = .returned (.bool false) ∧ Kept [] w w' := by
  have e0a : decide (x.pg < 0) = false := decide_eq_false h0
  have e0b : decide (0 > x.pg) = false := decide_eq_false h0
  have e1a : decide (x.pg ≥ 16) = true := decide_eq_true h1
  have e1b : decide (16 ≤ x.pg) = true := decide_eq_true h1
  clear h0 h1
  obtain ⟨fc, hfc⟩ : ∃ c, c = x.C := ⟨_, rfl⟩
  rw [← hfc]
  have HFC := hide hfc
  obtain ⟨sc, hsc⟩ : ∃ c, c = u8s x.bd := ⟨_, rfl⟩
  have HSC := hide hsc
  clear hfc hsc
  go_enter Try.func47, Try.ntmps47
  go_wp2_with (
    first
    | (refine wpBoxV rfl (.tmp 0) rfl fc rfl ?_
       intro W1 g e1 B1 K1
       have HK := hide K1
       rw [unhide HFC] at B1
       have c0 : W1.cell? ⟨g, 0, none⟩ = some (.int .i64 x.pg) := fits_cell B1 0 _ rfl
       have c1 : W1.cell? ⟨g, 1, none⟩ = some (.int .i64 x.md) := fits_cell B1 1 _ rfl
       have c2 : W1.cell? ⟨g, 2, none⟩ = some (.int .i64 x.op) := fits_cell B1 2 _ rfl
       have c3 : W1.cell? ⟨g, 3, none⟩ = some (.int .i64 x.fi) := fits_cell B1 3 _ rfl
       have c4 : W1.cell? ⟨g, 4, none⟩ = some (.int .i64 x.ps) := fits_cell B1 4 _ rfl
       have HR : Hid (W1.rangeAt g 5 sc) := by rw [unhide HSC]; exact Blk.body B1
       clear e1 B1 K1
       refine Stp.go ?_))
  constructor
  go_wp2_with fail
  go_ret
  exact ⟨rfl, unhide HK⟩
theorem may_zc (x : Fr) (w : World) (h0 : ¬ (x.pg < 0)) (h1 : ¬ (x.pg ≥ 16)) (h2 : ¬ (x.md = 1)) (h3 : ¬ (x.md = 2)) : Calls Try.prog 47 #[aggV x.C] w fun e w' => e = .returned (.bool false) ∧ Kept [] w w' := by
  have e0a : decide (x.pg < 0) = false := decide_eq_false h0
  have e0b : decide (0 > x.pg) = false := decide_eq_false h0
  have e1a : decide (x.pg ≥ 16) = false := decide_eq_false h1
  have e1b : decide (16 ≤ x.pg) = false := decide_eq_false h1
  have e2a := nef_a h2
  have e2b := nef_b h2
  have e2c := nef_c h2
  have e3a := nef_a h3
  have e3b := nef_b h3
  have e3c := nef_c h3
  clear h0 h1 h2 h3
  obtain ⟨fc, hfc⟩ : ∃ c, c = x.C := ⟨_, rfl⟩
  rw [← hfc]
  have HFC := hide hfc
  obtain ⟨sc, hsc⟩ : ∃ c, c = u8s x.bd := ⟨_, rfl⟩
  have HSC := hide hsc
  clear hfc hsc
  go_enter Try.func47, Try.ntmps47
  go_wp2_with (
    first
    | (refine wpBoxV rfl (.tmp 0) rfl fc rfl ?_
       intro W1 g e1 B1 K1
       have HK := hide K1
       rw [unhide HFC] at B1
       have c0 : W1.cell? ⟨g, 0, none⟩ = some (.int .i64 x.pg) := fits_cell B1 0 _ rfl
       have c1 : W1.cell? ⟨g, 1, none⟩ = some (.int .i64 x.md) := fits_cell B1 1 _ rfl
       have c2 : W1.cell? ⟨g, 2, none⟩ = some (.int .i64 x.op) := fits_cell B1 2 _ rfl
       have c3 : W1.cell? ⟨g, 3, none⟩ = some (.int .i64 x.fi) := fits_cell B1 3 _ rfl
       have c4 : W1.cell? ⟨g, 4, none⟩ = some (.int .i64 x.ps) := fits_cell B1 4 _ rfl
       have HR : Hid (W1.rangeAt g 5 sc) := by rw [unhide HSC]; exact Blk.body B1
       clear e1 B1 K1
       refine Stp.go ?_))
  constructor
  go_wp2_with fail
  go_ret
  exact ⟨rfl, unhide HK⟩
theorem may_1_0 (x : Fr) (w : World) (h0 : ¬ (x.pg < 0)) (h1 : ¬ (x.pg ≥ 16)) (h2 : (x.md = 1)) (h3 : ¬ (x.op ≥ 0)) : Calls Try.prog 47 #[aggV x.C] w fun e w' => e = .returned (.bool false) ∧ Kept [] w w' := by
  have e0a : decide (x.pg < 0) = false := decide_eq_false h0
  have e0b : decide (0 > x.pg) = false := decide_eq_false h0
  have e1a : decide (x.pg ≥ 16) = false := decide_eq_false h1
  have e1b : decide (16 ≤ x.pg) = false := decide_eq_false h1
  have e2a := eqt_a h2
  have e2b := eqt_b h2
  have e2c := eqt_c h2
  have e3a : decide (x.op ≥ 0) = false := decide_eq_false h3
  have e3b : decide (0 ≤ x.op) = false := decide_eq_false h3
  clear h0 h1 h2 h3
  obtain ⟨fc, hfc⟩ : ∃ c, c = x.C := ⟨_, rfl⟩
  rw [← hfc]
  have HFC := hide hfc
  obtain ⟨sc, hsc⟩ : ∃ c, c = u8s x.bd := ⟨_, rfl⟩
  have HSC := hide hsc
  clear hfc hsc
  go_enter Try.func47, Try.ntmps47
  go_wp2_with (
    first
    | (refine wpBoxV rfl (.tmp 0) rfl fc rfl ?_
       intro W1 g e1 B1 K1
       have HK := hide K1
       rw [unhide HFC] at B1
       have c0 : W1.cell? ⟨g, 0, none⟩ = some (.int .i64 x.pg) := fits_cell B1 0 _ rfl
       have c1 : W1.cell? ⟨g, 1, none⟩ = some (.int .i64 x.md) := fits_cell B1 1 _ rfl
       have c2 : W1.cell? ⟨g, 2, none⟩ = some (.int .i64 x.op) := fits_cell B1 2 _ rfl
       have c3 : W1.cell? ⟨g, 3, none⟩ = some (.int .i64 x.fi) := fits_cell B1 3 _ rfl
       have c4 : W1.cell? ⟨g, 4, none⟩ = some (.int .i64 x.ps) := fits_cell B1 4 _ rfl
       have HR : Hid (W1.rangeAt g 5 sc) := by rw [unhide HSC]; exact Blk.body B1
       clear e1 B1 K1
       refine Stp.go ?_))
  constructor
  go_wp2_with fail
  go_ret
  exact ⟨rfl, unhide HK⟩
theorem may_1_1 (x : Fr) (w : World) (h0 : ¬ (x.pg < 0)) (h1 : ¬ (x.pg ≥ 16)) (h2 : (x.md = 1)) (h3 : (x.op ≥ 0)) (h4 : ¬ (x.op ≤ 4611686018427387904)) : Calls Try.prog 47 #[aggV x.C] w fun e w' => e = .returned (.bool false) ∧ Kept [] w w' := by
  have e0a : decide (x.pg < 0) = false := decide_eq_false h0
  have e0b : decide (0 > x.pg) = false := decide_eq_false h0
  have e1a : decide (x.pg ≥ 16) = false := decide_eq_false h1
  have e1b : decide (16 ≤ x.pg) = false := decide_eq_false h1
  have e2a := eqt_a h2
  have e2b := eqt_b h2
  have e2c := eqt_c h2
  have e3a : decide (x.op ≥ 0) = true := decide_eq_true h3
  have e3b : decide (0 ≤ x.op) = true := decide_eq_true h3
  have e4a : decide (x.op ≤ 4611686018427387904) = false := decide_eq_false h4
  have e4b : decide (4611686018427387904 ≥ x.op) = false := decide_eq_false h4
  clear h0 h1 h2 h3 h4
  obtain ⟨fc, hfc⟩ : ∃ c, c = x.C := ⟨_, rfl⟩
  rw [← hfc]
  have HFC := hide hfc
  obtain ⟨sc, hsc⟩ : ∃ c, c = u8s x.bd := ⟨_, rfl⟩
  have HSC := hide hsc
  clear hfc hsc
  go_enter Try.func47, Try.ntmps47
  go_wp2_with (
    first
    | (refine wpBoxV rfl (.tmp 0) rfl fc rfl ?_
       intro W1 g e1 B1 K1
       have HK := hide K1
       rw [unhide HFC] at B1
       have c0 : W1.cell? ⟨g, 0, none⟩ = some (.int .i64 x.pg) := fits_cell B1 0 _ rfl
       have c1 : W1.cell? ⟨g, 1, none⟩ = some (.int .i64 x.md) := fits_cell B1 1 _ rfl
       have c2 : W1.cell? ⟨g, 2, none⟩ = some (.int .i64 x.op) := fits_cell B1 2 _ rfl
       have c3 : W1.cell? ⟨g, 3, none⟩ = some (.int .i64 x.fi) := fits_cell B1 3 _ rfl
       have c4 : W1.cell? ⟨g, 4, none⟩ = some (.int .i64 x.ps) := fits_cell B1 4 _ rfl
       have HR : Hid (W1.rangeAt g 5 sc) := by rw [unhide HSC]; exact Blk.body B1
       clear e1 B1 K1
       refine Stp.go ?_))
  constructor
  go_wp2_with fail
  go_ret
  exact ⟨rfl, unhide HK⟩
theorem may_1_2 (x : Fr) (w : World) (h0 : ¬ (x.pg < 0)) (h1 : ¬ (x.pg ≥ 16)) (h2 : (x.md = 1)) (h3 : (x.op ≥ 0)) (h4 : (x.op ≤ 4611686018427387904)) (h5 : ¬ (x.fi ≥ 0)) : Calls Try.prog 47 #[aggV x.C] w fun e w' => e = .returned (.bool false) ∧ Kept [] w w' := by
  have e0a : decide (x.pg < 0) = false := decide_eq_false h0
  have e0b : decide (0 > x.pg) = false := decide_eq_false h0
  have e1a : decide (x.pg ≥ 16) = false := decide_eq_false h1
  have e1b : decide (16 ≤ x.pg) = false := decide_eq_false h1
  have e2a := eqt_a h2
  have e2b := eqt_b h2
  have e2c := eqt_c h2
  have e3a : decide (x.op ≥ 0) = true := decide_eq_true h3
  have e3b : decide (0 ≤ x.op) = true := decide_eq_true h3
  have e4a : decide (x.op ≤ 4611686018427387904) = true := decide_eq_true h4
  have e4b : decide (4611686018427387904 ≥ x.op) = true := decide_eq_true h4
  have e5a : decide (x.fi ≥ 0) = false := decide_eq_false h5
  have e5b : decide (0 ≤ x.fi) = false := decide_eq_false h5
  clear h0 h1 h2 h3 h4 h5
  obtain ⟨fc, hfc⟩ : ∃ c, c = x.C := ⟨_, rfl⟩
  rw [← hfc]
  have HFC := hide hfc
  obtain ⟨sc, hsc⟩ : ∃ c, c = u8s x.bd := ⟨_, rfl⟩
  have HSC := hide hsc
  clear hfc hsc
  go_enter Try.func47, Try.ntmps47
  go_wp2_with (
    first
    | (refine wpBoxV rfl (.tmp 0) rfl fc rfl ?_
       intro W1 g e1 B1 K1
       have HK := hide K1
       rw [unhide HFC] at B1
       have c0 : W1.cell? ⟨g, 0, none⟩ = some (.int .i64 x.pg) := fits_cell B1 0 _ rfl
       have c1 : W1.cell? ⟨g, 1, none⟩ = some (.int .i64 x.md) := fits_cell B1 1 _ rfl
       have c2 : W1.cell? ⟨g, 2, none⟩ = some (.int .i64 x.op) := fits_cell B1 2 _ rfl
       have c3 : W1.cell? ⟨g, 3, none⟩ = some (.int .i64 x.fi) := fits_cell B1 3 _ rfl
       have c4 : W1.cell? ⟨g, 4, none⟩ = some (.int .i64 x.ps) := fits_cell B1 4 _ rfl
       have HR : Hid (W1.rangeAt g 5 sc) := by rw [unhide HSC]; exact Blk.body B1
       clear e1 B1 K1
       refine Stp.go ?_))
  constructor
  go_wp2_with fail
  go_ret
  exact ⟨rfl, unhide HK⟩
theorem may_1_3 (x : Fr) (w : World) (h0 : ¬ (x.pg < 0)) (h1 : ¬ (x.pg ≥ 16)) (h2 : (x.md = 1)) (h3 : (x.op ≥ 0)) (h4 : (x.op ≤ 4611686018427387904)) (h5 : (x.fi ≥ 0)) (h6 : ¬ (x.fi ≤ 2147483647)) : Calls Try.prog 47 #[aggV x.C] w fun e w' => e = .returned (.bool false) ∧ Kept [] w w' := by
  have e0a : decide (x.pg < 0) = false := decide_eq_false h0
  have e0b : decide (0 > x.pg) = false := decide_eq_false h0
  have e1a : decide (x.pg ≥ 16) = false := decide_eq_false h1
  have e1b : decide (16 ≤ x.pg) = false := decide_eq_false h1
  have e2a := eqt_a h2
  have e2b := eqt_b h2
  have e2c := eqt_c h2
  have e3a : decide (x.op ≥ 0) = true := decide_eq_true h3
  have e3b : decide (0 ≤ x.op) = true := decide_eq_true h3
  have e4a : decide (x.op ≤ 4611686018427387904) = true := decide_eq_true h4
  have e4b : decide (4611686018427387904 ≥ x.op) = true := decide_eq_true h4
  have e5a : decide (x.fi ≥ 0) = true := decide_eq_true h5
  have e5b : decide (0 ≤ x.fi) = true := decide_eq_true h5
  have e6a : decide (x.fi ≤ 2147483647) = false := decide_eq_false h6
  have e6b : decide (2147483647 ≥ x.fi) = false := decide_eq_false h6
  clear h0 h1 h2 h3 h4 h5 h6
  obtain ⟨fc, hfc⟩ : ∃ c, c = x.C := ⟨_, rfl⟩
  rw [← hfc]
  have HFC := hide hfc
  obtain ⟨sc, hsc⟩ : ∃ c, c = u8s x.bd := ⟨_, rfl⟩
  have HSC := hide hsc
  clear hfc hsc
  go_enter Try.func47, Try.ntmps47
  go_wp2_with (
    first
    | (refine wpBoxV rfl (.tmp 0) rfl fc rfl ?_
       intro W1 g e1 B1 K1
       have HK := hide K1
       rw [unhide HFC] at B1
       have c0 : W1.cell? ⟨g, 0, none⟩ = some (.int .i64 x.pg) := fits_cell B1 0 _ rfl
       have c1 : W1.cell? ⟨g, 1, none⟩ = some (.int .i64 x.md) := fits_cell B1 1 _ rfl
       have c2 : W1.cell? ⟨g, 2, none⟩ = some (.int .i64 x.op) := fits_cell B1 2 _ rfl
       have c3 : W1.cell? ⟨g, 3, none⟩ = some (.int .i64 x.fi) := fits_cell B1 3 _ rfl
       have c4 : W1.cell? ⟨g, 4, none⟩ = some (.int .i64 x.ps) := fits_cell B1 4 _ rfl
       have HR : Hid (W1.rangeAt g 5 sc) := by rw [unhide HSC]; exact Blk.body B1
       clear e1 B1 K1
       refine Stp.go ?_))
  constructor
  go_wp2_with fail
  go_ret
  exact ⟨rfl, unhide HK⟩
theorem may_1_4 (x : Fr) (w : World) (h0 : ¬ (x.pg < 0)) (h1 : ¬ (x.pg ≥ 16)) (h2 : (x.md = 1)) (h3 : (x.op ≥ 0)) (h4 : (x.op ≤ 4611686018427387904)) (h5 : (x.fi ≥ 0)) (h6 : (x.fi ≤ 2147483647)) (h7 : ¬ (x.ps ≥ 0)) : Calls Try.prog 47 #[aggV x.C] w fun e w' => e = .returned (.bool false) ∧ Kept [] w w' := by
  have e0a : decide (x.pg < 0) = false := decide_eq_false h0
  have e0b : decide (0 > x.pg) = false := decide_eq_false h0
  have e1a : decide (x.pg ≥ 16) = false := decide_eq_false h1
  have e1b : decide (16 ≤ x.pg) = false := decide_eq_false h1
  have e2a := eqt_a h2
  have e2b := eqt_b h2
  have e2c := eqt_c h2
  have e3a : decide (x.op ≥ 0) = true := decide_eq_true h3
  have e3b : decide (0 ≤ x.op) = true := decide_eq_true h3
  have e4a : decide (x.op ≤ 4611686018427387904) = true := decide_eq_true h4
  have e4b : decide (4611686018427387904 ≥ x.op) = true := decide_eq_true h4
  have e5a : decide (x.fi ≥ 0) = true := decide_eq_true h5
  have e5b : decide (0 ≤ x.fi) = true := decide_eq_true h5
  have e6a : decide (x.fi ≤ 2147483647) = true := decide_eq_true h6
  have e6b : decide (2147483647 ≥ x.fi) = true := decide_eq_true h6
  have e7a : decide (x.ps ≥ 0) = false := decide_eq_false h7
  have e7b : decide (0 ≤ x.ps) = false := decide_eq_false h7
  clear h0 h1 h2 h3 h4 h5 h6 h7
  obtain ⟨fc, hfc⟩ : ∃ c, c = x.C := ⟨_, rfl⟩
  rw [← hfc]
  have HFC := hide hfc
  obtain ⟨sc, hsc⟩ : ∃ c, c = u8s x.bd := ⟨_, rfl⟩
  have HSC := hide hsc
  clear hfc hsc
  go_enter Try.func47, Try.ntmps47
  go_wp2_with (
    first
    | (refine wpBoxV rfl (.tmp 0) rfl fc rfl ?_
       intro W1 g e1 B1 K1
       have HK := hide K1
       rw [unhide HFC] at B1
       have c0 : W1.cell? ⟨g, 0, none⟩ = some (.int .i64 x.pg) := fits_cell B1 0 _ rfl
       have c1 : W1.cell? ⟨g, 1, none⟩ = some (.int .i64 x.md) := fits_cell B1 1 _ rfl
       have c2 : W1.cell? ⟨g, 2, none⟩ = some (.int .i64 x.op) := fits_cell B1 2 _ rfl
       have c3 : W1.cell? ⟨g, 3, none⟩ = some (.int .i64 x.fi) := fits_cell B1 3 _ rfl
       have c4 : W1.cell? ⟨g, 4, none⟩ = some (.int .i64 x.ps) := fits_cell B1 4 _ rfl
       have HR : Hid (W1.rangeAt g 5 sc) := by rw [unhide HSC]; exact Blk.body B1
       clear e1 B1 K1
       refine Stp.go ?_))
  constructor
  go_wp2_with fail
  go_ret
  exact ⟨rfl, unhide HK⟩
theorem may_1_5 (x : Fr) (w : World) (h0 : ¬ (x.pg < 0)) (h1 : ¬ (x.pg ≥ 16)) (h2 : (x.md = 1)) (h3 : (x.op ≥ 0)) (h4 : (x.op ≤ 4611686018427387904)) (h5 : (x.fi ≥ 0)) (h6 : (x.fi ≤ 2147483647)) (h7 : (x.ps ≥ 0)) (h8 : ¬ (x.ps ≤ 2147483647)) : Calls Try.prog 47 #[aggV x.C] w fun e w' => e = .returned (.bool false) ∧ Kept [] w w' := by
  have e0a : decide (x.pg < 0) = false := decide_eq_false h0
  have e0b : decide (0 > x.pg) = false := decide_eq_false h0
  have e1a : decide (x.pg ≥ 16) = false := decide_eq_false h1
  have e1b : decide (16 ≤ x.pg) = false := decide_eq_false h1
  have e2a := eqt_a h2
  have e2b := eqt_b h2
  have e2c := eqt_c h2
  have e3a : decide (x.op ≥ 0) = true := decide_eq_true h3
  have e3b : decide (0 ≤ x.op) = true := decide_eq_true h3
  have e4a : decide (x.op ≤ 4611686018427387904) = true := decide_eq_true h4
  have e4b : decide (4611686018427387904 ≥ x.op) = true := decide_eq_true h4
  have e5a : decide (x.fi ≥ 0) = true := decide_eq_true h5
  have e5b : decide (0 ≤ x.fi) = true := decide_eq_true h5
  have e6a : decide (x.fi ≤ 2147483647) = true := decide_eq_true h6
  have e6b : decide (2147483647 ≥ x.fi) = true := decide_eq_true h6
  have e7a : decide (x.ps ≥ 0) = true := decide_eq_true h7
  have e7b : decide (0 ≤ x.ps) = true := decide_eq_true h7
  have e8a : decide (x.ps ≤ 2147483647) = false := decide_eq_false h8
  have e8b : decide (2147483647 ≥ x.ps) = false := decide_eq_false h8
  clear h0 h1 h2 h3 h4 h5 h6 h7 h8
  obtain ⟨fc, hfc⟩ : ∃ c, c = x.C := ⟨_, rfl⟩
  rw [← hfc]
  have HFC := hide hfc
  obtain ⟨sc, hsc⟩ : ∃ c, c = u8s x.bd := ⟨_, rfl⟩
  have HSC := hide hsc
  clear hfc hsc
  go_enter Try.func47, Try.ntmps47
  go_wp2_with (
    first
    | (refine wpBoxV rfl (.tmp 0) rfl fc rfl ?_
       intro W1 g e1 B1 K1
       have HK := hide K1
       rw [unhide HFC] at B1
       have c0 : W1.cell? ⟨g, 0, none⟩ = some (.int .i64 x.pg) := fits_cell B1 0 _ rfl
       have c1 : W1.cell? ⟨g, 1, none⟩ = some (.int .i64 x.md) := fits_cell B1 1 _ rfl
       have c2 : W1.cell? ⟨g, 2, none⟩ = some (.int .i64 x.op) := fits_cell B1 2 _ rfl
       have c3 : W1.cell? ⟨g, 3, none⟩ = some (.int .i64 x.fi) := fits_cell B1 3 _ rfl
       have c4 : W1.cell? ⟨g, 4, none⟩ = some (.int .i64 x.ps) := fits_cell B1 4 _ rfl
       have HR : Hid (W1.rangeAt g 5 sc) := by rw [unhide HSC]; exact Blk.body B1
       clear e1 B1 K1
       refine Stp.go ?_))
  constructor
  go_wp2_with fail
  go_ret
  exact ⟨rfl, unhide HK⟩
theorem may_1_6 (x : Fr) (w : World) (h0 : ¬ (x.pg < 0)) (h1 : ¬ (x.pg ≥ 16)) (h2 : (x.md = 1)) (h3 : (x.op ≥ 0)) (h4 : (x.op ≤ 4611686018427387904)) (h5 : (x.fi ≥ 0)) (h6 : (x.fi ≤ 2147483647)) (h7 : (x.ps ≥ 0)) (h8 : (x.ps ≤ 2147483647)) (h9 : (x.ps > 0)) : Calls Try.prog 47 #[aggV x.C] w fun e w' => e = .returned (.bool true) ∧ Kept [] w w' := by
  have e0a : decide (x.pg < 0) = false := decide_eq_false h0
  have e0b : decide (0 > x.pg) = false := decide_eq_false h0
  have e1a : decide (x.pg ≥ 16) = false := decide_eq_false h1
  have e1b : decide (16 ≤ x.pg) = false := decide_eq_false h1
  have e2a := eqt_a h2
  have e2b := eqt_b h2
  have e2c := eqt_c h2
  have e3a : decide (x.op ≥ 0) = true := decide_eq_true h3
  have e3b : decide (0 ≤ x.op) = true := decide_eq_true h3
  have e4a : decide (x.op ≤ 4611686018427387904) = true := decide_eq_true h4
  have e4b : decide (4611686018427387904 ≥ x.op) = true := decide_eq_true h4
  have e5a : decide (x.fi ≥ 0) = true := decide_eq_true h5
  have e5b : decide (0 ≤ x.fi) = true := decide_eq_true h5
  have e6a : decide (x.fi ≤ 2147483647) = true := decide_eq_true h6
  have e6b : decide (2147483647 ≥ x.fi) = true := decide_eq_true h6
  have e7a : decide (x.ps ≥ 0) = true := decide_eq_true h7
  have e7b : decide (0 ≤ x.ps) = true := decide_eq_true h7
  have e8a : decide (x.ps ≤ 2147483647) = true := decide_eq_true h8
  have e8b : decide (2147483647 ≥ x.ps) = true := decide_eq_true h8
  have e9a : decide (x.ps > 0) = true := decide_eq_true h9
  have e9b : decide (0 < x.ps) = true := decide_eq_true h9
  clear h0 h1 h2 h3 h4 h5 h6 h7 h8 h9
  obtain ⟨fc, hfc⟩ : ∃ c, c = x.C := ⟨_, rfl⟩
  rw [← hfc]
  have HFC := hide hfc
  obtain ⟨sc, hsc⟩ : ∃ c, c = u8s x.bd := ⟨_, rfl⟩
  have HSC := hide hsc
  clear hfc hsc
  go_enter Try.func47, Try.ntmps47
  go_wp2_with (
    first
    | (refine wpBoxV rfl (.tmp 0) rfl fc rfl ?_
       intro W1 g e1 B1 K1
       have HK := hide K1
       rw [unhide HFC] at B1
       have c0 : W1.cell? ⟨g, 0, none⟩ = some (.int .i64 x.pg) := fits_cell B1 0 _ rfl
       have c1 : W1.cell? ⟨g, 1, none⟩ = some (.int .i64 x.md) := fits_cell B1 1 _ rfl
       have c2 : W1.cell? ⟨g, 2, none⟩ = some (.int .i64 x.op) := fits_cell B1 2 _ rfl
       have c3 : W1.cell? ⟨g, 3, none⟩ = some (.int .i64 x.fi) := fits_cell B1 3 _ rfl
       have c4 : W1.cell? ⟨g, 4, none⟩ = some (.int .i64 x.ps) := fits_cell B1 4 _ rfl
       have HR : Hid (W1.rangeAt g 5 sc) := by rw [unhide HSC]; exact Blk.body B1
       clear e1 B1 K1
       refine Stp.go ?_))
  constructor
  go_wp2_with fail
  go_ret
  exact ⟨rfl, unhide HK⟩
theorem may_1_7 (x : Fr) (w : World) (h0 : ¬ (x.pg < 0)) (h1 : ¬ (x.pg ≥ 16)) (h2 : (x.md = 1)) (h3 : (x.op ≥ 0)) (h4 : (x.op ≤ 4611686018427387904)) (h5 : (x.fi ≥ 0)) (h6 : (x.fi ≤ 2147483647)) (h7 : (x.ps ≥ 0)) (h8 : (x.ps ≤ 2147483647)) (h9 : ¬ (x.ps > 0)) : Calls Try.prog 47 #[aggV x.C] w fun e w' => e = .returned (.bool (decide (x.bd = zb))) ∧ Kept [] w w' := by
  have e0a : decide (x.pg < 0) = false := decide_eq_false h0
  have e0b : decide (0 > x.pg) = false := decide_eq_false h0
  have e1a : decide (x.pg ≥ 16) = false := decide_eq_false h1
  have e1b : decide (16 ≤ x.pg) = false := decide_eq_false h1
  have e2a := eqt_a h2
  have e2b := eqt_b h2
  have e2c := eqt_c h2
  have e3a : decide (x.op ≥ 0) = true := decide_eq_true h3
  have e3b : decide (0 ≤ x.op) = true := decide_eq_true h3
  have e4a : decide (x.op ≤ 4611686018427387904) = true := decide_eq_true h4
  have e4b : decide (4611686018427387904 ≥ x.op) = true := decide_eq_true h4
  have e5a : decide (x.fi ≥ 0) = true := decide_eq_true h5
  have e5b : decide (0 ≤ x.fi) = true := decide_eq_true h5
  have e6a : decide (x.fi ≤ 2147483647) = true := decide_eq_true h6
  have e6b : decide (2147483647 ≥ x.fi) = true := decide_eq_true h6
  have e7a : decide (x.ps ≥ 0) = true := decide_eq_true h7
  have e7b : decide (0 ≤ x.ps) = true := decide_eq_true h7
  have e8a : decide (x.ps ≤ 2147483647) = true := decide_eq_true h8
  have e8b : decide (2147483647 ≥ x.ps) = true := decide_eq_true h8
  have e9a : decide (x.ps > 0) = false := decide_eq_false h9
  have e9b : decide (0 < x.ps) = false := decide_eq_false h9
  clear h0 h1 h2 h3 h4 h5 h6 h7 h8 h9
  obtain ⟨fc, hfc⟩ : ∃ c, c = x.C := ⟨_, rfl⟩
  rw [← hfc]
  have HFC := hide hfc
  obtain ⟨sc, hsc⟩ : ∃ c, c = u8s x.bd := ⟨_, rfl⟩
  have HSC := hide hsc
  obtain ⟨zc, hzc⟩ : ∃ c, c = u8s zb := ⟨_, rfl⟩
  have HB35 : Hid (∀ w : World, (Instr.build 35 #[]).run Try.prog w = .ok (aggV zc) w) := fun w => by rw [hzc]; exact build35 w
  have HLS : Hid (sc.length = 96) := by show _ = _; rw [hsc, u8s_len, x.hb]
  have HEQ : Hid (∀ W, (Op.equal 35 (aggV sc) (aggV zc)).run Try.prog W = .ok (decide (x.bd = zb)) W) := fun W => by rw [hsc, hzc]; exact equal35 W x.bd zb x.hb (by simp [zb])
  clear hzc
  clear hfc hsc
  go_enter Try.func47, Try.ntmps47
  go_wp2_with (
    first
    | (refine wpBoxV rfl (.tmp 0) rfl fc rfl ?_
       intro W1 g e1 B1 K1
       have HK := hide K1
       rw [unhide HFC] at B1
       have c0 : W1.cell? ⟨g, 0, none⟩ = some (.int .i64 x.pg) := fits_cell B1 0 _ rfl
       have c1 : W1.cell? ⟨g, 1, none⟩ = some (.int .i64 x.md) := fits_cell B1 1 _ rfl
       have c2 : W1.cell? ⟨g, 2, none⟩ = some (.int .i64 x.op) := fits_cell B1 2 _ rfl
       have c3 : W1.cell? ⟨g, 3, none⟩ = some (.int .i64 x.fi) := fits_cell B1 3 _ rfl
       have c4 : W1.cell? ⟨g, 4, none⟩ = some (.int .i64 x.ps) := fits_cell B1 4 _ rfl
       have HR : Hid (W1.rangeAt g 5 sc) := by rw [unhide HSC]; exact Blk.body B1
       clear e1 B1 K1
       refine Stp.go ?_))
  constructor
  go_wp2_with (
    first
    | (refine wpLoadG row35 (.tmp 58) rfl (by rfl) g 5 rfl sc (unhide HLS) (unhide HR) ?_
       refine Stp.go ?_))
  constructor
  go_wp2_with (
    first
    | (refine wpBuildW zc (unhide HB35) (by rfl) rfl ?_
       refine Stp.go ?_))
  constructor
  go_wp2_with (
    first
    | (refine wpEq35 (by rfl) (.tmp 59) (.tmp 60) rfl sc zc _ rfl rfl (unhide HEQ _) ?_
       refine Stp.go ?_))
  constructor
  go_wp2_with fail
  go_ret
  exact ⟨rfl, unhide HK⟩
theorem may_2_0 (x : Fr) (w : World) (h0 : ¬ (x.pg < 0)) (h1 : ¬ (x.pg ≥ 16)) (h2 : ¬ (x.md = 1)) (h3 : (x.md = 2)) (h4 : ¬ (x.op ≥ 0)) : Calls Try.prog 47 #[aggV x.C] w fun e w' => e = .returned (.bool false) ∧ Kept [] w w' := by
  have e0a : decide (x.pg < 0) = false := decide_eq_false h0
  have e0b : decide (0 > x.pg) = false := decide_eq_false h0
  have e1a : decide (x.pg ≥ 16) = false := decide_eq_false h1
  have e1b : decide (16 ≤ x.pg) = false := decide_eq_false h1
  have e2a := nef_a h2
  have e2b := nef_b h2
  have e2c := nef_c h2
  have e3a := eqt_a h3
  have e3b := eqt_b h3
  have e3c := eqt_c h3
  have e4a : decide (x.op ≥ 0) = false := decide_eq_false h4
  have e4b : decide (0 ≤ x.op) = false := decide_eq_false h4
  clear h0 h1 h2 h3 h4
  obtain ⟨fc, hfc⟩ : ∃ c, c = x.C := ⟨_, rfl⟩
  rw [← hfc]
  have HFC := hide hfc
  obtain ⟨sc, hsc⟩ : ∃ c, c = u8s x.bd := ⟨_, rfl⟩
  have HSC := hide hsc
  clear hfc hsc
  go_enter Try.func47, Try.ntmps47
  go_wp2_with (
    first
    | (refine wpBoxV rfl (.tmp 0) rfl fc rfl ?_
       intro W1 g e1 B1 K1
       have HK := hide K1
       rw [unhide HFC] at B1
       have c0 : W1.cell? ⟨g, 0, none⟩ = some (.int .i64 x.pg) := fits_cell B1 0 _ rfl
       have c1 : W1.cell? ⟨g, 1, none⟩ = some (.int .i64 x.md) := fits_cell B1 1 _ rfl
       have c2 : W1.cell? ⟨g, 2, none⟩ = some (.int .i64 x.op) := fits_cell B1 2 _ rfl
       have c3 : W1.cell? ⟨g, 3, none⟩ = some (.int .i64 x.fi) := fits_cell B1 3 _ rfl
       have c4 : W1.cell? ⟨g, 4, none⟩ = some (.int .i64 x.ps) := fits_cell B1 4 _ rfl
       have HR : Hid (W1.rangeAt g 5 sc) := by rw [unhide HSC]; exact Blk.body B1
       clear e1 B1 K1
       refine Stp.go ?_))
  constructor
  go_wp2_with fail
  go_ret
  exact ⟨rfl, unhide HK⟩
theorem may_2_1 (x : Fr) (w : World) (h0 : ¬ (x.pg < 0)) (h1 : ¬ (x.pg ≥ 16)) (h2 : ¬ (x.md = 1)) (h3 : (x.md = 2)) (h4 : (x.op ≥ 0)) (h5 : ¬ (x.op ≤ 4611686018427387904)) : Calls Try.prog 47 #[aggV x.C] w fun e w' => e = .returned (.bool false) ∧ Kept [] w w' := by
  have e0a : decide (x.pg < 0) = false := decide_eq_false h0
  have e0b : decide (0 > x.pg) = false := decide_eq_false h0
  have e1a : decide (x.pg ≥ 16) = false := decide_eq_false h1
  have e1b : decide (16 ≤ x.pg) = false := decide_eq_false h1
  have e2a := nef_a h2
  have e2b := nef_b h2
  have e2c := nef_c h2
  have e3a := eqt_a h3
  have e3b := eqt_b h3
  have e3c := eqt_c h3
  have e4a : decide (x.op ≥ 0) = true := decide_eq_true h4
  have e4b : decide (0 ≤ x.op) = true := decide_eq_true h4
  have e5a : decide (x.op ≤ 4611686018427387904) = false := decide_eq_false h5
  have e5b : decide (4611686018427387904 ≥ x.op) = false := decide_eq_false h5
  clear h0 h1 h2 h3 h4 h5
  obtain ⟨fc, hfc⟩ : ∃ c, c = x.C := ⟨_, rfl⟩
  rw [← hfc]
  have HFC := hide hfc
  obtain ⟨sc, hsc⟩ : ∃ c, c = u8s x.bd := ⟨_, rfl⟩
  have HSC := hide hsc
  clear hfc hsc
  go_enter Try.func47, Try.ntmps47
  go_wp2_with (
    first
    | (refine wpBoxV rfl (.tmp 0) rfl fc rfl ?_
       intro W1 g e1 B1 K1
       have HK := hide K1
       rw [unhide HFC] at B1
       have c0 : W1.cell? ⟨g, 0, none⟩ = some (.int .i64 x.pg) := fits_cell B1 0 _ rfl
       have c1 : W1.cell? ⟨g, 1, none⟩ = some (.int .i64 x.md) := fits_cell B1 1 _ rfl
       have c2 : W1.cell? ⟨g, 2, none⟩ = some (.int .i64 x.op) := fits_cell B1 2 _ rfl
       have c3 : W1.cell? ⟨g, 3, none⟩ = some (.int .i64 x.fi) := fits_cell B1 3 _ rfl
       have c4 : W1.cell? ⟨g, 4, none⟩ = some (.int .i64 x.ps) := fits_cell B1 4 _ rfl
       have HR : Hid (W1.rangeAt g 5 sc) := by rw [unhide HSC]; exact Blk.body B1
       clear e1 B1 K1
       refine Stp.go ?_))
  constructor
  go_wp2_with fail
  go_ret
  exact ⟨rfl, unhide HK⟩
theorem may_2_2 (x : Fr) (w : World) (h0 : ¬ (x.pg < 0)) (h1 : ¬ (x.pg ≥ 16)) (h2 : ¬ (x.md = 1)) (h3 : (x.md = 2)) (h4 : (x.op ≥ 0)) (h5 : (x.op ≤ 4611686018427387904)) (h6 : ¬ (x.fi ≥ 0)) : Calls Try.prog 47 #[aggV x.C] w fun e w' => e = .returned (.bool false) ∧ Kept [] w w' := by
  have e0a : decide (x.pg < 0) = false := decide_eq_false h0
  have e0b : decide (0 > x.pg) = false := decide_eq_false h0
  have e1a : decide (x.pg ≥ 16) = false := decide_eq_false h1
  have e1b : decide (16 ≤ x.pg) = false := decide_eq_false h1
  have e2a := nef_a h2
  have e2b := nef_b h2
  have e2c := nef_c h2
  have e3a := eqt_a h3
  have e3b := eqt_b h3
  have e3c := eqt_c h3
  have e4a : decide (x.op ≥ 0) = true := decide_eq_true h4
  have e4b : decide (0 ≤ x.op) = true := decide_eq_true h4
  have e5a : decide (x.op ≤ 4611686018427387904) = true := decide_eq_true h5
  have e5b : decide (4611686018427387904 ≥ x.op) = true := decide_eq_true h5
  have e6a : decide (x.fi ≥ 0) = false := decide_eq_false h6
  have e6b : decide (0 ≤ x.fi) = false := decide_eq_false h6
  clear h0 h1 h2 h3 h4 h5 h6
  obtain ⟨fc, hfc⟩ : ∃ c, c = x.C := ⟨_, rfl⟩
  rw [← hfc]
  have HFC := hide hfc
  obtain ⟨sc, hsc⟩ : ∃ c, c = u8s x.bd := ⟨_, rfl⟩
  have HSC := hide hsc
  clear hfc hsc
  go_enter Try.func47, Try.ntmps47
  go_wp2_with (
    first
    | (refine wpBoxV rfl (.tmp 0) rfl fc rfl ?_
       intro W1 g e1 B1 K1
       have HK := hide K1
       rw [unhide HFC] at B1
       have c0 : W1.cell? ⟨g, 0, none⟩ = some (.int .i64 x.pg) := fits_cell B1 0 _ rfl
       have c1 : W1.cell? ⟨g, 1, none⟩ = some (.int .i64 x.md) := fits_cell B1 1 _ rfl
       have c2 : W1.cell? ⟨g, 2, none⟩ = some (.int .i64 x.op) := fits_cell B1 2 _ rfl
       have c3 : W1.cell? ⟨g, 3, none⟩ = some (.int .i64 x.fi) := fits_cell B1 3 _ rfl
       have c4 : W1.cell? ⟨g, 4, none⟩ = some (.int .i64 x.ps) := fits_cell B1 4 _ rfl
       have HR : Hid (W1.rangeAt g 5 sc) := by rw [unhide HSC]; exact Blk.body B1
       clear e1 B1 K1
       refine Stp.go ?_))
  constructor
  go_wp2_with fail
  go_ret
  exact ⟨rfl, unhide HK⟩
theorem may_2_3 (x : Fr) (w : World) (h0 : ¬ (x.pg < 0)) (h1 : ¬ (x.pg ≥ 16)) (h2 : ¬ (x.md = 1)) (h3 : (x.md = 2)) (h4 : (x.op ≥ 0)) (h5 : (x.op ≤ 4611686018427387904)) (h6 : (x.fi ≥ 0)) (h7 : ¬ (x.fi ≤ 2147483647)) : Calls Try.prog 47 #[aggV x.C] w fun e w' => e = .returned (.bool false) ∧ Kept [] w w' := by
  have e0a : decide (x.pg < 0) = false := decide_eq_false h0
  have e0b : decide (0 > x.pg) = false := decide_eq_false h0
  have e1a : decide (x.pg ≥ 16) = false := decide_eq_false h1
  have e1b : decide (16 ≤ x.pg) = false := decide_eq_false h1
  have e2a := nef_a h2
  have e2b := nef_b h2
  have e2c := nef_c h2
  have e3a := eqt_a h3
  have e3b := eqt_b h3
  have e3c := eqt_c h3
  have e4a : decide (x.op ≥ 0) = true := decide_eq_true h4
  have e4b : decide (0 ≤ x.op) = true := decide_eq_true h4
  have e5a : decide (x.op ≤ 4611686018427387904) = true := decide_eq_true h5
  have e5b : decide (4611686018427387904 ≥ x.op) = true := decide_eq_true h5
  have e6a : decide (x.fi ≥ 0) = true := decide_eq_true h6
  have e6b : decide (0 ≤ x.fi) = true := decide_eq_true h6
  have e7a : decide (x.fi ≤ 2147483647) = false := decide_eq_false h7
  have e7b : decide (2147483647 ≥ x.fi) = false := decide_eq_false h7
  clear h0 h1 h2 h3 h4 h5 h6 h7
  obtain ⟨fc, hfc⟩ : ∃ c, c = x.C := ⟨_, rfl⟩
  rw [← hfc]
  have HFC := hide hfc
  obtain ⟨sc, hsc⟩ : ∃ c, c = u8s x.bd := ⟨_, rfl⟩
  have HSC := hide hsc
  clear hfc hsc
  go_enter Try.func47, Try.ntmps47
  go_wp2_with (
    first
    | (refine wpBoxV rfl (.tmp 0) rfl fc rfl ?_
       intro W1 g e1 B1 K1
       have HK := hide K1
       rw [unhide HFC] at B1
       have c0 : W1.cell? ⟨g, 0, none⟩ = some (.int .i64 x.pg) := fits_cell B1 0 _ rfl
       have c1 : W1.cell? ⟨g, 1, none⟩ = some (.int .i64 x.md) := fits_cell B1 1 _ rfl
       have c2 : W1.cell? ⟨g, 2, none⟩ = some (.int .i64 x.op) := fits_cell B1 2 _ rfl
       have c3 : W1.cell? ⟨g, 3, none⟩ = some (.int .i64 x.fi) := fits_cell B1 3 _ rfl
       have c4 : W1.cell? ⟨g, 4, none⟩ = some (.int .i64 x.ps) := fits_cell B1 4 _ rfl
       have HR : Hid (W1.rangeAt g 5 sc) := by rw [unhide HSC]; exact Blk.body B1
       clear e1 B1 K1
       refine Stp.go ?_))
  constructor
  go_wp2_with fail
  go_ret
  exact ⟨rfl, unhide HK⟩
theorem may_2_4 (x : Fr) (w : World) (h0 : ¬ (x.pg < 0)) (h1 : ¬ (x.pg ≥ 16)) (h2 : ¬ (x.md = 1)) (h3 : (x.md = 2)) (h4 : (x.op ≥ 0)) (h5 : (x.op ≤ 4611686018427387904)) (h6 : (x.fi ≥ 0)) (h7 : (x.fi ≤ 2147483647)) (h8 : ¬ (x.ps ≥ 0)) : Calls Try.prog 47 #[aggV x.C] w fun e w' => e = .returned (.bool false) ∧ Kept [] w w' := by
  have e0a : decide (x.pg < 0) = false := decide_eq_false h0
  have e0b : decide (0 > x.pg) = false := decide_eq_false h0
  have e1a : decide (x.pg ≥ 16) = false := decide_eq_false h1
  have e1b : decide (16 ≤ x.pg) = false := decide_eq_false h1
  have e2a := nef_a h2
  have e2b := nef_b h2
  have e2c := nef_c h2
  have e3a := eqt_a h3
  have e3b := eqt_b h3
  have e3c := eqt_c h3
  have e4a : decide (x.op ≥ 0) = true := decide_eq_true h4
  have e4b : decide (0 ≤ x.op) = true := decide_eq_true h4
  have e5a : decide (x.op ≤ 4611686018427387904) = true := decide_eq_true h5
  have e5b : decide (4611686018427387904 ≥ x.op) = true := decide_eq_true h5
  have e6a : decide (x.fi ≥ 0) = true := decide_eq_true h6
  have e6b : decide (0 ≤ x.fi) = true := decide_eq_true h6
  have e7a : decide (x.fi ≤ 2147483647) = true := decide_eq_true h7
  have e7b : decide (2147483647 ≥ x.fi) = true := decide_eq_true h7
  have e8a : decide (x.ps ≥ 0) = false := decide_eq_false h8
  have e8b : decide (0 ≤ x.ps) = false := decide_eq_false h8
  clear h0 h1 h2 h3 h4 h5 h6 h7 h8
  obtain ⟨fc, hfc⟩ : ∃ c, c = x.C := ⟨_, rfl⟩
  rw [← hfc]
  have HFC := hide hfc
  obtain ⟨sc, hsc⟩ : ∃ c, c = u8s x.bd := ⟨_, rfl⟩
  have HSC := hide hsc
  clear hfc hsc
  go_enter Try.func47, Try.ntmps47
  go_wp2_with (
    first
    | (refine wpBoxV rfl (.tmp 0) rfl fc rfl ?_
       intro W1 g e1 B1 K1
       have HK := hide K1
       rw [unhide HFC] at B1
       have c0 : W1.cell? ⟨g, 0, none⟩ = some (.int .i64 x.pg) := fits_cell B1 0 _ rfl
       have c1 : W1.cell? ⟨g, 1, none⟩ = some (.int .i64 x.md) := fits_cell B1 1 _ rfl
       have c2 : W1.cell? ⟨g, 2, none⟩ = some (.int .i64 x.op) := fits_cell B1 2 _ rfl
       have c3 : W1.cell? ⟨g, 3, none⟩ = some (.int .i64 x.fi) := fits_cell B1 3 _ rfl
       have c4 : W1.cell? ⟨g, 4, none⟩ = some (.int .i64 x.ps) := fits_cell B1 4 _ rfl
       have HR : Hid (W1.rangeAt g 5 sc) := by rw [unhide HSC]; exact Blk.body B1
       clear e1 B1 K1
       refine Stp.go ?_))
  constructor
  go_wp2_with fail
  go_ret
  exact ⟨rfl, unhide HK⟩
theorem may_2_5 (x : Fr) (w : World) (h0 : ¬ (x.pg < 0)) (h1 : ¬ (x.pg ≥ 16)) (h2 : ¬ (x.md = 1)) (h3 : (x.md = 2)) (h4 : (x.op ≥ 0)) (h5 : (x.op ≤ 4611686018427387904)) (h6 : (x.fi ≥ 0)) (h7 : (x.fi ≤ 2147483647)) (h8 : (x.ps ≥ 0)) (h9 : ¬ (x.ps ≤ 2147483647)) : Calls Try.prog 47 #[aggV x.C] w fun e w' => e = .returned (.bool false) ∧ Kept [] w w' := by
  have e0a : decide (x.pg < 0) = false := decide_eq_false h0
  have e0b : decide (0 > x.pg) = false := decide_eq_false h0
  have e1a : decide (x.pg ≥ 16) = false := decide_eq_false h1
  have e1b : decide (16 ≤ x.pg) = false := decide_eq_false h1
  have e2a := nef_a h2
  have e2b := nef_b h2
  have e2c := nef_c h2
  have e3a := eqt_a h3
  have e3b := eqt_b h3
  have e3c := eqt_c h3
  have e4a : decide (x.op ≥ 0) = true := decide_eq_true h4
  have e4b : decide (0 ≤ x.op) = true := decide_eq_true h4
  have e5a : decide (x.op ≤ 4611686018427387904) = true := decide_eq_true h5
  have e5b : decide (4611686018427387904 ≥ x.op) = true := decide_eq_true h5
  have e6a : decide (x.fi ≥ 0) = true := decide_eq_true h6
  have e6b : decide (0 ≤ x.fi) = true := decide_eq_true h6
  have e7a : decide (x.fi ≤ 2147483647) = true := decide_eq_true h7
  have e7b : decide (2147483647 ≥ x.fi) = true := decide_eq_true h7
  have e8a : decide (x.ps ≥ 0) = true := decide_eq_true h8
  have e8b : decide (0 ≤ x.ps) = true := decide_eq_true h8
  have e9a : decide (x.ps ≤ 2147483647) = false := decide_eq_false h9
  have e9b : decide (2147483647 ≥ x.ps) = false := decide_eq_false h9
  clear h0 h1 h2 h3 h4 h5 h6 h7 h8 h9
  obtain ⟨fc, hfc⟩ : ∃ c, c = x.C := ⟨_, rfl⟩
  rw [← hfc]
  have HFC := hide hfc
  obtain ⟨sc, hsc⟩ : ∃ c, c = u8s x.bd := ⟨_, rfl⟩
  have HSC := hide hsc
  clear hfc hsc
  go_enter Try.func47, Try.ntmps47
  go_wp2_with (
    first
    | (refine wpBoxV rfl (.tmp 0) rfl fc rfl ?_
       intro W1 g e1 B1 K1
       have HK := hide K1
       rw [unhide HFC] at B1
       have c0 : W1.cell? ⟨g, 0, none⟩ = some (.int .i64 x.pg) := fits_cell B1 0 _ rfl
       have c1 : W1.cell? ⟨g, 1, none⟩ = some (.int .i64 x.md) := fits_cell B1 1 _ rfl
       have c2 : W1.cell? ⟨g, 2, none⟩ = some (.int .i64 x.op) := fits_cell B1 2 _ rfl
       have c3 : W1.cell? ⟨g, 3, none⟩ = some (.int .i64 x.fi) := fits_cell B1 3 _ rfl
       have c4 : W1.cell? ⟨g, 4, none⟩ = some (.int .i64 x.ps) := fits_cell B1 4 _ rfl
       have HR : Hid (W1.rangeAt g 5 sc) := by rw [unhide HSC]; exact Blk.body B1
       clear e1 B1 K1
       refine Stp.go ?_))
  constructor
  go_wp2_with fail
  go_ret
  exact ⟨rfl, unhide HK⟩
theorem may_2_6 (x : Fr) (w : World) (h0 : ¬ (x.pg < 0)) (h1 : ¬ (x.pg ≥ 16)) (h2 : ¬ (x.md = 1)) (h3 : (x.md = 2)) (h4 : (x.op ≥ 0)) (h5 : (x.op ≤ 4611686018427387904)) (h6 : (x.fi ≥ 0)) (h7 : (x.fi ≤ 2147483647)) (h8 : (x.ps ≥ 0)) (h9 : (x.ps ≤ 2147483647)) (h10 : (x.ps > 0)) : Calls Try.prog 47 #[aggV x.C] w fun e w' => e = .returned (.bool true) ∧ Kept [] w w' := by
  have e0a : decide (x.pg < 0) = false := decide_eq_false h0
  have e0b : decide (0 > x.pg) = false := decide_eq_false h0
  have e1a : decide (x.pg ≥ 16) = false := decide_eq_false h1
  have e1b : decide (16 ≤ x.pg) = false := decide_eq_false h1
  have e2a := nef_a h2
  have e2b := nef_b h2
  have e2c := nef_c h2
  have e3a := eqt_a h3
  have e3b := eqt_b h3
  have e3c := eqt_c h3
  have e4a : decide (x.op ≥ 0) = true := decide_eq_true h4
  have e4b : decide (0 ≤ x.op) = true := decide_eq_true h4
  have e5a : decide (x.op ≤ 4611686018427387904) = true := decide_eq_true h5
  have e5b : decide (4611686018427387904 ≥ x.op) = true := decide_eq_true h5
  have e6a : decide (x.fi ≥ 0) = true := decide_eq_true h6
  have e6b : decide (0 ≤ x.fi) = true := decide_eq_true h6
  have e7a : decide (x.fi ≤ 2147483647) = true := decide_eq_true h7
  have e7b : decide (2147483647 ≥ x.fi) = true := decide_eq_true h7
  have e8a : decide (x.ps ≥ 0) = true := decide_eq_true h8
  have e8b : decide (0 ≤ x.ps) = true := decide_eq_true h8
  have e9a : decide (x.ps ≤ 2147483647) = true := decide_eq_true h9
  have e9b : decide (2147483647 ≥ x.ps) = true := decide_eq_true h9
  have e10a : decide (x.ps > 0) = true := decide_eq_true h10
  have e10b : decide (0 < x.ps) = true := decide_eq_true h10
  clear h0 h1 h2 h3 h4 h5 h6 h7 h8 h9 h10
  obtain ⟨fc, hfc⟩ : ∃ c, c = x.C := ⟨_, rfl⟩
  rw [← hfc]
  have HFC := hide hfc
  obtain ⟨sc, hsc⟩ : ∃ c, c = u8s x.bd := ⟨_, rfl⟩
  have HSC := hide hsc
  clear hfc hsc
  go_enter Try.func47, Try.ntmps47
  go_wp2_with (
    first
    | (refine wpBoxV rfl (.tmp 0) rfl fc rfl ?_
       intro W1 g e1 B1 K1
       have HK := hide K1
       rw [unhide HFC] at B1
       have c0 : W1.cell? ⟨g, 0, none⟩ = some (.int .i64 x.pg) := fits_cell B1 0 _ rfl
       have c1 : W1.cell? ⟨g, 1, none⟩ = some (.int .i64 x.md) := fits_cell B1 1 _ rfl
       have c2 : W1.cell? ⟨g, 2, none⟩ = some (.int .i64 x.op) := fits_cell B1 2 _ rfl
       have c3 : W1.cell? ⟨g, 3, none⟩ = some (.int .i64 x.fi) := fits_cell B1 3 _ rfl
       have c4 : W1.cell? ⟨g, 4, none⟩ = some (.int .i64 x.ps) := fits_cell B1 4 _ rfl
       have HR : Hid (W1.rangeAt g 5 sc) := by rw [unhide HSC]; exact Blk.body B1
       clear e1 B1 K1
       refine Stp.go ?_))
  constructor
  go_wp2_with fail
  go_ret
  exact ⟨rfl, unhide HK⟩
theorem may_2_7 (x : Fr) (w : World) (h0 : ¬ (x.pg < 0)) (h1 : ¬ (x.pg ≥ 16)) (h2 : ¬ (x.md = 1)) (h3 : (x.md = 2)) (h4 : (x.op ≥ 0)) (h5 : (x.op ≤ 4611686018427387904)) (h6 : (x.fi ≥ 0)) (h7 : (x.fi ≤ 2147483647)) (h8 : (x.ps ≥ 0)) (h9 : (x.ps ≤ 2147483647)) (h10 : ¬ (x.ps > 0)) : Calls Try.prog 47 #[aggV x.C] w fun e w' => e = .returned (.bool (decide (x.bd = zb))) ∧ Kept [] w w' := by
  have e0a : decide (x.pg < 0) = false := decide_eq_false h0
  have e0b : decide (0 > x.pg) = false := decide_eq_false h0
  have e1a : decide (x.pg ≥ 16) = false := decide_eq_false h1
  have e1b : decide (16 ≤ x.pg) = false := decide_eq_false h1
  have e2a := nef_a h2
  have e2b := nef_b h2
  have e2c := nef_c h2
  have e3a := eqt_a h3
  have e3b := eqt_b h3
  have e3c := eqt_c h3
  have e4a : decide (x.op ≥ 0) = true := decide_eq_true h4
  have e4b : decide (0 ≤ x.op) = true := decide_eq_true h4
  have e5a : decide (x.op ≤ 4611686018427387904) = true := decide_eq_true h5
  have e5b : decide (4611686018427387904 ≥ x.op) = true := decide_eq_true h5
  have e6a : decide (x.fi ≥ 0) = true := decide_eq_true h6
  have e6b : decide (0 ≤ x.fi) = true := decide_eq_true h6
  have e7a : decide (x.fi ≤ 2147483647) = true := decide_eq_true h7
  have e7b : decide (2147483647 ≥ x.fi) = true := decide_eq_true h7
  have e8a : decide (x.ps ≥ 0) = true := decide_eq_true h8
  have e8b : decide (0 ≤ x.ps) = true := decide_eq_true h8
  have e9a : decide (x.ps ≤ 2147483647) = true := decide_eq_true h9
  have e9b : decide (2147483647 ≥ x.ps) = true := decide_eq_true h9
  have e10a : decide (x.ps > 0) = false := decide_eq_false h10
  have e10b : decide (0 < x.ps) = false := decide_eq_false h10
  clear h0 h1 h2 h3 h4 h5 h6 h7 h8 h9 h10
  obtain ⟨fc, hfc⟩ : ∃ c, c = x.C := ⟨_, rfl⟩
  rw [← hfc]
  have HFC := hide hfc
  obtain ⟨sc, hsc⟩ : ∃ c, c = u8s x.bd := ⟨_, rfl⟩
  have HSC := hide hsc
  obtain ⟨zc, hzc⟩ : ∃ c, c = u8s zb := ⟨_, rfl⟩
  have HB35 : Hid (∀ w : World, (Instr.build 35 #[]).run Try.prog w = .ok (aggV zc) w) := fun w => by rw [hzc]; exact build35 w
  have HLS : Hid (sc.length = 96) := by show _ = _; rw [hsc, u8s_len, x.hb]
  have HEQ : Hid (∀ W, (Op.equal 35 (aggV sc) (aggV zc)).run Try.prog W = .ok (decide (x.bd = zb)) W) := fun W => by rw [hsc, hzc]; exact equal35 W x.bd zb x.hb (by simp [zb])
  clear hzc
  clear hfc hsc
  go_enter Try.func47, Try.ntmps47
  go_wp2_with (
    first
    | (refine wpBoxV rfl (.tmp 0) rfl fc rfl ?_
       intro W1 g e1 B1 K1
       have HK := hide K1
       rw [unhide HFC] at B1
       have c0 : W1.cell? ⟨g, 0, none⟩ = some (.int .i64 x.pg) := fits_cell B1 0 _ rfl
       have c1 : W1.cell? ⟨g, 1, none⟩ = some (.int .i64 x.md) := fits_cell B1 1 _ rfl
       have c2 : W1.cell? ⟨g, 2, none⟩ = some (.int .i64 x.op) := fits_cell B1 2 _ rfl
       have c3 : W1.cell? ⟨g, 3, none⟩ = some (.int .i64 x.fi) := fits_cell B1 3 _ rfl
       have c4 : W1.cell? ⟨g, 4, none⟩ = some (.int .i64 x.ps) := fits_cell B1 4 _ rfl
       have HR : Hid (W1.rangeAt g 5 sc) := by rw [unhide HSC]; exact Blk.body B1
       clear e1 B1 K1
       refine Stp.go ?_))
  constructor
  go_wp2_with (
    first
    | (refine wpLoadG row35 (.tmp 58) rfl (by rfl) g 5 rfl sc (unhide HLS) (unhide HR) ?_
       refine Stp.go ?_))
  constructor
  go_wp2_with (
    first
    | (refine wpBuildW zc (unhide HB35) (by rfl) rfl ?_
       refine Stp.go ?_))
  constructor
  go_wp2_with (
    first
    | (refine wpEq35 (by rfl) (.tmp 59) (.tmp 60) rfl sc zc _ rfl rfl (unhide HEQ _) ?_
       refine Stp.go ?_))
  constructor
  go_wp2_with fail
  go_ret
  exact ⟨rfl, unhide HK⟩
theorem mayF_ge {x : Fr} (h : mayF x = true) : 0 ≤ x.pg ∧ x.pg < 16 ∧ (x.md = 1 ∨ x.md = 2) ∧ 0 ≤ x.op ∧ x.op ≤ 4611686018427387904 ∧ 0 ≤ x.fi ∧ x.fi ≤ 2147483647 ∧ 0 ≤ x.ps ∧ x.ps ≤ 2147483647 ∧ (0 < x.ps ∨ x.bd = zb) := by
  simp [mayF, isMd, isSt, isVr] at h
  obtain ⟨h1, h2, h3, h4, h5, h6, h7, h8⟩ := h
  exact ⟨h1, h2, h3, h4, h5, h6.1, h6.2, h7.1, h7.2, h8⟩
theorem mayF_of {x : Fr} (h1 : 0 ≤ x.pg) (h2 : x.pg < 16) (h3 : x.md = 1 ∨ x.md = 2) (h4 : 0 ≤ x.op) (h5 : x.op ≤ 4611686018427387904) (h6 : 0 ≤ x.fi) (h7 : x.fi ≤ 2147483647) (h8 : 0 ≤ x.ps) (h9 : x.ps ≤ 2147483647) : mayF x = (decide (0 < x.ps) || decide (x.bd = zb)) := by
  simp [mayF, isMd, isSt, isVr, h1, h2, h3, h4, h5, h6, h7, h8, h9]
theorem mayF_no {x : Fr} (h : mayF x = true → False) : mayF x = false := by
  cases e : mayF x with
  | false => rfl
  | true => exact (h e).elim
theorem may47 (x : Fr) (w : World) : Calls Try.prog 47 #[aggV x.C] w fun e w' => e = .returned (.bool (mayF x)) ∧ Kept [] w w' := by
  by_cases a0 : x.pg < 0
  · rw [mayF_no (fun e => by have h9 := mayF_ge e; omega)]; exact may_za x w a0
  by_cases a1 : x.pg ≥ 16
  · rw [mayF_no (fun e => by have h9 := mayF_ge e; omega)]; exact may_zb x w a0 a1
  by_cases a2 : x.md = 1
  · by_cases b0 : ¬ (x.op ≥ 0)
    · rw [mayF_no (fun e => by have h9 := mayF_ge e; omega)]; exact may_1_0 x w a0 a1 a2 b0
    replace b0 := Decidable.not_not.1 b0
    by_cases b1 : ¬ (x.op ≤ 4611686018427387904)
    · rw [mayF_no (fun e => by have h9 := mayF_ge e; omega)]; exact may_1_1 x w a0 a1 a2 b0 b1
    replace b1 := Decidable.not_not.1 b1
    by_cases b2 : ¬ (x.fi ≥ 0)
    · rw [mayF_no (fun e => by have h9 := mayF_ge e; omega)]; exact may_1_2 x w a0 a1 a2 b0 b1 b2
    replace b2 := Decidable.not_not.1 b2
    by_cases b3 : ¬ (x.fi ≤ 2147483647)
    · rw [mayF_no (fun e => by have h9 := mayF_ge e; omega)]; exact may_1_3 x w a0 a1 a2 b0 b1 b2 b3
    replace b3 := Decidable.not_not.1 b3
    by_cases b4 : ¬ (x.ps ≥ 0)
    · rw [mayF_no (fun e => by have h9 := mayF_ge e; omega)]; exact may_1_4 x w a0 a1 a2 b0 b1 b2 b3 b4
    replace b4 := Decidable.not_not.1 b4
    by_cases b5 : ¬ (x.ps ≤ 2147483647)
    · rw [mayF_no (fun e => by have h9 := mayF_ge e; omega)]; exact may_1_5 x w a0 a1 a2 b0 b1 b2 b3 b4 b5
    replace b5 := Decidable.not_not.1 b5
    rw [mayF_of (by omega) (by omega) (by omega) (by omega) (by omega) (by omega) (by omega) (by omega) (by omega)]
    by_cases b6 : x.ps > 0
    · rw [show decide (0 < x.ps) = true from decide_eq_true b6, Bool.true_or]; exact may_1_6 x w a0 a1 a2 b0 b1 b2 b3 b4 b5 b6
    · rw [show decide (0 < x.ps) = false from decide_eq_false b6, Bool.false_or]; exact may_1_7 x w a0 a1 a2 b0 b1 b2 b3 b4 b5 b6
  by_cases a3 : x.md = 2
  · by_cases b0 : ¬ (x.op ≥ 0)
    · rw [mayF_no (fun e => by have h9 := mayF_ge e; omega)]; exact may_2_0 x w a0 a1 a2 a3 b0
    replace b0 := Decidable.not_not.1 b0
    by_cases b1 : ¬ (x.op ≤ 4611686018427387904)
    · rw [mayF_no (fun e => by have h9 := mayF_ge e; omega)]; exact may_2_1 x w a0 a1 a2 a3 b0 b1
    replace b1 := Decidable.not_not.1 b1
    by_cases b2 : ¬ (x.fi ≥ 0)
    · rw [mayF_no (fun e => by have h9 := mayF_ge e; omega)]; exact may_2_2 x w a0 a1 a2 a3 b0 b1 b2
    replace b2 := Decidable.not_not.1 b2
    by_cases b3 : ¬ (x.fi ≤ 2147483647)
    · rw [mayF_no (fun e => by have h9 := mayF_ge e; omega)]; exact may_2_3 x w a0 a1 a2 a3 b0 b1 b2 b3
    replace b3 := Decidable.not_not.1 b3
    by_cases b4 : ¬ (x.ps ≥ 0)
    · rw [mayF_no (fun e => by have h9 := mayF_ge e; omega)]; exact may_2_4 x w a0 a1 a2 a3 b0 b1 b2 b3 b4
    replace b4 := Decidable.not_not.1 b4
    by_cases b5 : ¬ (x.ps ≤ 2147483647)
    · rw [mayF_no (fun e => by have h9 := mayF_ge e; omega)]; exact may_2_5 x w a0 a1 a2 a3 b0 b1 b2 b3 b4 b5
    replace b5 := Decidable.not_not.1 b5
    rw [mayF_of (by omega) (by omega) (by omega) (by omega) (by omega) (by omega) (by omega) (by omega) (by omega)]
    by_cases b6 : x.ps > 0
    · rw [show decide (0 < x.ps) = true from decide_eq_true b6, Bool.true_or]; exact may_2_6 x w a0 a1 a2 a3 b0 b1 b2 b3 b4 b5 b6
    · rw [show decide (0 < x.ps) = false from decide_eq_false b6, Bool.false_or]; exact may_2_7 x w a0 a1 a2 a3 b0 b1 b2 b3 b4 b5 b6
  rw [mayF_no (fun e => by have h9 := mayF_ge e; omega)]; exact may_zc x w a0 a1 a2 a3

end Go.Proofs.Ytgnafbohikbpfaa
