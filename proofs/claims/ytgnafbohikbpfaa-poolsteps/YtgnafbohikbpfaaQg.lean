/-
  Which frames may be.
-/
import Derived.Test.YtgnafbohikbpfaaQf
namespace Go.Proofs.Ytgnafbohikbpfaa
set_option maxRecDepth 100000
set_option linter.unusedSimpArgs false
open Go.RowKit

theorem nef_a {x c : Int} (h : ¬ x = c) : decide (x = c) = false := decide_eq_false h
theorem nef_b {x c : Int} (h : ¬ x = c) : (x == c) = false := by simpa using h
theorem nef_c {x c : Int} (h : ¬ x = c) : (x != c) = true := by simpa using h
theorem eqt_a {x c : Int} (h : x = c) : decide (x = c) = true := decide_eq_true h
theorem eqt_b {x c : Int} (h : x = c) : (x == c) = true := by simpa using h
theorem eqt_c {x c : Int} (h : x = c) : (x != c) = false := by simpa using h

variable {w W W' : World}
theorem num9 (n : Int) (w : World) : Calls Try.prog 9 #[.int .i64 n] w fun e w' => e = .returned (.int .i64 n) ∧ w' = w := by
  go_enter Try.func9, Try.ntmps9
  go_wp2_with fail
  go_ret
  exact ⟨rfl, rfl⟩
def isMd (m : Int) : Bool := decide (m = 1) || decide (m = 2)
theorem isMode51 (m : Int) (w : World) : Calls Try.prog 51 #[.int .i64 m] w fun e w' => e = .returned (.bool (isMd m)) ∧ w' = w := by
  unfold isMd
  by_cases h1 : m = 1
  · subst h1
    go_enter Try.func51, Try.ntmps51
    go_wp2_with fail
    go_ret
    exact ⟨rfl, rfl⟩
  · by_cases h2 : m = 2
    · subst h2
      go_enter Try.func51, Try.ntmps51
      go_wp2_with fail
      go_ret
      exact ⟨rfl, rfl⟩
    · rw [decide_eq_false h1, decide_eq_false h2]
      have a1 := nef_a h1
      have a2 := nef_b h1
      have b1 := nef_a h2
      have b2 := nef_b h2
      clear h1 h2
      go_enter Try.func51, Try.ntmps51
      go_wp2_with fail
      go_ret
      exact ⟨rfl, rfl⟩
def isSt (n : Int) : Bool := decide (0 ≤ n) && decide (n ≤ 2147483647)
theorem isStamp52 (n : Int) (w : World) : Calls Try.prog 52 #[.int .i64 n] w fun e w' => e = .returned (.bool (isSt n)) ∧ w' = w := by
  unfold isSt
  cases h1 : decide (0 ≤ n) with
  | false =>
    have a1 : decide (n ≥ 0) = false := h1
    go_enter Try.func52, Try.ntmps52
    go_wp2_with fail
    go_ret
    exact ⟨rfl, rfl⟩
  | true =>
    have a1 : decide (n ≥ 0) = true := h1
    cases h2 : decide (n ≤ 2147483647) with
    | false =>
      go_enter Try.func52, Try.ntmps52
      go_wp2_with fail
      go_ret
      exact ⟨rfl, rfl⟩
    | true =>
      go_enter Try.func52, Try.ntmps52
      go_wp2_with fail
      go_ret
      exact ⟨rfl, rfl⟩
def isVr (n : Int) (s : List Int) : Bool := isSt n && (decide (0 < n) || decide (s = zb))
theorem wpEq35 {ops : Array Oper} {rest : List Oper} {op : Oper} {a : Act} {Q : Exit → Act → World → Prop} (hw : Region.wanted op (yielded ops a.tmps) = true) (x y : Operand) (ho : op.op = .binOp .eql 35 x y 35) (vs us : List Value) (c : Bool) (hx : a.eval x = aggV vs) (hy : a.eval y = aggV us) (he : (Op.equal 35 (aggV vs) (aggV us)).run Try.prog w = .ok c w) (h : wpList Try.prog ops Q rest (a.put op.dst (.bool c)) w) : wpList Try.prog ops Q (op :: rest) a w :=
  BigFrame.wpList_want hw fun _ hK => o_eqlA 35 35 guard35 x y ho vs us hx hy c he (hK _ _ h)
theorem wpBuildW {T : Nat} {ops : Array Oper} {rest : List Oper} {op : Oper} {a : Act} {Q : Exit → Act → World → Prop} (vs : List Value) (hr : ∀ w : World, (Instr.build T #[]).run Try.prog w = .ok (aggV vs) w) (hw : Region.wanted op (yielded ops a.tmps) = true) (ho : op.op = .build T #[]) (h : wpList Try.prog ops Q rest (a.put op.dst (aggV vs)) w) : wpList Try.prog ops Q (op :: rest) a w :=
  BigFrame.wpList_want hw fun _ hK => wp_buildZ vs hr ho (hK _ _ h)
theorem range_ver {g : Nat} {x : Fr} {T : Nat} (h : Blk w g T x.C) : w.rangeAt g 4 (verC x.ps x.bd) := h.rangeIn _ (fun j hj => by
  rw [verC_len x.hb] at hj
  rw [x.C_ver, List.append_assoc, List.getElem?_append_right (by simp), List.getElem?_append_left (by rw [verC_len x.hb]; simp; omega)]
  congr 1
  simp)
theorem range_bd {g : Nat} {n : Int} {s : List Int} (hs : s.length = 96) {T : Nat} {pre post : List Value} {o : Nat} (ho : pre.length + 1 = o) (h : Blk w g T (pre ++ verC n s ++ post)) : w.rangeAt g o (u8s s) := h.rangeIn _ (fun j hj => by
  rw [u8s_len, hs] at hj
  subst ho
  rw [List.append_assoc, List.getElem?_append_right (by omega), List.getElem?_append_left (by rw [verC_len hs]; omega)]
  unfold verC
  rw [show pre.length + 1 + j - pre.length = j + 1 by omega, List.getElem?_cons_succ])
theorem isv_a (n : Int) (s : List Int) (hs : s.length = 96) (w : World) (h1 : isSt n = false) : Calls Try.prog 53 #[aggV (verC n s)] w fun e w' => e = .returned (.bool false) ∧ Kept [] w w' := by
  have P52 := hide (fun W => isStamp52 n W)
  rw [h1] at P52
  clear h1
  obtain ⟨vc, hvc⟩ : ∃ c, c = verC n s := ⟨_, rfl⟩
  rw [← hvc]
  have HV := hide hvc
  have HS := hide hs
  obtain ⟨sc, hsc⟩ : ∃ c, c = u8s s := ⟨_, rfl⟩
  obtain ⟨zc, hzc⟩ : ∃ c, c = u8s zb := ⟨_, rfl⟩
  have HZ := hide hzc
  have HSC := hide hsc
  have HB35 : Hid (∀ w : World, (Instr.build 35 #[]).run Try.prog w = .ok (aggV zc) w) := fun w => by rw [hzc]; exact build35 w
  have HLS : Hid (sc.length = 96) := by show _ = _; rw [hsc, u8s_len, hs]
  have HEQ : Hid (∀ W, (Op.equal 35 (aggV sc) (aggV zc)).run Try.prog W = .ok (decide (s = zb)) W) := fun W => by rw [hsc, hzc]; exact equal35 W s zb hs (by simp [zb])
  clear hvc hsc hzc hs
  go_enter Try.func53, Try.ntmps53
  go_wp2_with (
    first
    | (refine wpBoxV rfl (.tmp 0) rfl vc rfl ?_
       intro W1 g e1 B1 K1
       have HK := hide K1
       have c0 : W1.cell? ⟨g, 0, none⟩ = some (.int .i64 n) := fits_cell B1 0 _ (by rw [unhide HV]; rfl)
       have HR : Hid (W1.rangeAt g 1 sc) := by rw [unhide HSC]; exact range_bd (pre := []) (post := []) (unhide HS) rfl (by rw [unhide HV] at B1; simpa using B1)
       clear e1 B1 K1
       refine Stp.go ?_))
  constructor
  go_wp2_with (
    first
    | (go_at_call 52
       refine (unhide P52 _).mono ?_
       rintro e W9 ⟨rfl, q9⟩
       replace q9 := q9.symm
       subst q9
       clear P52
       refine Stp.go ?_))
  constructor
  go_wp2_with fail
  go_ret
  exact ⟨rfl, unhide HK⟩
theorem isv_b (n : Int) (s : List Int) (hs : s.length = 96) (w : World) (h1 : isSt n = true) (h2 : decide (0 < n) = true) : Calls Try.prog 53 #[aggV (verC n s)] w fun e w' => e = .returned (.bool true) ∧ Kept [] w w' := by
  have P52 := hide (fun W => isStamp52 n W)
  rw [h1] at P52
  clear h1
  have h3 : decide (n > 0) = true := h2
  obtain ⟨vc, hvc⟩ : ∃ c, c = verC n s := ⟨_, rfl⟩
  rw [← hvc]
  have HV := hide hvc
  have HS := hide hs
  obtain ⟨sc, hsc⟩ : ∃ c, c = u8s s := ⟨_, rfl⟩
  obtain ⟨zc, hzc⟩ : ∃ c, c = u8s zb := ⟨_, rfl⟩
  have HZ := hide hzc
  have HSC := hide hsc
  have HB35 : Hid (∀ w : World, (Instr.build 35 #[]).run Try.prog w = .ok (aggV zc) w) := fun w => by rw [hzc]; exact build35 w
  have HLS : Hid (sc.length = 96) := by show _ = _; rw [hsc, u8s_len, hs]
  have HEQ : Hid (∀ W, (Op.equal 35 (aggV sc) (aggV zc)).run Try.prog W = .ok (decide (s = zb)) W) := fun W => by rw [hsc, hzc]; exact equal35 W s zb hs (by simp [zb])
  clear hvc hsc hzc hs
  go_enter Try.func53, Try.ntmps53
  go_wp2_with (
    first
    | (refine wpBoxV rfl (.tmp 0) rfl vc rfl ?_
       intro W1 g e1 B1 K1
       have HK := hide K1
       have c0 : W1.cell? ⟨g, 0, none⟩ = some (.int .i64 n) := fits_cell B1 0 _ (by rw [unhide HV]; rfl)
       have HR : Hid (W1.rangeAt g 1 sc) := by rw [unhide HSC]; exact range_bd (pre := []) (post := []) (unhide HS) rfl (by rw [unhide HV] at B1; simpa using B1)
       clear e1 B1 K1
       refine Stp.go ?_))
  constructor
  go_wp2_with (
    first
    | (go_at_call 52
       refine (unhide P52 _).mono ?_
       rintro e W9 ⟨rfl, q9⟩
       replace q9 := q9.symm
       subst q9
       clear P52
       refine Stp.go ?_))
  constructor
  go_wp2_with fail
  go_ret
  exact ⟨rfl, unhide HK⟩
theorem isv_c (n : Int) (s : List Int) (hs : s.length = 96) (w : World) (h1 : isSt n = true) (h2 : decide (0 < n) = false) : Calls Try.prog 53 #[aggV (verC n s)] w fun e w' => e = .returned (.bool (decide (s = zb))) ∧ Kept [] w w' := by
  have P52 := hide (fun W => isStamp52 n W)
  rw [h1] at P52
  clear h1
  have h3 : decide (n > 0) = false := h2
  obtain ⟨vc, hvc⟩ : ∃ c, c = verC n s := ⟨_, rfl⟩
  rw [← hvc]
  have HV := hide hvc
  have HS := hide hs
  obtain ⟨sc, hsc⟩ : ∃ c, c = u8s s := ⟨_, rfl⟩
  obtain ⟨zc, hzc⟩ : ∃ c, c = u8s zb := ⟨_, rfl⟩
  have HZ := hide hzc
  have HSC := hide hsc
  have HB35 : Hid (∀ w : World, (Instr.build 35 #[]).run Try.prog w = .ok (aggV zc) w) := fun w => by rw [hzc]; exact build35 w
  have HLS : Hid (sc.length = 96) := by show _ = _; rw [hsc, u8s_len, hs]
  have HEQ : Hid (∀ W, (Op.equal 35 (aggV sc) (aggV zc)).run Try.prog W = .ok (decide (s = zb)) W) := fun W => by rw [hsc, hzc]; exact equal35 W s zb hs (by simp [zb])
  clear hvc hsc hzc hs
  go_enter Try.func53, Try.ntmps53
  go_wp2_with (
    first
    | (refine wpBoxV rfl (.tmp 0) rfl vc rfl ?_
       intro W1 g e1 B1 K1
       have HK := hide K1
       have c0 : W1.cell? ⟨g, 0, none⟩ = some (.int .i64 n) := fits_cell B1 0 _ (by rw [unhide HV]; rfl)
       have HR : Hid (W1.rangeAt g 1 sc) := by rw [unhide HSC]; exact range_bd (pre := []) (post := []) (unhide HS) rfl (by rw [unhide HV] at B1; simpa using B1)
       clear e1 B1 K1
       refine Stp.go ?_))
  constructor
  go_wp2_with (
    first
    | (go_at_call 52
       refine (unhide P52 _).mono ?_
       rintro e W9 ⟨rfl, q9⟩
       replace q9 := q9.symm
       subst q9
       clear P52
       refine Stp.go ?_))
  constructor
  go_wp2_with (
    first
    | (refine wpLoadG row35 (.tmp 11) rfl (by rfl) g 1 rfl sc (unhide HLS) (unhide HR) ?_
       refine Stp.go ?_))
  constructor
  go_wp2_with (
    first
    | (refine wpBuildW zc (unhide HB35) (by rfl) rfl ?_
       refine Stp.go ?_))
  constructor
  go_wp2_with (
    first
    | (refine wpEq35 (by rfl) (.tmp 12) (.tmp 13) rfl sc zc _ rfl rfl (unhide HEQ _) ?_
       refine Stp.go ?_))
  constructor
  go_wp2_with fail
  go_ret
  exact ⟨rfl, unhide HK⟩
theorem isVersion53 (n : Int) (s : List Int) (hs : s.length = 96) (w : World) : Calls Try.prog 53 #[aggV (verC n s)] w fun e w' => e = .returned (.bool (isVr n s)) ∧ Kept [] w w' := by
  unfold isVr
  cases h1 : isSt n with
  | false => exact isv_a n s hs w h1
  | true =>
    cases h2 : decide (0 < n) with
    | true => exact isv_b n s hs w h1 h2
    | false => exact isv_c n s hs w h1 h2
/-- May a frame be? -/
def mayF (x : Fr) : Bool := decide (0 ≤ x.pg) && (decide (x.pg < 16) && (isMd x.md && (decide (0 ≤ x.op) && (decide (x.op ≤ 4611686018427387904) && (isSt x.fi && isVr x.ps x.bd)))))
theorem isf_0 (x : Fr) (w : World) (h0 : decide (0 ≤ x.pg) = false) : Calls Try.prog 44 #[aggV x.C] w fun e w' => e = .returned (.bool false) ∧ Kept [] w w' := by
  have g0 : decide (x.pg ≥ 0) = false := h0
  obtain ⟨fc, hfc⟩ : ∃ c, c = x.C := ⟨_, rfl⟩
  rw [← hfc]
  have HFC := hide hfc
  obtain ⟨vc, hvc⟩ : ∃ c, c = verC x.ps x.bd := ⟨_, rfl⟩
  have HVC := hide hvc
  have HVL : Hid (vc.length = 97) := by show _ = _; rw [hvc, verC_len x.hb]
  clear hfc hvc
  go_enter Try.func44, Try.ntmps44
  go_wp2_with (
    first
    | (refine wpBoxV rfl (.tmp 0) rfl fc rfl ?_
       intro W1 g e1 B1 K1
       have HK := hide K1
       rw [unhide HFC] at B1
       have c0 : W1.cell? ⟨g, 0, none⟩ = some (.int .i64 x.pg) := fits_cell B1 0 _ rfl
       have c1 : W1.cell? ⟨g, 1, none⟩ = some (.int .i64 x.md) := fits_cell B1 1 _ rfl
       have c2 : W1.cell? ⟨g, 2, none⟩ = some (.int .i64 x.op) := fits_cell B1 2 _ rfl
       have c3 : W1.cell? ⟨g, 3, none⟩ = some (.int .i64 x.fi) := fits_cell B1 3 _ rfl
       have HR : Hid (W1.rangeAt g 4 vc) := by rw [unhide HVC]; exact range_ver B1
       clear e1 B1 K1
       refine Stp.go ?_))
  constructor
  go_wp2_with fail
  go_ret
  exact ⟨rfl, unhide HK⟩
theorem isf_1 (x : Fr) (w : World) (h0 : decide (0 ≤ x.pg) = true) (h1 : decide (x.pg < 16) = false) : Calls Try.prog 44 #[aggV x.C] w fun e w' => e = .returned (.bool false) ∧ Kept [] w w' := by
  have g0 : decide (x.pg ≥ 0) = true := h0
  obtain ⟨fc, hfc⟩ : ∃ c, c = x.C := ⟨_, rfl⟩
  rw [← hfc]
  have HFC := hide hfc
  obtain ⟨vc, hvc⟩ : ∃ c, c = verC x.ps x.bd := ⟨_, rfl⟩
  have HVC := hide hvc
  have HVL : Hid (vc.length = 97) := by show _ = _; rw [hvc, verC_len x.hb]
  clear hfc hvc
  go_enter Try.func44, Try.ntmps44
  go_wp2_with (
    first
    | (refine wpBoxV rfl (.tmp 0) rfl fc rfl ?_
       intro W1 g e1 B1 K1
       have HK := hide K1
       rw [unhide HFC] at B1
       have c0 : W1.cell? ⟨g, 0, none⟩ = some (.int .i64 x.pg) := fits_cell B1 0 _ rfl
       have c1 : W1.cell? ⟨g, 1, none⟩ = some (.int .i64 x.md) := fits_cell B1 1 _ rfl
       have c2 : W1.cell? ⟨g, 2, none⟩ = some (.int .i64 x.op) := fits_cell B1 2 _ rfl
       have c3 : W1.cell? ⟨g, 3, none⟩ = some (.int .i64 x.fi) := fits_cell B1 3 _ rfl
       have HR : Hid (W1.rangeAt g 4 vc) := by rw [unhide HVC]; exact range_ver B1
       clear e1 B1 K1
       refine Stp.go ?_))
  constructor
  go_wp2_with fail
  go_ret
  exact ⟨rfl, unhide HK⟩
theorem isf_2 (x : Fr) (w : World) (h0 : decide (0 ≤ x.pg) = true) (h1 : decide (x.pg < 16) = true) (h2 : isMd x.md = false) : Calls Try.prog 44 #[aggV x.C] w fun e w' => e = .returned (.bool false) ∧ Kept [] w w' := by
  have g0 : decide (x.pg ≥ 0) = true := h0
  have P51 : Hid (∀ W, _) := fun W => isMode51 x.md W
  rw [h2] at P51
  clear h2
  obtain ⟨fc, hfc⟩ : ∃ c, c = x.C := ⟨_, rfl⟩
  rw [← hfc]
  have HFC := hide hfc
  obtain ⟨vc, hvc⟩ : ∃ c, c = verC x.ps x.bd := ⟨_, rfl⟩
  have HVC := hide hvc
  have HVL : Hid (vc.length = 97) := by show _ = _; rw [hvc, verC_len x.hb]
  clear hfc hvc
  go_enter Try.func44, Try.ntmps44
  go_wp2_with (
    first
    | (refine wpBoxV rfl (.tmp 0) rfl fc rfl ?_
       intro W1 g e1 B1 K1
       have HK := hide K1
       rw [unhide HFC] at B1
       have c0 : W1.cell? ⟨g, 0, none⟩ = some (.int .i64 x.pg) := fits_cell B1 0 _ rfl
       have c1 : W1.cell? ⟨g, 1, none⟩ = some (.int .i64 x.md) := fits_cell B1 1 _ rfl
       have c2 : W1.cell? ⟨g, 2, none⟩ = some (.int .i64 x.op) := fits_cell B1 2 _ rfl
       have c3 : W1.cell? ⟨g, 3, none⟩ = some (.int .i64 x.fi) := fits_cell B1 3 _ rfl
       have HR : Hid (W1.rangeAt g 4 vc) := by rw [unhide HVC]; exact range_ver B1
       clear e1 B1 K1
       refine Stp.go ?_))
  constructor
  go_wp2_with (
    first
    | (go_at_call 51
       refine (unhide P51 _).mono ?_
       rintro e W9 ⟨rfl, q9⟩
       replace q9 := q9.symm
       subst q9
       clear P51
       refine Stp.go ?_))
  constructor
  go_wp2_with fail
  go_ret
  exact ⟨rfl, unhide HK⟩
theorem isf_3 (x : Fr) (w : World) (h0 : decide (0 ≤ x.pg) = true) (h1 : decide (x.pg < 16) = true) (h2 : isMd x.md = true) (h3 : decide (0 ≤ x.op) = false) : Calls Try.prog 44 #[aggV x.C] w fun e w' => e = .returned (.bool false) ∧ Kept [] w w' := by
  have g0 : decide (x.pg ≥ 0) = true := h0
  have P51 : Hid (∀ W, _) := fun W => isMode51 x.md W
  rw [h2] at P51
  clear h2
  have g3 : decide (x.op ≥ 0) = false := h3
  obtain ⟨fc, hfc⟩ : ∃ c, c = x.C := ⟨_, rfl⟩
  rw [← hfc]
  have HFC := hide hfc
  obtain ⟨vc, hvc⟩ : ∃ c, c = verC x.ps x.bd := ⟨_, rfl⟩
  have HVC := hide hvc
  have HVL : Hid (vc.length = 97) := by show _ = _; rw [hvc, verC_len x.hb]
  clear hfc hvc
  go_enter Try.func44, Try.ntmps44
  go_wp2_with (
    first
    | (refine wpBoxV rfl (.tmp 0) rfl fc rfl ?_
       intro W1 g e1 B1 K1
       have HK := hide K1
       rw [unhide HFC] at B1
       have c0 : W1.cell? ⟨g, 0, none⟩ = some (.int .i64 x.pg) := fits_cell B1 0 _ rfl
       have c1 : W1.cell? ⟨g, 1, none⟩ = some (.int .i64 x.md) := fits_cell B1 1 _ rfl
       have c2 : W1.cell? ⟨g, 2, none⟩ = some (.int .i64 x.op) := fits_cell B1 2 _ rfl
       have c3 : W1.cell? ⟨g, 3, none⟩ = some (.int .i64 x.fi) := fits_cell B1 3 _ rfl
       have HR : Hid (W1.rangeAt g 4 vc) := by rw [unhide HVC]; exact range_ver B1
       clear e1 B1 K1
       refine Stp.go ?_))
  constructor
  go_wp2_with (
    first
    | (go_at_call 51
       refine (unhide P51 _).mono ?_
       rintro e W9 ⟨rfl, q9⟩
       replace q9 := q9.symm
       subst q9
       clear P51
       refine Stp.go ?_))
  constructor
  go_wp2_with fail
  go_ret
  exact ⟨rfl, unhide HK⟩
theorem isf_4 (x : Fr) (w : World) (h0 : decide (0 ≤ x.pg) = true) (h1 : decide (x.pg < 16) = true) (h2 : isMd x.md = true) (h3 : decide (0 ≤ x.op) = true) (h4 : decide (x.op ≤ 4611686018427387904) = false) : Calls Try.prog 44 #[aggV x.C] w fun e w' => e = .returned (.bool false) ∧ Kept [] w w' := by
  have g0 : decide (x.pg ≥ 0) = true := h0
  have P51 : Hid (∀ W, _) := fun W => isMode51 x.md W
  rw [h2] at P51
  clear h2
  have g3 : decide (x.op ≥ 0) = true := h3
  obtain ⟨fc, hfc⟩ : ∃ c, c = x.C := ⟨_, rfl⟩
  rw [← hfc]
  have HFC := hide hfc
  obtain ⟨vc, hvc⟩ : ∃ c, c = verC x.ps x.bd := ⟨_, rfl⟩
  have HVC := hide hvc
  have HVL : Hid (vc.length = 97) := by show _ = _; rw [hvc, verC_len x.hb]
  clear hfc hvc
  go_enter Try.func44, Try.ntmps44
  go_wp2_with (
    first
    | (refine wpBoxV rfl (.tmp 0) rfl fc rfl ?_
       intro W1 g e1 B1 K1
       have HK := hide K1
       rw [unhide HFC] at B1
       have c0 : W1.cell? ⟨g, 0, none⟩ = some (.int .i64 x.pg) := fits_cell B1 0 _ rfl
       have c1 : W1.cell? ⟨g, 1, none⟩ = some (.int .i64 x.md) := fits_cell B1 1 _ rfl
       have c2 : W1.cell? ⟨g, 2, none⟩ = some (.int .i64 x.op) := fits_cell B1 2 _ rfl
       have c3 : W1.cell? ⟨g, 3, none⟩ = some (.int .i64 x.fi) := fits_cell B1 3 _ rfl
       have HR : Hid (W1.rangeAt g 4 vc) := by rw [unhide HVC]; exact range_ver B1
       clear e1 B1 K1
       refine Stp.go ?_))
  constructor
  go_wp2_with (
    first
    | (go_at_call 51
       refine (unhide P51 _).mono ?_
       rintro e W9 ⟨rfl, q9⟩
       replace q9 := q9.symm
       subst q9
       clear P51
       refine Stp.go ?_))
  constructor
  go_wp2_with fail
  go_ret
  exact ⟨rfl, unhide HK⟩
theorem isf_5 (x : Fr) (w : World) (h0 : decide (0 ≤ x.pg) = true) (h1 : decide (x.pg < 16) = true) (h2 : isMd x.md = true) (h3 : decide (0 ≤ x.op) = true) (h4 : decide (x.op ≤ 4611686018427387904) = true) (h5 : isSt x.fi = false) : Calls Try.prog 44 #[aggV x.C] w fun e w' => e = .returned (.bool false) ∧ Kept [] w w' := by
  have g0 : decide (x.pg ≥ 0) = true := h0
  have P51 : Hid (∀ W, _) := fun W => isMode51 x.md W
  rw [h2] at P51
  clear h2
  have g3 : decide (x.op ≥ 0) = true := h3
  have P52 : Hid (∀ W, _) := fun W => isStamp52 x.fi W
  rw [h5] at P52
  clear h5
  obtain ⟨fc, hfc⟩ : ∃ c, c = x.C := ⟨_, rfl⟩
  rw [← hfc]
  have HFC := hide hfc
  obtain ⟨vc, hvc⟩ : ∃ c, c = verC x.ps x.bd := ⟨_, rfl⟩
  have HVC := hide hvc
  have HVL : Hid (vc.length = 97) := by show _ = _; rw [hvc, verC_len x.hb]
  clear hfc hvc
  go_enter Try.func44, Try.ntmps44
  go_wp2_with (
    first
    | (refine wpBoxV rfl (.tmp 0) rfl fc rfl ?_
       intro W1 g e1 B1 K1
       have HK := hide K1
       rw [unhide HFC] at B1
       have c0 : W1.cell? ⟨g, 0, none⟩ = some (.int .i64 x.pg) := fits_cell B1 0 _ rfl
       have c1 : W1.cell? ⟨g, 1, none⟩ = some (.int .i64 x.md) := fits_cell B1 1 _ rfl
       have c2 : W1.cell? ⟨g, 2, none⟩ = some (.int .i64 x.op) := fits_cell B1 2 _ rfl
       have c3 : W1.cell? ⟨g, 3, none⟩ = some (.int .i64 x.fi) := fits_cell B1 3 _ rfl
       have HR : Hid (W1.rangeAt g 4 vc) := by rw [unhide HVC]; exact range_ver B1
       clear e1 B1 K1
       refine Stp.go ?_))
  constructor
  go_wp2_with (
    first
    | (go_at_call 51
       refine (unhide P51 _).mono ?_
       rintro e W9 ⟨rfl, q9⟩
       replace q9 := q9.symm
       subst q9
       clear P51
       refine Stp.go ?_))
  constructor
  go_wp2_with (
    first
    | (go_at_call 52
       refine (unhide P52 _).mono ?_
       rintro e W9 ⟨rfl, q9⟩
       replace q9 := q9.symm
       subst q9
       clear P52
       refine Stp.go ?_))
  constructor
  go_wp2_with fail
  go_ret
  exact ⟨rfl, unhide HK⟩
theorem isf_6 (x : Fr) (w : World) (h0 : decide (0 ≤ x.pg) = true) (h1 : decide (x.pg < 16) = true) (h2 : isMd x.md = true) (h3 : decide (0 ≤ x.op) = true) (h4 : decide (x.op ≤ 4611686018427387904) = true) (h5 : isSt x.fi = true) (h6 : isVr x.ps x.bd = false) : Calls Try.prog 44 #[aggV x.C] w fun e w' => e = .returned (.bool false) ∧ Kept [] w w' := by
  have g0 : decide (x.pg ≥ 0) = true := h0
  have P51 : Hid (∀ W, _) := fun W => isMode51 x.md W
  rw [h2] at P51
  clear h2
  have g3 : decide (x.op ≥ 0) = true := h3
  have P52 : Hid (∀ W, _) := fun W => isStamp52 x.fi W
  rw [h5] at P52
  clear h5
  have P53 : Hid (∀ W, _) := fun W => isVersion53 x.ps x.bd x.hb W
  rw [h6] at P53
  clear h6
  obtain ⟨fc, hfc⟩ : ∃ c, c = x.C := ⟨_, rfl⟩
  rw [← hfc]
  have HFC := hide hfc
  obtain ⟨vc, hvc⟩ : ∃ c, c = verC x.ps x.bd := ⟨_, rfl⟩
  have HVC := hide hvc
  have HVL : Hid (vc.length = 97) := by show _ = _; rw [hvc, verC_len x.hb]
  rw [← hvc] at P53
  clear hfc hvc
  go_enter Try.func44, Try.ntmps44
  go_wp2_with (
    first
    | (refine wpBoxV rfl (.tmp 0) rfl fc rfl ?_
       intro W1 g e1 B1 K1
       have HK := hide K1
       rw [unhide HFC] at B1
       have c0 : W1.cell? ⟨g, 0, none⟩ = some (.int .i64 x.pg) := fits_cell B1 0 _ rfl
       have c1 : W1.cell? ⟨g, 1, none⟩ = some (.int .i64 x.md) := fits_cell B1 1 _ rfl
       have c2 : W1.cell? ⟨g, 2, none⟩ = some (.int .i64 x.op) := fits_cell B1 2 _ rfl
       have c3 : W1.cell? ⟨g, 3, none⟩ = some (.int .i64 x.fi) := fits_cell B1 3 _ rfl
       have HR : Hid (W1.rangeAt g 4 vc) := by rw [unhide HVC]; exact range_ver B1
       clear e1 B1 K1
       refine Stp.go ?_))
  constructor
  go_wp2_with (
    first
    | (go_at_call 51
       refine (unhide P51 _).mono ?_
       rintro e W9 ⟨rfl, q9⟩
       replace q9 := q9.symm
       subst q9
       clear P51
       refine Stp.go ?_))
  constructor
  go_wp2_with (
    first
    | (go_at_call 52
       refine (unhide P52 _).mono ?_
       rintro e W9 ⟨rfl, q9⟩
       replace q9 := q9.symm
       subst q9
       clear P52
       refine Stp.go ?_))
  constructor
  go_wp2_with (
    first
    | (refine wpLoadG row37 (.tmp 32) rfl (by rfl) g 4 rfl vc (unhide HVL) (unhide HR) ?_
       refine Stp.go ?_))
  constructor
  go_wp2_with (
    first
    | (go_at_call 53
       refine (unhide P53 _).mono ?_
       rintro e W9 ⟨rfl, q9⟩
       replace HK := hide ((unhide HK).trans q9)
       clear P53
       refine Stp.go ?_))
  constructor
  go_wp2_with fail
  go_ret
  exact ⟨rfl, unhide HK⟩
theorem isf_7 (x : Fr) (w : World) (h0 : decide (0 ≤ x.pg) = true) (h1 : decide (x.pg < 16) = true) (h2 : isMd x.md = true) (h3 : decide (0 ≤ x.op) = true) (h4 : decide (x.op ≤ 4611686018427387904) = true) (h5 : isSt x.fi = true) (h6 : isVr x.ps x.bd = true) : Calls Try.prog 44 #[aggV x.C] w fun e w' => e = .returned (.bool true) ∧ Kept [] w w' := by
  have g0 : decide (x.pg ≥ 0) = true := h0
  have P51 : Hid (∀ W, _) := fun W => isMode51 x.md W
  rw [h2] at P51
  clear h2
  have g3 : decide (x.op ≥ 0) = true := h3
  have P52 : Hid (∀ W, _) := fun W => isStamp52 x.fi W
  rw [h5] at P52
  clear h5
  have P53 : Hid (∀ W, _) := fun W => isVersion53 x.ps x.bd x.hb W
  rw [h6] at P53
  clear h6
  obtain ⟨fc, hfc⟩ : ∃ c, c = x.C := ⟨_, rfl⟩
  rw [← hfc]
  have HFC := hide hfc
  obtain ⟨vc, hvc⟩ : ∃ c, c = verC x.ps x.bd := ⟨_, rfl⟩
  have HVC := hide hvc
  have HVL : Hid (vc.length = 97) := by show _ = _; rw [hvc, verC_len x.hb]
  rw [← hvc] at P53
  clear hfc hvc
  go_enter Try.func44, Try.ntmps44
  go_wp2_with (
    first
    | (refine wpBoxV rfl (.tmp 0) rfl fc rfl ?_
       intro W1 g e1 B1 K1
       have HK := hide K1
       rw [unhide HFC] at B1
       have c0 : W1.cell? ⟨g, 0, none⟩ = some (.int .i64 x.pg) := fits_cell B1 0 _ rfl
       have c1 : W1.cell? ⟨g, 1, none⟩ = some (.int .i64 x.md) := fits_cell B1 1 _ rfl
       have c2 : W1.cell? ⟨g, 2, none⟩ = some (.int .i64 x.op) := fits_cell B1 2 _ rfl
       have c3 : W1.cell? ⟨g, 3, none⟩ = some (.int .i64 x.fi) := fits_cell B1 3 _ rfl
       have HR : Hid (W1.rangeAt g 4 vc) := by rw [unhide HVC]; exact range_ver B1
       clear e1 B1 K1
       refine Stp.go ?_))
  constructor
  go_wp2_with (
    first
    | (go_at_call 51
       refine (unhide P51 _).mono ?_
       rintro e W9 ⟨rfl, q9⟩
       replace q9 := q9.symm
       subst q9
       clear P51
       refine Stp.go ?_))
  constructor
  go_wp2_with (
    first
    | (go_at_call 52
       refine (unhide P52 _).mono ?_
       rintro e W9 ⟨rfl, q9⟩
       replace q9 := q9.symm
       subst q9
       clear P52
       refine Stp.go ?_))
  constructor
  go_wp2_with (
    first
    | (refine wpLoadG row37 (.tmp 32) rfl (by rfl) g 4 rfl vc (unhide HVL) (unhide HR) ?_
       refine Stp.go ?_))
  constructor
  go_wp2_with (
    first
    | (go_at_call 53
       refine (unhide P53 _).mono ?_
       rintro e W9 ⟨rfl, q9⟩
       replace HK := hide ((unhide HK).trans q9)
       clear P53
       refine Stp.go ?_))
  constructor
  go_wp2_with fail
  go_ret
  exact ⟨rfl, unhide HK⟩
theorem isFrame44 (x : Fr) (w : World) : Calls Try.prog 44 #[aggV x.C] w fun e w' => e = .returned (.bool (mayF x)) ∧ Kept [] w w' := by
  unfold mayF
  cases h0 : decide (0 ≤ x.pg) with
  | false => exact isf_0 x w h0
  | true =>
    cases h1 : decide (x.pg < 16) with
    | false => exact isf_1 x w h0 h1
    | true =>
      cases h2 : isMd x.md with
      | false => exact isf_2 x w h0 h1 h2
      | true =>
        cases h3 : decide (0 ≤ x.op) with
        | false => exact isf_3 x w h0 h1 h2 h3
        | true =>
          cases h4 : decide (x.op ≤ 4611686018427387904) with
          | false => exact isf_4 x w h0 h1 h2 h3 h4
          | true =>
            cases h5 : isSt x.fi with
            | false => exact isf_5 x w h0 h1 h2 h3 h4 h5
            | true =>
              cases h6 : isVr x.ps x.bd with
              | false => exact isf_6 x w h0 h1 h2 h3 h4 h5 h6
              | true =>
                exact isf_7 x w h0 h1 h2 h3 h4 h5 h6

end Go.Proofs.Ytgnafbohikbpfaa
