/-
  The document's net: Double, Deliver.
-/
import Derived.Test.YtpcggcicpojdoaaRb
namespace Go.Proofs.Ytpcggcicpojdoaa
open Go.RowKit

theorem cg48 (vs : Array Value) (w : World) : (callFunc 48 vs).run Try.prog w = .ok (.enter 48 vs) w := by kernel_rfl
section
variable {o : Oper} {a : Act} {w : World} {K : Act → World → Prop} {Q : Exit → Act → World → Prop}
theorem o_ix43 (x y : Operand) (ho : o.op = .indexAddr 43 x y) (g m c k : Nat) (hk : k < m) (hx : a.eval x = .slice (some ⟨g, 0, none⟩) m c) (hy : a.eval y = .int .i64 k) (h : K (a.put o.dst (.pointer (some ⟨g, k * 4, none⟩))) w) : o.wp Try.prog a w K Q := by
  unfold Oper.wp execOp
  simp only [ho, hx, hy]
  simp [go_sem, hk]
  exact h
theorem o_fl47_0 (x : Operand) (ho : o.op = .fieldAddr 47 x 0) (b off : Nat) (hx : a.eval x = .pointer (some ⟨b, off, none⟩)) (h : K (a.put o.dst (.pointer (some ⟨b, off + 0, none⟩))) w) : o.wp Try.prog a w K Q := by
  unfold Oper.wp execOp
  simp only [ho, hx]
  simp [go_sem]
  exact h
theorem o_fl47_1 (x : Operand) (ho : o.op = .fieldAddr 47 x 1) (b off : Nat) (hx : a.eval x = .pointer (some ⟨b, off, none⟩)) (h : K (a.put o.dst (.pointer (some ⟨b, off + 1, none⟩))) w) : o.wp Try.prog a w K Q := by
  unfold Oper.wp execOp
  simp only [ho, hx]
  simp [go_sem]
  exact h
theorem o_fl47_2 (x : Operand) (ho : o.op = .fieldAddr 47 x 2) (b off : Nat) (hx : a.eval x = .pointer (some ⟨b, off, none⟩)) (h : K (a.put o.dst (.pointer (some ⟨b, off + 2, none⟩))) w) : o.wp Try.prog a w K Q := by
  unfold Oper.wp execOp
  simp only [ho, hx]
  simp [go_sem]
  exact h
theorem o_fl47_3 (x : Operand) (ho : o.op = .fieldAddr 47 x 3) (b off : Nat) (hx : a.eval x = .pointer (some ⟨b, off, none⟩)) (h : K (a.put o.dst (.pointer (some ⟨b, off + 3, none⟩))) w) : o.wp Try.prog a w K Q := by
  unfold Oper.wp execOp
  simp only [ho, hx]
  simp [go_sem]
  exact h
theorem o_sl43A (x : Operand) (t : Nat) (ho : o.op = .slice 43 x none (some (.tmp t)) none) (g m c k : Nat) (hk : k ≤ c) (hx : a.eval x = .slice (some ⟨g, 0, none⟩) m c) (hy : a.eval (.tmp t) = .int .i64 k) (h : K (a.put o.dst (.slice (some ⟨g, 0, none⟩) k c)) w) : o.wp Try.prog a w K Q := by
  have hy' : a.tmps[t]?.getD undef = .int .i64 k := by simpa [Act.eval] using hy
  unfold Oper.wp execOp
  simp only [ho, hx]
  simp [go_sem, hy', hk]
  exact h
theorem o_sl43B (x : Operand) (t : Nat) (ho : o.op = .slice 43 x (some (.tmp t)) none none) (g m c k z : Nat) (hz : (if c = k then 0 else k * 4) = z) (hk : k ≤ m) (hx : a.eval x = .slice (some ⟨g, 0, none⟩) m c) (hy : a.eval (.tmp t) = .int .i64 k) (h : K (a.put o.dst (.slice (some ⟨g, z, none⟩) (m - k) (c - k))) w) : o.wp Try.prog a w K Q := by
  subst hz
  have hy' : a.tmps[t]?.getD undef = .int .i64 k := by simpa [Act.eval] using hy
  unfold Oper.wp execOp
  simp only [ho, hx]
  simp [go_sem, hy', hk]
  by_cases hc : c = k
  · rw [if_pos hc] at h ⊢
    exact h
  · rw [if_neg hc] at h ⊢
    exact h
end
theorem findI_none {k : Int} {L : List Ltr} (h : placeOf k L 0 = none) : findI k L = -1 := by unfold findI; rw [h]
theorem findI_some {k : Int} {L : List Ltr} {i : Nat} {l : Ltr} (h : placeOf k L 0 = some (i, l)) : findI k L = i := by unfold findI; rw [h]
theorem cellsL_app2 (A B : List Ltr) : cellsL (A ++ B) = cellsL A ++ cellsL B := by simp [cellsL]
theorem cellsL_take {L : List Ltr} {i j : Nat} {u : Value} (hj : (cellsL (L.take i))[j]? = some u) : (cellsL L)[j]? = some u := by
  have e : cellsL L = cellsL (L.take i) ++ cellsL (L.drop i) := by rw [← cellsL_app2, List.take_append_drop]
  rw [e, List.getElem?_append_left (List.getElem?_eq_some_iff.1 hj).1]
  exact hj
theorem cellsL_drop {L : List Ltr} {i j : Nat} {u : Value} (hi : i ≤ L.length) (hj : (cellsL (L.drop i))[j]? = some u) : (cellsL L)[i * 4 + j]? = some u := by
  have e : cellsL L = cellsL (L.take i) ++ cellsL (L.drop i) := by rw [← cellsL_app2, List.take_append_drop]
  have hl : (cellsL (L.take i)).length = i * 4 := by rw [cellsL_len, List.length_take, Nat.min_eq_left hi]
  rw [e, List.getElem?_append_right (by omega), hl, Nat.add_sub_cancel_left]
  exact hj
theorem rdouble_none (r : Nat) (lv : Value) (R : Nn) (k : Int) (w : World) (h : Rt w r lv R) (hmany : R.L.length ≤ 4096) (hp : placeOf k R.L 0 = none) : Calls Try.prog 29 #[P0 r, .int .i64 k] w fun e w' => e = .returned (.tuple #[.int .i64 0, .int .i64 6]) ∧ w' = w := by
  have P49 := hide (find49 r lv R k w h hmany)
  rw [findI_none hp] at P49
  clear h
  go_enter Try.func29, Try.ntmps29
  go_wp2_with (
    first
    | (go_at_call 49
       refine (unhide P49).mono ?_
       rintro e V1 ⟨rfl, hw1⟩
       obtain rfl := hw1.symm
       clear hw1))
  go_ret2
  exact ⟨rfl, rfl⟩
theorem rdouble_full (r : Nat) (lv : Value) (R : Nn) (k : Int) (w : World) (h : Rt w r lv R) (hmany : R.L.length ≤ 4096) (i : Nat) (l : Ltr) (hp : placeOf k R.L 0 = some (i, l)) (hf : 4096 ≤ R.L.length) : Calls Try.prog 29 #[P0 r, .int .i64 k] w fun e w' => e = .returned (.tuple #[.int .i64 0, .int .i64 5]) ∧ w' = w := by
  have P49 := hide (find49 r lv R k w h hmany)
  rw [findI_some hp] at P49
  have hc1 := h.cell.2.1
  obtain ⟨lo, lc, rfl, _, _, _⟩ := h.sl
  have h1 : (4096 : Int) ≤ R.L.length := by omega
  have h2 : ¬((i : Int) < 0) := by omega
  clear h
  go_enter Try.func29, Try.ntmps29
  go_wp2_with (
    first
    | (go_at_call 49
       refine (unhide P49).mono ?_
       rintro e V1 ⟨rfl, hw1⟩
       obtain rfl := hw1.symm
       clear hw1))
  go_ret2
  exact ⟨rfl, rfl⟩
/-- What Double's region keeps. -/
@[reducible] def S29 (w : World) (r : Nat) (R : Nn) (l0 : Ltr) (b : Nat → Bool) (_ : Nat → Value) (W : World) : Prop :=
  (b 25 = false → Kept [] w W) ∧ (b 25 = true → ∃ lv' u, Rt W r lv' ⟨R.nodes, R.last + 1, R.L ++ [⟨R.last + 1, l0.fr, l0.to, u, l0.bs⟩]⟩ ∧ Kept [r] w W)
theorem S29.loc {w : World} {r : Nat} {R : Nn} {l0 : Ltr} : ∀ b b' vs vs' W, (∀ i ∈ [25], b i = b' i ∧ vs i = vs' i) → S29 w r R l0 b vs W → S29 w r R l0 b' vs' W := by
  intro b b' vs vs' W H h
  have e := H 25 (by simp)
  unfold S29 at h ⊢
  rw [← e.1]
  exact h
set_option maxHeartbeats 4000000 in
set_option maxRecDepth 100000 in
theorem rdouble_yes (r : Nat) (lv : Value) (R : Nn) (k : Int) (w : World) (h : Rt w r lv R) (hmany : R.L.length ≤ 4096) (i : Nat) (l0 : Ltr) (hp : placeOf k R.L 0 = some (i, l0)) (hbl : l0.bs.length ≤ 512) (hla : 0 ≤ R.last ∧ R.last ≤ 1000000000000) (hf : R.L.length < 4096) : Calls Try.prog 29 #[P0 r, .int .i64 k] w fun e w' => ∃ lv' u, e = .returned (.tuple #[.int .i64 (R.last + 1), .int .i64 0]) ∧ Rt w' r lv' ⟨R.nodes, R.last + 1, R.L ++ [⟨R.last + 1, l0.fr, l0.to, u, l0.bs⟩]⟩ ∧ Kept [r] w w' := by
  have P49 := hide (find49 r lv R k w h hmany)
  rw [findI_some hp] at P49
  obtain ⟨_, hl, _⟩ := placeOf_some hp
  rw [Nat.sub_zero] at hl
  have hB := h.body l0 (List.mem_of_getElem? hl)
  have hrng := h.row
  obtain ⟨lo, lc, elv, _, _, _⟩ := h.sl
  rw [elv] at hrng
  obtain ⟨g, rfl, hRG⟩ := cellsL_at hrng hl
  obtain ⟨ao, c, ev, hV, hnil⟩ := hB.sl
  have P48 := hide (fun W (hk : Kept [] w W) => rput48 r lv R l0.fr l0.to ao l0.bs.length c l0.bs W (h.kept0 hk) (hV.kept hk (fun _ _ _ => by simp)) hnil hB.byte (fun hne g2 off e => by
    intro e2
    subst e2
    subst e
    obtain ⟨cs, hc⟩ := hB.block g2 (by rw [ev]; rfl)
    have h1 := h.head
    unfold Blk at h1
    rw [h1] at hc
    cases hc) hbl hla hmany)
  have HC1 := hide h.cell.2.1
  rw [elv] at HC1
  have hc1 := unhide HC1
  have HI : Hid (i < R.L.length) := (List.getElem?_eq_some_iff.1 hl).1
  have HRG := hide hRG
  unfold Ltr.C at HRG
  rw [ev] at HRG
  have h1 : ¬((4096 : Int) ≤ R.L.length) := by omega
  have h2 : ¬((i : Int) < 0) := by omega
  clear h hl hB hV hnil hRG hrng ev elv hp
  go_enter Try.func29, Try.ntmps29
  go_wp2_with (
    first
    | (go_at_call 49
       refine (unhide P49).mono ?_
       rintro e V1 ⟨rfl, hw1⟩
       obtain rfl := hw1.symm
       clear hw1))
  refine wp_region_any mixed (wpAny_gx 28 rfl (by kernel_rfl) [some (P0 r), some (P0 r), some (P0 r), some (.pointer (some ⟨r, 1, none⟩)), some (.slice (some ⟨g, 0, none⟩) R.L.length lc), some (.int .i64 i), some (.pointer (some ⟨g, i * 4, none⟩)), some (.pointer (some ⟨g, i * 4 + 1, none⟩)), some (.int .i64 l0.fr), some (P0 r), some (P0 r), some (.pointer (some ⟨r, 1, none⟩)), some (.slice (some ⟨g, 0, none⟩) R.L.length lc), some (.int .i64 i), some (.pointer (some ⟨g, i * 4, none⟩)), some (.pointer (some ⟨g, i * 4 + 2, none⟩)), some (.int .i64 l0.to), some (P0 r), some (P0 r), some (.pointer (some ⟨r, 1, none⟩)), some (.slice (some ⟨g, 0, none⟩) R.L.length lc), some (.int .i64 i), some (.pointer (some ⟨g, i * 4, none⟩)), some (.pointer (some ⟨g, i * 4 + 3, none⟩)), some (.slice ao l0.bs.length c), some (.int .i64 (R.last + 1)), some (.int .i64 (R.last + 1)), some (.int .i64 0)] rfl (by kernel_rfl) (fun l vs W => (S29 w r R l0) (fun i => l.getD i false) vs W) (⟨fun _ => ⟨rfl, rfl, rfl, Nat.le_refl _, fun _ _ _ => rfl⟩, fun h => by cases h⟩) ?_ ?_)
  · intro ix o' hi ho a' w2 l vs hls hlf hJ hout hin hdep hnot
    match ix, ho with
    | 0, ho =>
      obtain rfl := Option.some.inj ho
      have e0 := hout 0 (by kernel_rfl)
      replace e0 : a'.eval (.tmp 0) = _ := e0.trans rfl
      exact wp_move (.tmp 0) rfl _ e0 ⟨_, rfl, told_of rfl, keepG (St := (S29 w r R l0)) [25] S29.loc (by omega) (by decide) hJ⟩
    | 1, ho =>
      obtain rfl := Option.some.inj ho
      have e0 := hout 0 (by kernel_rfl)
      replace e0 : a'.eval (.tmp 0) = _ := e0.trans rfl
      exact wp_move (.tmp 0) rfl _ e0 ⟨_, rfl, told_of rfl, keepG (St := (S29 w r R l0)) [25] S29.loc (by omega) (by decide) hJ⟩
    | 2, ho =>
      obtain rfl := Option.some.inj ho
      have e0 : a'.eval (.tmp 21) = P0 r := by have h9 := hin 1 21 (by kernel_rfl) (by kernel_rfl); exact h9.1.trans (told_is _ h9.2 rfl)
      exact o_nil (.tmp 21) rfl _ e0 ⟨_, rfl, told_of rfl, keepG (St := (S29 w r R l0)) [25] S29.loc (by omega) (by decide) hJ⟩
    | 3, ho =>
      obtain rfl := Option.some.inj ho
      have e0 : a'.eval (.tmp 22) = P0 r := by have h9 := hin 2 22 (by kernel_rfl) (by kernel_rfl); exact h9.1.trans (told_is _ h9.2 rfl)
      exact o_fld60_1 (.tmp 22) rfl _ e0 ⟨_, rfl, told_of rfl, keepG (St := (S29 w r R l0)) [25] S29.loc (by omega) (by decide) hJ⟩
    | 4, ho =>
      obtain rfl := Option.some.inj ho
      have e0 : a'.eval (.tmp 23) = .pointer (some ⟨r, 1, none⟩) := by have h9 := hin 3 23 (by kernel_rfl) (by kernel_rfl); exact h9.1.trans (told_is _ h9.2 rfl)
      exact o_load43 (.tmp 23) rfl _ _ e0 ((hJ.1 (hnot 25 (by kernel_rfl))).cell (unhide HC1) (by simp)) ⟨_, rfl, told_of rfl, keepG (St := (S29 w r R l0)) [25] S29.loc (by omega) (by decide) hJ⟩
    | 5, ho =>
      obtain rfl := Option.some.inj ho
      have e0 := hout 6 (by kernel_rfl)
      replace e0 : a'.eval (.tmp 6) = _ := e0.trans rfl
      exact wp_move (.tmp 6) rfl _ e0 ⟨_, rfl, told_of rfl, keepG (St := (S29 w r R l0)) [25] S29.loc (by omega) (by decide) hJ⟩
    | 6, ho =>
      obtain rfl := Option.some.inj ho
      have e0 : a'.eval (.tmp 24) = .slice (some ⟨g, 0, none⟩) R.L.length lc := by have h9 := hin 4 24 (by kernel_rfl) (by kernel_rfl); exact h9.1.trans (told_is _ h9.2 rfl)
      have e1 : a'.eval (.tmp 25) = .int .i64 i := by have h9 := hin 5 25 (by kernel_rfl) (by kernel_rfl); exact h9.1.trans (told_is _ h9.2 rfl)
      exact o_ix43 (.tmp 24) (.tmp 25) rfl g _ lc i (unhide HI) e0 e1 ⟨_, rfl, told_of rfl, keepG (St := (S29 w r R l0)) [25] S29.loc (by omega) (by decide) hJ⟩
    | 7, ho =>
      obtain rfl := Option.some.inj ho
      have e0 : a'.eval (.tmp 26) = .pointer (some ⟨g, i * 4, none⟩) := by have h9 := hin 6 26 (by kernel_rfl) (by kernel_rfl); exact h9.1.trans (told_is _ h9.2 rfl)
      exact o_fl47_1 (.tmp 26) rfl g (i * 4) e0 ⟨_, rfl, told_of rfl, keepG (St := (S29 w r R l0)) [25] S29.loc (by omega) (by decide) hJ⟩
    | 8, ho =>
      obtain rfl := Option.some.inj ho
      have e0 : a'.eval (.tmp 27) = .pointer (some ⟨g, i * 4 + 1, none⟩) := by have h9 := hin 7 27 (by kernel_rfl) (by kernel_rfl); exact h9.1.trans (told_is _ h9.2 rfl)
      exact o_load3 (.tmp 27) rfl _ _ e0 ((hJ.1 (hnot 25 (by kernel_rfl))).cell (unhide HRG 1 _ rfl) (by simp)) ⟨_, rfl, told_of rfl, keepG (St := (S29 w r R l0)) [25] S29.loc (by omega) (by decide) hJ⟩
    | 9, ho =>
      obtain rfl := Option.some.inj ho
      have e0 := hout 0 (by kernel_rfl)
      replace e0 : a'.eval (.tmp 0) = _ := e0.trans rfl
      exact wp_move (.tmp 0) rfl _ e0 ⟨_, rfl, told_of rfl, keepG (St := (S29 w r R l0)) [25] S29.loc (by omega) (by decide) hJ⟩
    | 10, ho =>
      obtain rfl := Option.some.inj ho
      have e0 : a'.eval (.tmp 29) = P0 r := by have h9 := hin 9 29 (by kernel_rfl) (by kernel_rfl); exact h9.1.trans (told_is _ h9.2 rfl)
      exact o_nil (.tmp 29) rfl _ e0 ⟨_, rfl, told_of rfl, keepG (St := (S29 w r R l0)) [25] S29.loc (by omega) (by decide) hJ⟩
    | 11, ho =>
      obtain rfl := Option.some.inj ho
      have e0 : a'.eval (.tmp 30) = P0 r := by have h9 := hin 10 30 (by kernel_rfl) (by kernel_rfl); exact h9.1.trans (told_is _ h9.2 rfl)
      exact o_fld60_1 (.tmp 30) rfl _ e0 ⟨_, rfl, told_of rfl, keepG (St := (S29 w r R l0)) [25] S29.loc (by omega) (by decide) hJ⟩
    | 12, ho =>
      obtain rfl := Option.some.inj ho
      have e0 : a'.eval (.tmp 31) = .pointer (some ⟨r, 1, none⟩) := by have h9 := hin 11 31 (by kernel_rfl) (by kernel_rfl); exact h9.1.trans (told_is _ h9.2 rfl)
      exact o_load43 (.tmp 31) rfl _ _ e0 ((hJ.1 (hnot 25 (by kernel_rfl))).cell (unhide HC1) (by simp)) ⟨_, rfl, told_of rfl, keepG (St := (S29 w r R l0)) [25] S29.loc (by omega) (by decide) hJ⟩
    | 13, ho =>
      obtain rfl := Option.some.inj ho
      have e0 := hout 6 (by kernel_rfl)
      replace e0 : a'.eval (.tmp 6) = _ := e0.trans rfl
      exact wp_move (.tmp 6) rfl _ e0 ⟨_, rfl, told_of rfl, keepG (St := (S29 w r R l0)) [25] S29.loc (by omega) (by decide) hJ⟩
    | 14, ho =>
      obtain rfl := Option.some.inj ho
      have e0 : a'.eval (.tmp 32) = .slice (some ⟨g, 0, none⟩) R.L.length lc := by have h9 := hin 12 32 (by kernel_rfl) (by kernel_rfl); exact h9.1.trans (told_is _ h9.2 rfl)
      have e1 : a'.eval (.tmp 33) = .int .i64 i := by have h9 := hin 13 33 (by kernel_rfl) (by kernel_rfl); exact h9.1.trans (told_is _ h9.2 rfl)
      exact o_ix43 (.tmp 32) (.tmp 33) rfl g _ lc i (unhide HI) e0 e1 ⟨_, rfl, told_of rfl, keepG (St := (S29 w r R l0)) [25] S29.loc (by omega) (by decide) hJ⟩
    | 15, ho =>
      obtain rfl := Option.some.inj ho
      have e0 : a'.eval (.tmp 34) = .pointer (some ⟨g, i * 4, none⟩) := by have h9 := hin 14 34 (by kernel_rfl) (by kernel_rfl); exact h9.1.trans (told_is _ h9.2 rfl)
      exact o_fl47_2 (.tmp 34) rfl g (i * 4) e0 ⟨_, rfl, told_of rfl, keepG (St := (S29 w r R l0)) [25] S29.loc (by omega) (by decide) hJ⟩
    | 16, ho =>
      obtain rfl := Option.some.inj ho
      have e0 : a'.eval (.tmp 35) = .pointer (some ⟨g, i * 4 + 2, none⟩) := by have h9 := hin 15 35 (by kernel_rfl) (by kernel_rfl); exact h9.1.trans (told_is _ h9.2 rfl)
      exact o_load3 (.tmp 35) rfl _ _ e0 ((hJ.1 (hnot 25 (by kernel_rfl))).cell (unhide HRG 2 _ rfl) (by simp)) ⟨_, rfl, told_of rfl, keepG (St := (S29 w r R l0)) [25] S29.loc (by omega) (by decide) hJ⟩
    | 17, ho =>
      obtain rfl := Option.some.inj ho
      have e0 := hout 0 (by kernel_rfl)
      replace e0 : a'.eval (.tmp 0) = _ := e0.trans rfl
      exact wp_move (.tmp 0) rfl _ e0 ⟨_, rfl, told_of rfl, keepG (St := (S29 w r R l0)) [25] S29.loc (by omega) (by decide) hJ⟩
    | 18, ho =>
      obtain rfl := Option.some.inj ho
      have e0 : a'.eval (.tmp 37) = P0 r := by have h9 := hin 17 37 (by kernel_rfl) (by kernel_rfl); exact h9.1.trans (told_is _ h9.2 rfl)
      exact o_nil (.tmp 37) rfl _ e0 ⟨_, rfl, told_of rfl, keepG (St := (S29 w r R l0)) [25] S29.loc (by omega) (by decide) hJ⟩
    | 19, ho =>
      obtain rfl := Option.some.inj ho
      have e0 : a'.eval (.tmp 38) = P0 r := by have h9 := hin 18 38 (by kernel_rfl) (by kernel_rfl); exact h9.1.trans (told_is _ h9.2 rfl)
      exact o_fld60_1 (.tmp 38) rfl _ e0 ⟨_, rfl, told_of rfl, keepG (St := (S29 w r R l0)) [25] S29.loc (by omega) (by decide) hJ⟩
    | 20, ho =>
      obtain rfl := Option.some.inj ho
      have e0 : a'.eval (.tmp 39) = .pointer (some ⟨r, 1, none⟩) := by have h9 := hin 19 39 (by kernel_rfl) (by kernel_rfl); exact h9.1.trans (told_is _ h9.2 rfl)
      exact o_load43 (.tmp 39) rfl _ _ e0 ((hJ.1 (hnot 25 (by kernel_rfl))).cell (unhide HC1) (by simp)) ⟨_, rfl, told_of rfl, keepG (St := (S29 w r R l0)) [25] S29.loc (by omega) (by decide) hJ⟩
    | 21, ho =>
      obtain rfl := Option.some.inj ho
      have e0 := hout 6 (by kernel_rfl)
      replace e0 : a'.eval (.tmp 6) = _ := e0.trans rfl
      exact wp_move (.tmp 6) rfl _ e0 ⟨_, rfl, told_of rfl, keepG (St := (S29 w r R l0)) [25] S29.loc (by omega) (by decide) hJ⟩
    | 22, ho =>
      obtain rfl := Option.some.inj ho
      have e0 : a'.eval (.tmp 40) = .slice (some ⟨g, 0, none⟩) R.L.length lc := by have h9 := hin 20 40 (by kernel_rfl) (by kernel_rfl); exact h9.1.trans (told_is _ h9.2 rfl)
      have e1 : a'.eval (.tmp 41) = .int .i64 i := by have h9 := hin 21 41 (by kernel_rfl) (by kernel_rfl); exact h9.1.trans (told_is _ h9.2 rfl)
      exact o_ix43 (.tmp 40) (.tmp 41) rfl g _ lc i (unhide HI) e0 e1 ⟨_, rfl, told_of rfl, keepG (St := (S29 w r R l0)) [25] S29.loc (by omega) (by decide) hJ⟩
    | 23, ho =>
      obtain rfl := Option.some.inj ho
      have e0 : a'.eval (.tmp 42) = .pointer (some ⟨g, i * 4, none⟩) := by have h9 := hin 22 42 (by kernel_rfl) (by kernel_rfl); exact h9.1.trans (told_is _ h9.2 rfl)
      exact o_fl47_3 (.tmp 42) rfl g (i * 4) e0 ⟨_, rfl, told_of rfl, keepG (St := (S29 w r R l0)) [25] S29.loc (by omega) (by decide) hJ⟩
    | 24, ho =>
      obtain rfl := Option.some.inj ho
      have e0 : a'.eval (.tmp 43) = .pointer (some ⟨g, i * 4 + 3, none⟩) := by have h9 := hin 23 43 (by kernel_rfl) (by kernel_rfl); exact h9.1.trans (told_is _ h9.2 rfl)
      exact o_load34 (.tmp 43) rfl _ _ e0 ((hJ.1 (hnot 25 (by kernel_rfl))).cell (unhide HRG 3 _ rfl) (by simp)) ⟨_, rfl, told_of rfl, keepG (St := (S29 w r R l0)) [25] S29.loc (by omega) (by decide) hJ⟩
    | 25, ho =>
      obtain rfl := Option.some.inj ho
      have e0 : a'.eval (.tmp 20) = P0 r := by have h9 := hin 0 20 (by kernel_rfl) (by kernel_rfl); exact h9.1.trans (told_is _ h9.2 rfl)
      have e1 : a'.eval (.tmp 28) = .int .i64 l0.fr := by have h9 := hin 8 28 (by kernel_rfl) (by kernel_rfl); exact h9.1.trans (told_is _ h9.2 rfl)
      have e2 : a'.eval (.tmp 36) = .int .i64 l0.to := by have h9 := hin 16 36 (by kernel_rfl) (by kernel_rfl); exact h9.1.trans (told_is _ h9.2 rfl)
      have e3 : a'.eval (.tmp 44) = .slice ao l0.bs.length c := by have h9 := hin 24 44 (by kernel_rfl) (by kernel_rfl); exact h9.1.trans (told_is _ h9.2 rfl)
      refine wp_callF 48 _ _ rfl #[P0 r, .int .i64 l0.fr, .int .i64 l0.to, .slice ao l0.bs.length c] (by simp [e0, e1, e2, e3]) (cg48 _ _) ((unhide P48 w2 (hJ.1 hlf)).mono ?_)
      rintro e w3 ⟨lv', u, rfl, hR, hK, _⟩
      exact ⟨_, rfl, _, rfl, told_of rfl, nextG (St := (S29 w r R l0)) (by omega) ⟨(fun h9 => by have h8 : true = false := h9; cases h8), fun _ => ⟨lv', u, hR, ((hJ.1 hlf).mono (by simp)).trans hK⟩⟩⟩
    | 26, ho =>
      obtain rfl := Option.some.inj ho
      have e0 : a'.eval (.tmp 45) = .int .i64 (R.last + 1) := by have h9 := hin 25 45 (by kernel_rfl) (by kernel_rfl); exact h9.1.trans (told_is _ h9.2 rfl)
      exact wp_assignV (.tmp 45) rfl _ e0 ⟨_, rfl, told_of rfl, keepG (St := (S29 w r R l0)) [25] S29.loc (by omega) (by decide) hJ⟩
    | 27, ho =>
      obtain rfl := Option.some.inj ho
      exact wp_assignV (.const (.int .i64 0)) rfl _ rfl ⟨_, rfl, told_of rfl, keepG (St := (S29 w r R l0)) [25] S29.loc (by omega) (by decide) hJ⟩
  intro l vs w9 hl hJ htold
  have t0 : vs 0 = P0 r := told_is _ (htold 0 (by decide)) rfl
  have t1 : vs 1 = P0 r := told_is _ (htold 1 (by decide)) rfl
  have t2 : vs 2 = P0 r := told_is _ (htold 2 (by decide)) rfl
  have t3 : vs 3 = .pointer (some ⟨r, 1, none⟩) := told_is _ (htold 3 (by decide)) rfl
  have t4 : vs 4 = .slice (some ⟨g, 0, none⟩) R.L.length lc := told_is _ (htold 4 (by decide)) rfl
  have t5 : vs 5 = .int .i64 i := told_is _ (htold 5 (by decide)) rfl
  have t6 : vs 6 = .pointer (some ⟨g, i * 4, none⟩) := told_is _ (htold 6 (by decide)) rfl
  have t7 : vs 7 = .pointer (some ⟨g, i * 4 + 1, none⟩) := told_is _ (htold 7 (by decide)) rfl
  have t8 : vs 8 = .int .i64 l0.fr := told_is _ (htold 8 (by decide)) rfl
  have t9 : vs 9 = P0 r := told_is _ (htold 9 (by decide)) rfl
  have t10 : vs 10 = P0 r := told_is _ (htold 10 (by decide)) rfl
  have t11 : vs 11 = .pointer (some ⟨r, 1, none⟩) := told_is _ (htold 11 (by decide)) rfl
  have t12 : vs 12 = .slice (some ⟨g, 0, none⟩) R.L.length lc := told_is _ (htold 12 (by decide)) rfl
  have t13 : vs 13 = .int .i64 i := told_is _ (htold 13 (by decide)) rfl
  have t14 : vs 14 = .pointer (some ⟨g, i * 4, none⟩) := told_is _ (htold 14 (by decide)) rfl
  have t15 : vs 15 = .pointer (some ⟨g, i * 4 + 2, none⟩) := told_is _ (htold 15 (by decide)) rfl
  have t16 : vs 16 = .int .i64 l0.to := told_is _ (htold 16 (by decide)) rfl
  have t17 : vs 17 = P0 r := told_is _ (htold 17 (by decide)) rfl
  have t18 : vs 18 = P0 r := told_is _ (htold 18 (by decide)) rfl
  have t19 : vs 19 = .pointer (some ⟨r, 1, none⟩) := told_is _ (htold 19 (by decide)) rfl
  have t20 : vs 20 = .slice (some ⟨g, 0, none⟩) R.L.length lc := told_is _ (htold 20 (by decide)) rfl
  have t21 : vs 21 = .int .i64 i := told_is _ (htold 21 (by decide)) rfl
  have t22 : vs 22 = .pointer (some ⟨g, i * 4, none⟩) := told_is _ (htold 22 (by decide)) rfl
  have t23 : vs 23 = .pointer (some ⟨g, i * 4 + 3, none⟩) := told_is _ (htold 23 (by decide)) rfl
  have t24 : vs 24 = .slice ao l0.bs.length c := told_is _ (htold 24 (by decide)) rfl
  have t25 : vs 25 = .int .i64 (R.last + 1) := told_is _ (htold 25 (by decide)) rfl
  have t26 : vs 26 = .int .i64 (R.last + 1) := told_is _ (htold 26 (by decide)) rfl
  have t27 : vs 27 = .int .i64 0 := told_is _ (htold 27 (by decide)) rfl
  rw [show (List.range 28).map vs = [vs 0, vs 1, vs 2, vs 3, vs 4, vs 5, vs 6, vs 7, vs 8, vs 9, vs 10, vs 11, vs 12, vs 13, vs 14, vs 15, vs 16, vs 17, vs 18, vs 19, vs 20, vs 21, vs 22, vs 23, vs 24, vs 25, vs 26, vs 27] from rfl]
  simp only [t0, t1, t2, t3, t4, t5, t6, t7, t8, t9, t10, t11, t12, t13, t14, t15, t16, t17, t18, t19, t20, t21, t22, t23, t24, t25, t26, t27, putAll, Act.put, List.setIfInBounds_toArray, List.set_cons_succ, List.set_cons_zero]
  clear t0 t1 t2 t3 t4 t5 t6 t7 t8 t9 t10 t11 t12 t13 t14 t15 t16 t17 t18 t19 t20 t21 t22 t23 t24 t25 t26 t27 htold
  obtain ⟨lv', u, hR, hK⟩ := hJ.2 (hl 25 (by decide))
  have HR := hide hR
  have HK := hide hK
  clear hJ hl hR hK
  go_wp2_with fail
  go_ret2
  exact ⟨lv', u, rfl, unhide HR, unhide HK⟩
theorem res28 (w : World) (z : Nat) (vs : List Value) (e : Int) (tmps : Array Value) (hl : vs.length = 4) (h4 : tmps[4]?.getD undef = P0 z) (h5 : tmps[5]?.getD undef = .int .i64 e) (hb : Blk w z 47 vs) : (results Try.f28 tmps).run Try.prog w = .ok (.tuple #[aggV vs, .int .i64 e]) w := by
  have := loadV row47 hl hb
  simp [results, Try.results28, h4, h5, this, asAddr]
theorem rdeliver_none (r : Nat) (lv : Value) (R : Nn) (k : Int) (w : World) (h : Rt w r lv R) (hmany : R.L.length ≤ 4096) (hp : placeOf k R.L 0 = none) : Calls Try.prog 28 #[P0 r, .int .i64 k] w fun e w' => e = .returned (.tuple #[aggV zL, .int .i64 6]) ∧ Kept [] w w' := by
  have P49 := hide (fun W (hk : Kept [] w W) => find49 r lv R k W (h.kept0 hk) hmany)
  rw [findI_none hp] at P49
  clear h
  go_enter Try.func28, Try.ntmps28
  go_wp2_with (
    first
    | (refine wpAllocW zL alloc47 4 (by rfl) (by rfl) (by rfl) ?_
       intro W2 p2 e2 B2 K2
       have HF2 : Hid (w.heap.size ≤ p2) := by rw [e2]; exact Nat.le_refl _
       have HZ := hide B2
       have HK := hide K2
       clear e2 B2 K2
       refine Stp.go ?_))
  constructor
  go_wp2_with (
    first
    | (go_at_call 49
       refine (unhide P49 _ (unhide HK)).mono ?_
       rintro e V1 ⟨rfl, hw1⟩
       obtain rfl := hw1.symm
       clear hw1
       refine Stp.go ?_))
  constructor
  go_wp2_with (
    first
    | (refine wpBuildZ zL build47 (by rfl) (by rfl) ?_
       refine Stp.go ?_))
  constructor
  go_wp2_with (
    first
    | (refine wpStoreW row47 (by rfl) (.tmp 4) (.tmp 16) (by rfl) (by rfl) p2 zL zL (by kernel_rfl) (by kernel_rfl) rfl zL_one (unhide HZ) rfl ?_
       intro W5 B5 K5
       replace HZ := hide B5
       replace HK := hide ((unhide HK).fresh K5 (fun i hi hl => by have : w.heap.size ≤ p2 := unhide HF2; simp at hi; omega))
       clear B5 K5))
  exact bodyPost_ret (res28 _ p2 zL 6 _ rfl rfl rfl (unhide HZ)) rfl ⟨rfl, unhide HK⟩
/-- What Deliver's region keeps. -/
@[reducible] def S28 (w : World) (r : Nat) (hd : List Value) (L : List Ltr) (i : Nat) (b : Nat → Bool) (vs : Nat → Value) (W : World) : Prop :=
  (b 18 = false → Kept [] w W ∧
    (b 7 = true → b 15 = false → W.ownsRow w.heap.size 47 4 (vs 7) i (cellsL (L.take i))) ∧
    (b 15 = true → W.ownsRow w.heap.size 47 4 (vs 15) (i + (L.length - (i + 1))) (cellsL (L.take i) ++ cellsL (L.drop (i + 1))))) ∧
  (b 18 = true → ∃ lv', W.ownsRow w.heap.size 47 4 lv' (i + (L.length - (i + 1))) (cellsL (L.take i) ++ cellsL (L.drop (i + 1))) ∧ Blk W r 60 (hd.set 1 lv') ∧ Kept [r] w W)
theorem S28.loc {w : World} {r : Nat} {hd : List Value} {L : List Ltr} {i : Nat} : ∀ b b' vs vs' W, (∀ i ∈ [7, 15, 18], b i = b' i ∧ vs i = vs' i) → S28 w r hd L i b vs W → S28 w r hd L i b' vs' W := by
  intro b b' vs vs' W H h
  have e7 := H 7 (by simp)
  have e15 := H 15 (by simp)
  have e18 := H 18 (by simp)
  unfold S28 at h ⊢
  rw [← e7.1, ← e7.2, ← e15.1, ← e15.2, ← e18.1]
  exact h
set_option maxHeartbeats 4000000 in
set_option maxRecDepth 100000 in
theorem rdeliver_yes (r : Nat) (lv : Value) (R : Nn) (k : Int) (w : World) (h : Rt w r lv R) (hmany : R.L.length ≤ 4096) (i : Nat) (l0 : Ltr) (hp : placeOf k R.L 0 = some (i, l0)) : Calls Try.prog 28 #[P0 r, .int .i64 k] w fun e w' => ∃ lv', e = .returned (.tuple #[aggV l0.C, .int .i64 0]) ∧ Rt w' r lv' ⟨R.nodes, R.last, R.L.eraseIdx i⟩ ∧ Bod w' l0.v l0.bs ∧ Kept [r] w w' := by
  have P49 := hide (fun W (hk : Kept [] w W) => find49 r lv R k W (h.kept0 hk) hmany)
  rw [findI_some hp] at P49
  obtain ⟨_, hl, _⟩ := placeOf_some hp
  rw [Nat.sub_zero] at hl
  have HBD := hide (h.body l0 (List.mem_of_getElem? hl))
  have hrng := h.row
  obtain ⟨lo, lc, elv, _, hcap, hcl⟩ := h.sl
  rw [elv] at hrng
  obtain ⟨g, rfl, hRG⟩ := cellsL_at hrng hl
  subst elv
  have HRT := hide h
  have HI : Hid (i < R.L.length) := (List.getElem?_eq_some_iff.1 hl).1
  have HIC : Hid (i ≤ lc) := by have := unhide HI; show _ ≤ _; omega
  have HRG := hide hRG
  have HCW := hide hcl
  have HON := hide (cellsL_ones h.body)
  have HRL : Hid (r < w.heap.size) := h.head.lt
  have h2 : ¬((i : Int) < 0) := by omega
  have hiI : (i : Int) < R.L.length := by have := unhide HI; omega
  obtain ⟨z, hz⟩ : ∃ z, (if lc = i + 1 then 0 else (i + 1) * 4) = z := ⟨_, rfl⟩
  have HZZ := hide hz
  have HZ2 : Hid (R.L.drop (i + 1) ≠ [] → z = (i + 1) * 4) := fun hne => by
    rw [← hz, if_neg]
    intro e
    apply hne
    apply List.drop_eq_nil_of_le
    omega
  clear h hl hRG hrng hp hcl hcap hz
  go_enter Try.func28, Try.ntmps28
  go_wp2_with (
    first
    | (refine wpAllocW zL alloc47 4 (by rfl) (by rfl) (by rfl) ?_
       intro W2 p2 e2 B2 K2
       have HF2 : Hid (w.heap.size ≤ p2) := by rw [e2]; exact Nat.le_refl _
       have HZ := hide B2
       have HK := hide K2
       have hc1 := ((unhide HRT).kept0 K2).cell.2.1
       have HRG2 := hide (fun j u hj => K2.cell (unhide HRG j u hj) (by simp))
       clear e2 B2 K2
       refine Stp.go ?_))
  constructor
  go_wp2_with (
    first
    | (go_at_call 49
       refine (unhide P49 _ (unhide HK)).mono ?_
       rintro e V1 ⟨rfl, hw1⟩
       obtain rfl := hw1.symm
       clear hw1
       refine Stp.go ?_))
  constructor
  go_wp2_with (
    first
    | (refine wpLoadA row47 (by rfl) (.tmp 22) (by rfl) g (i * 4) (by kernel_rfl) (l0.C) rfl (unhide HRG2) ?_
       refine Stp.go ?_))
  constructor
  go_wp2_with (
    first
    | (refine wpNew row47 zL rfl alloc47 7 (by rfl) (by rfl) (by rfl) (.tmp 23) (by rfl) (by rfl) (by rfl) l0.C rfl (D_one (unhide HBD).one) (by kernel_rfl) (by kernel_rfl) ?_
       intro W3 p3 e3 B3 K3
       have HP3 := hide B3
       have HF3 : Hid (w.heap.size ≤ p3) := by rw [e3]; exact (unhide HK).size
       replace HZ := hide ((unhide HZ).kept K3 (by simp))
       replace HK := hide ((unhide HK).trans K3)
       have HB := hide ((unhide HRT).kept0 (unhide HK)).head
       have HCL := hide (fun W (hk : Kept [] W3 W) j u (hj : (cellsL R.L)[j]? = some u) => hk.cell ((unhide HK).cell (by have := unhide HCW ⟨g, 0, none⟩ rfl j u hj; rw [Addr.add_lit, Nat.zero_add] at this; exact this) (by simp)) (by simp))
       clear e3 B3 K3 hc1))
  refine wp_region_any mixed (wpAny_gx 19 rfl (by kernel_rfl) [some (P0 r), some (P0 r), some (P0 r), some (.pointer (some ⟨r, 1, none⟩)), some (.slice (some ⟨g, 0, none⟩) R.L.length lc), some (.int .i64 i), some (.slice (some ⟨g, 0, none⟩) i lc), none, some (P0 r), some (P0 r), some (.pointer (some ⟨r, 1, none⟩)), some (.slice (some ⟨g, 0, none⟩) R.L.length lc), some (.int .i64 i), some (.int .i64 ((i : Int) + 1)), some (.slice (some ⟨g, z, none⟩) (R.L.length - (i + 1)) (lc - (i + 1))), none, some (P0 r), some (.pointer (some ⟨r, 1, none⟩)), none] rfl (by kernel_rfl) (fun l vs W => (S28 W3 r [.int .i64 R.nodes, .slice (some ⟨g, 0, none⟩) R.L.length lc, .int .i64 R.last] R.L i) (fun i => l.getD i false) vs W) (⟨fun _ => ⟨⟨rfl, rfl, rfl, Nat.le_refl _, fun _ _ _ => rfl⟩, (fun h => by cases h), fun h => by cases h⟩, fun h => by cases h⟩) ?_ ?_)
  · intro ix o' hi ho a' w2 l vs hls hlf hJ hout hin hdep hnot
    match ix, ho with
    | 0, ho =>
      obtain rfl := Option.some.inj ho
      have e0 := hout 0 (by kernel_rfl)
      replace e0 : a'.eval (.tmp 0) = _ := e0.trans rfl
      exact wp_move (.tmp 0) rfl _ e0 ⟨_, rfl, told_of rfl, keepG (St := (S28 W3 r [.int .i64 R.nodes, .slice (some ⟨g, 0, none⟩) R.L.length lc, .int .i64 R.last] R.L i)) [7, 15, 18] S28.loc (by omega) (by decide) hJ⟩
    | 1, ho =>
      obtain rfl := Option.some.inj ho
      have e0 := hout 0 (by kernel_rfl)
      replace e0 : a'.eval (.tmp 0) = _ := e0.trans rfl
      exact wp_move (.tmp 0) rfl _ e0 ⟨_, rfl, told_of rfl, keepG (St := (S28 W3 r [.int .i64 R.nodes, .slice (some ⟨g, 0, none⟩) R.L.length lc, .int .i64 R.last] R.L i)) [7, 15, 18] S28.loc (by omega) (by decide) hJ⟩
    | 2, ho =>
      obtain rfl := Option.some.inj ho
      have e0 : a'.eval (.tmp 25) = P0 r := by have h9 := hin 1 25 (by kernel_rfl) (by kernel_rfl); exact h9.1.trans (told_is _ h9.2 rfl)
      exact o_nil (.tmp 25) rfl _ e0 ⟨_, rfl, told_of rfl, keepG (St := (S28 W3 r [.int .i64 R.nodes, .slice (some ⟨g, 0, none⟩) R.L.length lc, .int .i64 R.last] R.L i)) [7, 15, 18] S28.loc (by omega) (by decide) hJ⟩
    | 3, ho =>
      obtain rfl := Option.some.inj ho
      have e0 : a'.eval (.tmp 26) = P0 r := by have h9 := hin 2 26 (by kernel_rfl) (by kernel_rfl); exact h9.1.trans (told_is _ h9.2 rfl)
      exact o_fld60_1 (.tmp 26) rfl _ e0 ⟨_, rfl, told_of rfl, keepG (St := (S28 W3 r [.int .i64 R.nodes, .slice (some ⟨g, 0, none⟩) R.L.length lc, .int .i64 R.last] R.L i)) [7, 15, 18] S28.loc (by omega) (by decide) hJ⟩
    | 4, ho =>
      obtain rfl := Option.some.inj ho
      have e0 : a'.eval (.tmp 27) = .pointer (some ⟨r, 1, none⟩) := by have h9 := hin 3 27 (by kernel_rfl) (by kernel_rfl); exact h9.1.trans (told_is _ h9.2 rfl)
      exact o_load43 (.tmp 27) rfl _ _ e0 (fits_cell ((unhide HB).kept (hJ.1 (hnot 18 (by kernel_rfl))).1 (by simp)) 1 _ rfl) ⟨_, rfl, told_of rfl, keepG (St := (S28 W3 r [.int .i64 R.nodes, .slice (some ⟨g, 0, none⟩) R.L.length lc, .int .i64 R.last] R.L i)) [7, 15, 18] S28.loc (by omega) (by decide) hJ⟩
    | 5, ho =>
      obtain rfl := Option.some.inj ho
      have e0 := hout 6 (by kernel_rfl)
      replace e0 : a'.eval (.tmp 6) = _ := e0.trans rfl
      exact wp_move (.tmp 6) rfl _ e0 ⟨_, rfl, told_of rfl, keepG (St := (S28 W3 r [.int .i64 R.nodes, .slice (some ⟨g, 0, none⟩) R.L.length lc, .int .i64 R.last] R.L i)) [7, 15, 18] S28.loc (by omega) (by decide) hJ⟩
    | 6, ho =>
      obtain rfl := Option.some.inj ho
      have e0 : a'.eval (.tmp 28) = .slice (some ⟨g, 0, none⟩) R.L.length lc := by have h9 := hin 4 28 (by kernel_rfl) (by kernel_rfl); exact h9.1.trans (told_is _ h9.2 rfl)
      have e1 : a'.eval (.tmp 29) = .int .i64 i := by have h9 := hin 5 29 (by kernel_rfl) (by kernel_rfl); exact h9.1.trans (told_is _ h9.2 rfl)
      exact o_sl43A (.tmp 28) 29 rfl g _ lc i (unhide HIC) e0 e1 ⟨_, rfl, told_of rfl, keepG (St := (S28 W3 r [.int .i64 R.nodes, .slice (some ⟨g, 0, none⟩) R.L.length lc, .int .i64 R.last] R.L i)) [7, 15, 18] S28.loc (by omega) (by decide) hJ⟩
    | 7, ho =>
      obtain rfl := Option.some.inj ho
      have e0 : a'.eval (.tmp 30) = .slice (some ⟨g, 0, none⟩) i lc := by have h9 := hin 6 30 (by kernel_rfl) (by kernel_rfl); exact h9.1.trans (told_is _ h9.2 rfl)
      exact o_appG (T := 43) (e := 47) (size := 4) (by8 := 48) (z := aggV zL) Try.sl43 Try.info47 rfl (by decide) (by decide) (.const (.slice none 0 0)) (.tmp 30) rfl W3.heap.size (.slice none 0 0) 0 [] (cellsL (R.L.take i)) rfl (World.ownsRow_nil _ _ _ _) (some ⟨g, 0, none⟩) i lc e0 (fun e => by cases e) (by rw [cellsL_len, List.length_take, Nat.min_eq_left (Nat.le_of_lt (unhide HI))]) (fun ad e j u hj => by cases e; rw [Addr.add_lit, Nat.zero_add]; exact unhide HCL w2 (hJ.1 (hnot 18 (by kernel_rfl))).1 j u (cellsL_take hj)) (fun u hu => unhide HON u (by have e : cellsL R.L = cellsL (R.L.take i) ++ cellsL (R.L.drop i) := (by rw [← cellsL_app2, List.take_append_drop]); rw [e]; exact List.mem_append_left _ hu)) (by have := unhide HI; omega) ((hJ.1 (hnot 18 (by kernel_rfl))).1).size fun v' w' h2 h3 h5 => by
        have hk3 : Kept [] w2 w' := kept_grow (Kept.refl _ _) h3 (fun k hk => by cases hk)
        exact ⟨_, rfl, told_no rfl, nextG (St := (S28 W3 r [.int .i64 R.nodes, .slice (some ⟨g, 0, none⟩) R.L.length lc, .int .i64 R.last] R.L i)) (by omega) ⟨fun _ => ⟨(hJ.1 (hnot 18 (by kernel_rfl))).1.trans hk3, fun _ _ => (by rw [Nat.zero_add, List.nil_append] at h2; exact h2), fun h16 => by have h9 : l.getD 15 false = true := h16; rw [hnot 15 (by kernel_rfl)] at h9; cases h9⟩, fun h9 => by have h8 : l.getD 18 false = true := h9; rw [hnot 18 (by kernel_rfl)] at h8; cases h8⟩⟩
    | 8, ho =>
      obtain rfl := Option.some.inj ho
      have e0 := hout 0 (by kernel_rfl)
      replace e0 : a'.eval (.tmp 0) = _ := e0.trans rfl
      exact wp_move (.tmp 0) rfl _ e0 ⟨_, rfl, told_of rfl, keepG (St := (S28 W3 r [.int .i64 R.nodes, .slice (some ⟨g, 0, none⟩) R.L.length lc, .int .i64 R.last] R.L i)) [7, 15, 18] S28.loc (by omega) (by decide) hJ⟩
    | 9, ho =>
      obtain rfl := Option.some.inj ho
      have e0 : a'.eval (.tmp 32) = P0 r := by have h9 := hin 8 32 (by kernel_rfl) (by kernel_rfl); exact h9.1.trans (told_is _ h9.2 rfl)
      exact o_nil (.tmp 32) rfl _ e0 ⟨_, rfl, told_of rfl, keepG (St := (S28 W3 r [.int .i64 R.nodes, .slice (some ⟨g, 0, none⟩) R.L.length lc, .int .i64 R.last] R.L i)) [7, 15, 18] S28.loc (by omega) (by decide) hJ⟩
    | 10, ho =>
      obtain rfl := Option.some.inj ho
      have e0 : a'.eval (.tmp 33) = P0 r := by have h9 := hin 9 33 (by kernel_rfl) (by kernel_rfl); exact h9.1.trans (told_is _ h9.2 rfl)
      exact o_fld60_1 (.tmp 33) rfl _ e0 ⟨_, rfl, told_of rfl, keepG (St := (S28 W3 r [.int .i64 R.nodes, .slice (some ⟨g, 0, none⟩) R.L.length lc, .int .i64 R.last] R.L i)) [7, 15, 18] S28.loc (by omega) (by decide) hJ⟩
    | 11, ho =>
      obtain rfl := Option.some.inj ho
      have e0 : a'.eval (.tmp 34) = .pointer (some ⟨r, 1, none⟩) := by have h9 := hin 10 34 (by kernel_rfl) (by kernel_rfl); exact h9.1.trans (told_is _ h9.2 rfl)
      exact o_load43 (.tmp 34) rfl _ _ e0 (fits_cell ((unhide HB).kept (hJ.1 (hnot 18 (by kernel_rfl))).1 (by simp)) 1 _ rfl) ⟨_, rfl, told_of rfl, keepG (St := (S28 W3 r [.int .i64 R.nodes, .slice (some ⟨g, 0, none⟩) R.L.length lc, .int .i64 R.last] R.L i)) [7, 15, 18] S28.loc (by omega) (by decide) hJ⟩
    | 12, ho =>
      obtain rfl := Option.some.inj ho
      have e0 := hout 6 (by kernel_rfl)
      replace e0 : a'.eval (.tmp 6) = _ := e0.trans rfl
      exact wp_move (.tmp 6) rfl _ e0 ⟨_, rfl, told_of rfl, keepG (St := (S28 W3 r [.int .i64 R.nodes, .slice (some ⟨g, 0, none⟩) R.L.length lc, .int .i64 R.last] R.L i)) [7, 15, 18] S28.loc (by omega) (by decide) hJ⟩
    | 13, ho =>
      obtain rfl := Option.some.inj ho
      have e0 : a'.eval (.tmp 36) = .int .i64 i := by have h9 := hin 12 36 (by kernel_rfl) (by kernel_rfl); exact h9.1.trans (told_is _ h9.2 rfl)
      exact o_add3 (.tmp 36) (.const (.int .i64 1)) rfl i 1 (by have := unhide HI; omega) e0 rfl ⟨_, rfl, told_of rfl, keepG (St := (S28 W3 r [.int .i64 R.nodes, .slice (some ⟨g, 0, none⟩) R.L.length lc, .int .i64 R.last] R.L i)) [7, 15, 18] S28.loc (by omega) (by decide) hJ⟩
    | 14, ho =>
      obtain rfl := Option.some.inj ho
      have e0 : a'.eval (.tmp 35) = .slice (some ⟨g, 0, none⟩) R.L.length lc := by have h9 := hin 11 35 (by kernel_rfl) (by kernel_rfl); exact h9.1.trans (told_is _ h9.2 rfl)
      have e1 : a'.eval (.tmp 37) = .int .i64 ((i : Int) + 1) := by have h9 := hin 13 37 (by kernel_rfl) (by kernel_rfl); exact h9.1.trans (told_is _ h9.2 rfl)
      exact o_sl43B (.tmp 35) 37 rfl g _ lc (i + 1) z (unhide HZZ) (unhide HI) e0 e1 ⟨_, rfl, told_of rfl, keepG (St := (S28 W3 r [.int .i64 R.nodes, .slice (some ⟨g, 0, none⟩) R.L.length lc, .int .i64 R.last] R.L i)) [7, 15, 18] S28.loc (by omega) (by decide) hJ⟩
    | 15, ho =>
      obtain rfl := Option.some.inj ho
      have e0 : a'.eval (.tmp 31) = vs 7 := (hin 7 31 (by kernel_rfl) (by kernel_rfl)).1
      have e1 : a'.eval (.tmp 38) = .slice (some ⟨g, z, none⟩) (R.L.length - (i + 1)) (lc - (i + 1)) := by have h9 := hin 14 38 (by kernel_rfl) (by kernel_rfl); exact h9.1.trans (told_is _ h9.2 rfl)
      have h7 := (hJ.1 (hnot 18 (by kernel_rfl))).2.1 (hdep 7 (by kernel_rfl)) hlf
      exact o_appG (T := 43) (e := 47) (size := 4) (by8 := 48) (z := aggV zL) Try.sl43 Try.info47 rfl (by decide) (by decide) (.tmp 31) (.tmp 38) rfl W3.heap.size (vs 7) i (cellsL (R.L.take i)) (cellsL (R.L.drop (i + 1))) e0 h7 (some ⟨g, z, none⟩) (R.L.length - (i + 1)) (lc - (i + 1)) e1 (fun e => by cases e) (by rw [cellsL_len, List.length_drop]) (fun ad e j u hj => by cases e; rw [Addr.add_lit, unhide HZ2 (fun e => by rw [e] at hj; simp [cellsL] at hj)]; exact unhide HCL w2 (hJ.1 (hnot 18 (by kernel_rfl))).1 _ u (cellsL_drop (unhide HI) hj)) (fun u hu => unhide HON u (by have e : cellsL R.L = cellsL (R.L.take (i + 1)) ++ cellsL (R.L.drop (i + 1)) := (by rw [← cellsL_app2, List.take_append_drop]); rw [e]; exact List.mem_append_right _ hu)) (by have := unhide HI; omega) ((hJ.1 (hnot 18 (by kernel_rfl))).1).size fun v' w' h2 h3 _ => by
        have hk3 : Kept (vs 7).ownBlock.toList w2 w' := kept_grow (Kept.refl _ _) h3 (fun k hk => by rw [hk]; simp)
        exact ⟨_, rfl, told_no rfl, nextG (St := (S28 W3 r [.int .i64 R.nodes, .slice (some ⟨g, 0, none⟩) R.L.length lc, .int .i64 R.last] R.L i)) (by omega) ⟨fun _ => ⟨(hJ.1 (hnot 18 (by kernel_rfl))).1.fresh hk3 (fun i hi hl => by rw [Option.mem_toList] at hi; have := (h7.lt i hi).1; omega), (fun _ h => by cases h), fun _ => h2⟩, fun h9 => by have h8 : l.getD 18 false = true := h9; rw [hnot 18 (by kernel_rfl)] at h8; cases h8⟩⟩
    | 16, ho =>
      obtain rfl := Option.some.inj ho
      have e0 : a'.eval (.tmp 24) = P0 r := by have h9 := hin 0 24 (by kernel_rfl) (by kernel_rfl); exact h9.1.trans (told_is _ h9.2 rfl)
      exact o_nil (.tmp 24) rfl _ e0 ⟨_, rfl, told_of rfl, keepG (St := (S28 W3 r [.int .i64 R.nodes, .slice (some ⟨g, 0, none⟩) R.L.length lc, .int .i64 R.last] R.L i)) [7, 15, 18] S28.loc (by omega) (by decide) hJ⟩
    | 17, ho =>
      obtain rfl := Option.some.inj ho
      have e0 : a'.eval (.tmp 40) = P0 r := by have h9 := hin 16 40 (by kernel_rfl) (by kernel_rfl); exact h9.1.trans (told_is _ h9.2 rfl)
      exact o_fld60_1 (.tmp 40) rfl _ e0 ⟨_, rfl, told_of rfl, keepG (St := (S28 W3 r [.int .i64 R.nodes, .slice (some ⟨g, 0, none⟩) R.L.length lc, .int .i64 R.last] R.L i)) [7, 15, 18] S28.loc (by omega) (by decide) hJ⟩
    | 18, ho =>
      obtain rfl := Option.some.inj ho
      have e0 : a'.eval (.tmp 41) = .pointer (some ⟨r, 1, none⟩) := by have h9 := hin 17 41 (by kernel_rfl) (by kernel_rfl); exact h9.1.trans (told_is _ h9.2 rfl)
      have e1 : a'.eval (.tmp 39) = vs 15 := (hin 15 39 (by kernel_rfl) (by kernel_rfl)).1
      have hO := (hJ.1 hlf).2.2 (hdep 15 (by kernel_rfl))
      have hB9 := (unhide HB).kept (hJ.1 hlf).1 (by simp)
      exact o_st43 (.tmp 41) (.tmp 39) rfl rfl r 1 60 _ (vs 15) e0 e1 (owns_slN' hO) hB9 (by simp) fun W hBW hkW => ⟨_, rfl, told_no rfl, nextG (St := (S28 W3 r [.int .i64 R.nodes, .slice (some ⟨g, 0, none⟩) R.L.length lc, .int .i64 R.last] R.L i)) (by omega) ⟨(fun h => by cases h), fun _ => ⟨vs 15, owns_keptX hO hkW (fun k hk hm => by simp at hm; subst hm; obtain ⟨cs, hc⟩ := owns_block hO k hk; unfold Blk at hB9; rw [hB9] at hc; cases hc), hBW, ((hJ.1 hlf).1.mono (by simp)).trans hkW⟩⟩⟩
  intro l vs w9 hl hJ htold
  have t0 : vs 0 = P0 r := told_is _ (htold 0 (by decide)) rfl
  have t1 : vs 1 = P0 r := told_is _ (htold 1 (by decide)) rfl
  have t2 : vs 2 = P0 r := told_is _ (htold 2 (by decide)) rfl
  have t3 : vs 3 = .pointer (some ⟨r, 1, none⟩) := told_is _ (htold 3 (by decide)) rfl
  have t4 : vs 4 = .slice (some ⟨g, 0, none⟩) R.L.length lc := told_is _ (htold 4 (by decide)) rfl
  have t5 : vs 5 = .int .i64 i := told_is _ (htold 5 (by decide)) rfl
  have t6 : vs 6 = .slice (some ⟨g, 0, none⟩) i lc := told_is _ (htold 6 (by decide)) rfl
  have t8 : vs 8 = P0 r := told_is _ (htold 8 (by decide)) rfl
  have t9 : vs 9 = P0 r := told_is _ (htold 9 (by decide)) rfl
  have t10 : vs 10 = .pointer (some ⟨r, 1, none⟩) := told_is _ (htold 10 (by decide)) rfl
  have t11 : vs 11 = .slice (some ⟨g, 0, none⟩) R.L.length lc := told_is _ (htold 11 (by decide)) rfl
  have t12 : vs 12 = .int .i64 i := told_is _ (htold 12 (by decide)) rfl
  have t13 : vs 13 = .int .i64 ((i : Int) + 1) := told_is _ (htold 13 (by decide)) rfl
  have t14 : vs 14 = .slice (some ⟨g, z, none⟩) (R.L.length - (i + 1)) (lc - (i + 1)) := told_is _ (htold 14 (by decide)) rfl
  have t16 : vs 16 = P0 r := told_is _ (htold 16 (by decide)) rfl
  have t17 : vs 17 = .pointer (some ⟨r, 1, none⟩) := told_is _ (htold 17 (by decide)) rfl
  rw [show (List.range 19).map vs = [vs 0, vs 1, vs 2, vs 3, vs 4, vs 5, vs 6, vs 7, vs 8, vs 9, vs 10, vs 11, vs 12, vs 13, vs 14, vs 15, vs 16, vs 17, vs 18] from rfl]
  simp only [t0, t1, t2, t3, t4, t5, t6, t8, t9, t10, t11, t12, t13, t14, t16, t17, putAll, Act.put, List.setIfInBounds_toArray, List.set_cons_succ, List.set_cons_zero]
  clear t0 t1 t2 t3 t4 t5 t6 t8 t9 t10 t11 t12 t13 t14 t16 t17 htold
  obtain ⟨lv', hO, hB9, hK9⟩ := hJ.2 (hl 18 (by decide))
  have hB9' : Blk w9 r 60 [.int .i64 R.nodes, lv', .int .i64 R.last] := hB9
  have HO9 := hide hO
  have HB9 := hide hB9'
  have HK9 := hide hK9
  have HP9 : Hid (Blk w9 p3 47 l0.C) := (unhide HP3).kept hK9 (by have : w.heap.size ≤ p3 := unhide HF3; have : r < w.heap.size := unhide HRL; simp; omega)
  have HZ9 : Hid (Blk w9 p2 47 zL) := (unhide HZ).kept hK9 (by have : w.heap.size ≤ p2 := unhide HF2; have : r < w.heap.size := unhide HRL; simp; omega)
  clear hJ hl hO hB9 hB9' hK9
  go_wp2_with (
    first
    | (refine wpLoadA row47 (by rfl) (.tmp 7) (by rfl) p3 0 (by kernel_rfl) (l0.C) rfl (unhide HP9).range ?_
       refine Stp.go ?_))
  constructor
  go_wp2_with (
    first
    | (refine wpStoreW row47 (by rfl) (.tmp 4) (.tmp 42) (by rfl) (by rfl) p2 zL l0.C (by kernel_rfl) (by kernel_rfl) rfl (D_one (unhide HBD).one) (unhide HZ9) rfl ?_
       intro W5 B5 K5
       have HZ5 := hide B5
       have HK5 := hide K5
       clear B5 K5))
  have hk : Kept [r] w W5 := (((unhide HK).mono (by simp)).trans (unhide HK9)).fresh (unhide HK5) (fun i hi hl => by have : w.heap.size ≤ p2 := unhide HF2; simp at hi; omega)
  have hne : r ≠ p2 := by have : w.heap.size ≤ p2 := unhide HF2; have : r < w.heap.size := unhide HRL; omega
  refine bodyPost_ret (res28 _ p2 l0.C 0 _ rfl rfl rfl (unhide HZ5)) rfl ⟨lv', rfl, ⟨(unhide HB9).kept (unhide HK5) (by simp; exact hne), ?_, fun l hl => ?_⟩, ?_, hk⟩
  · show W5.ownsRow 0 47 4 lv' (R.L.eraseIdx i).length (cellsL (R.L.eraseIdx i))
    rw [List.eraseIdx_eq_take_drop_succ, cellsL_app2, List.length_append, List.length_take, List.length_drop, Nat.min_eq_left (Nat.le_of_lt (unhide HI))]
    exact owns_base (owns_keptX (unhide HO9) (unhide HK5) (fun k e hm => by simp at hm; subst hm; have := ((unhide HO9).lt _ e).1; have := (unhide HZ).lt; omega)) (Nat.zero_le _)
  · have hb := (unhide HRT).body l (List.mem_of_mem_eraseIdx hl)
    exact hb.kept hk (fun k e hm => by simp at hm; subst hm; obtain ⟨cs, hc⟩ := hb.block k e; have h1 := (unhide HRT).head; unfold Blk at h1; rw [h1] at hc; cases hc)
  · exact (unhide HBD).kept hk (fun k e hm => by simp at hm; subst hm; obtain ⟨cs, hc⟩ := (unhide HBD).block k e; have h1 := (unhide HRT).head; unfold Blk at h1; rw [h1] at hc; cases hc)

end Go.Proofs.Ytpcggcicpojdoaa
