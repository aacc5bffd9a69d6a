/-
  The document's past images: less; single operations on its row.
-/
import Derived.Test.YthihladmifpokaaSc
import Derived.Great.BuildSlice
namespace Go.Proofs.Ythihladmifpokaa
set_option maxRecDepth 100000
set_option linter.unusedSimpArgs false
open Go.RowKit


theorem size30 : (Try.prog.info? 30).map (·.size) = some 1 := by kernel_rfl
theorem size28 : (Try.prog.info? 28).map (·.size) = some 1 := by kernel_rfl
section
variable {ops : Array Oper} {rest : List Oper} {op o : Oper} {a : Act} {w : World} {K : Act → World → Prop} {Q : Exit → Act → World → Prop}
theorem o_fld30_0 (x : Operand) (ho : o.op = .fieldAddr 30 x 0) (b i j : Nat) (hj : i = j) (hx : a.eval x = .pointer (some ⟨b, i, none⟩)) (h : K (a.put o.dst (.pointer (some ⟨b, j, none⟩))) w) : o.wp Try.prog a w K Q := by
  subst hj
  unfold Oper.wp execOp
  simp only [ho, hx]
  simp [go_sem]
  exact h
theorem o_len28 (x : Operand) (ho : o.op = .call { callee := .builtin .len, args := #[x], argTypes := #[28] }) (ao : Option Addr) (m c : Nat) (hx : a.eval x = .slice ao m c) (h : K (a.put o.dst (.int .i64 m)) w) : o.wp Try.prog a w K Q := by
  have hr : (Builtin.len_ #[28] o.type #[.slice ao m c]).run Try.prog w = .ok (.int .i64 m) w := by
    unfold Builtin.len_
    simp [Sem.run_bind, run_underlying Try.underlying28, goInt]
  unfold Oper.wp execOp
  simp only [ho, resolve, invoke, builtin, Sem.run_bind, Sem.run_pure, Result.andThen_ok, List.map_toArray, List.map_cons, List.map_nil, hx, hr]
  exact h
theorem o_idx28 (x y : Operand) (ho : o.op = .indexAddr 28 x y) (g off m c k : Nat) (hk : k < m) (hx : a.eval x = .slice (some ⟨g, off, none⟩) m c) (hy : a.eval y = .int .i64 k) (h : K (a.put o.dst (.pointer (some ⟨g, off + k * 3, none⟩))) w) : o.wp Try.prog a w K Q := by
  unfold Oper.wp
  rw [run_idx28 o x y ho g off m c k hk hx hy w]
  exact h
theorem wpIdx28 (hgd : op.guard = none) (x y : Operand) (ho : op.op = .indexAddr 28 x y) (v : Value) (D : List Mk) (j : Nat) (m : Mk) (hx : a.eval x = v) (hy : a.eval y = .int .i64 j) (hI : Ms w v D) (hm : D[j]? = some m) (h : ∀ g o', w.rangeAt g o' m.C → wpList Try.prog ops Q rest (a.put op.dst (.pointer (some ⟨g, o', none⟩))) w) : wpList Try.prog ops Q (op :: rest) a w :=
  wpList_plain hgd fun _ hK => by
    obtain ⟨g, off, c, rfl, hc⟩ := hI.get hm
    exact o_idx28 x y ho g off _ c j (List.getElem?_eq_some_iff.1 hm).1 hx hy (hK _ _ (h g _ hc))
theorem wpIdx28W (hw : Region.wanted op (yielded ops a.tmps) = true) (x y : Operand) (ho : op.op = .indexAddr 28 x y) (v : Value) (D : List Mk) (j : Nat) (m : Mk) (hx : a.eval x = v) (hy : a.eval y = .int .i64 j) (hI : Ms w v D) (hm : D[j]? = some m) (h : ∀ g o', w.rangeAt g o' m.C → wpList Try.prog ops Q rest (a.put op.dst (.pointer (some ⟨g, o', none⟩))) w) : wpList Try.prog ops Q (op :: rest) a w :=
  BigFrame.wpList_want hw fun _ hK => by
    obtain ⟨g, off, c, rfl, hc⟩ := hI.get hm
    exact o_idx28 x y ho g off _ c j (List.getElem?_eq_some_iff.1 hm).1 hx hy (hK _ _ (h g _ hc))
end
theorem range_c {W : World} {g o' : Nat} {m : Mk} (h : W.rangeAt g o' m.C) : W.cell? ⟨g, o', none⟩ = some (.int .i64 m.p) ∧ W.cell? ⟨g, o' + 1, none⟩ = some (.int .i64 m.s) ∧ W.cell? ⟨g, o' + 2, none⟩ = some (.int .i64 m.f) := ⟨h 0 _ rfl, h 1 _ rfl, h 2 _ rfl⟩
/-- The document's past images stand in memory. -/
structure Rp (W : World) (r : Nat) (v : Value) (L : List Mk) : Prop where
  blk : Blk W r 30 [v]
  row : Ms W v L
  many : L.length ≤ 256
variable {w W W' : World} {r : Nat} {v : Value} {L : List Mk} {X : List Nat}
theorem Rp.step (h : Rp W r v L) (hk : Kept X W W') (h1 : r ∉ X) (h2 : ∀ k, v.ownBlock = some k → k ∉ X) : Rp W' r v L := ⟨h.blk.kept hk h1, h.row.kept hk h2, h.many⟩
theorem Rp.step0 (h : Rp W r v L) (hk : Kept [] W W') : Rp W' r v L := h.step hk (by simp) (fun k _ => by simp)
theorem Rp.sl (h : Rp W r v L) : ∃ ao c, v = .slice ao L.length c := by
  obtain ⟨ao, c, rfl, _⟩ := h.row.sl
  exact ⟨ao, c, rfl⟩
theorem Rp.ne (h : Rp W r v L) : v.ownBlock ≠ some r := fun e => by
  have := h.row.ne h.blk (by decide) r e
  simp at this
theorem Rp.cw (h : Rp W r v L) : W.cell? ⟨r, 0, none⟩ = some v := fits_cell h.blk 0 _ rfl
/-- Where a mark of it lies. -/
theorem Rp.at (h : Rp W r v L) {k : Nat} (hk : k < L.length) : ∃ g off c, v = .slice (some ⟨g, off, none⟩) L.length c ∧ ∀ j m, L[j]? = some m → W.rangeAt g (off + j * 3) m.C := by
  obtain ⟨m, hm⟩ : ∃ m, L[k]? = some m := ⟨_, List.getElem?_eq_getElem hk⟩
  obtain ⟨g, off, c, hv, _⟩ := h.row.get hm
  refine ⟨g, off, c, hv, fun j m' hm' => ?_⟩
  obtain ⟨g', off', c', hv', hr⟩ := h.row.get hm'
  rw [hv] at hv'
  cases hv'
  exact hr
set_option maxHeartbeats 2000000 in
theorem less41 (x y : Mk) (w : World) : Calls Try.prog 41 #[aggV x.C, aggV y.C] w fun e W => e = .returned (.bool (lessB x y)) ∧ Kept [] w W := by
  by_cases h1 : x.p < y.p
  · have d1 : decide (x.p < y.p) = true := by simpa using h1
    have HV : Hid (lessB x y = true) := lessB_iff.2 (.inl h1)
    clear h1
    go_enter Try.func41, Try.ntmps41
    go_wp2_with (
      first
      | (refine wpBoxV rfl (.tmp 0) rfl x.C rfl ?_
         intro W1 b1 e1 B1 K1
         have HB1 := hide B1
         have HK := hide K1
         clear e1 B1 K1
         refine Stp.go ?_))
    constructor
    go_wp2_with (
      first
      | (refine wpBoxV rfl (.tmp 1) rfl y.C rfl ?_
         intro W2 b2 e1 B2 K2
         have c0 := fits_cell ((unhide HB1).kept K2 (by simp)) 0 _ rfl
         have c1 := fits_cell ((unhide HB1).kept K2 (by simp)) 1 _ rfl
         have c3 := fits_cell B2 0 _ rfl
         have c4 := fits_cell B2 1 _ rfl
         replace HK := hide ((unhide HK).trans K2)
         clear e1 B2 K2 HB1
         refine Stp.go ?_))
    constructor
    go_wp2_with fail
    go_ret
    exact ⟨by rw [unhide HV]; rfl, unhide HK⟩
  · have d1 : decide (x.p < y.p) = false := by simpa using h1
    by_cases h2 : x.p = y.p
    · have d2 : (x.p == y.p) = true := by simpa using h2
      have d3 : decide (x.p = y.p) = true := by simpa using h2
      by_cases h3 : x.s < y.s
      · have d4 : decide (x.s < y.s) = true := by simpa using h3
        have HV : Hid (lessB x y = true) := lessB_iff.2 (.inr ⟨h2, h3⟩)
        clear h1 h2 h3
        go_enter Try.func41, Try.ntmps41
        go_wp2_with (
          first
          | (refine wpBoxV rfl (.tmp 0) rfl x.C rfl ?_
             intro W1 b1 e1 B1 K1
             have HB1 := hide B1
             have HK := hide K1
             clear e1 B1 K1
             refine Stp.go ?_))
        constructor
        go_wp2_with (
          first
          | (refine wpBoxV rfl (.tmp 1) rfl y.C rfl ?_
             intro W2 b2 e1 B2 K2
             have c0 := fits_cell ((unhide HB1).kept K2 (by simp)) 0 _ rfl
             have c1 := fits_cell ((unhide HB1).kept K2 (by simp)) 1 _ rfl
             have c3 := fits_cell B2 0 _ rfl
             have c4 := fits_cell B2 1 _ rfl
             replace HK := hide ((unhide HK).trans K2)
             clear e1 B2 K2 HB1
             refine Stp.go ?_))
        constructor
        go_wp2_with fail
        go_ret
        exact ⟨by rw [unhide HV]; rfl, unhide HK⟩
      · have d4 : decide (x.s < y.s) = false := by simpa using h3
        have HV : Hid (lessB x y = false) := lessB_no.2 (by omega)
        clear h1 h2 h3
        go_enter Try.func41, Try.ntmps41
        go_wp2_with (
          first
          | (refine wpBoxV rfl (.tmp 0) rfl x.C rfl ?_
             intro W1 b1 e1 B1 K1
             have HB1 := hide B1
             have HK := hide K1
             clear e1 B1 K1
             refine Stp.go ?_))
        constructor
        go_wp2_with (
          first
          | (refine wpBoxV rfl (.tmp 1) rfl y.C rfl ?_
             intro W2 b2 e1 B2 K2
             have c0 := fits_cell ((unhide HB1).kept K2 (by simp)) 0 _ rfl
             have c1 := fits_cell ((unhide HB1).kept K2 (by simp)) 1 _ rfl
             have c3 := fits_cell B2 0 _ rfl
             have c4 := fits_cell B2 1 _ rfl
             replace HK := hide ((unhide HK).trans K2)
             clear e1 B2 K2 HB1
             refine Stp.go ?_))
        constructor
        go_wp2_with fail
        go_ret
        exact ⟨by rw [unhide HV]; rfl, unhide HK⟩
    · have d2 : (x.p == y.p) = false := by simpa using h2
      have d3 : decide (x.p = y.p) = false := by simpa using h2
      have HV : Hid (lessB x y = false) := lessB_no.2 (by omega)
      clear h1 h2
      go_enter Try.func41, Try.ntmps41
      go_wp2_with (
        first
        | (refine wpBoxV rfl (.tmp 0) rfl x.C rfl ?_
           intro W1 b1 e1 B1 K1
           have HB1 := hide B1
           have HK := hide K1
           clear e1 B1 K1
           refine Stp.go ?_))
      constructor
      go_wp2_with (
        first
        | (refine wpBoxV rfl (.tmp 1) rfl y.C rfl ?_
           intro W2 b2 e1 B2 K2
           have c0 := fits_cell ((unhide HB1).kept K2 (by simp)) 0 _ rfl
           have c1 := fits_cell ((unhide HB1).kept K2 (by simp)) 1 _ rfl
           have c3 := fits_cell B2 0 _ rfl
           have c4 := fits_cell B2 1 _ rfl
           replace HK := hide ((unhide HK).trans K2)
           clear e1 B2 K2 HB1
           refine Stp.go ?_))
      constructor
      go_wp2_with fail
      go_ret
      exact ⟨by rw [unhide HV]; rfl, unhide HK⟩

end Go.Proofs.Ythihladmifpokaa
