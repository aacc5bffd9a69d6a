/-
  Going over the marks: All's iterator.
-/
import Derived.Test.YthihladmifpokaaRa
namespace Go.Proofs.Ythihladmifpokaa
set_option maxRecDepth 100000
set_option linter.unusedSimpArgs false
open Go.RowKit Go.Shelf
attribute [local go_sem] Oper.semAt_some


section
variable {F : Fence} {n : Nat} {ops : Array Oper} {rest : List Oper} {o : Oper} {a : Act} {w : World} {Q : Exit → Act → World → Prop}
theorem run_idx28 (o : Oper) (x y : Operand) (ho : o.op = .indexAddr 28 x y) (g off m c k : Nat) (hk : k < m) (hx : a.eval x = .slice (some ⟨g, off, none⟩) m c) (hy : a.eval y = .int .i64 k) (w : World) : (execOp a.eval o).run Try.prog w = .ok (.value (.pointer (some ⟨g, off + k * 3, none⟩))) w := by
  have hkI : (k : Int) < m := by omega
  unfold execOp
  simp only [ho, hx, hy]
  simp [go_sem, hkI]
theorem inIdx28 (hF : ∀ f, F.fn f) (hw : Region.wanted o (yielded ops a.tmps) = true) (x y : Operand) (ho : o.op = .indexAddr 28 x y) (hsem : o.semAt F.round a.eval = execOp a.eval o) (v : Value) (D : List Mk) (j : Nat) (m : Mk) (hx : a.eval x = v) (hy : a.eval y = .int .i64 j) (hI : Ms w v D) (hm : D[j]? = some m)
    (h : ∀ g off, w.rangeAt g off m.C → wpListIn F n Try.prog ops Q rest (a.put o.dst (.pointer (some ⟨g, off, none⟩))) w) : wpListIn F n Try.prog ops Q (o :: rest) a w := by
  obtain ⟨g, off, c, rfl, hc⟩ := hI.get hm
  have hj := (List.getElem?_eq_some_iff.1 hm).1
  exact wpListIn_want hw (wpIn_value hF hsem (run_idx28 o x y ho g off _ c j hj hx hy w) (h _ _ hc))
end
variable {w W W' V : World} {b mb c : Nat} {M L : List Mk}
/-- The marks' cells. -/
def allC (L : List Mk) : List (List Value) := L.map Mk.C
theorem allC_len (L : List Mk) : (allC L).length = L.length := by simp [allC]
theorem allC_at {L : List Mk} {k : Nat} {x : Mk} (h : L[k]? = some x) : (allC L)[k]? = some x.C := by unfold allC; rw [List.getElem?_map, h]; rfl
theorem allC_of {L : List Mk} {k : Nat} {x : List Value} (h : (allC L)[k]? = some x) : ∃ m, L[k]? = some m ∧ m.C = x := by
  unfold allC at h
  rw [List.getElem?_map] at h
  cases hq : L[k]? with
  | none => rw [hq] at h; cases h
  | some f => rw [hq] at h; exact ⟨f, rfl, Option.some.inj h⟩
theorem cg45 (vs : Array Value) (w : World) : (callFunc 45 vs).run Try.prog w = .ok (.enter 45 vs) w := by kernel_rfl
theorem tells46 (w : World) : Tells w 46 #[] (fun _ => true) := fun W _ x => clo46 W x
theorem filter_true (L : List Mk) : L.filter (fun _ => true) = L := List.filter_eq_self.2 (fun _ _ => rfl)
set_option maxHeartbeats 4000000 in
theorem all45_in (l : Nat) (X : List Nat) (hX : ∀ k ∈ X, k < V.heap.size) (hc : Blk V c 25 [P0 b]) (hP : Pg V b mb M) (hp : L.Perm M) (hs : Srt L) : ItX 2 45 c (allC L) V l X := by
  intro J Jx hJ hJx hY h0
  have hFw := wideF
  have hmany : L.length ≤ 256 := by rw [hp.length_eq]; exact hP.ok.many
  have c1 := fits_cell hc 0 _ rfl
  have HP := hide hP
  have HPM := hide hp
  have HSL := hide hs
  have HX := hide hX
  have H0 := hide h0
  have HJ := hide hJ
  have HJX := hide hJx
  have HY := hide hY
  rw [allC_len]
  clear hc hP hp hs hX h0 hJ hJx hY
  rw [callsIn_wide]
  go_enter Try.func45, Try.ntmps45
  go_wp2_with (
    first
    | (go_at_call 43
       refine (those43 (unhide HP) (unhide HPM) (unhide HSL) ent46 (tells46 V)).mono ?_
       rintro e W1 ⟨v, rfl, m1, o1, K1⟩
       rw [filter_true] at m1
       obtain ⟨ao, cc, rfl, -, -⟩ := Rw.sl m1
       have HM := hide m1
       have HO := hide o1
       have HK := hide K1
       clear m1 o1 K1
       refine Stp.go ?_))
  constructor
  go_wp2_with fail
  have HI0 : Hid (J 0 W1) := unhide HJ _ _ _ _ (unhide H0) (unhide HK) (by simp)
  have HK0 : Hid (Kept X V W1) := hide ((unhide HK).mono (by simp))
  have HS1 : Hid (V.heap.size ≤ W1.heap.size) := (unhide HK).size
  clear H0
  rw [← wpIn_wide (n := 2)]
  gi_loopw [8] (fun i w1 => ∃ k : Nat, k ≤ L.length ∧ i = .int .i64 k ∧ Hid (J k w1) ∧ Hid (Kept X V w1) ∧ Hid (Ms w1 (.slice ao L.length cc) L)) (fun i _ => L.length - (intOf i).toNat)
  case atStart => exact ⟨0, by omega, rfl, HI0, HK0, HM⟩
  case round =>
    clear HI0 HK0 HM HK
    obtain ⟨k, hk, rfl, HI, HK, HM⟩ := hrel
    by_cases hlt : k < L.length
    · have hd : decide ((k : Int) < (L.length : Int)) = true := by simp; omega
      obtain ⟨x, hx⟩ : ∃ x, L[k]? = some x := ⟨_, List.getElem?_eq_getElem hlt⟩
      have HXK := hide hx
      have HAT := hide (allC_at hx)
      clear hx
      gi_wp2_with (
        first
        | (refine inIdx28 wideF (by rfl) (.tmp 6) (.tmp 8) (by rfl) (by rfl) _ L k x (by rfl) (by rfl) (unhide HM) (unhide HXK) ?_
           intro g off hr
           have HR := hide hr
           clear hr)
        | (refine inLoadA row54 wideF (by rfl) (.tmp 10) (by rfl) (by rfl) g off (by rfl) x.C rfl (unhide HR) ?_)
        | (refine inNew row54 mk0.C rfl zero54 4 (by rfl) wideF (by rfl) (by rfl) (by rfl) (.tmp 11) (by rfl) (by rfl) (fun _ => by rfl) (by rfl) x.C rfl x.one (by rfl) (by rfl) ?_
           intro W7 q4 e4 B4 K4
           have HB4 := hide B4
           replace HI := hide (unhide HJ _ _ _ _ (unhide HI) K4 (by simp))
           replace HK := hide ((unhide HK).trans (K4.mono (by simp)))
           replace HM := hide ((unhide HM).kept K4 (by simp))
           obtain ⟨fn, tmps, assign, body, hy, hR9⟩ := unhide HY _ _ W7 (unhide HAT) (unhide HI) (unhide HK).size
           have hR' := hide hR9
           clear hR9
           clear e4 B4 K4)
        | (refine inLoadA row54 wideF (by rfl) (.tmp 4) (by rfl) (by rfl) q4 0 (by rfl) x.C rfl (unhide HB4).range ?_))
      refine (unhide hR').mono ?_
      rintro e W8 ⟨K8, ⟨rfl, hI8⟩ | ⟨rfl, hX8⟩⟩
      · have HI8 := hide hI8
        replace HK := hide ((unhide HK).trans K8)
        replace HM := hide ((unhide HM).kept K8 (fun k hk hx => by have h8 := (unhide HO) k hk; have h9 := (unhide HX) k hx; omega))
        clear hI8 hR' hy K8
        gi_wp2
        go_roundw
        case rel => exact ⟨k + 1, by omega, by go_num, HI8, HK, HM⟩
        case measure => simp [intOf]; omega
      · have HX8 := hide hX8
        replace HK := hide ((unhide HK).trans K8)
        clear hX8 hR' hy K8
        gi_wp2
        refine bodyPost_ret (results_none rfl _ _ _) rfl ?_
        exact ⟨⟨_, rfl⟩, unhide HK, .inr ⟨k, hlt, unhide HX8⟩⟩
    · obtain rfl : k = L.length := by omega
      have hd : decide ((L.length : Int) < (L.length : Int)) = false := by simp
      gi_wp2_with fail
      go_end0
      exact ⟨⟨_, rfl⟩, unhide HK, .inl (unhide HI)⟩

end Go.Proofs.Ythihladmifpokaa
