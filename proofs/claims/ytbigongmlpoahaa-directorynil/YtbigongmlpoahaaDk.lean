/-
  rising: the locks in the order of their pages.
-/
import Derived.Test.YtbigongmlpoahaaDj
namespace Go.Proofs.Ytbigongmlpoahaa.D
set_option maxRecDepth 100000
set_option linter.unusedSimpArgs false
open Go.RowKit Go.Shelf
attribute [local go_sem] Oper.semAt_some


section
variable {ops : Array Oper} {rest : List Oper} {op : Oper} {a : Act} {w : World} {Q : Exit → Act → World → Prop}
theorem wpBoxQ {T : Nat} (hgd : op.guard = none) (x : Operand) (ho : op.op = .box T x) (p : Option Addr) (hx : a.eval x = .pointer p)
    (h : ∀ W b, b = w.heap.size → Blk W b T [.pointer p] → Kept [] w W → wpList Try.prog ops Q rest (a.put op.dst (P0 b)) W) : wpList Try.prog ops Q (op :: rest) a w :=
  wpList_plain hgd fun _ hK => by
    unfold Oper.wp execOp
    simp only [ho, hx]
    exact hK _ _ (h _ _ rfl (Blk.new w T _) ((Kept.refl _ _).alloc _))
end
section
variable {F : Fence} {n : Nat} {ops : Array Oper} {rest : List Oper} {o : Oper} {a : Act} {w : World} {Q : Exit → Act → World → Prop}
theorem inLook2 (hF : ∀ f, F.fn f) (hw : Region.wanted o (yielded ops a.tmps) = true) (x y : Operand) (ho : o.op = .lookup 53 x y true) (hsem : o.semAt F.round a.eval = execOp a.eval o) (mb : Nat) (L : List En) (m : Int) (v : Value) (f : Bool) (hx : a.eval x = .map (some mb)) (hy : a.eval y = .int .i64 m) (hv : lookV m L = v) (hf : (placeOf m L 0).isSome = f) (hM : MapAt w mb L)
    (h : wpListIn F n Try.prog ops Q rest (a.put o.dst (.tuple #[v, .bool f])) w) : wpListIn F n Try.prog ops Q (o :: rest) a w := by
  subst hv
  subst hf
  refine wpListIn_want hw (wpIn_value (v := .tuple #[lookV m L, .bool (placeOf m L 0).isSome]) (w' := w) hF hsem ?_ h)
  unfold execOp
  simp only [ho, hx, hy, Sem.run_bind, run_look w mb L m hM, Result.andThen_ok, Sem.run_pure]
end
/-- The locks of the pages below p, by rising pages. -/
def riseTo (p : Nat) (L : List Lk) : List Lk := (List.range p).filterMap fun i : Nat => lkOf (i : Int) L
def rise (L : List Lk) : List Lk := riseTo 16 L
theorem riseTo_succ (p : Nat) (L : List Lk) : riseTo (p + 1) L = riseTo p L ++ (lkOf (p : Int) L).toList := by
  unfold riseTo
  rw [List.range_succ, List.filterMap_append]
  congr 1
theorem riseTo_pre {p q : Nat} (h : p ≤ q) (L : List Lk) : riseTo p L <+: riseTo q L := by
  induction q with
  | zero => obtain rfl : p = 0 := by omega
            exact List.prefix_rfl
  | succ q ih =>
    by_cases e : p = q + 1
    · rw [e]; exact List.prefix_rfl
    · rw [riseTo_succ]
      exact (ih (by omega)).trans (List.prefix_append _ _)
theorem rise_at {p : Nat} {L : List Lk} {y : Lk} (hp : p < 16) (h : lkOf (p : Int) L = some y) : (rise L)[(riseTo p L).length]? = some y := by
  have h1 := riseTo_pre (show p + 1 ≤ 16 by omega) L
  obtain ⟨T, hT⟩ := h1
  unfold rise
  rw [← hT, riseTo_succ, h]
  simp
/-- What rising hands on. -/
def RiE (L : List Lk) (k : Nat) (x : Array Value) (_ : World) : Prop := ∃ y, (rise L)[k]? = some y ∧ x = #[.int .i64 y.k, P0 y.p]
theorem RiE.two {L : List Lk} {k : Nat} {x : Array Value} {W : World} (h : RiE L k x W) : x.size = 2 := by
  obtain ⟨y, _, rfl⟩ := h
  rfl
theorem ent73 : Ent 73 := fun vs w => by kernel_rfl
theorem rising38 (p : Option Addr) (w : World) : Calls Try.prog 38 #[.pointer p] w fun e W => ∃ c, e = .returned (fnV 73 #[P0 c]) ∧ Blk W c 42 [.pointer p] ∧ w.heap.size ≤ c ∧ Kept [] w W := by
  go_enter Try.func38, Try.ntmps38
  go_wp2_with (
    first
    | (refine wpBoxQ rfl (.tmp 0) rfl p rfl ?_
       intro W1 c e1 B1 K1
       have HB := hide B1
       have HC : Hid (w.heap.size ≤ c) := by show _ ≤ _; omega
       have HK := hide K1
       clear e1 B1 K1
       refine Stp.go ?_))
  constructor
  go_wp2_with fail
  go_ret
  exact ⟨c, rfl, unhide HB, unhide HC, unhide HK⟩
variable {V : World} {b mb c : Nat} {L : List Lk}
set_option maxHeartbeats 4000000 in
theorem rising73_in (l : Nat) (X : List Nat) (hc : Blk V c 42 [P0 b]) (hb : Blk V b 55 [.map (some mb)]) (hm : MapAt V mb (L.map Lk.e)) (hA : ∃ A, Dg A V b mb L) (h1 : c ∉ X) (h2 : b ∉ X) (h3 : mb ∉ X) : ItV 2 73 #[P0 c] (rise L).length (RiE L) V l X := by
  intro J Jx hJ hJx hY h0
  obtain ⟨A, hD⟩ := hA
  have hFw := wideF
  have HC := hide hc
  have HBb := hide hb
  have HM := hide hm
  have HDG := hide hD
  have HX1 := hide h1
  have HX2 := hide h2
  have HX3 := hide h3
  have H0 := hide h0
  have HJ := hide hJ
  have HJX := hide hJx
  have HY := hide hY
  have c1 := fits_cell hc 0 _ rfl
  clear hc hb hm h1 h2 h3 h0 hJ hJx hY hD
  rw [callsIn_wide]
  show Calls Try.prog 73 #[.func (.yield l) #[] #[], P0 c] V _
  go_enter Try.func73, Try.ntmps73
  go_wp2_with (
    first
    | (go_at_call 35
       refine (none35 (unhide HDG)).mono ?_
       rintro e W9 ⟨rfl, q9⟩
       replace q9 := q9.symm
       subst q9
       refine Stp.go ?_))
  constructor
  go_wp2_with fail
  have HI0 : Hid (J 0 V) := H0
  have HK0 : Hid (Kept X V V) := hide (Kept.refl _ _)
  clear H0 c1
  rw [← wpIn_wide (n := 2)]
  gi_loopw [8] (fun i w1 => ∃ p : Nat, p ≤ 16 ∧ i = .int .i64 p ∧ Hid (J (riseTo p L).length w1) ∧ Hid (Kept X V w1)) (fun i _ => 16 - (intOf i).toNat)
  case atStart => exact ⟨0, by omega, rfl, by rw [show (riseTo 0 L).length = 0 from rfl]; exact HI0, HK0⟩
  case round =>
    clear HI0 HK0
    obtain ⟨p, hp, rfl, HI, HK⟩ := hrel
    by_cases hlt : p < 16
    · have hpI : (p : Int) < 16 := by omega
      have hd : decide ((p : Int) < 16) = true := by simpa using hpI
      have c1 := fits_cell ((unhide HC).kept (unhide HK) (unhide HX1)) 0 _ rfl
      have c0 := fits_cell ((unhide HBb).kept (unhide HK) (unhide HX2)) 0 _ rfl
      have hk1 := look_lk (p : Int) L
      cases hq : lkOf (p : Int) L with
      | none =>
        rw [hq] at hk1
        have HL : Hid (lookV (p : Int) (L.map Lk.e) = .pointer none) := hk1.1
        have HF : Hid ((placeOf (p : Int) (L.map Lk.e) 0).isSome = false) := hk1.2
        have HS : Hid ((riseTo (p + 1) L).length = (riseTo p L).length) := by show _ = _; rw [riseTo_succ, hq]; simp
        clear hk1 hq
        gi_wp2_with (
          first
          | (refine inLook2 wideF (by rfl) (.tmp 15) (.tmp 16) (by rfl) (by rfl) mb (L.map Lk.e) (p : Int) _ false (by rfl) (by rfl) (unhide HL) (unhide HF) ((unhide HM).kept (unhide HK) (unhide HX3)) ?_))
        go_roundw
        case rel => exact ⟨p + 1, by omega, by go_num, by rw [unhide HS]; exact HI, HK⟩
        case measure => simp [intOf]; omega
      | some y =>
        rw [hq] at hk1
        have HL : Hid (lookV (p : Int) (L.map Lk.e) = P0 y.p) := hk1.1
        have HF : Hid ((placeOf (p : Int) (L.map Lk.e) 0).isSome = true) := hk1.2
        have HS : Hid ((riseTo (p + 1) L).length = (riseTo p L).length + 1) := by show _ = _; rw [riseTo_succ, hq]; simp
        have hat := rise_at hlt hq
        have hkl : (riseTo p L).length < (rise L).length := (List.getElem?_eq_some_iff.1 hat).1
        have HKL := hide hkl
        have hyk := (lkOf_some hq).2
        obtain ⟨fn, tmps, assign, body, hy, hR9⟩ := unhide HY _ #[.int .i64 (p : Int), P0 y.p] wr hkl ⟨y, hat, by rw [hyk]⟩ (unhide HI) (unhide HK).size
        have hR' := hide hR9
        clear hk1 hq hR9 hat hkl hyk
        gi_wp2_with (
          first
          | (refine inLook2 wideF (by rfl) (.tmp 15) (.tmp 16) (by rfl) (by rfl) mb (L.map Lk.e) (p : Int) _ true (by rfl) (by rfl) (unhide HL) (unhide HF) ((unhide HM).kept (unhide HK) (unhide HX3)) ?_))
        refine (unhide hR').mono ?_
        rintro e W8 ⟨K8, ⟨rfl, hI8⟩ | ⟨rfl, hX8⟩⟩
        · have HI8 := hide hI8
          replace HK := hide ((unhide HK).trans K8)
          clear hI8 hR' hy K8
          gi_wp2
          go_roundw
          case rel => exact ⟨p + 1, by omega, by go_num, by rw [unhide HS]; exact HI8, HK⟩
          case measure => simp [intOf]; omega
        · have HX8 := hide hX8
          replace HK := hide ((unhide HK).trans K8)
          clear hX8 hR' hy K8
          gi_wp2
          refine bodyPost_ret (results_none rfl _ _ _) rfl ?_
          exact ⟨⟨_, rfl⟩, unhide HK, .inr ⟨_, unhide HKL, unhide HX8⟩⟩
    · obtain rfl : p = 16 := by omega
      have hd : decide (((16 : Nat) : Int) < 16) = false := by decide
      gi_wp2_with fail
      go_end0
      exact ⟨⟨_, rfl⟩, unhide HK, .inl (unhide HI)⟩

end Go.Proofs.Ytbigongmlpoahaa.D
