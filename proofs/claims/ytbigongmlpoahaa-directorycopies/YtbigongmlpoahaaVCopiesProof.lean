/-
  Proved: for any pages, any steps and any one more the law DirectoryCopies returns true, and each argument reads afterwards as it read before. No condition.
-/
import Derived.Test.YtbigongmlpoahaaVEh
import Derived.Test.YtbigongmlpoahaaVOpn
import Derived.Test.YtbigongmlpoahaaChecked
namespace Go.Proofs.Ytbigongmlpoahaa
open Go.ChangeShapes Go.WideShapes Go.ChangeAt Go.RowKit D

set_option maxRecDepth 100000 in
theorem se_open {H : Type} {enc : TypeId × Value → H} {W : World} {r : Reach} {b0 : Nat} {v : Value} {d : DataW H} {p : List MemPlace} (hv : Value.okWide Try.prog W r b0 31 v) (h : DataW.Trod enc Try.prog W 0 (fun _ => true) true 31 v d p) : ∃ x : Se, v = aggV x.C := by
  obtain ⟨f0, f1, f2, f3, f4, f5, hu, _⟩ := fields31'
  obtain ⟨cs, rfl, hsz⟩ := okWide_struct hu hv
  obtain ⟨fuel, hf⟩ := h
  obtain ⟨x, e, _⟩ := se_cells fuel _ _ hf
  refine ⟨x, ?_⟩
  show Value.agg cs = .agg _
  have e' : cs.toList = x.C := e
  rw [← e']
set_option maxRecDepth 100000 in
theorem copies_lifted (os : Go.Os) (started : os.Started) (H : Type) (enc : TypeId × Value → H) :
    ReturnsInHanded {} Try.checked os 5 .any (Rows.directoryCopiesSpec.pre6 enc Try.prog Try.f5 Rows.directoryCopiesRow.domain false) (Rows.directoryCopiesSpec.post enc Try.prog Try.f5 false true false false) := by
  refine returnsInHanded_of_change_sized (C := Try.checked) own started (by kernel_rfl) Try.func5
    (ChangeSpec.witness6 (enc := enc) (C := Try.checked) false ⟨#[], #[.slice none 0 0, .slice none 0 0, .agg #[.int .i64 0, .int .i64 0, .int .i64 0, .int .i64 0, .int .i64 0, .int .i64 0]], []⟩ 8 (by kernel_rfl) (by kernel_rfl) (by kernel_rfl) (by kernel_rfl)) ?_
  intro W base args ds gs before hval0 hW hcnd hsz0 _
  have hval : ∀ (j : Nat) t v, Try.f5.params[j]? = some t → args[j]? = some v → Value.okWide Try.prog W .any base t v := hval0
  have hW' := hW
  obtain ⟨p, q, hA0, hV, rfl, hfz, hnd⟩ := hW
  have hA : DataW.TrodAll enc Try.prog W 0 (fun _ => true) true Try.f5.params.toList args.toList ds p := hA0
  rw [Try.params5] at hA hval
  obtain ⟨v0, vs0, d0, ds0, p0, q0, hargs, rfl, rfl, h0, r0⟩ := trodAll_cons hA
  obtain ⟨v1, vs1, d1, ds1, p1, q1, rfl, rfl, rfl, h1, r1⟩ := trodAll_cons r0
  obtain ⟨v2, vs2, d2, ds2, p2, q2, rfl, rfl, rfl, h2, r2⟩ := trodAll_cons r1
  obtain ⟨rfl, rfl, rfl⟩ := trodAll_nil r2
  obtain rfl : args = #[v0, v1, v2] := by cases args; simp_all
  obtain ⟨rfl, rfl⟩ := trodVars_none hV
  have k0 := h0
  have lt0 : ∀ x ∈ p0, x.block < W.heap.size := by obtain ⟨m, hm⟩ := k0; exact DataW.trod_lt m _ _ _ hm
  have k1 := h1
  have lt1 : ∀ x ∈ p1, x.block < W.heap.size := by obtain ⟨m, hm⟩ := k1; exact DataW.trod_lt m _ _ _ hm
  have k2 := h2
  have lt2 : ∀ x ∈ p2, x.block < W.heap.size := by obtain ⟨m, hm⟩ := k2; exact DataW.trod_lt m _ _ _ hm
  obtain ⟨a0, len0, cap0, rfl⟩ := okWide_slice Try.underlying22 (hval 0 22 v0 rfl rfl)
  obtain ⟨ao0, c0, X0, hv0, hX0, hN0⟩ : ∃ ao c l, Value.slice a0 len0 cap0 = .slice ao l.length c ∧ RowS intC 1 W ao l ∧ (ao = none → l = [] ∧ c = 0) := by
    obtain ⟨fuel, hf⟩ := h0
    exact ints_open (v := .slice a0 len0 cap0) hf
  cases hv0
  obtain ⟨a1, len1, cap1, rfl⟩ := okWide_slice Try.underlying23 (hval 1 23 v1 rfl rfl)
  obtain ⟨ao1, c1, X1, hv1, hX1⟩ : ∃ ao c l, Value.slice a1 len1 cap1 = .slice ao l.length c ∧ RowS Se.C 6 W ao l := by
    obtain ⟨fuel, hf⟩ := h1
    exact steps_open (v := .slice a1 len1 cap1) hf
  cases hv1
  obtain ⟨x2, rfl⟩ := se_open (hval 2 31 v2 rfl rfl) h2
  clear hA0 hval0
  refine (copies5 _ _ _ _ x2 hX0 hN0 hX1).mono fun e W' ⟨he, kep⟩ => ?_
  subst he
  have bel := kep.to_below
  exact ⟨_, rfl, _, _, _, [], _, [], hW', trodAll_mk1 (shut_bool Try.underlying4 _), (trodAll_cons_mk (Below.trod laidOut (by kernel_rfl) (of_decide_eq_true (by kernel_rfl)) k0 bel lt0) (trodAll_cons_mk (Below.trod laidOut (by kernel_rfl) (of_decide_eq_true (by kernel_rfl)) k1 bel lt1) (trodAll_cons_mk (Below.trod laidOut (by kernel_rfl) (of_decide_eq_true (by kernel_rfl)) k2 bel lt2) trodAll_mk0))), rfl, bel.frame _, fun h => by cases h⟩

/-- The statement. -/
theorem directoryCopies_holds : Rows.DirectoryCopiesSaid :=
  OpenClaim.holds_of_wide 5 Try.f5 rfl rfl rfl rfl rfl rfl rfl ⟨rfl, rfl, rfl, rfl, rfl⟩ rfl rfl rfl rfl rfl (by kernel_rfl) Try.func5 (by kernel_rfl)
    (of_decide_eq_true (by kernel_rfl)) (by unfold Func.isWrapper; rw [if_neg (of_decide_eq_false (by kernel_rfl))]; exact ⟨rfl, rfl⟩)
    (fun os started H enc _ => copies_lifted os started H enc)

#print axioms directoryCopies_holds

end Go.Proofs.Ytbigongmlpoahaa
