/-
  Proved: for any bytes and any epochs the law DeviceOf returns true, and each argument reads afterwards as it read before. No condition.
-/
import Derived.Test.YtffflafalffifaaOpend
namespace Go.Proofs.Ytffflafalffifaa
open Go.ChangeShapes Go.WideShapes Go.ChangeAt Go.RowKit

set_option maxRecDepth 100000 in
theorem of_lifted (os : Os) (started : os.Started) (H : Type) (enc : TypeId × Value → H) :
    ReturnsInHanded {} Try.checked os 4 .any (Rows.deviceOfSpec.pre6 enc Try.prog Try.f4 Rows.deviceOfRow.domain false) (Rows.deviceOfSpec.post enc Try.prog Try.f4 false true false false) := by
  refine returnsInHanded_of_change_sized (C := Try.checked) K.own started (by kernel_rfl) Try.func4
    (ChangeSpec.witness6 (enc := enc) (C := Try.checked) false ⟨#[], #[.slice none 0 0, .slice none 0 0], []⟩ 8 (by kernel_rfl) (by kernel_rfl) (by kernel_rfl) (by kernel_rfl)) ?_
  intro W base args ds gs before hval0 hW hcnd hsz0 _
  have hval : ∀ (j : Nat) t v, Try.f4.params[j]? = some t → args[j]? = some v → Value.okWide Try.prog W .any base t v := hval0
  have hsz : (DataW.weightsEach Try.prog (Try.f4.params.toList ++ Rows.deviceOfSpec.plain.varTypes Try.prog) (ds ++ gs)).all (· ≤ reachBytes) = true := hsz0
  have hW' := hW
  obtain ⟨p, q, hA0, hV, rfl, hfz, hnd⟩ := hW
  have hA : DataW.TrodAll enc Try.prog W 0 (fun _ => true) true Try.f4.params.toList args.toList ds p := hA0
  rw [Try.params4] at hA hval hsz
  obtain ⟨v0, vs0, d0, ds0, p0, q0, hargs, rfl, rfl, h0, r0⟩ := trodAll_cons hA
  obtain ⟨v1, vs1, d1, ds1, p1, q1, rfl, rfl, rfl, h1, r1⟩ := trodAll_cons r0
  obtain ⟨rfl, rfl, rfl⟩ := trodAll_nil r1
  obtain rfl : args = #[v0, v1] := by cases args; simp_all
  obtain ⟨rfl, rfl⟩ := trodVars_none hV
  have k0 := h0
  have k1 := h1
  have lt0 : ∀ x ∈ p0, x.block < W.heap.size := by obtain ⟨m, hm⟩ := k0; exact DataW.trod_lt m _ _ _ hm
  have lt1 : ∀ x ∈ p1, x.block < W.heap.size := by obtain ⟨m, hm⟩ := k1; exact DataW.trod_lt m _ _ _ hm
  obtain ⟨a0, len0, cap0, rfl⟩ := okWide_slice Try.underlying42 (hval 0 42 v0 rfl rfl)
  obtain ⟨ao, m, c, l, hv0, hn1, hA1, hyA, hrA⟩ : ∃ ao m c l, Value.slice a0 len0 cap0 = .slice ao m c ∧ (ao = none → m = 0 ∧ c = 0) ∧ Vals W ao m c (u8s l) ∧ (∀ x ∈ l, 0 ≤ x ∧ x < 256) ∧ K.Reads d0 m := by
    obtain ⟨fuel, hf⟩ := h0
    exact K.bytes_open (v := .slice a0 len0 cap0) hf
  obtain ⟨a1, len1, cap1, rfl⟩ := okWide_slice Try.underlying43 (hval 1 43 v1 rfl rfl)
  obtain ⟨eo, n, ec, eps, hv1, hn2, hE1, hrE⟩ : ∃ eo n ec eps, Value.slice a1 len1 cap1 = .slice eo n ec ∧ (eo = none → n = 0 ∧ ec = 0) ∧ Vals W eo n ec (K.i64s eps) ∧ K.Reads d1 n := by
    obtain ⟨fuel, hf⟩ := h1
    exact K.ints_open (v := .slice a1 len1 cap1) hf
  cases hv0
  cases hv1
  have hm := K.reads_sized Try.underlying42 (by rw [K.bytes5]; omega) hsz (j := 0) rfl rfl hrA
  have hm2 := K.reads_sized Try.underlying43 (by rw [K.bytes2]; omega) hsz (j := 1) rfl rfl hrE
  clear hA0 hval0
  refine (K.of4 _ _ _ _ _ _ l eps W hyA hA1 hE1 hn1 hn2 hm hm2).mono fun e W' ⟨he, kep⟩ => ?_
  subst he
  have bel := kep.to_below
  exact ⟨_, rfl, _, _, _, [], _, [], hW', trodAll_mk1 (shut_bool Try.underlying4 _), (trodAll_cons_mk (Below.trod K.laidOut (by kernel_rfl) (of_decide_eq_true (by kernel_rfl)) k0 bel lt0) (trodAll_cons_mk (Below.trod K.laidOut (by kernel_rfl) (of_decide_eq_true (by kernel_rfl)) k1 bel lt1) trodAll_mk0)), rfl, bel.frame _, fun h => by cases h⟩

/-- The statement. -/
theorem deviceOf_holds : Rows.DeviceOfSaid :=
  OpenClaim.holds_of_wide 4 Try.f4 rfl rfl rfl rfl rfl rfl rfl ⟨rfl, rfl, rfl, rfl, rfl⟩ rfl rfl rfl rfl rfl (by kernel_rfl) Try.func4 (by kernel_rfl)
    (of_decide_eq_true (by kernel_rfl)) (by unfold Func.isWrapper; rw [if_neg (of_decide_eq_false (by kernel_rfl))]; exact ⟨rfl, rfl⟩)
    (fun os started H enc _ => of_lifted os started H enc)

#print axioms deviceOf_holds

end Go.Proofs.Ytffflafalffifaa
