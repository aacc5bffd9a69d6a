/-
  Proved: for any LSN and any list of records the law RecordRuns returns true, and each argument reads afterwards as it read before. Condition: that of a tied card: the package variable record.first lies as the program lays it.
-/
import Derived.Test.YtkpkiibahfdomaaDoorRuns
import Derived.Test.YtkpkiibahfdomaaDoorOpen
import Derived.Test.YtkpkiibahfdomaaDoorFirst
import Derived.Test.YtkpkiibahfdomaaDoorTie
import Derived.Test.YtkpkiibahfdomaaDoorCards
namespace Go.Proofs.YtkpkiibahfdomaaDoor
open Go.ChangeShapes Go.WideShapes Go.ChangeAt Go.RowKit

set_option maxRecDepth 100000 in
theorem recordRuns_lifted (os : Os) (started : os.Started) (H : Type) (enc : TypeId × Value → H) :
    ReturnsInHanded {} Tryd.checked os 5 .any (fun w args => (Rows.recordRunsSpec.pre enc Tryd.prog Tryd.f5 Rows.recordRunsRow.domain false w args ∧ laidMetH Tryd.prog Rows.recordRunsRow.laid w) ∧ sizedMet enc Tryd.prog Tryd.f5 (OpenSpec.ofChange Rows.recordRunsSpec) false w args)
      (Rows.recordRunsSpec.post enc Tryd.prog Tryd.f5 false true false false) := by
  refine returnsInHanded_of_change_and (C := Tryd.checked) (X := fun w _ => laidMetH Tryd.prog Rows.recordRunsRow.laid w) (fun _ _ _ hh h => h.of_heap hh) own started (by kernel_rfl) Tryd.func5
    (ChangeSpec.witness_shaped (enc := enc) (C := Tryd.checked) (os := os) (X := fun w _ => laidMetH Tryd.prog Rows.recordRunsRow.laid w) false (World.laidAll Tryd.prog os Rows.recordRunsRow.laid) #[.int .i64 0, .slice none 0 0] 8 (World.laidAll_os _ _ _)
      (World.shaped_of_ZipB (by kernel_rfl) (by kernel_rfl)) (by kernel_rfl) (by kernel_rfl) (by kernel_rfl)
      (by rw [MakeChecks.laidMetH_plain _ _ _ (by kernel_rfl)]; exact laidMet_laidAll _ (by kernel_rfl) (by kernel_rfl))) ?_
  intro W base args ds gs before hval0 hW hcnd hsz0 hL _
  have hFi : First W := first_of hL
  have hval : ∀ (j : Nat) t v, Tryd.f5.params[j]? = some t → args[j]? = some v → Value.okWide Tryd.prog W .any base t v := hval0
  have hW' := hW
  obtain ⟨p, q, hA0, hV, rfl, hfz, hnd⟩ := hW
  have hA : DataW.TrodAll enc Tryd.prog W 0 (fun _ => true) true Tryd.f5.params.toList args.toList ds p := hA0
  rw [Tryd.params5] at hA hval
  obtain ⟨v0, vs0, d0, ds0, p0, q0, hargs, rfl, rfl, h0, r0⟩ := trodAll_cons hA
  obtain ⟨v1, vs1, d1, ds1, p1, q1, rfl, rfl, rfl, h1, r1⟩ := trodAll_cons r0
  obtain ⟨rfl, rfl, rfl⟩ := trodAll_nil r1
  obtain rfl : args = #[v0, v1] := by cases args; simp_all
  obtain ⟨rfl, rfl⟩ := trodVars_none hV
  have k0 := h0
  have lt0 : ∀ x ∈ p0, x.block < W.heap.size := by obtain ⟨m, hm⟩ := k0; exact DataW.trod_lt m _ _ _ hm
  have k1 := h1
  have lt1 : ∀ x ∈ p1, x.block < W.heap.size := by obtain ⟨m, hm⟩ := k1; exact DataW.trod_lt m _ _ _ hm
  obtain ⟨x, rfl⟩ := okWide_int Tryd.underlying2 (hval 0 2 v0 rfl rfl)
  obtain ⟨a1, len1, cap1, rfl⟩ := okWide_slice Tryd.underlying55 (hval 1 55 v1 rfl rfl)
  obtain ⟨ao, c, l, hv1, hnil, hRS, hok, hrd⟩ : ∃ ao c l, Value.slice a1 len1 cap1 = .slice ao l.length c ∧ (ao = none → l = [] ∧ c = 0) ∧ RecS W ao l ∧ (∀ r ∈ l, r.Ok) ∧ Reads d1 l.length := by
    obtain ⟨fuel, hf⟩ := h1
    obtain ⟨ao, c, l, g1, g2, g3, g4, g5⟩ := recs_open (v := .slice a1 len1 cap1) hf
    exact ⟨ao, c, l, g1, g2, g3, g4, g5⟩
  cases hv1
  have hm := reads_sized (ts := [2, 55]) (ds := [d0, d1]) (by
    have hsz : (DataW.weightsEach Tryd.prog (Tryd.f5.params.toList ++ Rows.recordRunsSpec.plain.varTypes Tryd.prog) ([d0, d1] ++ [])).all (· ≤ reachBytes) = true := hsz0
    rw [Tryd.params5] at hsz
    exact hsz) (j := 1) rfl rfl hrd
  clear hA0 hval0
  refine (runs5 x l hok hm _ _ hnil W hRS hFi).mono fun e W' ⟨he, kep⟩ => ?_
  have bel := kep.to_below
  subst he
  exact ⟨_, rfl, _, _, _, [], _, [], hW', trodAll_mk1 (shut_bool Tryd.underlying4 _), (trodAll_cons_mk (Below.trod Tryd.laidOut (by kernel_rfl) (of_decide_eq_true (by kernel_rfl)) k0 bel lt0) (trodAll_cons_mk (Below.trod Tryd.laidOut (by kernel_rfl) (of_decide_eq_true (by kernel_rfl)) k1 bel lt1) trodAll_mk0)), rfl, bel.frame _, fun h => by cases h⟩

/-- The row. -/
theorem recordRuns_row : Rows.RecordRunsSaid :=
  OpenClaim.holds_of_wide 5 Tryd.f5 rfl rfl rfl rfl rfl rfl rfl ⟨rfl, rfl, rfl, rfl, rfl⟩ rfl rfl rfl rfl rfl (by kernel_rfl) Tryd.func5 (by kernel_rfl)
    (of_decide_eq_true (by kernel_rfl)) (by unfold Func.isWrapper; first | (rw [if_pos (by decide +kernel)]; kernel_rfl) | (rw [if_neg (by decide +kernel)]; exact ⟨rfl, rfl⟩))
    (fun os started H enc _ => recordRuns_lifted os started H enc)

/-- The statement. -/
theorem recordRuns_holds : Rows.RecordRunsCardSaid :=
  Claim7.holds_tied_plain_at .later [] [.data] true (true, "976b82ef3f561ab54c97fa6eef50e5ecb31e72b0eb9a4930f76c2d7dca73afe5") false recordRuns_row (fun _ h => by cases h) (by kernel_rfl) (fun _ h => by cases h) recordRuns_row_tie rfl ⟨rfl, rfl⟩ (by kernel_rfl) rfl
    (fun f fn hf hfn => by
      obtain rfl : f = 5 := Option.some.inj ((show Tryd.prog.funcNamed "millpond/millpondlaw04.RecordRuns" = some 5 by kernel_rfl).symm.trans hf) |>.symm
      obtain rfl : fn = Tryd.f5 := (Option.some.inj (Tryd.func5.symm.trans hfn)).symm
      exact ⟨by kernel_rfl, fun j t ht => by
        rw [Tryd.params5] at ht
        have hm : t ∈ [2, 55] := by simpa using Array.mem_of_getElem? ht
        have hall : ([2, 55].all fun u => !Tryd.prog.wantsStandIn u) = true := by kernel_rfl
        exact (show Tryd.prog.wantsStandIn t = false by simpa using List.all_eq_true.1 hall t hm)⟩)
    (by kernel_rfl)

#print axioms recordRuns_holds

end Go.Proofs.YtkpkiibahfdomaaDoor
