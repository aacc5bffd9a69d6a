/-
  Proved: for every job and every list of asks the law AreaWhere returns true, and each argument reads afterwards as it read before. No condition.
-/
import Derived.Test.YtcfoebpbbmnleaaWherel
import Derived.Test.YtcfoebpbbmnleaaWherem
import Derived.Test.YtcfoebpbbmnleaaOpenl
import Derived.Test.YtcfoebpbbmnleaaRows
namespace Go.Proofs.Ytcfoebpbbmnleaa
open Go.ChangeShapes Go.WideShapes Go.ChangeAt Go.RowKit

theorem where3 (j : Job) (l : List Ask) (hI : ∀ x ∈ l, I64 x.s) (hl : l.length ≤ 140737488355328) (la : Option Addr) (lc : Nat) (w : World) (hA : AskS w la l) : Calls Try.prog 3 #[aggV (jobC j), .slice la l.length lc] w fun e w' => e = .returned (.bool true) ∧ Kept [] w w' := by
  cases hm : j.may with
  | false => exact where3_no j hm l hI hl la lc w hA
  | true => exact where3_yes j hm l hI hl la lc w hA

set_option maxRecDepth 100000 in
theorem where_lifted (os : Os) (started : os.Started) (H : Type) (enc : TypeId × Value → H) :
    ReturnsInHanded {} Try.checked os 3 .any (Rows.areaWhereSpec.pre6 enc Try.prog Try.f3 Rows.areaWhereRow.domain false) (Rows.areaWhereSpec.post enc Try.prog Try.f3 false true false false) := by
  refine returnsInHanded_of_change_sized (C := Try.checked) own' started (by kernel_rfl) Try.func3
    (ChangeSpec.witness6 (enc := enc) (C := Try.checked) false ⟨#[], #[.agg #[.int .i64 0, .int .i64 0, .int .i64 0, .int .i64 0, .int .i64 0], .slice none 0 0], []⟩ 8 (by kernel_rfl) (by kernel_rfl) (by kernel_rfl) (by kernel_rfl)) ?_
  intro W base args ds gs before hval0 hW hcnd hsz0 _
  have hval : ∀ (j : Nat) t v, Try.f3.params[j]? = some t → args[j]? = some v → Value.okWide Try.prog W .any base t v := hval0
  have hsz : (DataW.weightsEach Try.prog (Try.f3.params.toList ++ Rows.areaWhereSpec.plain.varTypes Try.prog) (ds ++ gs)).all (· ≤ reachBytes) = true := hsz0
  have hW' := hW
  obtain ⟨p, q, hA0, hV, rfl, hfz, hnd⟩ := hW
  have hA : DataW.TrodAll enc Try.prog W 0 (fun _ => true) true Try.f3.params.toList args.toList ds p := hA0
  rw [Try.params3] at hA hval hsz
  obtain ⟨v0, vs0, d0, ds0, p0, q0, hargs, rfl, rfl, h0, r0⟩ := trodAll_cons hA
  obtain ⟨v1, vs1, d1, ds1, p1, q1, rfl, rfl, rfl, h1, r1⟩ := trodAll_cons r0
  obtain ⟨rfl, rfl, rfl⟩ := trodAll_nil r1
  obtain rfl : args = #[v0, v1] := by cases args; simp_all
  obtain ⟨rfl, rfl⟩ := trodVars_none hV
  have k0 := h0
  have k1 := h1
  have lt0 : ∀ x ∈ p0, x.block < W.heap.size := by obtain ⟨m, hm⟩ := k0; exact DataW.trod_lt m _ _ _ hm
  have lt1 : ∀ x ∈ p1, x.block < W.heap.size := by obtain ⟨m, hm⟩ := k1; exact DataW.trod_lt m _ _ _ hm
  obtain ⟨j, rfl⟩ := job_open (hval 0 23 v0 rfl rfl) h0
  obtain ⟨a1, len1, cap1, rfl⟩ := okWide_slice Try.underlying24 (hval 1 24 v1 rfl rfl)
  obtain ⟨ao, c, l, hv1, hAS, hI, hrA⟩ : ∃ ao c l, Value.slice a1 len1 cap1 = .slice ao l.length c ∧ AskS W ao l ∧ (∀ x ∈ l, I64 x.s) ∧ Reads d1 l.length := by
    obtain ⟨fuel, hf⟩ := h1
    obtain ⟨ao, c, l, h1, h2, h3, h4⟩ := asks_open (v := .slice a1 len1 cap1) hf
    exact ⟨ao, c, l, h1, h2, h3, h4⟩
  cases hv1
  have hm := reads_sized hsz (j := 1) rfl rfl hrA
  clear hA0 hval0
  refine (where3 j l hI hm _ _ W hAS).mono fun e W' ⟨he, kep⟩ => ?_
  subst he
  have bel := kep.to_below
  exact ⟨_, rfl, _, _, _, [], _, [], hW', trodAll_mk1 (shut_bool Try.underlying4 _), (trodAll_cons_mk (Below.trod Try.laidOut (by kernel_rfl) (of_decide_eq_true (by kernel_rfl)) k0 bel lt0) (trodAll_cons_mk (Below.trod Try.laidOut (by kernel_rfl) (of_decide_eq_true (by kernel_rfl)) k1 bel lt1) trodAll_mk0)), rfl, bel.frame _, fun h => by cases h⟩

/-- The statement. -/
theorem areaWhere_holds : Rows.AreaWhereSaid :=
  OpenClaim.holds_of_wide 3 Try.f3 rfl rfl rfl rfl rfl rfl rfl ⟨rfl, rfl, rfl, rfl, rfl⟩ rfl rfl rfl rfl rfl (by kernel_rfl) Try.func3 (by kernel_rfl)
    (of_decide_eq_true (by kernel_rfl)) (by unfold Func.isWrapper; rw [if_neg (of_decide_eq_false (by kernel_rfl))]; exact ⟨rfl, rfl⟩)
    (fun os started H enc _ => where_lifted os started H enc)

#print axioms areaWhere_holds

end Go.Proofs.Ytcfoebpbbmnleaa
