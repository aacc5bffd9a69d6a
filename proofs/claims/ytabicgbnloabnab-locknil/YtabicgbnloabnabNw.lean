/-
  LockNil.
-/
import Derived.Test.YtabicgbnloabnabFv
import Derived.Test.YtabicgbnloabnabKn
namespace Go.Proofs.Ytabicgbnloabnab
set_option maxRecDepth 100000
set_option linter.unusedSimpArgs false
open Go.RowKit

def zl : List Value := [.bool false, .int .i64 0, .int .i64 0, .bool false, .bool false, .bool false, .bool false, .bool false, .bool false, .bool false, .bool false, .int .i64 0, .int .i64 0, .int .i64 0, .int .i64 0, .int .i64 0, .int .i64 0, .int .i64 0, .int .i64 0, .bool false, .bool false, .bool false, .bool false, .bool false, .bool false, .bool false, .bool false, .slice none 0 0, .int .i64 0, .int .i64 0, .int .i64 0, .int .i64 0, .bool false, .bool false, .bool false, .bool false, .bool false, .bool false, .bool false, .bool false]
theorem buildZl (w : World) : (Instr.build 31 #[]).run Try.prog w = .ok (aggV zl) w := by kernel_rfl
theorem bsP (w : World) (b : Nat) : (Instr.buildSlice 32 2 #[(0, .pointer none), (1, P0 b)]).run Try.prog w = .ok (.slice (some ⟨w.heap.size, 0, none⟩) 2 2) (w.alloc (.cells #[.pointer none, P0 b] 22)) := by kernel_rfl
section
variable {ops : Array Oper} {rest : List Oper} {op : Oper} {a : Act} {w : World} {Q : Exit → Act → World → Prop}
theorem wpBsP (hgd : op.guard = none) (y : Operand) (ho : op.op = .buildSlice 32 2 #[(0, .const (.pointer none)), (1, y)]) (b : Nat) (hy : a.eval y = P0 b) (h : ∀ W g, g = w.heap.size → Blk W g 22 [.pointer none, P0 b] → Kept [] w W → wpList Try.prog ops Q rest (a.put op.dst (.slice (some ⟨g, 0, none⟩) 2 2)) W) : wpList Try.prog ops Q (op :: rest) a w :=
  wpList_plain hgd fun _ hK => by
    have e : (#[(0, Operand.const (.pointer none)), (1, y)] : Array (Nat × Operand)).map (fun p => (p.1, a.eval p.2)) = #[(0, .pointer none), (1, P0 b)] := by simp [hy]; rfl
    unfold Oper.wp execOp
    simp only [ho]
    simp only [e, Sem.run_bind, bsP, Result.andThen_ok]
    exact hK _ _ (h _ _ rfl (Blk.new _ _ [.pointer none, P0 b]) ((Kept.refl _ _).alloc _))
end
/-- Nothing is told. -/
theorem want_e {A : Nat} {base W : World} {b : Nat} {s : Lo} {L : List Wi} (h : Kl A base W b s L) (hA : A ≤ 900) (m md : Int) (he : (wantP s L m md).2.2 = []) : Calls Try.prog 5 #[P0 b, .int .i64 m, .int .i64 md] W fun e w' => ∃ ao c, e = .returned (.slice ao 0 c) ∧ Kept [] base w' := by
  refine (kl_want h hA m md).mono ?_
  rintro e w' ⟨v, rfl, hO, hK⟩
  rw [he] at hO
  obtain ⟨ao, c, rfl, _, _⟩ := hO.row.sl
  exact ⟨ao, c, rfl, hK.kept⟩
set_option maxHeartbeats 8000000 in
theorem nil3 (w : World) (hS : Hid (∀ (b c : Nat) (w : World), Blk w b 31 (lo0.C (.slice none 0 0)) → Blk w c 31 (lo0.C (.slice none 0 0)) → Calls Try.prog 15 #[P0 b, P0 c] w fun e w' => e = .returned (.bool true) ∧ Kept [] w w')) : Calls Try.prog 3 #[] w fun e w' => e = .returned (.bool true) ∧ Kept [] w w' := by
  have M : Hid (Mm [] w w []) := hide Mm.init
  go_enter Try.func3, Try.ntmps3
  go_wp2_with (
    first
    | (refine wpBuildZ (T := 31) zl buildZl rfl rfl ?_
       refine Stp.go ?_))
  constructor
  go_wp2_with (
    first
    | (refine wpBoxV rfl (.tmp 6) rfl (zl) rfl ?_
       intro W1 b1 e1 B1 K1
       replace M : Hid (Mm [] w W1 [(b1, 31, zl)]) := hide ((unhide M).new e1 B1 K1)
       clear e1 B1 K1
       refine Stp.go ?_))
  constructor
  go_wp2_with (
    first
    | (refine wpBsP rfl (.tmp 7) rfl b1 rfl ?_
       intro W2 b2 e2 B2 K2
       replace M : Hid (Mm [] w W2 [(b1, 31, zl), (b2, 22, [.pointer none, P0 b1])]) := hide ((unhide M).new e2 B2 K2)
       clear e2 B2 K2
       refine Stp.go ?_))
  constructor
  go_wp2_with fail
  go_loopw [2, 3, 4, 5] (fun i _ _ _ wr => ∃ j : Nat, j ≤ 2 ∧ i = .int .i64 j ∧ Hid (Mm [] w wr [(b1, 31, zl), (b2, 22, [.pointer none, P0 b1])])) (fun i _ _ _ _ => 2 - (intOf i).toNat)
  case atStart => exact ⟨0, by omega, rfl, M⟩
  case round =>
    obtain ⟨j, hj, rfl, MR⟩ := hrel
    clear M
    rcases (show j = 0 ∨ j = 1 ∨ j = 2 by omega) with rfl | rfl | rfl
    · have c : wr.cell? ⟨b2, 0, none⟩ = some (.pointer none) := fits_cell ((unhide MR).at 1 _ rfl) 0 _ rfl
      have HN : Hid (Nl wr (.pointer none)) := .inl rfl
      go_wp2_with (
        first
        | (go_at_call 4
           refine (holds_n (.pointer none) _ (unhide HN)).mono ?_
           rintro e W11 ⟨rfl, q11⟩
           replace q11 := q11.symm
           subst q11
           refine Stp.go ?_))
      constructor
      go_wp2_with (
        first
        | (go_at_call 5
           refine (want_n (.pointer none) 0 _ (unhide HN)).mono ?_
           rintro e W12 ⟨rfl, K12⟩
           replace MR : Hid (Mm [] w W12 [(b1, 31, zl), (b2, 22, [.pointer none, P0 b1])]) := hide ((unhide MR).step K12)
           replace HN : Hid (Nl W12 (.pointer none)) := hide ((unhide HN).kept K12)
           clear K12
           refine Stp.go ?_))
      constructor
      go_wp2_with (
        first
        | (go_at_call 6
           refine (clean_n (.pointer none) 0 _ (unhide HN)).mono ?_
           rintro e W13 ⟨rfl, K13⟩
           replace MR : Hid (Mm [] w W13 [(b1, 31, zl), (b2, 22, [.pointer none, P0 b1])]) := hide ((unhide MR).step K13)
           replace HN : Hid (Nl W13 (.pointer none)) := hide ((unhide HN).kept K13)
           clear K13
           refine Stp.go ?_))
      constructor
      go_wp2_with (
        first
        | (go_at_call 7
           refine (gone_n (.pointer none) _ (unhide HN)).mono ?_
           rintro e W14 ⟨rfl, q14⟩
           replace q14 := q14.symm
           subst q14
           refine Stp.go ?_))
      constructor
      go_wp2_with (
        first
        | (go_at_call 8
           refine (got_n (.pointer none) _ (unhide HN)).mono ?_
           rintro e W15 ⟨rfl, q15⟩
           replace q15 := q15.symm
           subst q15
           refine Stp.go ?_))
      constructor
      go_wp2_with (
        first
        | (go_at_call 9
           refine (rel_n (.pointer none) _ (unhide HN)).mono ?_
           rintro e W16 ⟨rfl, q16⟩
           replace q16 := q16.symm
           subst q16
           refine Stp.go ?_))
      constructor
      go_wp2_with (
        first
        | (go_at_call 10
           refine (wrote_n (.pointer none) _ (unhide HN)).mono ?_
           rintro e W17 ⟨rfl, q17⟩
           replace q17 := q17.symm
           subst q17
           refine Stp.go ?_))
      constructor
      go_wp2_with (
        first
        | (go_at_call 11
           refine (idle_n (.pointer none) _ (unhide HN)).mono ?_
           rintro e W18 ⟨rfl, q18⟩
           replace q18 := q18.symm
           subst q18
           refine Stp.go ?_))
      constructor
      go_wp2_with (
        first
        | (go_at_call 12
           refine (copy_n (.pointer none) _ (unhide HN)).mono ?_
           rintro e W19 ⟨rfl, q19⟩
           replace q19 := q19.symm
           subst q19
           refine Stp.go ?_))
      constructor
      go_wp2_with (
        first
        | (go_at_call 14
           refine (book_n (.pointer none) _ (unhide HN)).mono ?_
           rintro e W20 ⟨rfl, K20⟩
           replace MR : Hid (Mm [] w W20 [(b1, 31, zl), (b2, 22, [.pointer none, P0 b1])]) := hide ((unhide MR).step K20)
           replace HN : Hid (Nl W20 (.pointer none)) := hide ((unhide HN).kept K20)
           clear K20
           refine Stp.go ?_))
      constructor
      go_wp2_with (
        first
        | (first
           | (refine wpBuildG #[(0, .const (.int .i64 (-1))), (1, .const (.int .i64 (-1)))] rfl rfl #[(0, .int .i64 (-1)), (1, .int .i64 (-1))] (by kernel_rfl) bn43 (buildN43 _) ?_)
           | (rw [buildN43]; simp only [Result.andThen_ok, Oper.upon_value])
           refine Stp.go ?_))
      constructor
      go_wp2_with (
        first
        | (go_at_call 13
           refine (sameBookN _).mono ?_
           rintro e W21 ⟨rfl, K21⟩
           replace MR : Hid (Mm [] w W21 [(b1, 31, zl), (b2, 22, [.pointer none, P0 b1])]) := hide ((unhide MR).step K21)
           replace HN : Hid (Nl W21 (.pointer none)) := hide ((unhide HN).kept K21)
           clear K21
           refine Stp.go ?_))
      constructor
      go_wp2_with fail
      go_roundw
      case rel => exact ⟨1, by omega, by go_num, MR⟩
      case measure => simp [intOf]
    · have c : wr.cell? ⟨b2, 1, none⟩ = some (P0 b1) := fits_cell ((unhide MR).at 1 _ rfl) 1 _ rfl
      have HN : Hid (Nl wr (P0 b1)) := .inr ⟨b1, rfl, fits_cell ((unhide MR).at 0 _ rfl) 0 _ rfl⟩
      go_wp2_with (
        first
        | (go_at_call 4
           refine (holds_n (P0 b1) _ (unhide HN)).mono ?_
           rintro e W11 ⟨rfl, q11⟩
           replace q11 := q11.symm
           subst q11
           refine Stp.go ?_))
      constructor
      go_wp2_with (
        first
        | (go_at_call 5
           refine (want_n (P0 b1) 0 _ (unhide HN)).mono ?_
           rintro e W12 ⟨rfl, K12⟩
           replace MR : Hid (Mm [] w W12 [(b1, 31, zl), (b2, 22, [.pointer none, P0 b1])]) := hide ((unhide MR).step K12)
           replace HN : Hid (Nl W12 (P0 b1)) := hide ((unhide HN).kept K12)
           clear K12
           refine Stp.go ?_))
      constructor
      go_wp2_with (
        first
        | (go_at_call 6
           refine (clean_n (P0 b1) 0 _ (unhide HN)).mono ?_
           rintro e W13 ⟨rfl, K13⟩
           replace MR : Hid (Mm [] w W13 [(b1, 31, zl), (b2, 22, [.pointer none, P0 b1])]) := hide ((unhide MR).step K13)
           replace HN : Hid (Nl W13 (P0 b1)) := hide ((unhide HN).kept K13)
           clear K13
           refine Stp.go ?_))
      constructor
      go_wp2_with (
        first
        | (go_at_call 7
           refine (gone_n (P0 b1) _ (unhide HN)).mono ?_
           rintro e W14 ⟨rfl, q14⟩
           replace q14 := q14.symm
           subst q14
           refine Stp.go ?_))
      constructor
      go_wp2_with (
        first
        | (go_at_call 8
           refine (got_n (P0 b1) _ (unhide HN)).mono ?_
           rintro e W15 ⟨rfl, q15⟩
           replace q15 := q15.symm
           subst q15
           refine Stp.go ?_))
      constructor
      go_wp2_with (
        first
        | (go_at_call 9
           refine (rel_n (P0 b1) _ (unhide HN)).mono ?_
           rintro e W16 ⟨rfl, q16⟩
           replace q16 := q16.symm
           subst q16
           refine Stp.go ?_))
      constructor
      go_wp2_with (
        first
        | (go_at_call 10
           refine (wrote_n (P0 b1) _ (unhide HN)).mono ?_
           rintro e W17 ⟨rfl, q17⟩
           replace q17 := q17.symm
           subst q17
           refine Stp.go ?_))
      constructor
      go_wp2_with (
        first
        | (go_at_call 11
           refine (idle_n (P0 b1) _ (unhide HN)).mono ?_
           rintro e W18 ⟨rfl, q18⟩
           replace q18 := q18.symm
           subst q18
           refine Stp.go ?_))
      constructor
      go_wp2_with (
        first
        | (go_at_call 12
           refine (copy_n (P0 b1) _ (unhide HN)).mono ?_
           rintro e W19 ⟨rfl, q19⟩
           replace q19 := q19.symm
           subst q19
           refine Stp.go ?_))
      constructor
      go_wp2_with (
        first
        | (go_at_call 14
           refine (book_n (P0 b1) _ (unhide HN)).mono ?_
           rintro e W20 ⟨rfl, K20⟩
           replace MR : Hid (Mm [] w W20 [(b1, 31, zl), (b2, 22, [.pointer none, P0 b1])]) := hide ((unhide MR).step K20)
           replace HN : Hid (Nl W20 (P0 b1)) := hide ((unhide HN).kept K20)
           clear K20
           refine Stp.go ?_))
      constructor
      go_wp2_with (
        first
        | (first
           | (refine wpBuildG #[(0, .const (.int .i64 (-1))), (1, .const (.int .i64 (-1)))] rfl rfl #[(0, .int .i64 (-1)), (1, .int .i64 (-1))] (by kernel_rfl) bn43 (buildN43 _) ?_)
           | (rw [buildN43]; simp only [Result.andThen_ok, Oper.upon_value])
           refine Stp.go ?_))
      constructor
      go_wp2_with (
        first
        | (go_at_call 13
           refine (sameBookN _).mono ?_
           rintro e W21 ⟨rfl, K21⟩
           replace MR : Hid (Mm [] w W21 [(b1, 31, zl), (b2, 22, [.pointer none, P0 b1])]) := hide ((unhide MR).step K21)
           replace HN : Hid (Nl W21 (P0 b1)) := hide ((unhide HN).kept K21)
           clear K21
           refine Stp.go ?_))
      constructor
      go_wp2_with fail
      go_roundw
      case rel => exact ⟨2, by omega, by go_num, MR⟩
      case measure => simp [intOf]
    · have c : wr.cell? ⟨b2, 1, none⟩ = some (P0 b1) := fits_cell ((unhide MR).at 1 _ rfl) 1 _ rfl
      have HN : Hid (Nl wr (P0 b1)) := .inr ⟨b1, rfl, fits_cell ((unhide MR).at 0 _ rfl) 0 _ rfl⟩
      have HK : Hid (Kept [] w wr) := hide (unhide MR).kept
      go_wp2_with (
        first
        | (go_at_call 15
           refine (same_nn (.pointer none) (P0 b1) _ (.inl rfl) (unhide HN)).mono ?_
           rintro e W11 ⟨rfl, q11⟩
           replace q11 := q11.symm
           subst q11
           refine Stp.go ?_))
      constructor
      go_wp2_with (
        first
        | (go_at_call 16
           refine (new10 _).mono ?_
           rintro e W12 ⟨n1, rfl, e12, B12, K12⟩
           have Hn1 := hide B12
           replace HK : Hid (Kept [] w W12) := hide ((unhide HK).trans K12)
           clear e12 B12 K12
           refine Stp.go ?_))
      constructor
      go_wp2_with (
        first
        | (go_at_call 15
           refine (same_nl (.pointer none) lo0 _ n1 _ (.inl rfl) (unhide Hn1)).mono ?_
           rintro e W13 ⟨rfl, q13⟩
           replace q13 := q13.symm
           subst q13
           refine Stp.go ?_))
      constructor
      go_wp2_with (
        first
        | (go_at_call 16
           refine (new10 _).mono ?_
           rintro e W14 ⟨n2, rfl, e14, B14, K14⟩
           have Hn2 := hide B14
           replace HK : Hid (Kept [] w W14) := hide ((unhide HK).trans K14)
           clear e14 B14 K14
           refine Stp.go ?_))
      constructor
      go_wp2_with (
        first
        | (go_at_call 16
           refine (new10 _).mono ?_
           rintro e W15 ⟨n3, rfl, e15, B15, K15⟩
           replace Hn2 := hide ((unhide Hn2).kept K15 (by simp))
           have Hn3 := hide B15
           replace HK : Hid (Kept [] w W15) := hide ((unhide HK).trans K15)
           clear e15 B15 K15
           refine Stp.go ?_))
      constructor
      go_wp2_with (
        first
        | (go_at_call 15
           refine (unhide hS n2 n3 _ (unhide Hn2) (unhide Hn3)).mono ?_
           rintro e W16 ⟨rfl, K16⟩
           replace HK : Hid (Kept [] w W16) := hide ((unhide HK).trans K16)
           clear K16
           refine Stp.go ?_))
      constructor
      go_wp2_with (
        first
        | (go_at_call 16
           refine (kl_new _).mono ?_
           rintro e W17 ⟨n4, rfl, e17, B17⟩
           have Hn4 := hide B17
           clear e17 B17
           refine Stp.go ?_))
      constructor
      go_wp2_with (
        first
        | (go_at_call 5
           refine (want_e (unhide Hn4) (by omega) 8 1 rfl).mono ?_
           rintro e W18 ⟨ao18, cp18, rfl, K18⟩
           replace HK : Hid (Kept [] w W18) := hide ((unhide HK).trans K18)
           clear K18
           refine Stp.go ?_))
      constructor
      go_wp2_with (
        first
        | (go_at_call 16
           refine (kl_new _).mono ?_
           rintro e W19 ⟨n5, rfl, e19, B19⟩
           have Hn5 := hide B19
           clear e19 B19
           refine Stp.go ?_))
      constructor
      go_wp2_with (
        first
        | (go_at_call 5
           refine (want_e (unhide Hn5) (by omega) 0 3 rfl).mono ?_
           rintro e W20 ⟨ao20, cp20, rfl, K20⟩
           replace HK : Hid (Kept [] w W20) := hide ((unhide HK).trans K20)
           clear K20
           refine Stp.go ?_))
      constructor
      go_wp2_with (
        first
        | (go_at_call 17
           refine (known9 _).mono ?_
           rintro e W21 ⟨rfl, K21⟩
           replace HK : Hid (Kept [] w W21) := hide ((unhide HK).trans K21)
           clear K21
           refine Stp.go ?_))
      constructor
      go_wp2_with fail
      go_ret
      exact ⟨rfl, unhide HK⟩

end Go.Proofs.Ytabicgbnloabnab
