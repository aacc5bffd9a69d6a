/-
  Same, of none and of new ones.
-/
import Derived.Test.YtbigongmlpoahaaFt
namespace Go.Proofs.Ytbigongmlpoahaa
set_option maxRecDepth 100000
set_option linter.unusedSimpArgs false
open Go.RowKit


theorem eqN57 (w : World) : Calls Try.prog 74 #[.slice none 0 0, .slice none 0 0] w fun e w' => e = .returned (.bool true) ∧ w' = w := by
  go_enter Try.func74, Try.ntmps74
  go_wp2_with fail
  go_loopw [13] (fun i wr => i = .int .i64 0 ∧ wr = w) (fun i _ => 0)
  case atStart => exact ⟨rfl, rfl⟩
  case round =>
    obtain ⟨rfl, rfl⟩ := hrel
    go_wp2_with fail
    go_ret
    exact ⟨rfl, rfl⟩
theorem eqZ73 (W : World) : (Op.equalIn 10000 106 (.agg #[.bool false, .bool false, .bool false, .bool false, .bool false, .bool false, .bool false, .bool false]) (.agg #[.bool false, .bool false, .bool false, .bool false, .bool false, .bool false, .bool false, .bool false])).run Try.prog W = .ok true W := (eqA73 W no8 no8).trans (by rw [like_selfN])
theorem same_nn (u v : Value) (w : World) (h : Nl w u) (k : Nl w v) : Calls Try.prog 40 #[u, v] w fun e w' => e = .returned (.bool true) ∧ w' = w := by
  have P := hide (none_n u w h)
  have R := hide (none_n v w k)
  clear h k
  go_enter Try.func40, Try.ntmps40
  go_wp2_with (
    first
    | (go_at_call 68
       refine (unhide P).mono ?_
       rintro e W11 ⟨rfl, q11⟩
       replace q11 := q11.symm
       subst q11
       refine Stp.go ?_))
  constructor
  go_wp2_with (
    first
    | (go_at_call 68
       refine (unhide P).mono ?_
       rintro e W12 ⟨rfl, q12⟩
       replace q12 := q12.symm
       subst q12
       refine Stp.go ?_))
  constructor
  go_wp2_with (
    first
    | (go_at_call 68
       refine (unhide R).mono ?_
       rintro e W13 ⟨rfl, q13⟩
       replace q13 := q13.symm
       subst q13
       refine Stp.go ?_))
  constructor
  go_wp2_with fail
  go_ret
  exact ⟨rfl, rfl⟩
theorem same_nl (u : Value) (s : Lo) (ln : Value) (b : Nat) (w : World) (h : Nl w u) (k : Blk w b 108 (s.C ln)) : Calls Try.prog 40 #[u, P0 b] w fun e w' => e = .returned (.bool false) ∧ w' = w := by
  have P := hide (none_n u w h)
  have R := hide (none40 s ln b w k)
  clear h k
  go_enter Try.func40, Try.ntmps40
  go_wp2_with (
    first
    | (go_at_call 68
       refine (unhide P).mono ?_
       rintro e W11 ⟨rfl, q11⟩
       replace q11 := q11.symm
       subst q11
       refine Stp.go ?_))
  constructor
  go_wp2_with (
    first
    | (go_at_call 68
       refine (unhide P).mono ?_
       rintro e W12 ⟨rfl, q12⟩
       replace q12 := q12.symm
       subst q12
       refine Stp.go ?_))
  constructor
  go_wp2_with (
    first
    | (go_at_call 68
       refine (unhide R).mono ?_
       rintro e W13 ⟨rfl, q13⟩
       replace q13 := q13.symm
       subst q13
       refine Stp.go ?_))
  constructor
  go_wp2_with fail
  go_ret
  exact ⟨rfl, rfl⟩

end Go.Proofs.Ytbigongmlpoahaa
