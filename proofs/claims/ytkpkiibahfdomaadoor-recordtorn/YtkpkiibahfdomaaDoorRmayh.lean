/-
  The walk of the document's MayHead.
-/
import Derived.Test.YtkpkiibahfdomaaDoorTake
namespace Go.Proofs.YtkpkiibahfdomaaDoor
open Go.RowKit

/-- A place at which a walk stops. -/
structure Stp (p : Prop) : Prop where
  go : p
/-- What MayHead tells. -/
def mayH (st ep : Int) : Bool := isHd st ep || (isWrit ep && isWrit st)
theorem build27s (w : World) : (Instr.build 27 #[(0, .int .i64 1)]).run Tryd.prog w = .ok (aggV (hdC 1 0)) w := by kernel_rfl
set_option maxHeartbeats 1000000 in
theorem mayhead10 (st ep : Int) (w : World) : Calls Tryd.prog 10 #[aggV (hdC st ep)] w fun e w' => e = .returned (.bool (mayH st ep)) ∧ Kept [] w w' := by
  obtain ⟨I, hI⟩ : ∃ I, isHd st ep = I := ⟨_, rfl⟩
  have HI := hide hI
  clear hI
  cases I
  rotate_left
  · go_enter Tryd.func10, Tryd.ntmps10
    go_wp2_with (
      refine wpBoxV rfl (.tmp 0) rfl (hdC st ep) rfl ?_
      intro W1 b1 e1 B1 K1
      have BB := hide B1
      have KK := hide K1
      have ce := fits_cell B1 1 _ rfl
      have cs := fits_cell B1 0 _ rfl
      clear e1 B1 K1
      refine Stp.go ?_)
    constructor
    go_wp2_with (
      refine wpLoadA row27 (by rfl) (.tmp 1) (by rfl) b1 0 (by rfl) (hdC st ep) rfl (unhide BB).range ?_
      refine Stp.go ?_)
    constructor
    refine wpBuildP (by rfl) _ (by rfl) #[(0, .int .i64 1)] (by kernel_rfl) (hdC 1 0) (build27s _) ?_
    refine wpEqlA 27 27 guard27 (.tmp 3) (.tmp 4) (by rfl) (by rfl) (hdC st ep) (hdC 1 0) (by rfl) (by rfl) true ((equal27 _ _ _ _ _).trans (by rw [← isHd, unhide HI])) ?_
    go_wp2_with fail
    go_ret
    exact ⟨ret_bool (by simp [mayH, isWrit, unhide HI]), unhide KK⟩
  by_cases h1 : 1 ≤ ep
  rotate_left
  · go_enter Tryd.func10, Tryd.ntmps10
    go_wp2_with (
      refine wpBoxV rfl (.tmp 0) rfl (hdC st ep) rfl ?_
      intro W1 b1 e1 B1 K1
      have BB := hide B1
      have KK := hide K1
      have ce := fits_cell B1 1 _ rfl
      have cs := fits_cell B1 0 _ rfl
      clear e1 B1 K1
      refine Stp.go ?_)
    constructor
    go_wp2_with (
      refine wpLoadA row27 (by rfl) (.tmp 1) (by rfl) b1 0 (by rfl) (hdC st ep) rfl (unhide BB).range ?_
      refine Stp.go ?_)
    constructor
    refine wpBuildP (by rfl) _ (by rfl) #[(0, .int .i64 1)] (by kernel_rfl) (hdC 1 0) (build27s _) ?_
    refine wpEqlA 27 27 guard27 (.tmp 3) (.tmp 4) (by rfl) (by rfl) (hdC st ep) (hdC 1 0) (by rfl) (by rfl) false ((equal27 _ _ _ _ _).trans (by rw [← isHd, unhide HI])) ?_
    go_wp2_with fail
    go_ret
    exact ⟨ret_bool (by simp [mayH, isWrit, unhide HI]; omega), unhide KK⟩
  by_cases h2 : ep ≤ 2147483647
  rotate_left
  · go_enter Tryd.func10, Tryd.ntmps10
    go_wp2_with (
      refine wpBoxV rfl (.tmp 0) rfl (hdC st ep) rfl ?_
      intro W1 b1 e1 B1 K1
      have BB := hide B1
      have KK := hide K1
      have ce := fits_cell B1 1 _ rfl
      have cs := fits_cell B1 0 _ rfl
      clear e1 B1 K1
      refine Stp.go ?_)
    constructor
    go_wp2_with (
      refine wpLoadA row27 (by rfl) (.tmp 1) (by rfl) b1 0 (by rfl) (hdC st ep) rfl (unhide BB).range ?_
      refine Stp.go ?_)
    constructor
    refine wpBuildP (by rfl) _ (by rfl) #[(0, .int .i64 1)] (by kernel_rfl) (hdC 1 0) (build27s _) ?_
    refine wpEqlA 27 27 guard27 (.tmp 3) (.tmp 4) (by rfl) (by rfl) (hdC st ep) (hdC 1 0) (by rfl) (by rfl) false ((equal27 _ _ _ _ _).trans (by rw [← isHd, unhide HI])) ?_
    go_wp2_with fail
    go_ret
    exact ⟨ret_bool (by simp [mayH, isWrit, unhide HI]; omega), unhide KK⟩
  by_cases h3 : 1 ≤ st
  rotate_left
  · go_enter Tryd.func10, Tryd.ntmps10
    go_wp2_with (
      refine wpBoxV rfl (.tmp 0) rfl (hdC st ep) rfl ?_
      intro W1 b1 e1 B1 K1
      have BB := hide B1
      have KK := hide K1
      have ce := fits_cell B1 1 _ rfl
      have cs := fits_cell B1 0 _ rfl
      clear e1 B1 K1
      refine Stp.go ?_)
    constructor
    go_wp2_with (
      refine wpLoadA row27 (by rfl) (.tmp 1) (by rfl) b1 0 (by rfl) (hdC st ep) rfl (unhide BB).range ?_
      refine Stp.go ?_)
    constructor
    refine wpBuildP (by rfl) _ (by rfl) #[(0, .int .i64 1)] (by kernel_rfl) (hdC 1 0) (build27s _) ?_
    refine wpEqlA 27 27 guard27 (.tmp 3) (.tmp 4) (by rfl) (by rfl) (hdC st ep) (hdC 1 0) (by rfl) (by rfl) false ((equal27 _ _ _ _ _).trans (by rw [← isHd, unhide HI])) ?_
    go_wp2_with fail
    go_ret
    exact ⟨ret_bool (by simp [mayH, isWrit, unhide HI]; omega), unhide KK⟩
  go_enter Tryd.func10, Tryd.ntmps10
  go_wp2_with (
    refine wpBoxV rfl (.tmp 0) rfl (hdC st ep) rfl ?_
    intro W1 b1 e1 B1 K1
    have BB := hide B1
    have KK := hide K1
    have ce := fits_cell B1 1 _ rfl
    have cs := fits_cell B1 0 _ rfl
    clear e1 B1 K1
    refine Stp.go ?_)
  constructor
  go_wp2_with (
    refine wpLoadA row27 (by rfl) (.tmp 1) (by rfl) b1 0 (by rfl) (hdC st ep) rfl (unhide BB).range ?_
    refine Stp.go ?_)
  constructor
  refine wpBuildP (by rfl) _ (by rfl) #[(0, .int .i64 1)] (by kernel_rfl) (hdC 1 0) (build27s _) ?_
  refine wpEqlA 27 27 guard27 (.tmp 3) (.tmp 4) (by rfl) (by rfl) (hdC st ep) (hdC 1 0) (by rfl) (by rfl) false ((equal27 _ _ _ _ _).trans (by rw [← isHd, unhide HI])) ?_
  go_wp2_with fail
  go_ret
  exact ⟨ret_bool (by simp [mayH, isWrit, unhide HI]; omega), unhide KK⟩

end Go.Proofs.YtkpkiibahfdomaaDoor
