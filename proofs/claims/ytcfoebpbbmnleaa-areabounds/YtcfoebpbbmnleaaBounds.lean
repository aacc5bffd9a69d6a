/-
  The walk of AreaBounds: the greatest job, and what is just beyond its bounds.
-/
import Derived.Test.YtcfoebpbbmnleaaKnown
namespace Go.Proofs.Ytcfoebpbbmnleaa
open Go.RowKit

/-- The greatest job. -/
def bigJ : Job := ⟨8, 16, 16, 64, 100⟩
theorem g_sect (w : World) : Calls Try.prog 8 #[aggV (jobC bigJ)] w fun e w' => e = .returned (.tuple #[.int .i64 1073, .int .i64 0]) ∧ Kept [] w w' := sectors8 bigJ w
theorem g_rec1 (w : World) : Calls Try.prog 16 #[aggV (jobC bigJ), .int .i64 7, .int .i64 2147483647] w fun e w' => e = .returned (.tuple #[.int .i64 1037, .int .i64 0]) ∧ Kept [] w w' := record16 bigJ 7 2147483647 w
theorem g_rec2 (w : World) : Calls Try.prog 16 #[aggV (jobC bigJ), .int .i64 7, .int .i64 2147483648] w fun e w' => e = .returned (.tuple #[.int .i64 0, .int .i64 2]) ∧ Kept [] w w' := record16 bigJ 7 2147483648 w
theorem g_rec3 (w : World) : Calls Try.prog 16 #[aggV (jobC bigJ), .int .i64 7, .int .i64 0] w fun e w' => e = .returned (.tuple #[.int .i64 0, .int .i64 2]) ∧ Kept [] w w' := record16 bigJ 7 0 w
theorem g_rec4 (w : World) : Calls Try.prog 16 #[aggV (jobC bigJ), .int .i64 8, .int .i64 1] w fun e w' => e = .returned (.tuple #[.int .i64 0, .int .i64 2]) ∧ Kept [] w w' := record16 bigJ 8 1 w
theorem build_big (w : World) : (Instr.build 23 #[(0, .int .i64 8), (1, .int .i64 16), (2, .int .i64 16), (3, .int .i64 64), (4, .int .i64 100)]).run Try.prog w = .ok (aggV (jobC bigJ)) w := by kernel_rfl

set_option maxHeartbeats 2000000 in
set_option maxRecDepth 100000 in
theorem bounds6 (w : World) : Calls Try.prog 6 #[] w fun e w' => e = .returned (.bool true) ∧ Kept [] w w' := by
  have p_g_sect := hide g_sect
  have p_g_rec1 := hide g_rec1
  have p_g_rec2 := hide g_rec2
  have p_g_rec3 := hide g_rec3
  have p_g_rec4 := hide g_rec4
  have p_k_lease8 := hide k_lease8
  have p_k_head2 := hide k_head2
  have p_k_lease7 := hide k_lease7
  have p_known14 := hide known14
  go_enter Try.func6, Try.ntmps6
  go_wp2_with (
    first
    | (refine wpBuildP rfl _ rfl #[(0, .int .i64 8), (1, .int .i64 16), (2, .int .i64 16), (3, .int .i64 64), (4, .int .i64 100)] (by kernel_rfl) (jobC bigJ) (build_big _) ?_)
    | (refine wpNew row23 (jobC ⟨0, 0, 0, 0, 0⟩) rfl zero23 1 rfl rfl rfl (.tmp 18) rfl rfl rfl (jobC bigJ) rfl (jobC_one _) rfl rfl ?_
       intro W1 b1 e1 B1 K1
       have BB := hide B1
       have KK := hide K1
       clear e1 B1 K1)
    | (refine wpLoadA row23 rfl (.tmp 1) rfl b1 0 rfl (jobC bigJ) rfl (unhide BB).range ?_)
    | (go_at_call 19; refine (small19 _).mono ?_; rintro e W' ⟨rfl, K'⟩
       replace BB := hide ((unhide BB).kept K' (by simp))
       replace KK := hide ((unhide KK).trans K')
       clear K')
    | (go_at_call 8; refine (unhide p_g_sect _).mono ?_; clear p_g_sect; rintro e W' ⟨rfl, K'⟩
       replace BB := hide ((unhide BB).kept K' (by simp))
       replace KK := hide ((unhide KK).trans K')
       clear K')
    | (go_at_call 16; refine (unhide p_g_rec1 _).mono ?_; clear p_g_rec1; rintro e W' ⟨rfl, K'⟩
       replace BB := hide ((unhide BB).kept K' (by simp))
       replace KK := hide ((unhide KK).trans K')
       clear K')
    | (go_at_call 16; refine (unhide p_g_rec2 _).mono ?_; clear p_g_rec2; rintro e W' ⟨rfl, K'⟩
       replace BB := hide ((unhide BB).kept K' (by simp))
       replace KK := hide ((unhide KK).trans K')
       clear K')
    | (go_at_call 16; refine (unhide p_g_rec3 _).mono ?_; clear p_g_rec3; rintro e W' ⟨rfl, K'⟩
       replace BB := hide ((unhide BB).kept K' (by simp))
       replace KK := hide ((unhide KK).trans K')
       clear K')
    | (go_at_call 16; refine (unhide p_g_rec4 _).mono ?_; clear p_g_rec4; rintro e W' ⟨rfl, K'⟩
       replace BB := hide ((unhide BB).kept K' (by simp))
       replace KK := hide ((unhide KK).trans K')
       clear K')
    | (go_at_call 18; refine (unhide p_k_lease8 _).mono ?_; clear p_k_lease8; rintro e W' ⟨rfl, K'⟩
       replace BB := hide ((unhide BB).kept K' (by simp))
       replace KK := hide ((unhide KK).trans K')
       clear K')
    | (go_at_call 20; refine (unhide p_k_head2 _).mono ?_; clear p_k_head2; rintro e W' ⟨rfl, K'⟩
       replace BB := hide ((unhide BB).kept K' (by simp))
       replace KK := hide ((unhide KK).trans K')
       clear K')
    | (go_at_call 18; refine (unhide p_k_lease7 _).mono ?_; clear p_k_lease7; rintro e W' ⟨rfl, K'⟩
       replace BB := hide ((unhide BB).kept K' (by simp))
       replace KK := hide ((unhide KK).trans K')
       clear K')
    | (go_at_call 11; refine (num11 _ _).mono ?_; rintro e W' ⟨rfl, rfl⟩)
    | (go_at_call 14; refine (unhide p_known14 _).mono ?_; clear p_known14; rintro e W' ⟨rfl, K'⟩
       replace BB := hide ((unhide BB).kept K' (by simp))
       replace KK := hide ((unhide KK).trans K')
       clear K'))
  go_ret
  exact ⟨rfl, unhide KK⟩

end Go.Proofs.Ytcfoebpbbmnleaa
