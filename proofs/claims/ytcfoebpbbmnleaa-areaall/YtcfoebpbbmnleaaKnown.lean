/-
  The walk of known: the chapter's rows.
-/
import Derived.Test.YtcfoebpbbmnleaaOf
namespace Go.Proofs.Ytcfoebpbbmnleaa
open Go.RowKit

theorem k_sect (w : World) : Calls Try.prog 8 #[aggV (jobC smallJ)] w fun e w' => e = .returned (.tuple #[.int .i64 25, .int .i64 0]) ∧ Kept [] w w' := sectors8 smallJ w
theorem k_view (w : World) : Calls Try.prog 9 #[aggV (jobC smallJ)] w fun e w' => e = .returned (.tuple #[.int .i64 0, .int .i64 0]) ∧ Kept [] w w' := view9 smallJ w
theorem k_lease1 (w : World) : Calls Try.prog 18 #[aggV (jobC smallJ), .int .i64 1] w fun e w' => e = .returned (.tuple #[.int .i64 2, .int .i64 0]) ∧ Kept [] w w' := lease18 smallJ 1 w
theorem k_lease7 (w : World) : Calls Try.prog 18 #[aggV (jobC smallJ), .int .i64 7] w fun e w' => e = .returned (.tuple #[.int .i64 8, .int .i64 0]) ∧ Kept [] w w' := lease18 smallJ 7 w
theorem k_lease8 (w : World) : Calls Try.prog 18 #[aggV (jobC smallJ), .int .i64 8] w fun e w' => e = .returned (.tuple #[.int .i64 0, .int .i64 2]) ∧ Kept [] w w' := lease18 smallJ 8 w
theorem k_head1 (w : World) : Calls Try.prog 20 #[aggV (jobC smallJ), .int .i64 1] w fun e w' => e = .returned (.tuple #[.int .i64 14, .int .i64 0]) ∧ Kept [] w w' := head20 smallJ 1 w
theorem k_head2 (w : World) : Calls Try.prog 20 #[aggV (jobC smallJ), .int .i64 2] w fun e w' => e = .returned (.tuple #[.int .i64 0, .int .i64 2]) ∧ Kept [] w w' := head20 smallJ 2 w
theorem k_rec1 (w : World) : Calls Try.prog 16 #[aggV (jobC smallJ), .int .i64 1, .int .i64 1] w fun e w' => e = .returned (.tuple #[.int .i64 15, .int .i64 0]) ∧ Kept [] w w' := record16 smallJ 1 1 w
theorem k_rec2 (w : World) : Calls Try.prog 16 #[aggV (jobC smallJ), .int .i64 1, .int .i64 2] w fun e w' => e = .returned (.tuple #[.int .i64 17, .int .i64 0]) ∧ Kept [] w w' := record16 smallJ 1 2 w
theorem k_rec3 (w : World) : Calls Try.prog 16 #[aggV (jobC smallJ), .int .i64 1, .int .i64 3] w fun e w' => e = .returned (.tuple #[.int .i64 15, .int .i64 0]) ∧ Kept [] w w' := record16 smallJ 1 3 w
theorem k_page2 (w : World) : Calls Try.prog 17 #[aggV (jobC smallJ), .int .i64 2] w fun e w' => e = .returned (.tuple #[.int .i64 23, .int .i64 0]) ∧ Kept [] w w' := page17 smallJ 2 w
theorem k_page3 (w : World) : Calls Try.prog 17 #[aggV (jobC smallJ), .int .i64 3] w fun e w' => e = .returned (.tuple #[.int .i64 0, .int .i64 2]) ∧ Kept [] w w' := page17 smallJ 3 w
theorem k_of (w : World) : Calls Try.prog 13 #[aggV (jobC smallJ), .int .i64 24] w fun e w' => e = .returned (.tuple #[aggV (fourC 5 0 2 1), .int .i64 0]) ∧ Kept [] w w' := of13 smallJ 24 (by simp [I64]) w

theorem wpLoadG {ops : Array Oper} {rest : List Oper} {op : Oper} {a : Act} {w : World} {Q : Exit → Act → World → Prop} {T n : Nat} (hT : Row T n) (x : Operand) (ho : op.op = .load T x) (hw : Region.wanted op (yielded ops a.tmps) = true) (b off : Nat) (hx : a.eval x = .pointer (some ⟨b, off, none⟩)) (vs : List Value) (hl : vs.length = n) (hA : w.rangeAt b off vs)
    (h : wpList Try.prog ops Q rest (a.put op.dst (aggV vs)) w) : wpList Try.prog ops Q (op :: rest) a w :=
  BigFrame.wpList_want hw fun _ hK => wp_loadA hT x ho b off hx vs hl hA (hK _ _ h)
theorem build_page (w : World) : (Instr.build 37 #[(0, .int .i64 5), (2, .int .i64 2), (3, .int .i64 1)]).run Try.prog w = .ok (aggV (fourC 5 0 2 1)) w := by kernel_rfl
theorem equal_page (w : World) : (Op.equal 37 (aggV (fourC 5 0 2 1)) (aggV (fourC 5 0 2 1))).run Try.prog w = .ok true w := equal37 w 5 0 2 1 5 0 2 1

set_option maxHeartbeats 2000000 in
set_option maxRecDepth 100000 in
theorem known14 (w : World) : Calls Try.prog 14 #[] w fun e w' => e = .returned (.bool true) ∧ Kept [] w w' := by
  have p_k_sect := hide k_sect
  have p_k_view := hide k_view
  have p_k_lease1 := hide k_lease1
  have p_k_lease7 := hide k_lease7
  have p_k_head1 := hide k_head1
  have p_k_rec1 := hide k_rec1
  have p_k_rec2 := hide k_rec2
  have p_k_rec3 := hide k_rec3
  have p_k_page2 := hide k_page2
  have p_k_page3 := hide k_page3
  have p_k_of := hide k_of
  go_enter Try.func14, Try.ntmps14
  go_wp2_with (
    first
    | (go_at_call 19; refine (small19 _).mono ?_; rintro e W' ⟨rfl, K'⟩
       have KK := hide K'
       clear K')
    | (refine wpNew row23 (jobC ⟨0, 0, 0, 0, 0⟩) rfl zero23 1 rfl rfl rfl (.tmp 24) rfl rfl rfl (jobC smallJ) rfl (jobC_one _) rfl rfl ?_
       intro W1 b1 e1 B1 K1
       have BB := hide B1
       replace KK := hide ((unhide KK).trans K1)
       clear e1 B1 K1)
    | (refine wpLoadA row23 rfl (.tmp 1) rfl b1 0 rfl (jobC smallJ) rfl (unhide BB).range ?_)
    | (go_at_call 8; refine (unhide p_k_sect _).mono ?_; clear p_k_sect; rintro e W' ⟨rfl, K'⟩
       replace BB := hide ((unhide BB).kept K' (by simp))
       replace KK := hide ((unhide KK).trans K')
       clear K')
    | (go_at_call 9; refine (unhide p_k_view _).mono ?_; clear p_k_view; rintro e W' ⟨rfl, K'⟩
       replace BB := hide ((unhide BB).kept K' (by simp))
       replace KK := hide ((unhide KK).trans K')
       clear K')
    | (go_at_call 18; refine (unhide p_k_lease1 _).mono ?_; clear p_k_lease1; rintro e W' ⟨rfl, K'⟩
       replace BB := hide ((unhide BB).kept K' (by simp))
       replace KK := hide ((unhide KK).trans K')
       clear K')
    | (go_at_call 18; refine (unhide p_k_lease7 _).mono ?_; clear p_k_lease7; rintro e W' ⟨rfl, K'⟩
       replace BB := hide ((unhide BB).kept K' (by simp))
       replace KK := hide ((unhide KK).trans K')
       clear K')
    | (go_at_call 20; refine (unhide p_k_head1 _).mono ?_; clear p_k_head1; rintro e W' ⟨rfl, K'⟩
       replace BB := hide ((unhide BB).kept K' (by simp))
       replace KK := hide ((unhide KK).trans K')
       clear K')
    | (go_at_call 16; refine (unhide p_k_rec1 _).mono ?_; clear p_k_rec1; rintro e W' ⟨rfl, K'⟩
       replace BB := hide ((unhide BB).kept K' (by simp))
       replace KK := hide ((unhide KK).trans K')
       clear K')
    | (go_at_call 16; refine (unhide p_k_rec2 _).mono ?_; clear p_k_rec2; rintro e W' ⟨rfl, K'⟩
       replace BB := hide ((unhide BB).kept K' (by simp))
       replace KK := hide ((unhide KK).trans K')
       clear K')
    | (go_at_call 16; refine (unhide p_k_rec3 _).mono ?_; clear p_k_rec3; rintro e W' ⟨rfl, K'⟩
       replace BB := hide ((unhide BB).kept K' (by simp))
       replace KK := hide ((unhide KK).trans K')
       clear K')
    | (go_at_call 17; refine (unhide p_k_page2 _).mono ?_; clear p_k_page2; rintro e W' ⟨rfl, K'⟩
       replace BB := hide ((unhide BB).kept K' (by simp))
       replace KK := hide ((unhide KK).trans K')
       clear K')
    | (go_at_call 17; refine (unhide p_k_page3 _).mono ?_; clear p_k_page3; rintro e W' ⟨rfl, K'⟩
       replace BB := hide ((unhide BB).kept K' (by simp))
       replace KK := hide ((unhide KK).trans K')
       clear K')
    | (go_at_call 13; refine (unhide p_k_of _).mono ?_; clear p_k_of; rintro e W' ⟨rfl, K'⟩
       replace BB := hide ((unhide BB).kept K' (by simp))
       replace KK := hide ((unhide KK).trans K')
       clear K')
    | (refine wpNew row37 (fourC 0 0 0 0) rfl zero37 22 rfl rfl rfl (.tmp 78) rfl rfl rfl (fourC 5 0 2 1) rfl (fourC_one _ _ _ _) rfl rfl ?_
       intro W2 b2 e2 B2 K2
       have CC := hide B2
       replace KK := hide ((unhide KK).trans K2)
       clear e2 B2 K2 BB)
    | (go_at_call 11; refine (num11 _ _).mono ?_; rintro e W' ⟨rfl, rfl⟩)
    | (refine wpLoadG row37 (.tmp 22) rfl (by kernel_rfl) b2 0 (by kernel_rfl) (fourC 5 0 2 1) rfl (unhide CC).range ?_)
    | (refine wpBuildG _ rfl (by kernel_rfl) #[(0, .int .i64 5), (2, .int .i64 2), (3, .int .i64 1)] (by kernel_rfl) (fourC 5 0 2 1) (build_page _) ?_)
    | (refine wpEqlG 37 37 guard37 (.tmp 152) (.tmp 153) rfl (by kernel_rfl) (fourC 5 0 2 1) (fourC 5 0 2 1) (by kernel_rfl) (by kernel_rfl) true (equal_page _) ?_))
  go_ret
  exact ⟨rfl, unhide KK⟩

end Go.Proofs.Ytcfoebpbbmnleaa
