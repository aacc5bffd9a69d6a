/-
  The walk of AreaWhere, of a job that may not be.
-/
import Derived.Test.YtcfoebpbbmnleaaWherea
namespace Go.Proofs.Ytcfoebpbbmnleaa
open Go.RowKit

set_option maxHeartbeats 20000000 in
set_option maxRecDepth 100000 in
theorem where3_no (j : Job) (hm : j.may = false) (l : List Ask) (hI : ∀ x ∈ l, I64 x.s) (hl : l.length ≤ 140737488355328) (la : Option Addr) (lc : Nat) (w : World) (hA : AskS w la l) : Calls Try.prog 3 #[aggV (jobC j), .slice la l.length lc] w fun e w' => e = .returned (.bool true) ∧ Kept [] w w' := by
  have HA := hide hA
  clear hA
  have hNl := Job.N_le j
  have p0 := hide known14
  have p1 := hide (sectors8 j)
  have p2 := hide (view9 j)
  have p3 := hide (may10 j)
  have hN := Job.N_no hm
  have s1 : j.sectors = (0, 2) := by simp [Job.sectors, hm]
  have s2 : j.view = (0, 2) := by simp [Job.view, hm]
  rw [s1] at p1
  rw [s2] at p2
  rw [hm] at p3
  clear s1 s2 hm
  go_enter Try.func3, Try.ntmps3
  go_wp2_with (
    first
    | (refine wpBoxV rfl (.tmp 0) rfl (jobC j) rfl ?_
       intro W1 b1 e1 B1 K1
       have BB := hide B1
       have KK := hide K1
       clear e1 B1 K1)
    | (refine wpLoadA row23 rfl (.tmp 2) rfl b1 0 (by kernel_rfl) (jobC j) rfl (unhide BB).range ?_)
    | (go_at_call 7; refine (list7 j _).mono ?_; rintro e W3 ⟨v, rfl, hO, K3⟩
       obtain ⟨ao, c, rfl, hlst⟩ := own_lst hO
       have HL := hide hlst
       replace BB := hide ((unhide BB).kept K3 (by simp))
       replace KK := hide ((unhide KK).trans K3)
       clear K3 hO hlst)
    | (go_at_call 8; refine (unhide p1 _).mono ?_; clear p1; rintro e W' ⟨rfl, K'⟩
       replace BB := hide ((unhide BB).kept K' (by simp))
       replace HL := hide ((unhide HL).kept K')
       replace KK := hide ((unhide KK).trans K')
       clear K')
    | (go_at_call 9; refine (unhide p2 _).mono ?_; clear p2; rintro e W' ⟨rfl, K'⟩
       replace BB := hide ((unhide BB).kept K' (by simp))
       replace HL := hide ((unhide HL).kept K')
       replace KK := hide ((unhide KK).trans K')
       clear K')
    | (go_at_call 10; refine (unhide p3 _).mono ?_; clear p3; rintro e W' ⟨rfl, K'⟩
       replace BB := hide ((unhide BB).kept K' (by simp))
       replace HL := hide ((unhide HL).kept K')
       replace KK := hide ((unhide KK).trans K')
       clear K')
    | (go_at_call 11; refine (num11 _ _).mono ?_; rintro e W' ⟨rfl, rfl⟩))
  go_loopw [10] (fun i wr => ∃ k : Nat, k ≤ l.length ∧ k ≤ 40 ∧ i = .int .i64 k ∧ Hid (Kept [] W' wr)) (fun i _ => 40 - (intOf i).toNat)
  case atStart => exact ⟨0, by omega, by omega, rfl, Kept.refl _ _⟩
  case round =>
    obtain ⟨k, hk, hk40, rfl, hkp⟩ := hrel
    replace BB := hide ((unhide BB).kept (unhide hkp) (by simp))
    replace HL := hide ((unhide HL).kept (unhide hkp))
    replace KK := hide ((unhide KK).trans (unhide hkp))
    by_cases hlt : k < l.length
    rotate_left
    · go_wp2_with (
        first
        | (go_at_call 14; refine (unhide p0 _).mono ?_; clear p0; rintro e W' ⟨rfl, K'⟩
           replace BB := hide ((unhide BB).kept K' (by simp))
           replace HL := hide ((unhide HL).kept K')
           replace KK := hide ((unhide KK).trans K')
           clear K'))
      go_ret
      exact ⟨rfl, unhide KK⟩
    by_cases hlt2 : k < 40
    rotate_left
    · go_wp2_with (
        first
        | (go_at_call 14; refine (unhide p0 _).mono ?_; clear p0; rintro e W' ⟨rfl, K'⟩
           replace BB := hide ((unhide BB).kept K' (by simp))
           replace HL := hide ((unhide HL).kept K')
           replace KK := hide ((unhide KK).trans K')
           clear K'))
      go_ret
      exact ⟨rfl, unhide KK⟩
    obtain ⟨x, hx⟩ : ∃ x, l[k]? = some x := ⟨_, List.getElem?_eq_getElem hlt⟩
    have hxs := hI x (List.mem_of_getElem? hx)
    obtain ⟨lb, lo, hao, hxr⟩ := ((unhide HA).kept (unhide KK)) k x hx
    subst hao
    have HX := hide hxr
    have r1 := hide (where12 j x.n x.p x.s x.l)
    have r2 := hide (of13 j x.s hxs)
    clear hx hxr
    by_cases hout : x.s < 0 ∨ (j.N : Int) ≤ x.s
    · have ho := of_out x.s hout
      rw [ho] at r2
      clear ho
      by_cases h0 : x.s < 0
      · go_wp2_with (
          first
          | (refine wpLoadA row23 rfl (.tmp 2) rfl b1 0 (by kernel_rfl) (jobC j) rfl (unhide BB).range ?_)
          | (refine wpLoadA row33 rfl (.tmp 73) rfl lb (lo + k * 4) (by kernel_rfl) (fourC x.n x.p x.s x.l) rfl (unhide HX) ?_)
          | (refine wpNew row33 (fourC 0 0 0 0) rfl zero33 11 rfl rfl rfl (.tmp 74) rfl rfl rfl (fourC x.n x.p x.s x.l) rfl (fourC_one _ _ _ _) (by kernel_rfl) (by kernel_rfl) ?_
             intro W5 b3 e3 B3 K3
             have B3' := hide B3
             have BB2 := hide ((unhide BB).kept K3 (by simp))
             have HL2 := hide ((unhide HL).kept K3)
             have HKP := hide ((unhide hkp).trans K3)
             clear e3 B3 K3 BB HL HX)
          | (refine wpLoadA row23 rfl (.tmp 2) rfl b1 0 (by kernel_rfl) (jobC j) rfl (unhide BB2).range ?_)
          | (refine wpLoadA row33 rfl (.tmp 11) rfl b3 0 (by kernel_rfl) (fourC x.n x.p x.s x.l) rfl (unhide B3').range ?_)
          | (go_at_call 12; refine (unhide r1 _).mono ?_; clear r1; rintro e W' ⟨rfl, K'⟩
             replace B3' := hide ((unhide B3').kept K' (by simp))
             replace BB2 := hide ((unhide BB2).kept K' (by simp))
             replace HL2 := hide ((unhide HL2).kept K')
             replace HKP := hide ((unhide HKP).trans K')
             obtain ⟨x0, x1, x2, x3⟩ := four_cells (unhide B3')
             clear K')
          | (go_at_call 13; refine (unhide r2 _).mono ?_; clear r2; rintro e W' ⟨rfl, K'⟩
             clear x0 x1 x2 x3
             replace B3' := hide ((unhide B3').kept K' (by simp))
             replace BB2 := hide ((unhide BB2).kept K' (by simp))
             replace HL2 := hide ((unhide HL2).kept K')
             replace HKP := hide ((unhide HKP).trans K')
             clear K')
          | (refine wpNew row37 (fourC 0 0 0 0) rfl zero37 12 rfl rfl rfl (.tmp 84) rfl rfl rfl (fourC 0 0 0 0) rfl (fourC_one _ _ _ _) (by kernel_rfl) (by kernel_rfl) ?_
             intro W6 b4 e4 B4 K4
             have B4' := hide B4
             replace B3' := hide ((unhide B3').kept K4 (by simp))
             replace BB2 := hide ((unhide BB2).kept K4 (by simp))
             replace HL2 := hide ((unhide HL2).kept K4)
             replace HKP := hide ((unhide HKP).trans K4)
             obtain ⟨x0, x1, x2, x3⟩ := four_cells (unhide B3')
             clear e4 B4 K4)
          | (refine wpLoadA row37 rfl (.tmp 12) rfl b4 0 (by kernel_rfl) (fourC 0 0 0 0) rfl (unhide B4').range ?_)
          | (refine wpBuildZ (fourC 0 0 0 0) build37 rfl rfl ?_)
          | (refine wpNeqA 37 37 guard37 (.tmp 96) (.tmp 97) rfl rfl (fourC 0 0 0 0) (fourC 0 0 0 0) (by kernel_rfl) (by kernel_rfl) true (pl_zero _) ?_)
          | (go_at_call 11; refine (num11 _ _).mono ?_; rintro e W' ⟨rfl, rfl⟩))
        go_roundw
        case rel => exact ⟨k + 1, by omega, by omega, by go_num, HKP⟩
        case measure => simp [intOf]; omega
      · have h1 : (j.N : Int) ≤ x.s := by omega
        go_wp2_with (
          first
          | (refine wpLoadA row23 rfl (.tmp 2) rfl b1 0 (by kernel_rfl) (jobC j) rfl (unhide BB).range ?_)
          | (refine wpLoadA row33 rfl (.tmp 73) rfl lb (lo + k * 4) (by kernel_rfl) (fourC x.n x.p x.s x.l) rfl (unhide HX) ?_)
          | (refine wpNew row33 (fourC 0 0 0 0) rfl zero33 11 rfl rfl rfl (.tmp 74) rfl rfl rfl (fourC x.n x.p x.s x.l) rfl (fourC_one _ _ _ _) (by kernel_rfl) (by kernel_rfl) ?_
             intro W5 b3 e3 B3 K3
             have B3' := hide B3
             have BB2 := hide ((unhide BB).kept K3 (by simp))
             have HL2 := hide ((unhide HL).kept K3)
             have HKP := hide ((unhide hkp).trans K3)
             clear e3 B3 K3 BB HL HX)
          | (refine wpLoadA row23 rfl (.tmp 2) rfl b1 0 (by kernel_rfl) (jobC j) rfl (unhide BB2).range ?_)
          | (refine wpLoadA row33 rfl (.tmp 11) rfl b3 0 (by kernel_rfl) (fourC x.n x.p x.s x.l) rfl (unhide B3').range ?_)
          | (go_at_call 12; refine (unhide r1 _).mono ?_; clear r1; rintro e W' ⟨rfl, K'⟩
             replace B3' := hide ((unhide B3').kept K' (by simp))
             replace BB2 := hide ((unhide BB2).kept K' (by simp))
             replace HL2 := hide ((unhide HL2).kept K')
             replace HKP := hide ((unhide HKP).trans K')
             obtain ⟨x0, x1, x2, x3⟩ := four_cells (unhide B3')
             clear K')
          | (go_at_call 13; refine (unhide r2 _).mono ?_; clear r2; rintro e W' ⟨rfl, K'⟩
             clear x0 x1 x2 x3
             replace B3' := hide ((unhide B3').kept K' (by simp))
             replace BB2 := hide ((unhide BB2).kept K' (by simp))
             replace HL2 := hide ((unhide HL2).kept K')
             replace HKP := hide ((unhide HKP).trans K')
             clear K')
          | (refine wpNew row37 (fourC 0 0 0 0) rfl zero37 12 rfl rfl rfl (.tmp 84) rfl rfl rfl (fourC 0 0 0 0) rfl (fourC_one _ _ _ _) (by kernel_rfl) (by kernel_rfl) ?_
             intro W6 b4 e4 B4 K4
             have B4' := hide B4
             replace B3' := hide ((unhide B3').kept K4 (by simp))
             replace BB2 := hide ((unhide BB2).kept K4 (by simp))
             replace HL2 := hide ((unhide HL2).kept K4)
             replace HKP := hide ((unhide HKP).trans K4)
             obtain ⟨x0, x1, x2, x3⟩ := four_cells (unhide B3')
             clear e4 B4 K4)
          | (refine wpLoadA row37 rfl (.tmp 12) rfl b4 0 (by kernel_rfl) (fourC 0 0 0 0) rfl (unhide B4').range ?_)
          | (refine wpBuildZ (fourC 0 0 0 0) build37 rfl rfl ?_)
          | (refine wpNeqA 37 37 guard37 (.tmp 96) (.tmp 97) rfl rfl (fourC 0 0 0 0) (fourC 0 0 0 0) (by kernel_rfl) (by kernel_rfl) true (pl_zero _) ?_)
          | (go_at_call 11; refine (num11 _ _).mono ?_; rintro e W' ⟨rfl, rfl⟩))
        go_roundw
        case rel => exact ⟨k + 1, by omega, by omega, by go_num, HKP⟩
        case measure => simp [intOf]; omega
    · omega

end Go.Proofs.Ytcfoebpbbmnleaa
