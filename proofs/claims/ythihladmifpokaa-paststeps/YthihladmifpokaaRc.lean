/-
  Going over the marks of none.
-/
import Derived.Test.YthihladmifpokaaRb
namespace Go.Proofs.Ythihladmifpokaa
set_option maxRecDepth 100000
set_option linter.unusedSimpArgs false
open Go.RowKit Go.Shelf
attribute [local go_sem] Oper.semAt_some


variable {w W W' V : World} {c : Nat} {u : Value}
set_option maxHeartbeats 2000000 in
theorem those43_z (h : Nil w u) (so : Value) : Calls Try.prog 43 #[u, so] w fun e W => e = .returned (.slice none 0 0) ∧ Kept [] w W := by
  have H := hide h
  clear h
  go_enter Try.func43, Try.ntmps43
  go_wp2_with (
    first
    | (go_at_call 33
       refine (marks33_z (unhide H)).mono ?_
       rintro e W9 ⟨rfl, q9⟩
       replace q9 := q9.symm
       subst q9
       refine Stp.go ?_))
  constructor
  go_wp2_with (
    first
    | (refine wpRange50z rfl (.tmp 10) rfl rfl ?_
       intro W1 r I1 K1
       have HJ := hide I1
       have HK := hide K1
       clear I1 K1
       refine Stp.go ?_))
  constructor
  go_wp2_with fail
  go_loopw [5] (fun xl wr => Hid (RZ wr r) ∧ Hid (Kept [] w wr) ∧ xl = .slice none 0 0) (fun _ _ => 0)
  case atStart => exact ⟨HJ, HK, rfl⟩
  case round =>
    clear HJ HK
    obtain ⟨HJ, HK, rfl⟩ := hrel
    go_wp2_with (
      first
      | (refine wpNext50z rfl (.tmp 11) rfl r rfl (unhide HJ) ?_
         refine Stp.go ?_))
    constructor
    go_wp2_with (
      first
      | (go_at_call 48
         refine (sort48 (D := []) (L := []) (Rw.nil _) (List.Perm.refl _) List.Pairwise.nil (by simp) (X := []) (fun k hk => by cases hk)).mono ?_
         rintro e W7 ⟨rfl, M7, K7⟩
         have HKF : Hid (Kept [] w W7) := hide ((unhide HK).trans K7)
         clear M7 K7
         refine Stp.go ?_))
    constructor
    go_wp2_with fail
    go_ret
    exact ⟨rfl, unhide HKF⟩
set_option maxHeartbeats 2000000 in
theorem all45_z (lp c : Nat) (p : Option Addr) (W : World) (hc : Blk W c 25 [.pointer p]) (hv : Nil W (.pointer p)) : Calls Try.prog 45 #[.func (.yield lp) #[] #[], P0 c] W fun e W' => (∃ u, e = .returned u) ∧ Kept [] W W' := by
  have c1 := fits_cell hc 0 _ rfl
  have HV := hide hv
  clear hc hv
  go_enter Try.func45, Try.ntmps45
  go_wp2_with (
    first
    | (go_at_call 43
       refine (those43_z (unhide HV) _).mono ?_
       rintro e W1 ⟨rfl, K1⟩
       have HK := hide K1
       clear K1
       refine Stp.go ?_))
  constructor
  go_wp2_with fail
  refine wp_loop_rounds 1 ?_
  rw [rounds_succ]
  go_wp2_with fail
  go_end0
  exact ⟨⟨_, rfl⟩, unhide HK⟩
theorem Nil.ptr {v : Value} (h : Nil w v) : ∃ p, v = .pointer p := by
  rcases h with rfl | ⟨b, rfl, _⟩
  · exact ⟨_, rfl⟩
  · exact ⟨_, rfl⟩
theorem all45_e (n lp c : Nat) (v : Value) (W : World) (hc : Blk W c 25 [v]) (hv : Nil W v) : CallsIn Fence.wide n Try.prog 45 #[.func (.yield lp) #[] #[], P0 c] W fun e W' => (∃ u, e = .returned u) ∧ Kept [] W W' := by
  obtain ⟨p, rfl⟩ := hv.ptr
  exact callsIn_wide.2 (all45_z lp c p W hc hv)

end Go.Proofs.Ythihladmifpokaa
