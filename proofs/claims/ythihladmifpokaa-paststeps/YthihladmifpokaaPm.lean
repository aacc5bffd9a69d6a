/-
  Copy; Same.
-/
import Derived.Test.YthihladmifpokaaPl
namespace Go.Proofs.Ythihladmifpokaa
set_option maxRecDepth 100000
set_option linter.unusedSimpArgs false
open Go.RowKit

variable {w W W' : World} {b mb c mc : Nat} {L M : List Mk} {v u : Value}
theorem clone42 (mb : Nat) (L : List Mk) (w : World) (h : MapAt w mb L) : Calls Try.prog 42 #[.map (some mb)] w fun e w' => ∃ m', e = .returned (.map (some m')) ∧ w.heap.size ≤ m' ∧ MapAt w' m' L ∧ Kept [] w w' := by
  obtain ⟨es, c, hb, h2, hst⟩ := h
  have hq : ∀ W, Sem.run Try.prog (binOp BinOp.eql 50 (.map (some mb)) (.map none)) W = .ok (.bool false) W := fun W => by kernel_rfl
  have hc : (Extern.MapsClone.clone #[.iface 50 (.map (some mb))]).run Try.prog w = .ok (.iface 50 (.map (some w.heap.size))) (w.alloc (.map es c)) := by
    show Sem.run Try.prog (getObj mb >>= _) w = _
    rw [Sem.run_bind, get_map hb]
    rfl
  have ht : ∀ (W : World) (m : Nat), (Instr.typeAssert (.iface 50 (.map (some m))) 20 50 false).run Try.prog W = .ok (.map (some m)) W := fun W m => by kernel_rfl
  go_enter Try.func42, Try.ntmps42
  go_wp2
  rw [run_callFunc_extern Try.func47 (by kernel_rfl) (by kernel_rfl) (by kernel_rfl) (e := Extern.MapsClone.clone) (by kernel_rfl), hc]
  simp only [Result.andThen]
  rw [Oper.upon_value]
  go_wp2
  go_ret
  exact ⟨w.heap.size, rfl, Nat.le_refl _, ⟨es, c, heap_alloc_new w _, h2, hst⟩, (Kept.refl _ _).alloc _⟩

theorem copy25 (h : Pg w b mb L) : Calls Try.prog 25 #[P0 b] w fun e W => ∃ b2 mb2, e = .returned (P0 b2) ∧ Pg W b2 mb2 L ∧ Kept [] w W ∧ w.heap.size ≤ b2 ∧ w.heap.size ≤ mb2 := by
  have H := hide h
  have c0 := h.cw
  clear h
  go_enter Try.func25, Try.ntmps25
  go_wp2_with (
    first
    | (go_at_call 31
       refine (none31 (unhide H)).mono ?_
       rintro e W9 ⟨rfl, q9⟩
       replace q9 := q9.symm
       subst q9
       refine Stp.go ?_))
  constructor
  go_wp2_with (
    first
    | (go_at_call 42
       refine (clone42 mb L _ (unhide H).map).mono ?_
       rintro e W3 ⟨mb2, rfl, hm2, hM3, K3⟩
       have HM := hide hM3
       have HM2 : Hid (w.heap.size ≤ mb2) := by show _ ≤ _; omega
       have HK := hide K3
       clear c0 hm2 hM3 K3
       refine Stp.go ?_))
  constructor
  go_wp2_with (
    first
    | (refine wpBoxV rfl (.tmp 10) rfl [.map (some mb2)] rfl ?_
       intro W4 b2 e2 B2 K2
       have HP : Hid (Pg W4 b2 mb2 L) := ⟨B2, (unhide HM).kept K2 (by simp), (unhide H).ok⟩
       have HB : Hid (w.heap.size ≤ b2) := by have := (unhide HK).size; show _ ≤ _; omega
       replace HK := hide ((unhide HK).trans K2)
       clear e2 B2 K2
       refine Stp.go ?_))
  constructor
  go_wp2_with fail
  go_ret
  exact ⟨b2, mb2, rfl, unhide HP, unhide HK, unhide HB, unhide HM2⟩
theorem copy25_z (h : Nil w v) : Calls Try.prog 25 #[v] w fun e W => e = .returned (.pointer none) ∧ W = w := by
  have H := hide h
  clear h
  go_enter Try.func25, Try.ntmps25
  go_wp2_with (
    first
    | (go_at_call 31
       refine (none31_z (unhide H)).mono ?_
       rintro e W9 ⟨rfl, q9⟩
       replace q9 := q9.symm
       subst q9
       refine Stp.go ?_))
  constructor
  go_wp2_with fail
  go_ret
  exact ⟨rfl, rfl⟩
theorem same11 (h : Pg w b mb L) (g : Pg w c mc M) : Calls Try.prog 11 #[P0 b, P0 c] w fun e W => e = .returned (.bool (sameL L M)) ∧ Kept [] w W := by
  have H := hide h
  have G := hide g
  clear h g
  go_enter Try.func11, Try.ntmps11
  go_wp2_with (
    first
    | (go_at_call 31
       refine (none31 (unhide H)).mono ?_
       rintro e W9 ⟨rfl, q9⟩
       replace q9 := q9.symm
       subst q9
       refine Stp.go ?_))
  constructor
  go_wp2_with (
    first
    | (go_at_call 31
       refine (none31 (unhide G)).mono ?_
       rintro e W9 ⟨rfl, q9⟩
       replace q9 := q9.symm
       subst q9
       refine Stp.go ?_))
  constructor
  go_wp2_with (
    first
    | (go_at_call 33
       refine (marks33 (unhide H)).mono ?_
       rintro e W9 ⟨rfl, q9⟩
       replace q9 := q9.symm
       subst q9
       refine Stp.go ?_))
  constructor
  go_wp2_with (
    first
    | (go_at_call 33
       refine (marks33 (unhide G)).mono ?_
       rintro e W9 ⟨rfl, q9⟩
       replace q9 := q9.symm
       subst q9
       refine Stp.go ?_))
  constructor
  go_wp2_with (
    first
    | (go_at_call 32
       refine (eq32 (unhide H).map (unhide G).map).mono ?_
       rintro e W3 ⟨rfl, K3⟩
       have HK := hide K3
       clear K3
       refine Stp.go ?_))
  constructor
  go_wp2_with fail
  go_ret
  exact ⟨rfl, unhide HK⟩
theorem same11_zp (h : Nil w v) (g : Pg w c mc M) : Calls Try.prog 11 #[v, P0 c] w fun e W => e = .returned (.bool false) ∧ Kept [] w W := by
  have H := hide h
  have G := hide g
  clear h g
  go_enter Try.func11, Try.ntmps11
  go_wp2_with (
    first
    | (go_at_call 31
       refine (none31_z (unhide H)).mono ?_
       rintro e W9 ⟨rfl, q9⟩
       replace q9 := q9.symm
       subst q9
       refine Stp.go ?_))
  constructor
  go_wp2_with (
    first
    | (go_at_call 31
       refine (none31 (unhide G)).mono ?_
       rintro e W9 ⟨rfl, q9⟩
       replace q9 := q9.symm
       subst q9
       refine Stp.go ?_))
  constructor
  go_wp2_with fail
  go_ret
  exact ⟨rfl, Kept.refl _ _⟩
theorem same11_pz (h : Pg w b mb L) (g : Nil w v) : Calls Try.prog 11 #[P0 b, v] w fun e W => e = .returned (.bool false) ∧ Kept [] w W := by
  have H := hide h
  have G := hide g
  clear h g
  go_enter Try.func11, Try.ntmps11
  go_wp2_with (
    first
    | (go_at_call 31
       refine (none31 (unhide H)).mono ?_
       rintro e W9 ⟨rfl, q9⟩
       replace q9 := q9.symm
       subst q9
       refine Stp.go ?_))
  constructor
  go_wp2_with (
    first
    | (go_at_call 31
       refine (none31_z (unhide G)).mono ?_
       rintro e W9 ⟨rfl, q9⟩
       replace q9 := q9.symm
       subst q9
       refine Stp.go ?_))
  constructor
  go_wp2_with fail
  go_ret
  exact ⟨rfl, Kept.refl _ _⟩

end Go.Proofs.Ythihladmifpokaa
