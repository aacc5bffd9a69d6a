/-
  maps.Equal of two nil maps; Same of none.
-/
import Derived.Test.YthihladmifpokaaPm
namespace Go.Proofs.Ythihladmifpokaa
set_option maxRecDepth 100000
set_option linter.unusedSimpArgs false
open Go.RowKit


section
variable {ops : Array Oper} {rest : List Oper} {op o : Oper} {a : Act} {w : World} {K : Act → World → Prop} {Q : Exit → Act → World → Prop}
theorem wpLen50z (hgd : op.guard = none) (x : Operand) (ho : op.op = .call { callee := .builtin .len, args := #[x], argTypes := #[50] }) (hx : a.eval x = .map none) (h : wpList Try.prog ops Q rest (a.put op.dst (.int .i64 0)) w) : wpList Try.prog ops Q (op :: rest) a w :=
  wpList_plain hgd fun _ hK => o_len50z x ho hx (hK _ _ h)
/-- An iterator over no map. -/
def RZ (W : World) (r : Nat) : Prop := W.heap[r]? = some (.mapIter none 0 #[] 0)
theorem wpRange50z (hgd : op.guard = none) (x : Operand) (ho : op.op = .range 50 x) (hx : a.eval x = .map none)
    (h : ∀ W r, RZ W r → Kept [] w W → wpList Try.prog ops Q rest (a.put op.dst (P0 r)) W) : wpList Try.prog ops Q (op :: rest) a w :=
  wpList_plain hgd fun _ hK => by
    have hr := run_rangeZ w
    unfold Oper.wp execOp
    simp only [ho, hx, Sem.run_bind, hr, Result.andThen_ok, Sem.run_pure]
    exact hK _ _ (h _ _ (heap_alloc_new w _) ((Kept.refl _ _).alloc _))
theorem wpNext50z (hgd : op.guard = none) (x : Operand) (ho : op.op = .next x false) (r : Nat) (hx : a.eval x = P0 r) (hI : RZ w r) (h : wpList Try.prog ops Q rest (a.put op.dst (.tuple #[.bool false])) w) : wpList Try.prog ops Q (op :: rest) a w :=
  wpList_plain hgd fun _ hK => by
    have hr : (Instr.next (P0 r) false op.type).run Try.prog w = .ok (.tuple #[.bool false]) w := by
      have h9 : w.heap[r]? = some (.mapIter none 0 #[] 0) := hI
      simp only [Instr.next, getObj, Sem.run_bind, Sem.run, h9, Result.andThen]
      rfl
    unfold Oper.wp execOp
    simp only [ho, hx, Sem.run_bind, hr, Result.andThen_ok, Sem.run_pure]
    exact hK _ _ h
end
variable {w W W' : World} {b mb c mc : Nat} {L M : List Mk} {v u : Value}
theorem eq32_zz (w : World) : Calls Try.prog 32 #[.map none, .map none] w fun e W => e = .returned (.bool true) ∧ Kept [] w W := by
  go_enter Try.func32, Try.ntmps32
  go_wp2_with (
    first
    | (refine wpLen50z rfl (.tmp 9) rfl rfl ?_
       refine Stp.go ?_))
  constructor
  go_wp2_with (
    first
    | (refine wpLen50z rfl (.tmp 11) rfl rfl ?_
       refine Stp.go ?_))
  constructor
  go_wp2_with (
    first
    | (refine wpRange50z rfl (.tmp 14) rfl rfl ?_
       intro W1 r I1 K1
       have HI := hide I1
       have HK := hide K1
       clear I1 K1
       refine Stp.go ?_))
  constructor
  go_wp2_with fail
  go_loopw [6] (fun _ wr => Hid (RZ wr r) ∧ Hid (Kept [] w wr)) (fun _ _ => 0)
  case atStart => exact ⟨HI, HK⟩
  case round =>
    clear HI HK
    obtain ⟨HI, HK⟩ := hrel
    go_wp2_with (
      first
      | (refine wpNext50z rfl (.tmp 15) rfl r rfl (unhide HI) ?_
         refine Stp.go ?_))
    constructor
    go_wp2_with fail
    go_ret
    exact ⟨rfl, unhide HK⟩
theorem same11_zz (h : Nil w v) (g : Nil w u) : Calls Try.prog 11 #[v, u] w fun e W => e = .returned (.bool true) ∧ Kept [] w W := by
  have H := hide h
  have G := hide g
  clear h g
  go_enter Try.func11, Try.ntmps11
  go_wp2_with (
    first
    | (go_at_call 31
       refine (none31_z (unhide H)).mono ?_
       rintro e W9 ⟨rfl, q9⟩
       replace q9 := q9.symm
       subst q9
       refine Stp.go ?_))
  constructor
  go_wp2_with (
    first
    | (go_at_call 31
       refine (none31_z (unhide G)).mono ?_
       rintro e W9 ⟨rfl, q9⟩
       replace q9 := q9.symm
       subst q9
       refine Stp.go ?_))
  constructor
  go_wp2_with (
    first
    | (go_at_call 33
       refine (marks33_z (unhide H)).mono ?_
       rintro e W9 ⟨rfl, q9⟩
       replace q9 := q9.symm
       subst q9
       refine Stp.go ?_))
  constructor
  go_wp2_with (
    first
    | (go_at_call 33
       refine (marks33_z (unhide G)).mono ?_
       rintro e W9 ⟨rfl, q9⟩
       replace q9 := q9.symm
       subst q9
       refine Stp.go ?_))
  constructor
  go_wp2_with (
    first
    | (go_at_call 32
       refine (eq32_zz _).mono ?_
       rintro e W3 ⟨rfl, K3⟩
       have HK := hide K3
       clear K3
       refine Stp.go ?_))
  constructor
  go_wp2_with fail
  go_ret
  exact ⟨rfl, unhide HK⟩

end Go.Proofs.Ythihladmifpokaa
