/-
  New, Clear, Mark.
-/
import Derived.Test.YthihladmifpokaaPe
namespace Go.Proofs.Ythihladmifpokaa
set_option maxRecDepth 100000
set_option linter.unusedSimpArgs false
open Go.RowKit


section
variable {ops : Array Oper} {rest : List Oper} {op o : Oper} {a : Act} {w : World} {K : Act → World → Prop} {Q : Exit → Act → World → Prop}
theorem wpClear50 (hgd : op.guard = none) (x : Operand) (ho : op.op = .call { callee := .builtin .clear, args := #[x], argTypes := #[50] }) (mb : Nat) (L : List Mk) (hx : a.eval x = .map (some mb)) (hM : MapAt w mb L)
    (h : ∀ W, MapAt W mb [] → Kept [mb] w W → wpList Try.prog ops Q rest (a.put op.dst (.tuple #[])) W) : wpList Try.prog ops Q (op :: rest) a w :=
  wpList_plain hgd fun _ hK => by
    obtain ⟨w', hr, h1, h2⟩ := run_clear w mb L op.type hM
    unfold Oper.wp execOp
    simp only [ho, resolve, invoke, builtin, Sem.run_bind, Sem.run_pure, Result.andThen_ok, List.map_toArray, List.map_cons, List.map_nil, hx, hr]
    exact hK _ _ (h w' h1 h2)
theorem wpClear50z (hgd : op.guard = none) (x : Operand) (ho : op.op = .call { callee := .builtin .clear, args := #[x], argTypes := #[50] }) (hx : a.eval x = .map none)
    (h : wpList Try.prog ops Q rest (a.put op.dst (.tuple #[])) w) : wpList Try.prog ops Q (op :: rest) a w :=
  wpList_plain hgd fun _ hK => by
    have hr : (Builtin.clear_ #[50] op.type #[.map none]).run Try.prog w = .ok (.tuple #[]) w := by
      unfold Builtin.clear_
      simp [Sem.run_bind, run_underlying map50]
    unfold Oper.wp execOp
    simp only [ho, resolve, invoke, builtin, Sem.run_bind, Sem.run_pure, Result.andThen_ok, List.map_toArray, List.map_cons, List.map_nil, hx, hr]
    exact hK _ _ h
end
variable {w W W' : World} {b mb : Nat} {L : List Mk} {v : Value}
theorem Pg.to (h : Pg w b mb L) {W : World} {L' : List Mk} (hk : Kept [mb] w W) (hM : MapAt W mb L') (ho : Ok L') : Pg W b mb L' := ⟨h.blk.kept hk (by simp [h.ne]), hM, ho⟩
theorem new8 (w : World) : Calls Try.prog 8 #[] w fun e W => ∃ b mb, e = .returned (P0 b) ∧ Pg W b mb [] ∧ Kept [] w W ∧ w.heap.size ≤ b ∧ w.heap.size ≤ mb := by
  go_enter Try.func8, Try.ntmps8
  go_wp2_with (
    first
    | (refine wpMk50 rfl rfl ?_
       intro W1 mb e1 M1 K1
       have HM := hide M1
       have HK := hide K1
       have HE := hide e1
       clear M1 K1 e1
       refine Stp.go ?_))
  constructor
  go_wp2_with (
    first
    | (refine wpBoxV rfl (.tmp 2) rfl [.map (some mb)] rfl ?_
       intro W2 b e2 B2 K2
       have HP : Hid (Pg W2 b mb []) := ⟨B2, (unhide HM).kept K2 (by simp), ok_nil⟩
       have HK2 := hide ((unhide HK).trans K2)
       have HB : Hid (w.heap.size ≤ b) := by have := (unhide HK).size; show _ ≤ _; omega
       clear e2 B2 K2
       refine Stp.go ?_))
  constructor
  go_wp2_with fail
  go_ret
  exact ⟨b, mb, rfl, unhide HP, unhide HK2, unhide HB, by have := unhide HE; omega⟩
theorem clear23 (h : Pg w b mb L) : Calls Try.prog 23 #[P0 b] w fun e W => e = .returned (.int .i64 (L.length : Int)) ∧ Pg W b mb [] ∧ Kept [mb] w W := by
  have H := hide h
  clear h
  go_enter Try.func23, Try.ntmps23
  go_wp2_with (
    first
    | (go_at_call 18
       refine (len18 (unhide H)).mono ?_
       rintro e W9 ⟨rfl, q9⟩
       replace q9 := q9.symm
       subst q9
       refine Stp.go ?_))
  constructor
  go_wp2_with (
    first
    | (go_at_call 33
       refine (marks33 (unhide H)).mono ?_
       rintro e W9 ⟨rfl, q9⟩
       replace q9 := q9.symm
       subst q9
       refine Stp.go ?_))
  constructor
  go_wp2_with (
    first
    | (refine wpClear50 rfl (.tmp 7) rfl mb L rfl (unhide H).map ?_
       intro W1 M1 K1
       have HM := hide M1
       have HK := hide K1
       clear M1 K1
       refine Stp.go ?_))
  constructor
  go_wp2_with fail
  go_ret
  exact ⟨rfl, (unhide H).to (unhide HK) (unhide HM) ok_nil, unhide HK⟩
theorem clear23_z (h : Nil w v) : Calls Try.prog 23 #[v] w fun e W => e = .returned (.int .i64 0) ∧ W = w := by
  have H := hide h
  clear h
  go_enter Try.func23, Try.ntmps23
  go_wp2_with (
    first
    | (go_at_call 18
       refine (len18_z (unhide H)).mono ?_
       rintro e W9 ⟨rfl, q9⟩
       replace q9 := q9.symm
       subst q9
       refine Stp.go ?_))
  constructor
  go_wp2_with (
    first
    | (go_at_call 33
       refine (marks33_z (unhide H)).mono ?_
       rintro e W9 ⟨rfl, q9⟩
       replace q9 := q9.symm
       subst q9
       refine Stp.go ?_))
  constructor
  go_wp2_with (
    first
    | (refine wpClear50z rfl (.tmp 7) rfl rfl ?_
       refine Stp.go ?_))
  constructor
  go_wp2_with fail
  go_ret
  exact ⟨rfl, rfl⟩

end Go.Proofs.Ythihladmifpokaa
