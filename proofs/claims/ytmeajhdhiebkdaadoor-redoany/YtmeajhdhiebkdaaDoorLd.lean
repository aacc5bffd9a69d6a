/-
  Where a node's records lie: the function that places makes.
-/
import Derived.Test.YtmeajhdhiebkdaaDoorLc
namespace Go.Proofs.YtmeajhdhiebkdaaDoor
set_option maxRecDepth 100000
open Go.RowKit

theorem wpBox1 {ops : Array Oper} {rest : List Oper} {op : Oper} {a : Act} {w : World} {Q : Exit → Act → World → Prop} {T : Nat} (v : Value) (hr : ∀ w : World, (Instr.box T v).run Tryd.prog w = .ok (P0 w.heap.size) (w.alloc (.cells [v].toArray T))) (hgd : op.guard = none) (x : Operand) (ho : op.op = .box T x) (hx : a.eval x = v)
    (h : ∀ W b, b = w.heap.size → Blk W b T [v] → Kept [] w W → wpList Tryd.prog ops Q rest (a.put op.dst (P0 b)) W) : wpList Tryd.prog ops Q (op :: rest) a w :=
  wpList_plain hgd fun K hK => by
    unfold Oper.wp execOp
    simp only [ho, hx, Sem.run_bind, hr, Result.andThen_ok]
    exact hK _ _ (h _ _ rfl (Blk.new w T [v]) ((Kept.refl _ _).alloc _))
theorem box3 (k : Int) (w : World) : (Instr.box 3 (.int .i64 k)).run Tryd.prog w = .ok (P0 w.heap.size) (w.alloc (.cells [Value.int .i64 k].toArray 3)) := by kernel_rfl
theorem row23 : Row 23 5 := ⟨_, Tryd.underlying23, rfl, by kernel_rfl⟩
theorem row45 : Row 45 101 := ⟨_, Tryd.underlying45, rfl, by kernel_rfl⟩
theorem row81 : Row 81 128 := ⟨_, Tryd.underlying81, rfl, by kernel_rfl⟩
theorem row80 : Row 80 64 := ⟨_, Tryd.underlying80, rfl, by kernel_rfl⟩
def plV (c1 c2 : Nat) : Value := .func (.func 59) #[] #[P0 c1, P0 c2]
structure Pl (W : World) (c1 c2 : Nat) (J : Ar.Job) (nd : Int) : Prop where
  j : Blk W c1 23 (Ar.jobC J)
  n : Blk W c2 3 [.int .i64 nd]
theorem Pl.kept {W W' : World} {c1 c2 : Nat} {J : Ar.Job} {nd : Int} {X : List Nat} (h : Pl W c1 c2 J nd) (hk : Kept X W W') (h1 : c1 ∉ X) (h2 : c2 ∉ X) : Pl W' c1 c2 J nd := ⟨h.j.kept hk h1, h.n.kept hk h2⟩
theorem places34 (J : Ar.Job) (nd : Int) (w : World) : Calls Tryd.prog 34 #[aggV (Ar.jobC J), .int .i64 nd] w fun e w' => ∃ c1 c2, e = .returned (plV c1 c2) ∧ Pl w' c1 c2 J nd ∧ Kept [] w w' ∧ w.heap.size ≤ c1 ∧ w.heap.size ≤ c2 := by
  go_enter Tryd.func34, Tryd.ntmps34
  go_wp2_with (
    first
    | (refine wpBoxV (by rfl) (.tmp 0) (by rfl) (Ar.jobC J) (by kernel_rfl) ?_
       intro W1 p1 e1 B1 K1
       have H1 := hide B1
       have HK := hide K1
       have HF1 : Hid (w.heap.size ≤ p1) := by rw [e1]; exact (Nat.le_refl _ : w.heap.size ≤ w.heap.size)
       clear e1 B1 K1
       refine Stp.go ?_))
  constructor
  go_wp2_with (
    first
    | (refine wpBox1 (T := 3) (.int .i64 nd) (box3 nd) (by rfl) (.tmp 1) (by rfl) (by kernel_rfl) ?_
       intro W2 p2 e2 B2 K2
       have H2 := hide B2
       have HF2 : Hid (w.heap.size ≤ p2) := by rw [e2]; exact (unhide HK).size
       replace H1 := hide ((unhide H1).kept K2 (by simp))
       replace HK := hide ((unhide HK).trans K2)
       clear e2 B2 K2))
  go_ret
  exact ⟨p1, p2, rfl, ⟨unhide H1, unhide H2⟩, unhide HK, unhide HF1, unhide HF2⟩
theorem rec60 (j : Ar.Job) (n s : Int) (w : World) : Calls Tryd.prog 60 #[aggV (Ar.jobC j), .int .i64 n, .int .i64 s] w fun e w' => e = .returned (.tuple #[.int .i64 (j.record n s).1, .int .i64 (j.record n s).2]) ∧ Kept [] w w' := Ar.record16 j n s w
theorem place59 (c1 c2 : Nat) (J : Ar.Job) (nd s : Int) (w : World) (h : Pl w c1 c2 J nd) : Calls Tryd.prog 59 #[.int .i64 s, P0 c1, P0 c2] w fun e w' => e = .returned (.int .i64 (J.record nd s).1) ∧ Kept [] w w' := by
  have HJ := hide h.j
  have hn := fits_cell h.n 0 _ rfl
  have P60 := hide (rec60 J nd s w)
  have HL : Hid ((Ar.jobC J).length = 5) := rfl
  clear h
  go_enter Tryd.func59, Tryd.ntmps59
  go_wp2_with (
    first
    | (refine wpLoadA row23 (by rfl) (.tmp 1) (by rfl) c1 0 (by kernel_rfl) (Ar.jobC J) (unhide HL) (unhide HJ).range ?_
       refine Stp.go ?_))
  constructor
  go_wp2_with (
    first
    | (go_at_call 60
       refine (unhide P60).mono ?_
       rintro e W3 ⟨rfl, hk⟩
       have HK := hide hk
       clear hk hn))
  go_ret
  exact ⟨rfl, unhide HK⟩
theorem put35 (r : Rc.Rec) (hr : Rc.Byts 96 r.bd) (w : World) : Calls Tryd.prog 35 #[aggV (Rc.recC r)] w fun e w' => e = .returned (.tuple #[aggV (u8s (Rc.putR r).1), .int .i64 (Rc.putR r).2]) ∧ Kept [] w w' := Rc.put8 r hr w
theorem cg34 (vs : Array Value) (w : World) : (callFunc 34 vs).run Tryd.prog w = .ok (.enter 34 vs) w := by kernel_rfl
theorem cg36 (vs : Array Value) (w : World) : (callFunc 36 vs).run Tryd.prog w = .ok (.enter 36 vs) w := by kernel_rfl
theorem cg59 (vs : Array Value) (w : World) : (callFunc 59 vs).run Tryd.prog w = .ok (.enter 59 vs) w := by kernel_rfl
section
variable {o : Oper} {a : Act} {w : World} {K : Act → World → Prop} {Q : Exit → Act → World → Prop}
theorem wp_callC (f : FuncId) (t : Nat) (args : Array Operand) (ts : Array TypeId) (ho : o.op = .call { callee := .value (.tmp t), args := args, argTypes := ts }) (cs : Array Value) (hf : a.eval (.tmp t) = .func (.func f) #[] cs)
    (vs : Array Value) (hv : args.map a.eval = vs) (hcf : (callFunc f (vs ++ cs)).run Tryd.prog w = .ok (.enter f (vs ++ cs)) w) (h : Calls Tryd.prog f (vs ++ cs) w fun e w' => ∃ v, e = .returned v ∧ K (a.put o.dst v) w') : o.wp Tryd.prog a w K Q := by
  subst hv
  unfold Oper.wp execOp
  simp only [ho, resolve, hf]
  simp [invoke, go_sem, hcf]
  refine h.mono ?_
  rintro e w' ⟨v, rfl, hk⟩
  exact hk
theorem o_idx37 (x y : Operand) (ho : o.op = .indexAddr 37 x y) (g off m c k : Nat) (hk : k < m) (hx : a.eval x = .slice (some ⟨g, off, none⟩) m c) (hy : a.eval y = .int .i64 k) (h : K (a.put o.dst (.pointer (some ⟨g, off + k * 101, none⟩))) w) : o.wp Tryd.prog a w K Q := by
  unfold Oper.wp execOp
  simp only [ho, hx, hy]
  simp [go_sem, hk, Addr.add_lit]
  exact h
theorem o_all81 (x : Operand) (ho : o.op = .slice 81 x none none none) (b : Nat) (hx : a.eval x = P0 b) (h : K (a.put o.dst (.slice (some ⟨b, 0, none⟩) 2 2)) w) : o.wp Tryd.prog a w K Q := by
  unfold Oper.wp execOp
  simp only [ho, hx]
  simp [go_sem]
  exact h
end

end Go.Proofs.YtmeajhdhiebkdaaDoor
