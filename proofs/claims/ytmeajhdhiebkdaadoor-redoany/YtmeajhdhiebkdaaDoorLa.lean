/-
  A log in memory; what it tells of itself.
-/
import Derived.Test.YtmeajhdhiebkdaaDoorGx
import Derived.Test.YtmeajhdhiebkdaaDoorDvNew
import Derived.Test.YtmeajhdhiebkdaaDoorArFns
import Derived.Test.YtmeajhdhiebkdaaDoorRcHead
import Derived.Test.YtmeajhdhiebkdaaDoorRcFol
import Derived.Test.YtmeajhdhiebkdaaDoorRcPut
import Derived.Test.YtmeajhdhiebkdaaDoorLz
namespace Go.Proofs.YtmeajhdhiebkdaaDoor
set_option maxRecDepth 100000
open Go.RowKit

/-- A log: its device, job, node, epoch, start, records, and how many of these stand on the device. -/
structure Lo where
  J : Ar.Job
  nd : Int
  ep : Int
  st : Int
  R : List Rc.Rec
  fl : Nat
def logC (b : Nat) (L : Lo) (rv : Value) : List Value := [P0 b, .int .i64 L.J.n, .int .i64 L.J.p, .int .i64 L.J.f, .int .i64 L.J.l, .int .i64 L.J.t, .int .i64 L.nd, .int .i64 L.ep, .int .i64 L.st, rv, .int .i64 L.fl]
def cellsR (R : List Rc.Rec) : List Value := (R.map Rc.recC).flatten
/-- A log stands in memory: its head in block l, its device at blocks b and g, its records in a row of its own. -/
structure Lt (W : World) (l b g : Nat) (rv : Value) (D : Dv.Dev) (L : Lo) : Prop where
  head : Blk W l 72 (logC b L rv)
  dev : Dv.Dv W b g D
  row : OwnO W rv L.R.length (cellsR L.R)
  recs : ∀ r ∈ L.R, Rc.Byts 96 r.bd
  may : L.J.may = true
  node : 0 ≤ L.nd ∧ L.nd < L.J.n
  ep : 1 ≤ L.ep ∧ L.ep ≤ 2147483647
  st : 1 ≤ L.st
  nx : L.st + L.R.length ≤ 2147483647
  fl : L.fl ≤ L.R.length
  many : (L.R.length : Int) ≤ L.J.l
theorem Lt.cells {W : World} {l b g : Nat} {rv : Value} {D : Dv.Dev} {L : Lo} (h : Lt W l b g rv D L) : W.cell? ⟨l, 0, none⟩ = some (P0 b) ∧ W.cell? ⟨l, 4, none⟩ = some (.int .i64 L.J.l) ∧ W.cell? ⟨l, 6, none⟩ = some (.int .i64 L.nd) ∧ W.cell? ⟨l, 7, none⟩ = some (.int .i64 L.ep) ∧ W.cell? ⟨l, 8, none⟩ = some (.int .i64 L.st) ∧ W.cell? ⟨l, 9, none⟩ = some rv ∧ W.cell? ⟨l, 10, none⟩ = some (.int .i64 L.fl) :=
  ⟨fits_cell h.head 0 _ rfl, fits_cell h.head 4 _ rfl, fits_cell h.head 6 _ rfl, fits_cell h.head 7 _ rfl, fits_cell h.head 8 _ rfl, fits_cell h.head 9 _ rfl, fits_cell h.head 10 _ rfl⟩
theorem Lt.sl {W : World} {l b g : Nat} {rv : Value} {D : Dv.Dev} {L : Lo} (h : Lt W l b g rv D L) : ∃ ro rc, rv = .slice ro L.R.length rc := by
  obtain ⟨ao, c, e, _, _⟩ := h.row.sl
  exact ⟨ao, c, e⟩
theorem Lt.lo {W : World} {l b g : Nat} {rv : Value} {D : Dv.Dev} {L : Lo} (h : Lt W l b g rv D L) : L.R.length ≤ 64 := by
  have h1 := h.may
  simp only [Ar.Job.may, decide_eq_true_eq] at h1
  have h2 := h.many
  omega
/-- A pointer to no log, or to a zero one. -/
def Lz (o : Option Addr) (W : World) : Prop := o = none ∨ ∃ z, o = some ⟨z, 0, none⟩ ∧ W.cell? ⟨z, 0, none⟩ = some (.pointer none)
theorem from32 (a x b : Int) (w : World) : Calls Tryd.prog 32 #[.int .i64 a, .int .i64 x, .int .i64 b] w fun e w' => e = .returned (.bool (decide (a ≤ x ∧ x ≤ b))) ∧ w' = w := by
  by_cases h1 : a ≤ x
  · go_enter Tryd.func32, Tryd.ntmps32
    go_wp2
    go_ret
    exact ⟨ret_bool (by simp [h1]), rfl⟩
  · go_enter Tryd.func32, Tryd.ntmps32
    go_wp2
    go_ret
    exact ⟨ret_bool (by simp; omega), rfl⟩
theorem from39 (a x b : Int) (w : World) : Calls Tryd.prog 39 #[.int .i64 a, .int .i64 x, .int .i64 b] w fun e w' => e = .returned (.bool (decide (a ≤ x ∧ x ≤ b))) ∧ w' = w := by
  by_cases h1 : a ≤ x
  · go_enter Tryd.func39, Tryd.ntmps39
    go_wp2
    go_ret
    exact ⟨ret_bool (by simp [h1]), rfl⟩
  · go_enter Tryd.func39, Tryd.ntmps39
    go_wp2
    go_ret
    exact ⟨ret_bool (by simp; omega), rfl⟩
theorem none33 (l b g : Nat) (rv : Value) (D : Dv.Dev) (L : Lo) (w : World) (h : Lt w l b g rv D L) : Calls Tryd.prog 33 #[P0 l] w fun e w' => e = .returned (.bool false) ∧ w' = w := by
  have hc := h.cells.1
  clear h
  go_enter Tryd.func33, Tryd.ntmps33
  go_wp2
  go_ret
  exact ⟨rfl, rfl⟩
theorem none_z (o : Option Addr) (w : World) (h : Lz o w) : Calls Tryd.prog 33 #[.pointer o] w fun e w' => e = .returned (.bool true) ∧ w' = w := by
  rcases h with rfl | ⟨z, rfl, hc⟩
  · go_enter Tryd.func33, Tryd.ntmps33
    go_wp2
    go_ret
    exact ⟨rfl, rfl⟩
  · go_enter Tryd.func33, Tryd.ntmps33
    go_wp2
    go_ret
    exact ⟨rfl, rfl⟩
theorem start_z (o : Option Addr) (w : World) (h : Lz o w) : Calls Tryd.prog 21 #[.pointer o] w fun e w' => e = .returned (.int .i64 0) ∧ w' = w := by
  have PN := hide (none_z o w h)
  clear h
  go_enter Tryd.func21, Tryd.ntmps21
  go_wp2_with (
    first
    | (go_at_call 33
       refine (unhide PN).mono ?_
       rintro e w' ⟨rfl, hw9⟩
       obtain rfl := hw9.symm
       clear hw9))
  go_ret
  exact ⟨rfl, rfl⟩
theorem next_z (o : Option Addr) (w : World) (h : Lz o w) : Calls Tryd.prog 23 #[.pointer o] w fun e w' => e = .returned (.int .i64 0) ∧ w' = w := by
  have PN := hide (none_z o w h)
  clear h
  go_enter Tryd.func23, Tryd.ntmps23
  go_wp2_with (
    first
    | (go_at_call 33
       refine (unhide PN).mono ?_
       rintro e w' ⟨rfl, hw9⟩
       obtain rfl := hw9.symm
       clear hw9))
  go_ret
  exact ⟨rfl, rfl⟩
theorem flushed_z (o : Option Addr) (w : World) (h : Lz o w) : Calls Tryd.prog 15 #[.pointer o] w fun e w' => e = .returned (.int .i64 0) ∧ w' = w := by
  have PN := hide (none_z o w h)
  clear h
  go_enter Tryd.func15, Tryd.ntmps15
  go_wp2_with (
    first
    | (go_at_call 33
       refine (unhide PN).mono ?_
       rintro e w' ⟨rfl, hw9⟩
       obtain rfl := hw9.symm
       clear hw9))
  go_ret
  exact ⟨rfl, rfl⟩
theorem room_z (o : Option Addr) (w : World) (h : Lz o w) : Calls Tryd.prog 12 #[.pointer o] w fun e w' => e = .returned (.int .i64 0) ∧ w' = w := by
  have PN := hide (none_z o w h)
  clear h
  go_enter Tryd.func12, Tryd.ntmps12
  go_wp2_with (
    first
    | (go_at_call 33
       refine (unhide PN).mono ?_
       rintro e w' ⟨rfl, hw9⟩
       obtain rfl := hw9.symm
       clear hw9))
  go_ret
  exact ⟨rfl, rfl⟩
theorem start21 (l b g : Nat) (rv : Value) (D : Dv.Dev) (L : Lo) (w : World) (h : Lt w l b g rv D L) : Calls Tryd.prog 21 #[P0 l] w fun e w' => e = .returned (.int .i64 L.st) ∧ w' = w := by
  have PN := hide (none33 l b g rv D L w h)
  have hc := h.cells.2.2.2.2.1
  clear h
  go_enter Tryd.func21, Tryd.ntmps21
  go_wp2_with (
    first
    | (go_at_call 33
       refine (unhide PN).mono ?_
       rintro e w' ⟨rfl, hw9⟩
       obtain rfl := hw9.symm
       clear hw9))
  go_ret
  exact ⟨rfl, rfl⟩
section
variable {o : Oper} {a : Act} {w : World} {K : Act → World → Prop} {Q : Exit → Act → World → Prop}
theorem o_nil (x : Operand) (ho : o.op = .nilCheck x) (b : Nat) (hx : a.eval x = P0 b) (h : K (a.put o.dst (P0 b)) w) : o.wp Tryd.prog a w K Q := by
  unfold Oper.wp execOp
  simp only [ho, hx]
  simp [go_sem]
  exact h
theorem o_fld72_0 (x : Operand) (ho : o.op = .fieldAddr 72 x 0) (b : Nat) (hx : a.eval x = P0 b) (h : K (a.put o.dst (.pointer (some ⟨b, 0, none⟩))) w) : o.wp Tryd.prog a w K Q := by
  unfold Oper.wp execOp
  simp only [ho, hx]
  simp [go_sem]
  exact h
theorem o_fld72_1 (x : Operand) (ho : o.op = .fieldAddr 72 x 1) (b : Nat) (hx : a.eval x = P0 b) (h : K (a.put o.dst (.pointer (some ⟨b, 1, none⟩))) w) : o.wp Tryd.prog a w K Q := by
  unfold Oper.wp execOp
  simp only [ho, hx]
  simp [go_sem]
  exact h
theorem o_fld72_2 (x : Operand) (ho : o.op = .fieldAddr 72 x 2) (b : Nat) (hx : a.eval x = P0 b) (h : K (a.put o.dst (.pointer (some ⟨b, 6, none⟩))) w) : o.wp Tryd.prog a w K Q := by
  unfold Oper.wp execOp
  simp only [ho, hx]
  simp [go_sem]
  exact h
theorem o_fld72_3 (x : Operand) (ho : o.op = .fieldAddr 72 x 3) (b : Nat) (hx : a.eval x = P0 b) (h : K (a.put o.dst (.pointer (some ⟨b, 7, none⟩))) w) : o.wp Tryd.prog a w K Q := by
  unfold Oper.wp execOp
  simp only [ho, hx]
  simp [go_sem]
  exact h
theorem o_fld72_4 (x : Operand) (ho : o.op = .fieldAddr 72 x 4) (b : Nat) (hx : a.eval x = P0 b) (h : K (a.put o.dst (.pointer (some ⟨b, 8, none⟩))) w) : o.wp Tryd.prog a w K Q := by
  unfold Oper.wp execOp
  simp only [ho, hx]
  simp [go_sem]
  exact h
theorem o_fld72_5 (x : Operand) (ho : o.op = .fieldAddr 72 x 5) (b : Nat) (hx : a.eval x = P0 b) (h : K (a.put o.dst (.pointer (some ⟨b, 9, none⟩))) w) : o.wp Tryd.prog a w K Q := by
  unfold Oper.wp execOp
  simp only [ho, hx]
  simp [go_sem]
  exact h
theorem o_fld72_6 (x : Operand) (ho : o.op = .fieldAddr 72 x 6) (b : Nat) (hx : a.eval x = P0 b) (h : K (a.put o.dst (.pointer (some ⟨b, 10, none⟩))) w) : o.wp Tryd.prog a w K Q := by
  unfold Oper.wp execOp
  simp only [ho, hx]
  simp [go_sem]
  exact h
theorem o_fldJ3 (x : Operand) (ho : o.op = .fieldAddr 23 x 3) (b : Nat) (hx : a.eval x = .pointer (some ⟨b, 1, none⟩)) (h : K (a.put o.dst (.pointer (some ⟨b, 4, none⟩))) w) : o.wp Tryd.prog a w K Q := by
  unfold Oper.wp execOp
  simp only [ho, hx]
  simp [go_sem]
  exact h
theorem q_load2 (x : Operand) (ho : o.op = .load 2 x) (p : Addr) (v : Value) (hx : a.eval x = .pointer (some p)) (hc : w.cell? p = some v) (h : K (a.put o.dst v) w) : o.wp Tryd.prog a w K Q := by
  unfold Oper.wp execOp
  simp only [ho, hx]
  simp [go_sem, hc]
  exact h
theorem q_load3 (x : Operand) (ho : o.op = .load 3 x) (p : Addr) (v : Value) (hx : a.eval x = .pointer (some p)) (hc : w.cell? p = some v) (h : K (a.put o.dst v) w) : o.wp Tryd.prog a w K Q := by
  unfold Oper.wp execOp
  simp only [ho, hx]
  simp [go_sem, hc]
  exact h
theorem q_load31 (x : Operand) (ho : o.op = .load 31 x) (p : Addr) (v : Value) (hx : a.eval x = .pointer (some p)) (hc : w.cell? p = some v) (h : K (a.put o.dst v) w) : o.wp Tryd.prog a w K Q := by
  unfold Oper.wp execOp
  simp only [ho, hx]
  simp [go_sem, hc]
  exact h
theorem q_load37 (x : Operand) (ho : o.op = .load 37 x) (p : Addr) (v : Value) (hx : a.eval x = .pointer (some p)) (hc : w.cell? p = some v) (h : K (a.put o.dst v) w) : o.wp Tryd.prog a w K Q := by
  unfold Oper.wp execOp
  simp only [ho, hx]
  simp [go_sem, hc]
  exact h
theorem o_len37 (t : Nat) (ho : o.op = .call { callee := .builtin .len, args := #[.tmp t], argTypes := #[37] }) (ao : Option Addr) (m c : Nat) (hx : a.eval (.tmp t) = .slice ao m c) (h : K (a.put o.dst (.int .i64 m)) w) : o.wp Tryd.prog a w K Q := by
  have hr : (Builtin.len_ #[37] o.type #[.slice ao m c]).run Tryd.prog w = .ok (.int .i64 m) w := by kernel_rfl
  unfold Oper.wp execOp
  simp only [ho, resolve, invoke, builtin, Sem.run_bind, Sem.run_pure, Result.andThen_ok, List.map_toArray, List.map_cons, List.map_nil, hx, hr]
  exact h
theorem o_add2 (x y : Operand) (ho : o.op = .binOp .add 2 x y 2) (m n r : Int) (hr : m + n = r) (hb : -9223372036854775808 ≤ r ∧ r ≤ 9223372036854775807) (hx : a.eval x = .int .i64 m) (hy : a.eval y = .int .i64 n) (h : K (a.put o.dst (.int .i64 r)) w) : o.wp Tryd.prog a w K Q := by
  have hw : IntKind.i64.wrap r = r := by rw [IntKind.wrap_i64]; omega
  unfold Oper.wp execOp
  simp only [ho, hx, hy]
  simp [go_sem, hr, hw]
  exact h
theorem o_sub3 (x y : Operand) (ho : o.op = .binOp .sub 3 x y 3) (m n r : Int) (hr : m - n = r) (hb : -9223372036854775808 ≤ r ∧ r ≤ 9223372036854775807) (hx : a.eval x = .int .i64 m) (hy : a.eval y = .int .i64 n) (h : K (a.put o.dst (.int .i64 r)) w) : o.wp Tryd.prog a w K Q := by
  have hw : IntKind.i64.wrap r = r := by rw [IntKind.wrap_i64]; omega
  unfold Oper.wp execOp
  simp only [ho, hx, hy]
  simp [go_sem, hr, hw]
  exact h
theorem o_subc2 (x : Operand) (c : Int) (ho : o.op = .binOp .sub 2 x (.const (.int .i64 c)) 2) (m r : Int) (hr : m - c = r) (hb : -9223372036854775808 ≤ r ∧ r ≤ 9223372036854775807) (hx : a.eval x = .int .i64 m) (h : K (a.put o.dst (.int .i64 r)) w) : o.wp Tryd.prog a w K Q := by
  have hw : IntKind.i64.wrap r = r := by rw [IntKind.wrap_i64]; omega
  unfold Oper.wp execOp
  simp only [ho, hx]
  simp [go_sem, Act.eval, hr, hw]
  exact h
end
set_option maxHeartbeats 1000000 in
theorem next23 (l b g : Nat) (rv : Value) (D : Dv.Dev) (L : Lo) (w : World) (h : Lt w l b g rv D L) : Calls Tryd.prog 23 #[P0 l] w fun e w' => e = .returned (.int .i64 (L.st + L.R.length)) ∧ Kept [] w w' := by
  have PN := hide (none33 l b g rv D L w h)
  obtain ⟨ro, rc, rfl⟩ := h.sl
  have HH := hide h.head
  have h1 := h.st
  have h2 := h.nx
  have h3 := h.fl
  have h4 := h.lo
  clear h
  go_enter Tryd.func23, Tryd.ntmps23
  go_wp2_with (
    first
    | (go_at_call 33
       refine (unhide PN).mono ?_
       rintro e w' ⟨rfl, hw9⟩
       obtain rfl := hw9.symm
       clear hw9))
  refine wp_region_any mixed (wpAny_tq 11 rfl (by kernel_rfl) [some (P0 l), some (P0 l), some (.pointer (some ⟨l, 8, none⟩)), some (.int .i64 L.st), some (P0 l), some (P0 l), some (.pointer (some ⟨l, 9, none⟩)), some (.slice ro L.R.length rc), some (.int .i64 L.R.length), some (.int .i64 (L.st + L.R.length)), some (.int .i64 (L.st + L.R.length))] rfl (by kernel_rfl) (by kernel_rfl) ?_ ?_)
  · intro i o' hi hsk ho a' w2 hout hin hk2
    replace hk2 : Kept [] w w2 := ⟨hk2.os, hk2.tape, hk2.output, hk2.size, hk2.block⟩
    match i, ho, hsk with
    | 0, ho, hsk =>
      obtain rfl := Option.some.inj ho
      exact wp_move (.tmp 0) rfl _ ((hout 0 (by kernel_rfl)).trans rfl) ⟨_, rfl, tq_is _ _ _ _ rfl, Kept.refl _ _, fun _ _ _ _ _ => trivial⟩
    | 1, ho, hsk =>
      obtain rfl := Option.some.inj ho
      have e0 : a'.eval (.tmp 5) = P0 l := is_tq (hin 0 5 (by kernel_rfl) (by kernel_rfl)) rfl
      exact o_nil (.tmp 5) rfl _ e0 ⟨_, rfl, tq_is _ _ _ _ rfl, Kept.refl _ _, fun _ _ _ _ _ => trivial⟩
    | 2, ho, hsk =>
      obtain rfl := Option.some.inj ho
      have e0 : a'.eval (.tmp 6) = P0 l := is_tq (hin 1 6 (by kernel_rfl) (by kernel_rfl)) rfl
      exact o_fld72_4 (.tmp 6) rfl l e0 ⟨_, rfl, tq_is _ _ _ _ rfl, Kept.refl _ _, fun _ _ _ _ _ => trivial⟩
    | 3, ho, hsk =>
      obtain rfl := Option.some.inj ho
      have e0 : a'.eval (.tmp 7) = .pointer (some ⟨l, 8, none⟩) := is_tq (hin 2 7 (by kernel_rfl) (by kernel_rfl)) rfl
      exact q_load2 (.tmp 7) rfl ⟨l, 8, none⟩ _ e0 (fits_cell ((unhide HH).kept hk2 (by simp)) 8 _ rfl) ⟨_, rfl, tq_is _ _ _ _ rfl, Kept.refl _ _, fun _ _ _ _ _ => trivial⟩
    | 4, ho, hsk =>
      obtain rfl := Option.some.inj ho
      exact wp_move (.tmp 0) rfl _ ((hout 0 (by kernel_rfl)).trans rfl) ⟨_, rfl, tq_is _ _ _ _ rfl, Kept.refl _ _, fun _ _ _ _ _ => trivial⟩
    | 5, ho, hsk =>
      obtain rfl := Option.some.inj ho
      have e0 : a'.eval (.tmp 9) = P0 l := is_tq (hin 4 9 (by kernel_rfl) (by kernel_rfl)) rfl
      exact o_nil (.tmp 9) rfl _ e0 ⟨_, rfl, tq_is _ _ _ _ rfl, Kept.refl _ _, fun _ _ _ _ _ => trivial⟩
    | 6, ho, hsk =>
      obtain rfl := Option.some.inj ho
      have e0 : a'.eval (.tmp 10) = P0 l := is_tq (hin 5 10 (by kernel_rfl) (by kernel_rfl)) rfl
      exact o_fld72_5 (.tmp 10) rfl l e0 ⟨_, rfl, tq_is _ _ _ _ rfl, Kept.refl _ _, fun _ _ _ _ _ => trivial⟩
    | 7, ho, hsk =>
      obtain rfl := Option.some.inj ho
      have e0 : a'.eval (.tmp 11) = .pointer (some ⟨l, 9, none⟩) := is_tq (hin 6 11 (by kernel_rfl) (by kernel_rfl)) rfl
      exact q_load37 (.tmp 11) rfl ⟨l, 9, none⟩ _ e0 (fits_cell ((unhide HH).kept hk2 (by simp)) 9 _ rfl) ⟨_, rfl, tq_is _ _ _ _ rfl, Kept.refl _ _, fun _ _ _ _ _ => trivial⟩
    | 8, ho, hsk =>
      obtain rfl := Option.some.inj ho
      have e0 : a'.eval (.tmp 12) = .slice ro L.R.length rc := is_tq (hin 7 12 (by kernel_rfl) (by kernel_rfl)) rfl
      exact o_len37 12 rfl _ _ _ e0 ⟨_, rfl, tq_is _ _ _ _ rfl, Kept.refl _ _, fun _ _ _ _ _ => trivial⟩
    | 9, ho, hsk =>
      obtain rfl := Option.some.inj ho
      have e0 : a'.eval (.tmp 8) = .int .i64 L.st := is_tq (hin 3 8 (by kernel_rfl) (by kernel_rfl)) rfl
      have e1 : a'.eval (.tmp 13) = .int .i64 L.R.length := is_tq (hin 8 13 (by kernel_rfl) (by kernel_rfl)) rfl
      exact o_add2 (.tmp 8) (.tmp 13) rfl _ _ _ rfl (by omega) e0 e1 ⟨_, rfl, tq_is _ _ _ _ rfl, Kept.refl _ _, fun _ _ _ _ _ => trivial⟩
    | 10, ho, hsk =>
      obtain rfl := Option.some.inj ho
      have e0 : a'.eval (.tmp 14) = .int .i64 (L.st + L.R.length) := is_tq (hin 9 14 (by kernel_rfl) (by kernel_rfl)) rfl
      exact wp_assignV (.tmp 14) rfl _ e0 ⟨_, rfl, tq_is _ _ _ _ rfl, Kept.refl _ _, fun _ _ _ _ _ => trivial⟩
  intro w9 hk9
  replace hk9 : Kept [] w w9 := ⟨hk9.os, hk9.tape, hk9.output, hk9.size, hk9.block⟩
  simp only [valsQ, List.map_cons, List.map_nil, Option.getD_some, List.take_succ_cons, List.take_zero, putAll, Act.put, List.setIfInBounds_toArray, List.set_cons_succ, List.set_cons_zero]
  refine wpAny_done (by kernel_rfl) ?_ _
  go_wp2_with fail
  go_ret
  exact ⟨rfl, hk9⟩
set_option maxHeartbeats 1000000 in
theorem flushed15 (l b g : Nat) (rv : Value) (D : Dv.Dev) (L : Lo) (w : World) (h : Lt w l b g rv D L) : Calls Tryd.prog 15 #[P0 l] w fun e w' => e = .returned (.int .i64 (L.st + L.fl - 1)) ∧ Kept [] w w' := by
  have PN := hide (none33 l b g rv D L w h)
  obtain ⟨ro, rc, rfl⟩ := h.sl
  have HH := hide h.head
  have h1 := h.st
  have h2 := h.nx
  have h3 := h.fl
  have h4 := h.lo
  clear h
  go_enter Tryd.func15, Tryd.ntmps15
  go_wp2_with (
    first
    | (go_at_call 33
       refine (unhide PN).mono ?_
       rintro e w' ⟨rfl, hw9⟩
       obtain rfl := hw9.symm
       clear hw9))
  refine wp_region_any mixed (wpAny_tq 11 rfl (by kernel_rfl) [some (P0 l), some (P0 l), some (.pointer (some ⟨l, 8, none⟩)), some (.int .i64 L.st), some (P0 l), some (P0 l), some (.pointer (some ⟨l, 10, none⟩)), some (.int .i64 L.fl), some (.int .i64 (L.st + L.fl)), some (.int .i64 (L.st + L.fl - 1)), some (.int .i64 (L.st + L.fl - 1))] rfl (by kernel_rfl) (by kernel_rfl) ?_ ?_)
  · intro i o' hi hsk ho a' w2 hout hin hk2
    replace hk2 : Kept [] w w2 := ⟨hk2.os, hk2.tape, hk2.output, hk2.size, hk2.block⟩
    match i, ho, hsk with
    | 0, ho, hsk =>
      obtain rfl := Option.some.inj ho
      exact wp_move (.tmp 0) rfl _ ((hout 0 (by kernel_rfl)).trans rfl) ⟨_, rfl, tq_is _ _ _ _ rfl, Kept.refl _ _, fun _ _ _ _ _ => trivial⟩
    | 1, ho, hsk =>
      obtain rfl := Option.some.inj ho
      have e0 : a'.eval (.tmp 5) = P0 l := is_tq (hin 0 5 (by kernel_rfl) (by kernel_rfl)) rfl
      exact o_nil (.tmp 5) rfl _ e0 ⟨_, rfl, tq_is _ _ _ _ rfl, Kept.refl _ _, fun _ _ _ _ _ => trivial⟩
    | 2, ho, hsk =>
      obtain rfl := Option.some.inj ho
      have e0 : a'.eval (.tmp 6) = P0 l := is_tq (hin 1 6 (by kernel_rfl) (by kernel_rfl)) rfl
      exact o_fld72_4 (.tmp 6) rfl l e0 ⟨_, rfl, tq_is _ _ _ _ rfl, Kept.refl _ _, fun _ _ _ _ _ => trivial⟩
    | 3, ho, hsk =>
      obtain rfl := Option.some.inj ho
      have e0 : a'.eval (.tmp 7) = .pointer (some ⟨l, 8, none⟩) := is_tq (hin 2 7 (by kernel_rfl) (by kernel_rfl)) rfl
      exact q_load2 (.tmp 7) rfl ⟨l, 8, none⟩ _ e0 (fits_cell ((unhide HH).kept hk2 (by simp)) 8 _ rfl) ⟨_, rfl, tq_is _ _ _ _ rfl, Kept.refl _ _, fun _ _ _ _ _ => trivial⟩
    | 4, ho, hsk =>
      obtain rfl := Option.some.inj ho
      exact wp_move (.tmp 0) rfl _ ((hout 0 (by kernel_rfl)).trans rfl) ⟨_, rfl, tq_is _ _ _ _ rfl, Kept.refl _ _, fun _ _ _ _ _ => trivial⟩
    | 5, ho, hsk =>
      obtain rfl := Option.some.inj ho
      have e0 : a'.eval (.tmp 9) = P0 l := is_tq (hin 4 9 (by kernel_rfl) (by kernel_rfl)) rfl
      exact o_nil (.tmp 9) rfl _ e0 ⟨_, rfl, tq_is _ _ _ _ rfl, Kept.refl _ _, fun _ _ _ _ _ => trivial⟩
    | 6, ho, hsk =>
      obtain rfl := Option.some.inj ho
      have e0 : a'.eval (.tmp 10) = P0 l := is_tq (hin 5 10 (by kernel_rfl) (by kernel_rfl)) rfl
      exact o_fld72_6 (.tmp 10) rfl l e0 ⟨_, rfl, tq_is _ _ _ _ rfl, Kept.refl _ _, fun _ _ _ _ _ => trivial⟩
    | 7, ho, hsk =>
      obtain rfl := Option.some.inj ho
      have e0 : a'.eval (.tmp 11) = .pointer (some ⟨l, 10, none⟩) := is_tq (hin 6 11 (by kernel_rfl) (by kernel_rfl)) rfl
      exact q_load3 (.tmp 11) rfl ⟨l, 10, none⟩ _ e0 (fits_cell ((unhide HH).kept hk2 (by simp)) 10 _ rfl) ⟨_, rfl, tq_is _ _ _ _ rfl, Kept.refl _ _, fun _ _ _ _ _ => trivial⟩
    | 8, ho, hsk =>
      obtain rfl := Option.some.inj ho
      have e0 : a'.eval (.tmp 8) = .int .i64 L.st := is_tq (hin 3 8 (by kernel_rfl) (by kernel_rfl)) rfl
      have e1 : a'.eval (.tmp 12) = .int .i64 L.fl := is_tq (hin 7 12 (by kernel_rfl) (by kernel_rfl)) rfl
      exact o_add2 (.tmp 8) (.tmp 12) rfl _ _ _ rfl (by omega) e0 e1 ⟨_, rfl, tq_is _ _ _ _ rfl, Kept.refl _ _, fun _ _ _ _ _ => trivial⟩
    | 9, ho, hsk =>
      obtain rfl := Option.some.inj ho
      have e0 : a'.eval (.tmp 13) = .int .i64 (L.st + L.fl) := is_tq (hin 8 13 (by kernel_rfl) (by kernel_rfl)) rfl
      exact o_subc2 (.tmp 13) 1 rfl _ _ rfl (by omega) e0 ⟨_, rfl, tq_is _ _ _ _ rfl, Kept.refl _ _, fun _ _ _ _ _ => trivial⟩
    | 10, ho, hsk =>
      obtain rfl := Option.some.inj ho
      have e0 : a'.eval (.tmp 14) = .int .i64 (L.st + L.fl - 1) := is_tq (hin 9 14 (by kernel_rfl) (by kernel_rfl)) rfl
      exact wp_assignV (.tmp 14) rfl _ e0 ⟨_, rfl, tq_is _ _ _ _ rfl, Kept.refl _ _, fun _ _ _ _ _ => trivial⟩
  intro w9 hk9
  replace hk9 : Kept [] w w9 := ⟨hk9.os, hk9.tape, hk9.output, hk9.size, hk9.block⟩
  simp only [valsQ, List.map_cons, List.map_nil, Option.getD_some, List.take_succ_cons, List.take_zero, putAll, Act.put, List.setIfInBounds_toArray, List.set_cons_succ, List.set_cons_zero]
  refine wpAny_done (by kernel_rfl) ?_ _
  go_wp2_with fail
  go_ret
  exact ⟨rfl, hk9⟩
/-- How many records a log has room for. -/
def Lo.room (L : Lo) : Int := if L.st + L.R.length = 2147483647 then 0 else L.J.l - L.R.length
set_option maxHeartbeats 1000000 in
theorem room12 (l b g : Nat) (rv : Value) (D : Dv.Dev) (L : Lo) (w : World) (h : Lt w l b g rv D L) : Calls Tryd.prog 12 #[P0 l] w fun e w' => e = .returned (.int .i64 L.room) ∧ Kept [] w w' := by
  have PN := hide (none33 l b g rv D L w h)
  obtain ⟨ro, rc, rfl⟩ := h.sl
  have HH := hide h.head
  have h1 := h.st
  have h2 := h.nx
  have h3 := h.fl
  have h4 := h.lo
  have PX := hide (next23 l b g _ D L w h)
  have h5 := h.may
  simp only [Ar.Job.may, decide_eq_true_eq] at h5
  clear h
  unfold Lo.room
  by_cases hm : L.st + L.R.length = 2147483647
  · rw [if_pos hm]
    rw [hm] at PX
    go_enter Tryd.func12, Tryd.ntmps12
    go_wp2_with (
      first
      | (go_at_call 33
         refine (unhide PN).mono ?_
         rintro e w' ⟨rfl, hw9⟩
         obtain rfl := hw9.symm
         clear hw9
         refine Stp.go ?_))
    constructor
    go_wp2_with (
      first
      | (go_at_call 23
         refine (unhide PX).mono ?_
         rintro e W1 ⟨rfl, hk⟩
         replace HH := hide ((unhide HH).kept hk (by simp))
         have HK := hide hk
         clear hk))
    go_ret
    exact ⟨rfl, unhide HK⟩
  · rw [if_neg hm]
    have hm2 : ((L.st + L.R.length) == 2147483647) = false := by simp [hm]
    go_enter Tryd.func12, Tryd.ntmps12
    go_wp2_with (
      first
      | (go_at_call 33
         refine (unhide PN).mono ?_
         rintro e w' ⟨rfl, hw9⟩
         obtain rfl := hw9.symm
         clear hw9
         refine Stp.go ?_))
    constructor
    go_wp2_with (
      first
      | (go_at_call 23
         refine (unhide PX).mono ?_
         rintro e W1 ⟨rfl, hk⟩
         replace HH := hide ((unhide HH).kept hk (by simp))
         have HK := hide hk
         clear hk
         refine Stp.go ?_))
    constructor
    go_wp2_with fail
    refine wp_region_any mixed (wpAny_tq 12 rfl (by kernel_rfl) [some (P0 l), some (P0 l), some (.pointer (some ⟨l, 1, none⟩)), some (.pointer (some ⟨l, 4, none⟩)), some (.int .i64 L.J.l), some (P0 l), some (P0 l), some (.pointer (some ⟨l, 9, none⟩)), some (.slice ro L.R.length rc), some (.int .i64 L.R.length), some (.int .i64 (L.J.l - L.R.length)), some (.int .i64 (L.J.l - L.R.length))] rfl (by kernel_rfl) (by kernel_rfl) ?_ ?_)
    · intro i o' hi hsk ho a' w2 hout hin hk2
      replace hk2 : Kept [] W1 w2 := ⟨hk2.os, hk2.tape, hk2.output, hk2.size, hk2.block⟩
      match i, ho, hsk with
      | 0, ho, hsk =>
        obtain rfl := Option.some.inj ho
        exact wp_move (.tmp 0) rfl _ ((hout 0 (by kernel_rfl)).trans rfl) ⟨_, rfl, tq_is _ _ _ _ rfl, Kept.refl _ _, fun _ _ _ _ _ => trivial⟩
      | 1, ho, hsk =>
        obtain rfl := Option.some.inj ho
        have e0 : a'.eval (.tmp 10) = P0 l := is_tq (hin 0 10 (by kernel_rfl) (by kernel_rfl)) rfl
        exact o_nil (.tmp 10) rfl _ e0 ⟨_, rfl, tq_is _ _ _ _ rfl, Kept.refl _ _, fun _ _ _ _ _ => trivial⟩
      | 2, ho, hsk =>
        obtain rfl := Option.some.inj ho
        have e0 : a'.eval (.tmp 11) = P0 l := is_tq (hin 1 11 (by kernel_rfl) (by kernel_rfl)) rfl
        exact o_fld72_1 (.tmp 11) rfl l e0 ⟨_, rfl, tq_is _ _ _ _ rfl, Kept.refl _ _, fun _ _ _ _ _ => trivial⟩
      | 3, ho, hsk =>
        obtain rfl := Option.some.inj ho
        have e0 : a'.eval (.tmp 12) = .pointer (some ⟨l, 1, none⟩) := is_tq (hin 2 12 (by kernel_rfl) (by kernel_rfl)) rfl
        exact o_fldJ3 (.tmp 12) rfl l e0 ⟨_, rfl, tq_is _ _ _ _ rfl, Kept.refl _ _, fun _ _ _ _ _ => trivial⟩
      | 4, ho, hsk =>
        obtain rfl := Option.some.inj ho
        have e0 : a'.eval (.tmp 13) = .pointer (some ⟨l, 4, none⟩) := is_tq (hin 3 13 (by kernel_rfl) (by kernel_rfl)) rfl
        exact q_load3 (.tmp 13) rfl ⟨l, 4, none⟩ _ e0 (fits_cell ((unhide HH).kept hk2 (by simp)) 4 _ rfl) ⟨_, rfl, tq_is _ _ _ _ rfl, Kept.refl _ _, fun _ _ _ _ _ => trivial⟩
      | 5, ho, hsk =>
        obtain rfl := Option.some.inj ho
        exact wp_move (.tmp 0) rfl _ ((hout 0 (by kernel_rfl)).trans rfl) ⟨_, rfl, tq_is _ _ _ _ rfl, Kept.refl _ _, fun _ _ _ _ _ => trivial⟩
      | 6, ho, hsk =>
        obtain rfl := Option.some.inj ho
        have e0 : a'.eval (.tmp 15) = P0 l := is_tq (hin 5 15 (by kernel_rfl) (by kernel_rfl)) rfl
        exact o_nil (.tmp 15) rfl _ e0 ⟨_, rfl, tq_is _ _ _ _ rfl, Kept.refl _ _, fun _ _ _ _ _ => trivial⟩
      | 7, ho, hsk =>
        obtain rfl := Option.some.inj ho
        have e0 : a'.eval (.tmp 16) = P0 l := is_tq (hin 6 16 (by kernel_rfl) (by kernel_rfl)) rfl
        exact o_fld72_5 (.tmp 16) rfl l e0 ⟨_, rfl, tq_is _ _ _ _ rfl, Kept.refl _ _, fun _ _ _ _ _ => trivial⟩
      | 8, ho, hsk =>
        obtain rfl := Option.some.inj ho
        have e0 : a'.eval (.tmp 17) = .pointer (some ⟨l, 9, none⟩) := is_tq (hin 7 17 (by kernel_rfl) (by kernel_rfl)) rfl
        exact q_load37 (.tmp 17) rfl ⟨l, 9, none⟩ _ e0 (fits_cell ((unhide HH).kept hk2 (by simp)) 9 _ rfl) ⟨_, rfl, tq_is _ _ _ _ rfl, Kept.refl _ _, fun _ _ _ _ _ => trivial⟩
      | 9, ho, hsk =>
        obtain rfl := Option.some.inj ho
        have e0 : a'.eval (.tmp 18) = .slice ro L.R.length rc := is_tq (hin 8 18 (by kernel_rfl) (by kernel_rfl)) rfl
        exact o_len37 18 rfl _ _ _ e0 ⟨_, rfl, tq_is _ _ _ _ rfl, Kept.refl _ _, fun _ _ _ _ _ => trivial⟩
      | 10, ho, hsk =>
        obtain rfl := Option.some.inj ho
        have e0 : a'.eval (.tmp 14) = .int .i64 L.J.l := is_tq (hin 4 14 (by kernel_rfl) (by kernel_rfl)) rfl
        have e1 : a'.eval (.tmp 19) = .int .i64 L.R.length := is_tq (hin 9 19 (by kernel_rfl) (by kernel_rfl)) rfl
        exact o_sub3 (.tmp 14) (.tmp 19) rfl _ _ _ rfl (by omega) e0 e1 ⟨_, rfl, tq_is _ _ _ _ rfl, Kept.refl _ _, fun _ _ _ _ _ => trivial⟩
      | 11, ho, hsk =>
        obtain rfl := Option.some.inj ho
        have e0 : a'.eval (.tmp 20) = .int .i64 (L.J.l - L.R.length) := is_tq (hin 10 20 (by kernel_rfl) (by kernel_rfl)) rfl
        exact wp_assignV (.tmp 20) rfl _ e0 ⟨_, rfl, tq_is _ _ _ _ rfl, Kept.refl _ _, fun _ _ _ _ _ => trivial⟩
    intro w9 hk9
    replace hk9 : Kept [] W1 w9 := ⟨hk9.os, hk9.tape, hk9.output, hk9.size, hk9.block⟩
    simp only [valsQ, List.map_cons, List.map_nil, Option.getD_some, List.take_succ_cons, List.take_zero, putAll, Act.put, List.setIfInBounds_toArray, List.set_cons_succ, List.set_cons_zero]
    refine wpAny_done (by kernel_rfl) ?_ _
    go_wp2_with fail
    go_ret
    exact ⟨rfl, (unhide HK).trans hk9⟩

end Go.Proofs.YtmeajhdhiebkdaaDoor
