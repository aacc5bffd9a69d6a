/-
  The closures of Has, Oldest, Of, All.
-/
import Derived.Test.YthihladmifpokaaQc
namespace Go.Proofs.Ythihladmifpokaa
set_option maxRecDepth 100000
set_option linter.unusedSimpArgs false
open Go.RowKit

section
variable {ops : Array Oper} {rest : List Oper} {op o : Oper} {a : Act} {w : World} {K : Act → World → Prop} {Q : Exit → Act → World → Prop}
theorem wpBoxQ {ops : Array Oper} {rest : List Oper} {op : Oper} {a : Act} {w : World} {Q : Exit → Act → World → Prop} {T : Nat} (hgd : op.guard = none) (x : Operand) (ho : op.op = .box T x) (p : Option Addr) (hx : a.eval x = .pointer p)
    (h : ∀ W b, b = w.heap.size → Blk W b T [.pointer p] → Kept [] w W → wpList Try.prog ops Q rest (a.put op.dst (P0 b)) W) : wpList Try.prog ops Q (op :: rest) a w :=
  wpList_plain hgd fun _ hK => by
    unfold Oper.wp execOp
    simp only [ho, hx]
    exact hK _ _ (h _ _ rfl (Blk.new w T _) ((Kept.refl _ _).alloc _))
end
variable {w W W' : World} {b4 : Nat} {x : Mk} {k : Int}
theorem ent37 : Ent 37 := fun vs w => by kernel_rfl
theorem ent40 : Ent 40 := fun vs w => by kernel_rfl
theorem ent44 : Ent 44 := fun vs w => by kernel_rfl
theorem ent46 : Ent 46 := fun vs w => by kernel_rfl
theorem clo37 (h4 : Blk w b4 3 [.int .i64 k]) (x : Mk) : Calls Try.prog 37 #[aggV x.C, P0 b4] w fun e W => e = .returned (.bool (decide (x.p = k))) ∧ Kept [] w W := by
  have H4 := hide h4
  clear h4
  by_cases h1 : x.p = k
  · have d1 : (x.p == k) = true := by simpa using h1
    rw [show decide (x.p = k) = true by simpa using h1]
    clear h1
    go_enter Try.func37, Try.ntmps37
    go_wp2_with (
      first
      | (refine wpBoxV rfl (.tmp 0) rfl x.C rfl ?_
         intro W1 y e1 B1 K1
         have c1 := fits_cell B1 0 (.int .i64 x.p) rfl
         have c3 := fits_cell ((unhide H4).kept K1 (by simp)) 0 _ rfl
         have HK := hide K1
         clear e1 B1 K1
         refine Stp.go ?_))
    constructor
    go_wp2_with fail
    go_ret
    exact ⟨rfl, unhide HK⟩
  · have d1 : (x.p == k) = false := by simpa using h1
    rw [show decide (x.p = k) = false by simpa using h1]
    clear h1
    go_enter Try.func37, Try.ntmps37
    go_wp2_with (
      first
      | (refine wpBoxV rfl (.tmp 0) rfl x.C rfl ?_
         intro W1 y e1 B1 K1
         have c1 := fits_cell B1 0 (.int .i64 x.p) rfl
         have c3 := fits_cell ((unhide H4).kept K1 (by simp)) 0 _ rfl
         have HK := hide K1
         clear e1 B1 K1
         refine Stp.go ?_))
    constructor
    go_wp2_with fail
    go_ret
    exact ⟨rfl, unhide HK⟩
theorem clo40 (h4 : Blk w b4 2 [.int .i64 k]) (x : Mk) : Calls Try.prog 40 #[aggV x.C, P0 b4] w fun e W => e = .returned (.bool (decide (x.f = k))) ∧ Kept [] w W := by
  have H4 := hide h4
  clear h4
  by_cases h1 : x.f = k
  · have d1 : (x.f == k) = true := by simpa using h1
    rw [show decide (x.f = k) = true by simpa using h1]
    clear h1
    go_enter Try.func40, Try.ntmps40
    go_wp2_with (
      first
      | (refine wpBoxV rfl (.tmp 0) rfl x.C rfl ?_
         intro W1 y e1 B1 K1
         have c1 := fits_cell B1 2 (.int .i64 x.f) rfl
         have c3 := fits_cell ((unhide H4).kept K1 (by simp)) 0 _ rfl
         have HK := hide K1
         clear e1 B1 K1
         refine Stp.go ?_))
    constructor
    go_wp2_with fail
    go_ret
    exact ⟨rfl, unhide HK⟩
  · have d1 : (x.f == k) = false := by simpa using h1
    rw [show decide (x.f = k) = false by simpa using h1]
    clear h1
    go_enter Try.func40, Try.ntmps40
    go_wp2_with (
      first
      | (refine wpBoxV rfl (.tmp 0) rfl x.C rfl ?_
         intro W1 y e1 B1 K1
         have c1 := fits_cell B1 2 (.int .i64 x.f) rfl
         have c3 := fits_cell ((unhide H4).kept K1 (by simp)) 0 _ rfl
         have HK := hide K1
         clear e1 B1 K1
         refine Stp.go ?_))
    constructor
    go_wp2_with fail
    go_ret
    exact ⟨rfl, unhide HK⟩
theorem clo44 (h4 : Blk w b4 3 [.int .i64 k]) (x : Mk) : Calls Try.prog 44 #[aggV x.C, P0 b4] w fun e W => e = .returned (.bool (decide (x.p = k))) ∧ Kept [] w W := by
  have H4 := hide h4
  clear h4
  by_cases h1 : x.p = k
  · have d1 : (x.p == k) = true := by simpa using h1
    rw [show decide (x.p = k) = true by simpa using h1]
    clear h1
    go_enter Try.func44, Try.ntmps44
    go_wp2_with (
      first
      | (refine wpBoxV rfl (.tmp 0) rfl x.C rfl ?_
         intro W1 y e1 B1 K1
         have c1 := fits_cell B1 0 (.int .i64 x.p) rfl
         have c3 := fits_cell ((unhide H4).kept K1 (by simp)) 0 _ rfl
         have HK := hide K1
         clear e1 B1 K1
         refine Stp.go ?_))
    constructor
    go_wp2_with fail
    go_ret
    exact ⟨rfl, unhide HK⟩
  · have d1 : (x.p == k) = false := by simpa using h1
    rw [show decide (x.p = k) = false by simpa using h1]
    clear h1
    go_enter Try.func44, Try.ntmps44
    go_wp2_with (
      first
      | (refine wpBoxV rfl (.tmp 0) rfl x.C rfl ?_
         intro W1 y e1 B1 K1
         have c1 := fits_cell B1 0 (.int .i64 x.p) rfl
         have c3 := fits_cell ((unhide H4).kept K1 (by simp)) 0 _ rfl
         have HK := hide K1
         clear e1 B1 K1
         refine Stp.go ?_))
    constructor
    go_wp2_with fail
    go_ret
    exact ⟨rfl, unhide HK⟩
theorem clo46 (w : World) (x : Mk) : Calls Try.prog 46 #[aggV x.C] w fun e W => e = .returned (.bool true) ∧ Kept [] w W := by
  go_enter Try.func46, Try.ntmps46
  go_wp2_with (
    first
    | (refine wpBoxV rfl (.tmp 0) rfl x.C rfl ?_
       intro W1 y e1 B1 K1
       have HK := hide K1
       clear e1 B1 K1
       refine Stp.go ?_))
  constructor
  go_wp2_with fail
  go_ret
  exact ⟨rfl, unhide HK⟩
theorem all30 (p : Option Addr) (w : World) : Calls Try.prog 30 #[.pointer p] w fun e W => ∃ c, e = .returned (fnV 45 #[P0 c]) ∧ Blk W c 25 [.pointer p] ∧ w.heap.size ≤ c ∧ Kept [] w W := by
  go_enter Try.func30, Try.ntmps30
  go_wp2_with (
    first
    | (refine wpBoxQ rfl (.tmp 0) rfl p rfl ?_
       intro W1 c e1 B1 K1
       have HB := hide B1
       have HC : Hid (w.heap.size ≤ c) := by show _ ≤ _; omega
       have HK := hide K1
       clear e1 B1 K1
       refine Stp.go ?_))
  constructor
  go_wp2_with fail
  go_ret
  exact ⟨c, rfl, unhide HB, unhide HC, unhide HK⟩

end Go.Proofs.Ythihladmifpokaa
