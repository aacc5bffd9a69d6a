/-
  The walks of record's small functions: isEpoch, isStamp, isRecord, Follows; and the law's num.
-/
import Derived.Test.YtmeajhdhiebkdaaDoorRcRcd
namespace Go.Proofs.YtmeajhdhiebkdaaDoor.Rc
set_option maxRecDepth 100000
open Go.RowKit

section
variable {ops : Array Oper} {rest : List Oper} {op : Oper} {a : Act} {w : World} {Q : Exit → Act → World → Prop}
theorem wpBoxV {T : Nat} (hgd : op.guard = none) (x : Operand) (ho : op.op = .box T x) (vs : List Value) (hx : a.eval x = aggV vs)
    (h : ∀ W b, b = w.heap.size → Blk W b T vs → Kept [] w W → wpList Tryd.prog ops Q rest (a.put op.dst (P0 b)) W) : wpList Tryd.prog ops Q (op :: rest) a w :=
  wpBoxA hgd x ho vs hx (h _ _ rfl (Blk.new w T vs) ((Kept.refl _ _).alloc _))
theorem wpAllocW {T : Nat} (vs : List Value) (hr : ∀ w : World, (Instr.alloc T true (.tuple #[])).run Tryd.prog w = .ok (P0 w.heap.size) (w.alloc (.cells vs.toArray T))) (d : Nat) (_ : op.dst = some d) (hgd : op.guard = none) (ho : op.op = .alloc T)
    (h : ∀ W b, b = w.heap.size → Blk W b T vs → Kept [] w W → wpList Tryd.prog ops Q rest (a.put op.dst (P0 b)) W) : wpList Tryd.prog ops Q (op :: rest) a w :=
  wpAllocA vs hr hgd ho (h _ _ rfl (Blk.new w T vs) ((Kept.refl _ _).alloc _))
end

def isWrit (n : Int) : Bool := decide (1 ≤ n ∧ n ≤ 2147483647)
def isRec (r : Rec) : Bool := decide (0 ≤ r.nd ∧ r.nd < 8) && (decide (0 ≤ r.pg ∧ r.pg < 16) && (isWrit r.ep && (isWrit r.ls && isWrit r.ps)))

theorem isEpoch33 (n : Int) (w : World) : Calls Tryd.prog 68 #[.int .i64 n] w fun e w' => e = .returned (.bool (isWrit n)) ∧ w' = w := by
  by_cases h1 : 1 ≤ n
  · go_enter Tryd.func68, Tryd.ntmps68
    go_wp2_with fail
    go_ret
    exact ⟨ret_bool (by simp [isWrit]; omega), rfl⟩
  · go_enter Tryd.func68, Tryd.ntmps68
    go_wp2_with fail
    go_ret
    exact ⟨ret_bool (by simp [isWrit]; omega), rfl⟩
theorem isStamp34 (n : Int) (w : World) : Calls Tryd.prog 69 #[.int .i64 n] w fun e w' => e = .returned (.bool (isWrit n)) ∧ w' = w := by
  by_cases h1 : 1 ≤ n
  · go_enter Tryd.func69, Tryd.ntmps69
    go_wp2_with fail
    go_ret
    exact ⟨ret_bool (by simp [isWrit]; omega), rfl⟩
  · go_enter Tryd.func69, Tryd.ntmps69
    go_wp2_with fail
    go_ret
    exact ⟨ret_bool (by simp [isWrit]; omega), rfl⟩

theorem Rec.cells {W : World} {b : Nat} {r : Rec} (h : Blk W b 45 (recC r)) : W.cell? ⟨b, 0, none⟩ = some (.int .i64 r.nd) ∧ W.cell? ⟨b, 1, none⟩ = some (.int .i64 r.ep) ∧ W.cell? ⟨b, 2, none⟩ = some (.int .i64 r.ls) ∧ W.cell? ⟨b, 3, none⟩ = some (.int .i64 r.pg) ∧ W.cell? ⟨b, 4, none⟩ = some (.int .i64 r.ps) :=
  ⟨fits_cell h 0 _ rfl, fits_cell h 1 _ rfl, fits_cell h 2 _ rfl, fits_cell h 3 _ rfl, fits_cell h 4 _ rfl⟩

set_option maxHeartbeats 1000000 in
theorem isRecord31 (r : Rec) (w : World) : Calls Tryd.prog 61 #[aggV (recC r)] w fun e w' => e = .returned (.bool (isRec r)) ∧ Kept [] w w' := by
  generalize hE : isWrit r.ep = E
  generalize hL : isWrit r.ls = L
  generalize hP : isWrit r.ps = P
  have hR : isRec r = (decide (0 ≤ r.nd ∧ r.nd < 8) && (decide (0 ≤ r.pg ∧ r.pg < 16) && (E && (L && P)))) := by rw [isRec, hE, hL, hP]
  rw [hR]
  clear hR
  by_cases h1 : 0 ≤ r.nd
  rotate_left
  · go_enter Tryd.func61, Tryd.ntmps61
    go_wp2_with (
      first
      | (refine wpBoxV rfl (.tmp 0) rfl (recC r) rfl ?_
         intro W1 b1 e1 B1 K1
         obtain ⟨c0, c1, c2, c3, c4⟩ := Rec.cells B1
         have KK := hide K1
         have pe := hide (isEpoch33 r.ep W1)
         have pl := hide (isStamp34 r.ls W1)
         have pp := hide (isStamp34 r.ps W1)
         rw [hE] at pe
         rw [hL] at pl
         rw [hP] at pp
         clear e1 B1 K1)
      | (go_at_call 68; refine (unhide pe).mono ?_; rintro e w' ⟨rfl, rfl⟩; clear pe)
      | (go_at_call 69; refine (unhide pl).mono ?_; rintro e w' ⟨rfl, rfl⟩; clear pl)
      | (go_at_call 69; refine (unhide pp).mono ?_; rintro e w' ⟨rfl, rfl⟩; clear pp))
    go_ret
    exact ⟨ret_bool (by simp; omega), unhide KK⟩
  by_cases h2 : r.nd < 8
  rotate_left
  · go_enter Tryd.func61, Tryd.ntmps61
    go_wp2_with (
      first
      | (refine wpBoxV rfl (.tmp 0) rfl (recC r) rfl ?_
         intro W1 b1 e1 B1 K1
         obtain ⟨c0, c1, c2, c3, c4⟩ := Rec.cells B1
         have KK := hide K1
         have pe := hide (isEpoch33 r.ep W1)
         have pl := hide (isStamp34 r.ls W1)
         have pp := hide (isStamp34 r.ps W1)
         rw [hE] at pe
         rw [hL] at pl
         rw [hP] at pp
         clear e1 B1 K1)
      | (go_at_call 68; refine (unhide pe).mono ?_; rintro e w' ⟨rfl, rfl⟩; clear pe)
      | (go_at_call 69; refine (unhide pl).mono ?_; rintro e w' ⟨rfl, rfl⟩; clear pl)
      | (go_at_call 69; refine (unhide pp).mono ?_; rintro e w' ⟨rfl, rfl⟩; clear pp))
    go_ret
    exact ⟨ret_bool (by simp; omega), unhide KK⟩
  by_cases h3 : 0 ≤ r.pg
  rotate_left
  · go_enter Tryd.func61, Tryd.ntmps61
    go_wp2_with (
      first
      | (refine wpBoxV rfl (.tmp 0) rfl (recC r) rfl ?_
         intro W1 b1 e1 B1 K1
         obtain ⟨c0, c1, c2, c3, c4⟩ := Rec.cells B1
         have KK := hide K1
         have pe := hide (isEpoch33 r.ep W1)
         have pl := hide (isStamp34 r.ls W1)
         have pp := hide (isStamp34 r.ps W1)
         rw [hE] at pe
         rw [hL] at pl
         rw [hP] at pp
         clear e1 B1 K1)
      | (go_at_call 68; refine (unhide pe).mono ?_; rintro e w' ⟨rfl, rfl⟩; clear pe)
      | (go_at_call 69; refine (unhide pl).mono ?_; rintro e w' ⟨rfl, rfl⟩; clear pl)
      | (go_at_call 69; refine (unhide pp).mono ?_; rintro e w' ⟨rfl, rfl⟩; clear pp))
    go_ret
    exact ⟨ret_bool (by simp; omega), unhide KK⟩
  by_cases h4 : r.pg < 16
  rotate_left
  · go_enter Tryd.func61, Tryd.ntmps61
    go_wp2_with (
      first
      | (refine wpBoxV rfl (.tmp 0) rfl (recC r) rfl ?_
         intro W1 b1 e1 B1 K1
         obtain ⟨c0, c1, c2, c3, c4⟩ := Rec.cells B1
         have KK := hide K1
         have pe := hide (isEpoch33 r.ep W1)
         have pl := hide (isStamp34 r.ls W1)
         have pp := hide (isStamp34 r.ps W1)
         rw [hE] at pe
         rw [hL] at pl
         rw [hP] at pp
         clear e1 B1 K1)
      | (go_at_call 68; refine (unhide pe).mono ?_; rintro e w' ⟨rfl, rfl⟩; clear pe)
      | (go_at_call 69; refine (unhide pl).mono ?_; rintro e w' ⟨rfl, rfl⟩; clear pl)
      | (go_at_call 69; refine (unhide pp).mono ?_; rintro e w' ⟨rfl, rfl⟩; clear pp))
    go_ret
    exact ⟨ret_bool (by simp; omega), unhide KK⟩
  have hn : decide (0 ≤ r.nd ∧ r.nd < 8) = true := by simp; omega
  have hp : decide (0 ≤ r.pg ∧ r.pg < 16) = true := by simp; omega
  rw [hn, hp]
  clear hn hp
  cases E with
  | false =>
    go_enter Tryd.func61, Tryd.ntmps61
    go_wp2_with (
      first
      | (refine wpBoxV rfl (.tmp 0) rfl (recC r) rfl ?_
         intro W1 b1 e1 B1 K1
         obtain ⟨c0, c1, c2, c3, c4⟩ := Rec.cells B1
         have KK := hide K1
         have pe := hide (isEpoch33 r.ep W1)
         have pl := hide (isStamp34 r.ls W1)
         have pp := hide (isStamp34 r.ps W1)
         rw [hE] at pe
         rw [hL] at pl
         rw [hP] at pp
         clear e1 B1 K1)
      | (go_at_call 68; refine (unhide pe).mono ?_; rintro e w' ⟨rfl, rfl⟩; clear pe)
      | (go_at_call 69; refine (unhide pl).mono ?_; rintro e w' ⟨rfl, rfl⟩; clear pl)
      | (go_at_call 69; refine (unhide pp).mono ?_; rintro e w' ⟨rfl, rfl⟩; clear pp))
    go_ret
    exact ⟨ret_bool (by simp), unhide KK⟩
  | true =>
    cases L with
    | false =>
      go_enter Tryd.func61, Tryd.ntmps61
      go_wp2_with (
        first
        | (refine wpBoxV rfl (.tmp 0) rfl (recC r) rfl ?_
           intro W1 b1 e1 B1 K1
           obtain ⟨c0, c1, c2, c3, c4⟩ := Rec.cells B1
           have KK := hide K1
           have pe := hide (isEpoch33 r.ep W1)
           have pl := hide (isStamp34 r.ls W1)
           have pp := hide (isStamp34 r.ps W1)
           rw [hE] at pe
           rw [hL] at pl
           rw [hP] at pp
           clear e1 B1 K1)
        | (go_at_call 68; refine (unhide pe).mono ?_; rintro e w' ⟨rfl, rfl⟩; clear pe)
        | (go_at_call 69; refine (unhide pl).mono ?_; rintro e w' ⟨rfl, rfl⟩; clear pl)
        | (go_at_call 69; refine (unhide pp).mono ?_; rintro e w' ⟨rfl, rfl⟩; clear pp))
      go_ret
      exact ⟨ret_bool (by simp), unhide KK⟩
    | true =>
      go_enter Tryd.func61, Tryd.ntmps61
      go_wp2_with (
        first
        | (refine wpBoxV rfl (.tmp 0) rfl (recC r) rfl ?_
           intro W1 b1 e1 B1 K1
           obtain ⟨c0, c1, c2, c3, c4⟩ := Rec.cells B1
           have KK := hide K1
           have pe := hide (isEpoch33 r.ep W1)
           have pl := hide (isStamp34 r.ls W1)
           have pp := hide (isStamp34 r.ps W1)
           rw [hE] at pe
           rw [hL] at pl
           rw [hP] at pp
           clear e1 B1 K1)
        | (go_at_call 68; refine (unhide pe).mono ?_; rintro e w' ⟨rfl, rfl⟩; clear pe)
        | (go_at_call 69; refine (unhide pl).mono ?_; rintro e w' ⟨rfl, rfl⟩; clear pl)
        | (go_at_call 69; refine (unhide pp).mono ?_; rintro e w' ⟨rfl, rfl⟩; clear pp))
      go_ret
      exact ⟨ret_bool (by simp), unhide KK⟩

/-- May b stand behind a. -/
def folB (a b : Rec) : Bool := decide (a.ls < b.ls) && (decide (a.ls = b.ls - 1) && (decide (a.nd = b.nd) && decide (a.ep ≤ b.ep)))

end Go.Proofs.YtmeajhdhiebkdaaDoor.Rc
