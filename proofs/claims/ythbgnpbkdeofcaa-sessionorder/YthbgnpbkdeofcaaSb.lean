/-
  The small functions of session.
-/
import Derived.Test.YthbgnpbkdeofcaaSa
import Derived.BigQuiet
namespace Go.Proofs.Ythbgnpbkdeofcaa
open Go.RowKit

/-- A session with itself: as none. -/
structure Sz (W : World) (b : Nat) : Prop where
  head : Blk W b 68 [.int .i64 0, .int .i64 0, .int .i64 0, .int .i64 0, .int .i64 0, .int .i64 0, .bool false, .slice none 0 0]
theorem Sz.kept0 {W W' : World} {b : Nat} (h : Sz W b) (hk : Kept [] W W') : Sz W' b := ⟨h.head.kept hk (by simp)⟩
/-- None: nil, or a zero one. -/
def Non (W : World) (p : Value) : Prop := p = .pointer none ∨ ∃ b, p = P0 b ∧ Sz W b

theorem none33 (b : Nat) (v : Value) (ws : List Value) (P : Ps) (w : World) (h : Sx w b v ws P) : Calls Try.prog 33 #[P0 b] w fun e w' => e = .returned (.bool false) ∧ ∃ q, w' = w.drewN q := by
  have hc := h.cells.1
  have hd := h.cells.2.1
  have hn := h.ok.ne
  go_enter Try.func33, Try.ntmps33
  go_wp2
  go_quiet (fail)
  go_wp2
  go_ret
  exact ⟨by simp [hn], _, rfl⟩
theorem nil33 (w : World) : Calls Try.prog 33 #[.pointer none] w fun e w' => e = .returned (.bool true) ∧ ∃ q, w' = w.drewN q := by
  go_enter Try.func33, Try.ntmps33
  go_wp2
  go_quiet (fail)
  go_wp2
  go_ret
  exact ⟨rfl, _, rfl⟩
theorem zer33 (b : Nat) (w : World) (h : Sz w b) : Calls Try.prog 33 #[P0 b] w fun e w' => e = .returned (.bool true) ∧ ∃ q, w' = w.drewN q := by
  have hc := fits_cell h.head 0 _ rfl
  have hd := fits_cell h.head 1 _ rfl
  go_enter Try.func33, Try.ntmps33
  go_wp2
  go_quiet (fail)
  go_wp2
  go_ret
  exact ⟨rfl, _, rfl⟩
theorem non33 (p : Value) (w : World) (h : Non w p) : Calls Try.prog 33 #[p] w fun e w' => e = .returned (.bool true) ∧ ∃ q, w' = w.drewN q := by
  rcases h with rfl | ⟨b, rfl, h⟩
  · exact nil33 w
  · exact zer33 b w h
def nodeB (n : Int) : Bool := decide (0 ≤ n) && decide (n < 8)
def numB (n : Int) : Bool := decide (0 ≤ n) && decide (n ≤ 4611686018427387904)
theorem node31 (n : Int) (w : World) : Calls Try.prog 31 #[.int .i64 n] w fun e w' => e = .returned (.bool (nodeB n)) ∧ w' = w := by
  by_cases h0 : 0 ≤ n
  · go_enter Try.func31, Try.ntmps31
    go_wp2
    go_ret
    exact ⟨by simp [nodeB, h0], rfl⟩
  · go_enter Try.func31, Try.ntmps31
    go_wp2
    go_ret
    exact ⟨by simp [nodeB]; omega, rfl⟩
theorem num32 (n : Int) (w : World) : Calls Try.prog 32 #[.int .i64 n] w fun e w' => e = .returned (.bool (numB n)) ∧ w' = w := by
  by_cases h0 : 0 ≤ n
  · go_enter Try.func32, Try.ntmps32
    go_wp2
    go_ret
    exact ⟨by simp [numB, h0], rfl⟩
  · go_enter Try.func32, Try.ntmps32
    go_wp2
    go_ret
    exact ⟨by simp [numB]; omega, rfl⟩
theorem sent44 (b : Nat) (v : Value) (ws : List Value) (P : Ps) (w : World) (h : Sx w b v ws P) : Calls Try.prog 44 #[P0 b] w fun e w' => e = .returned (.int .i64 P.sent.length) ∧ ∃ q, w' = w.drewN q := by
  obtain ⟨ao, c, rfl, _, _⟩ := h.row.sl
  have hc := h.cells.2.2.2.1
  have hd := h.cells.2.2.2.2.2.2.2
  have hl := h.len
  have hm := h.ok.many
  have hw : IntKind.i64.wrap ((P.known : Int) + (ws.length : Int)) = P.sent.length := by rw [IntKind.wrap_i64]; omega
  clear hl h
  go_enter Try.func44, Try.ntmps44
  go_wp2
  go_quiet (fail)
  go_wp2
  go_ret
  exact ⟨rfl, _, rfl⟩
theorem waits22 (b : Nat) (v : Value) (ws : List Value) (P : Ps) (w : World) (h : Sx w b v ws P) : Calls Try.prog 22 #[P0 b] w fun e w' => e = .returned (.int .i64 ws.length) ∧ ∃ q, w' = w.drewN q := by
  obtain ⟨ao, c, rfl, _, _⟩ := h.row.sl
  have hd := h.cells.2.2.2.2.2.2.2
  have P33 := hide (none33 b _ ws P w h)
  go_enter Try.func22, Try.ntmps22
  go_wp2_with (
    first
    | (go_at_call 33
       refine (unhide P33).mono ?_
       rintro e V1 ⟨rfl, q1, rfl⟩))
  go_ret
  exact ⟨rfl, _, rfl⟩
theorem got23 (b : Nat) (v : Value) (ws : List Value) (P : Ps) (w : World) (h : Sx w b v ws P) : Calls Try.prog 23 #[P0 b] w fun e w' => e = .returned (.int .i64 P.got) ∧ ∃ q, w' = w.drewN q := by
  have hd := h.cells.2.2.2.2.2.1
  have P33 := hide (none33 b _ ws P w h)
  go_enter Try.func23, Try.ntmps23
  go_wp2_with (
    first
    | (go_at_call 33
       refine (unhide P33).mono ?_
       rintro e V1 ⟨rfl, q1, rfl⟩))
  go_ret
  exact ⟨rfl, _, rfl⟩
theorem owes24 (b : Nat) (v : Value) (ws : List Value) (P : Ps) (w : World) (h : Sx w b v ws P) : Calls Try.prog 24 #[P0 b] w fun e w' => e = .returned (.bool P.owes) ∧ ∃ q, w' = w.drewN q := by
  have hd := h.cells.2.2.2.2.2.2.1
  have P33 := hide (none33 b _ ws P w h)
  go_enter Try.func24, Try.ntmps24
  go_wp2_with (
    first
    | (go_at_call 33
       refine (unhide P33).mono ?_
       rintro e V1 ⟨rfl, q1, rfl⟩))
  go_ret
  exact ⟨rfl, _, rfl⟩
theorem waits_z (p : Value) (w : World) (h : Non w p) : Calls Try.prog 22 #[p] w fun e w' => e = .returned (.int .i64 0) ∧ ∃ q, w' = w.drewN q := by
  have P33 := hide (non33 p w h)
  go_enter Try.func22, Try.ntmps22
  go_wp2_with (
    first
    | (go_at_call 33
       refine (unhide P33).mono ?_
       rintro e V1 ⟨rfl, q1, rfl⟩))
  go_ret
  exact ⟨rfl, _, rfl⟩
theorem got_z (p : Value) (w : World) (h : Non w p) : Calls Try.prog 23 #[p] w fun e w' => e = .returned (.int .i64 0) ∧ ∃ q, w' = w.drewN q := by
  have P33 := hide (non33 p w h)
  go_enter Try.func23, Try.ntmps23
  go_wp2_with (
    first
    | (go_at_call 33
       refine (unhide P33).mono ?_
       rintro e V1 ⟨rfl, q1, rfl⟩))
  go_ret
  exact ⟨rfl, _, rfl⟩
theorem owes_z (p : Value) (w : World) (h : Non w p) : Calls Try.prog 24 #[p] w fun e w' => e = .returned (.bool false) ∧ ∃ q, w' = w.drewN q := by
  have P33 := hide (non33 p w h)
  go_enter Try.func24, Try.ntmps24
  go_wp2_with (
    first
    | (go_at_call 33
       refine (unhide P33).mono ?_
       rintro e V1 ⟨rfl, q1, rfl⟩))
  go_ret
  exact ⟨rfl, _, rfl⟩
theorem fresh_z (p : Value) (w : World) (h : Non w p) : Calls Try.prog 14 #[p] w fun e w' => e = .returned (.slice none 0 0) ∧ ∃ q, w' = w.drewN q := by
  have P33 := hide (non33 p w h)
  go_enter Try.func14, Try.ntmps14
  go_wp2_with (
    first
    | (go_at_call 33
       refine (unhide P33).mono ?_
       rintro e V1 ⟨rfl, q1, rfl⟩))
  go_ret
  exact ⟨rfl, _, rfl⟩
theorem again_z (p : Value) (w : World) (h : Non w p) : Calls Try.prog 18 #[p] w fun e w' => e = .returned (.slice none 0 0) ∧ ∃ q, w' = w.drewN q := by
  have P33 := hide (non33 p w h)
  go_enter Try.func18, Try.ntmps18
  go_wp2_with (
    first
    | (go_at_call 33
       refine (unhide P33).mono ?_
       rintro e V1 ⟨rfl, q1, rfl⟩))
  go_ret
  exact ⟨rfl, _, rfl⟩
theorem copy_z (p : Value) (w : World) (h : Non w p) : Calls Try.prog 27 #[p] w fun e w' => e = .returned (.pointer none) ∧ ∃ q, w' = w.drewN q := by
  have P33 := hide (non33 p w h)
  go_enter Try.func27, Try.ntmps27
  go_wp2_with (
    first
    | (go_at_call 33
       refine (unhide P33).mono ?_
       rintro e V1 ⟨rfl, q1, rfl⟩))
  go_ret
  exact ⟨rfl, _, rfl⟩
theorem send_z (p u : Value) (w : World) (h : Non w p) : Calls Try.prog 12 #[p, u] w fun e w' => e = .returned (.int .i64 1) ∧ ∃ q, w' = w.drewN q := by
  have P33 := hide (non33 p w h)
  go_enter Try.func12, Try.ntmps12
  go_wp2_with (
    first
    | (go_at_call 33
       refine (unhide P33).mono ?_
       rintro e V1 ⟨rfl, q1, rfl⟩))
  go_ret
  exact ⟨rfl, _, rfl⟩

end Go.Proofs.Ythbgnpbkdeofcaa
