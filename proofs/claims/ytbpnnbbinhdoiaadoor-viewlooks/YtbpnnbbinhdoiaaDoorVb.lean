/-
  The small functions: isNode, isEpoch, isIn, num, First, node.
-/
import Derived.Test.YtbpnnbbinhdoiaaDoorVa
namespace Go.Proofs.YtbpnnbbinhdoiaaDoor
set_option maxRecDepth 100000
open Go.RowKit


def isNo (n : Int) : Bool := decide (0 ≤ n ∧ n < 8)
def isEp (n : Int) : Bool := decide (1 ≤ n ∧ n ≤ 2147483647)
def Vw.mem (v : Vw) (n : Int) : Bool × Int := v.ms.getD n.toNat (false, 0)
def Vw.isIn (v : Vw) (n : Int) : Bool := isNo n && (v.mem n).1
theorem isEpoch36 (n : Int) (w : World) : Calls Tryd.prog 36 #[.int .i64 n] w fun e w' => e = .returned (.bool (isEp n)) ∧ w' = w := by
  by_cases h1 : 1 ≤ n
  · go_enter Tryd.func36, Tryd.ntmps36
    go_wp2_with fail
    go_ret
    exact ⟨ret_bool (by simp [isEp]; omega), rfl⟩
  · go_enter Tryd.func36, Tryd.ntmps36
    go_wp2_with fail
    go_ret
    exact ⟨ret_bool (by simp [isEp]; omega), rfl⟩
theorem isNode37 (n : Int) (w : World) : Calls Tryd.prog 37 #[.int .i64 n] w fun e w' => e = .returned (.bool (isNo n)) ∧ w' = w := by
  by_cases h1 : 0 ≤ n
  · go_enter Tryd.func37, Tryd.ntmps37
    go_wp2_with fail
    go_ret
    exact ⟨ret_bool (by simp [isNo]; omega), rfl⟩
  · go_enter Tryd.func37, Tryd.ntmps37
    go_wp2_with fail
    go_ret
    exact ⟨ret_bool (by simp [isNo]; omega), rfl⟩
theorem num11 (n : Int) (w : World) : Calls Tryd.prog 11 #[.int .i64 n] w fun e w' => e = .returned (.int .i64 n) ∧ w' = w := by
  go_enter Tryd.func11, Tryd.ntmps11
  go_wp2_with fail
  go_ret
  exact ⟨rfl, rfl⟩
theorem node39 (n e : Int) (w : World) : Calls Tryd.prog 39 #[.int .i64 n, .int .i64 e] w fun x w' => x = .returned (.bool (isNo n && isEp e)) ∧ w' = w := by
  by_cases h1 : 0 ≤ n
  rotate_left
  · go_enter Tryd.func39, Tryd.ntmps39
    go_wp2_with fail
    go_ret
    exact ⟨ret_bool (by simp [isNo, isEp]; omega), rfl⟩
  by_cases h2 : n < 8
  rotate_left
  · go_enter Tryd.func39, Tryd.ntmps39
    go_wp2_with fail
    go_ret
    exact ⟨ret_bool (by simp [isNo, isEp]; omega), rfl⟩
  by_cases h3 : 1 ≤ e
  · go_enter Tryd.func39, Tryd.ntmps39
    go_wp2_with fail
    go_ret
    exact ⟨ret_bool (by simp [isNo, isEp]; omega), rfl⟩
  · go_enter Tryd.func39, Tryd.ntmps39
    go_wp2_with fail
    go_ret
    exact ⟨ret_bool (by simp [isNo, isEp]; omega), rfl⟩
theorem mem_at {v : Vw} (h : v.ms.length = 8) {n : Int} (h0 : 0 ≤ n) (h8 : n < 8) : v.ms[n.toNat]? = some (v.mem n) := by
  unfold Vw.mem
  rw [List.getD_eq_getElem?_getD, List.getElem?_eq_getElem (by omega)]; rfl
theorem Blk.mem {W : World} {b : Nat} {v : Vw} (h : Blk W b 26 (vwC v)) (hv : v.ms.length = 8) {n : Int} (h0 : 0 ≤ n) (h8 : n < 8) : W.cell? ⟨b, 3 + n.toNat * 2, none⟩ = some (.bool (v.mem n).1) ∧ W.cell? ⟨b, 3 + n.toNat * 2 + 1, none⟩ = some (.int .i64 (v.mem n).2) := by
  have := vwC_at (mem_at hv h0 h8)
  rw [Nat.mul_comm] at this
  exact ⟨fits_cell h _ _ this.1, fits_cell h _ _ this.2⟩
theorem isIn35 (v : Vw) (n : Int) (w : World) (hv : v.ms.length = 8) : Calls Tryd.prog 35 #[aggV (vwC v), .int .i64 n] w fun e w' => e = .returned (.bool (v.isIn n)) ∧ Kept [] w w' := by
  unfold Vw.isIn
  by_cases hn : 0 ≤ n ∧ n < 8
  · rw [show isNo n = true by simp [isNo]; omega]
    obtain ⟨h0, h8⟩ := hn
    go_enter Tryd.func35, Tryd.ntmps35
    go_wp2_with (
      first
      | (refine wpBoxV rfl (.tmp 0) rfl (vwC v) rfl ?_
         intro W1 b1 e1 B1 K1
         obtain ⟨c0, c1⟩ := Blk.mem B1 hv h0 h8
         have KK := hide K1
         have pn := hide (isNode37 n W1)
         rw [show isNo n = true by simp [isNo]; omega] at pn
         clear e1 B1 K1 c1)
      | (go_at_call 37; refine (unhide pn).mono ?_; rintro e w' ⟨rfl, rfl⟩; clear pn))
    go_ret
    exact ⟨rfl, unhide KK⟩
  · have hf : isNo n = false := by simp [isNo]; omega
    rw [hf]
    clear hn
    go_enter Tryd.func35, Tryd.ntmps35
    go_wp2_with (
      first
      | (refine wpBoxV rfl (.tmp 0) rfl (vwC v) rfl ?_
         intro W1 b1 e1 B1 K1
         have KK := hide K1
         have pn := hide (isNode37 n W1)
         rw [hf] at pn
         clear e1 B1 K1)
      | (go_at_call 37; refine (unhide pn).mono ?_; rintro e w' ⟨rfl, rfl⟩; clear pn))
    go_ret
    exact ⟨rfl, unhide KK⟩

end Go.Proofs.YtbpnnbbinhdoiaaDoor
