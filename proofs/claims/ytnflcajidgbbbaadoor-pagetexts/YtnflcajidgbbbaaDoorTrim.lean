/-
  The walks of bytes.TrimRight, where it takes noughts away, and of digit.
-/
import Derived.Test.YtnflcajidgbbbaaDoorBetween
import Derived.Lib.Bytealg
namespace Go.Proofs.YtnflcajidgbbbaaDoor
open Go.RowKit

/-- How many of the first m bytes are left where noughts at the end go. -/
def bareN (s : List Int) : Nat → Nat
  | 0 => 0
  | m + 1 => if s.getD m 0 = 0 then bareN s m else m + 1
theorem bareN_le (s : List Int) : ∀ m, bareN s m ≤ m
  | 0 => Nat.le_refl _
  | m + 1 => by
    unfold bareN
    split
    · exact Nat.le_succ_of_le (bareN_le s m)
    · exact Nat.le_refl _
/-- Bytes but the noughts at their end. -/
def bare (s : List Int) : List Int := s.take (bareN s s.length)

set_option maxHeartbeats 1000000 in
set_option maxRecDepth 100000 in
theorem trimByte39 (b : Nat) (c : Nat) (s : List Int) (w : World) (T : Nat) (h : Blk w b T (u8s s)) (hc : s.length ≤ c) (hc2 : c ≤ 96) : Calls Tryd.prog 39 #[.slice (some ⟨b, 0, none⟩) s.length c, .int .u8 0] w fun e w' => e = .returned (.slice (some ⟨b, 0, none⟩) (bareN s s.length) c) ∧ w' = w := by
  go_enter Tryd.func39, Tryd.ntmps39
  go_wp2_with fail
  go_loopw [0] (fun v wr => ∃ m : Nat, m ≤ s.length ∧ v = .slice (some ⟨b, 0, none⟩) m c ∧ Hid (bareN s m = bareN s s.length) ∧ wr = w) (fun v _ => match v with | .slice _ m _ => m | _ => 0)
  case atStart => exact ⟨s.length, Nat.le_refl _, rfl, rfl, rfl⟩
  case round =>
    obtain ⟨m, hm, rfl, hB, rfl⟩ := hrel
    cases m with
    | zero =>
      go_wp2_with fail
      go_ret
      exact ⟨by rw [← unhide hB]; rfl, rfl⟩
    | succ m =>
      obtain ⟨x, hxe⟩ : ∃ x, s.getD m 0 = x := ⟨_, rfl⟩
      have hx : wr.cell? ⟨b, m, none⟩ = some (.int .u8 x) := fits_cell h m _ (by rw [← hxe]; simp [u8s, List.getD, show m < s.length by omega])
      have h1 : ((m : Int) + 1 - 1) = m := by omega
      have hX := hide hxe
      clear hxe
      by_cases h0 : x = 0
      · subst h0
        have hN : Hid (bareN s m = bareN s s.length) := by rw [← unhide hB, bareN, if_pos (unhide hX)]; rfl
        go_wp2_with fail
        exact ⟨⟨m, by omega, rfl, hN, trivial⟩, Nat.lt_succ_self m⟩
      · have hd : (x == 0) = false := by simpa using h0
        have hN : Hid (bareN s s.length = m + 1) := by show _ = _; rw [← unhide hB, bareN, if_neg (by rw [unhide hX]; exact h0)]
        go_wp2_with fail
        go_ret
        exact ⟨by rw [unhide hN]; rfl, rfl⟩

set_option maxHeartbeats 1000000 in
set_option maxRecDepth 100000 in
theorem trim32 (b : Nat) (c : Nat) (s : List Int) (w : World) (T : Nat) (h : Blk w b T (u8s s)) (hs : 0 < s.length) (hc : s.length ≤ c) (hc2 : c ≤ 96) : Calls Tryd.prog 32 #[.slice (some ⟨b, 0, none⟩) s.length c, .string ⟨#[0]⟩] w fun e w' => e = .returned (.slice (some ⟨b, 0, none⟩) (bareN s s.length) c) ∧ w' = w := by
  have hC := hide (trimByte39 b c s w T h hc hc2)
  have hl0 : ((s.length : Int) == 0) = false := beq_eq_false_iff_ne.2 (by omega)
  go_enter Tryd.func32, Tryd.ntmps32
  go_wp2_with (go_at_call 39; refine (unhide hC).mono ?_; rintro e w1 ⟨rfl, rfl⟩)
  go_ret
  exact ⟨rfl, rfl⟩

/-- The sixteen digits. -/
def digs : List UInt8 := [48, 49, 50, 51, 52, 53, 54, 55, 56, 57, 65, 66, 67, 68, 69, 70]
/-- A digit's number; 255 where it is none. -/
def digN (c : Int) : Int := Lib.indexByte digs c.toNat.toUInt8 % 256
theorem cf54 (c : Int) (w : World) : (callFunc 54 #[.string ⟨digs.toArray⟩, .int .u8 c]).run Tryd.prog w = .ok (.value (.int .i64 (Lib.indexByte digs c.toNat.toUInt8))) w := by
  rw [run_callFunc_extern Tryd.func54 (by kernel_rfl) (by kernel_rfl) (by kernel_rfl) (e := Extern.BytealgIndexByte.indexByte) (by kernel_rfl), Lib.run_indexByteString]
  rfl
theorem idx52 (c : Int) (w : World) : Calls Tryd.prog 52 #[.string ⟨digs.toArray⟩, .int .u8 c] w fun e w' => e = .returned (.int .i64 (Lib.indexByte digs c.toNat.toUInt8)) ∧ w' = w := by
  have h := cf54 c w
  go_enter Tryd.func52, Tryd.ntmps52
  go_wp2_with fail
  go_ret
  exact ⟨rfl, rfl⟩

theorem idx49 (c : Int) (w : World) : Calls Tryd.prog 49 #[.string ⟨digs.toArray⟩, .int .u8 c] w fun e w' => e = .returned (.int .i64 (Lib.indexByte digs c.toNat.toUInt8)) ∧ w' = w := by
  have h := hide (idx52 c w)
  go_enter Tryd.func49, Tryd.ntmps49
  go_wp2_with (go_at_call 52; refine (unhide h).mono ?_; rintro e w1 ⟨rfl, rfl⟩)
  go_ret
  exact ⟨rfl, rfl⟩

theorem digit44 (c : Int) (w : World) : Calls Tryd.prog 44 #[.int .u8 c] w fun e w' => e = .returned (.int .u8 (digN c)) ∧ w' = w := by
  have h := hide (idx49 c w)
  go_enter Tryd.func44, Tryd.ntmps44
  go_wp2_with (go_at_call 49; refine (unhide h).mono ?_; rintro e w1 ⟨rfl, rfl⟩)
  go_ret
  exact ⟨by simp [digN], rfl⟩

end Go.Proofs.YtnflcajidgbbbaaDoor
