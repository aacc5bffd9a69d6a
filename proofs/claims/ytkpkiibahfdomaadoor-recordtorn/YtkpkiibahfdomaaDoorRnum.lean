/-
  The walk of the document's number.
-/
import Derived.Test.YtkpkiibahfdomaaDoorRhalf
namespace Go.Proofs.YtkpkiibahfdomaaDoor
open Go.RowKit

set_option maxHeartbeats 1000000 in
theorem number41 (s : List Int) (hs : Byts 64 s) (o : Nat) (ho : o + 4 ≤ 64) (w : World) : Calls Tryd.prog 41 #[aggV (u8s s), .int .i64 o] w fun e w' => e = .returned (.int .i64 (numL s o 4)) ∧ Kept [] w w' := by
  go_enter Tryd.func41, Tryd.ntmps41
  go_wp2_with (
    refine wpBoxV rfl (.tmp 0) rfl (u8s s) rfl ?_
    intro W1 b1 e1 B1 K1
    have BB := hide B1
    have KK := hide K1
    clear e1 B1 K1)
  go_loopw [5, 6] (fun v i wr => ∃ k : Nat, k ≤ 4 ∧ v = .int .i64 (numK s o k) ∧ i = .int .i64 (o + k) ∧ Hid (Blk wr b1 29 (u8s s)) ∧ Hid (Kept [] w wr)) (fun _ i _ => (o + 4) - (intOf i).toNat)
  case atStart => exact ⟨0, by omega, by simp [numK], by simp, BB, KK⟩
  case round =>
    clear BB KK
    obtain ⟨k, hk4, rfl, rfl, R, RK⟩ := hrel
    have hlt0 := numK_lt hs o k (by omega)
    by_cases hlt : k < 4
    · have hp : (256 : Nat) ^ k ≤ 16777216 := by
        have := Nat.pow_le_pow_right (n := 256) (by decide) (show k ≤ 3 by omega)
        exact Nat.le_trans this (by decide)
      have hb := hs.byte (s[o + k]'(by rw [hs.len]; omega)) (List.getElem_mem _)
      have eg : s.getD (o + k) 0 = s[o + k]'(by rw [hs.len]; omega) := by simp [List.getD, hs.len, show o + k < 64 by omega]
      obtain ⟨x, hx⟩ : ∃ x, s[o + k]'(by rw [hs.len]; omega) = x := ⟨_, rfl⟩
      have hc : (u8s s)[o + k]? = some (.int .u8 x) := by rw [← hx]; simp [u8s, hs.len, show o + k < 64 by omega]
      have q : wr.cell? ⟨b1, o + k, none⟩ = some (.int .u8 x) := fits_cell (unhide R) _ _ hc
      rw [hx] at hb eg
      obtain ⟨m, hm⟩ : ∃ m, numK s o k = m := ⟨_, rfl⟩
      have hn : Hid ((numK s o (k + 1) : Int) = m * 256 + x) := by show _ = _; rw [numK, eg, hm]; omega
      rw [hm] at hlt0 ⊢
      have hm2 : m < 16777216 := by omega
      have e1 : ((o : Int) + (k : Int)).toNat = o + k := by omega
      clear hm hx hc eg hp hlt0
      go_wp2_with fail
      go_roundw
      case rel => exact ⟨k + 1, by omega, by rw [unhide hn], by go_num, R, RK⟩
      case measure => simp [intOf]; omega
    · obtain rfl : k = 4 := by omega
      go_wp2_with fail
      go_ret
      exact ⟨rfl, unhide RK⟩

end Go.Proofs.YtkpkiibahfdomaaDoor
