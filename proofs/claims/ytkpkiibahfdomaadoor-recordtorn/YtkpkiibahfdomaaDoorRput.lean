/-
  The walks of the document's four and May.
-/
import Derived.Test.YtkpkiibahfdomaaDoorTake
import Derived.Test.YtkpkiibahfdomaaDoorKnowa
namespace Go.Proofs.YtkpkiibahfdomaaDoor
open Go.RowKit

/-- A number's last k of four bytes, written from the place o. -/
def putK (n : Int) (o : Nat) : Nat → List Int → List Int
  | 0, s => s
  | k + 1, s => (putK n o k s).set (o + 3 - k) (n / 256 ^ k % 256)
theorem putK_len (n : Int) (o : Nat) (s : List Int) : ∀ k, (putK n o k s).length = s.length
  | 0 => rfl
  | k + 1 => by rw [putK, List.length_set, putK_len n o s k]
theorem putK_sec (n : Int) (d : List Int) (h : d.length + 4 ≤ 64) : putK n d.length 4 (secOf d) = secOf (d ++ be 4 n) := by
  unfold secOf
  obtain ⟨k, hk⟩ : ∃ k, 64 - d.length = k + 4 := ⟨60 - d.length, by omega⟩
  have h2 : 64 - (d ++ be 4 n).length = k := by simp [be_len]; omega
  rw [hk, h2]
  simp [putK, be, zs, List.replicate_succ]

set_option maxHeartbeats 1000000 in
theorem four37 (b o : Nat) (n : Int) (hn : 0 ≤ n ∧ n ≤ 2147483647) (s : List Int) (hs : s.length = 64) (ho : o + 4 ≤ 64) (w : World) (hB : Blk w b 29 (u8s s)) : Calls Tryd.prog 37 #[P0 b, .int .i64 o, .int .i64 n] w fun e w' => e = .returned (.tuple #[]) ∧ Blk w' b 29 (u8s (putK n o 4 s)) ∧ Kept [b] w w' := by
  have B0 := hide hB
  clear hB
  go_enter Tryd.func37, Tryd.ntmps37
  go_wp2_with fail
  go_loopw [6, 2] (fun i v wr => ∃ k : Nat, k ≤ 4 ∧ i = .int .i64 (o + 3 - k) ∧ v = .int .i64 (n / 256 ^ k) ∧ Hid (Blk wr b 29 (u8s (putK n o k s))) ∧ Hid (Kept [b] w wr)) (fun i _ _ => (intOf i + 1 - o).toNat)
  case atStart => exact ⟨0, by omega, by simp, by simp, B0, Kept.refl _ _⟩
  case round =>
    clear B0
    obtain ⟨k, hk4, rfl, rfl, R2, RK⟩ := hrel
    have hlen : (putK n o k s).length = 64 := by rw [putK_len, hs]
    obtain ⟨m, hm⟩ : ∃ m, n / 256 ^ k = m := ⟨_, rfl⟩
    have hp : (0 : Int) < 256 ^ k := Int.pow_pos (by omega)
    have hm0 : 0 ≤ m := by rw [← hm]; exact Int.ediv_nonneg hn.1 (by omega)
    have hm1 : m ≤ 2147483647 := by rw [← hm]; exact Int.le_trans (Int.ediv_le_self _ hn.1) hn.2
    have hnx : Hid (n / 256 ^ (k + 1) = m / 256) := by show _ = _; rw [Int.pow_succ, ← Int.ediv_ediv_of_nonneg (Int.le_of_lt hp), hm]
    have HM := hide hm
    rw [hm]
    clear hm hp
    by_cases hlt : k < 4
    · have e5 : ((o : Int) + 3 - (k : Int)).toNat = o + 3 - k := by omega
      have q5 : wr.cell? ⟨b, o + 3 - k, none⟩ = some (.int .u8 ((putK n o k s)[o + 3 - k]'(by omega))) := fits_cell (unhide R2) (o + 3 - k) _ (by simp [u8s])
      have z5 := (unhide R2).frozen (o + 3 - k)
      have t1 : m.tmod 256 = m % 256 := Int.tmod_eq_emod_of_nonneg hm0
      have t2 : m.tdiv 256 = m / 256 := Int.tdiv_eq_ediv_of_nonneg hm0
      go_wp2_with fail
      go_roundw
      case rel =>
        refine ⟨k + 1, by omega, by go_num, by rw [unhide hnx], ?_, (unhide RK).setCell (by simp) _⟩
        have := (unhide R2).set (i := o + 3 - k) (.int .u8 (m % 256))
        rw [u8s_set] at this
        unfold putK
        rw [unhide HM]
        exact this
      case measure => simp [intOf]; omega
    · obtain rfl : k = 4 := by omega
      go_wp2_with fail
      exact bodyPost_end (results_none rfl _ _ _) rfl ⟨rfl, unhide R2, unhide RK⟩

set_option maxHeartbeats 2000000 in
theorem may14 (r : Rec) (w : World) : Calls Tryd.prog 14 #[aggV (recC r)] w fun e w' => e = .returned (.bool (isRec r)) ∧ Kept [] w w' := by
  by_cases h0 : 0 ≤ r.nd
  rotate_left
  · go_enter Tryd.func14, Tryd.ntmps14
    go_wp2_with (refine wpBoxV rfl (.tmp 0) rfl (recC r) rfl ?_; intro W1 b1 e1 B1 K1; obtain ⟨c0, c1, c2, c3, c4⟩ := Rec.cells B1; have KK := hide K1; clear e1 B1 K1)
    try (refine wpList_app ?_; go_wp2_with fail)
    go_ret
    exact ⟨ret_bool (by simp [isRec, isWrit]; omega), unhide KK⟩
  by_cases h1 : r.nd < 8
  rotate_left
  · go_enter Tryd.func14, Tryd.ntmps14
    go_wp2_with (refine wpBoxV rfl (.tmp 0) rfl (recC r) rfl ?_; intro W1 b1 e1 B1 K1; obtain ⟨c0, c1, c2, c3, c4⟩ := Rec.cells B1; have KK := hide K1; clear e1 B1 K1)
    try (refine wpList_app ?_; go_wp2_with fail)
    go_ret
    exact ⟨ret_bool (by simp [isRec, isWrit]; omega), unhide KK⟩
  by_cases h2 : 1 ≤ r.ep
  rotate_left
  · go_enter Tryd.func14, Tryd.ntmps14
    go_wp2_with (refine wpBoxV rfl (.tmp 0) rfl (recC r) rfl ?_; intro W1 b1 e1 B1 K1; obtain ⟨c0, c1, c2, c3, c4⟩ := Rec.cells B1; have KK := hide K1; clear e1 B1 K1)
    try (refine wpList_app ?_; go_wp2_with fail)
    go_ret
    exact ⟨ret_bool (by simp [isRec, isWrit]; omega), unhide KK⟩
  by_cases h3 : r.ep ≤ 2147483647
  rotate_left
  · go_enter Tryd.func14, Tryd.ntmps14
    go_wp2_with (refine wpBoxV rfl (.tmp 0) rfl (recC r) rfl ?_; intro W1 b1 e1 B1 K1; obtain ⟨c0, c1, c2, c3, c4⟩ := Rec.cells B1; have KK := hide K1; clear e1 B1 K1)
    try (refine wpList_app ?_; go_wp2_with fail)
    go_ret
    exact ⟨ret_bool (by simp [isRec, isWrit]; omega), unhide KK⟩
  by_cases h4 : 1 ≤ r.ls
  rotate_left
  · go_enter Tryd.func14, Tryd.ntmps14
    go_wp2_with (refine wpBoxV rfl (.tmp 0) rfl (recC r) rfl ?_; intro W1 b1 e1 B1 K1; obtain ⟨c0, c1, c2, c3, c4⟩ := Rec.cells B1; have KK := hide K1; clear e1 B1 K1)
    try (refine wpList_app ?_; go_wp2_with fail)
    go_ret
    exact ⟨ret_bool (by simp [isRec, isWrit]; omega), unhide KK⟩
  by_cases h5 : r.ls ≤ 2147483647
  rotate_left
  · go_enter Tryd.func14, Tryd.ntmps14
    go_wp2_with (refine wpBoxV rfl (.tmp 0) rfl (recC r) rfl ?_; intro W1 b1 e1 B1 K1; obtain ⟨c0, c1, c2, c3, c4⟩ := Rec.cells B1; have KK := hide K1; clear e1 B1 K1)
    try (refine wpList_app ?_; go_wp2_with fail)
    go_ret
    exact ⟨ret_bool (by simp [isRec, isWrit]; omega), unhide KK⟩
  by_cases h6 : 0 ≤ r.pg
  rotate_left
  · go_enter Tryd.func14, Tryd.ntmps14
    go_wp2_with (refine wpBoxV rfl (.tmp 0) rfl (recC r) rfl ?_; intro W1 b1 e1 B1 K1; obtain ⟨c0, c1, c2, c3, c4⟩ := Rec.cells B1; have KK := hide K1; clear e1 B1 K1)
    try (refine wpList_app ?_; go_wp2_with fail)
    go_ret
    exact ⟨ret_bool (by simp [isRec, isWrit]; omega), unhide KK⟩
  by_cases h7 : r.pg < 16
  rotate_left
  · go_enter Tryd.func14, Tryd.ntmps14
    go_wp2_with (refine wpBoxV rfl (.tmp 0) rfl (recC r) rfl ?_; intro W1 b1 e1 B1 K1; obtain ⟨c0, c1, c2, c3, c4⟩ := Rec.cells B1; have KK := hide K1; clear e1 B1 K1)
    try (refine wpList_app ?_; go_wp2_with fail)
    go_ret
    exact ⟨ret_bool (by simp [isRec, isWrit]; omega), unhide KK⟩
  by_cases h8 : 1 ≤ r.ps
  rotate_left
  · go_enter Tryd.func14, Tryd.ntmps14
    go_wp2_with (refine wpBoxV rfl (.tmp 0) rfl (recC r) rfl ?_; intro W1 b1 e1 B1 K1; obtain ⟨c0, c1, c2, c3, c4⟩ := Rec.cells B1; have KK := hide K1; clear e1 B1 K1)
    try (refine wpList_app ?_; go_wp2_with fail)
    go_ret
    exact ⟨ret_bool (by simp [isRec, isWrit]; omega), unhide KK⟩
  go_enter Tryd.func14, Tryd.ntmps14
  go_wp2_with (refine wpBoxV rfl (.tmp 0) rfl (recC r) rfl ?_; intro W1 b1 e1 B1 K1; obtain ⟨c0, c1, c2, c3, c4⟩ := Rec.cells B1; have KK := hide K1; clear e1 B1 K1)
  try (refine wpList_app ?_; go_wp2_with fail)
  go_ret
  exact ⟨ret_bool (by simp [isRec, isWrit]; omega), unhide KK⟩

end Go.Proofs.YtkpkiibahfdomaaDoor
