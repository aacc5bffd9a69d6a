/-
  The walk of the document's Half.
-/
import Derived.Test.YtkpkiibahfdomaaDoorPgMay
namespace Go.Proofs.YtkpkiibahfdomaaDoor.Pg
open Go.RowKit

set_option maxHeartbeats 4000000 in
set_option maxRecDepth 100000 in
theorem half13_0 (p n : Int) (s : List Int) (hs : Byts 96 s) (hn : 0 ≤ n ∧ n ≤ 2147483647) (h0 : n ≠ 0) (w : World) : Calls Tryd.prog 30 #[.int .i64 p, aggV (verC n s), .int .i64 0] w fun e w' => e = .returned (aggV (u8s (laidL p 0 n ((s.drop 0).take 48)))) ∧ Kept [] w w' := by
  have hX : Byts 48 ((s.drop 0).take 48) := ⟨by simp [hs.len], fun x hx => hs.byte x (List.mem_of_mem_drop (List.mem_of_mem_take hx))⟩
  have hnz : (n == 0) = false := by simpa using h0
  go_enter Tryd.func30, Tryd.ntmps30
  go_wp2_with (
    first
    | (refine wpBoxA rfl (.tmp 1) rfl (verC n s) rfl ?_)
    | (refine wpAllocV (u8s (zs 64)) zero29 7 rfl rfl rfl ?_
       intro W eW
       have b0 : Blk W w.heap.size 61 (verC n s) := by rw [eW]; exact ((Blk.new' rfl).alloc _).alloc _
       have b1 : Hid (Blk W (w.heap.size + 1) 29 (u8s (zs 64))) := by rw [eW]; exact (Blk.new' (by simp)).alloc _
       have b2 : Blk W (w.heap.size + 1 + 1) 29 (u8s (zs 64)) := by rw [eW]; exact Blk.new' (by simp)
       have hk : Hid (Kept [] w W) := by rw [eW]; exact (((Kept.refl _ _).alloc _).alloc _).alloc _
       have c0 := fits_cell b0 0 (.int .i64 n) rfl
       have d0 := fits_cell b2 0 (.int .u8 0) rfl
       have d1 := fits_cell b2 1 (.int .u8 0) rfl
       have f0 := b2.frozen 0
       have f1 := b2.frozen 1
       have B0 := hide b0
       have B2 := hide b2
       clear eW b0 b2)
    | (refine wpAllocA (u8s (zs 64)) zero29 rfl rfl ?_))
  go_loopw [9, 8] (fun i v wr => ∃ k : Nat, k ≤ 4 ∧ i = .int .i64 (5 - k) ∧ v = .int .i64 (n / 256 ^ k) ∧ Hid (Blk wr w.heap.size 61 (verC n s)) ∧ Hid (Blk wr (w.heap.size + 1) 29 (u8s (zs 64))) ∧ Hid (Blk wr (w.heap.size + 1 + 1) 29 (u8s (putPsn n k (laidBase p 0)))) ∧ Hid (Kept [] w wr)) (fun i _ _ => (intOf i).toNat)
  case atStart =>
    refine ⟨0, by omega, rfl, by simp, ?_, ?_, ?_, ?_⟩
    · exact ((unhide B0).set_other (by omega) _).set_other (by omega) _
    · exact ((unhide b1).set_other (by omega) _).set_other (by omega) _
    · have := ((unhide B2).set (i := 0) (.int .u8 ((161 + 0) % 256))).set (i := 1) (.int .u8 (p % 256))
      rw [u8s_set, u8s_set] at this
      exact this
    · exact ((unhide hk).setCell (by simp; omega) _).setCell (by simp; omega) _
  case round =>
    obtain ⟨k, hk4, rfl, rfl, R0, R1, R2, RK⟩ := hrel
    have hlen : (putPsn n k (laidBase p 0)).length = 64 := by rw [putPsn_len]; simp [laidBase, zs]
    clear c0 d0 d1 f0 f1 B0 b1 B2 hk
    obtain ⟨m, hm⟩ : ∃ m, n / 256 ^ k = m := ⟨_, rfl⟩
    have hp : (0 : Int) < 256 ^ k := Int.pow_pos (by omega)
    have hm0 : 0 ≤ m := by rw [← hm]; exact Int.ediv_nonneg hn.1 (by omega)
    have hm1 : m ≤ 2147483647 := by rw [← hm]; exact Int.le_trans (Int.ediv_le_self _ hn.1) hn.2
    have hnx : Hid (n / 256 ^ (k + 1) = m / 256) := by show _ = _; rw [Int.pow_succ, ← Int.ediv_ediv_of_nonneg (Int.le_of_lt hp), hm]
    have HM := hide hm
    rw [hm]
    clear hm hp
    by_cases hlt : k < 4
    · have e5 : (5 - (k : Int)).toNat = 5 - k := by omega
      have q5 : wr.cell? ⟨w.heap.size + 1 + 1, 5 - k, none⟩ = some (.int .u8 ((putPsn n k (laidBase p 0))[5 - k]'(by omega))) := fits_cell (unhide R2) (5 - k) _ (by simp [u8s])
      have z5 := (unhide R2).frozen (5 - k)
      have t1 : m.tmod 256 = m % 256 := Int.tmod_eq_emod_of_nonneg hm0
      have t2 : m.tdiv 256 = m / 256 := Int.tdiv_eq_ediv_of_nonneg hm0
      go_wp2_with fail
      go_roundw
      case rel =>
        refine ⟨k + 1, by omega, by go_num, by rw [unhide hnx], (unhide R0).set_other (by omega) _, (unhide R1).set_other (by omega) _, ?_, (unhide RK).setCell (by simp; omega) _⟩
        have := (unhide R2).set (i := 5 - k) (.int .u8 (m % 256))
        rw [u8s_set] at this
        unfold putPsn
        rw [unhide HM]
        exact this
      case measure => simp [intOf]; omega
    · obtain rfl : k = 4 := by omega
      rw [put4 p 0 n ((s.drop 0).take 48)] at R2
      clear hlen hnx HM
      go_wp2_with fail
      go_loopw [10] (fun i wr => ∃ j : Nat, j ≤ 48 ∧ i = .int .i64 j ∧ Hid (Blk wr w.heap.size 61 (verC n s)) ∧ Hid (Blk wr (w.heap.size + 1) 29 (u8s (zs 64))) ∧ Hid (Blk wr (w.heap.size + 1 + 1) 29 (u8s (halfJ p 0 n ((s.drop 0).take 48) j))) ∧ Hid (Kept [] w wr)) (fun i _ => 48 - (intOf i).toNat)
      case atStart => exact ⟨0, by omega, rfl, R0, R1, R2, RK⟩
      case round =>
        obtain ⟨j, hj, rfl, S0, S1, S2, SK⟩ := hrel
        have hlj := halfJ_len p 0 n hX.len j hj
        by_cases hlt : j < 48
        · have hxj : ((s.drop 0).take 48)[j]'(by rw [hX.len]; exact hlt) = s[0 + j]'(by rw [hs.len]; omega) := by simp
          obtain ⟨x, ex⟩ : ∃ x, ((s.drop 0).take 48)[j]'(by rw [hX.len]; exact hlt) = x := ⟨_, rfl⟩
          have qx : wr.cell? ⟨w.heap.size, 1 + j, none⟩ = some (.int .u8 x) := fits_cell (unhide S0) (1 + j) _ (by
            rw [show 1 + j = 1 + (0 + j) by omega]
            rw [verC, Nat.add_comm 1, List.getElem?_cons_succ]
            simp only [u8s, List.getElem?_map, List.getElem?_eq_getElem (show 0 + j < s.length by rw [hs.len]; omega), Option.map_some]
            rw [← hxj, ex])
          have e6 : ((6 : Int) + (j : Int)).toNat = 6 + j := by omega
          have e7 : ((0 : Int) + (j : Int)).toNat = 0 + j := by omega
          have q6 : wr.cell? ⟨w.heap.size + 1 + 1, 6 + j, none⟩ = some (.int .u8 ((halfJ p 0 n ((s.drop 0).take 48) j)[6 + j]'(by omega))) := fits_cell (unhide S2) (6 + j) _ (by simp [u8s])
          have z6 := (unhide S2).frozen (6 + j)
          have HX := hide ex
          clear hxj ex
          go_wp2_with fail
          go_roundw
          case rel =>
            refine ⟨j + 1, by omega, by go_num, (unhide S0).set_other (by omega) _, (unhide S1).set_other (by omega) _, ?_, (unhide SK).setCell (by simp; omega) _⟩
            have := (unhide S2).set (i := 6 + j) (.int .u8 x)
            have e := halfJ_set p 0 n hX.len j hlt
            rw [unhide HX] at e
            rw [u8s_set, e] at this
            exact this
          case measure => simp [intOf]; omega
        · obtain rfl : j = 48 := by omega
          rw [halfJ_all p 0 n hX.len] at S2
          have hl := (laidL_byts (p := p) (h := 0) (n := n) hX).len
          go_wp2_with (
            first
            | (refine wpLoadA row29 (by rfl) (.tmp 7) (by rfl) (w.heap.size + 1 + 1) 0 (by rfl) (u8s (laidL p 0 n ((s.drop 0).take 48))) (by rw [u8s_len, hl]) (unhide S2).range ?_)
            | (refine wpStoreA row29 (by rfl) (.tmp 6) (.tmp 49) (by rfl) (w.heap.size + 1) 0 (u8s (laidL p 0 n ((s.drop 0).take 48))) (by rfl) (by rfl) (by rw [u8s_len, hl]) (u8s_one _) ((unhide S1).there (by rw [zl]; omega)) ?_))
          have g4 := (unhide S1).put (vs := u8s (laidL p 0 n ((s.drop 0).take 48))) (by rw [zl, u8s_len, hl])
          exact bodyPost_ret (res30 _ _ _ _ rfl (by rw [u8s_len, hl]) g4) rfl ⟨rfl, (unhide SK).setCells _ _ (by omega)⟩

set_option maxHeartbeats 4000000 in
set_option maxRecDepth 100000 in
theorem half13_1 (p n : Int) (s : List Int) (hs : Byts 96 s) (hn : 0 ≤ n ∧ n ≤ 2147483647) (h0 : n ≠ 0) (w : World) : Calls Tryd.prog 30 #[.int .i64 p, aggV (verC n s), .int .i64 1] w fun e w' => e = .returned (aggV (u8s (laidL p 1 n ((s.drop 48).take 48)))) ∧ Kept [] w w' := by
  have hX : Byts 48 ((s.drop 48).take 48) := ⟨by simp [hs.len], fun x hx => hs.byte x (List.mem_of_mem_drop (List.mem_of_mem_take hx))⟩
  have hnz : (n == 0) = false := by simpa using h0
  go_enter Tryd.func30, Tryd.ntmps30
  go_wp2_with (
    first
    | (refine wpBoxA rfl (.tmp 1) rfl (verC n s) rfl ?_)
    | (refine wpAllocV (u8s (zs 64)) zero29 7 rfl rfl rfl ?_
       intro W eW
       have b0 : Blk W w.heap.size 61 (verC n s) := by rw [eW]; exact ((Blk.new' rfl).alloc _).alloc _
       have b1 : Hid (Blk W (w.heap.size + 1) 29 (u8s (zs 64))) := by rw [eW]; exact (Blk.new' (by simp)).alloc _
       have b2 : Blk W (w.heap.size + 1 + 1) 29 (u8s (zs 64)) := by rw [eW]; exact Blk.new' (by simp)
       have hk : Hid (Kept [] w W) := by rw [eW]; exact (((Kept.refl _ _).alloc _).alloc _).alloc _
       have c0 := fits_cell b0 0 (.int .i64 n) rfl
       have d0 := fits_cell b2 0 (.int .u8 0) rfl
       have d1 := fits_cell b2 1 (.int .u8 0) rfl
       have f0 := b2.frozen 0
       have f1 := b2.frozen 1
       have B0 := hide b0
       have B2 := hide b2
       clear eW b0 b2)
    | (refine wpAllocA (u8s (zs 64)) zero29 rfl rfl ?_))
  go_loopw [9, 8] (fun i v wr => ∃ k : Nat, k ≤ 4 ∧ i = .int .i64 (5 - k) ∧ v = .int .i64 (n / 256 ^ k) ∧ Hid (Blk wr w.heap.size 61 (verC n s)) ∧ Hid (Blk wr (w.heap.size + 1) 29 (u8s (zs 64))) ∧ Hid (Blk wr (w.heap.size + 1 + 1) 29 (u8s (putPsn n k (laidBase p 1)))) ∧ Hid (Kept [] w wr)) (fun i _ _ => (intOf i).toNat)
  case atStart =>
    refine ⟨0, by omega, rfl, by simp, ?_, ?_, ?_, ?_⟩
    · exact ((unhide B0).set_other (by omega) _).set_other (by omega) _
    · exact ((unhide b1).set_other (by omega) _).set_other (by omega) _
    · have := ((unhide B2).set (i := 0) (.int .u8 ((161 + 1) % 256))).set (i := 1) (.int .u8 (p % 256))
      rw [u8s_set, u8s_set] at this
      exact this
    · exact ((unhide hk).setCell (by simp; omega) _).setCell (by simp; omega) _
  case round =>
    obtain ⟨k, hk4, rfl, rfl, R0, R1, R2, RK⟩ := hrel
    have hlen : (putPsn n k (laidBase p 1)).length = 64 := by rw [putPsn_len]; simp [laidBase, zs]
    clear c0 d0 d1 f0 f1 B0 b1 B2 hk
    obtain ⟨m, hm⟩ : ∃ m, n / 256 ^ k = m := ⟨_, rfl⟩
    have hp : (0 : Int) < 256 ^ k := Int.pow_pos (by omega)
    have hm0 : 0 ≤ m := by rw [← hm]; exact Int.ediv_nonneg hn.1 (by omega)
    have hm1 : m ≤ 2147483647 := by rw [← hm]; exact Int.le_trans (Int.ediv_le_self _ hn.1) hn.2
    have hnx : Hid (n / 256 ^ (k + 1) = m / 256) := by show _ = _; rw [Int.pow_succ, ← Int.ediv_ediv_of_nonneg (Int.le_of_lt hp), hm]
    have HM := hide hm
    rw [hm]
    clear hm hp
    by_cases hlt : k < 4
    · have e5 : (5 - (k : Int)).toNat = 5 - k := by omega
      have q5 : wr.cell? ⟨w.heap.size + 1 + 1, 5 - k, none⟩ = some (.int .u8 ((putPsn n k (laidBase p 1))[5 - k]'(by omega))) := fits_cell (unhide R2) (5 - k) _ (by simp [u8s])
      have z5 := (unhide R2).frozen (5 - k)
      have t1 : m.tmod 256 = m % 256 := Int.tmod_eq_emod_of_nonneg hm0
      have t2 : m.tdiv 256 = m / 256 := Int.tdiv_eq_ediv_of_nonneg hm0
      go_wp2_with fail
      go_roundw
      case rel =>
        refine ⟨k + 1, by omega, by go_num, by rw [unhide hnx], (unhide R0).set_other (by omega) _, (unhide R1).set_other (by omega) _, ?_, (unhide RK).setCell (by simp; omega) _⟩
        have := (unhide R2).set (i := 5 - k) (.int .u8 (m % 256))
        rw [u8s_set] at this
        unfold putPsn
        rw [unhide HM]
        exact this
      case measure => simp [intOf]; omega
    · obtain rfl : k = 4 := by omega
      rw [put4 p 1 n ((s.drop 48).take 48)] at R2
      clear hlen hnx HM
      go_wp2_with fail
      go_loopw [10] (fun i wr => ∃ j : Nat, j ≤ 48 ∧ i = .int .i64 j ∧ Hid (Blk wr w.heap.size 61 (verC n s)) ∧ Hid (Blk wr (w.heap.size + 1) 29 (u8s (zs 64))) ∧ Hid (Blk wr (w.heap.size + 1 + 1) 29 (u8s (halfJ p 1 n ((s.drop 48).take 48) j))) ∧ Hid (Kept [] w wr)) (fun i _ => 48 - (intOf i).toNat)
      case atStart => exact ⟨0, by omega, rfl, R0, R1, R2, RK⟩
      case round =>
        obtain ⟨j, hj, rfl, S0, S1, S2, SK⟩ := hrel
        have hlj := halfJ_len p 1 n hX.len j hj
        by_cases hlt : j < 48
        · have hxj : ((s.drop 48).take 48)[j]'(by rw [hX.len]; exact hlt) = s[48 + j]'(by rw [hs.len]; omega) := by simp
          obtain ⟨x, ex⟩ : ∃ x, ((s.drop 48).take 48)[j]'(by rw [hX.len]; exact hlt) = x := ⟨_, rfl⟩
          have qx : wr.cell? ⟨w.heap.size, 1 + (48 + j), none⟩ = some (.int .u8 x) := fits_cell (unhide S0) (1 + (48 + j)) _ (by
            rw [show 1 + (48 + j) = 1 + (48 + j) by omega]
            rw [verC, Nat.add_comm 1, List.getElem?_cons_succ]
            simp only [u8s, List.getElem?_map, List.getElem?_eq_getElem (show 48 + j < s.length by rw [hs.len]; omega), Option.map_some]
            rw [← hxj, ex])
          have e6 : ((6 : Int) + (j : Int)).toNat = 6 + j := by omega
          have e7 : ((48 : Int) + (j : Int)).toNat = 48 + j := by omega
          have q6 : wr.cell? ⟨w.heap.size + 1 + 1, 6 + j, none⟩ = some (.int .u8 ((halfJ p 1 n ((s.drop 48).take 48) j)[6 + j]'(by omega))) := fits_cell (unhide S2) (6 + j) _ (by simp [u8s])
          have z6 := (unhide S2).frozen (6 + j)
          have HX := hide ex
          clear hxj ex
          go_wp2_with fail
          go_roundw
          case rel =>
            refine ⟨j + 1, by omega, by go_num, (unhide S0).set_other (by omega) _, (unhide S1).set_other (by omega) _, ?_, (unhide SK).setCell (by simp; omega) _⟩
            have := (unhide S2).set (i := 6 + j) (.int .u8 x)
            have e := halfJ_set p 1 n hX.len j hlt
            rw [unhide HX] at e
            rw [u8s_set, e] at this
            exact this
          case measure => simp [intOf]; omega
        · obtain rfl : j = 48 := by omega
          rw [halfJ_all p 1 n hX.len] at S2
          have hl := (laidL_byts (p := p) (h := 1) (n := n) hX).len
          go_wp2_with (
            first
            | (refine wpLoadA row29 (by rfl) (.tmp 7) (by rfl) (w.heap.size + 1 + 1) 0 (by rfl) (u8s (laidL p 1 n ((s.drop 48).take 48))) (by rw [u8s_len, hl]) (unhide S2).range ?_)
            | (refine wpStoreA row29 (by rfl) (.tmp 6) (.tmp 49) (by rfl) (w.heap.size + 1) 0 (u8s (laidL p 1 n ((s.drop 48).take 48))) (by rfl) (by rfl) (by rw [u8s_len, hl]) (u8s_one _) ((unhide S1).there (by rw [zl]; omega)) ?_))
          have g4 := (unhide S1).put (vs := u8s (laidL p 1 n ((s.drop 48).take 48))) (by rw [zl, u8s_len, hl])
          exact bodyPost_ret (res30 _ _ _ _ rfl (by rw [u8s_len, hl]) g4) rfl ⟨rfl, (unhide SK).setCells _ _ (by omega)⟩

set_option maxHeartbeats 1000000 in
set_option maxRecDepth 100000 in
theorem half13_z (p h : Int) (s : List Int) (w : World) : Calls Tryd.prog 30 #[.int .i64 p, aggV (verC 0 s), .int .i64 h] w fun e w' => e = .returned (aggV (u8s (zs 64))) ∧ Kept [] w w' := by
  go_enter Tryd.func30, Tryd.ntmps30
  go_wp2_with (
    first
    | (refine wpBoxA rfl (.tmp 1) rfl (verC 0 s) rfl ?_)
    | (refine wpAllocV (u8s (zs 64)) zero29 7 rfl rfl rfl ?_
       intro W eW
       have b0 : Blk W w.heap.size 61 (verC 0 s) := by rw [eW]; exact ((Blk.new' rfl).alloc _).alloc _
       have b1 : Hid (Blk W (w.heap.size + 1) 29 (u8s (zs 64))) := by rw [eW]; exact (Blk.new' (by simp)).alloc _
       have b2 : Hid (Blk W (w.heap.size + 1 + 1) 29 (u8s (zs 64))) := by rw [eW]; exact Blk.new' (by simp)
       have hk : Hid (Kept [] w W) := by rw [eW]; exact (((Kept.refl _ _).alloc _).alloc _).alloc _
       have c0 := fits_cell b0 0 (.int .i64 0) rfl
       clear eW b0)
    | (refine wpAllocA (u8s (zs 64)) zero29 rfl rfl ?_)
    | (refine wpLoadA row29 (by rfl) (.tmp 7) (by rfl) (w.heap.size + 1 + 1) 0 (by rfl) (u8s (zs 64)) (zl 64) (unhide b2).range ?_)
    | (refine wpStoreA row29 (by rfl) (.tmp 6) (.tmp 14) (by rfl) (w.heap.size + 1) 0 (u8s (zs 64)) (by rfl) (by rfl) (zl 64) (u8s_one _) ((unhide b1).there (by rw [zl]; omega)) ?_))
  have g4 := (unhide b1).put (vs := u8s (zs 64)) rfl
  exact bodyPost_ret (res30 _ _ _ _ rfl (zl 64) g4) rfl ⟨rfl, (unhide hk).setCells _ _ (by omega)⟩

theorem half_fst (p n : Int) (s : List Int) (hs : Byts 96 s) (hn : 0 ≤ n ∧ n ≤ 2147483647) (w : World) : Calls Tryd.prog 30 #[.int .i64 p, aggV (verC n s), .int .i64 0] w fun e w' => e = .returned (aggV (u8s (fstL p n s))) ∧ Kept [] w w' := by
  unfold fstL
  by_cases h : n = 0
  · subst h
    exact half13_z p 0 s w
  · rw [if_neg h]
    exact half13_0 p n s hs hn h w
theorem half_snd (p n : Int) (s : List Int) (hs : Byts 96 s) (hn : 0 ≤ n ∧ n ≤ 2147483647) (w : World) : Calls Tryd.prog 30 #[.int .i64 p, aggV (verC n s), .int .i64 1] w fun e w' => e = .returned (aggV (u8s (sndL p n s))) ∧ Kept [] w w' := by
  unfold sndL
  by_cases h : n = 0
  · subst h
    exact half13_z p 1 s w
  · rw [if_neg h]
    have := half13_1 p n s hs hn h w
    rw [List.take_of_length_le (by simp [hs.len])] at this
    exact this

end Go.Proofs.YtkpkiibahfdomaaDoor.Pg
