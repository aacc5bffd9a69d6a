/-
  The walk of the document's Said.
-/
import Derived.Test.YtnflcajidgbbbaaDoorHalf
namespace Go.Proofs.YtnflcajidgbbbaaDoor
open Go.RowKit

theorem res28 (w : World) (z : Nat) (vs : List Value) (tmps : Array Value) (h4 : tmps[4]?.getD undef = P0 z) (hl : vs.length = 97) (hb : Blk w z 25 vs) : (results Tryd.f28 tmps).run Tryd.prog w = .ok (aggV vs) w := by
  have := loadV row25 hl hb
  simp [results, Tryd.results28, h4, this, asAddr]

/-- The first j bytes of both halves. -/
def bothJ (x y : List Int) (j : Nat) : List Int := (x.take j ++ zs (48 - j)) ++ (y.take j ++ zs (48 - j))
theorem bothJ_len {x y : List Int} (hx : x.length = 48) (hy : y.length = 48) (j : Nat) (hj : j ≤ 48) : (bothJ x y j).length = 96 := by simp [bothJ, hx, hy, zs]; omega
theorem take_set {x : List Int} (hx : x.length = 48) (j : Nat) (hj : j < 48) : (x.take j ++ zs (48 - j)).set j (x[j]'(by omega)) = x.take (j + 1) ++ zs (48 - (j + 1)) := by
  obtain ⟨k, hk⟩ : ∃ k, 48 - j = k + 1 := ⟨47 - j, by omega⟩
  have hk2 : 48 - (j + 1) = k := by omega
  have ht : (x.take j).length = j := by rw [List.length_take]; omega
  have ht2 : x.take (j + 1) = x.take j ++ [x[j]'(by omega)] := List.take_succ_eq_append_getElem (by omega)
  rw [hk, hk2, ht2, List.set_append_right _ _ (by omega), ht, Nat.sub_self]
  simp only [zs, List.replicate_succ, List.set_cons_zero, List.append_assoc, List.cons_append, List.nil_append]
theorem bothJ_set {x y : List Int} (hx : x.length = 48) (hy : y.length = 48) (j : Nat) (hj : j < 48) : ((bothJ x y j).set j (x[j]'(by omega))).set (48 + j) (y[j]'(by omega)) = bothJ x y (j + 1) := by
  have h1 : (x.take j ++ zs (48 - j)).length = 48 := by simp [hx, zs]; omega
  have h2 : (x.take (j + 1) ++ zs (48 - (j + 1))).length = 48 := by simp [hx, zs]; omega
  unfold bothJ
  rw [List.set_append_left _ _ (by omega), take_set hx j hj, List.set_append_right _ _ (by omega), h2, Nat.add_sub_cancel_left, take_set hy j hj]
theorem bothJ_all {x y : List Int} (hx : x.length = 48) (hy : y.length = 48) : bothJ x y 48 = x ++ y := by
  unfold bothJ
  rw [List.take_of_length_le (by omega), List.take_of_length_le (by omega)]
  simp [zs]
theorem half_get {a : List Int} (ha : Byts 64 a) {j : Nat} (hj : j < 48) : (halfL a)[j]'(by rw [(halfL_byts ha).len]; exact hj) = a[6 + j]'(by rw [ha.len]; omega) := by simp [halfL]

set_option maxHeartbeats 4000000 in
set_option maxRecDepth 100000 in
theorem said28 (a b : List Int) (ha : Byts 64 a) (hb : Byts 64 b) (w : World) : Calls Tryd.prog 28 #[aggV (u8s a), aggV (u8s b)] w fun e w' => e = .returned (aggV (verC (psnL a) (halfL a ++ halfL b))) ∧ Kept [] w w' := by
  have hal := (halfL_byts ha).len
  have hbl := (halfL_byts hb).len
  go_enter Tryd.func28, Tryd.ntmps28
  go_wp2_with (
    first
    | (refine wpBoxA rfl (.tmp 0) rfl (u8s a) rfl ?_)
    | (refine wpBoxA rfl (.tmp 1) rfl (u8s b) rfl ?_)
    | (refine wpAllocV (verC 0 (zs 96)) zero25 5 rfl rfl rfl ?_
       intro W eW
       have b0 : Hid (Blk W w.heap.size 27 (u8s a)) := by rw [eW]; exact (((Blk.new' rfl).alloc _).alloc _).alloc _
       have b1 : Hid (Blk W (w.heap.size + 1) 27 (u8s b)) := by rw [eW]; exact ((Blk.new' (by simp)).alloc _).alloc _
       have b2 : Hid (Blk W (w.heap.size + 1 + 1) 25 (verC 0 (zs 96))) := by rw [eW]; exact (Blk.new' (by simp)).alloc _
       have b3 : Hid (Blk W (w.heap.size + 1 + 1 + 1) 25 (verC 0 (zs 96))) := by rw [eW]; exact Blk.new' (by simp)
       have bk : Hid (Kept [] w W) := by rw [eW]; exact ((((Kept.refl _ _).alloc _).alloc _).alloc _).alloc _
       clear eW)
    | (refine wpAllocA (verC 0 (zs 96)) zero25 rfl rfl ?_))
  go_loopw [6] (fun i wr => ∃ k : Nat, k ≤ 4 ∧ i = .int .i64 (2 + k) ∧ Hid (Blk wr w.heap.size 27 (u8s a)) ∧ Hid (Blk wr (w.heap.size + 1) 27 (u8s b)) ∧ Hid (Blk wr (w.heap.size + 1 + 1) 25 (verC 0 (zs 96))) ∧ Hid (Blk wr (w.heap.size + 1 + 1 + 1) 25 (verC (psnK a k) (zs 96))) ∧ Hid (Kept [] w wr)) (fun i _ => 6 - (intOf i).toNat)
  case atStart => exact ⟨0, by omega, rfl, b0, b1, b2, b3, bk⟩
  case round =>
    obtain ⟨k, hk4, rfl, R0, R1, R2, R3, RK⟩ := hrel
    clear b0 b1 b2 b3 bk
    by_cases hlt : k < 4
    · have hl : 2 + k < a.length := by rw [ha.len]; omega
      have hx := ha.byte a[2 + k] (List.getElem_mem _)
      obtain ⟨c, hc⟩ := Int.eq_ofNat_of_zero_le hx.1
      have e2 : ((2 : Int) + (k : Int)).toNat = 2 + k := by omega
      have q : wr.cell? ⟨w.heap.size, 2 + k, none⟩ = some (.int .u8 c) := fits_cell (unhide R0) (2 + k) _ (by simp [u8s, hl]; exact hc)
      have qn := fits_cell (unhide R3) 0 (.int .i64 (psnK a k)) rfl
      have zn := (unhide R3).frozen 0
      have hlk := psnK_lt ha k (by omega)
      have hp3 : 256 ^ k ≤ 16777216 := by
        have h8 : (256 : Nat) ^ 3 = 16777216 := by decide
        rw [← h8]; exact Nat.pow_le_pow_right (by decide) (by omega)
      have hn : psnK a (k + 1) = psnK a k * 256 + c := by
        rw [psnK]; congr 1; simp [List.getD, hl]; omega
      obtain ⟨N, eN⟩ : ∃ N, psnK a k = N := ⟨_, rfl⟩
      rw [eN] at qn hlk hn
      have hNb : N < 16777216 := by omega
      have w1 : IntKind.i64.wrap ((N : Int) * 256) = (N : Int) * 256 := by rw [IntKind.wrap_i64]; omega
      have w2 : IntKind.i64.wrap ((N : Int) * 256 + (c : Int)) = (N : Int) * 256 + c := by rw [IntKind.wrap_i64]; omega
      have hcb : c < 256 := by omega
      have HN := hide hn
      have R3' := R3
      rw [eN] at R3'
      clear hlk hp3 hn hc hx eN
      go_wp2_with fail
      go_region
      all_goals go_wp2_with fail
      all_goals go_roundw
      case rel =>
        refine ⟨k + 1, by omega, by go_num, (unhide R0).set_other (by omega) _, (unhide R1).set_other (by omega) _, (unhide R2).set_other (by omega) _, ?_, ((unhide RK).setCell (by simp; omega) _).drew⟩
        have := (unhide R3').set (i := 0) (.int .i64 ((N : Int) * 256 + c))
        have e : ((psnK a (k + 1) : Nat) : Int) = (N : Int) * 256 + c := by rw [unhide HN]; omega
        rw [e]
        exact this
      case measure => simp [intOf]; omega
    · obtain rfl : k = 4 := by omega
      go_wp2_with fail
      have R3' : Hid (Blk wr (w.heap.size + 1 + 1 + 1) 25 (verC (psnL a) (zs 96))) := R3
      clear R3
      go_loopw [7] (fun i wr => ∃ j : Nat, j ≤ 48 ∧ i = .int .i64 j ∧ Hid (Blk wr w.heap.size 27 (u8s a)) ∧ Hid (Blk wr (w.heap.size + 1) 27 (u8s b)) ∧ Hid (Blk wr (w.heap.size + 1 + 1) 25 (verC 0 (zs 96))) ∧ Hid (Blk wr (w.heap.size + 1 + 1 + 1) 25 (verC (psnL a) (bothJ (halfL a) (halfL b) j))) ∧ Hid (Kept [] w wr)) (fun i _ => 48 - (intOf i).toNat)
      case atStart => exact ⟨0, by omega, rfl, R0, R1, R2, R3', RK⟩
      case round =>
        obtain ⟨j, hj, rfl, S0, S1, S2, S3, SK⟩ := hrel
        clear R0 R1 R2 R3' RK
        have hJl := bothJ_len hal hbl j hj
        by_cases hlt : j < 48
        · obtain ⟨x, ex⟩ : ∃ x, (halfL a)[j]'(by omega) = x := ⟨_, rfl⟩
          obtain ⟨y, ey⟩ : ∃ y, (halfL b)[j]'(by omega) = y := ⟨_, rfl⟩
          have qx : wr.cell? ⟨w.heap.size, 6 + j, none⟩ = some (.int .u8 x) := fits_cell (unhide S0) (6 + j) _ (by simp [u8s, show 6 + j < a.length by rw [ha.len]; omega]; rw [← half_get ha hlt, ex])
          have qy : wr.cell? ⟨w.heap.size + 1, 6 + j, none⟩ = some (.int .u8 y) := fits_cell (unhide S1) (6 + j) _ (by simp [u8s, show 6 + j < b.length by rw [hb.len]; omega]; rw [← half_get hb hlt, ey])
          have e6 : ((6 : Int) + (j : Int)).toNat = 6 + j := by omega
          have e48 : ((48 : Int) + (j : Int)).toNat = 48 + j := by omega
          have q1 : wr.cell? ⟨w.heap.size + 1 + 1 + 1, 1 + j, none⟩ = some (.int .u8 ((bothJ (halfL a) (halfL b) j)[j]'(by omega))) := fits_cell (unhide S3) (1 + j) _ (by rw [verC, Nat.add_comm 1, List.getElem?_cons_succ]; simp [u8s, show j < (bothJ (halfL a) (halfL b) j).length by omega])
          have q2 : wr.cell? ⟨w.heap.size + 1 + 1 + 1, 1 + (48 + j), none⟩ = some (.int .u8 ((bothJ (halfL a) (halfL b) j)[48 + j]'(by omega))) := fits_cell (unhide S3) (1 + (48 + j)) _ (by rw [verC, Nat.add_comm 1, List.getElem?_cons_succ]; simp [u8s, show 48 + j < (bothJ (halfL a) (halfL b) j).length by omega])
          have z1 := (unhide S3).frozen (1 + j)
          have z2 := (unhide S3).frozen (1 + (48 + j))
          have EX := hide ex
          have EY := hide ey
          clear ex ey
          go_wp2_with fail
          go_region
          all_goals go_wp2_with fail
          all_goals go_roundw
          case rel =>
            refine ⟨j + 1, by omega, by go_num, ((unhide S0).set_other (by omega) _).set_other (by omega) _, ((unhide S1).set_other (by omega) _).set_other (by omega) _, ((unhide S2).set_other (by omega) _).set_other (by omega) _, ?_, (((unhide SK).setCell (by simp; omega) _).setCell (by simp; omega) _).drew⟩
            have := ((unhide S3).set (i := 1 + j) (.int .u8 x)).set (i := 1 + (48 + j)) (.int .u8 y)
            have e : ((verC (psnL a) (bothJ (halfL a) (halfL b) j)).set (1 + j) (.int .u8 x)).set (1 + (48 + j)) (.int .u8 y) = verC (psnL a) (bothJ (halfL a) (halfL b) (j + 1)) := by
              have e1 := bothJ_set hal hbl j hlt
              rw [unhide EX, unhide EY] at e1
              rw [← e1, verC, Nat.add_comm 1 j, Nat.add_comm 1 (48 + j), List.set_cons_succ, List.set_cons_succ, u8s_set, u8s_set]
              rfl
            rw [e] at this
            exact this
          case measure => simp [intOf]; omega
        · obtain rfl : j = 48 := by omega
          rw [bothJ_all hal hbl] at S3
          have hvl : (verC (psnL a) (halfL a ++ halfL b)).length = 97 := verC_len (halves_byts ha hb).len
          clear hJl
          go_wp2_with (
            first
            | (refine wpLoadA row25 (by rfl) (.tmp 5) (by rfl) (w.heap.size + 1 + 1 + 1) 0 (by rfl) (verC (psnL a) (halfL a ++ halfL b)) hvl (unhide S3).range ?_)
            | (refine wpStoreA row25 (by rfl) (.tmp 4) (.tmp 40) (by rfl) (w.heap.size + 1 + 1) 0 (verC (psnL a) (halfL a ++ halfL b)) (by rfl) (by rfl) hvl (verC_one _ _) ((unhide S2).there (by rw [verC_zero]; omega)) ?_))
          have g4 := (unhide S2).put (vs := verC (psnL a) (halfL a ++ halfL b)) (by rw [verC_zero]; exact hvl.symm)
          exact bodyPost_ret (res28 _ _ _ _ rfl hvl g4) rfl ⟨rfl, (unhide SK).setCells _ _ (by omega)⟩

end Go.Proofs.YtnflcajidgbbbaaDoor
