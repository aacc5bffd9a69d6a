/-
  The walk of Put where it lays two sectors.
-/
import Derived.Test.YtkpkiibahfdomaaDoorPgPut
namespace Go.Proofs.YtkpkiibahfdomaaDoor.Pg
open Go.RowKit

set_option maxHeartbeats 4000000 in
set_option maxRecDepth 100000 in
theorem put_yes (p n : Int) (s : List Int) (hs : Byts 96 s) (hp : isPageB p = true) (hv : isVer n s = true) (h0 : n ≠ 0) (w : World) : Calls Tryd.prog 52 #[.int .i64 p, aggV (verC n s)] w fun e w' => e = .returned (.tuple #[aggV (u8s (laidL p 0 n (s.take 48) ++ laidL p 1 n (s.drop 48))), .int .i64 0]) ∧ Kept [] w w' := by
  have hvl : (verC n s).length = 97 := by simp [verC, u8s_len, hs.len]
  have hnz : (n == 0) = false := by simpa using h0
  go_enter Tryd.func52, Tryd.ntmps52
  go_wp2_with (
    first
    | (refine wpBoxA rfl (.tmp 1) rfl (verC n s) rfl ?_)
    | (refine wpAllocV (u8s (zs 128)) zero30 6 rfl rfl rfl ?_
       intro W eW
       have b0 : Hid (Blk W w.heap.size 61 (verC n s)) := by rw [eW]; exact ((Blk.new' rfl).alloc _).alloc _
       have b1 : Hid (Blk W (w.heap.size + 1) 30 (u8s (zs 128))) := by rw [eW]; exact (Blk.new' (by simp)).alloc _
       have b2 : Hid (Blk W (w.heap.size + 1 + 1) 30 (u8s (zs 128))) := by rw [eW]; exact Blk.new' (by simp)
       have hk : Hid (Kept [] w W) := by rw [eW]; exact (((Kept.refl _ _).alloc _).alloc _).alloc _
       have hpg := hide (isPage24 p W)
       have hvr := hide (isVersion25 n s hs.len W)
       rw [hp] at hpg
       rw [hv] at hvr
       clear eW)
    | (refine wpAllocA (u8s (zs 128)) zero30 rfl rfl ?_)
    | (go_at_call 49; refine (unhide hpg).mono ?_; rintro e w1 ⟨rfl, rfl⟩)
    | (refine wpLoadG row61 (.tmp 3) rfl rfl w.heap.size 0 rfl (verC n s) hvl (unhide b0).range ?_)
    | (go_at_call 54
       refine (unhide hvr).mono ?_
       rintro e w2 ⟨rfl, k2⟩
       have c0 : Hid (Blk w2 w.heap.size 61 (verC n s)) := (unhide b0).kept k2 (by simp)
       have c1 : Hid (Blk w2 (w.heap.size + 1) 30 (u8s (zs 128))) := (unhide b1).kept k2 (by simp)
       have c2 : Hid (Blk w2 (w.heap.size + 1 + 1) 30 (u8s (zs 128))) := (unhide b2).kept k2 (by simp)
       have ck : Hid (Kept [] w w2) := (unhide hk).trans k2
       have cn := fits_cell (unhide c0) 0 (.int .i64 n) rfl
       clear b0 b1 b2 hk k2 hvr hpg))
  clear cn
  go_loopw [24] (fun i wr => ∃ k : Nat, k ≤ 2 ∧ i = .int .i64 k ∧ Hid (Blk wr w.heap.size 61 (verC n s)) ∧ Hid (Blk wr (w.heap.size + 1) 30 (u8s (zs 128))) ∧ Hid (Blk wr (w.heap.size + 1 + 1) 30 (u8s (partL p n s k))) ∧ Hid (Kept [] w wr)) (fun i _ => 2 - (intOf i).toNat)
  case atStart => exact ⟨0, by omega, rfl, c0, c1, c2, ck⟩
  case round =>
    obtain ⟨k, hk2, rfl, R0, R1, R2, RK⟩ := hrel
    have hks := (unhide RK).size
    have hcn := fits_cell (unhide R0) 0 (.int .i64 n) rfl
    have hL0 := (laidL_byts (p := p) (h := 0) (n := n) (take48 hs)).len
    have hL1 := (laidL_byts (p := p) (h := 1) (n := n) (drop48 hs)).len
    clear c0 c1 c2 ck
    by_cases hlt : k < 2
    · have hq2 := (unhide R2).lt
      rcases (show k = 0 ∨ k = 1 by omega) with rfl | rfl
      · have hH : Hid ((s.take 48) = ((s.drop 0).take 48)) := by show _ = _; simp
        have hw0 : IntKind.i64.wrap 0 = 0 := by decide
        have hHl : (u8s (s.take 48)).length = 48 := by rw [u8s_len]; exact (take48 hs).len
        go_wp2_with (
          first
          | (refine wpAllocV (u8s (zs 48)) zero84 8 rfl rfl rfl ?_
             intro W eW
             have d0 : Hid (Blk W w.heap.size 61 (verC n s)) := by rw [eW]; exact (unhide R0).alloc _
             have d1 : Hid (Blk W (w.heap.size + 1) 30 (u8s (zs 128))) := by rw [eW]; exact (unhide R1).alloc _
             have d2 : Hid (Blk W (w.heap.size + 1 + 1) 30 (u8s (partL p n s 0))) := by rw [eW]; exact (unhide R2).alloc _
             have d3 : Hid (Blk W wr.heap.size 84 (u8s (zs 48))) := by rw [eW]; exact Blk.new' rfl
             have dk : Hid (Kept [] w W) := by rw [eW]; exact (unhide RK).alloc _
             clear eW R0 R1 R2 RK hcn))
        go_region_law (refine step_copyK rfl (.tmp 27) (.tmp 31) rfl ⟨w.heap.size, 1, none⟩ 48 48 96 96 wr.heap.size 0 rfl rfl (u8s (zs 48)) 84 (unhide d3) (u8s (s.take 48)) hHl (by rw [unhide hH]; exact body_at (k := 0) (unhide d0)) (by rw [zl, hHl]; omega) (u8s_one _) ?_; intro w5 hg5 hk5)
        have e0 : Hid (Blk w5 w.heap.size 61 (verC n s)) := (unhide d0).drew.kept (unhide hk5) (by simp; omega)
        have e1 : Hid (Blk w5 (w.heap.size + 1) 30 (u8s (zs 128))) := (unhide d1).drew.kept (unhide hk5) (by simp; omega)
        have e2 : Hid (Blk w5 (w.heap.size + 1 + 1) 30 (u8s (partL p n s 0))) := (unhide d2).drew.kept (unhide hk5) (by simp; omega)
        have e3 : Hid (Blk w5 wr.heap.size 84 (u8s (s.take 48))) := by
          have := unhide hg5
          rw [splice_all (take48 hs).len] at this
          exact this
        have ek : Hid (Kept [] w w5) := (unhide dk).drew.fresh (unhide hk5) (by intro i hi; simp at hi; omega)
        have ec := fits_cell (unhide e0) 0 (.int .i64 n) rfl
        have hcall := hide (laid26 p 0 n (s.take 48) (take48 hs) (by omega) w5)
        clear hg5 hk5 d0 d1 d2 d3 dk
        go_wp2_with (
          first
          | (refine wpBuildP rfl _ rfl #[(0, .int .i64 p), (1, .int .i64 0), (2, .int .i64 n)] (by simp only [List.map_toArray, List.map_cons, List.map_nil]; rfl) (stC p 0 n) (build63 _ _ _ _) ?_)
          | (refine wpLoadA row84 rfl (.tmp 8) rfl wr.heap.size 0 rfl (u8s (s.take 48)) hHl (unhide e3).range ?_)
          | (go_at_call 44
             refine (unhide hcall).mono ?_
             rintro e w6 ⟨rfl, k6⟩
             have f0 : Hid (Blk w6 w.heap.size 61 (verC n s)) := (unhide e0).kept k6 (by simp)
             have f1 : Hid (Blk w6 (w.heap.size + 1) 30 (u8s (zs 128))) := (unhide e1).kept k6 (by simp)
             have f2 : Hid (Blk w6 (w.heap.size + 1 + 1) 30 (u8s (partL p n s 0))) := (unhide e2).kept k6 (by simp)
             have fk : Hid (Kept [] w w6) := (unhide ek).trans k6
             clear e0 e1 e2 e3 ek ec hcall k6)
          | (refine wpStoreA row29 rfl (.tmp 41) (.tmp 40) rfl (w.heap.size + 1 + 1) 0 (u8s (laidL p 0 n (s.take 48))) rfl rfl (by rw [u8s_len, hL0]) (u8s_one _) ((unhide f2).there (by rw [u8s_len, partL_len p n s hs 0 (by omega)]; omega)) ?_))
        go_roundw
        case rel =>
          refine ⟨1, by omega, by rfl, (unhide f0).other (by omega), (unhide f1).other (by omega), ?_, (unhide fk).setCells _ _ (by omega)⟩
          have := (unhide f2)
          rw [partL_0] at this
          have := Blk.part (pre := []) (mid := u8s (zs 64)) (post := (u8s (zs 64))) (vs := u8s (laidL p 0 n (s.take 48))) (o := 0) (by simpa [u8s_app, zs2] using this) rfl (by rw [zl, u8s_len, hL0])
          rw [partL_1]
          simpa [u8s_app, Hid] using this
        case measure => simp [intOf]
      · have hH : Hid ((s.drop 48) = ((s.drop 48).take 48)) := by show _ = _; rw [List.take_of_length_le (by simp [hs.len])]
        have hw0 : IntKind.i64.wrap 48 = 48 := by decide
        have hHl : (u8s (s.drop 48)).length = 48 := by rw [u8s_len]; exact (drop48 hs).len
        go_wp2_with (
          first
          | (refine wpAllocV (u8s (zs 48)) zero84 8 rfl rfl rfl ?_
             intro W eW
             have d0 : Hid (Blk W w.heap.size 61 (verC n s)) := by rw [eW]; exact (unhide R0).alloc _
             have d1 : Hid (Blk W (w.heap.size + 1) 30 (u8s (zs 128))) := by rw [eW]; exact (unhide R1).alloc _
             have d2 : Hid (Blk W (w.heap.size + 1 + 1) 30 (u8s (partL p n s 1))) := by rw [eW]; exact (unhide R2).alloc _
             have d3 : Hid (Blk W wr.heap.size 84 (u8s (zs 48))) := by rw [eW]; exact Blk.new' rfl
             have dk : Hid (Kept [] w W) := by rw [eW]; exact (unhide RK).alloc _
             clear eW R0 R1 R2 RK hcn))
        go_region_law (refine step_copyK rfl (.tmp 27) (.tmp 31) rfl ⟨w.heap.size, 49, none⟩ 48 48 48 48 wr.heap.size 0 rfl rfl (u8s (zs 48)) 84 (unhide d3) (u8s (s.drop 48)) hHl (by rw [unhide hH]; exact body_at (k := 48) (unhide d0)) (by rw [zl, hHl]; omega) (u8s_one _) ?_; intro w5 hg5 hk5)
        have e0 : Hid (Blk w5 w.heap.size 61 (verC n s)) := (unhide d0).drew.kept (unhide hk5) (by simp; omega)
        have e1 : Hid (Blk w5 (w.heap.size + 1) 30 (u8s (zs 128))) := (unhide d1).drew.kept (unhide hk5) (by simp; omega)
        have e2 : Hid (Blk w5 (w.heap.size + 1 + 1) 30 (u8s (partL p n s 1))) := (unhide d2).drew.kept (unhide hk5) (by simp; omega)
        have e3 : Hid (Blk w5 wr.heap.size 84 (u8s (s.drop 48))) := by
          have := unhide hg5
          rw [splice_all (drop48 hs).len] at this
          exact this
        have ek : Hid (Kept [] w w5) := (unhide dk).drew.fresh (unhide hk5) (by intro i hi; simp at hi; omega)
        have ec := fits_cell (unhide e0) 0 (.int .i64 n) rfl
        have hcall := hide (laid26 p 1 n (s.drop 48) (drop48 hs) (by omega) w5)
        clear hg5 hk5 d0 d1 d2 d3 dk
        go_wp2_with (
          first
          | (refine wpBuildP rfl _ rfl #[(0, .int .i64 p), (1, .int .i64 1), (2, .int .i64 n)] (by simp only [List.map_toArray, List.map_cons, List.map_nil]; rfl) (stC p 1 n) (build63 _ _ _ _) ?_)
          | (refine wpLoadA row84 rfl (.tmp 8) rfl wr.heap.size 0 rfl (u8s (s.drop 48)) hHl (unhide e3).range ?_)
          | (go_at_call 44
             refine (unhide hcall).mono ?_
             rintro e w6 ⟨rfl, k6⟩
             have f0 : Hid (Blk w6 w.heap.size 61 (verC n s)) := (unhide e0).kept k6 (by simp)
             have f1 : Hid (Blk w6 (w.heap.size + 1) 30 (u8s (zs 128))) := (unhide e1).kept k6 (by simp)
             have f2 : Hid (Blk w6 (w.heap.size + 1 + 1) 30 (u8s (partL p n s 1))) := (unhide e2).kept k6 (by simp)
             have fk : Hid (Kept [] w w6) := (unhide ek).trans k6
             clear e0 e1 e2 e3 ek ec hcall k6)
          | (refine wpStoreA row29 rfl (.tmp 41) (.tmp 40) rfl (w.heap.size + 1 + 1) 64 (u8s (laidL p 1 n (s.drop 48))) rfl rfl (by rw [u8s_len, hL1]) (u8s_one _) ((unhide f2).there (by rw [u8s_len, partL_len p n s hs 1 (by omega)]; omega)) ?_))
        go_roundw
        case rel =>
          refine ⟨2, by omega, by rfl, (unhide f0).other (by omega), (unhide f1).other (by omega), ?_, (unhide fk).setCells _ _ (by omega)⟩
          have := (unhide f2)
          rw [partL_1] at this
          have := Blk.part (pre := (u8s (laidL p 0 n (s.take 48)))) (mid := u8s (zs 64)) (post := []) (vs := u8s (laidL p 1 n (s.drop 48))) (o := 64) (by simpa [u8s_app] using this) (by rw [u8s_len, hL0]) (by rw [zl, u8s_len, hL1])
          rw [partL_2]
          simpa [u8s_app, Hid] using this
        case measure => simp [intOf]
    · obtain rfl : k = 2 := by omega
      have hvl2 : (u8s (laidL p 0 n (s.take 48) ++ laidL p 1 n (s.drop 48))).length = 128 := by rw [u8s_len, List.length_append, hL0, hL1]
      rw [partL_2] at R2
      go_wp2_with (
        first
        | (refine wpLoadA row30 rfl (.tmp 6) rfl (w.heap.size + 1 + 1) 0 rfl (u8s (laidL p 0 n (s.take 48) ++ laidL p 1 n (s.drop 48))) hvl2 (unhide R2).range ?_)
        | (refine wpStoreA row30 rfl (.tmp 4) (.tmp 43) rfl (w.heap.size + 1) 0 (u8s (laidL p 0 n (s.take 48) ++ laidL p 1 n (s.drop 48))) rfl rfl hvl2 (u8s_one _) ((unhide R1).there (by rw [zl]; omega)) ?_))
      have g4 := (unhide R1).put (vs := u8s (laidL p 0 n (s.take 48) ++ laidL p 1 n (s.drop 48))) (by rw [zl]; exact hvl2.symm)
      exact bodyPost_ret (res52 _ _ _ _ _ rfl rfl hvl2 g4) rfl ⟨rfl, (unhide RK).setCells _ _ (by omega)⟩

theorem put8 (p n : Int) (s : List Int) (hs : Byts 96 s) (w : World) : Calls Tryd.prog 52 #[.int .i64 p, aggV (verC n s)] w fun e w' => e = .returned (.tuple #[aggV (u8s (putL p n s).1), .int .i64 (putL p n s).2]) ∧ Kept [] w w' := by
  cases hp : isPageB p with
  | false =>
    have e : putL p n s = (zs 128, 2) := by simp [putL, hp]
    rw [e]
    exact put_nopage p n s hs hp w
  | true =>
    cases hv : isVer n s with
    | false =>
      have e : putL p n s = (zs 128, 2) := by simp [putL, hv]
      rw [e]
      exact put_nover p n s hs hp hv w
    | true =>
      by_cases h0 : n = 0
      · subst h0
        have e : putL p 0 s = (zs 128, 0) := by simp [putL, hp, hv]
        rw [e]
        exact put_zero p s hs hp hv w
      · have e : putL p n s = (laidL p 0 n (s.take 48) ++ laidL p 1 n (s.drop 48), 0) := by simp [putL, hp, hv, h0]
        rw [e]
        exact put_yes p n s hs hp hv h0 w

end Go.Proofs.YtkpkiibahfdomaaDoor.Pg
