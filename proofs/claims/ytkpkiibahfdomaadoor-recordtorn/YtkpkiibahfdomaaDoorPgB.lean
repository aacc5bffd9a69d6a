/-
  The walk of Put where it lays two sectors. The walks of Get and Whole. The walks of the law's version, of Whole and of Better; laws for what a function makes anew.
-/
import Derived.Test.YtkpkiibahfdomaaDoorPgA

namespace Go.Proofs.YtkpkiibahfdomaaDoor.Pg
open Go.RowKit

set_option maxHeartbeats 4000000 in
set_option maxRecDepth 100000 in
theorem put_yes (p n : Int) (s : List Int) (hs : Byts 96 s) (hp : isPageB p = true) (hv : isVer n s = true) (h0 : n ≠ 0) (w : World) : Calls Tryd.prog 52 #[.int .i64 p, aggV (verC n s)] w fun e w' => e = .returned (.tuple #[aggV (u8s (laidL p 0 n (s.take 48) ++ laidL p 1 n (s.drop 48))), .int .i64 0]) ∧ Kept [] w w' := by
  have hvl : (verC n s).length = 97 := by simp [verC, u8s_len, hs.len]
  have hnz : (n == 0) = false := by simpa using h0
  go_enter Tryd.func52, Tryd.ntmps52
  go_wp2_with (
    first
    | (refine wpBoxA rfl (.tmp 1) rfl (verC n s) rfl ?_)
    | (refine wpAllocV (u8s (zs 128)) zero30 6 rfl rfl rfl ?_
       intro W eW
       have b0 : Hid (Blk W w.heap.size 61 (verC n s)) := by rw [eW]; exact ((Blk.new' rfl).alloc _).alloc _
       have b1 : Hid (Blk W (w.heap.size + 1) 30 (u8s (zs 128))) := by rw [eW]; exact (Blk.new' (by simp)).alloc _
       have b2 : Hid (Blk W (w.heap.size + 1 + 1) 30 (u8s (zs 128))) := by rw [eW]; exact Blk.new' (by simp)
       have hk : Hid (Kept [] w W) := by rw [eW]; exact (((Kept.refl _ _).alloc _).alloc _).alloc _
       have hpg := hide (isPage24 p W)
       have hvr := hide (isVersion25 n s hs.len W)
       rw [hp] at hpg
       rw [hv] at hvr
       clear eW)
    | (refine wpAllocA (u8s (zs 128)) zero30 rfl rfl ?_)
    | (go_at_call 49; refine (unhide hpg).mono ?_; rintro e w1 ⟨rfl, rfl⟩)
    | (refine wpLoadG row61 (.tmp 3) rfl rfl w.heap.size 0 rfl (verC n s) hvl (unhide b0).range ?_)
    | (go_at_call 54
       refine (unhide hvr).mono ?_
       rintro e w2 ⟨rfl, k2⟩
       have c0 : Hid (Blk w2 w.heap.size 61 (verC n s)) := (unhide b0).kept k2 (by simp)
       have c1 : Hid (Blk w2 (w.heap.size + 1) 30 (u8s (zs 128))) := (unhide b1).kept k2 (by simp)
       have c2 : Hid (Blk w2 (w.heap.size + 1 + 1) 30 (u8s (zs 128))) := (unhide b2).kept k2 (by simp)
       have ck : Hid (Kept [] w w2) := (unhide hk).trans k2
       have cn := fits_cell (unhide c0) 0 (.int .i64 n) rfl
       clear b0 b1 b2 hk k2 hvr hpg))
  clear cn
  go_loopw [24] (fun i wr => ∃ k : Nat, k ≤ 2 ∧ i = .int .i64 k ∧ Hid (Blk wr w.heap.size 61 (verC n s)) ∧ Hid (Blk wr (w.heap.size + 1) 30 (u8s (zs 128))) ∧ Hid (Blk wr (w.heap.size + 1 + 1) 30 (u8s (partL p n s k))) ∧ Hid (Kept [] w wr)) (fun i _ => 2 - (intOf i).toNat)
  case atStart => exact ⟨0, by omega, rfl, c0, c1, c2, ck⟩
  case round =>
    obtain ⟨k, hk2, rfl, R0, R1, R2, RK⟩ := hrel
    have hks := (unhide RK).size
    have hcn := fits_cell (unhide R0) 0 (.int .i64 n) rfl
    have hL0 := (laidL_byts (p := p) (h := 0) (n := n) (take48 hs)).len
    have hL1 := (laidL_byts (p := p) (h := 1) (n := n) (drop48 hs)).len
    clear c0 c1 c2 ck
    by_cases hlt : k < 2
    · have hq2 := (unhide R2).lt
      rcases (show k = 0 ∨ k = 1 by omega) with rfl | rfl
      · have hH : Hid ((s.take 48) = ((s.drop 0).take 48)) := by show _ = _; simp
        have hw0 : IntKind.i64.wrap 0 = 0 := by decide
        have hHl : (u8s (s.take 48)).length = 48 := by rw [u8s_len]; exact (take48 hs).len
        go_wp2_with (
          first
          | (refine wpAllocV (u8s (zs 48)) zero84 8 rfl rfl rfl ?_
             intro W eW
             have d0 : Hid (Blk W w.heap.size 61 (verC n s)) := by rw [eW]; exact (unhide R0).alloc _
             have d1 : Hid (Blk W (w.heap.size + 1) 30 (u8s (zs 128))) := by rw [eW]; exact (unhide R1).alloc _
             have d2 : Hid (Blk W (w.heap.size + 1 + 1) 30 (u8s (partL p n s 0))) := by rw [eW]; exact (unhide R2).alloc _
             have d3 : Hid (Blk W wr.heap.size 84 (u8s (zs 48))) := by rw [eW]; exact Blk.new' rfl
             have dk : Hid (Kept [] w W) := by rw [eW]; exact (unhide RK).alloc _
             clear eW R0 R1 R2 RK hcn))
        go_region_law (refine step_copyK rfl (.tmp 27) (.tmp 31) rfl ⟨w.heap.size, 1, none⟩ 48 48 96 96 wr.heap.size 0 rfl rfl (u8s (zs 48)) 84 (unhide d3) (u8s (s.take 48)) hHl (by rw [unhide hH]; exact body_at (k := 0) (unhide d0)) (by rw [zl, hHl]; omega) (u8s_one _) ?_; intro w5 hg5 hk5)
        have e0 : Hid (Blk w5 w.heap.size 61 (verC n s)) := (unhide d0).drew.kept (unhide hk5) (by simp; omega)
        have e1 : Hid (Blk w5 (w.heap.size + 1) 30 (u8s (zs 128))) := (unhide d1).drew.kept (unhide hk5) (by simp; omega)
        have e2 : Hid (Blk w5 (w.heap.size + 1 + 1) 30 (u8s (partL p n s 0))) := (unhide d2).drew.kept (unhide hk5) (by simp; omega)
        have e3 : Hid (Blk w5 wr.heap.size 84 (u8s (s.take 48))) := by
          have := unhide hg5
          rw [splice_all (take48 hs).len] at this
          exact this
        have ek : Hid (Kept [] w w5) := (unhide dk).drew.fresh (unhide hk5) (by intro i hi; simp at hi; omega)
        have ec := fits_cell (unhide e0) 0 (.int .i64 n) rfl
        have hcall := hide (laid26 p 0 n (s.take 48) (take48 hs) (by omega) w5)
        clear hg5 hk5 d0 d1 d2 d3 dk
        go_wp2_with (
          first
          | (refine wpBuildP rfl _ rfl #[(0, .int .i64 p), (1, .int .i64 0), (2, .int .i64 n)] (by simp only [List.map_toArray, List.map_cons, List.map_nil]; rfl) (stC p 0 n) (build63 _ _ _ _) ?_)
          | (refine wpLoadA row84 rfl (.tmp 8) rfl wr.heap.size 0 rfl (u8s (s.take 48)) hHl (unhide e3).range ?_)
          | (go_at_call 44
             refine (unhide hcall).mono ?_
             rintro e w6 ⟨rfl, k6⟩
             have f0 : Hid (Blk w6 w.heap.size 61 (verC n s)) := (unhide e0).kept k6 (by simp)
             have f1 : Hid (Blk w6 (w.heap.size + 1) 30 (u8s (zs 128))) := (unhide e1).kept k6 (by simp)
             have f2 : Hid (Blk w6 (w.heap.size + 1 + 1) 30 (u8s (partL p n s 0))) := (unhide e2).kept k6 (by simp)
             have fk : Hid (Kept [] w w6) := (unhide ek).trans k6
             clear e0 e1 e2 e3 ek ec hcall k6)
          | (refine wpStoreA row29 rfl (.tmp 41) (.tmp 40) rfl (w.heap.size + 1 + 1) 0 (u8s (laidL p 0 n (s.take 48))) rfl rfl (by rw [u8s_len, hL0]) (u8s_one _) ((unhide f2).there (by rw [u8s_len, partL_len p n s hs 0 (by omega)]; omega)) ?_))
        go_roundw
        case rel =>
          refine ⟨1, by omega, by rfl, (unhide f0).other (by omega), (unhide f1).other (by omega), ?_, (unhide fk).setCells _ _ (by omega)⟩
          have := (unhide f2)
          rw [partL_0] at this
          have := Blk.part (pre := []) (mid := u8s (zs 64)) (post := (u8s (zs 64))) (vs := u8s (laidL p 0 n (s.take 48))) (o := 0) (by simpa [u8s_app, zs2] using this) rfl (by rw [zl, u8s_len, hL0])
          rw [partL_1]
          simpa [u8s_app, Hid] using this
        case measure => simp [intOf]
      · have hH : Hid ((s.drop 48) = ((s.drop 48).take 48)) := by show _ = _; rw [List.take_of_length_le (by simp [hs.len])]
        have hw0 : IntKind.i64.wrap 48 = 48 := by decide
        have hHl : (u8s (s.drop 48)).length = 48 := by rw [u8s_len]; exact (drop48 hs).len
        go_wp2_with (
          first
          | (refine wpAllocV (u8s (zs 48)) zero84 8 rfl rfl rfl ?_
             intro W eW
             have d0 : Hid (Blk W w.heap.size 61 (verC n s)) := by rw [eW]; exact (unhide R0).alloc _
             have d1 : Hid (Blk W (w.heap.size + 1) 30 (u8s (zs 128))) := by rw [eW]; exact (unhide R1).alloc _
             have d2 : Hid (Blk W (w.heap.size + 1 + 1) 30 (u8s (partL p n s 1))) := by rw [eW]; exact (unhide R2).alloc _
             have d3 : Hid (Blk W wr.heap.size 84 (u8s (zs 48))) := by rw [eW]; exact Blk.new' rfl
             have dk : Hid (Kept [] w W) := by rw [eW]; exact (unhide RK).alloc _
             clear eW R0 R1 R2 RK hcn))
        go_region_law (refine step_copyK rfl (.tmp 27) (.tmp 31) rfl ⟨w.heap.size, 49, none⟩ 48 48 48 48 wr.heap.size 0 rfl rfl (u8s (zs 48)) 84 (unhide d3) (u8s (s.drop 48)) hHl (by rw [unhide hH]; exact body_at (k := 48) (unhide d0)) (by rw [zl, hHl]; omega) (u8s_one _) ?_; intro w5 hg5 hk5)
        have e0 : Hid (Blk w5 w.heap.size 61 (verC n s)) := (unhide d0).drew.kept (unhide hk5) (by simp; omega)
        have e1 : Hid (Blk w5 (w.heap.size + 1) 30 (u8s (zs 128))) := (unhide d1).drew.kept (unhide hk5) (by simp; omega)
        have e2 : Hid (Blk w5 (w.heap.size + 1 + 1) 30 (u8s (partL p n s 1))) := (unhide d2).drew.kept (unhide hk5) (by simp; omega)
        have e3 : Hid (Blk w5 wr.heap.size 84 (u8s (s.drop 48))) := by
          have := unhide hg5
          rw [splice_all (drop48 hs).len] at this
          exact this
        have ek : Hid (Kept [] w w5) := (unhide dk).drew.fresh (unhide hk5) (by intro i hi; simp at hi; omega)
        have ec := fits_cell (unhide e0) 0 (.int .i64 n) rfl
        have hcall := hide (laid26 p 1 n (s.drop 48) (drop48 hs) (by omega) w5)
        clear hg5 hk5 d0 d1 d2 d3 dk
        go_wp2_with (
          first
          | (refine wpBuildP rfl _ rfl #[(0, .int .i64 p), (1, .int .i64 1), (2, .int .i64 n)] (by simp only [List.map_toArray, List.map_cons, List.map_nil]; rfl) (stC p 1 n) (build63 _ _ _ _) ?_)
          | (refine wpLoadA row84 rfl (.tmp 8) rfl wr.heap.size 0 rfl (u8s (s.drop 48)) hHl (unhide e3).range ?_)
          | (go_at_call 44
             refine (unhide hcall).mono ?_
             rintro e w6 ⟨rfl, k6⟩
             have f0 : Hid (Blk w6 w.heap.size 61 (verC n s)) := (unhide e0).kept k6 (by simp)
             have f1 : Hid (Blk w6 (w.heap.size + 1) 30 (u8s (zs 128))) := (unhide e1).kept k6 (by simp)
             have f2 : Hid (Blk w6 (w.heap.size + 1 + 1) 30 (u8s (partL p n s 1))) := (unhide e2).kept k6 (by simp)
             have fk : Hid (Kept [] w w6) := (unhide ek).trans k6
             clear e0 e1 e2 e3 ek ec hcall k6)
          | (refine wpStoreA row29 rfl (.tmp 41) (.tmp 40) rfl (w.heap.size + 1 + 1) 64 (u8s (laidL p 1 n (s.drop 48))) rfl rfl (by rw [u8s_len, hL1]) (u8s_one _) ((unhide f2).there (by rw [u8s_len, partL_len p n s hs 1 (by omega)]; omega)) ?_))
        go_roundw
        case rel =>
          refine ⟨2, by omega, by rfl, (unhide f0).other (by omega), (unhide f1).other (by omega), ?_, (unhide fk).setCells _ _ (by omega)⟩
          have := (unhide f2)
          rw [partL_1] at this
          have := Blk.part (pre := (u8s (laidL p 0 n (s.take 48)))) (mid := u8s (zs 64)) (post := []) (vs := u8s (laidL p 1 n (s.drop 48))) (o := 64) (by simpa [u8s_app] using this) (by rw [u8s_len, hL0]) (by rw [zl, u8s_len, hL1])
          rw [partL_2]
          simpa [u8s_app, Hid] using this
        case measure => simp [intOf]
    · obtain rfl : k = 2 := by omega
      have hvl2 : (u8s (laidL p 0 n (s.take 48) ++ laidL p 1 n (s.drop 48))).length = 128 := by rw [u8s_len, List.length_append, hL0, hL1]
      rw [partL_2] at R2
      go_wp2_with (
        first
        | (refine wpLoadA row30 rfl (.tmp 6) rfl (w.heap.size + 1 + 1) 0 rfl (u8s (laidL p 0 n (s.take 48) ++ laidL p 1 n (s.drop 48))) hvl2 (unhide R2).range ?_)
        | (refine wpStoreA row30 rfl (.tmp 4) (.tmp 43) rfl (w.heap.size + 1) 0 (u8s (laidL p 0 n (s.take 48) ++ laidL p 1 n (s.drop 48))) rfl rfl hvl2 (u8s_one _) ((unhide R1).there (by rw [zl]; omega)) ?_))
      have g4 := (unhide R1).put (vs := u8s (laidL p 0 n (s.take 48) ++ laidL p 1 n (s.drop 48))) (by rw [zl]; exact hvl2.symm)
      exact bodyPost_ret (res52 _ _ _ _ _ rfl rfl hvl2 g4) rfl ⟨rfl, (unhide RK).setCells _ _ (by omega)⟩

theorem put8 (p n : Int) (s : List Int) (hs : Byts 96 s) (w : World) : Calls Tryd.prog 52 #[.int .i64 p, aggV (verC n s)] w fun e w' => e = .returned (.tuple #[aggV (u8s (putL p n s).1), .int .i64 (putL p n s).2]) ∧ Kept [] w w' := by
  cases hp : isPageB p with
  | false =>
    have e : putL p n s = (zs 128, 2) := by simp [putL, hp]
    rw [e]
    exact put_nopage p n s hs hp w
  | true =>
    cases hv : isVer n s with
    | false =>
      have e : putL p n s = (zs 128, 2) := by simp [putL, hv]
      rw [e]
      exact put_nover p n s hs hp hv w
    | true =>
      by_cases h0 : n = 0
      · subst h0
        have e : putL p 0 s = (zs 128, 0) := by simp [putL, hp, hv]
        rw [e]
        exact put_zero p s hs hp hv w
      · have e : putL p n s = (laidL p 0 n (s.take 48) ++ laidL p 1 n (s.drop 48), 0) := by simp [putL, hp, hv, h0]
        rw [e]
        exact put_yes p n s hs hp hv h0 w

end Go.Proofs.YtkpkiibahfdomaaDoor.Pg

namespace Go.Proofs.YtkpkiibahfdomaaDoor.Pg
open Go.RowKit

theorem fold_sets (off : Nat) : ∀ (vs pre mid post : List Value) (k : Nat), mid.length = vs.length → pre.length = off + k →
    (vs.zipIdx k).foldl (fun (cs : Array Value) (x : Value × Nat) => cs.setIfInBounds (off + x.2) x.1) (pre ++ mid ++ post).toArray = (pre ++ vs ++ post).toArray := by
  intro vs
  induction vs with
  | nil =>
    intro pre mid post k hm _
    obtain rfl : mid = [] := List.eq_nil_of_length_eq_zero hm
    rfl
  | cons v vs ih =>
    intro pre mid post k hm hp
    cases mid with
    | nil => simp at hm
    | cons m mid =>
      rw [List.zipIdx_cons, List.foldl_cons]
      have h1 : ((pre ++ m :: mid ++ post).toArray).setIfInBounds (off + k) v = ((pre ++ [v]) ++ mid ++ post).toArray := by
        rw [← hp]; simp [List.setIfInBounds_toArray]
      simp only []
      rw [h1, ih (pre ++ [v]) mid post (k + 1) (by simpa using hm) (by simp [hp]; omega)]
      simp

theorem fill_one (place : Nat → Option (Nat × Nat)) (i off n : Nat) (hp : place i = some (off, n)) (pre mid post vs : List Value) (rest : List (Nat × Value)) (hv : vs.length = n) (hm : mid.length = n) (ho : pre.length = off) :
    Instr.fill place (pre ++ mid ++ post).toArray ((i, aggV vs) :: rest) = Instr.fill place (pre ++ vs ++ post).toArray rest := by
  simp only [Instr.fill, hp]
  have hc : (aggV vs).cells = vs.toArray := rfl
  rw [hc]
  have hz : (vs.toArray.size ≠ n || off + vs.toArray.size > (pre ++ mid ++ post).toArray.size) = false := by
    simp [hv, hm, ho]
  rw [hz]
  simp only [Bool.false_eq_true, if_false]
  congr 1
  rw [← Array.foldl_toList]
  have h := fold_sets off vs pre mid post 0 (by omega) (by omega)
  have e : vs.toArray.zipIdx.toList = vs.zipIdx 0 := by simp
  rw [e, h]

theorem zeroVal30 (w : World) : (zeroValue 30).run Tryd.prog w = .ok (aggV (u8s (zs 128))) w := by kernel_rfl
theorem build30p (w : World) (a b : List Int) (ha : a.length = 64) (hb : b.length = 64) : (Instr.build 30 #[(0, aggV (u8s a)), (1, aggV (u8s b))]).run Tryd.prog w = .ok (aggV (u8s (a ++ b))) w := by
  have hi : ∃ i, Tryd.prog.info? 29 = some i ∧ i.size = 64 := by
    obtain ⟨_, _, _, h3⟩ := row29
    cases hq : Tryd.prog.info? 29 with
    | none => simp [hq] at h3
    | some i => exact ⟨i, rfl, by simpa [hq] using h3⟩
  obtain ⟨i0, hi, hi2⟩ := hi
  have hc : (aggV (u8s (zs 128))).cells = ([] ++ u8s (zs 64) ++ u8s (zs 64)).toArray := by
    show (u8s (zs 128)).toArray = _
    rw [zs2, u8s_app, List.nil_append]
  have f1 : ∀ place : Nat → Option (Nat × Nat), place 0 = some (0, 64) → place 1 = some (64, 64) → Instr.fill place ([] ++ u8s (zs 64) ++ u8s (zs 64)).toArray [(0, aggV (u8s a)), (1, aggV (u8s b))] = some (u8s (a ++ b)).toArray := by
    intro place p0 p1
    rw [fill_one place 0 0 64 p0 [] (u8s (zs 64)) (u8s (zs 64)) (u8s a) _ (by rw [u8s_len, ha]) (zl 64) rfl]
    have := fill_one place 1 64 64 p1 (u8s a) (u8s (zs 64)) [] (u8s b) [] (by rw [u8s_len, hb]) (zl 64) (by rw [u8s_len, ha])
    rw [List.append_nil, List.append_nil] at this
    rw [List.nil_append, this, u8s_app]
    rfl
  simp only [Instr.build, Sem.run_bind, zeroVal30, Result.andThen_ok, run_underlying Tryd.underlying30, hc]
  simp [sizeOf, typeInfo, hi, hi2]
  have := f1 (fun i => some (i * 64, 64)) rfl rfl
  rw [List.nil_append] at this
  rw [this]
  rfl

/-- What Get tells. -/
def getL (p : Int) (a b : List Int) : (Int × List Int) × Int :=
  if isPageB p = false then ((0, zs 96), 2)
  else if (putL p (psnL a) (halfL a ++ halfL b)).2 ≠ 0 ∨ (putL p (psnL a) (halfL a ++ halfL b)).1 ≠ a ++ b then ((0, zs 96), 12)
  else ((psnL a, halfL a ++ halfL b), 0)
theorem halves_byts {a b : List Int} (ha : Byts 64 a) (hb : Byts 64 b) : Byts 96 (halfL a ++ halfL b) := by
  have h1 := halfL_byts ha
  have h2 := halfL_byts hb
  refine ⟨by rw [List.length_append, h1.len, h2.len], fun x hx => ?_⟩
  rcases List.mem_append.1 hx with h | h
  · exact h1.byte x h
  · exact h2.byte x h
theorem getL_byts {p : Int} {a b : List Int} (ha : Byts 64 a) (hb : Byts 64 b) : Byts 96 (getL p a b).1.2 := by
  unfold getL
  split
  · exact zs_byts 96
  · split
    · exact zs_byts 96
    · exact halves_byts ha hb

theorem cut_eq {l a b : List Int} (hl : l.length = 128) (ha : a.length = 64) (hb : b.length = 64) : (decide (l.take 64 = a) && decide (l.drop 64 = b)) = decide (l = a ++ b) := by
  rw [Bool.eq_iff_iff]
  simp only [Bool.and_eq_true, decide_eq_true_eq]
  constructor
  · rintro ⟨rfl, rfl⟩
    rw [List.take_append_drop]
  · rintro rfl
    exact ⟨by rw [List.take_append_of_le_length (by omega), List.take_of_length_le (by omega)], by rw [List.drop_append_of_le_length (by omega), List.drop_eq_nil_of_le (by omega), List.nil_append]⟩
theorem equal30' (W : World) (l a b : List Int) (hl : l.length = 128) (ha : a.length = 64) (hb : b.length = 64) : (Op.equal 30 (aggV (u8s l)) (aggV (u8s (a ++ b)))).run Tryd.prog W = .ok (decide (l = a ++ b)) W := by
  have := equal30 W (l.take 64) (l.drop 64) a b (by simp [hl]) (by simp [hl]) ha hb
  rw [List.take_append_drop, cut_eq hl ha hb] at this
  exact this

theorem res46 (w : World) (z : Nat) (vs : List Value) (e : Int) (tmps : Array Value) (h4 : tmps[6]?.getD undef = P0 z) (h5 : tmps[7]?.getD undef = .int .i64 e) (hl : vs.length = 97) (hb : Blk w z 61 vs) : (results Tryd.f46 tmps).run Tryd.prog w = .ok (.tuple #[aggV vs, .int .i64 e]) w := by
  have := loadV row61 hl hb
  simp [results, Tryd.results46, h4, h5, this, asAddr]

section
variable {ops : Array Oper} {rest : List Oper} {op : Oper} {a : Act} {w : World} {Q : Exit → Act → World → Prop}
theorem wpBuildG {T : Nat} (parts : Array (Nat × Operand)) (ho : op.op = .build T parts) (hw : Region.wanted op (yielded ops a.tmps) = true) (ps : Array (Nat × Value)) (hp : (parts.map fun (i, x) => (i, a.eval x)) = ps) (vs : List Value)
    (hr : (Instr.build T ps).run Tryd.prog w = .ok (aggV vs) w) (h : wpList Tryd.prog ops Q rest (a.put op.dst (aggV vs)) w) : wpList Tryd.prog ops Q (op :: rest) a w :=
  BigFrame.wpList_want hw fun K hK => by
    subst hp
    unfold Oper.wp execOp
    simp only [ho, Sem.run_bind, hr, Result.andThen_ok]
    exact hK _ _ h
theorem wpNeqG (T r : Nat) (hG : Tryd.prog.eqGuardType Tryd.prog.depth T = false) (x y : Operand) (ho : op.op = .binOp .neq T x y r) (hw : Region.wanted op (yielded ops a.tmps) = true) (vs us : List Value) (hx : a.eval x = aggV vs) (hy : a.eval y = aggV us) (c : Bool)
    (he : (Op.equal T (aggV vs) (aggV us)).run Tryd.prog w = .ok c w)
    (h : wpList Tryd.prog ops Q rest (a.put op.dst (.bool (!c))) w) : wpList Tryd.prog ops Q (op :: rest) a w :=
  BigFrame.wpList_want hw fun K hK => by
    unfold Oper.wp execOp
    simp only [aggV] at he hx hy
    have hg : (eqGuard .neq T x y (.agg vs.toArray) (.agg us.toArray)).run Tryd.prog w = .ok () w := by simp [eqGuard, Sem.run_bind, hG]
    have hb : (binOp BinOp.neq T (.agg vs.toArray) (.agg us.toArray)).run Tryd.prog w = .ok (.bool (!c)) w := by simp only [binOp, Sem.run_bind, he, Result.andThen_ok, Sem.run_pure]
    simp only [ho, hx, hy, Sem.run_bind, hg, hb, Result.andThen_ok]
    exact hK _ _ h
theorem wpEqlG (T r : Nat) (hG : Tryd.prog.eqGuardType Tryd.prog.depth T = false) (x y : Operand) (ho : op.op = .binOp .eql T x y r) (hw : Region.wanted op (yielded ops a.tmps) = true) (vs us : List Value) (hx : a.eval x = aggV vs) (hy : a.eval y = aggV us) (c : Bool)
    (he : (Op.equal T (aggV vs) (aggV us)).run Tryd.prog w = .ok c w)
    (h : wpList Tryd.prog ops Q rest (a.put op.dst (.bool c)) w) : wpList Tryd.prog ops Q (op :: rest) a w :=
  BigFrame.wpList_want hw fun K hK => by
    unfold Oper.wp execOp
    simp only [aggV] at he hx hy
    have hg : (eqGuard .eql T x y (.agg vs.toArray) (.agg us.toArray)).run Tryd.prog w = .ok () w := by simp [eqGuard, Sem.run_bind, hG]
    have hb : (binOp BinOp.eql T (.agg vs.toArray) (.agg us.toArray)).run Tryd.prog w = .ok (.bool c) w := by simp only [binOp, Sem.run_bind, he, Result.andThen_ok, Sem.run_pure]
    simp only [ho, hx, hy, Sem.run_bind, hg, hb, Result.andThen_ok]
    exact hK _ _ h
end

theorem verC_zero : (verC 0 (zs 96)).length = 97 := by simp [verC, u8s_len, zs]

set_option maxHeartbeats 2000000 in
set_option maxRecDepth 100000 in
theorem get_nopage (p : Int) (a b : List Int) (ha : Byts 64 a) (hb : Byts 64 b) (hp : isPageB p = false) (w : World) : Calls Tryd.prog 46 #[.int .i64 p, aggV (u8s a), aggV (u8s b)] w fun e w' => e = .returned (.tuple #[aggV (verC 0 (zs 96)), .int .i64 2]) ∧ Kept [] w w' := by
  have hau : (u8s a).length = 64 := by rw [u8s_len, ha.len]
  have hbu : (u8s b).length = 64 := by rw [u8s_len, hb.len]
  go_enter Tryd.func46, Tryd.ntmps46
  go_wp2_with (
    first
    | (refine wpBoxA rfl (.tmp 1) rfl (u8s a) rfl ?_)
    | (refine wpBoxA rfl (.tmp 2) rfl (u8s b) rfl ?_)
    | (refine wpAllocV (verC 0 (zs 96)) zero61 6 rfl rfl rfl ?_
       intro W eW
       have b0 : Hid (Blk W w.heap.size 29 (u8s a)) := by rw [eW]; exact ((Blk.new' rfl).alloc _).alloc _
       have b1 : Hid (Blk W (w.heap.size + 1) 29 (u8s b)) := by rw [eW]; exact (Blk.new' (by simp)).alloc _
       have b2 : Hid (Blk W (w.heap.size + 1 + 1) 61 (verC 0 (zs 96))) := by rw [eW]; exact Blk.new' (by simp)
       have hk : Hid (Kept [] w W) := by rw [eW]; exact (((Kept.refl _ _).alloc _).alloc _).alloc _
       have hWs : W.heap.size = w.heap.size + 1 + 1 + 1 := by rw [eW]; simp
       have hpg := hide (isPage24 p W)
       have hbt := hide (between27 a b ha hb W)
       rw [hp] at hpg
       clear eW)
    | (go_at_call 49; refine (unhide hpg).mono ?_; rintro e w1 ⟨rfl, rfl⟩)
    | (refine wpBuildZ (verC 0 (zs 96)) build61 rfl rfl ?_)
    | (refine wpStoreA row61 rfl (.tmp 6) (.tmp 14) rfl (w.heap.size + 1 + 1) 0 (verC 0 (zs 96)) rfl rfl verC_zero (verC_one _ _) ((unhide b2).there (by rw [verC_zero]; omega)) ?_))
  have g4 := (unhide b2).put (vs := verC 0 (zs 96)) (by rw [verC_zero])
  exact bodyPost_ret (res46 _ _ _ _ _ rfl rfl verC_zero g4) rfl ⟨rfl, (unhide hk).setCells _ _ (by omega)⟩

set_option maxHeartbeats 2000000 in
set_option maxRecDepth 100000 in
theorem get_bad1 (p : Int) (a b : List Int) (ha : Byts 64 a) (hb : Byts 64 b) (hp : isPageB p = true) (hno : (putL p (psnL a) (halfL a ++ halfL b)).2 ≠ 0) (w : World) : Calls Tryd.prog 46 #[.int .i64 p, aggV (u8s a), aggV (u8s b)] w fun e w' => e = .returned (.tuple #[aggV (verC 0 (zs 96)), .int .i64 12]) ∧ Kept [] w w' := by
  have hau : (u8s a).length = 64 := by rw [u8s_len, ha.len]
  have hbu : (u8s b).length = 64 := by rw [u8s_len, hb.len]
  have hvl : (verC (psnL a) (halfL a ++ halfL b)).length = 97 := verC_len (halves_byts ha hb).len
  have hLl : (putL p (psnL a) (halfL a ++ halfL b)).1.length = 128 := (putL_byts (halves_byts ha hb)).len
  obtain ⟨L, hL⟩ : ∃ L, (putL p (psnL a) (halfL a ++ halfL b)).1 = L := ⟨_, rfl⟩
  obtain ⟨c, hc⟩ : ∃ c, (putL p (psnL a) (halfL a ++ halfL b)).2 = c := ⟨_, rfl⟩
  have hE : putL p (psnL a) (halfL a ++ halfL b) = (L, c) := by rw [← hL, ← hc]
  rw [hL] at hLl
  rw [hc] at hno
  have hLu : (u8s L).length = 128 := by rw [u8s_len, hLl]
  clear hL hc
  have HE := hide hE
  clear hE
  have hcb : (c == 0) = false := by simpa using hno
  have hcb2 : (c != 0) = true := by simpa using hno
  go_enter Tryd.func46, Tryd.ntmps46
  go_wp2_with (
    first
    | (refine wpBoxA rfl (.tmp 1) rfl (u8s a) rfl ?_)
    | (refine wpBoxA rfl (.tmp 2) rfl (u8s b) rfl ?_)
    | (refine wpAllocV (verC 0 (zs 96)) zero61 6 rfl rfl rfl ?_
       intro W eW
       have b0 : Hid (Blk W w.heap.size 29 (u8s a)) := by rw [eW]; exact ((Blk.new' rfl).alloc _).alloc _
       have b1 : Hid (Blk W (w.heap.size + 1) 29 (u8s b)) := by rw [eW]; exact (Blk.new' (by simp)).alloc _
       have b2 : Hid (Blk W (w.heap.size + 1 + 1) 61 (verC 0 (zs 96))) := by rw [eW]; exact Blk.new' (by simp)
       have hk : Hid (Kept [] w W) := by rw [eW]; exact (((Kept.refl _ _).alloc _).alloc _).alloc _
       have hWs : W.heap.size = w.heap.size + 1 + 1 + 1 := by rw [eW]; simp
       have hpg := hide (isPage24 p W)
       have hbt := hide (between27 a b ha hb W)
       rw [hp] at hpg
       clear eW)
    | (go_at_call 49; refine (unhide hpg).mono ?_; rintro e w1 ⟨rfl, rfl⟩)
    | (refine wpLoadA row29 rfl (.tmp 4) rfl w.heap.size 0 rfl (u8s a) hau (unhide b0).range ?_)
    | (refine wpLoadA row29 rfl (.tmp 5) rfl (w.heap.size + 1) 0 rfl (u8s b) hbu (unhide b1).range ?_)
    | (go_at_call 51
       refine (unhide hbt).mono ?_
       rintro e w2 ⟨rfl, k2⟩)
    | (refine wpAllocV (verC 0 (zs 96)) zero61 8 rfl rfl rfl ?_
       intro W3 eW3
       have c0 : Hid (Blk W3 w.heap.size 29 (u8s a)) := by rw [eW3]; exact ((unhide b0).kept k2 (by simp)).alloc _
       have c1 : Hid (Blk W3 (w.heap.size + 1) 29 (u8s b)) := by rw [eW3]; exact ((unhide b1).kept k2 (by simp)).alloc _
       have c2 : Hid (Blk W3 (w.heap.size + 1 + 1) 61 (verC 0 (zs 96))) := by rw [eW3]; exact ((unhide b2).kept k2 (by simp)).alloc _
       have c3 : Hid (Blk W3 w2.heap.size 61 (verC 0 (zs 96))) := by rw [eW3]; exact Blk.new' rfl
       have ck : Hid (Kept [] w W3) := by rw [eW3]; exact ((unhide hk).trans k2).alloc _
       have hs2 : w.heap.size + 1 + 1 < w2.heap.size := ((unhide b2).kept k2 (by simp)).lt
       clear eW3 b0 b1 b2 hk k2 hbt hpg)
    | (refine wpStoreA row61 rfl (.tmp 8) (.tmp 17) rfl w2.heap.size 0 (verC (psnL a) (halfL a ++ halfL b)) rfl rfl hvl (verC_one _ _) ((unhide c3).there (by rw [verC_zero]; omega)) ?_
       have d0 := hide ((unhide c0).other (o := 0) (vs := verC (psnL a) (halfL a ++ halfL b)) (show w.heap.size ≠ w2.heap.size by omega))
       have d1 := hide ((unhide c1).other (o := 0) (vs := verC (psnL a) (halfL a ++ halfL b)) (show w.heap.size + 1 ≠ w2.heap.size by omega))
       have d2 := hide ((unhide c2).other (o := 0) (vs := verC (psnL a) (halfL a ++ halfL b)) (show w.heap.size + 1 + 1 ≠ w2.heap.size by omega))
       have d3 := hide ((unhide c3).put (vs := verC (psnL a) (halfL a ++ halfL b)) (by rw [verC_zero]; exact hvl.symm))
       have dk := hide ((unhide ck).setCells (b := w2.heap.size) (verC (psnL a) (halfL a ++ halfL b)) 0 (by omega))
       clear c0 c1 c2 c3 ck)
    | (refine wpLoadA row61 rfl (.tmp 8) rfl w2.heap.size 0 rfl (verC (psnL a) (halfL a ++ halfL b)) hvl (unhide d3).range ?_)
    | (go_at_call 52
       refine (put8 p (psnL a) (halfL a ++ halfL b) (halves_byts ha hb) _).mono ?_
       rintro e w4 ⟨rfl, k4⟩
       rw [unhide HE])
    | (refine wpAllocV (u8s (zs 128)) zero30 9 rfl rfl rfl ?_
       intro W5 eW5
       have e0 : Hid (Blk W5 w.heap.size 29 (u8s a)) := by rw [eW5]; exact ((unhide d0).kept k4 (by simp)).alloc _
       have e1 : Hid (Blk W5 (w.heap.size + 1) 29 (u8s b)) := by rw [eW5]; exact ((unhide d1).kept k4 (by simp)).alloc _
       have e2 : Hid (Blk W5 (w.heap.size + 1 + 1) 61 (verC 0 (zs 96))) := by rw [eW5]; exact ((unhide d2).kept k4 (by simp)).alloc _
       have e3 : Hid (Blk W5 w2.heap.size 61 (verC (psnL a) (halfL a ++ halfL b))) := by rw [eW5]; exact ((unhide d3).kept k4 (by simp)).alloc _
       have e4 : Hid (Blk W5 w4.heap.size 30 (u8s (zs 128))) := by rw [eW5]; exact Blk.new' rfl
       have ek : Hid (Kept [] w W5) := by rw [eW5]; exact ((unhide dk).trans k4).alloc _
       have hs4 : w2.heap.size < w4.heap.size := ((unhide d3).kept k4 (by simp)).lt
       clear eW5 d0 d1 d2 d3 dk k4)
    | (refine wpStoreA row30 rfl (.tmp 9) (.tmp 22) rfl w4.heap.size 0 (u8s L) rfl rfl hLu (u8s_one _) ((unhide e4).there (by rw [zl]; omega)) ?_
       have f0 := hide ((unhide e0).other (o := 0) (vs := u8s L) (show w.heap.size ≠ w4.heap.size by omega))
       have f1 := hide ((unhide e1).other (o := 0) (vs := u8s L) (show w.heap.size + 1 ≠ w4.heap.size by omega))
       have f2 := hide ((unhide e2).other (o := 0) (vs := u8s L) (show w.heap.size + 1 + 1 ≠ w4.heap.size by omega))
       have f3 := hide ((unhide e3).other (o := 0) (vs := u8s L) (show w2.heap.size ≠ w4.heap.size by omega))
       have f4 := hide ((unhide e4).put (vs := u8s L) (by rw [zl]; exact hLu.symm))
       have fk := hide ((unhide ek).setCells (b := w4.heap.size) (u8s L) 0 (by omega))
       clear e0 e1 e2 e3 e4 ek)
    | (refine wpBuildZ (verC 0 (zs 96)) build61 rfl rfl ?_)
    | (refine wpStoreA row61 rfl (.tmp 6) (.tmp 33) rfl (w.heap.size + 1 + 1) 0 (verC 0 (zs 96)) rfl rfl verC_zero (verC_one _ _) ((unhide f2).there (by rw [verC_zero]; omega)) ?_))
  have g4 := (unhide f2).put (vs := verC 0 (zs 96)) (by rw [verC_zero])
  exact bodyPost_ret (res46 _ _ _ _ _ rfl rfl verC_zero g4) rfl ⟨rfl, (unhide fk).setCells _ _ (by omega)⟩

set_option maxHeartbeats 2000000 in
set_option maxRecDepth 100000 in
theorem get_bad2 (p : Int) (a b : List Int) (ha : Byts 64 a) (hb : Byts 64 b) (hp : isPageB p = true) (hyes : (putL p (psnL a) (halfL a ++ halfL b)).2 = 0) (hno : (putL p (psnL a) (halfL a ++ halfL b)).1 ≠ a ++ b) (w : World) : Calls Tryd.prog 46 #[.int .i64 p, aggV (u8s a), aggV (u8s b)] w fun e w' => e = .returned (.tuple #[aggV (verC 0 (zs 96)), .int .i64 12]) ∧ Kept [] w w' := by
  have hau : (u8s a).length = 64 := by rw [u8s_len, ha.len]
  have hbu : (u8s b).length = 64 := by rw [u8s_len, hb.len]
  have hvl : (verC (psnL a) (halfL a ++ halfL b)).length = 97 := verC_len (halves_byts ha hb).len
  have hLl : (putL p (psnL a) (halfL a ++ halfL b)).1.length = 128 := (putL_byts (halves_byts ha hb)).len
  obtain ⟨L, hL⟩ : ∃ L, (putL p (psnL a) (halfL a ++ halfL b)).1 = L := ⟨_, rfl⟩
  obtain ⟨c, hc⟩ : ∃ c, (putL p (psnL a) (halfL a ++ halfL b)).2 = c := ⟨_, rfl⟩
  have hE : putL p (psnL a) (halfL a ++ halfL b) = (L, c) := by rw [← hL, ← hc]
  rw [hL] at hLl
  rw [hL] at hno
  rw [hc] at hyes
  subst hyes
  have hLu : (u8s L).length = 128 := by rw [u8s_len, hLl]
  clear hL hc
  have HN := hide hno
  clear hno
  have HE := hide hE
  clear hE
  go_enter Tryd.func46, Tryd.ntmps46
  go_wp2_with (
    first
    | (refine wpBoxA rfl (.tmp 1) rfl (u8s a) rfl ?_)
    | (refine wpBoxA rfl (.tmp 2) rfl (u8s b) rfl ?_)
    | (refine wpAllocV (verC 0 (zs 96)) zero61 6 rfl rfl rfl ?_
       intro W eW
       have b0 : Hid (Blk W w.heap.size 29 (u8s a)) := by rw [eW]; exact ((Blk.new' rfl).alloc _).alloc _
       have b1 : Hid (Blk W (w.heap.size + 1) 29 (u8s b)) := by rw [eW]; exact (Blk.new' (by simp)).alloc _
       have b2 : Hid (Blk W (w.heap.size + 1 + 1) 61 (verC 0 (zs 96))) := by rw [eW]; exact Blk.new' (by simp)
       have hk : Hid (Kept [] w W) := by rw [eW]; exact (((Kept.refl _ _).alloc _).alloc _).alloc _
       have hWs : W.heap.size = w.heap.size + 1 + 1 + 1 := by rw [eW]; simp
       have hpg := hide (isPage24 p W)
       have hbt := hide (between27 a b ha hb W)
       rw [hp] at hpg
       clear eW)
    | (go_at_call 49; refine (unhide hpg).mono ?_; rintro e w1 ⟨rfl, rfl⟩)
    | (refine wpLoadA row29 rfl (.tmp 4) rfl w.heap.size 0 rfl (u8s a) hau (unhide b0).range ?_)
    | (refine wpLoadA row29 rfl (.tmp 5) rfl (w.heap.size + 1) 0 rfl (u8s b) hbu (unhide b1).range ?_)
    | (go_at_call 51
       refine (unhide hbt).mono ?_
       rintro e w2 ⟨rfl, k2⟩)
    | (refine wpAllocV (verC 0 (zs 96)) zero61 8 rfl rfl rfl ?_
       intro W3 eW3
       have c0 : Hid (Blk W3 w.heap.size 29 (u8s a)) := by rw [eW3]; exact ((unhide b0).kept k2 (by simp)).alloc _
       have c1 : Hid (Blk W3 (w.heap.size + 1) 29 (u8s b)) := by rw [eW3]; exact ((unhide b1).kept k2 (by simp)).alloc _
       have c2 : Hid (Blk W3 (w.heap.size + 1 + 1) 61 (verC 0 (zs 96))) := by rw [eW3]; exact ((unhide b2).kept k2 (by simp)).alloc _
       have c3 : Hid (Blk W3 w2.heap.size 61 (verC 0 (zs 96))) := by rw [eW3]; exact Blk.new' rfl
       have ck : Hid (Kept [] w W3) := by rw [eW3]; exact ((unhide hk).trans k2).alloc _
       have hs2 : w.heap.size + 1 + 1 < w2.heap.size := ((unhide b2).kept k2 (by simp)).lt
       clear eW3 b0 b1 b2 hk k2 hbt hpg)
    | (refine wpStoreA row61 rfl (.tmp 8) (.tmp 17) rfl w2.heap.size 0 (verC (psnL a) (halfL a ++ halfL b)) rfl rfl hvl (verC_one _ _) ((unhide c3).there (by rw [verC_zero]; omega)) ?_
       have d0 := hide ((unhide c0).other (o := 0) (vs := verC (psnL a) (halfL a ++ halfL b)) (show w.heap.size ≠ w2.heap.size by omega))
       have d1 := hide ((unhide c1).other (o := 0) (vs := verC (psnL a) (halfL a ++ halfL b)) (show w.heap.size + 1 ≠ w2.heap.size by omega))
       have d2 := hide ((unhide c2).other (o := 0) (vs := verC (psnL a) (halfL a ++ halfL b)) (show w.heap.size + 1 + 1 ≠ w2.heap.size by omega))
       have d3 := hide ((unhide c3).put (vs := verC (psnL a) (halfL a ++ halfL b)) (by rw [verC_zero]; exact hvl.symm))
       have dk := hide ((unhide ck).setCells (b := w2.heap.size) (verC (psnL a) (halfL a ++ halfL b)) 0 (by omega))
       clear c0 c1 c2 c3 ck)
    | (refine wpLoadA row61 rfl (.tmp 8) rfl w2.heap.size 0 rfl (verC (psnL a) (halfL a ++ halfL b)) hvl (unhide d3).range ?_)
    | (go_at_call 52
       refine (put8 p (psnL a) (halfL a ++ halfL b) (halves_byts ha hb) _).mono ?_
       rintro e w4 ⟨rfl, k4⟩
       rw [unhide HE])
    | (refine wpAllocV (u8s (zs 128)) zero30 9 rfl rfl rfl ?_
       intro W5 eW5
       have e0 : Hid (Blk W5 w.heap.size 29 (u8s a)) := by rw [eW5]; exact ((unhide d0).kept k4 (by simp)).alloc _
       have e1 : Hid (Blk W5 (w.heap.size + 1) 29 (u8s b)) := by rw [eW5]; exact ((unhide d1).kept k4 (by simp)).alloc _
       have e2 : Hid (Blk W5 (w.heap.size + 1 + 1) 61 (verC 0 (zs 96))) := by rw [eW5]; exact ((unhide d2).kept k4 (by simp)).alloc _
       have e3 : Hid (Blk W5 w2.heap.size 61 (verC (psnL a) (halfL a ++ halfL b))) := by rw [eW5]; exact ((unhide d3).kept k4 (by simp)).alloc _
       have e4 : Hid (Blk W5 w4.heap.size 30 (u8s (zs 128))) := by rw [eW5]; exact Blk.new' rfl
       have ek : Hid (Kept [] w W5) := by rw [eW5]; exact ((unhide dk).trans k4).alloc _
       have hs4 : w2.heap.size < w4.heap.size := ((unhide d3).kept k4 (by simp)).lt
       clear eW5 d0 d1 d2 d3 dk k4)
    | (refine wpStoreA row30 rfl (.tmp 9) (.tmp 22) rfl w4.heap.size 0 (u8s L) rfl rfl hLu (u8s_one _) ((unhide e4).there (by rw [zl]; omega)) ?_
       have f0 := hide ((unhide e0).other (o := 0) (vs := u8s L) (show w.heap.size ≠ w4.heap.size by omega))
       have f1 := hide ((unhide e1).other (o := 0) (vs := u8s L) (show w.heap.size + 1 ≠ w4.heap.size by omega))
       have f2 := hide ((unhide e2).other (o := 0) (vs := u8s L) (show w.heap.size + 1 + 1 ≠ w4.heap.size by omega))
       have f3 := hide ((unhide e3).other (o := 0) (vs := u8s L) (show w2.heap.size ≠ w4.heap.size by omega))
       have f4 := hide ((unhide e4).put (vs := u8s L) (by rw [zl]; exact hLu.symm))
       have fk := hide ((unhide ek).setCells (b := w4.heap.size) (u8s L) 0 (by omega))
       clear e0 e1 e2 e3 e4 ek)
    | (refine wpLoadG row30 (.tmp 9) rfl rfl w4.heap.size 0 rfl (u8s L) hLu (unhide f4).range ?_)
    | (refine wpLoadG row29 (.tmp 4) rfl rfl w.heap.size 0 rfl (u8s a) hau (unhide f0).range ?_)
    | (refine wpLoadG row29 (.tmp 5) rfl rfl (w.heap.size + 1) 0 rfl (u8s b) hbu (unhide f1).range ?_)
    | (refine wpBuildG _ rfl rfl #[(0, aggV (u8s a)), (1, aggV (u8s b))] (by simp only [List.map_toArray, List.map_cons, List.map_nil]; rfl) (u8s (a ++ b)) (build30p _ a b ha.len hb.len) ?_)
    | (refine wpNeqG 30 30 guard30 (.tmp 27) (.tmp 30) rfl rfl (u8s L) (u8s (a ++ b)) rfl rfl false ((equal30' _ L a b hLl ha.len hb.len).trans (by rw [decide_eq_false (unhide HN)])) ?_)
    | (refine wpBuildZ (verC 0 (zs 96)) build61 rfl rfl ?_)
    | (refine wpStoreA row61 rfl (.tmp 6) (.tmp 33) rfl (w.heap.size + 1 + 1) 0 (verC 0 (zs 96)) rfl rfl verC_zero (verC_one _ _) ((unhide f2).there (by rw [verC_zero]; omega)) ?_))
  have g4 := (unhide f2).put (vs := verC 0 (zs 96)) (by rw [verC_zero])
  exact bodyPost_ret (res46 _ _ _ _ _ rfl rfl verC_zero g4) rfl ⟨rfl, (unhide fk).setCells _ _ (by omega)⟩

set_option maxHeartbeats 2000000 in
set_option maxRecDepth 100000 in
theorem get_yes (p : Int) (a b : List Int) (ha : Byts 64 a) (hb : Byts 64 b) (hp : isPageB p = true) (hyes : (putL p (psnL a) (halfL a ++ halfL b)).2 = 0) (hno : (putL p (psnL a) (halfL a ++ halfL b)).1 = a ++ b) (w : World) : Calls Tryd.prog 46 #[.int .i64 p, aggV (u8s a), aggV (u8s b)] w fun e w' => e = .returned (.tuple #[aggV (verC (psnL a) (halfL a ++ halfL b)), .int .i64 0]) ∧ Kept [] w w' := by
  have hau : (u8s a).length = 64 := by rw [u8s_len, ha.len]
  have hbu : (u8s b).length = 64 := by rw [u8s_len, hb.len]
  have hvl : (verC (psnL a) (halfL a ++ halfL b)).length = 97 := verC_len (halves_byts ha hb).len
  have hLl : (putL p (psnL a) (halfL a ++ halfL b)).1.length = 128 := (putL_byts (halves_byts ha hb)).len
  obtain ⟨L, hL⟩ : ∃ L, (putL p (psnL a) (halfL a ++ halfL b)).1 = L := ⟨_, rfl⟩
  obtain ⟨c, hc⟩ : ∃ c, (putL p (psnL a) (halfL a ++ halfL b)).2 = c := ⟨_, rfl⟩
  have hE : putL p (psnL a) (halfL a ++ halfL b) = (L, c) := by rw [← hL, ← hc]
  rw [hL] at hLl
  rw [hL] at hno
  rw [hc] at hyes
  subst hyes
  have hLu : (u8s L).length = 128 := by rw [u8s_len, hLl]
  clear hL hc
  have HN := hide hno
  clear hno
  have HE := hide hE
  clear hE
  go_enter Tryd.func46, Tryd.ntmps46
  go_wp2_with (
    first
    | (refine wpBoxA rfl (.tmp 1) rfl (u8s a) rfl ?_)
    | (refine wpBoxA rfl (.tmp 2) rfl (u8s b) rfl ?_)
    | (refine wpAllocV (verC 0 (zs 96)) zero61 6 rfl rfl rfl ?_
       intro W eW
       have b0 : Hid (Blk W w.heap.size 29 (u8s a)) := by rw [eW]; exact ((Blk.new' rfl).alloc _).alloc _
       have b1 : Hid (Blk W (w.heap.size + 1) 29 (u8s b)) := by rw [eW]; exact (Blk.new' (by simp)).alloc _
       have b2 : Hid (Blk W (w.heap.size + 1 + 1) 61 (verC 0 (zs 96))) := by rw [eW]; exact Blk.new' (by simp)
       have hk : Hid (Kept [] w W) := by rw [eW]; exact (((Kept.refl _ _).alloc _).alloc _).alloc _
       have hWs : W.heap.size = w.heap.size + 1 + 1 + 1 := by rw [eW]; simp
       have hpg := hide (isPage24 p W)
       have hbt := hide (between27 a b ha hb W)
       rw [hp] at hpg
       clear eW)
    | (go_at_call 49; refine (unhide hpg).mono ?_; rintro e w1 ⟨rfl, rfl⟩)
    | (refine wpLoadA row29 rfl (.tmp 4) rfl w.heap.size 0 rfl (u8s a) hau (unhide b0).range ?_)
    | (refine wpLoadA row29 rfl (.tmp 5) rfl (w.heap.size + 1) 0 rfl (u8s b) hbu (unhide b1).range ?_)
    | (go_at_call 51
       refine (unhide hbt).mono ?_
       rintro e w2 ⟨rfl, k2⟩)
    | (refine wpAllocV (verC 0 (zs 96)) zero61 8 rfl rfl rfl ?_
       intro W3 eW3
       have c0 : Hid (Blk W3 w.heap.size 29 (u8s a)) := by rw [eW3]; exact ((unhide b0).kept k2 (by simp)).alloc _
       have c1 : Hid (Blk W3 (w.heap.size + 1) 29 (u8s b)) := by rw [eW3]; exact ((unhide b1).kept k2 (by simp)).alloc _
       have c2 : Hid (Blk W3 (w.heap.size + 1 + 1) 61 (verC 0 (zs 96))) := by rw [eW3]; exact ((unhide b2).kept k2 (by simp)).alloc _
       have c3 : Hid (Blk W3 w2.heap.size 61 (verC 0 (zs 96))) := by rw [eW3]; exact Blk.new' rfl
       have ck : Hid (Kept [] w W3) := by rw [eW3]; exact ((unhide hk).trans k2).alloc _
       have hs2 : w.heap.size + 1 + 1 < w2.heap.size := ((unhide b2).kept k2 (by simp)).lt
       clear eW3 b0 b1 b2 hk k2 hbt hpg)
    | (refine wpStoreA row61 rfl (.tmp 8) (.tmp 17) rfl w2.heap.size 0 (verC (psnL a) (halfL a ++ halfL b)) rfl rfl hvl (verC_one _ _) ((unhide c3).there (by rw [verC_zero]; omega)) ?_
       have d0 := hide ((unhide c0).other (o := 0) (vs := verC (psnL a) (halfL a ++ halfL b)) (show w.heap.size ≠ w2.heap.size by omega))
       have d1 := hide ((unhide c1).other (o := 0) (vs := verC (psnL a) (halfL a ++ halfL b)) (show w.heap.size + 1 ≠ w2.heap.size by omega))
       have d2 := hide ((unhide c2).other (o := 0) (vs := verC (psnL a) (halfL a ++ halfL b)) (show w.heap.size + 1 + 1 ≠ w2.heap.size by omega))
       have d3 := hide ((unhide c3).put (vs := verC (psnL a) (halfL a ++ halfL b)) (by rw [verC_zero]; exact hvl.symm))
       have dk := hide ((unhide ck).setCells (b := w2.heap.size) (verC (psnL a) (halfL a ++ halfL b)) 0 (by omega))
       clear c0 c1 c2 c3 ck)
    | (refine wpLoadA row61 rfl (.tmp 8) rfl w2.heap.size 0 rfl (verC (psnL a) (halfL a ++ halfL b)) hvl (unhide d3).range ?_)
    | (go_at_call 52
       refine (put8 p (psnL a) (halfL a ++ halfL b) (halves_byts ha hb) _).mono ?_
       rintro e w4 ⟨rfl, k4⟩
       rw [unhide HE])
    | (refine wpAllocV (u8s (zs 128)) zero30 9 rfl rfl rfl ?_
       intro W5 eW5
       have e0 : Hid (Blk W5 w.heap.size 29 (u8s a)) := by rw [eW5]; exact ((unhide d0).kept k4 (by simp)).alloc _
       have e1 : Hid (Blk W5 (w.heap.size + 1) 29 (u8s b)) := by rw [eW5]; exact ((unhide d1).kept k4 (by simp)).alloc _
       have e2 : Hid (Blk W5 (w.heap.size + 1 + 1) 61 (verC 0 (zs 96))) := by rw [eW5]; exact ((unhide d2).kept k4 (by simp)).alloc _
       have e3 : Hid (Blk W5 w2.heap.size 61 (verC (psnL a) (halfL a ++ halfL b))) := by rw [eW5]; exact ((unhide d3).kept k4 (by simp)).alloc _
       have e4 : Hid (Blk W5 w4.heap.size 30 (u8s (zs 128))) := by rw [eW5]; exact Blk.new' rfl
       have ek : Hid (Kept [] w W5) := by rw [eW5]; exact ((unhide dk).trans k4).alloc _
       have hs4 : w2.heap.size < w4.heap.size := ((unhide d3).kept k4 (by simp)).lt
       clear eW5 d0 d1 d2 d3 dk k4)
    | (refine wpStoreA row30 rfl (.tmp 9) (.tmp 22) rfl w4.heap.size 0 (u8s L) rfl rfl hLu (u8s_one _) ((unhide e4).there (by rw [zl]; omega)) ?_
       have f0 := hide ((unhide e0).other (o := 0) (vs := u8s L) (show w.heap.size ≠ w4.heap.size by omega))
       have f1 := hide ((unhide e1).other (o := 0) (vs := u8s L) (show w.heap.size + 1 ≠ w4.heap.size by omega))
       have f2 := hide ((unhide e2).other (o := 0) (vs := u8s L) (show w.heap.size + 1 + 1 ≠ w4.heap.size by omega))
       have f3 := hide ((unhide e3).other (o := 0) (vs := u8s L) (show w2.heap.size ≠ w4.heap.size by omega))
       have f4 := hide ((unhide e4).put (vs := u8s L) (by rw [zl]; exact hLu.symm))
       have fk := hide ((unhide ek).setCells (b := w4.heap.size) (u8s L) 0 (by omega))
       clear e0 e1 e2 e3 e4 ek)
    | (refine wpLoadG row30 (.tmp 9) rfl rfl w4.heap.size 0 rfl (u8s L) hLu (unhide f4).range ?_)
    | (refine wpLoadG row29 (.tmp 4) rfl rfl w.heap.size 0 rfl (u8s a) hau (unhide f0).range ?_)
    | (refine wpLoadG row29 (.tmp 5) rfl rfl (w.heap.size + 1) 0 rfl (u8s b) hbu (unhide f1).range ?_)
    | (refine wpBuildG _ rfl rfl #[(0, aggV (u8s a)), (1, aggV (u8s b))] (by simp only [List.map_toArray, List.map_cons, List.map_nil]; rfl) (u8s (a ++ b)) (build30p _ a b ha.len hb.len) ?_)
    | (refine wpNeqG 30 30 guard30 (.tmp 27) (.tmp 30) rfl rfl (u8s L) (u8s (a ++ b)) rfl rfl true ((equal30' _ L a b hLl ha.len hb.len).trans (by rw [decide_eq_true (unhide HN)])) ?_)
    | (refine wpLoadA row61 rfl (.tmp 8) rfl w2.heap.size 0 rfl (verC (psnL a) (halfL a ++ halfL b)) hvl (unhide f3).range ?_)
    | (refine wpStoreA row61 rfl (.tmp 6) (.tmp 34) rfl (w.heap.size + 1 + 1) 0 (verC (psnL a) (halfL a ++ halfL b)) rfl rfl hvl (verC_one _ _) ((unhide f2).there (by rw [verC_zero]; omega)) ?_))
  have g4 := (unhide f2).put (vs := verC (psnL a) (halfL a ++ halfL b)) (by rw [verC_zero]; exact (hvl).symm)
  exact bodyPost_ret (res46 _ _ _ _ _ rfl rfl hvl g4) rfl ⟨rfl, (unhide fk).setCells _ _ (by omega)⟩

theorem get12 (p : Int) (a b : List Int) (ha : Byts 64 a) (hb : Byts 64 b) (w : World) : Calls Tryd.prog 46 #[.int .i64 p, aggV (u8s a), aggV (u8s b)] w fun e w' => e = .returned (.tuple #[aggV (verC (getL p a b).1.1 (getL p a b).1.2), .int .i64 (getL p a b).2]) ∧ Kept [] w w' := by
  cases hp : isPageB p with
  | false =>
    have e : getL p a b = ((0, zs 96), 2) := by simp [getL, hp]
    rw [e]
    exact get_nopage p a b ha hb hp w
  | true =>
    by_cases h1 : (putL p (psnL a) (halfL a ++ halfL b)).2 = 0
    · by_cases h2 : (putL p (psnL a) (halfL a ++ halfL b)).1 = a ++ b
      · have e : getL p a b = ((psnL a, halfL a ++ halfL b), 0) := by simp [getL, hp, h1, h2]
        rw [e]
        exact get_yes p a b ha hb hp h1 h2 w
      · have e : getL p a b = ((0, zs 96), 12) := by simp [getL, hp, h2]
        rw [e]
        exact get_bad2 p a b ha hb hp h1 h2 w
    · have e : getL p a b = ((0, zs 96), 12) := by simp [getL, hp, h1]
      rw [e]
      exact get_bad1 p a b ha hb hp h1 w

end Go.Proofs.YtkpkiibahfdomaaDoor.Pg

namespace Go.Proofs.YtkpkiibahfdomaaDoor.Pg
open Go.RowKit

/-- A variable is made and filled. -/
theorem wpNew {ops : Array Oper} {rest : List Oper} {o1 o2 : Oper} {a : Act} {w : World} {Q : Exit → Act → World → Prop} {T n : Nat} (hT : Row T n) (zv : List Value) (hz : zv.length = n) (hr : ∀ w : World, (Instr.alloc T true (.tuple #[])).run Tryd.prog w = .ok (P0 w.heap.size) (w.alloc (.cells zv.toArray T)))
    (d : Nat) (hd : o1.dst = some d) (hg1 : o1.guard = none) (ho1 : o1.op = .alloc T) (y : Operand) (hg2 : o2.guard = none) (ho2 : o2.op = .store T (.tmp d) y) (hd2 : o2.dst = none)
    (vs : List Value) (hl : vs.length = n) (h1 : ∀ v ∈ vs, v.oneCell' = true) (hx : (a.put (some d) (P0 w.heap.size)).eval (.tmp d) = P0 w.heap.size) (hy : (a.put (some d) (P0 w.heap.size)).eval y = aggV vs)
    (h : ∀ W b, b = w.heap.size → Blk W b T vs → Kept [] w W → wpList Tryd.prog ops Q rest (a.put (some d) (P0 b)) W) : wpList Tryd.prog ops Q (o1 :: o2 :: rest) a w := by
  refine wpAllocA zv hr hg1 ho1 ?_
  rw [hd]
  have hb : Blk (w.alloc (.cells zv.toArray T)) w.heap.size T zv := Blk.new w T zv
  refine wpStoreA hT hg2 (.tmp d) y ho2 w.heap.size 0 vs hx hy hl h1 (hb.there (by omega)) ?_
  rw [hd2]
  exact h _ _ rfl (hb.put (by omega)) (((Kept.refl _ _).alloc _).setCells _ _ (by omega))

set_option maxHeartbeats 1000000 in
set_option maxRecDepth 100000 in
theorem whole14 (p : Int) (a b : List Int) (ha : Byts 64 a) (hb : Byts 64 b) (w : World) : Calls Tryd.prog 28 #[.int .i64 p, aggV (u8s a), aggV (u8s b)] w fun e w' => e = .returned (.bool (decide ((getL p a b).2 = 0))) ∧ Kept [] w w' := by
  have hau : (u8s a).length = 64 := by rw [u8s_len, ha.len]
  have hbu : (u8s b).length = 64 := by rw [u8s_len, hb.len]
  have hvl : (verC (getL p a b).1.1 (getL p a b).1.2).length = 97 := verC_len (getL_byts ha hb).len
  go_enter Tryd.func28, Tryd.ntmps28
  have hW : ∃ W, W = (w.alloc (.cells (u8s a).toArray 29)).alloc (.cells (u8s b).toArray 29) := ⟨_, rfl⟩
  obtain ⟨W, eW⟩ := hW
  have b0 : Hid (Blk ((w.alloc (.cells (u8s a).toArray 29)).alloc (.cells (u8s b).toArray 29)) w.heap.size 29 (u8s a)) := (Blk.new' rfl).alloc _
  have b1 : Hid (Blk ((w.alloc (.cells (u8s a).toArray 29)).alloc (.cells (u8s b).toArray 29)) (w.heap.size + 1) 29 (u8s b)) := Blk.new' (by simp)
  have hk : Hid (Kept [] w ((w.alloc (.cells (u8s a).toArray 29)).alloc (.cells (u8s b).toArray 29))) := ((Kept.refl _ _).alloc _).alloc _
  have hg := hide (get12 p a b ha hb ((w.alloc (.cells (u8s a).toArray 29)).alloc (.cells (u8s b).toArray 29)))
  clear eW W
  go_wp2_with (
    first
    | (refine wpBoxA rfl (.tmp 1) rfl (u8s a) rfl ?_)
    | (refine wpBoxA rfl (.tmp 2) rfl (u8s b) rfl ?_)
    | (refine wpLoadA row29 rfl (.tmp 4) rfl w.heap.size 0 rfl (u8s a) hau (unhide b0).range ?_)
    | (refine wpLoadA row29 rfl (.tmp 5) rfl (w.heap.size + 1) 0 rfl (u8s b) hbu (unhide b1).range ?_)
    | (go_at_call 46
       refine (unhide hg).mono ?_
       rintro e w2 ⟨rfl, k2⟩
       have ck : Hid (Kept [] w w2) := (unhide hk).trans k2
       clear b0 b1 hk hg k2)
    | (refine wpNew row61 (verC 0 (zs 96)) verC_zero zero61 7 rfl rfl rfl (.tmp 14) rfl rfl rfl _ hvl (verC_one _ _) rfl rfl ?_
       intro W2 b2 hb2 B2 K2
       have KK : Hid (Kept [] w W2) := (unhide ck).trans K2
       clear B2 K2 hb2))
  go_ret
  exact ⟨ret_bool (by simp), unhide KK⟩

end Go.Proofs.YtkpkiibahfdomaaDoor.Pg
