/-
  The walk of Put: a version's two sectors.
-/
import Derived.Test.YtkpkiibahfdomaaDoorPgBetween
namespace Go.Proofs.YtkpkiibahfdomaaDoor.Pg
open Go.RowKit

/-- What Put tells. -/
def putL (p n : Int) (s : List Int) : List Int × Int :=
  if (isPageB p && isVer n s) = false then (zs 128, 2) else if n = 0 then (zs 128, 0) else (laidL p 0 n (s.take 48) ++ laidL p 1 n (s.drop 48), 0)
theorem take48 {s : List Int} (hs : Byts 96 s) : Byts 48 (s.take 48) := ⟨by simp [hs.len], fun x hx => hs.byte x (List.mem_of_mem_take hx)⟩
theorem drop48 {s : List Int} (hs : Byts 96 s) : Byts 48 (s.drop 48) := ⟨by simp [hs.len], fun x hx => hs.byte x (List.mem_of_mem_drop hx)⟩
theorem putL_byts {p n : Int} {s : List Int} (hs : Byts 96 s) : Byts 128 (putL p n s).1 := by
  unfold putL
  split
  · exact zs_byts 128
  · split
    · exact zs_byts 128
    · have h1 := laidL_byts (p := p) (h := 0) (n := n) (take48 hs)
      have h2 := laidL_byts (p := p) (h := 1) (n := n) (drop48 hs)
      refine ⟨by simp [h1.len, h2.len], fun x hx => ?_⟩
      rcases List.mem_append.1 hx with h | h
      · exact h1.byte x h
      · exact h2.byte x h

theorem res52 (w : World) (z : Nat) (vs : List Value) (e : Int) (tmps : Array Value) (h4 : tmps[4]?.getD undef = P0 z) (h5 : tmps[5]?.getD undef = .int .i64 e) (hl : vs.length = 128) (hb : Blk w z 30 vs) : (results Tryd.f52 tmps).run Tryd.prog w = .ok (.tuple #[aggV vs, .int .i64 e]) w := by
  have := loadV row30 hl hb
  simp [results, Tryd.results52, h4, h5, this, asAddr]

section
variable {ops : Array Oper} {rest : List Oper} {op : Oper} {a : Act} {w : World} {Q : Exit → Act → World → Prop}
/-- An array or struct is loaded, at an operation that is guarded. -/
theorem wpLoadG {T n : Nat} (hT : Row T n) (x : Operand) (ho : op.op = .load T x) (hw : Region.wanted op (yielded ops a.tmps) = true) (b o : Nat) (hx : a.eval x = .pointer (some ⟨b, o, none⟩)) (vs : List Value) (hl : vs.length = n) (hA : w.rangeAt b o vs)
    (h : wpList Tryd.prog ops Q rest (a.put op.dst (aggV vs)) w) : wpList Tryd.prog ops Q (op :: rest) a w :=
  BigFrame.wpList_want hw fun _ hK => wp_loadA hT x ho b o hx vs hl hA (hK _ _ h)
end

/-- The two sectors, k of them laid. -/
def partL (p n : Int) (s : List Int) : Nat → List Int
  | 0 => zs 128
  | 1 => laidL p 0 n (s.take 48) ++ zs 64
  | _ => laidL p 0 n (s.take 48) ++ laidL p 1 n (s.drop 48)
theorem partL_0 (p n : Int) (s : List Int) : partL p n s 0 = zs 128 := rfl
theorem partL_1 (p n : Int) (s : List Int) : partL p n s 1 = laidL p 0 n (s.take 48) ++ zs 64 := rfl
theorem partL_2 (p n : Int) (s : List Int) : partL p n s 2 = laidL p 0 n (s.take 48) ++ laidL p 1 n (s.drop 48) := rfl
theorem partL_len (p n : Int) (s : List Int) (hs : Byts 96 s) (k : Nat) (hk : k ≤ 2) : (partL p n s k).length = 128 := by
  have h1 := (laidL_byts (p := p) (h := 0) (n := n) (take48 hs)).len
  have h2 := (laidL_byts (p := p) (h := 1) (n := n) (drop48 hs)).len
  match k, hk with
  | 0, _ => simp [partL, zs]
  | 1, _ => simp [partL, zs, h1]
  | 2, _ => simp [partL, h1, h2]
theorem zs2 : zs 128 = zs 64 ++ zs 64 := by simp [zs]
theorem zl (n : Nat) : (u8s (zs n)).length = n := by simp [u8s_len, zs]
theorem build63 (w : World) (p h n : Int) : (Instr.build 63 #[(0, .int .i64 p), (1, .int .i64 h), (2, .int .i64 n)]).run Tryd.prog w = .ok (aggV (stC p h n)) w := by kernel_rfl

theorem body_at {W : World} {b T k : Nat} {n : Int} {s : List Int} (h : Blk W b T (verC n s)) : ∀ j v, (u8s ((s.drop k).take 48))[j]? = some v → W.cell? ((⟨b, 1 + k, none⟩ : Addr).add j) = some v := by
  intro j v hj
  have hl : j < 48 := by
    have := (List.getElem?_eq_some_iff.1 hj).1
    rw [u8s_len, List.length_take] at this
    omega
  rw [Addr.add_mid, h.cell]
  simp only [u8s, List.map_take, List.map_drop] at hj
  rw [List.getElem?_take_of_lt hl, List.getElem?_drop] at hj
  rw [verC, show 1 + k + j = (k + j) + 1 by omega, List.getElem?_cons_succ]
  exact hj
theorem splice_all {n : Nat} {s : List Int} (hs : s.length = n) : splice (u8s (zs n)) 0 (u8s s) = u8s s := by
  unfold splice
  rw [List.take_zero, List.nil_append, u8s_len, hs, List.drop_eq_nil_of_le (by simp [u8s_len, zs]), List.append_nil]

set_option maxHeartbeats 1000000 in
set_option maxRecDepth 100000 in
theorem put_nopage (p n : Int) (s : List Int) (hs : Byts 96 s) (hp : isPageB p = false) (w : World) : Calls Tryd.prog 52 #[.int .i64 p, aggV (verC n s)] w fun e w' => e = .returned (.tuple #[aggV (u8s (zs 128)), .int .i64 2]) ∧ Kept [] w w' := by
  have hvl : (verC n s).length = 97 := by simp [verC, u8s_len, hs.len]
  go_enter Tryd.func52, Tryd.ntmps52
  go_wp2_with (
    first
    | (refine wpBoxA rfl (.tmp 1) rfl (verC n s) rfl ?_)
    | (refine wpAllocV (u8s (zs 128)) zero30 6 rfl rfl rfl ?_
       intro W eW
       have b0 : Hid (Blk W w.heap.size 61 (verC n s)) := by rw [eW]; exact ((Blk.new' rfl).alloc _).alloc _
       have b1 : Hid (Blk W (w.heap.size + 1) 30 (u8s (zs 128))) := by rw [eW]; exact (Blk.new' (by simp)).alloc _
       have b2 : Hid (Blk W (w.heap.size + 1 + 1) 30 (u8s (zs 128))) := by rw [eW]; exact Blk.new' (by simp)
       have hk : Hid (Kept [] w W) := by rw [eW]; exact (((Kept.refl _ _).alloc _).alloc _).alloc _
       have hpg := hide (isPage24 p W)
       have hvr := hide (isVersion25 n s hs.len W)
       rw [hp] at hpg
       clear eW)
    | (refine wpAllocA (u8s (zs 128)) zero30 rfl rfl ?_)
    | (go_at_call 49; refine (unhide hpg).mono ?_; rintro e w1 ⟨rfl, rfl⟩)
    | (refine wpLoadA row30 rfl (.tmp 6) rfl (w.heap.size + 1 + 1) 0 rfl (u8s (zs 128)) (zl 128) (unhide b2).range ?_)
    | (refine wpStoreA row30 rfl (.tmp 4) (.tmp 18) rfl (w.heap.size + 1) 0 (u8s (zs 128)) rfl rfl (zl 128) (u8s_one _) ((unhide b1).there (by rw [zl]; omega)) ?_))
  have hvl2 : (u8s (zs 128)).length = 128 := by rw [u8s_len]; simp [zs]
  have g4 := (unhide b1).put (vs := u8s (zs 128)) (by rw [zl])
  exact bodyPost_ret (res52 _ _ _ _ _ rfl rfl hvl2 g4) rfl ⟨rfl, (unhide hk).setCells _ _ (by omega)⟩

set_option maxHeartbeats 1000000 in
set_option maxRecDepth 100000 in
theorem put_nover (p n : Int) (s : List Int) (hs : Byts 96 s) (hp : isPageB p = true) (hv : isVer n s = false) (w : World) : Calls Tryd.prog 52 #[.int .i64 p, aggV (verC n s)] w fun e w' => e = .returned (.tuple #[aggV (u8s (zs 128)), .int .i64 2]) ∧ Kept [] w w' := by
  have hvl : (verC n s).length = 97 := by simp [verC, u8s_len, hs.len]
  go_enter Tryd.func52, Tryd.ntmps52
  go_wp2_with (
    first
    | (refine wpBoxA rfl (.tmp 1) rfl (verC n s) rfl ?_)
    | (refine wpAllocV (u8s (zs 128)) zero30 6 rfl rfl rfl ?_
       intro W eW
       have b0 : Hid (Blk W w.heap.size 61 (verC n s)) := by rw [eW]; exact ((Blk.new' rfl).alloc _).alloc _
       have b1 : Hid (Blk W (w.heap.size + 1) 30 (u8s (zs 128))) := by rw [eW]; exact (Blk.new' (by simp)).alloc _
       have b2 : Hid (Blk W (w.heap.size + 1 + 1) 30 (u8s (zs 128))) := by rw [eW]; exact Blk.new' (by simp)
       have hk : Hid (Kept [] w W) := by rw [eW]; exact (((Kept.refl _ _).alloc _).alloc _).alloc _
       have hpg := hide (isPage24 p W)
       have hvr := hide (isVersion25 n s hs.len W)
       rw [hp] at hpg
       rw [hv] at hvr
       clear eW)
    | (refine wpAllocA (u8s (zs 128)) zero30 rfl rfl ?_)
    | (go_at_call 49; refine (unhide hpg).mono ?_; rintro e w1 ⟨rfl, rfl⟩)
    | (refine wpLoadG row61 (.tmp 3) rfl rfl w.heap.size 0 rfl (verC n s) hvl (unhide b0).range ?_)
    | (go_at_call 54
       refine (unhide hvr).mono ?_
       rintro e w2 ⟨rfl, k2⟩
       have c0 : Hid (Blk w2 w.heap.size 61 (verC n s)) := (unhide b0).kept k2 (by simp)
       have c1 : Hid (Blk w2 (w.heap.size + 1) 30 (u8s (zs 128))) := (unhide b1).kept k2 (by simp)
       have c2 : Hid (Blk w2 (w.heap.size + 1 + 1) 30 (u8s (zs 128))) := (unhide b2).kept k2 (by simp)
       have ck : Hid (Kept [] w w2) := (unhide hk).trans k2
       clear b0 b1 b2 hk k2 hvr hpg)
    | (refine wpLoadA row30 rfl (.tmp 6) rfl (w.heap.size + 1 + 1) 0 rfl (u8s (zs 128)) (zl 128) (unhide c2).range ?_)
    | (refine wpStoreA row30 rfl (.tmp 4) (.tmp 18) rfl (w.heap.size + 1) 0 (u8s (zs 128)) rfl rfl (zl 128) (u8s_one _) ((unhide c1).there (by rw [zl]; omega)) ?_))
  have hvl2 : (u8s (zs 128)).length = 128 := by rw [u8s_len]; simp [zs]
  have g4 := (unhide c1).put (vs := u8s (zs 128)) (by rw [zl])
  exact bodyPost_ret (res52 _ _ _ _ _ rfl rfl hvl2 g4) rfl ⟨rfl, (unhide ck).setCells _ _ (by omega)⟩

set_option maxHeartbeats 1000000 in
set_option maxRecDepth 100000 in
theorem put_zero (p : Int) (s : List Int) (hs : Byts 96 s) (hp : isPageB p = true) (hv : isVer 0 s = true)  (w : World) : Calls Tryd.prog 52 #[.int .i64 p, aggV (verC 0 s)] w fun e w' => e = .returned (.tuple #[aggV (u8s (zs 128)), .int .i64 0]) ∧ Kept [] w w' := by
  have hvl : (verC 0 s).length = 97 := by simp [verC, u8s_len, hs.len]
  go_enter Tryd.func52, Tryd.ntmps52
  go_wp2_with (
    first
    | (refine wpBoxA rfl (.tmp 1) rfl (verC 0 s) rfl ?_)
    | (refine wpAllocV (u8s (zs 128)) zero30 6 rfl rfl rfl ?_
       intro W eW
       have b0 : Hid (Blk W w.heap.size 61 (verC 0 s)) := by rw [eW]; exact ((Blk.new' rfl).alloc _).alloc _
       have b1 : Hid (Blk W (w.heap.size + 1) 30 (u8s (zs 128))) := by rw [eW]; exact (Blk.new' (by simp)).alloc _
       have b2 : Hid (Blk W (w.heap.size + 1 + 1) 30 (u8s (zs 128))) := by rw [eW]; exact Blk.new' (by simp)
       have hk : Hid (Kept [] w W) := by rw [eW]; exact (((Kept.refl _ _).alloc _).alloc _).alloc _
       have hpg := hide (isPage24 p W)
       have hvr := hide (isVersion25 0 s hs.len W)
       rw [hp] at hpg
       rw [hv] at hvr
       clear eW)
    | (refine wpAllocA (u8s (zs 128)) zero30 rfl rfl ?_)
    | (go_at_call 49; refine (unhide hpg).mono ?_; rintro e w1 ⟨rfl, rfl⟩)
    | (refine wpLoadG row61 (.tmp 3) rfl rfl w.heap.size 0 rfl (verC 0 s) hvl (unhide b0).range ?_)
    | (go_at_call 54
       refine (unhide hvr).mono ?_
       rintro e w2 ⟨rfl, k2⟩
       have c0 : Hid (Blk w2 w.heap.size 61 (verC 0 s)) := (unhide b0).kept k2 (by simp)
       have c1 : Hid (Blk w2 (w.heap.size + 1) 30 (u8s (zs 128))) := (unhide b1).kept k2 (by simp)
       have c2 : Hid (Blk w2 (w.heap.size + 1 + 1) 30 (u8s (zs 128))) := (unhide b2).kept k2 (by simp)
       have ck : Hid (Kept [] w w2) := (unhide hk).trans k2
       have cn := fits_cell (unhide c0) 0 (.int .i64 0) rfl
       clear b0 b1 b2 hk k2 hvr hpg)
    | (refine wpLoadA row30 rfl (.tmp 6) rfl (w.heap.size + 1 + 1) 0 rfl (u8s (zs 128)) (zl 128) (unhide c2).range ?_)
    | (refine wpStoreA row30 rfl (.tmp 4) (.tmp 23) rfl (w.heap.size + 1) 0 (u8s (zs 128)) rfl rfl (zl 128) (u8s_one _) ((unhide c1).there (by rw [zl]; omega)) ?_))
  have hvl2 : (u8s (zs 128)).length = 128 := by rw [u8s_len]; simp [zs]
  have g4 := (unhide c1).put (vs := u8s (zs 128)) (by rw [zl])
  exact bodyPost_ret (res52 _ _ _ _ _ rfl rfl hvl2 g4) rfl ⟨rfl, (unhide ck).setCells _ _ (by omega)⟩

end Go.Proofs.YtkpkiibahfdomaaDoor.Pg
