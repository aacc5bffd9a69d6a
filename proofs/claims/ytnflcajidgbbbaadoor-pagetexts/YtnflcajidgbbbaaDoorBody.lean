/-
  The walk of Body: the body whose text this is.
-/
import Derived.Test.YtnflcajidgbbbaaDoorMean
namespace Go.Proofs.YtnflcajidgbbbaaDoor
open Go.RowKit Go.Shelf
attribute [local go_sem] Oper.semAt_some

/-- Bytes, and noughts up to a body's size. -/
def pad (m : List Int) : List Int := m ++ zs (96 - m.length)
theorem pad_len {m : List Int} (h : m.length ≤ 96) : (pad m).length = 96 := by simp [pad, zs]; omega
theorem pad_byts {m : List Int} (h : m.length ≤ 96) (hb : ∀ x ∈ m, 0 ≤ x ∧ x < 256) : Byts 96 (pad m) :=
  ⟨pad_len h, fun x hx => by
    rcases List.mem_append.1 hx with h | h
    · exact hb x h
    · exact (zs_byts _).byte x h⟩
theorem pad_snoc {m : List Int} (h : m.length < 96) (x : Int) : (pad m).set m.length x = pad (m ++ [x]) := by
  unfold pad
  obtain ⟨k, hk⟩ : ∃ k, 96 - m.length = k + 1 := ⟨95 - m.length, by omega⟩
  have h2 : 96 - (m ++ [x]).length = k := by simp; omega
  rw [h2, hk]
  simp [zs, List.replicate_succ]
theorem pair_byte (d e : Int) : 0 ≤ pairB d e ∧ pairB d e < 256 := by
  unfold pairB
  have h1 : 0 ≤ digN d * 16 % 256 ∧ digN d * 16 % 256 < 256 := by omega
  have h2 : 0 ≤ digN e ∧ digN e < 256 := by unfold digN; omega
  rw [IntKind.wrap_u8, u8_or _ _ h1.1 h1.2 h2.1 h2.2]
  have := Nat.or_lt_two_pow (n := 8) (x := (digN d * 16 % 256).toNat) (y := (digN e).toNat) (by omega) (by omega)
  omega
theorem meant_byte : ∀ (l : List Int), (∀ x ∈ l, 0 ≤ x ∧ x < 256) → ∀ x ∈ meantL l, 0 ≤ x ∧ x < 256
  | [], _ => by simp [meantL]
  | [c], h => by
    intro x hx
    unfold meantL at hx
    split at hx
    · simp at hx
    · simp at hx; subst hx; exact h x (by simp)
  | [c, d], h => by
    intro x hx
    unfold meantL at hx
    split at hx
    · simp at hx
    · rcases List.mem_cons.1 hx with rfl | hx
      · exact h x (by simp)
      · exact meant_byte [d] (fun y hy => h y (by simp at hy ⊢; exact .inr hy)) x hx
  | c :: d :: e :: t, h => by
    intro x hx
    unfold meantL at hx
    split at hx
    · rcases List.mem_cons.1 hx with rfl | hx
      · exact pair_byte d e
      · exact meant_byte t (fun y hy => h y (by simp [hy])) x hx
    · rcases List.mem_cons.1 hx with rfl | hx
      · exact h x (by simp)
      · exact meant_byte (d :: e :: t) (fun y hy => h y (List.mem_cons_of_mem _ hy)) x hx

/-- What Body tells. -/
def bodyL (L : List Int) : List Int × Int :=
  if 288 < L.length then (zs 96, 3) else if 96 < (meantL L).length then (zs 96, 4) else if textL (pad (meantL L)) = L then (pad (meantL L), 0) else (zs 96, 4)

theorem keeps_of_kept {B : Nat} {X : List Nat} {W W' : World} (h : Kept X W W') (hX : ∀ k ∈ X, ∃ cs T p, W.heap[k]? = some (.cells cs T p)) : KeepsFrom B W W' :=
  KeepsOthers.from ⟨h.size, fun k o hk hc => by
    rw [h.block k (lt_of_block hk) (fun e => by
      obtain ⟨cs, T, p, h2⟩ := hX k e
      rw [hk] at h2
      cases h2
      simp [Obj.isCells] at hc)]
    exact hk⟩ B

/-- What Body holds between two rounds: the blocks of its results, its bytes and their number. -/
structure BI (w : World) (n : Nat) (pre : List Int) (W : World) : Prop where
  le : pre.length ≤ 96
  r : Blk W n 23 (u8s (zs 96))
  e : Blk W (n + 1) 29 [.int .i64 0]
  b : Blk W (n + 1 + 1) 23 (u8s (pad pre))
  s : Blk W (n + 1 + 1 + 1) 3 [.int .i64 pre.length]
  k : Kept [] w W
/-- What it holds where it left its loop. -/
structure BX (w : World) (n : Nat) (pre : List Int) (W : World) : Prop where
  gt : 96 < pre.length
  r : Blk W n 23 (u8s (zs 96))
  e : Blk W (n + 1) 29 [.int .i64 4]
  k : Kept [] w W
theorem blk_turn {W W' : World} {row : Option Nat} {b T : Nat} {vs : List Value} (h : Blk W b T vs) (hg : W.grownBy W' row) (hr : ∀ r, row = some r → ∃ o : Obj, W.heap[r]? = some o ∧ o.isCells = false) : Blk W' b T vs := cells_kept h hg hr
theorem BI.own {w : World} {n B : Nat} (hB : w.heap.size ≤ B) : OwnFrom B (BI w n) := by
  intro pre W W' row h hg hr
  have hr2 := fun r e => (hr r e).2
  exact ⟨h.le, blk_turn h.r hg hr2, blk_turn h.e hg hr2, blk_turn h.b hg hr2, blk_turn h.s hg hr2, kept_kept (B := B) h.k hg hB (fun r e => (hr r e).1)⟩
theorem BX.own {w : World} {n B : Nat} (hB : w.heap.size ≤ B) : OwnFrom B (BX w n) := by
  intro pre W W' row h hg hr
  have hr2 := fun r e => (hr r e).2
  exact ⟨h.gt, blk_turn h.r hg hr2, blk_turn h.e hg hr2, kept_kept (B := B) h.k hg hB (fun r e => (hr r e).1)⟩
theorem keptb9 (B : Nat) (W : World) (l : Nat) (o o' : Obj) (_ : B ≤ l) (h : W.heap[l]? = some o) (hc : o.isCells = false) (_ : o.isWalk = false) : Kept9 W (W.putObj l o') := Kept9.putObj h hc

theorem res20 (w : World) (z y : Nat) (vs : List Value) (e : Int) (tmps : Array Value) (h2 : tmps[2]?.getD undef = P0 z) (h3 : tmps[3]?.getD undef = P0 y) (hl : vs.length = 96) (hb : Blk w z 23 vs) (he : Blk w y 29 [.int .i64 e]) : (results Tryd.f20 tmps).run Tryd.prog w = .ok (.tuple #[aggV vs, .int .i64 e]) w := by
  have h4 := loadV row23 hl hb
  have h5 := fits_cell he 0 (.int .i64 e) rfl
  simp [results, Tryd.results20, h2, h3, h4, asAddr]
  simp [go_sem, h5]

theorem zero29 (w : World) : (Instr.alloc 29 true (.tuple #[])).run Tryd.prog w = .ok (P0 w.heap.size) (w.alloc (.cells [Value.int .i64 0].toArray 29)) := by kernel_rfl
theorem zero3 (w : World) : (Instr.alloc 3 true (.tuple #[])).run Tryd.prog w = .ok (P0 w.heap.size) (w.alloc (.cells [Value.int .i64 0].toArray 3)) := by kernel_rfl
theorem zl96 : (u8s (zs 96)).length = 96 := by simp [u8s_len, zs]

set_option maxHeartbeats 1000000 in
set_option maxRecDepth 100000 in
theorem body_long (L : List Int) (h : 288 < L.length) (hl : L.length ≤ 9000000) (w : World) : Calls Tryd.prog 20 #[strV L] w fun e w' => e = .returned (.tuple #[aggV (u8s (zs 96)), .int .i64 3]) ∧ Kept [] w w' := by
  have hlen := run_lenS L
  go_enter Tryd.func20, Tryd.ntmps20
  go_wp2_with (
    first
    | (refine wpAllocA (u8s (zs 96)) zero23 rfl rfl ?_)
    | (refine wpAllocV [.int .i64 0] zero29 3 rfl rfl rfl ?_
       intro W eW
       have b0 : Hid (Blk W w.heap.size 23 (u8s (zs 96))) := by rw [eW]; exact (Blk.new' rfl).alloc _
       have b1 : Hid (Blk W (w.heap.size + 1) 29 [.int .i64 0]) := by rw [eW]; exact Blk.new' (by simp)
       have hk : Hid (Kept [] w W) := by rw [eW]; exact ((Kept.refl _ _).alloc _).alloc _
       clear eW)
    | (refine wpBuildZ (u8s (zs 96)) build23 rfl rfl ?_)
    | (refine wpStoreA row23 rfl (.tmp 2) (.tmp 10) rfl w.heap.size 0 (u8s (zs 96)) rfl rfl zl96 (u8s_one _) ((unhide b0).there (by rw [zl96]; omega)) ?_
       have c0 := hide ((unhide b0).put (vs := u8s (zs 96)) rfl)
       have c1 := hide ((unhide b1).other (o := 0) (vs := u8s (zs 96)) (b' := w.heap.size) (by omega))
       have ck := hide ((unhide hk).setCells (b := w.heap.size) (u8s (zs 96)) 0 (by omega))
       clear b0 b1 hk
       generalize (W.setCells w.heap.size 0 (u8s (zs 96))) = W2 at *
       have c2 := fits_cell (unhide c1) 0 (.int .i64 0) rfl
       have c3 := (unhide c1).frozen 0))
  exact bodyPost_ret (res20 _ _ _ _ _ _ rfl rfl zl96 ((unhide c0).set_other (by omega) _) ((unhide c1).set (i := 0) (.int .i64 3))) rfl ⟨rfl, (unhide ck).setCell (by simp) _⟩

end Go.Proofs.YtnflcajidgbbbaaDoor
