/-
  The document's Mark.
-/
import Derived.Test.YthihladmifpokaaTd
namespace Go.Proofs.Ythihladmifpokaa
set_option maxRecDepth 100000
set_option linter.unusedSimpArgs false
open Go.RowKit


theorem cg41 (vs : Array Value) (w : World) : (callFunc 41 vs).run Try.prog w = .ok (.enter 41 vs) w := by kernel_rfl
section
variable {ops : Array Oper} {rest : List Oper} {op o : Oper} {a : Act} {w : World} {K : Act → World → Prop} {Q : Exit → Act → World → Prop}
theorem o_stB {T TT : Nat} (hs : (Try.prog.info? T).map (·.size) = some 1) (x y : Operand) (ho : o.op = .store T x y) (hd : o.dst = none) (b : Nat) (v u : Value) (h1 : One v) (hx : a.eval x = P0 b) (hy : a.eval y = v) (hB : Blk w b TT [u]) (h : ∀ W, Blk W b TT [v] → Kept [b] w W → K a W) : o.wp Try.prog a w K Q :=
  o_st1 hs x y ho hd b 0 0 v h1 hx hy (Mm.one hB) rfl (by simp) rfl (fun W hM => h W (hM.at 0 _ rfl) hM.kept)
theorem o_stC {T TT : Nat} (hs : (Try.prog.info? T).map (·.size) = some 1) (x y : Operand) (ho : o.op = .store T x y) (hd : o.dst = none) (b i : Nat) (v : Value) (us : List Value) (h1 : One v) (hx : a.eval x = .pointer (some ⟨b, i, none⟩)) (hy : a.eval y = v) (hB : Blk w b TT us) (hi : i < us.length) (h : ∀ W, Blk W b TT (us.set i v) → Kept [b] w W → K a W) : o.wp Try.prog a w K Q :=
  o_st1 hs x y ho hd b i 0 v h1 hx hy (Mm.one hB) rfl hi rfl (fun W hM => h W (hM.at 0 _ rfl) hM.kept)
end
/-- What the region that lays a new mark makes. -/
structure S14 (w : World) (r : Nat) (L : List Mk) (k : Nat) (x : Mk) (d : Nat → Bool) (vs : Nat → Value) (W : World) : Prop where
  k0 : d 20 = false → Kept [] w W
  a : d 7 = true → d 10 = false → Ms W (vs 7) (L.take k) ∧ ∀ i, (vs 7).ownBlock = some i → w.heap.size ≤ i
  b : d 9 = true → d 10 = false → Ms W (vs 9) [x]
  c : d 10 = true → d 17 = false → Ms W (vs 10) (L.take k ++ [x]) ∧ ∀ i, (vs 10).ownBlock = some i → w.heap.size ≤ i
  e : d 17 = true → Ms W (vs 17) (L.take k ++ [x] ++ L.drop k) ∧ ∀ i, (vs 17).ownBlock = some i → w.heap.size ≤ i
  f : d 20 = true → Kept [r] w W ∧ Blk W r 30 [vs 17]
  g : d 17 = true → d 10 = true
variable {w W W' : World} {r k : Nat} {L : List Mk} {x : Mk} {d : Nat → Bool} {vs : Nat → Value} {v : Value}
theorem S14.loc : ∀ d d' vs vs' W, (∀ i ∈ [7, 9, 10, 17, 20], d i = d' i ∧ vs i = vs' i) → S14 w r L k x d vs W → S14 w r L k x d' vs' W := by
  intro d d' vs vs' W H h
  obtain ⟨a0, a1⟩ := H 7 (by simp)
  obtain ⟨b0, b1⟩ := H 9 (by simp)
  obtain ⟨c0, c1⟩ := H 10 (by simp)
  obtain ⟨e0, e1⟩ := H 17 (by simp)
  obtain ⟨f0, f1⟩ := H 20 (by simp)
  refine ⟨?_, ?_, ?_, ?_, ?_, ?_, ?_⟩
  · rw [← f0]; exact h.k0
  · rw [← a0, ← c0, ← a1]; exact h.a
  · rw [← b0, ← c0, ← b1]; exact h.b
  · rw [← c0, ← e0, ← c1]; exact h.c
  · rw [← e0, ← e1]; exact h.e
  · rw [← f0, ← e1]; exact h.f
  · rw [← c0, ← e0]; exact h.g
theorem S14.start (w : World) (r : Nat) (L : List Mk) (k : Nat) (x : Mk) : S14 w r L k x (fun i => (Array.replicate 21 false).getD i false) (fun _ => undef) w.drew := by
  have h : ∀ i, (Array.replicate 21 false).getD i false = false := fun i => by simp [Array.getD]
  exact ⟨fun _ => (Kept.refl _ _).drew, fun e => (by rw [h] at e; cases e), fun e => (by rw [h] at e; cases e), fun e => (by rw [h] at e; cases e), fun e => (by rw [h] at e; cases e), fun e => (by rw [h] at e; cases e), fun e => (by rw [h] at e; cases e)⟩
theorem S14.m7 (h : S14 w r L k x d vs W) (h10 : d 10 = false) (h17 : d 17 = false) (h20 : d 20 = false) (hv : Ms W' v (L.take k)) (ho : ∀ i, v.ownBlock = some i → W.heap.size ≤ i) (hk : Kept [] W W') : S14 w r L k x (fun i => if i = 7 then true else d i) (fun i => if i = 7 then v else vs i) W' := by
  have k0 := h.k0 h20
  refine ⟨fun _ => k0.trans hk, fun _ _ => ⟨hv, fun i hi => Nat.le_trans k0.size (ho i hi)⟩, fun h1 h2 => (h.b h1 h2).kept hk (by simp), fun h1 => ?_, fun h1 => ?_, fun h1 => ?_, fun h1 => h.g h1⟩
  · have h2 : d 10 = true := h1
    rw [h10] at h2; cases h2
  · have h2 : d 17 = true := h1
    rw [h17] at h2; cases h2
  · have h2 : d 20 = true := h1
    rw [h20] at h2; cases h2
theorem S14.m9 (h : S14 w r L k x d vs W) (h10 : d 10 = false) (h17 : d 17 = false) (h20 : d 20 = false) (hv : Ms W' v [x]) (hk : Kept [] W W') : S14 w r L k x (fun i => if i = 9 then true else d i) (fun i => if i = 9 then v else vs i) W' := by
  have k0 := h.k0 h20
  refine ⟨fun _ => k0.trans hk, fun h1 h2 => ⟨(h.a h1 h2).1.kept hk (by simp), (h.a h1 h2).2⟩, fun _ _ => hv, fun h1 => ?_, fun h1 => ?_, fun h1 => ?_, fun h1 => h.g h1⟩
  · have h2 : d 10 = true := h1
    rw [h10] at h2; cases h2
  · have h2 : d 17 = true := h1
    rw [h17] at h2; cases h2
  · have h2 : d 20 = true := h1
    rw [h20] at h2; cases h2
theorem S14.m10 (h : S14 w r L k x d vs W) (h7 : d 7 = true) (h10 : d 10 = false) (h17 : d 17 = false) (h20 : d 20 = false) (hv : Ms W' v (L.take k ++ [x])) (hk : Kept (spare (vs 7)) W W') (ho : ∀ i, v.ownBlock = some i → (vs 7).ownBlock = some i ∨ W.heap.size ≤ i) : S14 w r L k x (fun i => if i = 10 then true else d i) (fun i => if i = 10 then v else vs i) W' := by
  have k0 := h.k0 h20
  have ha := (h.a h7 h10).2
  refine ⟨fun _ => k0.fresh hk (fun i hi hl => by have := ha i (spare_own hi); omega), fun _ h2 => (by cases h2), fun _ h2 => (by cases h2), fun _ _ => ⟨hv, fun i hi => ?_⟩, fun h1 => ?_, fun h1 => ?_, fun _ => rfl⟩
  · rcases ho i hi with h1 | h1
    · exact ha i h1
    · exact Nat.le_trans k0.size h1
  · have h2 : d 17 = true := h1
    rw [h17] at h2; cases h2
  · have h2 : d 20 = true := h1
    rw [h20] at h2; cases h2
theorem S14.m17 (h : S14 w r L k x d vs W) (h10 : d 10 = true) (h17 : d 17 = false) (h20 : d 20 = false) (hv : Ms W' v (L.take k ++ [x] ++ L.drop k)) (hk : Kept (spare (vs 10)) W W') (ho : ∀ i, v.ownBlock = some i → (vs 10).ownBlock = some i ∨ W.heap.size ≤ i) : S14 w r L k x (fun i => if i = 17 then true else d i) (fun i => if i = 17 then v else vs i) W' := by
  have k0 := h.k0 h20
  have ha := (h.c h10 h17).2
  refine ⟨fun _ => k0.fresh hk (fun i hi hl => by have := ha i (spare_own hi); omega), fun _ h2 => ?_, fun _ h2 => ?_, fun _ h2 => (by cases h2), fun _ => ⟨hv, fun i hi => ?_⟩, fun h1 => ?_, fun _ => h10⟩
  · have h2 : d 10 = false := h2
    rw [h10] at h2; cases h2
  · have h2 : d 10 = false := h2
    rw [h10] at h2; cases h2
  · rcases ho i hi with h1 | h1
    · exact ha i h1
    · exact Nat.le_trans k0.size h1
  · have h2 : d 20 = true := h1
    rw [h20] at h2; cases h2
theorem S14.m20 (h : S14 w r L k x d vs W) (hr : r < w.heap.size) (h17 : d 17 = true) (h20 : d 20 = false) (hk : Kept [r] W W') (hB : Blk W' r 30 [vs 17]) : S14 w r L k x (fun i => if i = 20 then true else d i) (fun i => if i = 20 then v else vs i) W' := by
  have k0 := h.k0 h20
  have h10 := h.g h17
  have ha := h.e h17
  refine ⟨fun h1 => (by cases h1), fun _ h2 => ?_, fun _ h2 => ?_, fun _ h2 => ?_, fun _ => ⟨ha.1.kept hk (fun i hi => by have := ha.2 i hi; simp; omega), ha.2⟩, fun _ => ⟨(k0.mono (by simp)).trans hk, hB⟩, fun _ => h10⟩
  · have h2 : d 10 = false := h2
    rw [h10] at h2; cases h2
  · have h2 : d 10 = false := h2
    rw [h10] at h2; cases h2
  · have h2 : d 17 = false := h2
    rw [h17] at h2; cases h2
theorem Rw.ms {W : World} {v : Value} {n : Nat} {xs : List Value} {L : List Mk} (h : Rw W 54 3 v n xs) (hn : n = L.length) (hx : xs = mkC L) : Ms W v L := by subst hn hx; exact h
theorem Ms.headR {W : World} {ao : Option Addr} {c : Nat} {L : List Mk} (h : Ms W (.slice ao L.length c) L) (k : Nat) (hk : k ≤ L.length) : Rw W 54 3 (.slice ao k c) k (mkC (L.take k)) := by
  have h1 := Rw.head h k hk
  rw [mkC_take] at h1
  exact h1
theorem Ms.tailR {W : World} {ao : Option Addr} {c : Nat} {L : List Mk} (h : Ms W (.slice ao L.length c) L) (k : Nat) (hk : k ≤ L.length) : Rw W 54 3 (restV 3 ao L.length c k) (L.length - k) (mkC (L.drop k)) := by
  have h1 := Rw.rest h k hk
  rw [mkC_drop L k hk] at h1
  exact h1

end Go.Proofs.Ythihladmifpokaa
