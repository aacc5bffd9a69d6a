/-
  Two pairs of pools, each of which may be none.
-/
import Derived.Test.YtgnafbohikbpfaaSo
namespace Go.Proofs.Ytgnafbohikbpfaa
set_option maxRecDepth 100000
set_option linter.unusedSimpArgs false
open Go.RowKit


/-- A pool of the program that may be none, and its blocks. -/
def PS (w0 W : World) (o : Option Po) (x : Value) (B : List Nat) : Prop := match o with
  | none => x = .pointer none ∧ B = []
  | some P => ∃ b mb, x = P0 b ∧ B = [b, mb] ∧ On w0 W b mb P
def RS (w0 W : World) (o : Option Po) (p : Value) (C : List Nat) : Prop := match o with
  | none => p = .pointer none ∧ C = []
  | some P => ∃ r g, p = P0 r ∧ C = [r, g] ∧ Ro w0 W r g P
def newO (n : Int) : Option Po := if 1 ≤ n ∧ n ≤ 16 then some (po0 n.toNat) else none
variable {w0 w W W' : World} {o q : Option Po} {x p y r : Value} {B C D E : List Nat}
theorem PS.step (h : PS w0 W o x B) (hk : Kept [] W W') : PS w0 W' o x B := by
  cases o with
  | none => exact h
  | some P => obtain ⟨b, mb, h1, h2, h3⟩ := h; exact ⟨b, mb, h1, h2, h3.step0 hk⟩
theorem RS.step (h : RS w0 W o p C) (hk : Kept [] W W') : RS w0 W' o p C := by
  cases o with
  | none => exact h
  | some P => obtain ⟨b, mb, h1, h2, h3⟩ := h; exact ⟨b, mb, h1, h2, h3.step0 hk⟩
theorem PS.lt (h : PS w0 W o x B) : ∀ i ∈ B, i < W.heap.size := by
  cases o with
  | none => obtain ⟨_, rfl⟩ := h; intro i hi; cases hi
  | some P => obtain ⟨b, mb, _, rfl, h3⟩ := h; have := h3.lt; intro i hi; simp at hi; rcases hi with rfl | rfl <;> omega
theorem RS.lt (h : RS w0 W o p C) : ∀ i ∈ C, i < W.heap.size := by
  cases o with
  | none => obtain ⟨_, rfl⟩ := h; intro i hi; cases hi
  | some P => obtain ⟨b, mb, _, rfl, h3⟩ := h; have := h3.lt; intro i hi; simp at hi; rcases hi with rfl | rfl <;> omega
theorem newO7 (n : Int) (h : Kept [] w0 W) : Calls Try.prog 7 #[.int .i64 n] W fun e w' => ∃ x r B, e = .returned (.tuple #[x, .int .i64 r]) ∧ PS w0 w' (newO n) x B ∧ (∀ i ∈ B, W.heap.size ≤ i) ∧ Kept [] W w' := by
  unfold newO
  by_cases hn : 1 ≤ n ∧ n ≤ 16
  · rw [if_pos hn]
    have h1 := on_new n.toNat h (by omega)
    rw [Int.toNat_of_nonneg (by omega)] at h1
    refine h1.mono ?_
    rintro e w' ⟨b, mb, h2, h3, h4, h5, h6⟩
    exact ⟨P0 b, 0, [b, mb], h2, ⟨b, mb, rfl, rfl, h5⟩, (by intro i hi; simp at hi; rcases hi with rfl | rfl <;> assumption), h6⟩
  · rw [if_neg hn]
    refine (new7_no n W hn).mono ?_
    rintro e w' ⟨h2, rfl⟩
    exact ⟨.pointer none, 2, [], h2, ⟨rfl, rfl⟩, (by intro i hi; cases hi), Kept.refl _ _⟩
theorem newO8 (n : Int) (h : Kept [] w0 W) : Calls Try.prog 8 #[.int .i64 n] W fun e w' => ∃ p C, e = .returned p ∧ RS w0 w' (newO n) p C ∧ (∀ i ∈ C, W.heap.size ≤ i) ∧ Kept [] W w' := by
  unfold newO
  by_cases hn : 1 ≤ n ∧ n ≤ 16
  · rw [if_pos hn]
    have h1 := ro_new n.toNat h (by omega)
    rw [Int.toNat_of_nonneg (by omega)] at h1
    refine h1.mono ?_
    rintro e w' ⟨b, mb, h2, h3, h4, h5, h6⟩
    exact ⟨P0 b, [b, mb], h2, ⟨b, mb, rfl, rfl, h5⟩, (by intro i hi; simp at hi; rcases hi with rfl | rfl <;> assumption), h6⟩
  · rw [if_neg hn]
    refine (rnew_no n W hn).mono ?_
    rintro e w' ⟨h2, rfl⟩
    exact ⟨.pointer none, [], h2, ⟨rfl, rfl⟩, (by intro i hi; cases hi), Kept.refl _ _⟩
def Far (B C : List Nat) : Prop := ∀ i ∈ B, ∀ j ∈ C, i ≠ j
theorem Far.symm (h : Far B C) : Far C B := fun i hi j hj e => h j hj i hi e.symm
theorem Far.of {n : Nat} (h : ∀ i ∈ B, i < n) (k : ∀ j ∈ C, n ≤ j) : Far B C := fun i hi j hj e => by have := h i hi; have := k j hj; omega
theorem Far.left (h : Far B D) (k : Far C D) : Far (B ++ C) D := fun i hi j hj => by
  rcases List.mem_append.1 hi with h1 | h1
  · exact h i h1 j hj
  · exact k i h1 j hj
/-- The program's pool beside the document's, or both are none. -/
def Sid (w0 W : World) (o : Option Po) (x p : Value) (B : List Nat) : Prop := match o with
  | none => x = .pointer none ∧ p = .pointer none ∧ B = []
  | some P => ∃ b mb r g, x = P0 b ∧ p = P0 r ∧ B = [b, mb, r, g] ∧ Tw w0 W b mb r g P
theorem Sid.of (h : PS w0 W o x B) (k : RS w0 W o p C) (hf : Far B C) : Sid w0 W o x p (B ++ C) := by
  cases o with
  | none => obtain ⟨h1, rfl⟩ := h; obtain ⟨k1, rfl⟩ := k; exact ⟨h1, k1, rfl⟩
  | some P =>
    obtain ⟨b, mb, h1, rfl, h3⟩ := h
    obtain ⟨r, g, k1, rfl, k3⟩ := k
    exact ⟨b, mb, r, g, h1, k1, rfl, h3, k3, ⟨hf b (by simp) r (by simp), hf b (by simp) g (by simp), hf mb (by simp) r (by simp), hf mb (by simp) g (by simp)⟩⟩
theorem Sid.lt (h : Sid w0 W o x p B) : ∀ i ∈ B, i < W.heap.size := by
  cases o with
  | none => obtain ⟨_, _, rfl⟩ := h; intro i hi; cases hi
  | some P =>
    obtain ⟨b, mb, r, g, _, _, rfl, h3⟩ := h
    have h4 := h3.on.lt
    have h5 := h3.ro.lt
    intro i hi
    simp at hi
    rcases hi with rfl | rfl | rfl | rfl <;> omega
theorem Sid.keep {X : List Nat} (h : Sid w0 W o x p B) (hk : Kept X W W') (hf : Far B X) (h3 : ∀ k ∈ X, w0.heap.size ≤ k) : Sid w0 W' o x p B := by
  cases o with
  | none => exact h
  | some P =>
    obtain ⟨b, mb, r, g, h1, h2, rfl, h4⟩ := h
    exact ⟨b, mb, r, g, h1, h2, rfl, h4.on.step hk (fun e => hf b (by simp) b e rfl) (fun e => hf mb (by simp) mb e rfl) h3, h4.ro.step hk (fun e => hf r (by simp) r e rfl) (fun e => hf g (by simp) g e rfl) h3, h4.ap⟩
theorem Sid.step (h : Sid w0 W o x p B) (hk : Kept [] W W') : Sid w0 W' o x p B := h.keep hk (fun i _ j hj => by cases hj) (fun k hk => by cases hk)
/-- Two pairs, apart. -/
structure Q4 (w0 W : World) (o q : Option Po) (x p y r : Value) : Prop where
  kept : Kept [] w0 W
  ex : ∃ B D, Sid w0 W o x p B ∧ Sid w0 W q y r D ∧ Far B D
theorem Q4.step (h : Q4 w0 W o q x p y r) (hk : Kept [] W W') : Q4 w0 W' o q x p y r := by
  obtain ⟨B, D, h1, h2, h3⟩ := h.ex
  exact ⟨h.kept.trans hk, B, D, h1.step hk, h2.step hk, h3⟩
theorem Q4.swap (h : Q4 w0 W o q x p y r) : Q4 w0 W q o y r x p := by
  obtain ⟨B, D, h1, h2, h3⟩ := h.ex
  exact ⟨h.kept, D, B, h2, h1, h3.symm⟩
theorem Q4.do {P P' : Po} {b mb c g b' mb' g' : Nat} {D : List Nat} (h : Tw w0 W b mb c g P) (hD : Sid w0 W q y r D) (hf : Far [b, mb, c, g] D) (hs : DS w0 W b mb c g P' b' mb' g' W') : Q4 w0 W' (some P') q (P0 b') (P0 c) y r := by
  have h0 : ∀ k ∈ [b, mb, c, g], w0.heap.size ≤ k := by
    intro k hk
    simp at hk
    have h1 := h.on.b0
    have h2 := h.on.m0
    have h3 := h.ro.b0
    have h4 := h.ro.g0
    rcases hk with rfl | rfl | rfl | rfl <;> assumption
  refine ⟨hs.tw.on.kept, [b', mb', c, g'], D, ⟨b', mb', c, g', rfl, rfl, rfl, hs.tw⟩, hD.keep hs.kept hf.symm h0, ?_⟩
  have hl := hD.lt
  intro i hi j hj
  have hj2 := hl j hj
  simp at hi
  rcases hi with rfl | rfl | rfl | rfl
  · rcases hs.nb with e | e
    · rw [e]; exact hf b (by simp) j hj
    · omega
  · rcases hs.nm with e | e
    · rw [e]; exact hf mb (by simp) j hj
    · omega
  · exact hf i (by simp) j hj
  · rcases hs.ng with e | e
    · rw [e]; exact hf g (by simp) j hj
    · omega
/-- Pins so far. -/
def okO (j : Nat) (o : Option Po) : Prop := ∀ P, o = some P → ∀ i, (P.S i).pn ≤ j
theorem newO_ok (n : Int) : okO 0 (newO n) := by
  intro P hP i
  unfold newO at hP
  split at hP
  · cases hP; exact Nat.zero_le _
  · cases hP
def sameO (o q : Option Po) : Bool := match o, q with
  | none, none => true
  | some P, some Q => sameP P Q
  | _, _ => false
theorem sameO_self (o : Option Po) : sameO o o = true := by
  cases o with
  | none => rfl
  | some P => exact sameP_self P
theorem nilN (w : World) : Nil w (.pointer none) := .inl rfl
theorem sameO13 (hx : Sid w0 W o x p B) (hy : Sid w0 W q y r D) : Calls Try.prog 13 #[x, y] W fun e w' => e = .returned (.bool (sameO o q)) ∧ Kept [] W w' := by
  cases o with
  | none =>
    obtain ⟨rfl, _, _⟩ := hx
    cases q with
    | none => obtain ⟨rfl, _, _⟩ := hy; exact (same13_zz _ _ (nilN W) (nilN W)).mono (fun e w' ⟨h1, h2⟩ => ⟨h1, by rw [h2]; exact Kept.refl _ _⟩)
    | some Q => obtain ⟨b, mb, c, g, rfl, _, _, hb⟩ := hy; obtain ⟨L, hp⟩ := hb.on.pg; exact (same13_zp _ (nilN W) hp).mono (fun e w' ⟨h1, h2⟩ => ⟨h1, by rw [h2]; exact Kept.refl _ _⟩)
  | some P =>
    obtain ⟨b, mb, c, g, rfl, _, _, hb⟩ := hx
    cases q with
    | none => obtain ⟨rfl, _, _⟩ := hy; obtain ⟨L, hp⟩ := hb.on.pg; exact (same13_pz _ hp (nilN W)).mono (fun e w' ⟨h1, h2⟩ => ⟨h1, by rw [h2]; exact Kept.refl _ _⟩)
    | some Q => obtain ⟨b2, mb2, c2, g2, rfl, _, _, hb2⟩ := hy; exact on_same hb.on hb2.on
theorem sameO14 (hx : Sid w0 W o x p B) (hy : Sid w0 W q y r D) : Calls Try.prog 14 #[p, r] W fun e w' => e = .returned (.bool (sameO o q)) ∧ Kept [] W w' := by
  cases o with
  | none =>
    obtain ⟨_, rfl, _⟩ := hx
    cases q with
    | none => obtain ⟨_, rfl, _⟩ := hy; exact (rsame_zz W).mono (fun e w' ⟨h1, h2⟩ => ⟨h1, by rw [h2]; exact Kept.refl _ _⟩)
    | some Q => obtain ⟨b, mb, c, g, _, rfl, _, hb⟩ := hy; exact (rsame_zp W).mono (fun e w' ⟨h1, h2⟩ => ⟨h1, by rw [h2]; exact Kept.refl _ _⟩)
  | some P =>
    obtain ⟨b, mb, c, g, _, rfl, _, hb⟩ := hx
    cases q with
    | none => obtain ⟨_, rfl, _⟩ := hy; exact (rsame_pz W).mono (fun e w' ⟨h1, h2⟩ => ⟨h1, by rw [h2]; exact Kept.refl _ _⟩)
    | some Q => obtain ⟨b2, mb2, c2, g2, _, rfl, _, hb2⟩ := hy; exact ro_same hb.ro hb2.ro
theorem sameSelf (hx : Sid w0 W o x p B) : Calls Try.prog 13 #[x, x] W fun e w' => e = .returned (.bool true) ∧ Kept [] W w' := by
  have := sameO13 hx hx
  rw [sameO_self] at this
  exact this
theorem Q4.same13 (h : Q4 w0 W o q x p y r) : Calls Try.prog 13 #[x, y] W fun e w' => e = .returned (.bool (sameO o q)) ∧ Kept [] W w' := by
  obtain ⟨B, D, h1, h2, h3⟩ := h.ex; exact sameO13 h1 h2
theorem Q4.same14 (h : Q4 w0 W o q x p y r) : Calls Try.prog 14 #[p, r] W fun e w' => e = .returned (.bool (sameO o q)) ∧ Kept [] W w' := by
  obtain ⟨B, D, h1, h2, h3⟩ := h.ex; exact sameO14 h1 h2
theorem Q4.self13 (h : Q4 w0 W o q x p y r) : Calls Try.prog 13 #[x, x] W fun e w' => e = .returned (.bool true) ∧ Kept [] W w' := by
  obtain ⟨B, D, h1, h2, h3⟩ := h.ex; exact sameSelf h1
/-- The document's two are made, in any order, and laid into their variables. -/
@[reducible] def ST3 (w0 V : World) (o q : Option Po) (d : Nat → Bool) (vs : Nat → Value) (W : World) : Prop :=
  (Kept [] V W ∧ ∃ C E, (d 2 = true → RS w0 W o (vs 2) C ∧ ∀ i ∈ C, V.heap.size ≤ i) ∧ (d 5 = true → RS w0 W q (vs 5) E ∧ ∀ i ∈ E, V.heap.size ≤ i) ∧ (d 2 = true → d 5 = true → Far C E)) ∧ (d 6 = true → vs 6 = vs 2 ∧ d 2 = true) ∧ (d 7 = true → vs 7 = vs 5 ∧ d 5 = true)
theorem ST3.loc {w0 V : World} {o q : Option Po} : ∀ d d' vs vs' W, (∀ i ∈ [2, 5, 6, 7], d i = d' i ∧ vs i = vs' i) → ST3 w0 V o q d vs W → ST3 w0 V o q d' vs' W := by
  intro d d' vs vs' W H h
  have e0 := H 2 (by simp)
  have e1 := H 5 (by simp)
  have e2 := H 6 (by simp)
  have e3 := H 7 (by simp)
  unfold ST3 at h ⊢
  rw [← e0.1, ← e1.1, ← e0.2, ← e1.2, ← e2.1, ← e3.1, ← e2.2, ← e3.2]
  exact h
section
variable {o : Oper} {a : Act} {w : World} {K : Act → World → Prop} {Q : Exit → Act → World → Prop}
theorem o_idx44 (x : Operand) (k : Nat) (hk : k < 2) (ho : o.op = .indexAddr 44 x (.const (.int .i64 (k : Int)))) (b : Nat) (hx : a.eval x = P0 b) (h : K (a.put o.dst (.pointer (some ⟨b, k, none⟩))) w) : o.wp Try.prog a w K Q := by
  have hk2 : (k : Int) < 2 := by omega
  unfold Oper.wp execOp
  simp only [ho, hx]
  simp [go_sem, Act.eval, hk2]
  exact h
theorem o_eqlBB (x y : Operand) (ho : o.op = .binOp .eql 4 x y 4) (m : Bool) (hx : a.eval x = .bool m) (hy : a.eval y = .bool m) (h : K (a.put o.dst (.bool true)) w) : o.wp Try.prog a w K Q := by
  unfold Oper.wp execOp
  simp only [ho, hx, hy]
  simp [go_sem]
  exact h
end

end Go.Proofs.Ytgnafbohikbpfaa
