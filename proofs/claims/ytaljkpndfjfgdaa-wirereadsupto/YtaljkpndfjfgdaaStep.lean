/-
  The walk of 'step': one call of both readers.
-/
import Derived.Test.YtaljkpndfjfgdaaRefc
import Derived.Test.YtaljkpndfjfgdaaSpoil
import Derived.Test.YtaljkpndfjfgdaaSlab
namespace Go.Proofs.Ytaljkpndfjfgdaa
open Go.RowKit

/-- Of what was there only blocks b and d may have turned. -/
structure Only2 (w w' : World) (b d : Nat) : Prop where
  os : w'.os = w.os
  tape : w'.tape = w.tape
  output : w'.output = w.output
  size : w.heap.size ≤ w'.heap.size
  block : ∀ k, k < w.heap.size → k ≠ b → k ≠ d → w'.heap[k]? = w.heap[k]?

theorem Only2.refl (w : World) (b d : Nat) : Only2 w w b d := ⟨rfl, rfl, rfl, Nat.le_refl _, fun _ _ _ _ => rfl⟩
theorem Only2.step {w w1 w2 : World} {b d : Nat} {row : Option Nat} (h : Only2 w w1 b d) (hg : w1.grownBy w2 row) (hr : ∀ k, row = some k → k = b ∨ k = d ∨ w.heap.size ≤ k) : Only2 w w2 b d :=
  ⟨hg.os.trans h.os, hg.tape.trans h.tape, hg.output.trans h.output, Nat.le_trans h.size hg.size, fun k hk h1 h2 => (hg.block k (Nat.lt_of_lt_of_le hk h.size) (by intro e; have := hr k e.symm; omega)).trans (h.block k hk h1 h2)⟩

/-- The two readers, side by side. -/
def Both (w : World) (b g d : Nat) (bo : Option Addr) (bm bc : Nat) (L : List Int) (pos : Nat) : Prop :=
  Rd w b g (L.drop pos) ∧ RR w d bo bm bc L pos ∧ b ≠ d ∧ g ≠ d ∧ (∀ a, bo = some a → a.block ≠ b) ∧ (L ≠ [] → g < w.heap.size)

def StepPost (w : World) (b g d : Nat) (bo : Option Addr) (bm bc : Nat) (L : List Int) (e : Ending) (w' : World) : Prop :=
  e = .returned (.bool true) ∧ (∃ pos, Both w' b g d bo bm bc L pos) ∧ Only2 w w' b d

theorem Both.alloc {w : World} {b g d : Nat} {bo : Option Addr} {bm bc : Nat} {L : List Int} {pos : Nat} (h : Both w b g d bo bm bc L pos) (o : Obj) : Both (w.alloc o) b g d bo bm bc L pos :=
  ⟨rd_alloc h.1 o, h.2.1.keep (World.grownBy_alloc w o none) (by simp) (by simp), h.2.2.1, h.2.2.2.1, h.2.2.2.2.1, fun hl => by have := h.2.2.2.2.2 hl; simp; omega⟩

/-- The first reader has gone on, the second is where it was. -/
theorem Both.mid {w w1 : World} {b g d : Nat} {bo : Option Addr} {bm bc : Nat} {L l1 : List Int} {pos : Nat} (h : Both w b g d bo bm bc L pos) (hr : Rd w1 b g l1) (hg : w.grownBy w1 (some b)) : RR w1 d bo bm bc L pos :=
  h.2.1.keep hg (by intro e; cases e; exact h.2.2.1 rfl) (by intro _ a ha e; cases e; exact h.2.2.2.2.1 a ha rfl)

/-- Both have gone on alike. -/
theorem Both.next {w w1 w2 : World} {b g d : Nat} {bo : Option Addr} {bm bc : Nat} {L l1 : List Int} {pos : Nat} (h : Both w b g d bo bm bc L pos) (hr : Rd w1 b g l1) (hR : ∃ p, RR w2 d bo bm bc L p ∧ l1 = L.drop p) (hg1 : w.grownBy w1 (some b)) (hg2 : w1.grownBy w2 (some d)) :
    ∃ p, Both w2 b g d bo bm bc L p := by
  obtain ⟨p, hp, rfl⟩ := hR
  exact ⟨p, hr.keep hg2 (by intro e; cases e; exact h.2.2.1 rfl) (by intro _ e; cases e; exact h.2.2.2.1 rfl), hp, h.2.2.1, h.2.2.2.1, h.2.2.2.2.1, fun hl => by have := h.2.2.2.2.2 hl; have := hg1.size; have := hg2.size; omega⟩

set_option maxHeartbeats 1000000 in
set_option maxRecDepth 100000 in
theorem step_1 (b g d : Nat) (bo : Option Addr) (bm bc : Nat) (L : List Int) (pos : Nat) (most : Int) (w : World) (h : Both w b g d bo bm bc L pos) :
    Calls Try.prog 20 #[.pointer (some ⟨b, 0, none⟩), .pointer (some ⟨d, 0, none⟩), .agg #[.int .i64 1, .int .i64 most]] w fun e w' => StepPost w b g d bo bm bc L e w' := by
  have h0 := h.alloc (.cells #[.int .i64 1, .int .i64 most] 43)
  have o0 : Only2 w (w.alloc (.cells #[.int .i64 1, .int .i64 most] 43)) b d := (Only2.refl w b d).step (World.grownBy_alloc _ _ none) (by intro k hk; cases hk)
  have hN := hide (Number25 b g _ _ h0.1)
  go_enter Try.func20, Try.ntmps20
  go_wp2_with fail
  refine (unhide hN).mono ?_
  rintro e w1 ⟨rfl, hr1, hg1⟩
  have hM := hide (refNumber38 d bo bm bc L pos w1 (h0.mid hr1 hg1))
  clear hN
  go_wp2_with fail
  refine (unhide hM).mono ?_
  rintro e w2 ⟨rfl, hR2, hg2⟩
  have hb := hide (h0.next hr1 hR2 hg1 hg2)
  have ho := hide ((o0.step hg1 (by intro k hk; cases hk; exact .inl rfl)).step hg2 (by intro k hk; cases hk; exact .inr (.inl rfl)))
  clear hM hr1 hg1 hR2 hg2 h0 o0
  go_wp2_with (first | (go_at_call 23; refine (num_err _ _).mono ?_; rintro e w' ⟨rfl, rfl⟩))
  go_ret
  exact ⟨rfl, unhide hb, unhide ho⟩

set_option maxHeartbeats 1000000 in
set_option maxRecDepth 100000 in
theorem step_2 (b g d : Nat) (bo : Option Addr) (bm bc : Nat) (L : List Int) (pos : Nat) (most : Int) (w : World) (h : Both w b g d bo bm bc L pos) :
    Calls Try.prog 20 #[.pointer (some ⟨b, 0, none⟩), .pointer (some ⟨d, 0, none⟩), .agg #[.int .i64 2, .int .i64 most]] w fun e w' => StepPost w b g d bo bm bc L e w' := by
  have h0 := h.alloc (.cells #[.int .i64 2, .int .i64 most] 43)
  have o0 : Only2 w (w.alloc (.cells #[.int .i64 2, .int .i64 most] 43)) b d := (Only2.refl w b d).step (World.grownBy_alloc _ _ none) (by intro k hk; cases hk)
  have hN := hide (Signed26 b g _ _ h0.1)
  go_enter Try.func20, Try.ntmps20
  go_wp2_with fail
  refine (unhide hN).mono ?_
  rintro e w1 ⟨rfl, hr1, hg1⟩
  have hM := hide (refSigned39 d bo bm bc L pos w1 (h0.mid hr1 hg1))
  clear hN
  go_wp2_with fail
  refine (unhide hM).mono ?_
  rintro e w2 ⟨rfl, hR2, hg2⟩
  have hb := hide (h0.next hr1 hR2 hg1 hg2)
  have ho := hide ((o0.step hg1 (by intro k hk; cases hk; exact .inl rfl)).step hg2 (by intro k hk; cases hk; exact .inr (.inl rfl)))
  clear hM hr1 hg1 hR2 hg2 h0 o0
  go_wp2_with (first | (go_at_call 23; refine (num_err _ _).mono ?_; rintro e w' ⟨rfl, rfl⟩))
  go_ret
  exact ⟨rfl, unhide hb, unhide ho⟩

set_option maxHeartbeats 1000000 in
set_option maxRecDepth 100000 in
theorem step_3 (b g d : Nat) (bo : Option Addr) (bm bc : Nat) (L : List Int) (pos : Nat) (most : Int) (w : World) (h : Both w b g d bo bm bc L pos) :
    Calls Try.prog 20 #[.pointer (some ⟨b, 0, none⟩), .pointer (some ⟨d, 0, none⟩), .agg #[.int .i64 3, .int .i64 most]] w fun e w' => StepPost w b g d bo bm bc L e w' := by
  have h0 := h.alloc (.cells #[.int .i64 3, .int .i64 most] 43)
  have o0 : Only2 w (w.alloc (.cells #[.int .i64 3, .int .i64 most] 43)) b d := (Only2.refl w b d).step (World.grownBy_alloc _ _ none) (by intro k hk; cases hk)
  have hN := hide (Flag28 b g _ _ h0.1)
  go_enter Try.func20, Try.ntmps20
  go_wp2_with fail
  refine (unhide hN).mono ?_
  rintro e w1 ⟨rfl, hr1, hg1⟩
  have hM := hide (refFlag40 d bo bm bc L pos w1 (h0.mid hr1 hg1))
  clear hN
  go_wp2_with fail
  refine (unhide hM).mono ?_
  rintro e w2 ⟨rfl, hR2, hg2⟩
  have hb := hide (h0.next hr1 hR2 hg1 hg2)
  have ho := hide ((o0.step hg1 (by intro k hk; cases hk; exact .inl rfl)).step hg2 (by intro k hk; cases hk; exact .inr (.inl rfl)))
  clear hM hr1 hg1 hR2 hg2 h0 o0
  go_wp2_with (first | (go_at_call 23; refine (num_err _ _).mono ?_; rintro e w' ⟨rfl, rfl⟩))
  go_ret
  exact ⟨rfl, unhide hb, unhide ho⟩

set_option maxHeartbeats 1000000 in
set_option maxRecDepth 100000 in
theorem step_0 (b g d : Nat) (bo : Option Addr) (bm bc : Nat) (L : List Int) (pos : Nat) (kind most : Int) (w : World) (h : Both w b g d bo bm bc L pos) (hk : kind < 1 ∨ 5 < kind) :
    Calls Try.prog 20 #[.pointer (some ⟨b, 0, none⟩), .pointer (some ⟨d, 0, none⟩), .agg #[.int .i64 kind, .int .i64 most]] w fun e w' => StepPost w b g d bo bm bc L e w' := by
  have h0 := h.alloc (.cells #[.int .i64 kind, .int .i64 most] 43)
  have o0 : Only2 w (w.alloc (.cells #[.int .i64 kind, .int .i64 most] 43)) b d := (Only2.refl w b d).step (World.grownBy_alloc _ _ none) (by intro k hk; cases hk)
  have hb := hide h0
  have ho := hide o0
  have e1 : (kind == 1) = false := by rw [beq_eq_false_iff_ne]; omega
  have e2 : (kind == 2) = false := by rw [beq_eq_false_iff_ne]; omega
  have e3 : (kind == 3) = false := by rw [beq_eq_false_iff_ne]; omega
  have e4 : (kind == 4) = false := by rw [beq_eq_false_iff_ne]; omega
  have e5 : (kind == 5) = false := by rw [beq_eq_false_iff_ne]; omega
  clear h0 o0 hk
  go_enter Try.func20, Try.ntmps20
  go_wp2
  go_ret
  exact ⟨rfl, ⟨pos, unhide hb⟩, unhide ho⟩

/-- A row of the call's own is written over: both stay. -/
theorem Both.grown {w w' : World} {b g d : Nat} {bo : Option Addr} {bm bc : Nat} {L : List Int} {pos B : Nat} {row : Option Nat} (h : Both w b g d bo bm bc L pos) (hg : w.grownBy w' row) (hr : ∀ k, row = some k → B ≤ k) (hb : b < B) (hd : d < B) (hgB : L ≠ [] → g < B) (hbo : L ≠ [] → ∀ a, bo = some a → a.block < B) :
    Both w' b g d bo bm bc L pos := by
  refine ⟨h.1.keep hg (by intro e; have := hr b e.symm; omega) (by intro hl e; have h1 := hr g e.symm; have h2 := hgB (by intro e2; rw [e2] at hl; simp at hl); omega), h.2.1.keep hg (by intro e; have := hr d e.symm; omega) (by intro hl a ha e; have h1 := hr _ e.symm; have h2 := hbo hl a ha; omega), h.2.2.1, h.2.2.2.1, h.2.2.2.2.1, fun hl => by have := h.2.2.2.2.2 hl; have := hg.size; omega⟩

theorem rdBytes_nil (l : List Int) (most : Int) (h : (rdBytes most l).2.1 ≠ 0) : (rdBytes most l).1 = [] ∧ (rdBytes most l).2.2 = l := by
  unfold rdBytes at h ⊢
  by_cases h1 : (rdCount most l).2.1 = 0
  · rw [if_neg (by simpa using h1)] at h ⊢
    by_cases h2 : (rdCount most l).2.2.length < (rdCount most l).1
    · rw [if_pos h2]; simp
    · rw [if_neg h2] at h; simp at h
  · rw [if_pos (by simpa using h1)]; simp

theorem refBytes41 (d : Nat) (bo : Option Addr) (bm bc : Nat) (L : List Int) (pos : Nat) (w : World) (h : RR w d bo bm bc L pos) (most : Int) (hm0 : 0 ≤ most) (hm : most ≤ 9223372036854775807) :
    Calls Try.prog 41 #[.pointer (some ⟨d, 0, none⟩), .int .i64 most] w fun e w' => RBTells w d bo bm bc L (rdBytes most (L.drop pos)).1 (rdBytes most (L.drop pos)).2.1 (rdBytes most (L.drop pos)).2.2 e w' := by
  by_cases her : (rdBytes most (L.drop pos)).2.1 = 0
  · have := refBytes41_ok d bo bm bc L pos w h most hm0 hm her
    rw [her]; exact this
  · have h1 := refBytes41_err d bo bm bc L pos w h most hm0 hm her
    obtain ⟨e1, e2⟩ := rdBytes_nil (L.drop pos) most her
    rw [e1, e2]; exact h1

set_option maxHeartbeats 1000000 in
set_option maxRecDepth 100000 in
theorem step_4n (b g d : Nat) (bo : Option Addr) (bm bc : Nat) (L : List Int) (pos : Nat) (most : Int) (w : World) (h : Both w b g d bo bm bc L pos) (hm : most < 0) :
    Calls Try.prog 20 #[.pointer (some ⟨b, 0, none⟩), .pointer (some ⟨d, 0, none⟩), .agg #[.int .i64 4, .int .i64 most]] w fun e w' => StepPost w b g d bo bm bc L e w' := by
  have h0 := h.alloc (.cells #[.int .i64 4, .int .i64 most] 43)
  have o0 : Only2 w (w.alloc (.cells #[.int .i64 4, .int .i64 most] 43)) b d := (Only2.refl w b d).step (World.grownBy_alloc _ _ none) (by intro k hk; cases hk)
  have hlen : (L.drop pos).length ≤ 140737488355328 := by rw [List.length_drop]; have := h.2.1.2.1.1; have := h.2.1.2.2.2.2.1; omega
  have hN := Bytes27 b g _ _ h0.1 most (by omega) hlen
  rw [show rdBytes most (L.drop pos) = ([], 2, L.drop pos) by unfold rdBytes rdCount; rw [if_pos hm]; simp] at hN
  have HN := hide hN
  have hbw := h.1.lt
  clear hN hlen
  go_enter Try.func20, Try.ntmps20
  go_wp2_with fail
  refine (unhide HN).mono ?_
  rintro e w1 ⟨ao, m, c, rfl, hx, hr1, hg1⟩
  obtain rfl : m = 0 := hx.1
  have hc0 : w1.cell? ⟨w.heap.size, 0, none⟩ = some (.int .i64 4) := hg1.cell (by simp) (by simp; omega)
  have hc1 : w1.cell? ⟨w.heap.size, 1, none⟩ = some (.int .i64 most) := hg1.cell (by simp) (by simp; omega)
  have hb : Hid (Both w1 b g d bo bm bc L pos) := ⟨hr1, h0.mid hr1 hg1, h.2.2.1, h.2.2.2.1, h.2.2.2.2.1, fun hl => by have := h0.2.2.2.2.2 hl; have := hg1.size; omega⟩
  have ho := hide (o0.step hg1 (by intro k hk; cases hk; exact .inl rfl))
  clear HN hx hr1 hg1 h0 o0
  go_wp2_with (first | (go_at_call 23; refine (num_err _ _).mono ?_; rintro e w' ⟨rfl, rfl⟩))
  go_ret
  exact ⟨rfl, ⟨pos, unhide hb⟩, unhide ho⟩

set_option maxHeartbeats 1000000 in
set_option maxRecDepth 100000 in
theorem step_4 (b g d : Nat) (bo : Option Addr) (bm bc : Nat) (L : List Int) (pos : Nat) (most : Int) (w : World) (h : Both w b g d bo bm bc L pos) (hm0 : 0 ≤ most) (hm : most ≤ 9223372036854775807) :
    Calls Try.prog 20 #[.pointer (some ⟨b, 0, none⟩), .pointer (some ⟨d, 0, none⟩), .agg #[.int .i64 4, .int .i64 most]] w fun e w' => StepPost w b g d bo bm bc L e w' := by
  have h0 := h.alloc (.cells #[.int .i64 4, .int .i64 most] 43)
  have o0 : Only2 w (w.alloc (.cells #[.int .i64 4, .int .i64 most] 43)) b d := (Only2.refl w b d).step (World.grownBy_alloc _ _ none) (by intro k hk; cases hk)
  have hlen : (L.drop pos).length ≤ 1048576 := by rw [List.length_drop]; have := h.2.1.2.1.1; have := h.2.1.2.2.2.2.1; omega
  have hN := hide (Bytes27 b g _ _ h0.1 most hm (by omega))
  have hxl : ((rdBytes most (L.drop pos)).1).length ≤ 1048576 := by
    unfold rdBytes; split
    · simp
    · split
      · simp
      · simp only [List.length_take]; have := rdCount_len most (L.drop pos); omega
  have hbw := h.1.lt
  have hdw : d < w.heap.size := (Array.getElem?_eq_some_iff.1 h.2.1.1).1
  have hblt := h.2.1.blt
  have hglt := h.2.2.2.2.2
  go_enter Try.func20, Try.ntmps20
  go_wp2_with fail
  refine (unhide hN).mono ?_
  rintro e w1 ⟨ao, m, c, rfl, hx, hr1, hg1⟩
  have hM := hide (refBytes41 d bo bm bc L pos w1 (h0.mid hr1 hg1) most hm0 hm)
  have hc1 : w1.cell? ⟨w.heap.size, 1, none⟩ = some (.int .i64 most) := hg1.cell (by simp) (by simp; omega)
  clear hN
  go_wp2_with fail
  refine (unhide hM).mono ?_
  rintro e w2 ⟨ao2, m2, c2, rfl, hx2, hR2, hg2⟩
  have hx' := hx.kept hg2 (by intro k hk; cases hk; simp; omega)
  have cv1 := hx'.conv
  have cv2 := hx2.conv
  have hb2 := h0.next hr1 hR2 hg1 hg2
  have ho2 := (o0.step hg1 (by intro k hk; cases hk; exact .inl rfl)).step hg2 (by intro k hk; cases hk; exact .inr (.inl rfl))
  have hml : m ≤ 140737488355000 := by have := hx.1; omega
  have hBs : w.heap.size + 1 ≤ w2.heap.size := by have h8 := hg1.size; have h9 := hg2.size; simp at h8; omega
  have hsp := hide (spoil17 (w.heap.size + 1) ao m c _ w2 (hx'.lower (by simp)) hml hBs)
  have hrow : ∀ k, (Value.slice ao m c).ownBlock = some k → w.heap.size + 1 ≤ k := fun k hk => by have := (hx.2.lt k hk).1; simpa using this
  clear hM hr1 hg1 hR2 hg2 h0 o0 hx hx' hx2
  revert cv1 cv2
  generalize (rdBytes most (L.drop pos)).1 = x
  generalize (rdBytes most (L.drop pos)).2.1 = er
  intro cv1 cv2
  go_wp2_with (first | (go_at_call 23; refine (num_err _ _).mono ?_; rintro e w' ⟨rfl, rfl⟩))
  refine (unhide hsp).mono ?_
  rintro e w3 ⟨rfl, hg3⟩
  obtain ⟨p, hp⟩ := hb2
  have hb3 := hide (hp.grown (B := w.heap.size + 1) hg3 hrow (by omega) (by omega) (by intro hl; have := hglt hl; omega) (by intro hl a ha; have := hblt hl a ha; omega))
  have ho3 := hide (ho2.step hg3 (by intro k hk; have := hrow k hk; omega))
  clear hsp hg3 hp ho2 cv1 cv2 hrow
  go_wp2
  go_ret
  exact ⟨rfl, ⟨p, unhide hb3⟩, unhide ho3⟩

end Go.Proofs.Ytaljkpndfjfgdaa
