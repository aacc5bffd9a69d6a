/-
  The walks of the reader's methods Signed, Flag and Bytes.
-/
import Derived.Test.YtaljkpndfjfgdaaMeth
import Derived.Laws.DeepNot64
namespace Go.Proofs.Ytaljkpndfjfgdaa
open Go.RowKit

set_option maxHeartbeats 400000 in
theorem signed48 (b g : Nat) (l : List Int) (w : World) (h : Rd w b g l) :
    Calls Try.prog 48 #[.pointer (some ⟨b, 0, none⟩)] w fun e w' => Tells w b g (.int .i64 (unf (rdNum l).1)) (rdNum l).2.1 (rdNum l).2.2 e w' := by
  have hN := hide (number46 b g l w h)
  have hlt := rdNum_lt h.1
  revert hN hlt
  generalize (rdNum l).1 = n
  generalize (rdNum l).2.1 = er
  generalize (rdNum l).2.2 = l1
  intro hN hlt
  by_cases h1 : n % 2 = 1
  · have hu : Hid (bits BinOp.xor IntKind.i64 (-1) (((n / 2 : Nat) : Int)) = unf n) := by
      show _ = _
      unfold unf; rw [if_pos h1, i64_not _ (by omega)]; omega
    have h2 : (n : Int) % 2 = 1 := by omega
    have h3 : (((n : Int) % 2) == 1) = true := by rw [beq_iff_eq]; exact h2
    clear h1 h2
    go_enter Try.func48, Try.ntmps48
    go_wp2_with fail
    refine (unhide hN).mono ?_
    rintro e w1 ⟨rfl, hr1, hg1⟩
    clear hN
    go_wp2
    go_ret2
    exact ⟨by rw [← hu.out]; rfl, hr1, hg1⟩
  · have hu : Hid (((n / 2 : Nat) : Int) = unf n) := by
      show _ = _
      unfold unf; rw [if_neg h1]
    have h2 : (n : Int) % 2 = 0 := by omega
    have h3 : (((n : Int) % 2) == 1) = false := by rw [beq_eq_false_iff_ne]; omega
    clear h1 h2
    go_enter Try.func48, Try.ntmps48
    go_wp2_with fail
    refine (unhide hN).mono ?_
    rintro e w1 ⟨rfl, hr1, hg1⟩
    clear hN
    go_wp2
    go_ret2
    exact ⟨by rw [← hu.out]; rfl, hr1, hg1⟩

set_option maxHeartbeats 400000 in
/-- Reader.Signed -/
theorem Signed26 (b g : Nat) (l : List Int) (w : World) (h : Rd w b g l) :
    Calls Try.prog 26 #[.pointer (some ⟨b, 0, none⟩)] w fun e w' => Tells w b g (.int .i64 (unf (rdNum l).1)) (rdNum l).2.1 (rdNum l).2.2 e w' := by
  obtain ⟨ao, m, c, hat⟩ := h.at
  have hN := signed48 b g l (w.alloc (was ao m c)) (rd_alloc h _)
  have H : Hid (Calls Try.prog 47 #[.pointer (some ⟨b, 0, none⟩), .func (.func 48) #[] #[]] w fun e w' => Tells w b g (.int .i64 (unf (rdNum l).1)) (rdNum l).2.1 (rdNum l).2.2 e w') := by
    rcases rdNum_cases l with h0 | h4
    · refine whole47_ok b g l ao m c w hat _ (hN.mono ?_)
      intro e w1 ht
      exact ⟨⟨_, by rw [ht.1, h0]⟩, ht.alloc⟩
    · have hu : unf 0 = 0 := by decide
      rw [h4] at hN ⊢
      simp only [hu]
      refine whole47_bad b g l ao m c w hat 4 (by decide) (hN.mono ?_)
      intro e w1 ht
      exact ⟨⟨_, ht.1⟩, ⟨_, ht.2.1⟩, ht.2.2⟩
  clear hN
  go_enter Try.func26, Try.ntmps26
  go_wp2_with fail
  refine H.out.mono ?_
  rintro e w1 ⟨rfl, h1, h2⟩
  go_wp2
  go_ret2
  exact ⟨rfl, h1, h2⟩

set_option maxHeartbeats 400000 in
theorem flag53 (b g : Nat) (l : List Int) (w : World) (h : Rd w b g l) :
    Calls Try.prog 53 #[.pointer (some ⟨b, 0, none⟩)] w fun e w' => Tells w b g (.bool (rdFlag l).1) (rdFlag l).2.1 (rdFlag l).2.2 e w' := by
  have hr := h
  obtain ⟨hby, hbg, ao, m, c, hw, hh, ha⟩ := h
  have hc1 : w.cell? ⟨b, 1, none⟩ = some (.slice ao m c) := by rw [cell_of_block hw]; rfl
  have hf1 : w.frozen? ⟨b, 1, none⟩ = false := frozen_of_block hw 1
  cases l with
  | nil =>
    obtain rfl : m = 0 := by have := hh.1; simpa using this.symm
    simp only [rdFlag]
    go_enter Try.func53, Try.ntmps53
    go_wp2
    go_ret2
    exact ⟨rfl, hr, World.grownBy.refl _ _⟩
  | cons x r =>
    have hm : r.length + 1 = m := by have := hh.1; simpa using this
    have h0m : 0 < m := by omega
    have hm0 : ((m : Int) == 0) = false := by rw [beq_eq_false_iff_ne]; omega
    obtain ⟨hx0, hx1⟩ := hby x (by simp)
    cases ao with
    | none => have := (hh.2.2.1 rfl).1; omega
    | some a =>
      obtain ⟨off, rfl⟩ := ha a rfl
      have hcx := hh.2.2.2 _ rfl 0 (.int .u8 x) (by simp [u8s])
      rw [Addr.add_lit, Nat.add_zero] at hcx
      by_cases hx : 1 < x
      · have e1 : rdFlag (x :: r) = (false, 4, x :: r) := by simp [rdFlag, hx]
        rw [e1]
        clear e1 hm
        go_enter Try.func53, Try.ntmps53
        go_wp2
        go_ret2
        exact ⟨rfl, hr, World.grownBy.refl _ _⟩
      · have e1 : rdFlag (x :: r) = (x == 1, 0, r) := by simp [rdFlag, hx]
        rw [e1]
        have hfin : Hid (∀ ao' m' c', ((c = 1 ∧ ao' = some ⟨g, off, none⟩) ∨ ao' = some ⟨g, off + 1, none⟩) → m' = m - 1 → c' = c - 1 → Tells w b g (.bool (x == 1)) 0 r (.returned (.tuple #[.bool (x == 1), .int .i64 0])) (w.setCell ⟨b, 1, none⟩ (.slice ao' m' c'))) := by
          intro ao' m' c' hao hm' hc'
          subst hm' hc'
          exact ⟨rfl, rd_move (k := 1) hw hh hby hbg (by omega) hao, grownBy_set _ _ _ _⟩
        clear e1 hm
        go_enter Try.func53, Try.ntmps53
        go_wp2
        all_goals go_ret2
        · exact hfin.out _ _ _ (.inl ⟨‹_›, rfl⟩) rfl (by omega)
        · exact hfin.out _ _ _ (.inr rfl) rfl rfl

theorem rdFlag_cases (l : List Int) : (rdFlag l).2.1 = 0 ∨ (rdFlag l = (false, 4, l)) := by
  cases l with
  | nil => right; rfl
  | cons x r =>
    by_cases h : 1 < x
    · right; simp [rdFlag, h]
    · left; simp [rdFlag, h]

set_option maxHeartbeats 400000 in
/-- Reader.Flag -/
theorem Flag28 (b g : Nat) (l : List Int) (w : World) (h : Rd w b g l) :
    Calls Try.prog 28 #[.pointer (some ⟨b, 0, none⟩)] w fun e w' => Tells w b g (.bool (rdFlag l).1) (rdFlag l).2.1 (rdFlag l).2.2 e w' := by
  obtain ⟨ao, m, c, hat⟩ := h.at
  have hN := flag53 b g l (w.alloc (was ao m c)) (rd_alloc h _)
  have H : Hid (Calls Try.prog 52 #[.pointer (some ⟨b, 0, none⟩), .func (.func 53) #[] #[]] w fun e w' => Tells w b g (.bool (rdFlag l).1) (rdFlag l).2.1 (rdFlag l).2.2 e w') := by
    rcases rdFlag_cases l with h0 | h4
    · refine whole52_ok b g l ao m c w hat _ (hN.mono ?_)
      intro e w1 ht
      exact ⟨⟨_, by rw [ht.1, h0]⟩, ht.alloc⟩
    · rw [h4] at hN ⊢
      refine whole52_bad b g l ao m c w hat 4 (by decide) (hN.mono ?_)
      intro e w1 ht
      exact ⟨⟨_, ht.1⟩, ⟨_, ht.2.1⟩, ht.2.2⟩
  clear hN
  go_enter Try.func28, Try.ntmps28
  go_wp2_with fail
  refine H.out.mono ?_
  rintro e w1 ⟨rfl, h1, h2⟩
  go_wp2
  go_ret2
  exact ⟨rfl, h1, h2⟩

/-- How reading bytes ends. -/
def BTells (w : World) (b g : Nat) (x : List Int) (er : Int) (l : List Int) (e : Ending) (w' : World) : Prop :=
  ∃ ao m c, e = .returned (.tuple #[.slice ao m c, .int .i64 er]) ∧ OwnS w' w.heap.size ao m c x ∧ Rd w' b g l ∧ w.grownBy w' (some b)

theorem owns_nil (w : World) (B : Nat) : OwnS w B none 0 0 [] := ⟨rfl, World.ownsRow_nil _ _ _ _⟩

theorem OwnS.kept {w w' : World} {B : Nat} {ao : Option Addr} {m c : Nat} {l : List Int} {row : Option Nat} (h : OwnS w B ao m c l) (hg : w.grownBy w' row) (hr : ∀ k, row = some k → k < B) : OwnS w' B ao m c l := by
  refine ⟨h.1, h.2.kept hg ?_⟩
  cases hv : (Value.slice ao m c).ownBlock with
  | none => exact .inl rfl
  | some k =>
    right
    intro e
    have h1 := (h.2.lt k hv).1
    have h2 := hr k e.symm
    omega

set_option maxHeartbeats 400000 in
theorem bytes51_err (b g : Nat) (l : List Int) (w : World) (h : Rd w b g l) (most : Int) (hm : most ≤ 9223372036854775807) (her : (rdCount most l).2.1 ≠ 0) :
    Calls Try.prog 51 #[.pointer (some ⟨b, 0, none⟩), .int .i64 most] w fun e w' => e = .returned (.tuple #[.slice none 0 0, .int .i64 (rdCount most l).2.1]) ∧ (∃ l1, Rd w' b g l1) ∧ w.grownBy w' (some b) := by
  have hN := hide (count64 b g l w h most hm)
  revert hN her
  generalize (rdCount most l).1 = n
  generalize (rdCount most l).2.1 = er
  generalize (rdCount most l).2.2 = l1
  intro her hN
  have hne : (er != 0) = true := by rw [bne_iff_ne]; exact her
  clear her
  go_enter Try.func51, Try.ntmps51
  go_wp2_with fail
  refine (unhide hN).mono ?_
  rintro e w1 ⟨rfl, hr1, hg1⟩
  clear hN
  go_wp2
  go_ret2
  exact ⟨rfl, ⟨l1, hr1⟩, hg1⟩

set_option maxHeartbeats 400000 in
theorem bytes51_short (b g : Nat) (l : List Int) (w : World) (h : Rd w b g l) (most : Int) (hm : most ≤ 9223372036854775807) (her : (rdCount most l).2.1 = 0) (hs : (rdCount most l).2.2.length < (rdCount most l).1) :
    Calls Try.prog 51 #[.pointer (some ⟨b, 0, none⟩), .int .i64 most] w fun e w' => e = .returned (.tuple #[.slice none 0 0, .int .i64 4]) ∧ (∃ l1, Rd w' b g l1) ∧ w.grownBy w' (some b) := by
  have hN := hide (count64 b g l w h most hm)
  rw [her] at hN
  clear her
  revert hN hs
  generalize (rdCount most l).1 = n
  generalize (rdCount most l).2.2 = l1
  intro hs hN
  go_enter Try.func51, Try.ntmps51
  go_wp2_with fail
  refine (unhide hN).mono ?_
  rintro e w1 ⟨rfl, hr1, hg1⟩
  obtain ⟨ao, m, c, hat⟩ := hr1.at
  have hc1 : w1.cell? ⟨b, 1, none⟩ = some (.slice ao m c) := by rw [cell_of_block hat.2.2.1]; rfl
  have hlm : m < n := by have := hat.2.2.2.1.1; omega
  clear hN hs hat
  go_wp2
  go_ret2
  exact ⟨rfl, ⟨l1, hr1⟩, hg1⟩

theorem Holds.take {w : World} {ao : Option Addr} {m c : Nat} {l : List Int} (h : Holds w ao m c l) (n : Nat) (hn : n ≤ m) : Holds w ao n c (l.take n) := by
  obtain ⟨h1, h2, h3, h4⟩ := h
  refine ⟨by rw [List.length_take]; omega, by omega, fun e => ⟨by have := (h3 e).1; omega, (h3 e).2⟩, fun ad ha j u hj => h4 ad ha j u ?_⟩
  have hjn : j < n := by
    have := (List.getElem?_eq_some_iff.1 hj).1
    simp [u8s] at this; omega
  rw [← hj]; simp [u8s, hjn]

set_option maxHeartbeats 1000000 in
theorem bytes51_ok (b g : Nat) (l : List Int) (w : World) (h : Rd w b g l) (most : Int) (hm : most ≤ 9223372036854775807) (her : (rdCount most l).2.1 = 0) (hs : ¬ (rdCount most l).2.2.length < (rdCount most l).1)
    (hlen : (rdCount most l).2.2.length ≤ 140737488355328) :
    Calls Try.prog 51 #[.pointer (some ⟨b, 0, none⟩), .int .i64 most] w fun e w' => BTells w b g ((rdCount most l).2.2.take (rdCount most l).1) 0 ((rdCount most l).2.2.drop (rdCount most l).1) e w' := by
  have hN := hide (count64 b g l w h most hm)
  rw [her] at hN
  clear her
  revert hN hs hlen
  generalize (rdCount most l).1 = n
  generalize (rdCount most l).2.2 = l1
  intro hs hlen hN
  go_enter Try.func51, Try.ntmps51
  go_wp2_with fail
  refine (unhide hN).mono ?_
  rintro e w1 ⟨rfl, hr1, hg1⟩
  obtain ⟨ao, m, c, hat⟩ := hr1.at
  have hc1 : w1.cell? ⟨b, 1, none⟩ = some (.slice ao m c) := by rw [cell_of_block hat.2.2.1]; rfl
  have hlm : n ≤ m := by have := hat.2.2.2.1.1; omega
  have hmc : m ≤ c := hat.2.2.2.1.2.1
  have htk := hat.2.2.2.1.take n hlm
  have htl : (l1.take n).length ≤ 140737488355328 := by rw [List.length_take]; omega
  have hm1 : m ≤ 140737488355328 := by have := hat.2.2.2.1.1; omega
  clear hN hs
  have hbw : b < w.heap.size := h.lt
  have hsz := hg1.size
  cases ao with
  | none =>
    obtain ⟨rfl, rfl⟩ := hat.2.2.2.1.2.2.1 rfl
    obtain rfl : n = 0 := by omega
    obtain rfl : l1 = [] := List.eq_nil_of_length_eq_zero hat.2.2.2.1.1
    go_wp2_with fail
    refine (join_one w1 ⟨none, 0, 0, []⟩ 23 (holds_nil _) (by simp)).mono ?_
    rintro e w2 ⟨ao2, m2, c2, rfl, hown2, hb2⟩
    have hat2 : w2.heap[b]? = some (.cells #[.bool true, .slice none 0 0] 73 (0, 0)) := by rw [hb2.block b (by omega)]; exact hat.2.2.1
    have hd1 : w2.cell? ⟨b, 1, none⟩ = some (.slice none 0 0) := by rw [cell_of_block hat2]; rfl
    have hd2 : w2.frozen? ⟨b, 1, none⟩ = false := frozen_of_block hat2 1
    have hfin : Hid (BTells w b g [] 0 [] (.returned (.tuple #[.slice ao2 m2 c2, .int .i64 0])) (w2.setCell ⟨b, 1, none⟩ (.slice none 0 0))) := by
      refine ⟨_, _, _, rfl, (hown2.lower (by omega)).kept (grownBy_set _ _ _ _) (by intro k hk; cases hk; exact hbw), ⟨fun x hx => (by cases hx), hat.2.1, none, 0, 0, heap_set1 hat2, holds_nil _, fun a ha => (by cases ha)⟩, ?_⟩
      exact grownBy_trans hg1 (grownBy_trans ⟨hb2.os, hb2.tape, hb2.output, hb2.size, fun k hk _ => hb2.block k hk⟩ (grownBy_set _ _ _ _))
    clear hat hat2 htk hown2 hb2 hc1
    go_wp2
    go_ret2
    exact hfin.out
  | some a =>
    obtain ⟨off, rfl⟩ := hat.2.2.2.2 a rfl
    go_wp2_with fail
    refine (join_one w1 ⟨some ⟨g, off, none⟩, n, c, l1.take n⟩ 23 htk htl).mono ?_
    rintro e w2 ⟨ao2, m2, c2, rfl, hown2, hb2⟩
    have hat2 : w2.heap[b]? = some (.cells #[.bool true, .slice (some ⟨g, off, none⟩) m c] 73 (0, 0)) := by rw [hb2.block b (by omega)]; exact hat.2.2.1
    have hd1 : w2.cell? ⟨b, 1, none⟩ = some (.slice (some ⟨g, off, none⟩) m c) := by rw [cell_of_block hat2]; rfl
    have hd2 : w2.frozen? ⟨b, 1, none⟩ = false := frozen_of_block hat2 1
    have hh2 := hat.2.2.2.1.below hb2
    have hfin : Hid (∀ ao' m' c', ((c = n ∧ ao' = some ⟨g, off, none⟩) ∨ ao' = some ⟨g, off + n, none⟩) → m' = m - n → c' = c - n → BTells w b g (l1.take n) 0 (l1.drop n) (.returned (.tuple #[.slice ao2 m2 c2, .int .i64 0])) (w2.setCell ⟨b, 1, none⟩ (.slice ao' m' c'))) := by
      intro ao' m' c' hao hm' hc'
      subst hm' hc'
      refine ⟨_, _, _, rfl, (hown2.lower (by omega)).kept (grownBy_set _ _ _ _) (by intro k hk; cases hk; exact hbw), rd_move (k := n) hat2 hh2 hat.1 hat.2.1 hlm hao, ?_⟩
      exact grownBy_trans hg1 (grownBy_trans ⟨hb2.os, hb2.tape, hb2.output, hb2.size, fun k hk _ => hb2.block k hk⟩ (grownBy_set _ _ _ _))
    clear hat hat2 htk hown2 hb2 hc1 hh2
    go_wp2
    all_goals go_ret2
    · exact hfin.out _ _ _ (.inl ⟨‹_›, rfl⟩) rfl (by omega)
    · exact hfin.out _ _ _ (.inr rfl) rfl rfl

set_option maxHeartbeats 400000 in
theorem bytes50 (b : Nat) (w : World) (q : Nat) (most : Int) (hq : w.cell? ⟨q, 0, none⟩ = some (.int .i64 most)) (R : Ending → World → Prop)
    (H : Calls Try.prog 51 #[.pointer (some ⟨b, 0, none⟩), .int .i64 most] w fun e w' => (∃ (o : Option Addr) (n k : Nat) (er : Int), e = .returned (.tuple #[.slice o n k, .int .i64 er])) ∧ R e w') :
    Calls Try.prog 50 #[.pointer (some ⟨b, 0, none⟩), .pointer (some ⟨q, 0, none⟩)] w fun e w' => R e w' := by
  have H1 := hide H
  clear H
  go_enter Try.func50, Try.ntmps50
  go_wp2_with fail
  refine (unhide H1).mono ?_
  rintro e w1 ⟨⟨o, n, k, er, rfl⟩, hR⟩
  have HR := hide hR
  clear H1 hR
  go_wp2
  exact unhide HR

theorem BTells.alloc {w w1 : World} {o : Obj} {b g : Nat} {x : List Int} {er : Int} {l : List Int} {e : Ending} (h : BTells (w.alloc o) b g x er l e w1) : BTells w b g x er l e w1 := by
  obtain ⟨ao, m, c, h1, h2, h3, h4⟩ := h
  exact ⟨ao, m, c, h1, h2.lower (by simp), h3, grownBy_trans (World.grownBy_alloc _ _ _) h4⟩

theorem rdCount_len (most : Int) (l : List Int) : (rdCount most l).2.2.length ≤ l.length := by
  unfold rdCount; split
  · exact Nat.le_refl _
  · cases dec 0 0 l with
    | none => exact Nat.le_refl _
    | some p => obtain ⟨n, k⟩ := p; simp only; split <;> simp

set_option maxHeartbeats 400000 in
/-- Reader.Bytes -/
theorem Bytes27 (b g : Nat) (l : List Int) (w : World) (h : Rd w b g l) (most : Int) (hm : most ≤ 9223372036854775807) (hlen : l.length ≤ 140737488355328) :
    Calls Try.prog 27 #[.pointer (some ⟨b, 0, none⟩), .int .i64 most] w fun e w' => BTells w b g (rdBytes most l).1 (rdBytes most l).2.1 (rdBytes most l).2.2 e w' := by
  have hw1 := rd_alloc h (.cells #[.int .i64 most] 3)
  obtain ⟨ao, m, c, hat⟩ := hw1.at
  have hq : ((w.alloc (.cells #[.int .i64 most] 3)).alloc (was ao m c)).cell? ⟨w.heap.size, 0, none⟩ = some (.int .i64 most) :=
    Below.keeps ((Below.refl _ _).alloc (Nat.le_refl _) _) _ _ (by simp)
  have hr2 := rd_alloc hw1 (was ao m c)
  have H : Hid (Calls Try.prog 49 #[.pointer (some ⟨b, 0, none⟩), .func (.func 50) #[] #[.pointer (some ⟨w.heap.size, 0, none⟩)]] (w.alloc (.cells #[.int .i64 most] 3)) fun e w' => BTells w b g (rdBytes most l).1 (rdBytes most l).2.1 (rdBytes most l).2.2 e w') := by
    by_cases her : (rdCount most l).2.1 = 0
    · by_cases hs : (rdCount most l).2.2.length < (rdCount most l).1
      · have e1 : rdBytes most l = ([], 4, l) := by unfold rdBytes; rw [if_neg (by simpa using her), if_pos hs]
        rw [e1]
        refine Calls.mono (whole49_bad b g l ao m c _ hat (.pointer (some ⟨w.heap.size, 0, none⟩)) 4 (by decide) ?_) ?_
        · refine bytes50 b _ _ most hq _ ((bytes51_short b g l _ hr2 most hm her hs).mono ?_)
          rintro e w1 ⟨h1, h2⟩
          exact ⟨⟨_, _, _, _, h1⟩, ⟨_, _, _, h1⟩, h2⟩
        · rintro e w1 ⟨h1, h2, h3⟩
          exact ⟨_, _, _, h1, owns_nil _ _, h2, grownBy_trans (World.grownBy_alloc _ _ _) h3⟩
      · have e1 : rdBytes most l = ((rdCount most l).2.2.take (rdCount most l).1, 0, (rdCount most l).2.2.drop (rdCount most l).1) := by unfold rdBytes; rw [if_neg (by simpa using her), if_neg hs]
        rw [e1]
        refine whole49_ok b g l ao m c _ hat (.pointer (some ⟨w.heap.size, 0, none⟩)) _ ?_
        refine bytes50 b _ _ most hq _ ((bytes51_ok b g l _ hr2 most hm her hs (Nat.le_trans (rdCount_len most l) hlen)).mono ?_)
        intro e w1 ht
        have h2 := ht.alloc.alloc
        obtain ⟨o, n, k, h1, _⟩ := ht
        exact ⟨⟨_, _, _, _, h1⟩, ⟨_, _, _, h1⟩, h2⟩
    · have e1 : rdBytes most l = ([], (rdCount most l).2.1, l) := by unfold rdBytes; rw [if_pos (by simpa using her)]
      rw [e1]
      refine Calls.mono (whole49_bad b g l ao m c _ hat (.pointer (some ⟨w.heap.size, 0, none⟩)) _ her ?_) ?_
      · refine bytes50 b _ _ most hq _ ((bytes51_err b g l _ hr2 most hm her).mono ?_)
        rintro e w1 ⟨h1, h2⟩
        exact ⟨⟨_, _, _, _, h1⟩, ⟨_, _, _, h1⟩, h2⟩
      · rintro e w1 ⟨h1, h2, h3⟩
        exact ⟨_, _, _, h1, owns_nil _ _, h2, grownBy_trans (World.grownBy_alloc _ _ _) h3⟩
  clear hq hr2 hat hw1
  go_enter Try.func27, Try.ntmps27
  go_wp2_with fail
  refine H.out.mono ?_
  rintro e w1 ⟨o, n, k, rfl, h1, h2⟩
  clear H
  go_wp2
  go_ret2
  exact ⟨_, _, _, rfl, h1, h2⟩

end Go.Proofs.Ytaljkpndfjfgdaa
