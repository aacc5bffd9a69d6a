/-
  The walk of 'known': some of the chapter's rows.
-/
import Derived.Test.YtaljkpndfjfgdaaMetb
namespace Go.Proofs.Ytaljkpndfjfgdaa
open Go.RowKit

theorem holds_lit (w : World) (l : List Int) (e : TypeId) : Holds (w.alloc (.cells (u8s l).toArray e)) (some ⟨w.heap.size, 0, none⟩) l.length l.length l := by
  refine ⟨rfl, Nat.le_refl _, fun h => (by cases h), fun ad h j u hj => ?_⟩
  cases h
  rw [Addr.add_lit, Nat.zero_add, cell_of_row _ _ _ _ _ _ (heap_alloc_new w _)]
  simpa using hj

/-- string(b) -/
theorem conv_holds {w : World} {ao : Option Addr} {m c : Nat} {l : List Int} (h : Holds w ao m c l) (ha : ∀ a, ao = some a → ∃ g off, a = ⟨g, off, none⟩) (hl : l = [] → ao = none ∨ True) :
    (convert 23 9 (.slice ao m c)).run Try.prog w = .ok (.string (strOfNums l)) w := by
  obtain ⟨h1, h2, h3, h4⟩ := h
  cases ao with
  | none =>
    obtain ⟨rfl, rfl⟩ := h3 rfl
    obtain rfl : l = [] := List.eq_nil_of_length_eq_zero h1
    have := run_convert_bytes_nil (P := Try.prog) w 23 5 Try.underlying23 Try.underlying5 0 0 9 Try.underlying9
    exact this
  | some a =>
    obtain ⟨g, off, rfl⟩ := ha a rfl
    refine run_convert_bytes_arg (P := Try.prog) w 23 5 Try.underlying23 Try.underlying5 g off m c l h1 ?_ 9 Try.underlying9
    intro i hi
    have hi' : i < l.length := by omega
    have := h4 _ rfl i (.int .u8 (l.getD i 0)) (by simp [u8s, List.getD, hi'])
    rwa [Addr.add_lit] at this

theorem OwnS.lits {w : World} {B : Nat} {ao : Option Addr} {m c : Nat} {l : List Int} (h : OwnS w B ao m c l) : ∀ a, ao = some a → ∃ g off, a = ⟨g, off, none⟩ := by
  intro a ha
  subst ha
  rcases Owns.shape h.2 with ⟨hv, _⟩ | ⟨g, cap, hv, _⟩
  · cases hv
  · cases hv; exact ⟨g, 0, rfl⟩

theorem OwnS.conv {w : World} {B : Nat} {ao : Option Addr} {m c : Nat} {l : List Int} (h : OwnS w B ao m c l) :
    (convert 23 9 (.slice ao m c)).run Try.prog w = .ok (.string (strOfNums l)) w := conv_holds h.held h.lits (fun _ => .inr trivial)

theorem OwnS.kept2 {w w' : World} {B N : Nat} {ao : Option Addr} {m c : Nat} {l : List Int} {row : Option Nat} (h : OwnS w B ao m c l) (hN : ∀ k, (Value.slice ao m c).ownBlock = some k → k < N) (hg : w.grownBy w' row) (hr : ∀ k, row = some k → N ≤ k) : OwnS w' B ao m c l := by
  refine ⟨h.1, h.2.kept hg ?_⟩
  cases hv : (Value.slice ao m c).ownBlock with
  | none => exact .inl rfl
  | some k =>
    right
    intro e
    have h1 := hN k hv
    have h2 := hr k e.symm
    omega

theorem OwnS.lt {w : World} {B : Nat} {ao : Option Addr} {m c : Nat} {l : List Int} (h : OwnS w B ao m c l) : ∀ k, (Value.slice ao m c).ownBlock = some k → k < w.heap.size := fun k hk => (h.2.lt k hk).2

theorem below_grown {w w' : World} (h : Below w.heap.size w w') : w.grownBy w' none := ⟨h.os, h.tape, h.output, h.size, fun k hk _ => h.block k hk⟩

theorem signed_m1 (w : World) : Calls Try.prog 13 #[.int .i64 (-1)] w fun e w' => Gives w w.heap.size [1] e w' := by
  have hS := signed_any (-1) w (by decide) (by decide)
  rw [show fold (-1) = 1 by decide, num_lt (show 1 < 128 by decide)] at hS
  exact hS
theorem number_300 (w : World) : Calls Try.prog 9 #[.int .u64 300] w fun e w' => Gives w w.heap.size [172, 2] e w' := by
  have hS := number_any 300 w (by decide)
  rw [num_ge (show ¬ 300 < 128 by decide), num_lt (show 300 / 128 < 128 by decide)] at hS
  exact hS

set_option maxHeartbeats 1000000 in
set_option maxRecDepth 100000 in
theorem known18 (w : World) : Calls Try.prog 18 #[] w fun e w' => e = .returned (.bool true) ∧ Below w.heap.size w w' := by
  have r1 : rdNum [128, 1, 2, 97, 98] = (128, 0, [2, 97, 98]) := by decide
  have r2 : rdBytes 2 [2, 97, 98] = ([97, 98], 0, []) := by decide
  have r3 : rdNum [128, 0] = (0, 4, [128, 0]) := by decide
  go_enter Try.func18, Try.ntmps18
  go_wp2_with fail
  refine (open_any (some ⟨w.heap.size, 0, none⟩) 5 5 [128, 1, 2, 97, 98] _ (holds_lit w [128, 1, 2, 97, 98] 5) (by omega) (by intro x hx; simp at hx; omega)).mono ?_
  rintro e w1 ⟨b, g, rfl, hb, hg, hrd, hbel⟩
  go_wp2_with fail
  have hN := Number25 b g _ w1 hrd
  rw [r1] at hN
  refine hN.mono ?_
  rintro e w2 ⟨rfl, hrd2, hg2⟩
  clear hN
  have hb' : w.heap.size + 1 ≤ b := by simpa using hb
  have hB1 : Below w.heap.size w w1 := ((Below.refl _ _).alloc (Nat.le_refl _) _).trans (hbel.mono (by simp))
  have hB2 : Below w.heap.size w w2 := hB1.grown hg2 hB1.size (by intro k hk; cases hk; omega)
  clear hb hg hbel hB1 hrd hg2 r1
  go_wp2_with fail
  have hY := Bytes27 b g _ w2 hrd2 2 (by omega) (by simp)
  rw [r2] at hY
  refine hY.mono ?_
  rintro e w3 ⟨ao, m, c, rfl, hown, hrd3, hg3⟩
  have hB3 : Below w.heap.size w w3 := hB2.grown hg3 hB2.size (by intro k hk; cases hk; omega)
  have hb3 := hrd3.lt
  have hs2 := hB2.size
  have hs3 := hB3.size
  clear hY hrd2 hg3 r2 hB2
  go_wp2_with fail
  refine (open_any (some ⟨w3.heap.size, 0, none⟩) 2 2 [128, 0] _ (holds_lit w3 [128, 0] 5) (by omega) (by intro x hx; simp at hx; omega)).mono ?_
  rintro e w4 ⟨b4, g4, rfl, hb4, hg4, hrd4, hbel4⟩
  have hb4' : w3.heap.size + 1 ≤ b4 := by simpa using hb4
  have hG4 : w3.grownBy w4 none := grownBy_trans (World.grownBy_alloc _ _ _) (below_grown hbel4)
  have hB4 : Below w.heap.size w w4 := hB3.grown hG4 hB3.size (by intro k hk; cases hk)
  have hrd3' := hrd3.keep hG4 (by simp) (by simp)
  have holt := hown.lt
  have hown4 := hown.kept hG4 (by intro k hk; cases hk)
  clear hb4 hg4 hbel4 hB3 hrd3 hown
  go_wp2_with fail
  have hN := Number25 b4 g4 _ w4 hrd4
  rw [r3] at hN
  refine hN.mono ?_
  rintro e w5 ⟨rfl, hrd5, hg5⟩
  have hB5 : Below w.heap.size w w5 := hB4.grown hg5 hB4.size (by intro k hk; cases hk; omega)
  have hrd6 := hrd3'.keep hg5 (by intro e; cases e; omega) (fun h => absurd rfl h)
  have hown5 := hown4.kept2 holt hg5 (by intro k hk; cases hk; omega)
  have hcv := hown5.conv
  have hs : strOfNums [97, 98] = { data := #[97, 98] } := by decide
  rw [hs] at hcv
  have hE : endE [] = 0 := by decide
  have hL := left_rd b g _ w5 hrd6
  have hD := end_rd b g _ w5 hrd6
  rw [hE] at hD
  have hL1 := hide hL
  have hD1 := hide hD
  clear hN hL hD hE hs hrd5 hg5 hrd4 hrd3' hown4 hB4 r3 hG4
  go_wp2_with (first | (go_at_call 23; refine (num_err _ _).mono ?_; rintro e w' ⟨rfl, rfl⟩) | (go_at_call 21; refine (unhide hL1).mono ?_; rintro e w' ⟨rfl, rfl⟩) | (go_at_call 24; refine (unhide hD1).mono ?_; rintro e w' ⟨rfl, rfl⟩))
  refine (signed_m1 _).mono ?_
  rintro e w6 ⟨ao6, m6, c6, rfl, hown6, hB6⟩
  have hcv6 := hown6.conv
  have hs6 : strOfNums [1] = { data := #[1] } := by decide
  rw [hs6] at hcv6
  clear hs6 hcv hL1 hD1 hown5
  go_wp2_with fail
  refine (number_300 _).mono ?_
  rintro e w7 ⟨ao7, m7, c7, rfl, hown7, hB7⟩
  have hcv7 := hown7.conv
  have hs7 : strOfNums [172, 2] = { data := #[172, 2] } := by decide
  rw [hs7] at hcv7
  have hfin : Below w.heap.size w w7 := (hB5.trans (hB6.mono hB5.size)).trans (hB7.mono (Nat.le_trans hB5.size hB6.size))
  clear hs7 hcv6 hB5 hB6 hB7 hown6 hown7
  go_wp2
  go_ret
  exact ⟨rfl, hfin⟩

end Go.Proofs.Ytaljkpndfjfgdaa
