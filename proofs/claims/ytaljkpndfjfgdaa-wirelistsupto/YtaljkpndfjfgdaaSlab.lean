/-
  Facts on several rows of a call's own that are kept side by side, and on string(b).
-/
import Derived.Test.YtaljkpndfjfgdaaKnown
import Derived.Test.YtaljkpndfjfgdaaThere
namespace Go.Proofs.Ytaljkpndfjfgdaa
open Go.RowKit

/-- string(b), whatever slice of bytes it is. -/
theorem conv_all {w : World} {ao : Option Addr} {m c : Nat} {l : List Int} (h : Holds w ao m c l) : (convert 23 9 (.slice ao m c)).run Try.prog w = .ok (.string (strOfNums l)) w := by
  by_cases h0 : m = 0
  · subst h0
    obtain rfl : l = [] := List.eq_nil_of_length_eq_zero h.1
    cases ao with
    | none => exact run_convert_bytes_nil (P := Try.prog) w 23 5 Try.underlying23 Try.underlying5 0 c 9 Try.underlying9
    | some a =>
      have hl := run_loadCells_list (P := Try.prog) w a [] (fun j v hj => by simp at hj)
      rw [run_convert_bytes_string w 23 9 5 _ 0 c Try.underlying23 Try.underlying5 Try.underlying9, run_bytesToString w a 0 c [] (by simpa using hl)]
      rfl
  · refine conv_holds h ?_ (fun _ => .inr trivial)
    intro a ha
    obtain ⟨x, hx⟩ : ∃ x, (u8s l)[0]? = some x := ⟨_, List.getElem?_eq_getElem (by rw [u8s_len, h.1]; omega)⟩
    have hc := h.2.2.2 a ha 0 x hx
    obtain ⟨b, off, spot⟩ := a
    have hsp : spot = none := by simpa [Addr.add] using World.cell?_spot hc
    subst hsp
    exact ⟨b, off, rfl⟩

/-- A row of the call's own whose block lies from lo on, below hi. -/
def Slab (w : World) (lo hi : Nat) (s : Sl) : Prop := OwnS w lo s.ao s.m s.c s.l ∧ ∀ k, s.val.ownBlock = some k → lo ≤ k ∧ k < hi

theorem Slab.of {w : World} {lo : Nat} {ao : Option Addr} {m c : Nat} {l : List Int} (h : OwnS w lo ao m c l) : Slab w lo w.heap.size ⟨ao, m, c, l⟩ := ⟨h, fun k hk => h.2.lt k hk⟩

theorem Slab.grown {w w' : World} {lo hi : Nat} {s : Sl} {row : Option Nat} (h : Slab w lo hi s) (hg : w.grownBy w' row) (hr : ∀ k, row = some k → k < lo ∨ hi ≤ k) : Slab w' lo hi s := by
  refine ⟨⟨h.1.1, h.1.2.kept hg ?_⟩, h.2⟩
  cases hv : (Value.slice s.ao s.m s.c).ownBlock with
  | none => exact .inl rfl
  | some k =>
    right
    intro e
    have h1 := h.2 k hv
    have h2 := hr k e.symm
    omega

theorem Slab.below {w w' : World} {lo hi : Nat} {s : Sl} (h : Slab w lo hi s) (hb : Below w.heap.size w w') : Slab w' lo hi s := h.grown (below_grown hb) (by intro k hk; cases hk)

theorem Slab.conv {w : World} {lo hi : Nat} {ao : Option Addr} {m c : Nat} {l : List Int} (h : Slab w lo hi ⟨ao, m, c, l⟩) : (convert 23 9 (.slice ao m c)).run Try.prog w = .ok (.string (strOfNums l)) w := h.1.conv

theorem keep4b {W w1 : World} (hb : Below W.heap.size W w1) {a0 a1 a2 a3 : Addr} {v0 v1 v2 v3 : Value} (h : W.cell? a0 = some v0 ∧ W.cell? a1 = some v1 ∧ W.cell? a2 = some v2 ∧ W.cell? a3 = some v3) :
    w1.cell? a0 = some v0 ∧ w1.cell? a1 = some v1 ∧ w1.cell? a2 = some v2 ∧ w1.cell? a3 = some v3 :=
  ⟨Below.keeps hb _ _ h.1, Below.keeps hb _ _ h.2.1, Below.keeps hb _ _ h.2.2.1, Below.keeps hb _ _ h.2.2.2⟩

end Go.Proofs.Ytaljkpndfjfgdaa
