/-
  How a list of asks that came in is opened.
-/
import Derived.Test.YtbpnnbbinhdoiaaDoorOpn
import Derived.Test.YtbpnnbbinhdoiaaDoorVx
namespace Go.Proofs.YtbpnnbbinhdoiaaDoor
set_option maxRecDepth 100000
open Go.ChangeShapes Go.WideShapes Go.ChangeAt Go.RowKit Go.Joins Go.Deep

theorem spot_none {w : World} {a : Addr} {v : Value} (h : w.cell? a = some v) : a = ⟨a.block, a.off, none⟩ := by
  have : a.spot = none := by
    unfold World.cell? at h
    split at h
    · cases hs : a.spot with
      | none => rfl
      | some s => simp [hs] at h
    · cases h
  cases a; simp_all

set_option maxRecDepth 100000 in
theorem asks_open {H : Type} {enc : TypeId × Value → H} {W : World} {fuel : Nat} {v : Value} {x : DataW H × List MemPlace}
    (h : DataW.trod enc Tryd.prog W 0 (fun _ => true) true fuel 62 [v] = some x) :
    ∃ (ao : Option Addr) (c : Nat) (l : List Ask), v = .slice ao l.length c ∧ AskS W ao l := by
  rcases open_slice Tryd.underlying62 h with ⟨hcs, hx⟩ | ⟨a, len, cap, m, n, D, Pl, hcs, _, hl, _, hm, hx, hel⟩
  · cases hcs
    exact ⟨none, 0, [], rfl, fun i x hx => (by simp at hx)⟩
  · cases hcs
    simp only [if_true] at hm
    have c42 : Tryd.prog.cellsOf 42 = 5 := by kernel_rfl
    have hch : ∀ i, i < len → ∃ q : Ask, ∀ c u, q.C[c]? = some u → W.cell? (a.add (i * 5 + c)) = some u := by
      intro i hi
      obtain ⟨cs', h1, h2⟩ := hel i (by omega)
      rw [c42] at h1
      obtain ⟨_, hlen, hcell⟩ := World.cells?_some h1
      obtain ⟨q, rfl, hq⟩ := ask_cells h2
      refine ⟨q, ?_⟩
      intro c u hu
      have hc : c < 5 := by have := (List.getElem?_eq_some_iff.1 hu).1; simpa [Ask.C] using this
      have := hcell c hc
      rw [add_add] at this
      rw [this]
      exact hu
    haveI : Inhabited Ask := ⟨⟨0, 0, 0, 0, 0⟩⟩
    obtain ⟨X, hX⟩ := choose_lt hch
    refine ⟨some a, cap, (List.range len).map X, by simp, ?_⟩
    intro i x hi
    have hil : i < len := by have := (List.getElem?_eq_some_iff.1 hi).1; simpa using this
    obtain rfl : X i = x := by simpa [hil] using hi
    have h0 := hX 0 (by omega) 0 _ rfl
    have ha := spot_none (show W.cell? a = some _ from h0)
    refine ⟨a.block, a.off, by rw [← ha], fun c u hu => ?_⟩
    have := hX i hil c u hu
    rw [ha, Addr.add_lit, ← Nat.add_assoc] at this
    exact this

end Go.Proofs.YtbpnnbbinhdoiaaDoor
