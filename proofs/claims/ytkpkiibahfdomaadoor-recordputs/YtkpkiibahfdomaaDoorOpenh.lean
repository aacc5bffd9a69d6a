/-
  How a head that came in is opened.
-/
import Derived.Test.YtkpkiibahfdomaaDoorOpen
namespace Go.Proofs.YtkpkiibahfdomaaDoor
open Go.ChangeShapes Go.WideShapes Go.ChangeAt Go.RowKit Go.Joins Go.Deep

theorem fieldsH : ∃ f0 f1 : Field, Tryd.prog.underlying 27 = some (.struct #[f0, f1]) ∧ (f0.type = 2 ∧ f0.offset = 0) ∧ f1.type = 2 ∧ f1.offset = 1 :=
  ⟨_, _, Tryd.underlying27, ⟨rfl, rfl⟩, rfl, rfl⟩
theorem two_of {α : Type} {l : List α} (h : l.length = 2) : ∃ a b, l = [a, b] := by
  match l, h with
  | [a, b], _ => exact ⟨a, b, rfl⟩
theorem hd_cells {H : Type} {enc : TypeId × Value → H} {W : World} {fuel : Nat} {cs : List Value} {x : DataW H × List MemPlace} (h : DataW.trod enc Tryd.prog W 0 (fun _ => true) true fuel 27 cs = some x) : ∃ st ep : Int, cs = hdC st ep := by
  obtain ⟨f0, f1, hu, ⟨t0, o0⟩, t1, o1⟩ := fieldsH
  obtain ⟨xs, n, _, ex, hl, hlen, hf⟩ := DataW.trod_struct hu h
  obtain ⟨y0, y1, rfl⟩ := two_of hlen
  have c2 : Tryd.prog.cellsOf 2 = 1 := by kernel_rfl
  have c27 : Tryd.prog.cellsOf 27 = 2 := by kernel_rfl
  have h0 := hf 0 f0 rfl
  have h1 := hf 1 f1 rfl
  rw [t0, o0, c2] at h0
  rw [t1, o1, c2] at h1
  rw [c27] at hl
  obtain ⟨a0, a1, rfl⟩ := two_of hl
  obtain ⟨v0, e0, _, w0⟩ := DataW.trod_int Tryd.underlying2 h0
  obtain ⟨v1, e1, _, w1⟩ := DataW.trod_int Tryd.underlying2 h1
  simp at e0 e1
  subst e0 e1
  exact ⟨v0, v1, rfl⟩
/-- A head that came in. -/
theorem hd_open {H : Type} {enc : TypeId × Value → H} {W : World} {r : Reach} {b0 : Nat} {v : Value} {d : DataW H} {p : List MemPlace} (hv : Value.okWide Tryd.prog W r b0 27 v) (h : DataW.Trod enc Tryd.prog W 0 (fun _ => true) true 27 v d p) : ∃ st ep : Int, v = aggV (hdC st ep) := by
  obtain ⟨f0, f1, hu, _⟩ := fieldsH
  obtain ⟨cs, rfl, hsz⟩ := okWide_struct hu hv
  obtain ⟨fuel, hf⟩ := h
  obtain ⟨st, ep, e⟩ := hd_cells hf
  refine ⟨st, ep, ?_⟩
  have : cs.toList = hdC st ep := e
  show Value.agg cs = .agg (hdC st ep).toArray
  rw [← this]

end Go.Proofs.YtkpkiibahfdomaaDoor
