/-
  How a version that came in is opened.
-/
import Derived.Test.YtkpkiibahfdomaaDoorOpen
namespace Go.Proofs.YtkpkiibahfdomaaDoor
open Go.ChangeShapes Go.WideShapes Go.ChangeAt Go.RowKit Go.Joins Go.Deep

theorem fieldsV : ∃ f0 f1, Tryd.prog.underlying 61 = some (.struct #[f0, f1]) ∧ f0.type = 2 ∧ f0.offset = 0 ∧ f1.type = 23 ∧ f1.offset = 1 := by
  exact ⟨_, _, Tryd.underlying61, rfl, rfl, rfl, rfl⟩

/-- A version that came in. -/
theorem ver_cells {H : Type} {enc : TypeId × Value → H} {W : World} {fuel : Nat} {cs : List Value} {x : DataW H × List MemPlace} (h : DataW.trod enc Tryd.prog W 0 (fun _ => true) true fuel 61 cs = some x) : ∃ n s, cs = verC n s ∧ Byts 96 s ∧ -9223372036854775808 ≤ n ∧ n ≤ 9223372036854775807 := by
  obtain ⟨f0, f1, hu, t0, o0, t1, o1⟩ := fieldsV
  obtain ⟨y0, y1, m, _, hl, h0, h1⟩ := trod_struct2 hu h
  have c2 : Tryd.prog.cellsOf 2 = 1 := by kernel_rfl
  have c23 : Tryd.prog.cellsOf 23 = 96 := by kernel_rfl
  have c61 : Tryd.prog.cellsOf 61 = 97 := by kernel_rfl
  rw [t0, o0, c2] at h0
  rw [t1, o1, c23] at h1
  rw [c61] at hl
  obtain ⟨n, e0, _, hw⟩ := DataW.trod_int Tryd.underlying2 h0
  obtain ⟨s, e1, hs⟩ := byts_open Tryd.underlying23 c23 h1
  refine ⟨n, s, ?_, hs, bounds_i64 hw⟩
  have e : cs = cs.take 1 ++ (cs.drop 1).take 96 := by
    rw [List.take_of_length_le (l := cs.drop 1) (by rw [List.length_drop]; omega), List.take_append_drop]
  rw [e, e1]
  have e2 : cs.take 1 = [.int .i64 n] := by simpa [Value.cells] using e0
  rw [e2]
  rfl
theorem ver_open {H : Type} {enc : TypeId × Value → H} {W : World} {r : Reach} {b0 : Nat} {v : Value} {d : DataW H} {p : List MemPlace} (hv : Value.okWide Tryd.prog W r b0 61 v) (h : DataW.Trod enc Tryd.prog W 0 (fun _ => true) true 61 v d p) :
    ∃ n s, v = aggV (verC n s) ∧ Byts 96 s ∧ -9223372036854775808 ≤ n ∧ n ≤ 9223372036854775807 := by
  obtain ⟨f0, f1, hu, _⟩ := fieldsV
  obtain ⟨cs, rfl, hsz⟩ := okWide_struct hu hv
  obtain ⟨fuel, hf⟩ := h
  obtain ⟨n, s, e, hs, hn⟩ := ver_cells hf
  refine ⟨n, s, ?_, hs, hn⟩
  have : cs.toList = verC n s := e
  show Value.agg cs = .agg (verC n s).toArray
  rw [← this]


end Go.Proofs.YtkpkiibahfdomaaDoor
