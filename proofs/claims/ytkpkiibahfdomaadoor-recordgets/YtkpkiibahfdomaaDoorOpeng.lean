/-
  How two sectors that came in are opened.
-/
import Derived.Test.YtkpkiibahfdomaaDoorOpen
namespace Go.Proofs.YtkpkiibahfdomaaDoor
open Go.ChangeShapes Go.WideShapes Go.ChangeAt Go.RowKit Go.Joins Go.Deep

theorem okWide_array {W : World} {r : Reach} {b0 t n e : Nat} {v : Value} (ht : Tryd.prog.underlying t = some (.array n e)) (h : Value.okWide Tryd.prog W r b0 t v) : ∃ cs, v = .agg cs ∧ cs.size = Tryd.prog.cellsOf t := by
  simp only [Value.okWide, ht] at h
  obtain ⟨cs, h1, h2, _⟩ := h
  exact ⟨cs, h1, h2⟩

theorem two_parts {cs : List Value} {k : Nat} (hl : cs.length = 2 * k) : cs = cs.take k ++ (cs.drop k).take k := by
  rw [List.take_of_length_le (l := cs.drop k) (by rw [List.length_drop]; omega), List.take_append_drop]

/-- Two sectors that came in. -/
theorem secs_open {H : Type} {enc : TypeId × Value → H} {W : World} {r : Reach} {b0 : Nat} {v : Value} {d : DataW H} {p : List MemPlace} (hv : Value.okWide Tryd.prog W r b0 30 v) (h : DataW.Trod enc Tryd.prog W 0 (fun _ => true) true 30 v d p) :
    ∃ a b, v = aggV (u8s (a ++ b)) ∧ Byts 64 a ∧ Byts 64 b := by
  obtain ⟨cs, rfl, hsz⟩ := okWide_array Tryd.underlying30 hv
  obtain ⟨fuel, hf⟩ := h
  obtain ⟨xs, m, _, ex, hl, hlen, hel⟩ := DataW.trod_array Tryd.underlying30 hf
  have c29 : Tryd.prog.cellsOf 29 = 64 := by kernel_rfl
  have c30 : Tryd.prog.cellsOf 30 = 128 := by kernel_rfl
  rw [c30] at hl
  have hl : cs.toList.length = 2 * 64 := hl
  match xs, hlen with
  | [y0, y1], _ =>
    have h0 := hel 0 (by omega)
    have h1 := hel 1 (by omega)
    rw [c29] at h0 h1
    obtain ⟨a, e0, ha⟩ := byts_open Tryd.underlying29 c29 h0
    obtain ⟨b, e1, hb⟩ := byts_open Tryd.underlying29 c29 h1
    refine ⟨a, b, ?_, ha, hb⟩
    have e0 : cs.toList.take 64 = u8s a := by simpa [Value.cells] using e0
    have e1 : (cs.toList.drop 64).take 64 = u8s b := by simpa [Value.cells] using e1
    have e : cs.toList = u8s (a ++ b) := by rw [two_parts hl, e0, e1, u8s_app]
    show Value.agg cs = .agg (u8s (a ++ b)).toArray
    rw [← e]


end Go.Proofs.YtkpkiibahfdomaaDoor
