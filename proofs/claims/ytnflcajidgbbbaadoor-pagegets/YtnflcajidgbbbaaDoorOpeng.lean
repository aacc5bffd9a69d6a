/-
  How the arguments of the law PageGets are opened.
-/
import Derived.Test.YtnflcajidgbbbaaDoorOpen
namespace Go.Proofs.YtnflcajidgbbbaaDoor
open Go.ChangeShapes Go.WideShapes Go.ChangeAt Go.RowKit Go.Joins

theorem two_parts {cs : List Value} {k : Nat} (hl : cs.length = 2 * k) : cs = cs.take k ++ (cs.drop k).take k := by
  rw [List.take_of_length_le (l := cs.drop k) (by rw [List.length_drop]; omega), List.take_append_drop]

/-- Two sectors that came in. -/
theorem secs_open {H : Type} {enc : TypeId × Value → H} {W : World} {r : Reach} {b0 : Nat} {v : Value} {d : DataW H} {p : List MemPlace} (hv : Value.okWide Tryd.prog W r b0 28 v) (h : DataW.Trod enc Tryd.prog W 0 (fun _ => true) true 28 v d p) :
    ∃ a b, v = aggV (u8s (a ++ b)) ∧ Byts 64 a ∧ Byts 64 b := by
  obtain ⟨cs, rfl, hsz⟩ := okWide_array Tryd.underlying28 hv
  obtain ⟨fuel, hf⟩ := h
  obtain ⟨xs, m, _, ex, hl, hlen, hel⟩ := DataW.trod_array Tryd.underlying28 hf
  have c27 : Tryd.prog.cellsOf 27 = 64 := by kernel_rfl
  have c28 : Tryd.prog.cellsOf 28 = 128 := by kernel_rfl
  rw [c28] at hl
  have hl : cs.toList.length = 2 * 64 := hl
  match xs, hlen with
  | [y0, y1], _ =>
    have h0 := hel 0 (by omega)
    have h1 := hel 1 (by omega)
    rw [c27] at h0 h1
    obtain ⟨a, e0, ha⟩ := byts_open Tryd.underlying27 c27 h0
    obtain ⟨b, e1, hb⟩ := byts_open Tryd.underlying27 c27 h1
    refine ⟨a, b, ?_, ha, hb⟩
    have e0 : cs.toList.take 64 = u8s a := by simpa [Value.cells] using e0
    have e1 : (cs.toList.drop 64).take 64 = u8s b := by simpa [Value.cells] using e1
    have e : cs.toList = u8s (a ++ b) := by rw [two_parts hl, e0, e1, u8s_app]
    show Value.agg cs = .agg (u8s (a ++ b)).toArray
    rw [← e]

/-- Two versions that came in. -/
theorem vers_open {H : Type} {enc : TypeId × Value → H} {W : World} {r : Reach} {b0 : Nat} {v : Value} {d : DataW H} {p : List MemPlace} (hv : Value.okWide Tryd.prog W r b0 40 v) (h : DataW.Trod enc Tryd.prog W 0 (fun _ => true) true 40 v d p) :
    ∃ n s m t, v = aggV (verC n s ++ verC m t) ∧ Byts 96 s ∧ Byts 96 t := by
  obtain ⟨cs, rfl, hsz⟩ := okWide_array Tryd.underlying40 hv
  obtain ⟨fuel, hf⟩ := h
  obtain ⟨xs, m, _, ex, hl, hlen, hel⟩ := DataW.trod_array Tryd.underlying40 hf
  have c25 : Tryd.prog.cellsOf 25 = 97 := by kernel_rfl
  have c40 : Tryd.prog.cellsOf 40 = 194 := by kernel_rfl
  rw [c40] at hl
  have hl : cs.toList.length = 2 * 97 := hl
  match xs, hlen with
  | [y0, y1], _ =>
    have h0 := hel 0 (by omega)
    have h1 := hel 1 (by omega)
    rw [c25] at h0 h1
    obtain ⟨n, s, e0, hs, _⟩ := ver_cells h0
    obtain ⟨m, t, e1, ht, _⟩ := ver_cells h1
    refine ⟨n, s, m, t, ?_, hs, ht⟩
    have e0 : cs.toList.take 97 = verC n s := by simpa [Value.cells] using e0
    have e1 : (cs.toList.drop 97).take 97 = verC m t := by simpa [Value.cells] using e1
    have e : cs.toList = verC n s ++ verC m t := by rw [two_parts hl, e0, e1]
    show Value.agg cs = .agg (verC n s ++ verC m t).toArray
    rw [← e]

end Go.Proofs.YtnflcajidgbbbaaDoor
