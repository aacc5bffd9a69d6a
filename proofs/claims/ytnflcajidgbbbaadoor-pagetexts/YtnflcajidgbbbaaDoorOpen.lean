/-
  How the arguments of page's laws are opened.
-/
import Derived.Test.YtnflcajidgbbbaaDoorEqs
import Derived.ProofKit
import Derived.OpenShut
import Derived.SizedLaws
import Derived.Lib.SmallJoins
import Derived.LaidMore
import Derived.Lay
import Derived.SevenTiedAt
import Derived.Stop.Joined
import Derived.Test.YtnflcajidgbbbaaDoorRows
namespace Go.Proofs.YtnflcajidgbbbaaDoor
open Go.ChangeShapes Go.WideShapes Go.ChangeAt Go.RowKit Go.Joins

theorem own : ownKnob Tryd.prog.godebug = none := by kernel_rfl
theorem Tryd.laidOut : laidOutB Tryd.prog = true := by kernel_rfl

theorem okWide_array {W : World} {r : Reach} {b0 t n e : Nat} {v : Value} (ht : Tryd.prog.underlying t = some (.array n e)) (h : Value.okWide Tryd.prog W r b0 t v) : ∃ cs, v = .agg cs ∧ cs.size = Tryd.prog.cellsOf t := by
  simp only [Value.okWide, ht] at h
  obtain ⟨cs, h1, h2, _⟩ := h
  exact ⟨cs, h1, h2⟩

/-- An array of bytes that came in. -/
theorem byts_open {H : Type} {enc : TypeId × Value → H} {W : World} {fuel T n : Nat} {cs : List Value} {x : DataW H × List MemPlace} (ht : Tryd.prog.underlying T = some (.array n 5)) (hc : Tryd.prog.cellsOf T = n)
    (h : DataW.trod enc Tryd.prog W 0 (fun _ => true) true fuel T cs = some x) : ∃ s, cs = u8s s ∧ Byts n s := by
  obtain ⟨xs, m, _, ex, hl, hlen, hel⟩ := DataW.trod_array ht h
  rw [hc] at hl
  have h1 : ∀ i, i < n → ∃ z : Int, cs[i]? = some (.int .u8 z) ∧ 0 ≤ z ∧ z < 256 := by
    intro i hi
    have hE := hel i hi
    rw [Tryd.cells5, Nat.mul_one, List.getElem?_eq_getElem (by omega)] at hE
    obtain ⟨z, e1, e2, hw⟩ := DataW.trod_int Tryd.underlying5 hE
    have hb := bounds_u8 hw
    refine ⟨z, ?_, hb.1, by omega⟩
    have h0 : ((cs.drop i).take 1)[0]? = some (.int .u8 z) := by rw [e1]; rfl
    simpa using h0
  refine ⟨cs.map (fun v => match v with | .int _ x => x | _ => 0), ?_, by simpa using hl, ?_⟩
  · apply List.ext_getElem?
    intro i
    by_cases hi : i < n
    · obtain ⟨z, hz, _⟩ := h1 i hi
      simp [u8s, hz]
    · rw [List.getElem?_eq_none (by omega), List.getElem?_eq_none (by simp [u8s]; omega)]
  · intro y hy
    obtain ⟨v, hv, rfl⟩ := List.mem_map.1 hy
    obtain ⟨i, hi⟩ := List.mem_iff_getElem?.1 hv
    obtain ⟨z, hz, hz1, hz2⟩ := h1 i (by have := (List.getElem?_eq_some_iff.1 hi).1; omega)
    rw [hz] at hi
    cases hi
    exact ⟨hz1, hz2⟩

theorem fields25' : ∃ f0 f1, Tryd.prog.underlying 25 = some (.struct #[f0, f1]) ∧ f0.type = 2 ∧ f0.offset = 0 ∧ f1.type = 23 ∧ f1.offset = 1 := by
  exact ⟨_, _, Tryd.underlying25, rfl, rfl, rfl, rfl⟩

/-- A version that came in. -/
theorem ver_cells {H : Type} {enc : TypeId × Value → H} {W : World} {fuel : Nat} {cs : List Value} {x : DataW H × List MemPlace} (h : DataW.trod enc Tryd.prog W 0 (fun _ => true) true fuel 25 cs = some x) : ∃ n s, cs = verC n s ∧ Byts 96 s ∧ -9223372036854775808 ≤ n ∧ n ≤ 9223372036854775807 := by
  obtain ⟨f0, f1, hu, t0, o0, t1, o1⟩ := fields25'
  obtain ⟨y0, y1, m, _, hl, h0, h1⟩ := trod_struct2 hu h
  have c2 : Tryd.prog.cellsOf 2 = 1 := by kernel_rfl
  have c23 : Tryd.prog.cellsOf 23 = 96 := by kernel_rfl
  have c25 : Tryd.prog.cellsOf 25 = 97 := by kernel_rfl
  rw [t0, o0, c2] at h0
  rw [t1, o1, c23] at h1
  rw [c25] at hl
  obtain ⟨n, e0, _, hw⟩ := DataW.trod_int Tryd.underlying2 h0
  obtain ⟨s, e1, hs⟩ := byts_open Tryd.underlying23 c23 h1
  refine ⟨n, s, ?_, hs, bounds_i64 hw⟩
  have e : cs = cs.take 1 ++ (cs.drop 1).take 96 := by
    rw [List.take_of_length_le (l := cs.drop 1) (by rw [List.length_drop]; omega), List.take_append_drop]
  rw [e, e1]
  have e2 : cs.take 1 = [.int .i64 n] := by simpa [Value.cells] using e0
  rw [e2]
  rfl
theorem ver_open {H : Type} {enc : TypeId × Value → H} {W : World} {r : Reach} {b0 : Nat} {v : Value} {d : DataW H} {p : List MemPlace} (hv : Value.okWide Tryd.prog W r b0 25 v) (h : DataW.Trod enc Tryd.prog W 0 (fun _ => true) true 25 v d p) :
    ∃ n s, v = aggV (verC n s) ∧ Byts 96 s ∧ -9223372036854775808 ≤ n ∧ n ≤ 9223372036854775807 := by
  obtain ⟨f0, f1, hu, _⟩ := fields25'
  obtain ⟨cs, rfl, hsz⟩ := okWide_struct hu hv
  obtain ⟨fuel, hf⟩ := h
  obtain ⟨n, s, e, hs, hn⟩ := ver_cells hf
  refine ⟨n, s, ?_, hs, hn⟩
  have : cs.toList = verC n s := e
  show Value.agg cs = .agg (verC n s).toArray
  rw [← this]

/-- Two numbers that came in. -/
theorem two_open {H : Type} {enc : TypeId × Value → H} {W : World} {r : Reach} {b0 : Nat} {v : Value} {d : DataW H} {p : List MemPlace} (hv : Value.okWide Tryd.prog W r b0 55 v) (h : DataW.Trod enc Tryd.prog W 0 (fun _ => true) true 55 v d p) :
    ∃ x y : Int, v = aggV [.int .i64 x, .int .i64 y] := by
  obtain ⟨cs, rfl, hsz⟩ := okWide_array Tryd.underlying55 hv
  obtain ⟨fuel, hf⟩ := h
  obtain ⟨xs, m, _, ex, hl, hlen, hel⟩ := DataW.trod_array Tryd.underlying55 hf
  have c3 : Tryd.prog.cellsOf 3 = 1 := by kernel_rfl
  have c55 : Tryd.prog.cellsOf 55 = 2 := by kernel_rfl
  rw [c55] at hl
  have hl : cs.toList.length = 2 := hl
  match xs, hlen with
  | [y0, y1], _ =>
    have h0 := hel 0 (by omega)
    have h1 := hel 1 (by omega)
    rw [c3] at h0 h1
    obtain ⟨x, e0, _, _⟩ := DataW.trod_int Tryd.underlying3 h0
    obtain ⟨y, e1, _, _⟩ := DataW.trod_int Tryd.underlying3 h1
    refine ⟨x, y, ?_⟩
    have e0 : cs.toList.take 1 = [.int .i64 x] := by simpa [Value.cells] using e0
    have e1 : (cs.toList.drop 1).take 1 = [.int .i64 y] := by simpa [Value.cells] using e1
    have e : cs.toList = [.int .i64 x, .int .i64 y] := by
      have : cs.toList = cs.toList.take 1 ++ (cs.toList.drop 1).take 1 := by
        rw [List.take_of_length_le (l := cs.toList.drop 1) (by rw [List.length_drop]; omega), List.take_append_drop]
      rw [this, e0, e1]
      rfl
    show Value.agg cs = .agg [.int .i64 x, .int .i64 y].toArray
    rw [← e]

end Go.Proofs.YtnflcajidgbbbaaDoor
