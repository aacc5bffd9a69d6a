/-
  How the arguments of the laws are opened.
-/
import Derived.Test.YthidiolgngkffaaSp
import Derived.Test.YthidiolgngkffaaRows
import Derived.MakeChecks
import Derived.LaidLaws
import Derived.ProofKit
import Derived.OpenShut
import Derived.SizedLaws
import Derived.Lib.SmallJoins
import Derived.LaidMore
import Derived.Lay
import Derived.SevenTiedAt
import Derived.Stop.Joined
namespace Go.Proofs.Ythidiolgngkffaa
set_option maxRecDepth 100000
open Go.ChangeShapes Go.WideShapes Go.ChangeAt Go.RowKit Go.Joins Go.Deep

/-- An array of bytes that came in. -/
theorem byts_open {H : Type} {enc : TypeId × Value → H} {W : World} {fuel T n : Nat} {cs : List Value} {x : DataW H × List MemPlace} (ht : Try.prog.underlying T = some (.array n 5)) (hc : Try.prog.cellsOf T = n)
    (h : DataW.trod enc Try.prog W 0 (fun _ => true) true fuel T cs = some x) : ∃ s, cs = u8s s ∧ Byts n s := by
  obtain ⟨xs, m, _, ex, hl, hlen, hel⟩ := DataW.trod_array ht h
  rw [hc] at hl
  have h1 : ∀ i, i < n → ∃ z : Int, cs[i]? = some (.int .u8 z) ∧ 0 ≤ z ∧ z < 256 := by
    intro i hi
    have hE := hel i hi
    rw [Try.cells5, Nat.mul_one, List.getElem?_eq_getElem (by omega)] at hE
    obtain ⟨z, e1, e2, hw⟩ := DataW.trod_int Try.underlying5 hE
    have hb := bounds_u8 hw
    refine ⟨z, ?_, hb.1, by omega⟩
    have h0 : ((cs.drop i).take 1)[0]? = some (.int .u8 z) := by rw [e1]; rfl
    simpa using h0
  refine ⟨cs.map (fun v => match v with | .int _ x => x | _ => 0), ?_, by simpa using hl, ?_⟩
  · apply List.ext_getElem?
    intro i
    by_cases hi : i < n
    · obtain ⟨z, hz, _⟩ := h1 i hi
      simp [u8s, hz]
    · rw [List.getElem?_eq_none (by omega), List.getElem?_eq_none (by simp [u8s]; omega)]
  · intro y hy
    obtain ⟨v, hv, rfl⟩ := List.mem_map.1 hy
    obtain ⟨i, hi⟩ := List.mem_iff_getElem?.1 hv
    obtain ⟨z, hz, hz1, hz2⟩ := h1 i (by have := (List.getElem?_eq_some_iff.1 hi).1; omega)
    rw [hz] at hi
    cases hi
    exact ⟨hz1, hz2⟩

theorem own : ownKnob Try.prog.godebug = none := by kernel_rfl
theorem laidOut : laidOutB Try.prog = true := by kernel_rfl
theorem fields23' : ∃ f0 f1 f2 : Field, Try.prog.underlying 23 = some (.struct #[f0, f1, f2]) ∧ (f0.type = 2 ∧ f0.offset = 0) ∧ (f1.type = 2 ∧ f1.offset = 1) ∧ f2.type = 2 ∧ f2.offset = 2 := ⟨_, _, _, Try.underlying23, ⟨rfl, rfl⟩, ⟨rfl, rfl⟩, rfl, rfl⟩
theorem fields48' : ∃ f0 f1 f2 : Field, Try.prog.underlying 48 = some (.struct #[f0, f1, f2]) ∧ (f0.type = 3 ∧ f0.offset = 0) ∧ (f1.type = 3 ∧ f1.offset = 1) ∧ f2.type = 23 ∧ f2.offset = 2 := ⟨_, _, _, Try.underlying48, ⟨rfl, rfl⟩, ⟨rfl, rfl⟩, rfl, rfl⟩
theorem two_of {α : Type} {l : List α} (h : l.length = 2) : ∃ a b, l = [a, b] := by
  match l, h with
  | [a, b], _ => exact ⟨a, b, rfl⟩
theorem three_of {α : Type} {l : List α} (h : l.length = 3) : ∃ a b c, l = [a, b, c] := by
  match l, h with
  | [a, b, c], _ => exact ⟨a, b, c, rfl⟩
theorem four_of {α : Type} {l : List α} (h : l.length = 4) : ∃ a b c d, l = [a, b, c, d] := by
  match l, h with
  | [a, b, c, d], _ => exact ⟨a, b, c, d, rfl⟩
theorem five_of {α : Type} {l : List α} (h : l.length = 5) : ∃ a b c d e, l = [a, b, c, d, e] := by
  match l, h with
  | [a, b, c, d, e], _ => exact ⟨a, b, c, d, e, rfl⟩
theorem c2 : Try.prog.cellsOf 2 = 1 := by kernel_rfl
theorem c3 : Try.prog.cellsOf 3 = 1 := by kernel_rfl
theorem c23 : Try.prog.cellsOf 23 = 3 := by kernel_rfl
theorem c48 : Try.prog.cellsOf 48 = 5 := by kernel_rfl
theorem c38 : Try.prog.cellsOf 38 = 2 := by kernel_rfl
theorem c51 : Try.prog.cellsOf 51 = 4 := by kernel_rfl
theorem le_cells {H : Type} {enc : TypeId × Value → H} {W : World} {he : Bool} {fuel : Nat} {cs : List Value} {x : DataW H × List MemPlace} (h : DataW.trod enc Try.prog W 0 (fun _ => true) he fuel 23 cs = some x) : ∃ l : Le, cs = l.C ∧ I64 l.ep ∧ I64 l.be ∧ I64 l.re := by
  obtain ⟨f0, f1, f2, hu, ⟨t0, o0⟩, ⟨t1, o1⟩, t2, o2⟩ := fields23'
  obtain ⟨xs, n, _, ex, hl, hlen, hf⟩ := DataW.trod_struct hu h
  obtain ⟨y0, y1, y2, rfl⟩ := three_of hlen
  have h0 := hf 0 f0 rfl
  have h1 := hf 1 f1 rfl
  have h2 := hf 2 f2 rfl
  rw [t0, o0, c2] at h0
  rw [t1, o1, c2] at h1
  rw [t2, o2, c2] at h2
  rw [c23] at hl
  obtain ⟨a0, a1, a2, rfl⟩ := three_of hl
  obtain ⟨v0, e0, _, w0⟩ := DataW.trod_int Try.underlying2 h0
  obtain ⟨v1, e1, _, w1⟩ := DataW.trod_int Try.underlying2 h1
  obtain ⟨v2, e2, _, w2⟩ := DataW.trod_int Try.underlying2 h2
  simp at e0 e1 e2
  subst e0 e1 e2
  exact ⟨⟨v0, v1, v2⟩, rfl, bounds_i64 w0, bounds_i64 w1, bounds_i64 w2⟩
theorem sp_cells {H : Type} {enc : TypeId × Value → H} {W : World} {he : Bool} {fuel : Nat} {cs : List Value} {x : DataW H × List MemPlace} (h : DataW.trod enc Try.prog W 0 (fun _ => true) he fuel 48 cs = some x) : ∃ q : Sp, cs = q.C := by
  obtain ⟨f0, f1, f2, hu, ⟨t0, o0⟩, ⟨t1, o1⟩, t2, o2⟩ := fields48'
  obtain ⟨xs, n, _, ex, hl, hlen, hf⟩ := DataW.trod_struct hu h
  obtain ⟨y0, y1, y2, rfl⟩ := three_of hlen
  have h0 := hf 0 f0 rfl
  have h1 := hf 1 f1 rfl
  have h2 := hf 2 f2 rfl
  rw [t0, o0, c3] at h0
  rw [t1, o1, c3] at h1
  rw [t2, o2, c23] at h2
  rw [c48] at hl
  obtain ⟨a0, a1, a2, a3, a4, rfl⟩ := five_of hl
  obtain ⟨v0, e0, _, w0⟩ := DataW.trod_int Try.underlying3 h0
  obtain ⟨v1, e1, _, w1⟩ := DataW.trod_int Try.underlying3 h1
  obtain ⟨l, e2, _⟩ := le_cells h2
  simp [Le.C] at e0 e1 e2
  obtain ⟨e2, e3, e4⟩ := e2
  subst e0 e1 e2 e3 e4
  exact ⟨⟨v0, v1, l⟩, rfl⟩
theorem le_open {H : Type} {enc : TypeId × Value → H} {W : World} {r : Reach} {b0 : Nat} {v : Value} {d : DataW H} {p : List MemPlace} (hv : Value.okWide Try.prog W r b0 23 v) (h : DataW.Trod enc Try.prog W 0 (fun _ => true) true 23 v d p) : ∃ l : Le, v = aggV l.C ∧ I64 l.ep ∧ I64 l.be ∧ I64 l.re := by
  obtain ⟨f0, f1, f2, hu, _⟩ := fields23'
  obtain ⟨cs, rfl, hsz⟩ := okWide_struct hu hv
  obtain ⟨fuel, hf⟩ := h
  obtain ⟨l, e, hx⟩ := le_cells hf
  refine ⟨l, ?_, hx⟩
  have : cs.toList = l.C := e
  show Value.agg cs = .agg l.C.toArray
  rw [← this]
theorem okWide_array {W : World} {r : Reach} {b0 t n e : Nat} {v : Value} (ht : Try.prog.underlying t = some (.array n e)) (h : Value.okWide Try.prog W r b0 t v) : ∃ cs, v = .agg cs ∧ cs.size = Try.prog.cellsOf t := by
  simp only [Value.okWide, ht] at h
  obtain ⟨cs, h1, h2, _⟩ := h
  exact ⟨cs, h1, h2⟩
theorem sec_open {H : Type} {enc : TypeId × Value → H} {W : World} {r : Reach} {b0 : Nat} {v : Value} {d : DataW H} {p : List MemPlace} (hv : Value.okWide Try.prog W r b0 25 v) (h : DataW.Trod enc Try.prog W 0 (fun _ => true) true 25 v d p) : ∃ s, v = aggV (u8s s) ∧ Byts 64 s := by
  obtain ⟨cs, rfl, hsz⟩ := okWide_array Try.underlying25 hv
  obtain ⟨fuel, hf⟩ := h
  obtain ⟨s, e, hs⟩ := byts_open Try.underlying25 (by kernel_rfl) hf
  refine ⟨s, ?_, hs⟩
  have : cs.toList = u8s s := e
  show Value.agg cs = .agg (u8s s).toArray
  rw [← this]
theorem spot_none {w : World} {a : Addr} {v : Value} (h : w.cell? a = some v) : a = ⟨a.block, a.off, none⟩ := by
  have : a.spot = none := by
    unfold World.cell? at h
    split at h
    · cases hs : a.spot with
      | none => rfl
      | some s => simp [hs] at h
    · cases h
  cases a; simp_all

theorem ints_cells {H : Type} {enc : TypeId × Value → H} {W : World} {he : Bool} {fuel : Nat} {cs : List Value} {x : DataW H × List MemPlace} (h : DataW.trod enc Try.prog W 0 (fun _ => true) he fuel 38 cs = some x) : ∃ a b : Int, cs = [.int .i64 a, .int .i64 b] := by
  obtain ⟨xs, m, _, ex, hl, hlen, hel⟩ := DataW.trod_array Try.underlying38 h
  rw [c38] at hl
  have h0 := hel 0 (by omega)
  have h1 := hel 1 (by omega)
  rw [c3, List.getElem?_eq_getElem (by omega)] at h0 h1
  obtain ⟨a0, a1, rfl⟩ := two_of hl
  obtain ⟨v0, e0, _⟩ := DataW.trod_int Try.underlying3 h0
  obtain ⟨v1, e1, _⟩ := DataW.trod_int Try.underlying3 h1
  simp at e0 e1
  subst e0 e1
  exact ⟨v0, v1, rfl⟩
theorem ints_open {H : Type} {enc : TypeId × Value → H} {W : World} {r : Reach} {b0 : Nat} {v : Value} {d : DataW H} {p : List MemPlace} (hv : Value.okWide Try.prog W r b0 38 v) (h : DataW.Trod enc Try.prog W 0 (fun _ => true) true 38 v d p) : ∃ a b : Int, v = aggV [.int .i64 a, .int .i64 b] := by
  obtain ⟨cs, rfl, hsz⟩ := okWide_array Try.underlying38 hv
  obtain ⟨fuel, hf⟩ := h
  obtain ⟨a, b, e⟩ := ints_cells hf
  refine ⟨a, b, ?_⟩
  have : cs.toList = [.int .i64 a, .int .i64 b] := e
  show Value.agg cs = .agg _
  rw [← this]
theorem quad_open {H : Type} {enc : TypeId × Value → H} {W : World} {r : Reach} {b0 : Nat} {v : Value} {d : DataW H} {p : List MemPlace} (hv : Value.okWide Try.prog W r b0 51 v) (h : DataW.Trod enc Try.prog W 0 (fun _ => true) true 51 v d p) : ∃ a b c e : Int, v = aggV [.int .i64 a, .int .i64 b, .int .i64 c, .int .i64 e] := by
  obtain ⟨cs, rfl, hsz⟩ := okWide_array Try.underlying51 hv
  obtain ⟨fuel, hf⟩ := h
  obtain ⟨xs, m, _, ex, hl, hlen, hel⟩ := DataW.trod_array Try.underlying51 hf
  have hl' : cs.toList.length = 4 := by rw [c51] at hl; exact hl
  have h0 := hel 0 (by omega)
  have h1 := hel 1 (by omega)
  rw [c38, List.getElem?_eq_getElem (by omega)] at h0 h1
  obtain ⟨a, b, e0⟩ := ints_cells h0
  obtain ⟨c, e, e1⟩ := ints_cells h1
  obtain ⟨a0, a1, a2, a3, hcs⟩ := four_of hl'
  have e0' : (cs.toList.drop (0 * 2)).take 2 = [.int .i64 a, .int .i64 b] := e0
  have e1' : (cs.toList.drop (1 * 2)).take 2 = [.int .i64 c, .int .i64 e] := e1
  rw [hcs] at e0' e1'
  simp at e0' e1'
  refine ⟨a, b, c, e, ?_⟩
  show Value.agg cs = .agg _
  have : cs = cs.toList.toArray := by simp
  rw [this, hcs, e0'.1, e0'.2, e1'.1, e1'.2]
set_option maxRecDepth 100000 in
theorem steps_open {H : Type} {enc : TypeId × Value → H} {W : World} {fuel : Nat} {v : Value} {x : DataW H × List MemPlace}
    (h : DataW.trod enc Try.prog W 0 (fun _ => true) true fuel 39 [v] = some x) :
    ∃ (ao : Option Addr) (c : Nat) (l : List Sp), v = .slice ao l.length c ∧ StepS W ao l := by
  rcases open_slice Try.underlying39 h with ⟨hcs, hx⟩ | ⟨a, len, cap, m, n, D, Pl, hcs, _, hl, _, hm, hx, hel⟩
  · cases hcs
    exact ⟨none, 0, [], rfl, fun i x hx => (by simp at hx)⟩
  · cases hcs
    simp only [if_true] at hm
    have hch : ∀ i, i < len → ∃ q : Sp, ∀ c u, q.C[c]? = some u → W.cell? (a.add (i * 5 + c)) = some u := by
      intro i hi
      obtain ⟨cs', h1, h2⟩ := hel i (by omega)
      rw [c48] at h1
      obtain ⟨_, hlen, hcell⟩ := World.cells?_some h1
      obtain ⟨q, rfl⟩ := sp_cells h2
      refine ⟨q, ?_⟩
      intro c u hu
      have hc : c < 5 := by have := (List.getElem?_eq_some_iff.1 hu).1; simpa [Sp.C] using this
      have := hcell c hc
      rw [add_add] at this
      rw [this]
      exact hu
    haveI : Inhabited Sp := ⟨⟨0, 0, le0⟩⟩
    obtain ⟨X, hX⟩ := choose_lt hch
    refine ⟨some a, cap, (List.range len).map X, by simp, ?_⟩
    intro i x hi
    have hil : i < len := by have := (List.getElem?_eq_some_iff.1 hi).1; simpa using this
    obtain rfl : X i = x := by simpa [hil] using hi
    have h0 := hX 0 (by omega) 0 _ rfl
    have ha := spot_none (show W.cell? a = some _ from h0)
    refine ⟨a.block, a.off, by rw [← ha], fun c u hu => ?_⟩
    have := hX i hil c u hu
    rw [ha, Addr.add_lit, ← Nat.add_assoc] at this
    exact this


end Go.Proofs.Ythidiolgngkffaa
