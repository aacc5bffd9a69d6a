/-
  How the arguments of record's laws are opened: bytes, a record, a list of records.
-/
import Derived.Test.YtkpkiibahfdomaaDoorFirst
import Derived.Test.YtkpkiibahfdomaaDoorRun
namespace Go.Proofs.YtkpkiibahfdomaaDoor
open Go.ChangeShapes Go.WideShapes Go.ChangeAt Go.RowKit Go.Joins Go.Deep

/-- An array of bytes that came in. -/
theorem byts_open {H : Type} {enc : TypeId × Value → H} {W : World} {fuel T n : Nat} {cs : List Value} {x : DataW H × List MemPlace} (ht : Tryd.prog.underlying T = some (.array n 5)) (hc : Tryd.prog.cellsOf T = n)
    (h : DataW.trod enc Tryd.prog W 0 (fun _ => true) true fuel T cs = some x) : ∃ s, cs = u8s s ∧ Byts n s := by
  obtain ⟨xs, m, _, ex, hl, hlen, hel⟩ := DataW.trod_array ht h
  rw [hc] at hl
  have h1 : ∀ i, i < n → ∃ z : Int, cs[i]? = some (.int .u8 z) ∧ 0 ≤ z ∧ z < 256 := by
    intro i hi
    have hE := hel i hi
    rw [Tryd.cells5, Nat.mul_one, List.getElem?_eq_getElem (by omega)] at hE
    obtain ⟨z, e1, e2, hw⟩ := DataW.trod_int Tryd.underlying5 hE
    have hb := bounds_u8 hw
    refine ⟨z, ?_, hb.1, by omega⟩
    have h0 : ((cs.drop i).take 1)[0]? = some (.int .u8 z) := by rw [e1]; rfl
    simpa using h0
  refine ⟨cs.map (fun v => match v with | .int _ x => x | _ => 0), ?_, by simpa using hl, ?_⟩
  · apply List.ext_getElem?
    intro i
    by_cases hi : i < n
    · obtain ⟨z, hz, _⟩ := h1 i hi
      simp [u8s, hz]
    · rw [List.getElem?_eq_none (by omega), List.getElem?_eq_none (by simp [u8s]; omega)]
  · intro y hy
    obtain ⟨v, hv, rfl⟩ := List.mem_map.1 hy
    obtain ⟨i, hi⟩ := List.mem_iff_getElem?.1 hv
    obtain ⟨z, hz, hz1, hz2⟩ := h1 i (by have := (List.getElem?_eq_some_iff.1 hi).1; omega)
    rw [hz] at hi
    cases hi
    exact ⟨hz1, hz2⟩

theorem fields25' : ∃ f0 f1 f2 f3 f4 f5 : Field, Tryd.prog.underlying 25 = some (.struct #[f0, f1, f2, f3, f4, f5]) ∧ (f0.type = 3 ∧ f0.offset = 0) ∧ (f1.type = 2 ∧ f1.offset = 1) ∧ (f2.type = 2 ∧ f2.offset = 2) ∧ (f3.type = 3 ∧ f3.offset = 3) ∧ (f4.type = 2 ∧ f4.offset = 4) ∧ f5.type = 23 ∧ f5.offset = 5 :=
  ⟨_, _, _, _, _, _, Tryd.underlying25, ⟨rfl, rfl⟩, ⟨rfl, rfl⟩, ⟨rfl, rfl⟩, ⟨rfl, rfl⟩, ⟨rfl, rfl⟩, rfl, rfl⟩
theorem six_of {α : Type} {l : List α} (h : l.length = 6) : ∃ a b c d e f, l = [a, b, c, d, e, f] := by
  match l, h with
  | [a, b, c, d, e, f], _ => exact ⟨a, b, c, d, e, f, rfl⟩
theorem five_then {α : Type} {l : List α} {n : Nat} (h : l.length = n + 5) : ∃ a b c d e r, l = a :: b :: c :: d :: e :: r := by
  match l, h with
  | a :: b :: c :: d :: e :: r, _ => exact ⟨a, b, c, d, e, r, rfl⟩
  | [], h => simp at h
  | [_], h => simp at h
  | [_, _], h => simp at h
  | [_, _, _], h => simp at h
  | [_, _, _, _], h => simp at h
set_option maxRecDepth 100000 in
theorem rec_cells {H : Type} {enc : TypeId × Value → H} {W : World} {fuel : Nat} {cs : List Value} {x : DataW H × List MemPlace} (h : DataW.trod enc Tryd.prog W 0 (fun _ => true) true fuel 25 cs = some x) : ∃ r : Rec, cs = recC r ∧ r.Ok := by
  obtain ⟨f0, f1, f2, f3, f4, f5, hu, ⟨t0, o0⟩, ⟨t1, o1⟩, ⟨t2, o2⟩, ⟨t3, o3⟩, ⟨t4, o4⟩, t5, o5⟩ := fields25'
  obtain ⟨xs, n, _, ex, hl, hlen, hf⟩ := DataW.trod_struct hu h
  obtain ⟨y0, y1, y2, y3, y4, y5, rfl⟩ := six_of hlen
  have c2 : Tryd.prog.cellsOf 2 = 1 := by kernel_rfl
  have c3 : Tryd.prog.cellsOf 3 = 1 := by kernel_rfl
  have c23 : Tryd.prog.cellsOf 23 = 96 := by kernel_rfl
  have c25 : Tryd.prog.cellsOf 25 = 101 := by kernel_rfl
  have h0 := hf 0 f0 rfl
  have h1 := hf 1 f1 rfl
  have h2 := hf 2 f2 rfl
  have h3 := hf 3 f3 rfl
  have h4 := hf 4 f4 rfl
  have h5 := hf 5 f5 rfl
  rw [t0, o0, c3] at h0
  rw [t1, o1, c2] at h1
  rw [t2, o2, c2] at h2
  rw [t3, o3, c3] at h3
  rw [t4, o4, c2] at h4
  rw [t5, o5, c23] at h5
  rw [c25] at hl
  obtain ⟨a0, a1, a2, a3, a4, rs, rfl⟩ := five_then (n := 96) hl
  obtain ⟨v0, e0, _, w0⟩ := DataW.trod_int Tryd.underlying3 h0
  obtain ⟨v1, e1, _, w1⟩ := DataW.trod_int Tryd.underlying2 h1
  obtain ⟨v2, e2, _, w2⟩ := DataW.trod_int Tryd.underlying2 h2
  obtain ⟨v3, e3, _, w3⟩ := DataW.trod_int Tryd.underlying3 h3
  obtain ⟨v4, e4, _, w4⟩ := DataW.trod_int Tryd.underlying2 h4
  obtain ⟨s, e5, hs⟩ := byts_open Tryd.underlying23 c23 h5
  have hrl : rs.length = 96 := by simpa using hl
  simp at e0 e1 e2 e3 e4
  have e5' : rs = u8s s := by
    have : (a0 :: a1 :: a2 :: a3 :: a4 :: rs).drop 5 = rs := rfl
    rw [this, List.take_of_length_le (by omega)] at e5
    exact e5
  subst e0 e1 e2 e3 e4 e5'
  exact ⟨⟨v0, v1, v2, v3, v4, s⟩, rfl, ⟨bounds_i64 w0, bounds_i64 w1, bounds_i64 w2, bounds_i64 w3, bounds_i64 w4, hs⟩⟩
/-- A record that came in. -/
theorem rec_open {H : Type} {enc : TypeId × Value → H} {W : World} {r : Reach} {b0 : Nat} {v : Value} {d : DataW H} {p : List MemPlace} (hv : Value.okWide Tryd.prog W r b0 25 v) (h : DataW.Trod enc Tryd.prog W 0 (fun _ => true) true 25 v d p) : ∃ r : Rec, v = aggV (recC r) ∧ r.Ok := by
  obtain ⟨f0, f1, f2, f3, f4, f5, hu, _⟩ := fields25'
  obtain ⟨cs, rfl, hsz⟩ := okWide_struct hu hv
  obtain ⟨fuel, hf⟩ := h
  obtain ⟨r, e, hr⟩ := rec_cells hf
  refine ⟨r, ?_, hr⟩
  have : cs.toList = recC r := e
  show Value.agg cs = .agg (recC r).toArray
  rw [← this]

theorem spot_none {w : World} {a : Addr} {v : Value} (h : w.cell? a = some v) : a = ⟨a.block, a.off, none⟩ := by
  have : a.spot = none := by
    unfold World.cell? at h
    split at h
    · cases hs : a.spot with
      | none => rfl
      | some s => simp [hs] at h
    · cases h
  cases a; simp_all
theorem Tryd.bytes25 : Tryd.prog.bytesOf 25 = 136 := by kernel_rfl
/-- What a slice reads as, by its datum. -/
def Reads {H : Type} (d : DataW H) (m : Nat) : Prop := (d = .nil ∧ m = 0) ∨ ∃ elems spare, d = .slice elems spare ∧ m ≤ elems.length + spare.length
theorem reads_sized {H : Type} {ts : List TypeId} {ds : List (DataW H)} {j m : Nat} {d : DataW H} (h : (DataW.weightsEach Tryd.prog ts ds).all (· ≤ reachBytes) = true) (ht : ts[j]? = some 55) (hd : ds[j]? = some d) (hr : Reads d m) : m ≤ 140737488355328 := by
  rcases hr with ⟨_, rfl⟩ | ⟨elems, spare, rfl, hm⟩
  · omega
  · have := sized_slice h (j := j) (t := 55) (e := 25) ht hd Tryd.underlying55
    rw [Tryd.bytes25] at this
    simp only [reachBytes] at this
    omega
-- The records that came in.
set_option maxRecDepth 100000 in
theorem recs_open {H : Type} {enc : TypeId × Value → H} {W : World} {fuel : Nat} {v : Value} {x : DataW H × List MemPlace}
    (h : DataW.trod enc Tryd.prog W 0 (fun _ => true) true fuel 55 [v] = some x) :
    ∃ (ao : Option Addr) (c : Nat) (l : List Rec), v = .slice ao l.length c ∧ (ao = none → l = [] ∧ c = 0) ∧ RecS W ao l ∧ (∀ r ∈ l, r.Ok) ∧ Reads x.1 l.length := by
  rcases open_slice Tryd.underlying55 h with ⟨hcs, hx⟩ | ⟨a, len, cap, m, n, D, Pl, hcs, _, hl, _, hm, hx, hel⟩
  · cases hcs
    exact ⟨none, 0, [], rfl, fun _ => ⟨rfl, rfl⟩, fun i x hx => (by simp at hx), fun x hx => (by cases hx), .inl ⟨by rw [hx], rfl⟩⟩
  · cases hcs
    simp only [if_true] at hm
    have c25 : Tryd.prog.cellsOf 25 = 101 := by kernel_rfl
    have hch : ∀ i, i < len → ∃ q : Rec, (∀ c u, (recC q)[c]? = some u → W.cell? (a.add (i * 101 + c)) = some u) ∧ q.Ok := by
      intro i hi
      obtain ⟨cs', h1, h2⟩ := hel i (by omega)
      rw [c25] at h1
      obtain ⟨_, hlen, hcell⟩ := World.cells?_some h1
      obtain ⟨q, rfl, hq⟩ := rec_cells h2
      refine ⟨q, ?_, hq⟩
      intro c u hu
      have hc : c < 101 := by have := (List.getElem?_eq_some_iff.1 hu).1; omega
      have := hcell c hc
      rw [add_add] at this
      rw [this]
      exact hu
    haveI : Inhabited Rec := ⟨zrec⟩
    obtain ⟨X, hX⟩ := choose_lt hch
    refine ⟨some a, cap, (List.range len).map X, by simp, (fun h => by cases h), ?_, ?_, .inr ⟨_, _, by rw [hx], by simp⟩⟩
    · intro i x hi
      have hil : i < len := by have := (List.getElem?_eq_some_iff.1 hi).1; simpa using this
      obtain rfl : X i = x := by simpa [hil] using hi
      have h0 := (hX 0 (by omega)).1 0 _ rfl
      have ha := spot_none (show W.cell? a = some _ from h0)
      refine ⟨a.block, a.off, by rw [← ha], fun c u hu => ?_⟩
      have := (hX i hil).1 c u hu
      rw [ha, Addr.add_lit, ← Nat.add_assoc] at this
      exact this
    · intro x hx
      simp only [List.mem_map, List.mem_range] at hx
      obtain ⟨i, hi, rfl⟩ := hx
      exact (hX i hi).2

end Go.Proofs.YtkpkiibahfdomaaDoor
