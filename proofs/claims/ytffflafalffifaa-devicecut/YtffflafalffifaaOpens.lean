/-
  How the arguments of device's laws are opened: sectors, steps, scripts; what the bound on the bulk gives.
-/
import Derived.Test.YtffflafalffifaaDoc
import Derived.Test.YtffflafalffifaaOpend
import Derived.Deep.Slices
import Derived.JoinedCond
namespace Go.Proofs.Ytffflafalffifaa.K
open Go.ChangeShapes Go.WideShapes Go.ChangeAt Go.RowKit Go.Joins Go.Deep

theorem bulk_pos {H : Type} (d : DataW H) : 1 ≤ Rows.uptoBulk d := by
  cases d with
  | lit x => cases x <;> simp [Rows.uptoBulk]
  | _ => simp [Rows.uptoBulk]
theorem bulk_len {H : Type} (ds : List (DataW H)) : ds.length ≤ Rows.uptoBulkAll ds := by
  induction ds with
  | nil => simp [Rows.uptoBulkAll]
  | cons d r ih => have := bulk_pos d; simp only [Rows.uptoBulkAll, List.length_cons]; omega
theorem bulk_mem {H : Type} {d : DataW H} {ds : List (DataW H)} (h : d ∈ ds) : Rows.uptoBulk d ≤ Rows.uptoBulkAll ds := by
  induction ds with
  | nil => cases h
  | cons e r ih =>
    simp only [Rows.uptoBulkAll]
    rcases List.mem_cons.1 h with rfl | h
    · omega
    · have := ih h; omega
theorem reads_bulk {H : Type} {d : DataW H} {m : Nat} (h : Reads d m) : m ≤ Rows.uptoBulk d := by
  rcases h with ⟨rfl, rfl⟩ | ⟨elems, spare, rfl, hm⟩
  · omega
  · have h1 := bulk_len elems
    have h2 := bulk_len spare
    simp only [Rows.uptoBulk]
    omega
theorem cells38 : Try.prog.cellsOf 38 = 64 := by kernel_rfl
/-- A sector that came in. -/
theorem sec_open {H : Type} {enc : TypeId × Value → H} {W : World} {fuel : Nat} {cs : List Value} {x : DataW H × List MemPlace} (h : DataW.trod enc Try.prog W 0 (fun _ => true) true fuel 38 cs = some x) : ∃ s, cs = u8s s ∧ Sec s := by
  obtain ⟨xs, m, _, ex, hl, hlen, hel⟩ := DataW.trod_array Try.underlying38 h
  rw [cells38] at hl
  have h1 : ∀ i, i < 64 → ∃ z : Int, cs[i]? = some (.int .u8 z) ∧ 0 ≤ z ∧ z < 256 := by
    intro i hi
    have hE := hel i hi
    rw [cells5, Nat.mul_one, List.getElem?_eq_getElem (by omega)] at hE
    obtain ⟨z, e1, e2, hw⟩ := DataW.trod_int Try.underlying5 hE
    have hb := bounds_u8 hw
    refine ⟨z, ?_, hb.1, by omega⟩
    have h0 : ((cs.drop i).take 1)[0]? = some (.int .u8 z) := by rw [e1]; rfl
    simpa using h0
  refine ⟨cs.map (fun v => match v with | .int _ x => x | _ => 0), ?_, by simpa using hl, ?_⟩
  · apply List.ext_getElem?
    intro i
    by_cases hi : i < 64
    · obtain ⟨z, hz, _⟩ := h1 i hi
      simp [u8s, hz]
    · rw [List.getElem?_eq_none (by omega), List.getElem?_eq_none (by simp [u8s]; omega)]
  · intro y hy
    obtain ⟨v, hv, rfl⟩ := List.mem_map.1 hy
    obtain ⟨i, hi⟩ := List.mem_iff_getElem?.1 hv
    obtain ⟨z, hz, hz1, hz2⟩ := h1 i (by have := (List.getElem?_eq_some_iff.1 hi).1; omega)
    rw [hz] at hi
    cases hi
    exact ⟨hz1, hz2⟩
theorem cell_lt {W : World} {a : Addr} {v : Value} (h : W.cell? a = some v) : a.block < W.heap.size := by
  unfold World.cell? at h
  split at h
  · next hb => exact lt_of_block hb
  · cases h
set_option maxRecDepth 100000 in
/-- Sectors that came in. -/
theorem secs_open {H : Type} {enc : TypeId × Value → H} {W : World} {fuel : Nat} {v : Value} {x : DataW H × List MemPlace}
    (h : DataW.trod enc Try.prog W 0 (fun _ => true) true fuel 36 [v] = some x) :
    ∃ ao m c L, v = .slice ao m c ∧ (ao = none → m = 0 ∧ c = 0) ∧ Secs W ao m c L ∧ (L ≠ [] → ∀ h off, ao = some ⟨h, off, none⟩ → h < W.heap.size) ∧ Reads x.1 m := by
  rcases open_slice Try.underlying36 h with ⟨hcs, hx⟩ | ⟨a, len, cap, m, n, D, Pl, hcs, _, hl, _, hm, hx, hel⟩
  · cases hcs
    exact ⟨none, 0, 0, [], rfl, fun _ => ⟨rfl, rfl⟩, ⟨rfl, fun s hs => (by cases hs), Nat.le_refl _, fun h => absurd rfl h⟩, fun h => absurd rfl h, .inl ⟨by rw [hx], rfl⟩⟩
  · cases hcs
    simp only [if_true] at hm
    have hch : ∀ i, i < len → ∃ q : List Int, (∀ c u, (u8s q)[c]? = some u → W.cell? (a.add (i * 64 + c)) = some u) ∧ Sec q := by
      intro i hi
      obtain ⟨cs', h1, h2⟩ := hel i (by omega)
      rw [cells38] at h1
      obtain ⟨_, hlen, hcell⟩ := World.cells?_some h1
      obtain ⟨q, rfl, hq⟩ := sec_open h2
      refine ⟨q, ?_, hq⟩
      intro c u hu
      have hc : c < 64 := by have := (List.getElem?_eq_some_iff.1 hu).1; omega
      have := hcell c hc
      rw [add_add] at this
      rw [this]
      exact hu
    obtain ⟨X, hX⟩ := choose_lt hch
    have hfirst : 0 < len → a = ⟨a.block, a.off, none⟩ ∧ a.block < W.heap.size := by
      intro h0
      have hs := (hX 0 h0).2
      obtain ⟨u, hu⟩ : ∃ u, (u8s (X 0))[0]? = some u := ⟨_, List.getElem?_eq_getElem (by rw [u8s_len, hs.1]; omega)⟩
      have h1 := (hX 0 h0).1 0 u hu
      have ha := spot_none (show W.cell? a = some _ from h1)
      exact ⟨ha, cell_lt (show W.cell? a = some _ from h1)⟩
    refine ⟨some a, len, cap, (List.range len).map X, rfl, (fun h => by cases h), ⟨by simp, ?_, hl, ?_⟩, ?_, .inr ⟨_, _, by rw [hx], by simp⟩⟩
    · intro s hs
      simp only [List.mem_map, List.mem_range] at hs
      obtain ⟨i, hi, rfl⟩ := hs
      exact (hX i hi).2
    · intro hne
      have h0 : 0 < len := by
        rcases Nat.eq_zero_or_pos len with h0 | h0
        · subst h0; exact absurd rfl hne
        · exact h0
      have ha := (hfirst h0).1
      refine ⟨a.block, a.off, by rw [← ha], fun i hi c u hu => ?_⟩
      have hil : i < len := by simpa using hi
      have hu' : (u8s (X i))[c]? = some u := by simpa using hu
      have := (hX i hil).1 c u hu'
      rw [ha, Addr.add_lit, ← Nat.add_assoc] at this
      exact this
    · intro hne h off e
      have h0 : 0 < len := by
        rcases Nat.eq_zero_or_pos len with h0 | h0
        · subst h0; exact absurd rfl hne
        · exact h0
      have := (hfirst h0).2
      cases e
      exact this
theorem fields40 : ∃ f0 f1 f2 f3 f4 f5 f6 f7 : Field, Try.prog.underlying 40 = some (.struct #[f0, f1, f2, f3, f4, f5, f6, f7]) ∧ (f0.type = 3 ∧ f0.offset = 0) ∧ (f1.type = 3 ∧ f1.offset = 1) ∧ (f2.type = 3 ∧ f2.offset = 2) ∧ (f3.type = 2 ∧ f3.offset = 3) ∧ (f4.type = 2 ∧ f4.offset = 4) ∧ (f5.type = 36 ∧ f5.offset = 5) ∧ (f6.type = 38 ∧ f6.offset = 6) ∧ f7.type = 38 ∧ f7.offset = 70 :=
  ⟨_, _, _, _, _, _, _, _, Try.underlying40, ⟨rfl, rfl⟩, ⟨rfl, rfl⟩, ⟨rfl, rfl⟩, ⟨rfl, rfl⟩, ⟨rfl, rfl⟩, ⟨rfl, rfl⟩, ⟨rfl, rfl⟩, rfl, rfl⟩
theorem eight_of {α : Type} {l : List α} (h : l.length = 8) : ∃ a b c d e f g i, l = [a, b, c, d, e, f, g, i] := by
  match l, h with
  | [a, b, c, d, e, f, g, i], _ => exact ⟨a, b, c, d, e, f, g, i, rfl⟩
theorem six_then {α : Type} {l : List α} {n : Nat} (h : l.length = n + 6) : ∃ a b c d e f r, l = a :: b :: c :: d :: e :: f :: r := by
  match l, h with
  | a :: b :: c :: d :: e :: f :: r, _ => exact ⟨a, b, c, d, e, f, r, rfl⟩
  | [], h => simp at h
  | [_], h => simp at h
  | [_, _], h => simp at h
  | [_, _, _], h => simp at h
  | [_, _, _, _], h => simp at h
  | [_, _, _, _, _], h => simp at h
set_option maxRecDepth 100000 in
/-- A step that came in. -/
theorem step_cells {H : Type} {enc : TypeId × Value → H} {W : World} {fuel : Nat} {cs : List Value} {x : DataW H × List MemPlace} (h : DataW.trod enc Try.prog W 0 (fun _ => true) true fuel 40 cs = some x) (hb : Rows.uptoBulk x.1 ≤ 1048576) : ∃ q : Sx, cs = q.C ∧ q.Ok W W.heap.size := by
  obtain ⟨f0, f1, f2, f3, f4, f5, f6, f7, hu, ⟨t0, o0⟩, ⟨t1, o1⟩, ⟨t2, o2⟩, ⟨t3, o3⟩, ⟨t4, o4⟩, ⟨t5, o5⟩, ⟨t6, o6⟩, t7, o7⟩ := fields40
  obtain ⟨xs, n, _, ex, hl, hlen, hf⟩ := DataW.trod_struct hu h
  obtain ⟨y0, y1, y2, y3, y4, y5, y6, y7, rfl⟩ := eight_of hlen
  have c3 : Try.prog.cellsOf 3 = 1 := by kernel_rfl
  have c36 : Try.prog.cellsOf 36 = 1 := by kernel_rfl
  have c40 : Try.prog.cellsOf 40 = 134 := by kernel_rfl
  have h0 := hf 0 f0 rfl
  have h1 := hf 1 f1 rfl
  have h2 := hf 2 f2 rfl
  have h3 := hf 3 f3 rfl
  have h4 := hf 4 f4 rfl
  have h5 := hf 5 f5 rfl
  have h6 := hf 6 f6 rfl
  have h7 := hf 7 f7 rfl
  rw [t0, o0, c3] at h0
  rw [t1, o1, c3] at h1
  rw [t2, o2, c3] at h2
  rw [t3, o3, cells2] at h3
  rw [t4, o4, cells2] at h4
  rw [t5, o5, c36] at h5
  rw [t6, o6, cells38] at h6
  rw [t7, o7, cells38] at h7
  rw [c40] at hl
  obtain ⟨a0, a1, a2, a3, a4, a5, rs, rfl⟩ := six_then (n := 128) hl
  obtain ⟨v0, e0, _, w0⟩ := DataW.trod_int Try.underlying3 h0
  obtain ⟨v1, e1, _, w1⟩ := DataW.trod_int Try.underlying3 h1
  obtain ⟨v2, e2, _, w2⟩ := DataW.trod_int Try.underlying3 h2
  obtain ⟨v3, e3, _, w3⟩ := DataW.trod_int Try.underlying2 h3
  obtain ⟨v4, e4, _, w4⟩ := DataW.trod_int Try.underlying2 h4
  obtain ⟨ao, m, c, L, e5, hnil, hS, hold, hr⟩ := secs_open (show DataW.trod enc Try.prog W 0 (fun _ => true) true n 36 [a5] = _ from h5)
  obtain ⟨s6, e6, hs6⟩ := sec_open h6
  obtain ⟨s7, e7, hs7⟩ := sec_open h7
  have hrl : rs.length = 128 := by simpa using hl
  simp at e0 e1 e2 e3 e4
  have e6' : rs.take 64 = u8s s6 := e6
  have e7' : rs.drop 64 = u8s s7 := by
    have : (a0 :: a1 :: a2 :: a3 :: a4 :: a5 :: rs).drop 70 = rs.drop 64 := rfl
    rw [this, List.take_of_length_le (by rw [List.length_drop]; omega)] at e7
    exact e7
  have hrs : rs = u8s s6 ++ u8s s7 := by rw [← e6', ← e7', List.take_append_drop]
  subst e0 e1 e2 e3 e4 e5 hrs
  have hbm : m ≤ 1048576 := by
    have h1 := reads_bulk hr
    rw [ex] at hb
    simp only [Rows.uptoBulk, List.map_cons, List.map_nil, Rows.uptoBulkAll] at hb
    omega
  exact ⟨⟨v0, v1, v2, v3, v4, ao, m, c, L, s6, s7⟩, rfl, ⟨bounds_i64 w2, bounds_i64 w4, hS, hs6, hs7, hbm, hnil, hold⟩⟩
set_option maxRecDepth 100000 in
/-- A script that came in. -/
theorem script_open {H : Type} {enc : TypeId × Value → H} {W : World} {fuel : Nat} {v : Value} {x : DataW H × List MemPlace}
    (h : DataW.trod enc Try.prog W 0 (fun _ => true) true fuel 23 [v] = some x) (hb : Rows.uptoBulk x.1 ≤ 1048576) :
    ∃ ao m c X, v = .slice ao m c ∧ Scr W W.heap.size ao m c X ∧ m ≤ 1048576 := by
  rcases open_slice Try.underlying23 h with ⟨hcs, hx⟩ | ⟨a, len, cap, m, n, D, Pl, hcs, _, hl, _, hm, hx, hel⟩
  · cases hcs
    exact ⟨none, 0, 0, [], rfl, ⟨rfl, fun s hs => (by cases hs), fun h => absurd rfl h⟩, by omega⟩
  · cases hcs
    simp only [if_true] at hm
    have c40 : Try.prog.cellsOf 40 = 134 := by kernel_rfl
    have hbulk : Rows.uptoBulkAll ((List.range len).map D) ≤ Rows.uptoBulk x.1 := by rw [hx]; simp only [Rows.uptoBulk]; omega
    have hb2 := bulk_len ((List.range len).map D)
    rw [List.length_map, List.length_range] at hb2
    have hch : ∀ i, i < len → ∃ q : Sx, (∀ c u, q.C[c]? = some u → W.cell? (a.add (i * 134 + c)) = some u) ∧ q.Ok W W.heap.size := by
      intro i hi
      obtain ⟨cs', h1, h2⟩ := hel i (by omega)
      rw [c40] at h1
      obtain ⟨_, hlen, hcell⟩ := World.cells?_some h1
      have hbi : Rows.uptoBulk (D i) ≤ 1048576 := by
        have := bulk_mem (d := D i) (ds := (List.range len).map D) (List.mem_map.2 ⟨i, List.mem_range.2 hi, rfl⟩)
        omega
      obtain ⟨q, rfl, hq⟩ := step_cells h2 hbi
      refine ⟨q, ?_, hq⟩
      intro c u hu
      have hc : c < 134 := by have := (List.getElem?_eq_some_iff.1 hu).1; omega
      have := hcell c hc
      rw [add_add] at this
      rw [this]
      exact hu
    haveI : Inhabited Sx := ⟨⟨0, 0, 0, 0, 0, none, 0, 0, [], [], []⟩⟩
    obtain ⟨X, hX⟩ := choose_lt hch
    refine ⟨some a, len, cap, (List.range len).map X, rfl, ⟨by simp, ?_, ?_⟩, by omega⟩
    · intro s hs
      simp only [List.mem_map, List.mem_range] at hs
      obtain ⟨i, hi, rfl⟩ := hs
      exact (hX i hi).2
    · intro hne
      have h0 : 0 < len := by
        rcases Nat.eq_zero_or_pos len with h0 | h0
        · subst h0; exact absurd rfl hne
        · exact h0
      have h1 := (hX 0 h0).1 0 _ rfl
      have ha := spot_none (show W.cell? a = some _ from h1)
      refine ⟨a.block, a.off, by rw [← ha], cell_lt (show W.cell? a = some _ from h1), fun i x hi c u hu => ?_⟩
      have hil : i < len := by have := (List.getElem?_eq_some_iff.1 hi).1; simpa using this
      obtain rfl : X i = x := by simpa [hil] using hi
      have := (hX i hil).1 c u hu
      rw [ha, Addr.add_lit, ← Nat.add_assoc] at this
      exact this
/-- Two numbers that came in. -/
theorem size_open {H : Type} {enc : TypeId × Value → H} {W : World} {r : Reach} {b0 : Nat} {v : Value} {d : DataW H} {p : List MemPlace} (hv : Value.okWide Try.prog W r b0 22 v) (h : DataW.Trod enc Try.prog W 0 (fun _ => true) true 22 v d p) : ∃ n0 n1 : Int, v = aggV [.int .i64 n0, .int .i64 n1] := by
  obtain ⟨cs, rfl⟩ : ∃ cs, v = .agg cs := by
    unfold Value.okWide at hv
    rw [Try.underlying22] at hv
    obtain ⟨cs, e, _⟩ := hv
    exact ⟨cs, e⟩
  obtain ⟨fuel, hf⟩ := h
  obtain ⟨xs, m, _, ex, hl, hlen, hel⟩ := DataW.trod_array Try.underlying22 (show DataW.trod enc Try.prog W 0 (fun _ => true) true fuel 22 cs.toList = _ from hf)
  have c3 : Try.prog.cellsOf 3 = 1 := by kernel_rfl
  have c22 : Try.prog.cellsOf 22 = 2 := by kernel_rfl
  rw [c22] at hl
  have h0 := hel 0 (by omega)
  have h1 := hel 1 (by omega)
  rw [c3, List.getElem?_eq_getElem (by omega)] at h0 h1
  obtain ⟨v0, e0, _, w0⟩ := DataW.trod_int Try.underlying3 h0
  obtain ⟨v1, e1, _, w1⟩ := DataW.trod_int Try.underlying3 h1
  refine ⟨v0, v1, ?_⟩
  show Value.agg cs = .agg _
  congr 1
  apply Array.ext'
  match hcs : cs.toList, hl with
  | [a, b], _ =>
    rw [hcs] at e0 e1
    simp at e0 e1
    rw [e0, e1]

end Go.Proofs.Ytffflafalffifaa.K
