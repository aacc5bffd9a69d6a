/-
  How steps that came in are opened; numbers that came in.
-/
import Derived.Test.YtgnafbohikbpfaaRn
import Derived.Test.YtgnafbohikbpfaaOpn
namespace Go.Proofs.Ytgnafbohikbpfaa
set_option maxRecDepth 100000
open Go.ChangeShapes Go.WideShapes Go.ChangeAt Go.RowKit Go.Joins Go.Deep

/-- The elements of a slice that came in, by their cells. -/
def RowS {α : Type} (C : α → List Value) (m : Nat) (W : World) (ao : Option Addr) (l : List α) : Prop := ∀ i x, l[i]? = some x → ∃ b o, ao = some ⟨b, o, none⟩ ∧ ∀ c u, (C x)[c]? = some u → W.cell? ⟨b, o + i * m + c, none⟩ = some u
theorem RowS.kept {α : Type} {C : α → List Value} {m : Nat} {W W' : World} {ao : Option Addr} {l : List α} (h : RowS C m W ao l) (hk : Kept [] W W') : RowS C m W' ao l := by
  intro i x hx
  obtain ⟨b, o, e, h1⟩ := h i x hx
  exact ⟨b, o, e, fun c u hu => hk.cell (h1 c u hu) (by simp)⟩
section
variable {ops : Array Oper} {rest : List Oper} {op o : Oper} {a : Act} {w : World} {K : Act → World → Prop} {Q : Exit → Act → World → Prop}
theorem o_idx22 (x y : Operand) (ho : o.op = .indexAddr 22 x y) (ao : Option Addr) (c : Nat) (X : List Se) (j : Nat) (m : Se) (hx : a.eval x = .slice ao X.length c) (hy : a.eval y = .int .i64 j) (hI : RowS Se.C 104 w ao X) (hm : X[j]? = some m) (h : ∀ g o', w.rangeAt g o' m.C → K (a.put o.dst (.pointer (some ⟨g, o', none⟩))) w) : o.wp Try.prog a w K Q := by
  obtain ⟨g, off, rfl, hc⟩ := hI j m hm
  have hj := (List.getElem?_eq_some_iff.1 hm).1
  have hjI : (j : Int) < X.length := by omega
  unfold Oper.wp execOp
  simp only [ho, hx, hy]
  simp [go_sem, hjI]
  exact h _ _ (fun i u hu => hc i u hu)
theorem wpIdx22 (hgd : op.guard = none) (x y : Operand) (ho : op.op = .indexAddr 22 x y) (ao : Option Addr) (c : Nat) (X : List Se) (j : Nat) (m : Se) (hx : a.eval x = .slice ao X.length c) (hy : a.eval y = .int .i64 j) (hI : RowS Se.C 104 w ao X) (hm : X[j]? = some m) (h : ∀ g o', w.rangeAt g o' m.C → wpList Try.prog ops Q rest (a.put op.dst (.pointer (some ⟨g, o', none⟩))) w) : wpList Try.prog ops Q (op :: rest) a w :=
  wpList_plain hgd fun _ hK => o_idx22 x y ho ao c X j m hx hy hI hm (fun g o' hp => hK _ _ (h g o' hp))
end
theorem spot_none {w : World} {a : Addr} {v : Value} (h : w.cell? a = some v) : a = ⟨a.block, a.off, none⟩ := by
  have : a.spot = none := by
    unfold World.cell? at h
    split at h
    · cases hs : a.spot with
      | none => rfl
      | some s => simp [hs] at h
    · cases h
  cases a; simp_all
theorem rows_open {α : Type} [Inhabited α] (C : α → List Value) (Ok : α → Prop) (m T E : Nat) (hT : Try.prog.underlying T = some (.slice E)) (hE : Try.prog.cellsOf E = m) (h0 : ∀ x, Ok x → ∃ u, (C x)[0]? = some u) {H : Type} {enc : TypeId × Value → H} {W : World} (hcells : ∀ (fuel : Nat) (cs : List Value) (x : DataW H × List MemPlace), DataW.trod enc Try.prog W 0 (fun _ => true) true fuel E cs = some x → ∃ q, cs = C q ∧ Ok q) {fuel : Nat} {v : Value} {x : DataW H × List MemPlace}
    (h : DataW.trod enc Try.prog W 0 (fun _ => true) true fuel T [v] = some x) :
    ∃ (ao : Option Addr) (c : Nat) (l : List α), v = .slice ao l.length c ∧ (ao = none → l = [] ∧ c = 0) ∧ RowS C m W ao l ∧ (∀ r ∈ l, Ok r) := by
  rcases open_slice hT h with ⟨hcs, hx⟩ | ⟨a, len, cap, m', n, D, Pl, hcs, _, hl, _, hm, hx, hel⟩
  · cases hcs
    exact ⟨none, 0, [], rfl, fun _ => ⟨rfl, rfl⟩, fun i x hx => (by simp at hx), fun x hx => (by cases hx)⟩
  · cases hcs
    simp only [if_true] at hm
    have hch : ∀ i, i < len → ∃ q : α, (∀ c u, (C q)[c]? = some u → W.cell? (a.add (i * m + c)) = some u) ∧ Ok q := by
      intro i hi
      obtain ⟨cs', h1, h2⟩ := hel i (by omega)
      rw [hE] at h1
      obtain ⟨_, hlen, hcell⟩ := World.cells?_some h1
      obtain ⟨q, rfl, hq⟩ := hcells _ _ _ h2
      refine ⟨q, ?_, hq⟩
      intro c u hu
      have hc : c < m := by have := (List.getElem?_eq_some_iff.1 hu).1; omega
      have := hcell c hc
      rw [add_add] at this
      rw [this]
      exact hu
    obtain ⟨X, hX⟩ := choose_lt hch
    refine ⟨some a, cap, (List.range len).map X, by simp, (fun h => by cases h), ?_, ?_⟩
    · intro i x hi
      have hil : i < len := by have := (List.getElem?_eq_some_iff.1 hi).1; simpa using this
      obtain rfl : X i = x := by simpa [hil] using hi
      obtain ⟨u0, hu0⟩ := h0 _ (hX 0 (by omega)).2
      have h0 := (hX 0 (by omega)).1 0 u0 hu0
      rw [Nat.zero_mul] at h0
      have ha := spot_none (show W.cell? a = some _ from h0)
      refine ⟨a.block, a.off, by rw [← ha], fun c u hu => ?_⟩
      have := (hX i hil).1 c u hu
      rw [ha, Addr.add_lit, ← Nat.add_assoc] at this
      exact this
    · intro x hx
      simp only [List.mem_map, List.mem_range] at hx
      obtain ⟨i, hi, rfl⟩ := hx
      exact (hX i hi).2

theorem byts_open {H : Type} {enc : TypeId × Value → H} {W : World} {fuel T n : Nat} {cs : List Value} {x : DataW H × List MemPlace} (ht : Try.prog.underlying T = some (.array n 5)) (hc : Try.prog.cellsOf T = n)
    (h : DataW.trod enc Try.prog W 0 (fun _ => true) true fuel T cs = some x) : ∃ s : List Int, cs = u8s s ∧ s.length = n := by
  obtain ⟨xs, m, _, ex, hl, hlen, hel⟩ := DataW.trod_array ht h
  rw [hc] at hl
  have c5 : Try.prog.cellsOf 5 = 1 := by kernel_rfl
  have h1 : ∀ i, i < n → ∃ z : Int, cs[i]? = some (.int .u8 z) := by
    intro i hi
    have hE := hel i hi
    rw [c5, Nat.mul_one, List.getElem?_eq_getElem (by omega)] at hE
    obtain ⟨z, e1, e2, hw⟩ := DataW.trod_int Try.underlying5 hE
    refine ⟨z, ?_⟩
    have h0 : ((cs.drop i).take 1)[0]? = some (.int .u8 z) := by rw [e1]; rfl
    simpa using h0
  refine ⟨cs.map (fun v => match v with | .int _ x => x | _ => 0), ?_, by simpa using hl⟩
  apply List.ext_getElem?
  intro i
  by_cases hi : i < n
  · obtain ⟨z, hz⟩ := h1 i hi
    simp [u8s, hz]
  · rw [List.getElem?_eq_none (by omega), List.getElem?_eq_none (by simp [u8s]; omega)]
theorem fields41' : ∃ f0 f1 f2 : Field, Try.prog.underlying 41 = some (.struct #[f0, f1, f2]) ∧ (f0.type = 3 ∧ f0.offset = 0) ∧ (f1.type = 3 ∧ f1.offset = 1) ∧ f2.type = 39 ∧ f2.offset = 2 := ⟨_, _, _, Try.underlying41, ⟨rfl, rfl⟩, ⟨rfl, rfl⟩, rfl, rfl⟩
theorem fields39' : ∃ f0 f1 f2 f3 f4 f5 : Field, Try.prog.underlying 39 = some (.struct #[f0, f1, f2, f3, f4, f5]) ∧ (f0.type = 3 ∧ f0.offset = 0) ∧ (f1.type = 33 ∧ f1.offset = 1) ∧ (f2.type = 2 ∧ f2.offset = 2) ∧ (f3.type = 2 ∧ f3.offset = 3) ∧ (f4.type = 37 ∧ f4.offset = 4) ∧ f5.type = 4 ∧ f5.offset = 101 := ⟨_, _, _, _, _, _, Try.underlying39, ⟨rfl, rfl⟩, ⟨rfl, rfl⟩, ⟨rfl, rfl⟩, ⟨rfl, rfl⟩, ⟨rfl, rfl⟩, rfl, rfl⟩
theorem fields37' : ∃ f0 f1 : Field, Try.prog.underlying 37 = some (.struct #[f0, f1]) ∧ (f0.type = 2 ∧ f0.offset = 0) ∧ f1.type = 35 ∧ f1.offset = 1 := ⟨_, _, Try.underlying37, ⟨rfl, rfl⟩, rfl, rfl⟩
theorem two_of {α : Type} {l : List α} (h : l.length = 2) : ∃ a b, l = [a, b] := by
  match l, h with
  | [a, b], _ => exact ⟨a, b, rfl⟩
theorem three_of {α : Type} {l : List α} (h : l.length = 3) : ∃ a b c, l = [a, b, c] := by
  match l, h with
  | [a, b, c], _ => exact ⟨a, b, c, rfl⟩
theorem six_of {α : Type} {l : List α} (h : l.length = 6) : ∃ a b c d e f, l = [a, b, c, d, e, f] := by
  match l, h with
  | [a, b, c, d, e, f], _ => exact ⟨a, b, c, d, e, f, rfl⟩
theorem take1 {l : List Value} {v : Value} {k : Nat} (h : (l.drop k).take 1 = [v]) : l.drop k = v :: l.drop (k + 1) := by
  have hl : k < l.length := by
    rcases Nat.lt_or_ge k l.length with h1 | h1
    · exact h1
    · rw [List.drop_of_length_le h1] at h; cases h
  have h2 : ((l.drop k).take 1)[0]? = some v := by rw [h]; rfl
  have h3 : l[k]? = some v := by simpa using h2
  rw [List.drop_eq_getElem_cons hl]
  rw [List.getElem?_eq_getElem hl] at h3
  rw [Option.some.inj h3]
theorem ver_cells {H : Type} {enc : TypeId × Value → H} {W : World} (fuel : Nat) (cs : List Value) (x : DataW H × List MemPlace) (h : DataW.trod enc Try.prog W 0 (fun _ => true) true fuel 37 cs = some x) : ∃ (n : Int) (s : List Int), cs = .int .i64 n :: u8s s ∧ s.length = 96 := by
  obtain ⟨f0, f1, hu, ⟨t0, o0⟩, t1, o1⟩ := fields37'
  obtain ⟨xs, m, _, ex, hl, hlen, hf⟩ := DataW.trod_struct hu h
  obtain ⟨y0, y1, rfl⟩ := two_of hlen
  have c2 : Try.prog.cellsOf 2 = 1 := by kernel_rfl
  have c35 : Try.prog.cellsOf 35 = 96 := by kernel_rfl
  have c37 : Try.prog.cellsOf 37 = 97 := by kernel_rfl
  have h0 := hf 0 f0 rfl
  have h1 := hf 1 f1 rfl
  rw [t0, o0, c2] at h0
  rw [t1, o1, c35] at h1
  rw [c37] at hl
  obtain ⟨n, e0, _, _⟩ := DataW.trod_int Try.underlying2 h0
  obtain ⟨s, e1, hs⟩ := byts_open Try.underlying35 c35 h1
  refine ⟨n, s, ?_, hs⟩
  have e2 := take1 e0
  rw [List.drop_zero] at e2
  rw [e2, ← e1, List.take_of_length_le (by rw [List.length_drop]; omega)]
theorem fr_cells {H : Type} {enc : TypeId × Value → H} {W : World} (fuel : Nat) (cs : List Value) (x : DataW H × List MemPlace) (h : DataW.trod enc Try.prog W 0 (fun _ => true) true fuel 39 cs = some x) : ∃ f : Fr, cs = f.C := by
  obtain ⟨f0, f1, f2, f3, f4, f5, hu, ⟨t0, o0⟩, ⟨t1, o1⟩, ⟨t2, o2⟩, ⟨t3, o3⟩, ⟨t4, o4⟩, t5, o5⟩ := fields39'
  obtain ⟨xs, m, _, ex, hl, hlen, hf⟩ := DataW.trod_struct hu h
  obtain ⟨y0, y1, y2, y3, y4, y5, rfl⟩ := six_of hlen
  have c2 : Try.prog.cellsOf 2 = 1 := by kernel_rfl
  have c3 : Try.prog.cellsOf 3 = 1 := by kernel_rfl
  have c4 : Try.prog.cellsOf 4 = 1 := by kernel_rfl
  have c33 : Try.prog.cellsOf 33 = 1 := by kernel_rfl
  have c37 : Try.prog.cellsOf 37 = 97 := by kernel_rfl
  have c39 : Try.prog.cellsOf 39 = 102 := by kernel_rfl
  have h0 := hf 0 f0 rfl
  have h1 := hf 1 f1 rfl
  have h2 := hf 2 f2 rfl
  have h3 := hf 3 f3 rfl
  have h4 := hf 4 f4 rfl
  have h5 := hf 5 f5 rfl
  rw [t0, o0, c3] at h0
  rw [t1, o1, c33] at h1
  rw [t2, o2, c2] at h2
  rw [t3, o3, c2] at h3
  rw [t4, o4, c37] at h4
  rw [t5, o5, c4] at h5
  rw [c39] at hl
  obtain ⟨n0, e0, _, _⟩ := DataW.trod_int Try.underlying3 h0
  obtain ⟨n1, e1, _, _⟩ := DataW.trod_int Try.underlying33 h1
  obtain ⟨n2, e2, _, _⟩ := DataW.trod_int Try.underlying2 h2
  obtain ⟨n3, e3, _, _⟩ := DataW.trod_int Try.underlying2 h3
  obtain ⟨n4, s, e4, hs⟩ := ver_cells _ _ _ h4
  obtain ⟨d, e5, _⟩ := DataW.trod_bool Try.underlying4 h5
  refine ⟨⟨n0, n1, n2, n3, n4, s, hs, d⟩, ?_⟩
  replace e0 := take1 e0
  replace e1 := take1 e1
  replace e2 := take1 e2
  replace e3 := take1 e3
  replace e5 := take1 e5
  have e6 : cs.drop 4 = (cs.drop 4).take 97 ++ cs.drop 101 := by
    have := (List.take_append_drop 97 (cs.drop 4)).symm
    rw [List.drop_drop] at this
    exact this
  rw [List.drop_zero] at e0
  rw [e0, e1, e2, e3, e6, e4, e5, List.drop_of_length_le (by omega)]
  rfl
instance : Inhabited Se := ⟨⟨0, 0, fr0⟩⟩
theorem se_cells {H : Type} {enc : TypeId × Value → H} {W : World} (fuel : Nat) (cs : List Value) (x : DataW H × List MemPlace) (h : DataW.trod enc Try.prog W 0 (fun _ => true) true fuel 41 cs = some x) : ∃ q : Se, cs = q.C ∧ True := by
  obtain ⟨f0, f1, f2, hu, ⟨t0, o0⟩, ⟨t1, o1⟩, t2, o2⟩ := fields41'
  obtain ⟨xs, m, _, ex, hl, hlen, hf⟩ := DataW.trod_struct hu h
  obtain ⟨y0, y1, y2, rfl⟩ := three_of hlen
  have c3 : Try.prog.cellsOf 3 = 1 := by kernel_rfl
  have c39 : Try.prog.cellsOf 39 = 102 := by kernel_rfl
  have c41 : Try.prog.cellsOf 41 = 104 := by kernel_rfl
  have h0 := hf 0 f0 rfl
  have h1 := hf 1 f1 rfl
  have h2 := hf 2 f2 rfl
  rw [t0, o0, c3] at h0
  rw [t1, o1, c3] at h1
  rw [t2, o2, c39] at h2
  rw [c41] at hl
  obtain ⟨n0, e0, _, _⟩ := DataW.trod_int Try.underlying3 h0
  obtain ⟨n1, e1, _, _⟩ := DataW.trod_int Try.underlying3 h1
  obtain ⟨f, e2⟩ := fr_cells _ _ _ h2
  refine ⟨⟨n0, n1, f⟩, ?_, trivial⟩
  replace e0 := take1 e0
  replace e1 := take1 e1
  rw [List.drop_zero] at e0
  rw [e0, e1, ← List.take_of_length_le (l := cs.drop (1 + 1)) (i := 102) (by rw [List.length_drop]; omega), e2]
  rfl
theorem steps_open {H : Type} {enc : TypeId × Value → H} {W : World} {fuel : Nat} {v : Value} {x : DataW H × List MemPlace} (h : DataW.trod enc Try.prog W 0 (fun _ => true) true fuel 22 [v] = some x) :
    ∃ (ao : Option Addr) (c : Nat) (l : List Se), v = .slice ao l.length c ∧ RowS Se.C 104 W ao l := by
  obtain ⟨ao, c, l, h1, _, h3, _⟩ := rows_open Se.C (fun _ => True) 104 22 41 Try.underlying22 (by kernel_rfl) (fun x _ => ⟨_, rfl⟩) se_cells h
  exact ⟨ao, c, l, h1, h3⟩

theorem okWide_array {W : World} {r : Reach} {b0 t n e : Nat} {v : Value} (ht : Try.prog.underlying t = some (.array n e)) (h : Value.okWide Try.prog W r b0 t v) : ∃ cs, v = .agg cs ∧ cs.size = Try.prog.cellsOf t := by
  simp only [Value.okWide, ht] at h
  obtain ⟨cs, h1, h2, _⟩ := h
  exact ⟨cs, h1, h2⟩
theorem ints_open {H : Type} {enc : TypeId × Value → H} {W : World} {r : Reach} {b0 : Nat} {v : Value} {d : DataW H} {p : List MemPlace} (hv : Value.okWide Try.prog W r b0 44 v) (h : DataW.Trod enc Try.prog W 0 (fun _ => true) true 44 v d p) : ∃ a b : Int, v = aggV [.int .i64 a, .int .i64 b] := by
  obtain ⟨cs, rfl, hsz⟩ := okWide_array Try.underlying44 hv
  obtain ⟨fuel, hf⟩ := h
  obtain ⟨xs, m, _, ex, hl, hlen, hel⟩ := DataW.trod_array Try.underlying44 hf
  have c44 : Try.prog.cellsOf 44 = 2 := by kernel_rfl
  have c3 : Try.prog.cellsOf 3 = 1 := by kernel_rfl
  have hl' : cs.toList.length = 2 := by rw [c44] at hl; exact hl
  have h0 := hel 0 (by omega)
  have h1 := hel 1 (by omega)
  rw [c3, List.getElem?_eq_getElem (by omega)] at h0 h1
  obtain ⟨a, e0, _, _⟩ := DataW.trod_int Try.underlying3 h0
  obtain ⟨b, e1, _, _⟩ := DataW.trod_int Try.underlying3 h1
  obtain ⟨a0, a1, hcs⟩ := two_of hl'
  have e0' : (cs.toList.drop (0 * 1)).take 1 = [.int .i64 a] := e0
  have e1' : (cs.toList.drop (1 * 1)).take 1 = [.int .i64 b] := e1
  rw [hcs] at e0' e1'
  simp at e0' e1'
  refine ⟨a, b, ?_⟩
  have : cs.toList = [.int .i64 a, .int .i64 b] := by rw [hcs, e0', e1']
  show Value.agg cs = .agg _
  rw [← this]

end Go.Proofs.Ytgnafbohikbpfaa
