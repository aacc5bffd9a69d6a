/-
  How steps, numbers that came in are opened.
-/
import Derived.Test.YthihladmifpokaaRj
import Derived.Test.YthihladmifpokaaOpn
namespace Go.Proofs.Ythihladmifpokaa
set_option maxRecDepth 100000
set_option linter.unusedSimpArgs false
open Go.ChangeShapes Go.WideShapes Go.ChangeAt Go.RowKit Go.Joins Go.Deep


/-- A step: its kind, its page, its two numbers. -/
structure Se where
  k : Int
  p : Int
  a : Int
  b : Int
def Se.C (x : Se) : List Value := [.int .i64 x.k, .int .i64 x.p, .int .i64 x.a, .int .i64 x.b]
theorem Se.one (x : Se) : ∀ v ∈ x.C, v.oneCell' = true := by
  intro v hv
  simp [Se.C] at hv
  rcases hv with rfl | rfl | rfl | rfl <;> rfl
def se0 : Se := ⟨0, 0, 0, 0⟩
instance : Inhabited Se := ⟨se0⟩
theorem zero34 (w : World) : (Instr.alloc 34 true (.tuple #[])).run Try.prog w = .ok (P0 w.heap.size) (w.alloc (.cells se0.C.toArray 34)) := by kernel_rfl
def RowS {α : Type} (C : α → List Value) (m : Nat) (W : World) (ao : Option Addr) (l : List α) : Prop := ∀ i x, l[i]? = some x → ∃ b o, ao = some ⟨b, o, none⟩ ∧ ∀ c u, (C x)[c]? = some u → W.cell? ⟨b, o + i * m + c, none⟩ = some u
theorem RowS.kept {α : Type} {C : α → List Value} {m : Nat} {W W' : World} {ao : Option Addr} {l : List α} (h : RowS C m W ao l) (hk : Kept [] W W') : RowS C m W' ao l := by
  intro i x hx
  obtain ⟨b, o, e, h1⟩ := h i x hx
  exact ⟨b, o, e, fun c u hu => hk.cell (h1 c u hu) (by simp)⟩
section
variable {ops : Array Oper} {rest : List Oper} {op o : Oper} {a : Act} {w : World} {K : Act → World → Prop} {Q : Exit → Act → World → Prop}
theorem o_idx22 (x y : Operand) (ho : o.op = .indexAddr 22 x y) (ao : Option Addr) (c : Nat) (X : List Se) (j : Nat) (m : Se) (hx : a.eval x = .slice ao X.length c) (hy : a.eval y = .int .i64 j) (hI : RowS Se.C 4 w ao X) (hm : X[j]? = some m) (h : ∀ g o', w.rangeAt g o' m.C → K (a.put o.dst (.pointer (some ⟨g, o', none⟩))) w) : o.wp Try.prog a w K Q := by
  obtain ⟨g, off, rfl, hc⟩ := hI j m hm
  have hj := (List.getElem?_eq_some_iff.1 hm).1
  have hjI : (j : Int) < X.length := by omega
  unfold Oper.wp execOp
  simp only [ho, hx, hy]
  simp [go_sem, hjI]
  exact h _ _ (fun i u hu => hc i u hu)
theorem wpIdx22 (hgd : op.guard = none) (x y : Operand) (ho : op.op = .indexAddr 22 x y) (ao : Option Addr) (c : Nat) (X : List Se) (j : Nat) (m : Se) (hx : a.eval x = .slice ao X.length c) (hy : a.eval y = .int .i64 j) (hI : RowS Se.C 4 w ao X) (hm : X[j]? = some m) (h : ∀ g o', w.rangeAt g o' m.C → wpList Try.prog ops Q rest (a.put op.dst (.pointer (some ⟨g, o', none⟩))) w) : wpList Try.prog ops Q (op :: rest) a w :=
  wpList_plain hgd fun _ hK => o_idx22 x y ho ao c X j m hx hy hI hm (fun g o' hp => hK _ _ (h g o' hp))
end
theorem spot_none {w : World} {a : Addr} {v : Value} (h : w.cell? a = some v) : a = ⟨a.block, a.off, none⟩ := by
  have : a.spot = none := by
    unfold World.cell? at h
    split at h
    · cases hs : a.spot with
      | none => rfl
      | some s => simp [hs] at h
    · cases h
  cases a; simp_all
theorem rows_open {α : Type} [Inhabited α] (C : α → List Value) (Ok : α → Prop) (m T E : Nat) (hT : Try.prog.underlying T = some (.slice E)) (hE : Try.prog.cellsOf E = m) (h0 : ∀ x, Ok x → ∃ u, (C x)[0]? = some u) {H : Type} {enc : TypeId × Value → H} {W : World} (hcells : ∀ (fuel : Nat) (cs : List Value) (x : DataW H × List MemPlace), DataW.trod enc Try.prog W 0 (fun _ => true) true fuel E cs = some x → ∃ q, cs = C q ∧ Ok q) {fuel : Nat} {v : Value} {x : DataW H × List MemPlace}
    (h : DataW.trod enc Try.prog W 0 (fun _ => true) true fuel T [v] = some x) :
    ∃ (ao : Option Addr) (c : Nat) (l : List α), v = .slice ao l.length c ∧ (ao = none → l = [] ∧ c = 0) ∧ RowS C m W ao l ∧ (∀ r ∈ l, Ok r) := by
  rcases open_slice hT h with ⟨hcs, hx⟩ | ⟨a, len, cap, m', n, D, Pl, hcs, _, hl, _, hm, hx, hel⟩
  · cases hcs
    exact ⟨none, 0, [], rfl, fun _ => ⟨rfl, rfl⟩, fun i x hx => (by simp at hx), fun x hx => (by cases hx)⟩
  · cases hcs
    simp only [if_true] at hm
    have hch : ∀ i, i < len → ∃ q : α, (∀ c u, (C q)[c]? = some u → W.cell? (a.add (i * m + c)) = some u) ∧ Ok q := by
      intro i hi
      obtain ⟨cs', h1, h2⟩ := hel i (by omega)
      rw [hE] at h1
      obtain ⟨_, hlen, hcell⟩ := World.cells?_some h1
      obtain ⟨q, rfl, hq⟩ := hcells _ _ _ h2
      refine ⟨q, ?_, hq⟩
      intro c u hu
      have hc : c < m := by have := (List.getElem?_eq_some_iff.1 hu).1; omega
      have := hcell c hc
      rw [add_add] at this
      rw [this]
      exact hu
    obtain ⟨X, hX⟩ := choose_lt hch
    refine ⟨some a, cap, (List.range len).map X, by simp, (fun h => by cases h), ?_, ?_⟩
    · intro i x hi
      have hil : i < len := by have := (List.getElem?_eq_some_iff.1 hi).1; simpa using this
      obtain rfl : X i = x := by simpa [hil] using hi
      obtain ⟨u0, hu0⟩ := h0 _ (hX 0 (by omega)).2
      have h0 := (hX 0 (by omega)).1 0 u0 hu0
      rw [Nat.zero_mul] at h0
      have ha := spot_none (show W.cell? a = some _ from h0)
      refine ⟨a.block, a.off, by rw [← ha], fun c u hu => ?_⟩
      have := (hX i hil).1 c u hu
      rw [ha, Addr.add_lit, ← Nat.add_assoc] at this
      exact this
    · intro x hx
      simp only [List.mem_map, List.mem_range] at hx
      obtain ⟨i, hi, rfl⟩ := hx
      exact (hX i hi).2
theorem fields34' : ∃ f0 f1 f2 f3 : Field, Try.prog.underlying 34 = some (.struct #[f0, f1, f2, f3]) ∧ (f0.type = 3 ∧ f0.offset = 0) ∧ (f1.type = 3 ∧ f1.offset = 1) ∧ (f2.type = 2 ∧ f2.offset = 2) ∧ f3.type = 2 ∧ f3.offset = 3 := ⟨_, _, _, _, Try.underlying34, ⟨rfl, rfl⟩, ⟨rfl, rfl⟩, ⟨rfl, rfl⟩, rfl, rfl⟩
theorem four_of {α : Type} {l : List α} (h : l.length = 4) : ∃ a b c d, l = [a, b, c, d] := by
  match l, h with
  | [a, b, c, d], _ => exact ⟨a, b, c, d, rfl⟩
/-- A step's numbers are numbers. -/
def Se.In (x : Se) : Prop := (-9223372036854775808 ≤ x.k ∧ x.k ≤ 9223372036854775807) ∧ (-9223372036854775808 ≤ x.p ∧ x.p ≤ 9223372036854775807) ∧ (-9223372036854775808 ≤ x.a ∧ x.a ≤ 9223372036854775807) ∧ (-9223372036854775808 ≤ x.b ∧ x.b ≤ 9223372036854775807)
theorem se_cells {H : Type} {enc : TypeId × Value → H} {W : World} (fuel : Nat) (cs : List Value) (x : DataW H × List MemPlace) (h : DataW.trod enc Try.prog W 0 (fun _ => true) true fuel 34 cs = some x) : ∃ q : Se, cs = q.C ∧ q.In := by
  obtain ⟨f0, f1, f2, f3, hu, ⟨t0, o0⟩, ⟨t1, o1⟩, ⟨t2, o2⟩, t3, o3⟩ := fields34'
  obtain ⟨xs, n, _, ex, hl, hlen, hf⟩ := DataW.trod_struct hu h
  obtain ⟨y0, y1, y2, y3, rfl⟩ := four_of hlen
  have c2 : Try.prog.cellsOf 2 = 1 := by kernel_rfl
  have c3 : Try.prog.cellsOf 3 = 1 := by kernel_rfl
  have c34 : Try.prog.cellsOf 34 = 4 := by kernel_rfl
  have h0 := hf 0 f0 rfl
  have h1 := hf 1 f1 rfl
  have h2 := hf 2 f2 rfl
  have h3 := hf 3 f3 rfl
  rw [t0, o0, c3] at h0
  rw [t1, o1, c3] at h1
  rw [t2, o2, c2] at h2
  rw [t3, o3, c2] at h3
  rw [c34] at hl
  obtain ⟨a0, a1, a2, a3, rfl⟩ := four_of hl
  obtain ⟨v0, e0, _, w0⟩ := DataW.trod_int Try.underlying3 h0
  obtain ⟨v1, e1, _, w1⟩ := DataW.trod_int Try.underlying3 h1
  obtain ⟨v2, e2, _, w2⟩ := DataW.trod_int Try.underlying2 h2
  obtain ⟨v3, e3, _, w3⟩ := DataW.trod_int Try.underlying2 h3
  simp at e0 e1 e2 e3
  subst e0 e1 e2 e3
  exact ⟨⟨v0, v1, v2, v3⟩, rfl, bounds_i64 w0, bounds_i64 w1, bounds_i64 w2, bounds_i64 w3⟩
theorem steps_open {H : Type} {enc : TypeId × Value → H} {W : World} {fuel : Nat} {v : Value} {x : DataW H × List MemPlace} (h : DataW.trod enc Try.prog W 0 (fun _ => true) true fuel 22 [v] = some x) :
    ∃ (ao : Option Addr) (c : Nat) (l : List Se), v = .slice ao l.length c ∧ RowS Se.C 4 W ao l ∧ ∀ q ∈ l, q.In := by
  obtain ⟨ao, c, l, h1, _, h3, h4⟩ := rows_open Se.C Se.In 4 22 34 Try.underlying22 (by kernel_rfl) (fun x _ => ⟨_, rfl⟩) se_cells h
  exact ⟨ao, c, l, h1, h3, h4⟩
def intC (x : Int) : List Value := [.int .i64 x]
theorem int_cells {H : Type} {enc : TypeId × Value → H} {W : World} (fuel : Nat) (cs : List Value) (x : DataW H × List MemPlace) (h : DataW.trod enc Try.prog W 0 (fun _ => true) true fuel 2 cs = some x) : ∃ q : Int, cs = intC q ∧ (-9223372036854775808 ≤ q ∧ q ≤ 9223372036854775807) := by
  obtain ⟨v0, e0, _, w0⟩ := DataW.trod_int Try.underlying2 h
  exact ⟨v0, e0, bounds_i64 w0⟩
theorem ints_open {H : Type} {enc : TypeId × Value → H} {W : World} {fuel : Nat} {v : Value} {x : DataW H × List MemPlace} (h : DataW.trod enc Try.prog W 0 (fun _ => true) true fuel 23 [v] = some x) :
    ∃ (ao : Option Addr) (c : Nat) (l : List Int), v = .slice ao l.length c ∧ RowS intC 1 W ao l ∧ (ao = none → l = [] ∧ c = 0) := by
  obtain ⟨ao, c, l, h1, h2, h3, _⟩ := rows_open intC (fun q => -9223372036854775808 ≤ q ∧ q ≤ 9223372036854775807) 1 23 2 Try.underlying23 (by kernel_rfl) (fun x _ => ⟨_, rfl⟩) int_cells h
  exact ⟨ao, c, l, h1, h3, h2⟩

end Go.Proofs.Ythihladmifpokaa
