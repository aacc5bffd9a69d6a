/-
  The document's May; openers; single operations.
-/
import Derived.Test.YtmeajhdhiebkdaaDoorMa
import Derived.Deep.CutBlock
import Derived.ProofKit
import Derived.SizedLaws
import Derived.Lib.SmallJoins
namespace Go.Proofs.YtmeajhdhiebkdaaDoor
set_option maxRecDepth 100000
open Go.ChangeShapes Go.WideShapes Go.ChangeAt Go.RowKit Go.Joins Go.Deep


theorem array5 {α : Type} {cs : Array α} (h : cs.size = 5) : ∃ c0 c1 c2 c3 c4, cs = #[c0, c1, c2, c3, c4] := by
  obtain ⟨l⟩ := cs
  match l, h with
  | [c0, c1, c2, c3, c4], _ => exact ⟨c0, c1, c2, c3, c4, rfl⟩
section
variable {H : Type} {enc : TypeId × Value → H} {P : Program} {w : World} {base : Nat} {spare : TypeId → Bool} {held : Bool}
theorem trod_struct5 {t : TypeId} {f0 f1 f2 f3 f4 : Field} {fuel : Nat} {cs : List Value} {x : DataW H × List MemPlace} (ht : P.underlying t = some (.struct #[f0, f1, f2, f3, f4])) (h : DataW.trod enc P w base spare held fuel t cs = some x) :
    ∃ y0 y1 y2 y3 y4 n, DataW.trod enc P w base spare held n f0.type ((cs.drop f0.offset).take (P.cellsOf f0.type)) = some y0 ∧
      DataW.trod enc P w base spare held n f1.type ((cs.drop f1.offset).take (P.cellsOf f1.type)) = some y1 ∧ DataW.trod enc P w base spare held n f2.type ((cs.drop f2.offset).take (P.cellsOf f2.type)) = some y2 ∧
      DataW.trod enc P w base spare held n f3.type ((cs.drop f3.offset).take (P.cellsOf f3.type)) = some y3 ∧ DataW.trod enc P w base spare held n f4.type ((cs.drop f4.offset).take (P.cellsOf f4.type)) = some y4 := by
  obtain ⟨xs, n, _, rfl, hl, hlen, hf⟩ := DataW.trod_struct ht h
  match xs, hlen with
  | [y0, y1, y2, y3, y4], _ => exact ⟨y0, y1, y2, y3, y4, n, by simpa using hf 0 f0 rfl, by simpa using hf 1 f1 rfl, by simpa using hf 2 f2 rfl, by simpa using hf 3 f3 rfl, by simpa using hf 4 f4 rfl⟩
theorem open_agg5 {r : Reach} {b0 : Nat} {t : TypeId} {f0 f1 f2 f3 f4 : Field} {v : Value} {d : DataW H} {p : List MemPlace} (hs : P.underlying t = some (.struct #[f0, f1, f2, f3, f4])) (hone : oneCellFields P #[f0, f1, f2, f3, f4] = true) (hC : P.cellsOf t = 5)
    (hv : Value.okWide P w r b0 t v) (h : DataW.Trod enc P w base spare held t v d p) :
    ∃ (v0 v1 v2 v3 v4 : Value) (y0 y1 y2 y3 y4 : DataW H × List MemPlace) (n : Nat), v = .agg #[v0, v1, v2, v3, v4] ∧
      DataW.trod enc P w base spare held n f0.type [v0] = some y0 ∧ DataW.trod enc P w base spare held n f1.type [v1] = some y1 ∧ DataW.trod enc P w base spare held n f2.type [v2] = some y2 ∧ DataW.trod enc P w base spare held n f3.type [v3] = some y3 ∧ DataW.trod enc P w base spare held n f4.type [v4] = some y4 := by
  obtain ⟨cs, rfl, hsz⟩ := okWide_struct hs hv
  obtain ⟨c0, c1, c2, c3, c4, rfl⟩ := array5 (hsz.trans hC)
  obtain ⟨fuel, hf⟩ := h
  obtain ⟨y0, y1, y2, y3, y4, n, h0, h1, h2, h3, h4⟩ := trod_struct5 hs hf
  obtain ⟨o0, k0⟩ := hone_of hone 0 f0 rfl
  obtain ⟨o1, k1⟩ := hone_of hone 1 f1 rfl
  obtain ⟨o2, k2⟩ := hone_of hone 2 f2 rfl
  obtain ⟨o3, k3⟩ := hone_of hone 3 f3 rfl
  obtain ⟨o4, k4⟩ := hone_of hone 4 f4 rfl
  exact ⟨c0, c1, c2, c3, c4, y0, y1, y2, y3, y4, n, rfl, by simpa [Value.cells, o0, k0] using h0, by simpa [Value.cells, o1, k1] using h1, by simpa [Value.cells, o2, k2] using h2, by simpa [Value.cells, o3, k3] using h3, by simpa [Value.cells, o4, k4] using h4⟩
end

set_option maxRecDepth 100000 in
theorem job_open {H : Type} {enc : TypeId × Value → H} {W : World} {b0 : Nat} {r : Reach} {v : Value} {d : DataW H} {p : List MemPlace}
    (hv : Value.okWide Tryd.prog W r b0 23 v) (h : DataW.Trod enc Tryd.prog W 0 (fun _ => true) true 23 v d p) : ∃ j : Ar.Job, v = aggV (Ar.jobC j) := by
  obtain ⟨v0, v1, v2, v3, v4, y0, y1, y2, y3, y4, k, rfl, h0, h1, h2, h3, h4⟩ := open_agg5 Tryd.underlying23 (by kernel_rfl) (by kernel_rfl) hv h
  obtain ⟨a, e0, _, _⟩ := DataW.trod_int Tryd.underlying3 h0
  obtain ⟨b, e1, _, _⟩ := DataW.trod_int Tryd.underlying3 h1
  obtain ⟨c, e2, _, _⟩ := DataW.trod_int Tryd.underlying3 h2
  obtain ⟨d, e3, _, _⟩ := DataW.trod_int Tryd.underlying3 h3
  obtain ⟨e, e4, _, _⟩ := DataW.trod_int Tryd.underlying3 h4
  simp only [List.cons.injEq, and_true] at e0 e1 e2 e3 e4
  subst e0 e1 e2 e3 e4
  exact ⟨⟨a, b, c, d, e⟩, rfl⟩
/-- An array of bytes that came in. -/
theorem byts_open {H : Type} {enc : TypeId × Value → H} {W : World} {fuel T n : Nat} {cs : List Value} {x : DataW H × List MemPlace} (ht : Tryd.prog.underlying T = some (.array n 5)) (hc : Tryd.prog.cellsOf T = n)
    (h : DataW.trod enc Tryd.prog W 0 (fun _ => true) true fuel T cs = some x) : ∃ s, cs = u8s s ∧ Rc.Byts n s := by
  obtain ⟨xs, m, _, ex, hl, hlen, hel⟩ := DataW.trod_array ht h
  rw [hc] at hl
  have h1 : ∀ i, i < n → ∃ z : Int, cs[i]? = some (.int .u8 z) ∧ 0 ≤ z ∧ z < 256 := by
    intro i hi
    have hE := hel i hi
    rw [Dv.Tryd.cells5, Nat.mul_one, List.getElem?_eq_getElem (by omega)] at hE
    obtain ⟨z, e1, e2, hw⟩ := DataW.trod_int Tryd.underlying5 hE
    have hb := bounds_u8 hw
    refine ⟨z, ?_, hb.1, by omega⟩
    have h0 : ((cs.drop i).take 1)[0]? = some (.int .u8 z) := by rw [e1]; rfl
    simpa using h0
  refine ⟨cs.map (fun v => match v with | .int _ x => x | _ => 0), ?_, by simpa using hl, ?_⟩
  · apply List.ext_getElem?
    intro i
    by_cases hi : i < n
    · obtain ⟨z, hz, _⟩ := h1 i hi
      simp [u8s, hz]
    · rw [List.getElem?_eq_none (by omega), List.getElem?_eq_none (by simp [u8s]; omega)]
  · intro y hy
    obtain ⟨v, hv, rfl⟩ := List.mem_map.1 hy
    obtain ⟨i, hi⟩ := List.mem_iff_getElem?.1 hv
    obtain ⟨z, hz, hz1, hz2⟩ := h1 i (by have := (List.getElem?_eq_some_iff.1 hi).1; omega)
    rw [hz] at hi
    cases hi
    exact ⟨hz1, hz2⟩

theorem spot_none {w : World} {a : Addr} {v : Value} (h : w.cell? a = some v) : a = ⟨a.block, a.off, none⟩ := by
  have : a.spot = none := by
    unfold World.cell? at h
    split at h
    · cases hs : a.spot with
      | none => rfl
      | some s => simp [hs] at h
    · cases h
  cases a; simp_all
/-- The elements of a slice that came in, by their cells. -/
def RowS {α : Type} (C : α → List Value) (m : Nat) (W : World) (ao : Option Addr) (l : List α) : Prop := ∀ i x, l[i]? = some x → ∃ b o, ao = some ⟨b, o, none⟩ ∧ ∀ c u, (C x)[c]? = some u → W.cell? ⟨b, o + i * m + c, none⟩ = some u
theorem RowS.kept {α : Type} {C : α → List Value} {m : Nat} {W W' : World} {ao : Option Addr} {l : List α} (h : RowS C m W ao l) (hk : Kept [] W W') : RowS C m W' ao l := by
  intro i x hx
  obtain ⟨b, o, e, h1⟩ := h i x hx
  exact ⟨b, o, e, fun c u hu => hk.cell (h1 c u hu) (by simp)⟩
set_option maxRecDepth 100000 in
theorem rows_open {α : Type} [Inhabited α] (C : α → List Value) (Ok : α → Prop) (m T E : Nat) (hT : Tryd.prog.underlying T = some (.slice E)) (hE : Tryd.prog.cellsOf E = m) (h0 : ∀ x, Ok x → ∃ u, (C x)[0]? = some u) {H : Type} {enc : TypeId × Value → H} {W : World} (hcells : ∀ (fuel : Nat) (cs : List Value) (x : DataW H × List MemPlace), DataW.trod enc Tryd.prog W 0 (fun _ => true) true fuel E cs = some x → ∃ q, cs = C q ∧ Ok q) {fuel : Nat} {v : Value} {x : DataW H × List MemPlace}
    (h : DataW.trod enc Tryd.prog W 0 (fun _ => true) true fuel T [v] = some x) :
    ∃ (ao : Option Addr) (c : Nat) (l : List α), v = .slice ao l.length c ∧ (ao = none → l = [] ∧ c = 0) ∧ RowS C m W ao l ∧ (∀ r ∈ l, Ok r) := by
  rcases open_slice hT h with ⟨hcs, hx⟩ | ⟨a, len, cap, m', n, D, Pl, hcs, _, hl, _, hm, hx, hel⟩
  · cases hcs
    exact ⟨none, 0, [], rfl, fun _ => ⟨rfl, rfl⟩, fun i x hx => (by simp at hx), fun x hx => (by cases hx)⟩
  · cases hcs
    simp only [if_true] at hm
    have hch : ∀ i, i < len → ∃ q : α, (∀ c u, (C q)[c]? = some u → W.cell? (a.add (i * m + c)) = some u) ∧ Ok q := by
      intro i hi
      obtain ⟨cs', h1, h2⟩ := hel i (by omega)
      rw [hE] at h1
      obtain ⟨_, hlen, hcell⟩ := World.cells?_some h1
      obtain ⟨q, rfl, hq⟩ := hcells _ _ _ h2
      refine ⟨q, ?_, hq⟩
      intro c u hu
      have hc : c < m := by have := (List.getElem?_eq_some_iff.1 hu).1; omega
      have := hcell c hc
      rw [add_add] at this
      rw [this]
      exact hu
    obtain ⟨X, hX⟩ := choose_lt hch
    refine ⟨some a, cap, (List.range len).map X, by simp, (fun h => by cases h), ?_, ?_⟩
    · intro i x hi
      have hil : i < len := by have := (List.getElem?_eq_some_iff.1 hi).1; simpa using this
      obtain rfl : X i = x := by simpa [hil] using hi
      obtain ⟨u0, hu0⟩ := h0 _ (hX 0 (by omega)).2
      have h0 := (hX 0 (by omega)).1 0 u0 hu0
      rw [Nat.zero_mul] at h0
      have ha := spot_none (show W.cell? a = some _ from h0)
      refine ⟨a.block, a.off, by rw [← ha], fun c u hu => ?_⟩
      have := (hX i hil).1 c u hu
      rw [ha, Addr.add_lit, ← Nat.add_assoc] at this
      exact this
    · intro x hx
      simp only [List.mem_map, List.mem_range] at hx
      obtain ⟨i, hi, rfl⟩ := hx
      exact (hX i hi).2
theorem fieldsV : ∃ f0 f1, Tryd.prog.underlying 28 = some (.struct #[f0, f1]) ∧ f0.type = 2 ∧ f0.offset = 0 ∧ f1.type = 26 ∧ f1.offset = 1 := by
  exact ⟨_, _, Tryd.underlying28, rfl, rfl, rfl, rfl⟩
/-- A version as plain data. -/
structure Ve where
  ps : Int
  bd : List Int
def Ve.C (v : Ve) : List Value := verC v.ps v.bd
structure Ve.Ok (v : Ve) : Prop where
  bd : Rc.Byts 96 v.bd
  ps : -9223372036854775808 ≤ v.ps ∧ v.ps ≤ 9223372036854775807
instance : Inhabited Ve := ⟨⟨0, Rc.zs 96⟩⟩
set_option maxRecDepth 100000 in
/-- A version that came in. -/
theorem ver_cells {H : Type} {enc : TypeId × Value → H} {W : World} (fuel : Nat) (cs : List Value) (x : DataW H × List MemPlace) (h : DataW.trod enc Tryd.prog W 0 (fun _ => true) true fuel 28 cs = some x) : ∃ v : Ve, cs = v.C ∧ v.Ok := by
  obtain ⟨f0, f1, hu, t0, o0, t1, o1⟩ := fieldsV
  obtain ⟨y0, y1, m, _, hl, h0, h1⟩ := trod_struct2 hu h
  have c2 : Tryd.prog.cellsOf 2 = 1 := by kernel_rfl
  have c26 : Tryd.prog.cellsOf 26 = 96 := by kernel_rfl
  have c28 : Tryd.prog.cellsOf 28 = 97 := by kernel_rfl
  rw [t0, o0, c2] at h0
  rw [t1, o1, c26] at h1
  rw [c28] at hl
  obtain ⟨n, e0, _, hw⟩ := DataW.trod_int Tryd.underlying2 h0
  obtain ⟨s, e1, hs⟩ := byts_open Tryd.underlying26 c26 h1
  refine ⟨⟨n, s⟩, ?_, hs, bounds_i64 hw⟩
  have e : cs = cs.take 1 ++ (cs.drop 1).take 96 := by
    rw [List.take_of_length_le (l := cs.drop 1) (by rw [List.length_drop]; omega), List.take_append_drop]
  rw [e, e1]
  have e2 : cs.take 1 = [.int .i64 n] := by simpa [Value.cells] using e0
  rw [e2]
  rfl
theorem ver_open {H : Type} {enc : TypeId × Value → H} {W : World} {r : Reach} {b0 : Nat} {v : Value} {d : DataW H} {p : List MemPlace} (hv : Value.okWide Tryd.prog W r b0 28 v) (h : DataW.Trod enc Tryd.prog W 0 (fun _ => true) true 28 v d p) :
    ∃ q : Ve, v = aggV q.C ∧ q.Ok := by
  obtain ⟨f0, f1, hu, _⟩ := fieldsV
  obtain ⟨cs, rfl, hsz⟩ := okWide_struct hu hv
  obtain ⟨fuel, hf⟩ := h
  obtain ⟨q, e, hs⟩ := ver_cells _ _ _ hf
  refine ⟨q, ?_, hs⟩
  have : cs.toList = q.C := e
  show Value.agg cs = .agg q.C.toArray
  rw [← this]
set_option maxRecDepth 100000 in
/-- Versions that came in. -/
theorem vers_open {H : Type} {enc : TypeId × Value → H} {W : World} {fuel : Nat} {v : Value} {x : DataW H × List MemPlace} (h : DataW.trod enc Tryd.prog W 0 (fun _ => true) true fuel 24 [v] = some x) :
    ∃ (ao : Option Addr) (c : Nat) (l : List Ve), v = .slice ao l.length c ∧ (ao = none → l = [] ∧ c = 0) ∧ RowS Ve.C 97 W ao l ∧ (∀ r ∈ l, r.Ok) :=
  rows_open Ve.C Ve.Ok 97 24 28 Tryd.underlying24 (by kernel_rfl) (fun x _ => ⟨_, rfl⟩) ver_cells h
/-- A step as plain data. -/
structure St where
  kd : Int
  pg : Int
  ps : Int
  bd : List Int
  n : Int
def St.C (s : St) : List Value := .int .i64 s.kd :: .int .i64 s.pg :: .int .i64 s.ps :: (u8s s.bd ++ [.int .i64 s.n])
structure St.Ok (s : St) : Prop where
  bd : Rc.Byts 96 s.bd
  kd : -9223372036854775808 ≤ s.kd ∧ s.kd ≤ 9223372036854775807
  pg : -9223372036854775808 ≤ s.pg ∧ s.pg ≤ 9223372036854775807
  n : -9223372036854775808 ≤ s.n ∧ s.n ≤ 9223372036854775807
instance : Inhabited St := ⟨⟨0, 0, 0, Rc.zs 96, 0⟩⟩


/-- A region in the text's order, by its table. -/
theorem wp_text_tq {id : Nat} {ops : Array Oper} {Q : Exit → Act → World → Prop} {a0 : Act} {w0 : World} (n : Nat) (hn : ops.size = n) (hok : prefG ops n = true) (us : List (Option Value)) (hu : us.length = n) (hg : guardsQ ops us = true)
    (hsl : ops.all (fun o => match o.dst with | none => true | some t => decide (t < a0.tmps.size)) = true)
    (hop : ∀ (j : Nat) (o : Oper), j < n → skipQ us j = false → ops[j]? = some o → ∀ a w, (∀ t : Nat, (ops.toList.take n).all (fun p => p.dst != some t) = true → a.eval (.tmp t) = a0.eval (.tmp t)) →
      (∀ (i t : Nat), o.after.any (fun e => Region.binds .any e && e.on == i) = true → ops[i]?.bind (·.dst) = some t → tq us i (a.eval (.tmp t)) w) → Kept [] w0 w →
      o.wp Tryd.prog a w (fun a' w' => ∃ v, a' = a.put o.dst v ∧ tq us j v w' ∧ Kept [] w w' ∧ ∀ i u, i < n → i ≠ j → tq us i u w → True) Q)
    (hQ : ∀ w, Kept [] w0 w → Q .normal (putAll a0 (ops.toList.take n) (valsQ us)) w) : (Code.region id ops false).wp Tryd.prog Q a0 w0 := by
  refine wp_region_text n hn hok (tq us) (fun _ _ _ _ => True) (skipQ us) (fun j o i b _ ho hg' => guardsQ_some hg j o i b ho hg') (fun j o _ ho hg' => guardsQ_none hg j o ho hg') (fun j w h => skipQ_undef w h) (fun _ _ _ _ => trivial) (tq_kept us) hsl hop ?_
  intro vs w hlen hv hk
  obtain rfl := vs_tq hv (by omega)
  exact hQ w hk
section
variable {o : Oper} {a : Act} {w : World} {K : Act → World → Prop} {Q : Exit → Act → World → Prop}
theorem o_fld23_1 (x : Operand) (ho : o.op = .fieldAddr 23 x 1) (b : Nat) (hx : a.eval x = P0 b) (h : K (a.put o.dst (.pointer (some ⟨b, 1, none⟩))) w) : o.wp Tryd.prog a w K Q := by
  unfold Oper.wp execOp
  simp only [ho, hx]
  simp [go_sem]
  exact h
theorem o_fld23_2 (x : Operand) (ho : o.op = .fieldAddr 23 x 2) (b : Nat) (hx : a.eval x = P0 b) (h : K (a.put o.dst (.pointer (some ⟨b, 2, none⟩))) w) : o.wp Tryd.prog a w K Q := by
  unfold Oper.wp execOp
  simp only [ho, hx]
  simp [go_sem]
  exact h
theorem o_fld23_3 (x : Operand) (ho : o.op = .fieldAddr 23 x 3) (b : Nat) (hx : a.eval x = P0 b) (h : K (a.put o.dst (.pointer (some ⟨b, 3, none⟩))) w) : o.wp Tryd.prog a w K Q := by
  unfold Oper.wp execOp
  simp only [ho, hx]
  simp [go_sem]
  exact h
theorem o_fld23_4 (x : Operand) (ho : o.op = .fieldAddr 23 x 4) (b : Nat) (hx : a.eval x = P0 b) (h : K (a.put o.dst (.pointer (some ⟨b, 4, none⟩))) w) : o.wp Tryd.prog a w K Q := by
  unfold Oper.wp execOp
  simp only [ho, hx]
  simp [go_sem]
  exact h
theorem o_geqc3 (x : Operand) (c : Int) (ho : o.op = .binOp .geq 3 x (.const (.int .i64 c)) 3) (m : Int) (r : Bool) (hr : decide (c ≤ m) = r) (hx : a.eval x = .int .i64 m) (h : K (a.put o.dst (.bool r)) w) : o.wp Tryd.prog a w K Q := by
  unfold Oper.wp execOp
  simp only [ho, hx]
  simp [go_sem, hr]
  exact h
theorem o_leqc3 (x : Operand) (c : Int) (ho : o.op = .binOp .leq 3 x (.const (.int .i64 c)) 3) (m : Int) (r : Bool) (hr : decide (m ≤ c) = r) (hx : a.eval x = .int .i64 m) (h : K (a.put o.dst (.bool r)) w) : o.wp Tryd.prog a w K Q := by
  unfold Oper.wp execOp
  simp only [ho, hx]
  simp [go_sem, hr]
  exact h
end
set_option maxHeartbeats 2000000 in
theorem rmay_0 (J : Ar.Job) (w : World) (c0 : decide ((2 : Int) ≤ J.n) = false) : Calls Tryd.prog 8 #[aggV (Ar.jobC J)] w fun e w' => e = .returned (.bool false) ∧ Kept [] w w' := by
  have d0 := of_decide_eq_false c0
  go_enter Tryd.func8, Tryd.ntmps8
  go_wp2_with (
    first
    | (refine wpBoxV (by rfl) (.tmp 0) (by rfl) (Ar.jobC J) (by kernel_rfl) ?_
       intro V1 b1 e1 B1 K1
       have HK := hide K1
       have f0 := fits_cell B1 0 (.int .i64 J.n) rfl
       have f1 := fits_cell B1 1 (.int .i64 J.p) rfl
       have f2 := fits_cell B1 2 (.int .i64 J.f) rfl
       have f3 := fits_cell B1 3 (.int .i64 J.l) rfl
       have f4 := fits_cell B1 4 (.int .i64 J.t) rfl
       clear e1 B1 K1
       refine Stp.go ?_))
  constructor
  go_wp2_with fail
  go_ret
  exact ⟨rfl, unhide HK⟩
set_option maxHeartbeats 2000000 in
theorem rmay_1 (J : Ar.Job) (w : World) (c0 : decide ((2 : Int) ≤ J.n) = true) (c1 : decide (J.n ≤ 8) = false) : Calls Tryd.prog 8 #[aggV (Ar.jobC J)] w fun e w' => e = .returned (.bool false) ∧ Kept [] w w' := by
  have d0 := of_decide_eq_true c0
  have d1 := of_decide_eq_false c1
  go_enter Tryd.func8, Tryd.ntmps8
  go_wp2_with (
    first
    | (refine wpBoxV (by rfl) (.tmp 0) (by rfl) (Ar.jobC J) (by kernel_rfl) ?_
       intro V1 b1 e1 B1 K1
       have HK := hide K1
       have f0 := fits_cell B1 0 (.int .i64 J.n) rfl
       have f1 := fits_cell B1 1 (.int .i64 J.p) rfl
       have f2 := fits_cell B1 2 (.int .i64 J.f) rfl
       have f3 := fits_cell B1 3 (.int .i64 J.l) rfl
       have f4 := fits_cell B1 4 (.int .i64 J.t) rfl
       clear e1 B1 K1
       refine Stp.go ?_))
  constructor
  go_wp2_with fail
  go_ret
  exact ⟨rfl, unhide HK⟩
set_option maxHeartbeats 2000000 in
theorem rmay_2 (J : Ar.Job) (w : World) (c0 : decide ((2 : Int) ≤ J.n) = true) (c1 : decide (J.n ≤ 8) = true) (c2 : decide ((1 : Int) ≤ J.p) = false) : Calls Tryd.prog 8 #[aggV (Ar.jobC J)] w fun e w' => e = .returned (.bool false) ∧ Kept [] w w' := by
  have d0 := of_decide_eq_true c0
  have d1 := of_decide_eq_true c1
  have d2 := of_decide_eq_false c2
  go_enter Tryd.func8, Tryd.ntmps8
  go_wp2_with (
    first
    | (refine wpBoxV (by rfl) (.tmp 0) (by rfl) (Ar.jobC J) (by kernel_rfl) ?_
       intro V1 b1 e1 B1 K1
       have HK := hide K1
       have f0 := fits_cell B1 0 (.int .i64 J.n) rfl
       have f1 := fits_cell B1 1 (.int .i64 J.p) rfl
       have f2 := fits_cell B1 2 (.int .i64 J.f) rfl
       have f3 := fits_cell B1 3 (.int .i64 J.l) rfl
       have f4 := fits_cell B1 4 (.int .i64 J.t) rfl
       clear e1 B1 K1
       refine Stp.go ?_))
  constructor
  go_wp2_with fail
  go_ret
  exact ⟨rfl, unhide HK⟩
set_option maxHeartbeats 2000000 in
theorem rmay_3 (J : Ar.Job) (w : World) (c0 : decide ((2 : Int) ≤ J.n) = true) (c1 : decide (J.n ≤ 8) = true) (c2 : decide ((1 : Int) ≤ J.p) = true) (c3 : decide (J.p ≤ 16) = false) : Calls Tryd.prog 8 #[aggV (Ar.jobC J)] w fun e w' => e = .returned (.bool false) ∧ Kept [] w w' := by
  have d0 := of_decide_eq_true c0
  have d1 := of_decide_eq_true c1
  have d2 := of_decide_eq_true c2
  have d3 := of_decide_eq_false c3
  go_enter Tryd.func8, Tryd.ntmps8
  go_wp2_with (
    first
    | (refine wpBoxV (by rfl) (.tmp 0) (by rfl) (Ar.jobC J) (by kernel_rfl) ?_
       intro V1 b1 e1 B1 K1
       have HK := hide K1
       have f0 := fits_cell B1 0 (.int .i64 J.n) rfl
       have f1 := fits_cell B1 1 (.int .i64 J.p) rfl
       have f2 := fits_cell B1 2 (.int .i64 J.f) rfl
       have f3 := fits_cell B1 3 (.int .i64 J.l) rfl
       have f4 := fits_cell B1 4 (.int .i64 J.t) rfl
       clear e1 B1 K1
       refine Stp.go ?_))
  constructor
  go_wp2_with fail
  go_ret
  exact ⟨rfl, unhide HK⟩
set_option maxHeartbeats 2000000 in
theorem rmay_4 (J : Ar.Job) (w : World) (c0 : decide ((2 : Int) ≤ J.n) = true) (c1 : decide (J.n ≤ 8) = true) (c2 : decide ((1 : Int) ≤ J.p) = true) (c3 : decide (J.p ≤ 16) = true) (c4 : decide ((1 : Int) ≤ J.f) = false) : Calls Tryd.prog 8 #[aggV (Ar.jobC J)] w fun e w' => e = .returned (.bool false) ∧ Kept [] w w' := by
  have d0 := of_decide_eq_true c0
  have d1 := of_decide_eq_true c1
  have d2 := of_decide_eq_true c2
  have d3 := of_decide_eq_true c3
  have d4 := of_decide_eq_false c4
  go_enter Tryd.func8, Tryd.ntmps8
  go_wp2_with (
    first
    | (refine wpBoxV (by rfl) (.tmp 0) (by rfl) (Ar.jobC J) (by kernel_rfl) ?_
       intro V1 b1 e1 B1 K1
       have HK := hide K1
       have f0 := fits_cell B1 0 (.int .i64 J.n) rfl
       have f1 := fits_cell B1 1 (.int .i64 J.p) rfl
       have f2 := fits_cell B1 2 (.int .i64 J.f) rfl
       have f3 := fits_cell B1 3 (.int .i64 J.l) rfl
       have f4 := fits_cell B1 4 (.int .i64 J.t) rfl
       clear e1 B1 K1
       refine Stp.go ?_))
  constructor
  go_wp2_with fail
  go_ret
  exact ⟨rfl, unhide HK⟩
set_option maxHeartbeats 2000000 in
theorem rmay_5 (J : Ar.Job) (w : World) (c0 : decide ((2 : Int) ≤ J.n) = true) (c1 : decide (J.n ≤ 8) = true) (c2 : decide ((1 : Int) ≤ J.p) = true) (c3 : decide (J.p ≤ 16) = true) (c4 : decide ((1 : Int) ≤ J.f) = true) (c5 : decide (J.f ≤ 16) = false) : Calls Tryd.prog 8 #[aggV (Ar.jobC J)] w fun e w' => e = .returned (.bool false) ∧ Kept [] w w' := by
  have d0 := of_decide_eq_true c0
  have d1 := of_decide_eq_true c1
  have d2 := of_decide_eq_true c2
  have d3 := of_decide_eq_true c3
  have d4 := of_decide_eq_true c4
  have d5 := of_decide_eq_false c5
  go_enter Tryd.func8, Tryd.ntmps8
  go_wp2_with (
    first
    | (refine wpBoxV (by rfl) (.tmp 0) (by rfl) (Ar.jobC J) (by kernel_rfl) ?_
       intro V1 b1 e1 B1 K1
       have HK := hide K1
       have f0 := fits_cell B1 0 (.int .i64 J.n) rfl
       have f1 := fits_cell B1 1 (.int .i64 J.p) rfl
       have f2 := fits_cell B1 2 (.int .i64 J.f) rfl
       have f3 := fits_cell B1 3 (.int .i64 J.l) rfl
       have f4 := fits_cell B1 4 (.int .i64 J.t) rfl
       clear e1 B1 K1
       refine Stp.go ?_))
  constructor
  go_wp2_with fail
  go_ret
  exact ⟨rfl, unhide HK⟩
set_option maxHeartbeats 2000000 in
theorem rmay_6 (J : Ar.Job) (w : World) (c0 : decide ((2 : Int) ≤ J.n) = true) (c1 : decide (J.n ≤ 8) = true) (c2 : decide ((1 : Int) ≤ J.p) = true) (c3 : decide (J.p ≤ 16) = true) (c4 : decide ((1 : Int) ≤ J.f) = true) (c5 : decide (J.f ≤ 16) = true) (c6 : decide ((2 : Int) ≤ J.l) = false) : Calls Tryd.prog 8 #[aggV (Ar.jobC J)] w fun e w' => e = .returned (.bool false) ∧ Kept [] w w' := by
  have d0 := of_decide_eq_true c0
  have d1 := of_decide_eq_true c1
  have d2 := of_decide_eq_true c2
  have d3 := of_decide_eq_true c3
  have d4 := of_decide_eq_true c4
  have d5 := of_decide_eq_true c5
  have d6 := of_decide_eq_false c6
  go_enter Tryd.func8, Tryd.ntmps8
  go_wp2_with (
    first
    | (refine wpBoxV (by rfl) (.tmp 0) (by rfl) (Ar.jobC J) (by kernel_rfl) ?_
       intro V1 b1 e1 B1 K1
       have HK := hide K1
       have f0 := fits_cell B1 0 (.int .i64 J.n) rfl
       have f1 := fits_cell B1 1 (.int .i64 J.p) rfl
       have f2 := fits_cell B1 2 (.int .i64 J.f) rfl
       have f3 := fits_cell B1 3 (.int .i64 J.l) rfl
       have f4 := fits_cell B1 4 (.int .i64 J.t) rfl
       clear e1 B1 K1
       refine Stp.go ?_))
  constructor
  go_wp2_with fail
  go_ret
  exact ⟨rfl, unhide HK⟩
set_option maxHeartbeats 2000000 in
theorem rmay_7 (J : Ar.Job) (w : World) (c0 : decide ((2 : Int) ≤ J.n) = true) (c1 : decide (J.n ≤ 8) = true) (c2 : decide ((1 : Int) ≤ J.p) = true) (c3 : decide (J.p ≤ 16) = true) (c4 : decide ((1 : Int) ≤ J.f) = true) (c5 : decide (J.f ≤ 16) = true) (c6 : decide ((2 : Int) ≤ J.l) = true) (c7 : decide (J.l ≤ 64) = false) : Calls Tryd.prog 8 #[aggV (Ar.jobC J)] w fun e w' => e = .returned (.bool false) ∧ Kept [] w w' := by
  have d0 := of_decide_eq_true c0
  have d1 := of_decide_eq_true c1
  have d2 := of_decide_eq_true c2
  have d3 := of_decide_eq_true c3
  have d4 := of_decide_eq_true c4
  have d5 := of_decide_eq_true c5
  have d6 := of_decide_eq_true c6
  have d7 := of_decide_eq_false c7
  go_enter Tryd.func8, Tryd.ntmps8
  go_wp2_with (
    first
    | (refine wpBoxV (by rfl) (.tmp 0) (by rfl) (Ar.jobC J) (by kernel_rfl) ?_
       intro V1 b1 e1 B1 K1
       have HK := hide K1
       have f0 := fits_cell B1 0 (.int .i64 J.n) rfl
       have f1 := fits_cell B1 1 (.int .i64 J.p) rfl
       have f2 := fits_cell B1 2 (.int .i64 J.f) rfl
       have f3 := fits_cell B1 3 (.int .i64 J.l) rfl
       have f4 := fits_cell B1 4 (.int .i64 J.t) rfl
       clear e1 B1 K1
       refine Stp.go ?_))
  constructor
  go_wp2_with fail
  go_ret
  exact ⟨rfl, unhide HK⟩
set_option maxHeartbeats 2000000 in
theorem rmay_8 (J : Ar.Job) (w : World) (c0 : decide ((2 : Int) ≤ J.n) = true) (c1 : decide (J.n ≤ 8) = true) (c2 : decide ((1 : Int) ≤ J.p) = true) (c3 : decide (J.p ≤ 16) = true) (c4 : decide ((1 : Int) ≤ J.f) = true) (c5 : decide (J.f ≤ 16) = true) (c6 : decide ((2 : Int) ≤ J.l) = true) (c7 : decide (J.l ≤ 64) = true) (c8 : decide ((2 : Int) ≤ J.t) = false) : Calls Tryd.prog 8 #[aggV (Ar.jobC J)] w fun e w' => e = .returned (.bool false) ∧ Kept [] w w' := by
  have d0 := of_decide_eq_true c0
  have d1 := of_decide_eq_true c1
  have d2 := of_decide_eq_true c2
  have d3 := of_decide_eq_true c3
  have d4 := of_decide_eq_true c4
  have d5 := of_decide_eq_true c5
  have d6 := of_decide_eq_true c6
  have d7 := of_decide_eq_true c7
  have d8 := of_decide_eq_false c8
  go_enter Tryd.func8, Tryd.ntmps8
  go_wp2_with (
    first
    | (refine wpBoxV (by rfl) (.tmp 0) (by rfl) (Ar.jobC J) (by kernel_rfl) ?_
       intro V1 b1 e1 B1 K1
       have HK := hide K1
       have f0 := fits_cell B1 0 (.int .i64 J.n) rfl
       have f1 := fits_cell B1 1 (.int .i64 J.p) rfl
       have f2 := fits_cell B1 2 (.int .i64 J.f) rfl
       have f3 := fits_cell B1 3 (.int .i64 J.l) rfl
       have f4 := fits_cell B1 4 (.int .i64 J.t) rfl
       clear e1 B1 K1
       refine Stp.go ?_))
  constructor
  go_wp2_with fail
  go_ret
  exact ⟨rfl, unhide HK⟩
set_option maxHeartbeats 2000000 in
theorem rmay_9 (J : Ar.Job) (w : World) (c0 : decide ((2 : Int) ≤ J.n) = true) (c1 : decide (J.n ≤ 8) = true) (c2 : decide ((1 : Int) ≤ J.p) = true) (c3 : decide (J.p ≤ 16) = true) (c4 : decide ((1 : Int) ≤ J.f) = true) (c5 : decide (J.f ≤ 16) = true) (c6 : decide ((2 : Int) ≤ J.l) = true) (c7 : decide (J.l ≤ 64) = true) (c8 : decide ((2 : Int) ≤ J.t) = true) (c9 : decide (J.t ≤ 100) = false) : Calls Tryd.prog 8 #[aggV (Ar.jobC J)] w fun e w' => e = .returned (.bool false) ∧ Kept [] w w' := by
  have d0 := of_decide_eq_true c0
  have d1 := of_decide_eq_true c1
  have d2 := of_decide_eq_true c2
  have d3 := of_decide_eq_true c3
  have d4 := of_decide_eq_true c4
  have d5 := of_decide_eq_true c5
  have d6 := of_decide_eq_true c6
  have d7 := of_decide_eq_true c7
  have d8 := of_decide_eq_true c8
  have d9 := of_decide_eq_false c9
  go_enter Tryd.func8, Tryd.ntmps8
  go_wp2_with (
    first
    | (refine wpBoxV (by rfl) (.tmp 0) (by rfl) (Ar.jobC J) (by kernel_rfl) ?_
       intro V1 b1 e1 B1 K1
       have HK := hide K1
       have f0 := fits_cell B1 0 (.int .i64 J.n) rfl
       have f1 := fits_cell B1 1 (.int .i64 J.p) rfl
       have f2 := fits_cell B1 2 (.int .i64 J.f) rfl
       have f3 := fits_cell B1 3 (.int .i64 J.l) rfl
       have f4 := fits_cell B1 4 (.int .i64 J.t) rfl
       clear e1 B1 K1
       refine Stp.go ?_))
  constructor
  go_wp2_with fail
  go_ret
  exact ⟨rfl, unhide HK⟩
set_option maxHeartbeats 2000000 in
theorem rmay_10 (J : Ar.Job) (w : World) (c0 : decide ((2 : Int) ≤ J.n) = true) (c1 : decide (J.n ≤ 8) = true) (c2 : decide ((1 : Int) ≤ J.p) = true) (c3 : decide (J.p ≤ 16) = true) (c4 : decide ((1 : Int) ≤ J.f) = true) (c5 : decide (J.f ≤ 16) = true) (c6 : decide ((2 : Int) ≤ J.l) = true) (c7 : decide (J.l ≤ 64) = true) (c8 : decide ((2 : Int) ≤ J.t) = true) (c9 : decide (J.t ≤ 100) = true) : Calls Tryd.prog 8 #[aggV (Ar.jobC J)] w fun e w' => e = .returned (.bool true) ∧ Kept [] w w' := by
  have d0 := of_decide_eq_true c0
  have d1 := of_decide_eq_true c1
  have d2 := of_decide_eq_true c2
  have d3 := of_decide_eq_true c3
  have d4 := of_decide_eq_true c4
  have d5 := of_decide_eq_true c5
  have d6 := of_decide_eq_true c6
  have d7 := of_decide_eq_true c7
  have d8 := of_decide_eq_true c8
  have d9 := of_decide_eq_true c9
  go_enter Tryd.func8, Tryd.ntmps8
  go_wp2_with (
    first
    | (refine wpBoxV (by rfl) (.tmp 0) (by rfl) (Ar.jobC J) (by kernel_rfl) ?_
       intro V1 b1 e1 B1 K1
       have HK := hide K1
       have f0 := fits_cell B1 0 (.int .i64 J.n) rfl
       have f1 := fits_cell B1 1 (.int .i64 J.p) rfl
       have f2 := fits_cell B1 2 (.int .i64 J.f) rfl
       have f3 := fits_cell B1 3 (.int .i64 J.l) rfl
       have f4 := fits_cell B1 4 (.int .i64 J.t) rfl
       clear e1 B1 K1
       refine Stp.go ?_))
  constructor
  go_wp2_with fail
  go_ret
  exact ⟨rfl, unhide HK⟩
theorem rmay8 (J : Ar.Job) (w : World) : Calls Tryd.prog 8 #[aggV (Ar.jobC J)] w fun e w' => e = .returned (.bool J.may) ∧ Kept [] w w' := by
  by_cases c0 : (2 : Int) ≤ J.n
  · skip
    by_cases c1 : J.n ≤ 8
    · skip
      by_cases c2 : (1 : Int) ≤ J.p
      · skip
        by_cases c3 : J.p ≤ 16
        · skip
          by_cases c4 : (1 : Int) ≤ J.f
          · skip
            by_cases c5 : J.f ≤ 16
            · skip
              by_cases c6 : (2 : Int) ≤ J.l
              · skip
                by_cases c7 : J.l ≤ 64
                · skip
                  by_cases c8 : (2 : Int) ≤ J.t
                  · skip
                    by_cases c9 : J.t ≤ 100
                    · skip
                      have e : J.may = true := by unfold Ar.Job.may; exact decide_eq_true (by omega)
                      rw [e]
                      exact rmay_10 J w (decide_eq_true c0) (decide_eq_true c1) (decide_eq_true c2) (decide_eq_true c3) (decide_eq_true c4) (decide_eq_true c5) (decide_eq_true c6) (decide_eq_true c7) (decide_eq_true c8) (decide_eq_true c9)
                    · have e : J.may = false := by unfold Ar.Job.may; exact decide_eq_false (by omega)
                      rw [e]
                      exact rmay_9 J w (decide_eq_true c0) (decide_eq_true c1) (decide_eq_true c2) (decide_eq_true c3) (decide_eq_true c4) (decide_eq_true c5) (decide_eq_true c6) (decide_eq_true c7) (decide_eq_true c8) (decide_eq_false c9)
                  · have e : J.may = false := by unfold Ar.Job.may; exact decide_eq_false (by omega)
                    rw [e]
                    exact rmay_8 J w (decide_eq_true c0) (decide_eq_true c1) (decide_eq_true c2) (decide_eq_true c3) (decide_eq_true c4) (decide_eq_true c5) (decide_eq_true c6) (decide_eq_true c7) (decide_eq_false c8)
                · have e : J.may = false := by unfold Ar.Job.may; exact decide_eq_false (by omega)
                  rw [e]
                  exact rmay_7 J w (decide_eq_true c0) (decide_eq_true c1) (decide_eq_true c2) (decide_eq_true c3) (decide_eq_true c4) (decide_eq_true c5) (decide_eq_true c6) (decide_eq_false c7)
              · have e : J.may = false := by unfold Ar.Job.may; exact decide_eq_false (by omega)
                rw [e]
                exact rmay_6 J w (decide_eq_true c0) (decide_eq_true c1) (decide_eq_true c2) (decide_eq_true c3) (decide_eq_true c4) (decide_eq_true c5) (decide_eq_false c6)
            · have e : J.may = false := by unfold Ar.Job.may; exact decide_eq_false (by omega)
              rw [e]
              exact rmay_5 J w (decide_eq_true c0) (decide_eq_true c1) (decide_eq_true c2) (decide_eq_true c3) (decide_eq_true c4) (decide_eq_false c5)
          · have e : J.may = false := by unfold Ar.Job.may; exact decide_eq_false (by omega)
            rw [e]
            exact rmay_4 J w (decide_eq_true c0) (decide_eq_true c1) (decide_eq_true c2) (decide_eq_true c3) (decide_eq_false c4)
        · have e : J.may = false := by unfold Ar.Job.may; exact decide_eq_false (by omega)
          rw [e]
          exact rmay_3 J w (decide_eq_true c0) (decide_eq_true c1) (decide_eq_true c2) (decide_eq_false c3)
      · have e : J.may = false := by unfold Ar.Job.may; exact decide_eq_false (by omega)
        rw [e]
        exact rmay_2 J w (decide_eq_true c0) (decide_eq_true c1) (decide_eq_false c2)
    · have e : J.may = false := by unfold Ar.Job.may; exact decide_eq_false (by omega)
      rw [e]
      exact rmay_1 J w (decide_eq_true c0) (decide_eq_false c1)
  · have e : J.may = false := by unfold Ar.Job.may; exact decide_eq_false (by omega)
    rw [e]
    exact rmay_0 J w  (decide_eq_false c0)


section
variable {o : Oper} {a : Act} {w : World} {K : Act → World → Prop} {Q : Exit → Act → World → Prop}
theorem o_eqlc34 (x : Operand) (c : Int) (ho : o.op = .binOp .eql 34 x (.const (.int .i64 c)) 34) (m : Int) (r : Bool) (hr : decide (m = c) = r) (hx : a.eval x = .int .i64 m) (h : K (a.put o.dst (.bool r)) w) : o.wp Tryd.prog a w K Q := by
  have hb : (m == c) = r := by rw [← hr]; rfl
  unfold Oper.wp execOp
  simp only [ho, hx]
  simp [go_sem, hb]
  exact h
theorem o_neqc34 (x : Operand) (c : Int) (ho : o.op = .binOp .neq 34 x (.const (.int .i64 c)) 34) (m : Int) (r : Bool) (hr : decide (m = c) = r) (hx : a.eval x = .int .i64 m) (h : K (a.put o.dst (.bool (!r))) w) : o.wp Tryd.prog a w K Q := by
  have hb : (m != c) = !r := by rw [← hr]; rfl
  unfold Oper.wp execOp
  simp only [ho, hx]
  simp [go_sem, hb]
  exact h
theorem o_eqlt2 (x y : Operand) (ho : o.op = .binOp .eql 2 x y 2) (m n : Int) (r : Bool) (hr : decide (m = n) = r) (hx : a.eval x = .int .i64 m) (hy : a.eval y = .int .i64 n) (h : K (a.put o.dst (.bool r)) w) : o.wp Tryd.prog a w K Q := by
  have hb : (m == n) = r := by rw [← hr]; rfl
  unfold Oper.wp execOp
  simp only [ho, hx, hy]
  simp [go_sem, hb]
  exact h
theorem o_neqt2 (x y : Operand) (ho : o.op = .binOp .neq 2 x y 2) (m n : Int) (r : Bool) (hr : decide (m = n) = r) (hx : a.eval x = .int .i64 m) (hy : a.eval y = .int .i64 n) (h : K (a.put o.dst (.bool (!r))) w) : o.wp Tryd.prog a w K Q := by
  have hb : (m != n) = !r := by rw [← hr]; rfl
  unfold Oper.wp execOp
  simp only [ho, hx, hy]
  simp [go_sem, hb]
  exact h
theorem o_eqlt3 (x y : Operand) (ho : o.op = .binOp .eql 3 x y 3) (m n : Int) (r : Bool) (hr : decide (m = n) = r) (hx : a.eval x = .int .i64 m) (hy : a.eval y = .int .i64 n) (h : K (a.put o.dst (.bool r)) w) : o.wp Tryd.prog a w K Q := by
  have hb : (m == n) = r := by rw [← hr]; rfl
  unfold Oper.wp execOp
  simp only [ho, hx, hy]
  simp [go_sem, hb]
  exact h
theorem o_neqt3 (x y : Operand) (ho : o.op = .binOp .neq 3 x y 3) (m n : Int) (r : Bool) (hr : decide (m = n) = r) (hx : a.eval x = .int .i64 m) (hy : a.eval y = .int .i64 n) (h : K (a.put o.dst (.bool (!r))) w) : o.wp Tryd.prog a w K Q := by
  have hb : (m != n) = !r := by rw [← hr]; rfl
  unfold Oper.wp execOp
  simp only [ho, hx, hy]
  simp [go_sem, hb]
  exact h
theorem o_gtrt3 (x y : Operand) (ho : o.op = .binOp .gtr 3 x y 3) (m n : Int) (r : Bool) (hr : decide (n < m) = r) (hx : a.eval x = .int .i64 m) (hy : a.eval y = .int .i64 n) (h : K (a.put o.dst (.bool r)) w) : o.wp Tryd.prog a w K Q := by
  unfold Oper.wp execOp
  simp only [ho, hx, hy]
  simp [go_sem, hr]
  exact h
theorem o_lsst3 (x y : Operand) (ho : o.op = .binOp .lss 3 x y 3) (m n : Int) (r : Bool) (hr : decide (m < n) = r) (hx : a.eval x = .int .i64 m) (hy : a.eval y = .int .i64 n) (h : K (a.put o.dst (.bool r)) w) : o.wp Tryd.prog a w K Q := by
  unfold Oper.wp execOp
  simp only [ho, hx, hy]
  simp [go_sem, hr]
  exact h
theorem o_addt3 (x y : Operand) (ho : o.op = .binOp .add 3 x y 3) (m n r : Int) (hr : m + n = r) (hb : -9223372036854775808 ≤ r ∧ r ≤ 9223372036854775807) (hx : a.eval x = .int .i64 m) (hy : a.eval y = .int .i64 n) (h : K (a.put o.dst (.int .i64 r)) w) : o.wp Tryd.prog a w K Q := by
  have hw : IntKind.i64.wrap r = r := by rw [IntKind.wrap_i64]; omega
  unfold Oper.wp execOp
  simp only [ho, hx, hy]
  simp [go_sem, hr, hw]
  exact h
theorem o_addk3 (x : Operand) (c : Int) (ho : o.op = .binOp .add 3 x (.const (.int .i64 c)) 3) (m r : Int) (hr : m + c = r) (hb : -9223372036854775808 ≤ r ∧ r ≤ 9223372036854775807) (hx : a.eval x = .int .i64 m) (h : K (a.put o.dst (.int .i64 r)) w) : o.wp Tryd.prog a w K Q := by
  have hw : IntKind.i64.wrap r = r := by rw [IntKind.wrap_i64]; omega
  unfold Oper.wp execOp
  have hc : a.eval (.const (.int .i64 c)) = .int .i64 c := rfl
  simp only [ho, hx, hc]
  simp [go_sem, hr, hw]
  exact h
theorem o_half3 (x : Operand) (ho : o.op = .binOp .quo 3 x (.const (.int .i64 2)) 3) (n : Nat) (hb : n ≤ 1000) (hx : a.eval x = .int .i64 (n : Int)) (h : K (a.put o.dst (.int .i64 ((n / 2 : Nat) : Int))) w) : o.wp Tryd.prog a w K Q := by
  have hw : IntKind.i64.wrap ((n : Int) / 2) = (n : Int) / 2 := by rw [IntKind.wrap_i64]; omega
  have ht : (n : Int).tdiv 2 = (n : Int) / 2 := Int.tdiv_eq_ediv_of_nonneg (by omega)
  unfold Oper.wp execOp
  have hc : a.eval (.const (.int .i64 2)) = .int .i64 2 := rfl
  simp only [ho, hx, hc]
  simp [go_sem, ht, hw]
  exact h
theorem o_min3 (x y : Operand) (ho : o.op = .call { callee := .builtin .min, args := #[x, y], argTypes := #[3, 3] }) (m n r : Int) (hr : min m n = r) (hx : a.eval x = .int .i64 m) (hy : a.eval y = .int .i64 n) (h : K (a.put o.dst (.int .i64 r)) w) : o.wp Tryd.prog a w K Q := by
  unfold Oper.wp execOp
  simp only [ho, resolve, invoke, builtin, Sem.run_bind, Sem.run_pure, Result.andThen_ok, List.map_toArray, List.map_cons, List.map_nil, hx, hy]
  by_cases hc : n < m
  · have e : r = n := by rw [← hr]; omega
    subst e
    simp [go_sem, hc]
    exact h
  · have e : r = m := by rw [← hr]; omega
    subst e
    simp [go_sem, hc]
    exact h
theorem o_idx24 (x y : Operand) (ho : o.op = .indexAddr 24 x y) (g off m c k : Nat) (hk : k < m) (hx : a.eval x = .slice (some ⟨g, off, none⟩) m c) (hy : a.eval y = .int .i64 k) (h : K (a.put o.dst (.pointer (some ⟨g, off + k * 97, none⟩))) w) : o.wp Tryd.prog a w K Q := by
  unfold Oper.wp execOp
  simp only [ho, hx, hy]
  simp [go_sem, hk, Addr.add_lit]
  exact h
theorem o_fldo45_5 (x : Operand) (ho : o.op = .fieldAddr 45 x 5) (b i : Nat) (hx : a.eval x = .pointer (some ⟨b, i, none⟩)) (h : K (a.put o.dst (.pointer (some ⟨b, i + 5, none⟩))) w) : o.wp Tryd.prog a w K Q := by
  unfold Oper.wp execOp
  simp only [ho, hx]
  simp [go_sem, Addr.add_lit]
  exact h
theorem o_fldo45_1 (x : Operand) (ho : o.op = .fieldAddr 45 x 1) (b i : Nat) (hx : a.eval x = .pointer (some ⟨b, i, none⟩)) (h : K (a.put o.dst (.pointer (some ⟨b, i + 1, none⟩))) w) : o.wp Tryd.prog a w K Q := by
  unfold Oper.wp execOp
  simp only [ho, hx]
  simp [go_sem, Addr.add_lit]
  exact h
theorem o_fldo28_0 (x : Operand) (ho : o.op = .fieldAddr 28 x 0) (b i : Nat) (hx : a.eval x = .pointer (some ⟨b, i, none⟩)) (h : K (a.put o.dst (.pointer (some ⟨b, i + 0, none⟩))) w) : o.wp Tryd.prog a w K Q := by
  unfold Oper.wp execOp
  simp only [ho, hx]
  simp [go_sem, Addr.add_lit]
  exact h
theorem o_fldo28_1 (x : Operand) (ho : o.op = .fieldAddr 28 x 1) (b i : Nat) (hx : a.eval x = .pointer (some ⟨b, i, none⟩)) (h : K (a.put o.dst (.pointer (some ⟨b, i + 1, none⟩))) w) : o.wp Tryd.prog a w K Q := by
  unfold Oper.wp execOp
  simp only [ho, hx]
  simp [go_sem, Addr.add_lit]
  exact h
end
theorem run_bldT (w : World) (c e : Int) (bd : List Int) (h : bd.length = 96) : (Instr.build 45 #[(0, .int .i64 1), (1, .int .i64 1), (2, .int .i64 c), (4, .int .i64 e), (5, aggV (u8s bd))]).run Tryd.prog w = .ok (aggV (Rc.recC ⟨1, 1, c, 0, e, bd⟩)) w := by
  have hl : (u8s bd).length = 96 := by rw [u8s_len, h]
  have hz : ((((Tryd.zeroCells45.setIfInBounds 0 (Value.int .i64 1)).setIfInBounds 1 (Value.int .i64 1)).setIfInBounds 2 (Value.int .i64 c)).setIfInBounds 4 (Value.int .i64 e)) = ([Value.int .i64 1, .int .i64 1, .int .i64 c, .int .i64 0, .int .i64 e] ++ [] ++ List.replicate 96 (Value.int .u8 0)).toArray := by kernel_rfl
  have hf := fold_set [Value.int .i64 1, .int .i64 1, .int .i64 c, .int .i64 0, .int .i64 e] (u8s bd) (List.replicate 96 (Value.int .u8 0)) 0 [] (by rw [hl, List.length_replicate]) rfl
  unfold Instr.build
  simp [go_sem, run_underlying Tryd.underlying45, aggV]
  rw [hz]
  rw [if_neg (by rw [hl]; omega)]
  simp only [List.length_cons, List.length_nil, Nat.zero_add, Nat.reduceAdd] at hf
  rw [hf]
  rfl
section
variable {o : Oper} {a : Act} {w : World} {K : Act → World → Prop} {Q : Exit → Act → World → Prop}
theorem o_bldT (x2 x4 x5 : Operand) (ho : o.op = .build 45 #[(0, .const (.int .i64 1)), (1, .const (.int .i64 1)), (2, x2), (4, x4), (5, x5)]) (n ps : Int) (bd : List Int) (hb : bd.length = 96) (h2 : a.eval x2 = .int .i64 n) (h4 : a.eval x4 = .int .i64 ps) (h5 : a.eval x5 = aggV (u8s bd)) (h : K (a.put o.dst (aggV (Rc.recC ⟨1, 1, n, 0, ps, bd⟩))) w) : o.wp Tryd.prog a w K Q := by
  have hc : a.eval (.const (.int .i64 1)) = .int .i64 1 := rfl
  unfold Oper.wp execOp
  simp only [ho, List.map_toArray, List.map_cons, List.map_nil, hc, h2, h4, h5, Sem.run_bind, run_bldT w _ _ _ hb, Result.andThen_ok]
  exact h
end

theorem range_kept {W W' : World} {b o : Nat} {xs : List Value} (h : W.rangeAt b o xs) (hk : Kept [] W W') : W'.rangeAt b o xs := fun j u hj => hk.cell (h j u hj) (by simp)
section
variable {o : Oper} {a : Act} {w : World} {K : Act → World → Prop} {Q : Exit → Act → World → Prop}
theorem o_eqlA (T r : Nat) (hG : Tryd.prog.eqGuardType Tryd.prog.depth T = false) (x y : Operand) (ho : o.op = .binOp .eql T x y r) (vs us : List Value) (hx : a.eval x = aggV vs) (hy : a.eval y = aggV us) (c : Bool)
    (he : (Op.equal T (aggV vs) (aggV us)).run Tryd.prog w = .ok c w) (h : K (a.put o.dst (.bool c)) w) : o.wp Tryd.prog a w K Q := by
  unfold Oper.wp execOp
  simp only [aggV] at he hx hy
  have hg : (eqGuard .eql T x y (.agg vs.toArray) (.agg us.toArray)).run Tryd.prog w = .ok () w := by simp [eqGuard, Sem.run_bind, hG]
  have hb : (binOp BinOp.eql T (.agg vs.toArray) (.agg us.toArray)).run Tryd.prog w = .ok (.bool c) w := by simp only [binOp, Sem.run_bind, he, Result.andThen_ok, Sem.run_pure]
  simp only [ho, hx, hy, Sem.run_bind, hg, hb, Result.andThen_ok]
  exact h
theorem o_neqA (T r : Nat) (hG : Tryd.prog.eqGuardType Tryd.prog.depth T = false) (x y : Operand) (ho : o.op = .binOp .neq T x y r) (vs us : List Value) (hx : a.eval x = aggV vs) (hy : a.eval y = aggV us) (c : Bool)
    (he : (Op.equal T (aggV vs) (aggV us)).run Tryd.prog w = .ok c w) (h : K (a.put o.dst (.bool (!c))) w) : o.wp Tryd.prog a w K Q := by
  unfold Oper.wp execOp
  simp only [aggV] at he hx hy
  have hg : (eqGuard .neq T x y (.agg vs.toArray) (.agg us.toArray)).run Tryd.prog w = .ok () w := by simp [eqGuard, Sem.run_bind, hG]
  have hb : (binOp BinOp.neq T (.agg vs.toArray) (.agg us.toArray)).run Tryd.prog w = .ok (.bool (!c)) w := by simp only [binOp, Sem.run_bind, he, Result.andThen_ok, Sem.run_pure]
  simp only [ho, hx, hy, Sem.run_bind, hg, hb, Result.andThen_ok]
  exact h
theorem o_neqR (x y : Operand) (ho : o.op = .binOp .neq 45 x y 45) (r q : Rc.Rec) (hr : r.bd.length = 96) (hq : q.bd.length = 96) (c : Bool) (hc : Rc.recEq r q = c) (hx : a.eval x = aggV (Rc.recC r)) (hy : a.eval y = aggV (Rc.recC q)) (h : K (a.put o.dst (.bool (!c))) w) : o.wp Tryd.prog a w K Q :=
  o_neqA 45 45 Rc.guard25 x y ho _ _ hx hy c ((Rc.equal25 w r q hr hq).trans (by rw [hc])) h
end

end Go.Proofs.YtmeajhdhiebkdaaDoor
