/-
  How the arguments of view's laws are opened, and the variable that the rows lay.
-/
import Derived.Test.YtbpnnbbinhdoiaaDoorVt
import Derived.Test.YtbpnnbbinhdoiaaDoorRows
import Derived.MakeChecks
import Derived.LaidLaws
import Derived.ProofKit
import Derived.OpenShut
import Derived.SizedLaws
import Derived.Lib.SmallJoins
import Derived.LaidMore
import Derived.Lay
import Derived.SevenTiedAt
import Derived.Stop.Joined
namespace Go.Proofs.YtbpnnbbinhdoiaaDoor
set_option maxRecDepth 100000
open Go.ChangeShapes Go.WideShapes Go.ChangeAt Go.RowKit Go.Joins Go.Deep

/-- An array of bytes that came in. -/
theorem byts_open {H : Type} {enc : TypeId × Value → H} {W : World} {fuel T n : Nat} {cs : List Value} {x : DataW H × List MemPlace} (ht : Tryd.prog.underlying T = some (.array n 5)) (hc : Tryd.prog.cellsOf T = n)
    (h : DataW.trod enc Tryd.prog W 0 (fun _ => true) true fuel T cs = some x) : ∃ s, cs = u8s s ∧ Byts n s := by
  obtain ⟨xs, m, _, ex, hl, hlen, hel⟩ := DataW.trod_array ht h
  rw [hc] at hl
  have h1 : ∀ i, i < n → ∃ z : Int, cs[i]? = some (.int .u8 z) ∧ 0 ≤ z ∧ z < 256 := by
    intro i hi
    have hE := hel i hi
    rw [Tryd.cells5, Nat.mul_one, List.getElem?_eq_getElem (by omega)] at hE
    obtain ⟨z, e1, e2, hw⟩ := DataW.trod_int Tryd.underlying5 hE
    have hb := bounds_u8 hw
    refine ⟨z, ?_, hb.1, by omega⟩
    have h0 : ((cs.drop i).take 1)[0]? = some (.int .u8 z) := by rw [e1]; rfl
    simpa using h0
  refine ⟨cs.map (fun v => match v with | .int _ x => x | _ => 0), ?_, by simpa using hl, ?_⟩
  · apply List.ext_getElem?
    intro i
    by_cases hi : i < n
    · obtain ⟨z, hz, _⟩ := h1 i hi
      simp [u8s, hz]
    · rw [List.getElem?_eq_none (by omega), List.getElem?_eq_none (by simp [u8s]; omega)]
  · intro y hy
    obtain ⟨v, hv, rfl⟩ := List.mem_map.1 hy
    obtain ⟨i, hi⟩ := List.mem_iff_getElem?.1 hv
    obtain ⟨z, hz, hz1, hz2⟩ := h1 i (by have := (List.getElem?_eq_some_iff.1 hi).1; omega)
    rw [hz] at hi
    cases hi
    exact ⟨hz1, hz2⟩

theorem own : ownKnob Tryd.prog.godebug = none := by kernel_rfl
theorem Tryd.laidOut : laidOutB Tryd.prog = true := by kernel_rfl
theorem fields23' : ∃ f0 f1 : Field, Tryd.prog.underlying 23 = some (.struct #[f0, f1]) ∧ (f0.type = 4 ∧ f0.offset = 0) ∧ f1.type = 2 ∧ f1.offset = 1 := ⟨_, _, Tryd.underlying23, ⟨rfl, rfl⟩, rfl, rfl⟩
theorem fields26' : ∃ f0 f1 f2 f3 : Field, Tryd.prog.underlying 26 = some (.struct #[f0, f1, f2, f3]) ∧ (f0.type = 2 ∧ f0.offset = 0) ∧ (f1.type = 4 ∧ f1.offset = 1) ∧ (f2.type = 3 ∧ f2.offset = 2) ∧ f3.type = 24 ∧ f3.offset = 3 := ⟨_, _, _, _, Tryd.underlying26, ⟨rfl, rfl⟩, ⟨rfl, rfl⟩, ⟨rfl, rfl⟩, rfl, rfl⟩
theorem fields42' : ∃ f0 f1 f2 f3 f4 : Field, Tryd.prog.underlying 42 = some (.struct #[f0, f1, f2, f3, f4]) ∧ (f0.type = 3 ∧ f0.offset = 0) ∧ (f1.type = 3 ∧ f1.offset = 1) ∧ (f2.type = 3 ∧ f2.offset = 2) ∧ (f3.type = 3 ∧ f3.offset = 3) ∧ f4.type = 2 ∧ f4.offset = 4 := ⟨_, _, _, _, _, Tryd.underlying42, ⟨rfl, rfl⟩, ⟨rfl, rfl⟩, ⟨rfl, rfl⟩, ⟨rfl, rfl⟩, rfl, rfl⟩
def memD {H : Type} (m : Bool × Int) : DataW H := .agg [.lit (.bool m.1), .lit (.int .i64 m.2)]
theorem two_of {α : Type} {l : List α} (h : l.length = 2) : ∃ a b, l = [a, b] := by
  match l, h with
  | [a, b], _ => exact ⟨a, b, rfl⟩
theorem four_of {α : Type} {l : List α} (h : l.length = 4) : ∃ a b c d, l = [a, b, c, d] := by
  match l, h with
  | [a, b, c, d], _ => exact ⟨a, b, c, d, rfl⟩
theorem five_of {α : Type} {l : List α} (h : l.length = 5) : ∃ a b c d e, l = [a, b, c, d, e] := by
  match l, h with
  | [a, b, c, d, e], _ => exact ⟨a, b, c, d, e, rfl⟩
theorem three_then {α : Type} {l : List α} {n : Nat} (h : l.length = n + 3) : ∃ a b c r, l = a :: b :: c :: r := by
  match l, h with
  | a :: b :: c :: r, _ => exact ⟨a, b, c, r, rfl⟩
  | [], h => simp at h
  | [_], h => simp at h
  | [_, _], h => simp at h
theorem mem_cells {H : Type} {enc : TypeId × Value → H} {W : World} {he : Bool} {fuel : Nat} {cs : List Value} {x : DataW H × List MemPlace} (h : DataW.trod enc Tryd.prog W 0 (fun _ => true) he fuel 23 cs = some x) : ∃ m : Bool × Int, cs = memC m ∧ I64 m.2 ∧ x.1 = memD m := by
  obtain ⟨f0, f1, hu, ⟨t0, o0⟩, t1, o1⟩ := fields23'
  obtain ⟨xs, n, _, ex, hl, hlen, hf⟩ := DataW.trod_struct hu h
  obtain ⟨y0, y1, rfl⟩ := two_of hlen
  have c2 : Tryd.prog.cellsOf 2 = 1 := by kernel_rfl
  have c4 : Tryd.prog.cellsOf 4 = 1 := by kernel_rfl
  have c23 : Tryd.prog.cellsOf 23 = 2 := by kernel_rfl
  have h0 := hf 0 f0 rfl
  have h1 := hf 1 f1 rfl
  rw [t0, o0, c4] at h0
  rw [t1, o1, c2] at h1
  rw [c23] at hl
  obtain ⟨a0, a1, rfl⟩ := two_of hl
  obtain ⟨v0, e0, d0⟩ := DataW.trod_bool Tryd.underlying4 h0
  obtain ⟨v1, e1, d1, w1⟩ := DataW.trod_int Tryd.underlying2 h1
  simp at e0 e1 d0 d1
  subst e0 e1
  refine ⟨(v0, v1), rfl, bounds_i64 w1, ?_⟩
  rw [ex, d0, d1]; rfl
set_option maxRecDepth 100000 in
theorem mems_open {H : Type} {enc : TypeId × Value → H} {W : World} {he : Bool} {fuel : Nat} {cs : List Value} {x : DataW H × List MemPlace} (h : DataW.trod enc Tryd.prog W 0 (fun _ => true) he fuel 24 cs = some x) : ∃ ms : List (Bool × Int), cs = memsC ms ∧ ms.length = 8 ∧ (∀ m ∈ ms, I64 m.2) ∧ x.1 = .agg (ms.map memD) := by
  obtain ⟨xs, m, _, ex, hl, hlen, hel⟩ := DataW.trod_array Tryd.underlying24 h
  have c23 : Tryd.prog.cellsOf 23 = 2 := by kernel_rfl
  have c24 : Tryd.prog.cellsOf 24 = 16 := by kernel_rfl
  rw [c24] at hl
  have hch : ∀ i, i < 8 → ∃ q : Bool × Int, (cs.drop (i * 2)).take 2 = memC q ∧ I64 q.2 ∧ ∀ y, xs[i]? = some y → y.1 = memD q := by
    intro i hi
    have hE := hel i hi
    rw [c23, List.getElem?_eq_getElem (by omega)] at hE
    obtain ⟨q, h1, h2, h3⟩ := mem_cells hE
    refine ⟨q, h1, h2, fun y hy => ?_⟩
    have : xs[i]'(by omega) = y := by rw [List.getElem?_eq_getElem (by omega)] at hy; exact Option.some.inj hy
    rw [← this]
    simpa using h3
  obtain ⟨X, hX⟩ := choose_lt hch
  refine ⟨(List.range 8).map X, ?_, by simp, ?_, ?_⟩
  · have hsplit : ∀ (k : Nat) (l : List Value), l.length = k * 2 → (∀ i, i < k → (l.drop (i * 2)).take 2 = memC (X (8 - k + i))) → k ≤ 8 → l = memsC ((List.range k).map (fun i => X (8 - k + i))) := by
      intro k
      induction k with
      | zero => intro l hl _ _; rw [List.length_eq_zero_iff.1 (by omega : l.length = 0)]; rfl
      | succ k ih =>
        intro l hl hh hk
        match l, hl with
        | a :: b :: l, hl =>
          have h0 := hh 0 (by omega)
          simp at h0
          have := ih l (by simp at hl; omega) (fun i hi => by
            have := hh (i + 1) (by omega)
            rw [show (i + 1) * 2 = i * 2 + 1 + 1 by omega, List.drop_succ_cons, List.drop_succ_cons] at this
            rw [this, show 8 - (k + 1) + (i + 1) = 8 - k + i by omega]) (by omega)
          rw [List.range_succ_eq_map, List.map_cons, List.map_map, memsC_cons, this]
          have he : (fun i => X (8 - k + i)) = (fun i => X (8 - (k + 1) + i)) ∘ Nat.succ := by
            funext i
            show X _ = X _
            congr 1
            simp only [Nat.succ_eq_add_one]
            omega
          rw [he]
          have h1 : [a, b] = memC (X (8 - (k + 1))) := by rw [show 8 - (k + 1) = 7 - k by omega]; exact h0
          unfold memC at h1
          injection h1 with h1 h2
          injection h2 with h2 _
          rw [h1, h2]
          rfl
        | [_], hl => simp at hl; omega
        | [], hl => simp at hl
    have := hsplit 8 cs (by omega) (fun i hi => by rw [show 8 - 8 + i = i by omega]; exact (hX i hi).1) (Nat.le_refl _)
    simpa using this
  · intro m hm
    simp only [List.mem_map, List.mem_range] at hm
    obtain ⟨i, hi, rfl⟩ := hm
    exact (hX i hi).2.1
  · rw [ex]
    show DataW.agg _ = _
    congr 1
    apply List.ext_getElem?
    intro i
    by_cases hi : i < 8
    · have := (hX i hi).2.2 (xs[i]'(by omega)) (List.getElem?_eq_getElem (by omega))
      simp [hi, this, show i < xs.length by omega]
    · rw [List.getElem?_eq_none (by simp; omega), List.getElem?_eq_none (by simp; omega)]
def vwD {H : Type} (v : Vw) : DataW H := .agg [.lit (.int .i64 v.nu), .lit (.bool v.op), .lit (.int .i64 v.fd), .agg (v.ms.map memD)]
theorem vw_cells {H : Type} {enc : TypeId × Value → H} {W : World} {he : Bool} {fuel : Nat} {cs : List Value} {x : DataW H × List MemPlace} (h : DataW.trod enc Tryd.prog W 0 (fun _ => true) he fuel 26 cs = some x) : ∃ v : Vw, cs = vwC v ∧ v.Ok ∧ x.1 = vwD v := by
  obtain ⟨f0, f1, f2, f3, hu, ⟨t0, o0⟩, ⟨t1, o1⟩, ⟨t2, o2⟩, t3, o3⟩ := fields26'
  obtain ⟨xs, n, _, ex, hl, hlen, hf⟩ := DataW.trod_struct hu h
  obtain ⟨y0, y1, y2, y3, rfl⟩ := four_of hlen
  have c2 : Tryd.prog.cellsOf 2 = 1 := by kernel_rfl
  have c3 : Tryd.prog.cellsOf 3 = 1 := by kernel_rfl
  have c4 : Tryd.prog.cellsOf 4 = 1 := by kernel_rfl
  have c24 : Tryd.prog.cellsOf 24 = 16 := by kernel_rfl
  have c26 : Tryd.prog.cellsOf 26 = 19 := by kernel_rfl
  have h0 := hf 0 f0 rfl
  have h1 := hf 1 f1 rfl
  have h2 := hf 2 f2 rfl
  have h3 := hf 3 f3 rfl
  rw [t0, o0, c2] at h0
  rw [t1, o1, c4] at h1
  rw [t2, o2, c3] at h2
  rw [t3, o3, c24] at h3
  rw [c26] at hl
  obtain ⟨a0, a1, a2, rs, rfl⟩ := three_then (n := 16) hl
  obtain ⟨v0, e0, d0, w0⟩ := DataW.trod_int Tryd.underlying2 h0
  obtain ⟨v1, e1, d1⟩ := DataW.trod_bool Tryd.underlying4 h1
  obtain ⟨v2, e2, d2, w2⟩ := DataW.trod_int Tryd.underlying3 h2
  obtain ⟨ms, e3, hms, hme, d3⟩ := mems_open h3
  have hrl : rs.length = 16 := by simpa using hl
  simp at e0 e1 e2 d0 d1 d2 d3
  have e3' : rs = memsC ms := by
    have : (a0 :: a1 :: a2 :: rs).drop 3 = rs := rfl
    rw [this, List.take_of_length_le (by omega)] at e3
    exact e3
  subst e0 e1 e2 e3'
  refine ⟨⟨v0, v1, v2, ms⟩, rfl, ⟨bounds_i64 w0, bounds_i64 w2, hms, hme⟩, ?_⟩
  rw [ex]
  show DataW.agg _ = _
  simp [d0, d1, d2, d3, vwD]
theorem vw_open {H : Type} {enc : TypeId × Value → H} {W : World} {r : Reach} {b0 : Nat} {v : Value} {d : DataW H} {p : List MemPlace} (hv : Value.okWide Tryd.prog W r b0 26 v) (h : DataW.Trod enc Tryd.prog W 0 (fun _ => true) true 26 v d p) : ∃ V : Vw, v = aggV (vwC V) ∧ V.Ok := by
  obtain ⟨f0, f1, f2, f3, hu, _⟩ := fields26'
  obtain ⟨cs, rfl, hsz⟩ := okWide_struct hu hv
  obtain ⟨fuel, hf⟩ := h
  obtain ⟨V, e, hV, _⟩ := vw_cells hf
  refine ⟨V, ?_, hV⟩
  have : cs.toList = vwC V := e
  show Value.agg cs = .agg (vwC V).toArray
  rw [← this]
structure Ask.Ok (x : Ask) : Prop where
  a : I64 x.a
  b : I64 x.b
  p : I64 x.p
  q : I64 x.q
  e : I64 x.e
theorem ask_cells {H : Type} {enc : TypeId × Value → H} {W : World} {fuel : Nat} {cs : List Value} {x : DataW H × List MemPlace} (h : DataW.trod enc Tryd.prog W 0 (fun _ => true) true fuel 42 cs = some x) : ∃ v : Ask, cs = v.C ∧ v.Ok := by
  obtain ⟨f0, f1, f2, f3, f4, hu, ⟨t0, o0⟩, ⟨t1, o1⟩, ⟨t2, o2⟩, ⟨t3, o3⟩, t4, o4⟩ := fields42'
  obtain ⟨xs, n, _, ex, hl, hlen, hf⟩ := DataW.trod_struct hu h
  obtain ⟨y0, y1, y2, y3, y4, rfl⟩ := five_of hlen
  have c2 : Tryd.prog.cellsOf 2 = 1 := by kernel_rfl
  have c3 : Tryd.prog.cellsOf 3 = 1 := by kernel_rfl
  have c42 : Tryd.prog.cellsOf 42 = 5 := by kernel_rfl
  have h0 := hf 0 f0 rfl
  have h1 := hf 1 f1 rfl
  have h2 := hf 2 f2 rfl
  have h3 := hf 3 f3 rfl
  have h4 := hf 4 f4 rfl
  rw [t0, o0, c3] at h0
  rw [t1, o1, c3] at h1
  rw [t2, o2, c3] at h2
  rw [t3, o3, c3] at h3
  rw [t4, o4, c2] at h4
  rw [c42] at hl
  obtain ⟨a0, a1, a2, a3, a4, rfl⟩ := five_of hl
  obtain ⟨v0, e0, _, w0⟩ := DataW.trod_int Tryd.underlying3 h0
  obtain ⟨v1, e1, _, w1⟩ := DataW.trod_int Tryd.underlying3 h1
  obtain ⟨v2, e2, _, w2⟩ := DataW.trod_int Tryd.underlying3 h2
  obtain ⟨v3, e3, _, w3⟩ := DataW.trod_int Tryd.underlying3 h3
  obtain ⟨v4, e4, _, w4⟩ := DataW.trod_int Tryd.underlying2 h4
  simp at e0 e1 e2 e3 e4
  subst e0 e1 e2 e3 e4
  exact ⟨⟨v0, v1, v2, v3, v4⟩, rfl, ⟨bounds_i64 w0, bounds_i64 w1, bounds_i64 w2, bounds_i64 w3, bounds_i64 w4⟩⟩
theorem ask_open {H : Type} {enc : TypeId × Value → H} {W : World} {r : Reach} {b0 : Nat} {v : Value} {d : DataW H} {p : List MemPlace} (hv : Value.okWide Tryd.prog W r b0 42 v) (h : DataW.Trod enc Tryd.prog W 0 (fun _ => true) true 42 v d p) : ∃ x : Ask, v = aggV x.C ∧ x.Ok := by
  obtain ⟨f0, f1, f2, f3, f4, hu, _⟩ := fields42'
  obtain ⟨cs, rfl, hsz⟩ := okWide_struct hu hv
  obtain ⟨fuel, hf⟩ := h
  obtain ⟨x, e, hx⟩ := ask_cells hf
  refine ⟨x, ?_, hx⟩
  have : cs.toList = x.C := e
  show Value.agg cs = .agg x.C.toArray
  rw [← this]
theorem okWide_array {W : World} {r : Reach} {b0 t n e : Nat} {v : Value} (ht : Tryd.prog.underlying t = some (.array n e)) (h : Value.okWide Tryd.prog W r b0 t v) : ∃ cs, v = .agg cs ∧ cs.size = Tryd.prog.cellsOf t := by
  simp only [Value.okWide, ht] at h
  obtain ⟨cs, h1, h2, _⟩ := h
  exact ⟨cs, h1, h2⟩
theorem sec_open {H : Type} {enc : TypeId × Value → H} {W : World} {r : Reach} {b0 : Nat} {v : Value} {d : DataW H} {p : List MemPlace} (hv : Value.okWide Tryd.prog W r b0 28 v) (h : DataW.Trod enc Tryd.prog W 0 (fun _ => true) true 28 v d p) : ∃ s, v = aggV (u8s s) ∧ Byts 64 s := by
  obtain ⟨cs, rfl, hsz⟩ := okWide_array Tryd.underlying28 hv
  obtain ⟨fuel, hf⟩ := h
  obtain ⟨s, e, hs⟩ := byts_open Tryd.underlying28 (by kernel_rfl) hf
  refine ⟨s, ?_, hs⟩
  have : cs.toList = u8s s := e
  show Value.agg cs = .agg (u8s s).toArray
  rw [← this]
theorem global0 : Tryd.prog.globalNamed "millpond/view.first" = some 0 := by kernel_rfl
theorem global0t : (Tryd.prog.globals[0]?).map (·.type) = some 26 := by kernel_rfl
theorem memD_inj {H : Type} : ∀ {a b : List (Bool × Int)}, (a.map (memD (H := H))) = b.map memD → a = b := by
  intro a
  induction a with
  | nil => intro b h; cases b with
    | nil => rfl
    | cons y b => simp at h
  | cons x a ih =>
    intro b h
    cases b with
    | nil => simp at h
    | cons y b =>
      simp only [List.map_cons, List.cons.injEq] at h
      obtain ⟨h1, h2⟩ := h
      simp only [memD, DataW.agg.injEq, List.cons.injEq, DataW.lit.injEq, Lit.bool.injEq, Lit.int.injEq, true_and, and_true] at h1
      rw [ih h2, Prod.ext h1.1 h1.2]
theorem first_of {W : World} (h : laidMetH Tryd.prog [("millpond/view.first", Rows.laid_millpond_view_first)] W) : First W := by
  rw [MakeChecks.laidMetH_plain _ _ _ (by kernel_rfl)] at h
  obtain ⟨ps, ⟨g, t, cs, fuel, p, q, hg, ht, hv, hd, _, _⟩, _, _⟩ := h
  obtain rfl : 0 = g := Option.some.inj (global0.symm.trans hg)
  obtain rfl : 26 = t := Option.some.inj (global0t.symm.trans ht)
  obtain ⟨V, e, _, hx⟩ := vw_cells hd
  have hV : V = fv := by
    have h1 : vwD V = vwD (H := Unit) fv := hx.symm
    simp only [vwD, DataW.agg.injEq, List.cons.injEq, DataW.lit.injEq, Lit.bool.injEq, Lit.int.injEq, true_and, and_true] at h1
    obtain ⟨h2, h3, h4, h5⟩ := h1
    have := memD_inj h5
    cases V
    simp_all [fv]
  subst hV
  unfold World.var? at hv
  rw [global0] at hv
  simp only [Option.bind_some] at hv
  split at hv
  · rename_i cs' t p' hh
    obtain rfl := Option.some.inj hv
    refine ⟨fun i v hi => ?_, lt_of_block hh⟩
    rw [Nat.zero_add, cell_of_block hh, ← Array.getElem?_toList, e]
    exact hi
  · cases hv

end Go.Proofs.YtbpnnbbinhdoiaaDoor
