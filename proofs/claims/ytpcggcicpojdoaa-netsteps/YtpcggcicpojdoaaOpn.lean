/-
  How the arguments of net's laws are opened: bodies, steps, scripts.
-/
import Derived.Test.YtpcggcicpojdoaaKna
import Derived.ProofKit
import Derived.SizedLaws
import Derived.Lib.SmallJoins
import Derived.Deep.Slices
import Derived.JoinedCond
import Derived.Test.YtpcggcicpojdoaaRows
namespace Go.Proofs.Ytpcggcicpojdoaa
open Go.ChangeShapes Go.WideShapes Go.ChangeAt Go.RowKit Go.Joins Go.Deep

theorem own : ownKnob Try.prog.godebug = none := by kernel_rfl
theorem cells5 : Try.prog.cellsOf 5 = 1 := by kernel_rfl
theorem cells2 : Try.prog.cellsOf 2 = 1 := by kernel_rfl
theorem bytes5 : Try.prog.bytesOf 5 = 1 := by kernel_rfl
theorem bytes2 : Try.prog.bytesOf 2 = 8 := by kernel_rfl
theorem laidOut : laidOutB Try.prog = true := by kernel_rfl
theorem spot_none {w : World} {a : Addr} {v : Value} (h : w.cell? a = some v) : a = ⟨a.block, a.off, none⟩ := by
  have : a.spot = none := by
    unfold World.cell? at h
    split at h
    · cases hs : a.spot with
      | none => rfl
      | some s => simp [hs] at h
    · cases h
  cases a; simp_all
/-- What a slice reads as, by its datum. -/
def Reads {H : Type} (d : DataW H) (m : Nat) : Prop := (d = .nil ∧ m = 0) ∨ ∃ elems spare, d = .slice elems spare ∧ m ≤ elems.length + spare.length
theorem reads_sized {H : Type} {ts : List TypeId} {ds : List (DataW H)} {j m t e : Nat} {d : DataW H} (hu : Try.prog.underlying t = some (.slice e)) (hb : 1 ≤ Try.prog.bytesOf e) (h : (DataW.weightsEach Try.prog ts ds).all (· ≤ reachBytes) = true) (ht : ts[j]? = some t) (hd : ds[j]? = some d) (hr : Reads d m) : m ≤ 140737488355328 := by
  rcases hr with ⟨_, rfl⟩ | ⟨elems, spare, rfl, hm⟩
  · omega
  · have := sized_slice h (j := j) (t := t) (e := e) ht hd hu
    simp only [reachBytes] at this
    have h2 : elems.length + spare.length ≤ (elems.length + spare.length) * Try.prog.bytesOf e := Nat.le_mul_of_pos_right _ hb
    omega
/-- A slice of bytes that came in. -/
theorem bytes_open {H : Type} {enc : TypeId × Value → H} {W : World} {fuel : Nat} {v : Value} {x : DataW H × List MemPlace}
    (h : DataW.trod enc Try.prog W 0 (fun _ => true) true fuel 34 [v] = some x) :
    ∃ ao m c l, v = .slice ao m c ∧ (ao = none → m = 0 ∧ c = 0) ∧ Vals W ao m c (u8s l) ∧ (∀ x ∈ l, 0 ≤ x ∧ x < 256) ∧ Reads x.1 m := by
  rcases open_ints Try.underlying34 Try.underlying5 cells5 h with ⟨hcs, hx⟩ | ⟨a, len, cap, zs, hcs, _, hl, _, hz, hx, hcell, hwf⟩
  · cases hcs
    exact ⟨none, 0, 0, [], rfl, fun _ => ⟨rfl, rfl⟩, ⟨rfl, Nat.le_refl _, fun h => absurd rfl h⟩, fun x hx => (by cases hx), .inl ⟨by rw [hx], rfl⟩⟩
  · cases hcs
    simp only [if_true] at hz
    refine ⟨some a, len, cap, zs.take len, rfl, (fun h => by cases h), ⟨by rw [u8s_len, List.length_take]; omega, hl, fun hne => ?_⟩, ?_, .inr ⟨_, _, by rw [hx], ?_⟩⟩
    · have hlen : 0 < len := by
        have : u8s (zs.take len) ≠ [] := hne
        rcases Nat.eq_zero_or_pos len with h0 | h0
        · subst h0; exact absurd rfl this
        · exact h0
      have h0 := hcell 0 (by omega)
      have ha := spot_none (show W.cell? a = some _ from h0)
      refine ⟨a.block, a.off, by rw [← ha], fun j u hj => ?_⟩
      have hjl : j < len := by
        have := (List.getElem?_eq_some_iff.1 hj).1
        simp [u8s] at this; omega
      have hc := hcell j (by omega)
      rw [ha, Addr.add_mid] at hc
      rw [hc, ← hj]
      simp [u8s, hjl, List.getD, show j < zs.length by omega]
    · intro y hy
      have hw := hwf y (List.mem_of_mem_take hy)
      have := bounds_u8 hw
      omega
    · simp only [lits, List.length_map, List.length_take, List.length_drop]; omega
theorem bulk_pos {H : Type} (d : DataW H) : 1 ≤ Rows.uptoBulk d := by
  cases d with
  | lit x => cases x <;> simp [Rows.uptoBulk]
  | _ => simp [Rows.uptoBulk]
theorem bulk_len {H : Type} (ds : List (DataW H)) : ds.length ≤ Rows.uptoBulkAll ds := by
  induction ds with
  | nil => simp [Rows.uptoBulkAll]
  | cons d r ih => have := bulk_pos d; simp only [Rows.uptoBulkAll, List.length_cons]; omega
theorem bulk_mem {H : Type} {d : DataW H} {ds : List (DataW H)} (h : d ∈ ds) : Rows.uptoBulk d ≤ Rows.uptoBulkAll ds := by
  induction ds with
  | nil => cases h
  | cons e r ih =>
    simp only [Rows.uptoBulkAll]
    rcases List.mem_cons.1 h with rfl | h
    · omega
    · have := ih h; omega
theorem reads_bulk {H : Type} {d : DataW H} {m : Nat} (h : Reads d m) : m ≤ Rows.uptoBulk d := by
  rcases h with ⟨rfl, rfl⟩ | ⟨elems, spare, rfl, hm⟩
  · omega
  · have h1 := bulk_len elems
    have h2 := bulk_len spare
    simp only [Rows.uptoBulk]
    omega
theorem cell_lt {W : World} {a : Addr} {v : Value} (h : W.cell? a = some v) : a.block < W.heap.size := by
  unfold World.cell? at h
  split at h
  · next hb => exact lt_of_block hb
  · cases h
theorem fields36 : ∃ f0 f1 f2 f3 f4 : Field, Try.prog.underlying 36 = some (.struct #[f0, f1, f2, f3, f4]) ∧ (f0.type = 3 ∧ f0.offset = 0) ∧ (f1.type = 3 ∧ f1.offset = 1) ∧ (f2.type = 3 ∧ f2.offset = 2) ∧ (f3.type = 2 ∧ f3.offset = 3) ∧ f4.type = 34 ∧ f4.offset = 4 :=
  ⟨_, _, _, _, _, Try.underlying36, ⟨rfl, rfl⟩, ⟨rfl, rfl⟩, ⟨rfl, rfl⟩, ⟨rfl, rfl⟩, rfl, rfl⟩
theorem five_of {α : Type} {l : List α} (h : l.length = 5) : ∃ a b c d e, l = [a, b, c, d, e] := by
  match l, h with
  | [a, b, c, d, e], _ => exact ⟨a, b, c, d, e, rfl⟩
/-- A step that came in. -/
theorem step_cells {H : Type} {enc : TypeId × Value → H} {W : World} {fuel : Nat} {cs : List Value} {x : DataW H × List MemPlace} (h : DataW.trod enc Try.prog W 0 (fun _ => true) true fuel 36 cs = some x) (hb : Rows.uptoBulk x.1 ≤ 1048576) : ∃ q : Stq, cs = q.C ∧ q.Ok W W.heap.size := by
  obtain ⟨f0, f1, f2, f3, f4, hu, ⟨t0, o0⟩, ⟨t1, o1⟩, ⟨t2, o2⟩, ⟨t3, o3⟩, t4, o4⟩ := fields36
  obtain ⟨xs, n, _, ex, hl, hlen, hf⟩ := DataW.trod_struct hu h
  obtain ⟨y0, y1, y2, y3, y4, rfl⟩ := five_of hlen
  have c3 : Try.prog.cellsOf 3 = 1 := by kernel_rfl
  have c34 : Try.prog.cellsOf 34 = 1 := by kernel_rfl
  have c36 : Try.prog.cellsOf 36 = 5 := by kernel_rfl
  have h0 := hf 0 f0 rfl
  have h1 := hf 1 f1 rfl
  have h2 := hf 2 f2 rfl
  have h3 := hf 3 f3 rfl
  have h4 := hf 4 f4 rfl
  rw [t0, o0, c3] at h0
  rw [t1, o1, c3] at h1
  rw [t2, o2, c3] at h2
  rw [t3, o3, cells2] at h3
  rw [t4, o4, c34] at h4
  rw [c36] at hl
  obtain ⟨a0, a1, a2, a3, a4, rfl⟩ := five_of hl
  obtain ⟨v0, e0, _, w0⟩ := DataW.trod_int Try.underlying3 h0
  obtain ⟨v1, e1, _, w1⟩ := DataW.trod_int Try.underlying3 h1
  obtain ⟨v2, e2, _, w2⟩ := DataW.trod_int Try.underlying3 h2
  obtain ⟨v3, e3, _, w3⟩ := DataW.trod_int Try.underlying2 h3
  obtain ⟨ao, m, c, l, e4, hnil, hV, hby, hr⟩ := bytes_open (show DataW.trod enc Try.prog W 0 (fun _ => true) true n 34 [a4] = _ from h4)
  simp at e0 e1 e2 e3
  subst e0 e1 e2 e3 e4
  have hbm : m ≤ 1048576 := by
    have h1 := reads_bulk hr
    rw [ex] at hb
    simp only [Rows.uptoBulk, List.map_cons, List.map_nil, Rows.uptoBulkAll] at hb
    omega
  refine ⟨⟨v0, v1, v2, v3, ao, m, c, l⟩, rfl, ⟨hV, hnil, hby, fun hne g off e => ?_, by show m ≤ _; omega, bounds_i64 w3⟩⟩
  obtain ⟨g', off', e', hrg⟩ := hV.lies (fun e => hne (by have := congrArg List.length e; rw [u8s_len] at this; exact List.length_eq_zero_iff.1 this))
  have e2 : ao = some ⟨g, off, none⟩ := e
  rw [e'] at e2
  cases e2
  obtain ⟨z, hz⟩ : ∃ z, (u8s l)[0]? = some z := ⟨_, List.getElem?_eq_getElem (by rw [u8s_len]; exact Nat.pos_of_ne_zero (fun h0 => hne (List.length_eq_zero_iff.1 h0)))⟩
  exact cell_lt (hrg 0 z hz)
/-- A script that came in. -/
theorem script_open {H : Type} {enc : TypeId × Value → H} {W : World} {fuel : Nat} {v : Value} {x : DataW H × List MemPlace}
    (h : DataW.trod enc Try.prog W 0 (fun _ => true) true fuel 22 [v] = some x) (hb : Rows.uptoBulk x.1 ≤ 1048576) :
    ∃ ao m c X, v = .slice ao m c ∧ Scq W W.heap.size ao m c X ∧ m ≤ 1048576 := by
  rcases open_slice Try.underlying22 h with ⟨hcs, hx⟩ | ⟨a, len, cap, m, n, D, Pl, hcs, _, hl, _, hm, hx, hel⟩
  · cases hcs
    exact ⟨none, 0, 0, [], rfl, ⟨rfl, Nat.le_refl _, fun s hs => (by cases hs), fun h => absurd rfl h⟩, by omega⟩
  · cases hcs
    simp only [if_true] at hm
    have c36 : Try.prog.cellsOf 36 = 5 := by kernel_rfl
    have hbulk : Rows.uptoBulkAll ((List.range len).map D) ≤ Rows.uptoBulk x.1 := by rw [hx]; simp only [Rows.uptoBulk]; omega
    have hb2 := bulk_len ((List.range len).map D)
    rw [List.length_map, List.length_range] at hb2
    have hch : ∀ i, i < len → ∃ q : Stq, (∀ c u, q.C[c]? = some u → W.cell? (a.add (i * 5 + c)) = some u) ∧ q.Ok W W.heap.size := by
      intro i hi
      obtain ⟨cs', h1, h2⟩ := hel i (by omega)
      rw [c36] at h1
      obtain ⟨_, hlen, hcell⟩ := World.cells?_some h1
      have hbi : Rows.uptoBulk (D i) ≤ 1048576 := by
        have := bulk_mem (d := D i) (ds := (List.range len).map D) (List.mem_map.2 ⟨i, List.mem_range.2 hi, rfl⟩)
        omega
      obtain ⟨q, rfl, hq⟩ := step_cells h2 hbi
      refine ⟨q, ?_, hq⟩
      intro c u hu
      have hc : c < 5 := by have := (List.getElem?_eq_some_iff.1 hu).1; omega
      have := hcell c hc
      rw [add_add] at this
      rw [this]
      exact hu
    haveI : Inhabited Stq := ⟨⟨0, 0, 0, 0, none, 0, 0, []⟩⟩
    obtain ⟨X, hX⟩ := choose_lt hch
    refine ⟨some a, len, cap, (List.range len).map X, rfl, ⟨by simp, hl, ?_, ?_⟩, by omega⟩
    · intro s hs
      simp only [List.mem_map, List.mem_range] at hs
      obtain ⟨i, hi, rfl⟩ := hs
      exact (hX i hi).2
    · intro hne
      have h0 : 0 < len := by
        rcases Nat.eq_zero_or_pos len with h0 | h0
        · subst h0; exact absurd rfl hne
        · exact h0
      have h1 := (hX 0 h0).1 0 _ rfl
      have ha := spot_none (show W.cell? a = some _ from h1)
      refine ⟨a.block, a.off, by rw [← ha], cell_lt (show W.cell? a = some _ from h1), fun i x hi c u hu => ?_⟩
      have hil : i < len := by have := (List.getElem?_eq_some_iff.1 hi).1; simpa using this
      obtain rfl : X i = x := by simpa [hil] using hi
      have := (hX i hil).1 c u hu
      rw [ha, Addr.add_lit, ← Nat.add_assoc] at this
      exact this

end Go.Proofs.Ytpcggcicpojdoaa
