/-
  How the arguments of session's laws are opened: bodies, datagrams, steps, moves.
-/
import Derived.Test.YthbgnpbkdeofcaaSp
import Derived.ProofKit
import Derived.SizedLaws
import Derived.Lib.SmallJoins
import Derived.Deep.Slices
import Derived.JoinedCond
import Derived.Test.YthbgnpbkdeofcaaRows
namespace Go.Proofs.Ythbgnpbkdeofcaa
open Go.ChangeShapes Go.WideShapes Go.ChangeAt Go.RowKit Go.Joins Go.Deep

theorem own : ownKnob Try.prog.godebug = none := by kernel_rfl
theorem cells5 : Try.prog.cellsOf 5 = 1 := by kernel_rfl
theorem cells2 : Try.prog.cellsOf 2 = 1 := by kernel_rfl
theorem cells3 : Try.prog.cellsOf 3 = 1 := by kernel_rfl
theorem cells33 : Try.prog.cellsOf 33 = 1 := by kernel_rfl
theorem cells35 : Try.prog.cellsOf 35 = 6 := by kernel_rfl
theorem bytes5 : Try.prog.bytesOf 5 = 1 := by kernel_rfl
theorem laidOut : laidOutB Try.prog = true := by kernel_rfl
theorem spot_none {w : World} {a : Addr} {v : Value} (h : w.cell? a = some v) : a = ⟨a.block, a.off, none⟩ := by
  have : a.spot = none := by
    unfold World.cell? at h
    split at h
    · cases hs : a.spot with
      | none => rfl
      | some s => simp [hs] at h
    · cases h
  cases a; simp_all
theorem cell_lt {W : World} {a : Addr} {v : Value} (h : W.cell? a = some v) : a.block < W.heap.size := by
  unfold World.cell? at h
  split at h
  · next hb => exact lt_of_block hb
  · cases h
/-- All that is read is of a size that can be. -/
def Szd {H : Type} (T : Nat) (d : DataW H) : Prop := ∀ n ∈ d.weights Try.prog T, n ≤ reachBytes
theorem szd_arg {H : Type} {ts : List TypeId} {ds : List (DataW H)} {j t : Nat} {d : DataW H} (h : (DataW.weightsEach Try.prog ts ds).all (· ≤ reachBytes) = true) (ht : ts[j]? = some t) (hd : ds[j]? = some d) : Szd t d := by
  intro n hn
  have := DataW.weights_mem_each ht hd n hn
  have h2 := List.all_eq_true.1 h n this
  simpa using h2
theorem weightsAll_mem {H : Type} {P : Program} {e : TypeId} {ds : List (DataW H)} {d : DataW H} (h : d ∈ ds) : ∀ n ∈ d.weights P e, n ∈ DataW.weightsAll P e ds := by
  induction ds with
  | nil => cases h
  | cons x r ih =>
    intro n hn
    simp only [DataW.weightsAll]
    rcases List.mem_cons.1 h with rfl | h
    · exact List.mem_append_left _ hn
    · exact List.mem_append_right _ (ih h n hn)
/-- A slice of bytes that came in. -/
theorem by_open {H : Type} {enc : TypeId × Value → H} {W : World} {fuel : Nat} {v : Value} {x : DataW H × List MemPlace}
    (h : DataW.trod enc Try.prog W 0 (fun _ => true) true fuel 33 [v] = some x) (hs : Szd 33 x.1) : ∃ y : By, v = y.v ∧ y.Ok W W.heap.size := by
  rcases open_ints Try.underlying33 Try.underlying5 cells5 h with ⟨hcs, hx⟩ | ⟨a, len, cap, zs, hcs, _, hl, _, hz, hx, hcell, hwf⟩
  · cases hcs
    exact ⟨⟨none, 0, 0, []⟩, rfl, ⟨rfl, Nat.le_refl _, fun h => absurd rfl h⟩, fun _ => ⟨rfl, rfl⟩, fun x hx => (by cases hx), fun h => absurd rfl h, by decide⟩
  · cases hcs
    simp only [if_true] at hz
    have hV : Vals W (some a) len cap (u8s (zs.take len)) := by
      refine ⟨by rw [u8s_len, List.length_take]; omega, hl, fun hne => ?_⟩
      have hlen : 0 < len := by
        have : u8s (zs.take len) ≠ [] := hne
        rcases Nat.eq_zero_or_pos len with h0 | h0
        · subst h0; exact absurd rfl this
        · exact h0
      have h0 := hcell 0 (by omega)
      have ha := spot_none (show W.cell? a = some _ from h0)
      refine ⟨a.block, a.off, by rw [← ha], fun j u hj => ?_⟩
      have hjl : j < len := by
        have := (List.getElem?_eq_some_iff.1 hj).1
        simp [u8s] at this; omega
      have hc := hcell j (by omega)
      rw [ha, Addr.add_mid] at hc
      rw [hc, ← hj]
      simp [u8s, hjl, List.getD, show j < zs.length by omega]
    refine ⟨⟨some a, len, cap, zs.take len⟩, rfl, hV, (fun h => by cases h), ?_, fun hne g off e => ?_, ?_⟩
    · intro y hy
      have hw := hwf y (List.mem_of_mem_take hy)
      have := bounds_u8 hw
      omega
    · obtain ⟨g', off', e', hrg⟩ := hV.lies (fun e => hne (by have := congrArg List.length e; rw [u8s_len] at this; exact List.length_eq_zero_iff.1 this))
      have e2 : some a = some (⟨g, off, none⟩ : Addr) := e
      rw [e'] at e2
      cases e2
      obtain ⟨z, hz⟩ : ∃ z, (u8s (zs.take len))[0]? = some z := ⟨_, List.getElem?_eq_getElem (by rw [u8s_len]; exact Nat.pos_of_ne_zero (fun h0 => hne (List.length_eq_zero_iff.1 h0)))⟩
      exact cell_lt (hrg 0 z hz)
    · rw [hx] at hs
      have h9 := hs (((lits IntKind.u8 (zs.take len) : List (DataW H)).length + (lits IntKind.u8 (zs.drop len) : List (DataW H)).length) * Try.prog.bytesOf 5) (by
        unfold DataW.weights
        rw [Try.underlying33]
        exact List.mem_cons_self ..)
      rw [bytes5] at h9
      simp only [lits, List.length_map, List.length_take, List.length_drop, reachBytes] at h9
      show len ≤ _
      omega
theorem of3 {α : Type} {l : List α} (h : l.length = 3) : ∃ a b c, l = [a, b, c] := by
  match l, h with
  | [a, b, c], _ => exact ⟨a, b, c, rfl⟩
theorem of4 {α : Type} {l : List α} (h : l.length = 4) : ∃ a b c d, l = [a, b, c, d] := by
  match l, h with
  | [a, b, c, d], _ => exact ⟨a, b, c, d, rfl⟩
theorem of6 {α : Type} {l : List α} (h : l.length = 6) : ∃ a b c d e f, l = [a, b, c, d, e, f] := by
  match l, h with
  | [a, b, c, d, e, f], _ => exact ⟨a, b, c, d, e, f, rfl⟩
theorem of8 {α : Type} {l : List α} (h : l.length = 8) : ∃ a b c d e f g h, l = [a, b, c, d, e, f, g, h] := by
  match l, h with
  | [a, b, c, d, e, f, g, h], _ => exact ⟨a, b, c, d, e, f, g, h, rfl⟩
theorem fields35 : ∃ f0 f1 f2 f3 f4 f5 : Field, Try.prog.underlying 35 = some (.struct #[f0, f1, f2, f3, f4, f5]) ∧ (f0.type = 3 ∧ f0.offset = 0) ∧ (f1.type = 3 ∧ f1.offset = 1) ∧ (f2.type = 2 ∧ f2.offset = 2) ∧ (f3.type = 2 ∧ f3.offset = 3) ∧ (f4.type = 2 ∧ f4.offset = 4) ∧ f5.type = 33 ∧ f5.offset = 5 :=
  ⟨_, _, _, _, _, _, Try.underlying35, ⟨rfl, rfl⟩, ⟨rfl, rfl⟩, ⟨rfl, rfl⟩, ⟨rfl, rfl⟩, ⟨rfl, rfl⟩, rfl, rfl⟩
theorem szd_part {H : Type} {T : Nat} {fs : Array Field} {parts : List (DataW H)} (hu : Try.prog.underlying T = some (.struct fs)) (hs : Szd T (.agg parts)) {j t : Nat} {d : DataW H} (ht : (fs.toList.map (·.type))[j]? = some t) (hd : parts[j]? = some d) : Szd t d := by
  intro n hn
  refine hs n ?_
  unfold DataW.weights
  rw [hu]
  exact DataW.weights_mem_each ht hd n hn
/-- A datagram that came in. -/
theorem dg_cells {H : Type} {enc : TypeId × Value → H} {W : World} {fuel : Nat} {cs : List Value} {x : DataW H × List MemPlace} (h : DataW.trod enc Try.prog W 0 (fun _ => true) true fuel 35 cs = some x) (hs : Szd 35 x.1) : ∃ (d : Dg) (y : By), cs = d.C y.v ∧ d.bs = y.bs ∧ y.Ok W W.heap.size := by
  obtain ⟨f0, f1, f2, f3, f4, f5, hu, ⟨t0, o0⟩, ⟨t1, o1⟩, ⟨t2, o2⟩, ⟨t3, o3⟩, ⟨t4, o4⟩, t5, o5⟩ := fields35
  obtain ⟨xs, n, _, ex, hl, hlen, hf⟩ := DataW.trod_struct hu h
  obtain ⟨y0, y1, y2, y3, y4, y5, rfl⟩ := of6 hlen
  have h0 := hf 0 f0 rfl
  have h1 := hf 1 f1 rfl
  have h2 := hf 2 f2 rfl
  have h3 := hf 3 f3 rfl
  have h4 := hf 4 f4 rfl
  have h5 := hf 5 f5 rfl
  rw [t0, o0, cells3] at h0
  rw [t1, o1, cells3] at h1
  rw [t2, o2, cells2] at h2
  rw [t3, o3, cells2] at h3
  rw [t4, o4, cells2] at h4
  rw [t5, o5, cells33] at h5
  rw [cells35] at hl
  obtain ⟨a0, a1, a2, a3, a4, a5, rfl⟩ := of6 hl
  obtain ⟨v0, e0, _, w0⟩ := DataW.trod_int Try.underlying3 h0
  obtain ⟨v1, e1, _, w1⟩ := DataW.trod_int Try.underlying3 h1
  obtain ⟨v2, e2, _, w2⟩ := DataW.trod_int Try.underlying2 h2
  obtain ⟨v3, e3, _, w3⟩ := DataW.trod_int Try.underlying2 h3
  obtain ⟨v4, e4, _, w4⟩ := DataW.trod_int Try.underlying2 h4
  rw [ex] at hs
  have hs5 : Szd 33 y5.1 := szd_part (j := 5) hu hs (by simp [t5]) (by simp)
  obtain ⟨y, e5, hy⟩ := by_open (show DataW.trod enc Try.prog W 0 (fun _ => true) true n 33 [a5] = some y5 from h5) hs5
  simp at e0 e1 e2 e3 e4
  subst e0 e1 e2 e3 e4 e5
  exact ⟨⟨v0, v1, v2, v3, v4, y.bs⟩, y, rfl, rfl, hy⟩
theorem dg_open {H : Type} {enc : TypeId × Value → H} {W : World} {r : Reach} {b0 : Nat} {v : Value} {d : DataW H} {p : List MemPlace} (hv : Value.okWide Try.prog W r b0 35 v) (h : DataW.Trod enc Try.prog W 0 (fun _ => true) true 35 v d p) (hs : Szd 35 d) : ∃ (d : Dg) (y : By), v = aggV (d.C y.v) ∧ d.bs = y.bs ∧ y.Ok W W.heap.size := by
  obtain ⟨f0, f1, f2, f3, f4, f5, hu, _⟩ := fields35
  obtain ⟨cs, rfl, hsz⟩ := okWide_struct hu hv
  obtain ⟨fuel, hf⟩ := h
  obtain ⟨d, y, e, h1, h2⟩ := dg_cells hf hs
  refine ⟨d, y, ?_, h1, h2⟩
  have : cs.toList = d.C y.v := e
  show Value.agg cs = .agg (d.C y.v).toArray
  rw [← this]
/-- Bodies that came in. -/
theorem bys_open {H : Type} {enc : TypeId × Value → H} {W : World} {fuel : Nat} {v : Value} {x : DataW H × List MemPlace}
    (h : DataW.trod enc Try.prog W 0 (fun _ => true) true fuel 30 [v] = some x) (hs : Szd 30 x.1) : ∃ ao m c X, v = .slice ao m c ∧ Bys W W.heap.size ao m c X := by
  rcases open_slice Try.underlying30 h with ⟨hcs, hx⟩ | ⟨a, len, cap, m, n, D, Pl, hcs, _, hl, _, hm, hx, hel⟩
  · cases hcs
    exact ⟨none, 0, 0, [], rfl, ⟨rfl, fun s hs => (by cases hs), fun h => absurd rfl h⟩⟩
  · cases hcs
    simp only [if_true] at hm
    have hch : ∀ i, i < len → ∃ y : By, (∀ c u, [y.v][c]? = some u → W.cell? (a.add (i * 1 + c)) = some u) ∧ y.Ok W W.heap.size := by
      intro i hi
      obtain ⟨cs', h1, h2⟩ := hel i (by omega)
      rw [cells33] at h1
      obtain ⟨_, hlen, hcell⟩ := World.cells?_some h1
      have hsi : Szd 33 (D i) := by
        intro q hq
        refine hs q ?_
        rw [hx]
        unfold DataW.weights
        rw [Try.underlying30]
        exact List.mem_cons_of_mem _ (List.mem_append_left _ (weightsAll_mem (List.mem_map.2 ⟨i, List.mem_range.2 hi, rfl⟩) q hq))
      obtain ⟨u, rfl⟩ : ∃ u, cs' = [u] := by
        match cs', hlen with
        | [u], _ => exact ⟨u, rfl⟩
      obtain ⟨y, rfl, hy⟩ := by_open h2 hsi
      refine ⟨y, ?_, hy⟩
      intro c u hu
      have hc : c < 1 := by have := (List.getElem?_eq_some_iff.1 hu).1; simpa using this
      have := hcell c hc
      rw [add_add] at this
      rw [this]
      exact hu
    haveI : Inhabited By := ⟨⟨none, 0, 0, []⟩⟩
    obtain ⟨X, hX⟩ := choose_lt hch
    refine ⟨some a, len, cap, (List.range len).map X, rfl, ⟨by simp, ?_, ?_⟩⟩
    · intro s hs
      simp only [List.mem_map, List.mem_range] at hs
      obtain ⟨i, hi, rfl⟩ := hs
      exact (hX i hi).2
    · intro hne
      have h0 : 0 < len := by
        rcases Nat.eq_zero_or_pos len with h0 | h0
        · subst h0; exact absurd rfl hne
        · exact h0
      have h1 := (hX 0 h0).1 0 _ rfl
      have ha := spot_none (show W.cell? a = some _ from h1)
      refine ⟨a.block, a.off, by rw [← ha], cell_lt (show W.cell? a = some _ from h1), fun i x hi => ?_⟩
      have hil : i < len := by have := (List.getElem?_eq_some_iff.1 hi).1; simpa using this
      obtain rfl : X i = x := by simpa [hil] using hi
      have := (hX i hil).1 0 _ rfl
      rw [ha, Addr.add_lit, Nat.mul_one, Nat.add_zero] at this
      exact this
theorem fields37 : ∃ f0 f1 f2 : Field, Try.prog.underlying 37 = some (.struct #[f0, f1, f2]) ∧ (f0.type = 3 ∧ f0.offset = 0) ∧ (f1.type = 33 ∧ f1.offset = 1) ∧ f2.type = 35 ∧ f2.offset = 2 :=
  ⟨_, _, _, Try.underlying37, ⟨rfl, rfl⟩, ⟨rfl, rfl⟩, rfl, rfl⟩
theorem fields56 : ∃ f0 f1 f2 f3 : Field, Try.prog.underlying 56 = some (.struct #[f0, f1, f2, f3]) ∧ (f0.type = 3 ∧ f0.offset = 0) ∧ (f1.type = 3 ∧ f1.offset = 1) ∧ (f2.type = 3 ∧ f2.offset = 2) ∧ f3.type = 33 ∧ f3.offset = 3 :=
  ⟨_, _, _, _, Try.underlying56, ⟨rfl, rfl⟩, ⟨rfl, rfl⟩, ⟨rfl, rfl⟩, rfl, rfl⟩
/-- A step that came in. -/
structure St1 where
  kind : Int
  y : By
  d : Dg
  e : By
def St1.C (x : St1) : List Value := .int .i64 x.kind :: x.y.v :: x.d.C x.e.v
structure St1.Ok (x : St1) (w : World) (B : Nat) : Prop where
  y : x.y.Ok w B
  d : x.d.bs = x.e.bs
  e : x.e.Ok w B
theorem St1.Ok.kept {x : St1} {w w' : World} {B : Nat} {X : List Nat} (h : x.Ok w B) (hk : Kept X w w') (hX : ∀ i ∈ X, B ≤ i) : x.Ok w' B := ⟨h.y.kept hk hX, h.d, h.e.kept hk hX⟩
/-- A move that came in. -/
structure Mv where
  kind : Int
  who : Int
  n : Int
  y : By
def Mv.C (x : Mv) : List Value := [.int .i64 x.kind, .int .i64 x.who, .int .i64 x.n, x.y.v]
structure Mv.Ok (x : Mv) (w : World) (B : Nat) : Prop where
  y : x.y.Ok w B
  who : -9223372036854775808 ≤ x.who ∧ x.who ≤ 9223372036854775807
  n : -9223372036854775808 ≤ x.n ∧ x.n ≤ 9223372036854775807
theorem Mv.Ok.kept {x : Mv} {w w' : World} {B : Nat} {X : List Nat} (h : x.Ok w B) (hk : Kept X w w') (hX : ∀ i ∈ X, B ≤ i) : x.Ok w' B := ⟨h.y.kept hk hX, h.who, h.n⟩
/-- Rows of structs that came in. -/
structure Rws {α : Type} (C : α → List Value) (Ok : α → World → Nat → Prop) (sz : Nat) (w : World) (B : Nat) (ao : Option Addr) (m : Nat) (X : List α) : Prop where
  len : X.length = m
  ok : ∀ x ∈ X, Ok x w B
  lies : X ≠ [] → ∃ h off, ao = some ⟨h, off, none⟩ ∧ h < B ∧ ∀ (i : Nat) x, X[i]? = some x → w.rangeAt h (off + i * sz) (C x)
theorem Rws.kept {α : Type} {C : α → List Value} {Ok : α → World → Nat → Prop} {sz : Nat} {w w' : World} {B : Nat} {ao : Option Addr} {m : Nat} {Y : List α} {X : List Nat} (hok : ∀ x, Ok x w B → Ok x w' B) (h : Rws C Ok sz w B ao m Y) (hk : Kept X w w') (hX : ∀ i ∈ X, B ≤ i) : Rws C Ok sz w' B ao m Y := by
  refine ⟨h.len, fun x hx => hok x (h.ok x hx), fun hne => ?_⟩
  obtain ⟨g, off, e, hg, hr⟩ := h.lies hne
  exact ⟨g, off, e, hg, fun i x hi j v hj => hk.cell (hr i x hi j v hj) (fun hm => by have := hX _ hm; simp at this; omega)⟩
abbrev Sts (w : World) (B : Nat) (ao : Option Addr) (m : Nat) (X : List St1) : Prop := Rws St1.C St1.Ok 8 w B ao m X
abbrev Mvs (w : World) (B : Nat) (ao : Option Addr) (m : Nat) (X : List Mv) : Prop := Rws Mv.C Mv.Ok 4 w B ao m X
theorem Sts.kept0 {w w' : World} {ao : Option Addr} {m : Nat} {X : List St1} (h : Sts w w.heap.size ao m X) (hk : Kept [] w w') : Sts w' w.heap.size ao m X := Rws.kept (fun _ hx => hx.kept hk (by simp)) h hk (by simp)
theorem Mvs.kept0 {w w' : World} {ao : Option Addr} {m : Nat} {X : List Mv} (h : Mvs w w.heap.size ao m X) (hk : Kept [] w w') : Mvs w' w.heap.size ao m X := Rws.kept (fun _ hx => hx.kept hk (by simp)) h hk (by simp)
theorem cells37 : Try.prog.cellsOf 37 = 8 := by kernel_rfl
theorem cells56 : Try.prog.cellsOf 56 = 4 := by kernel_rfl
theorem step_cells {H : Type} {enc : TypeId × Value → H} {W : World} {fuel : Nat} {cs : List Value} {x : DataW H × List MemPlace} (h : DataW.trod enc Try.prog W 0 (fun _ => true) true fuel 37 cs = some x) (hs : Szd 37 x.1) : ∃ q : St1, cs = q.C ∧ q.Ok W W.heap.size := by
  obtain ⟨f0, f1, f2, hu, ⟨t0, o0⟩, ⟨t1, o1⟩, t2, o2⟩ := fields37
  obtain ⟨xs, n, _, ex, hl, hlen, hf⟩ := DataW.trod_struct hu h
  obtain ⟨y0, y1, y2, rfl⟩ := of3 hlen
  have h0 := hf 0 f0 rfl
  have h1 := hf 1 f1 rfl
  have h2 := hf 2 f2 rfl
  rw [t0, o0, cells3] at h0
  rw [t1, o1, cells33] at h1
  rw [t2, o2, cells35] at h2
  rw [cells37] at hl
  obtain ⟨a0, a1, a2, a3, a4, a5, a6, a7, rfl⟩ := of8 hl
  obtain ⟨v0, e0, _, w0⟩ := DataW.trod_int Try.underlying3 h0
  rw [ex] at hs
  have hs1 : Szd 33 y1.1 := szd_part (j := 1) hu hs (by simp [t1]) (by simp)
  have hs2 : Szd 35 y2.1 := szd_part (j := 2) hu hs (by simp [t2]) (by simp)
  obtain ⟨y, e1, hy⟩ := by_open (show DataW.trod enc Try.prog W 0 (fun _ => true) true n 33 [a1] = some y1 from h1) hs1
  obtain ⟨d, z, e2, hd, hz⟩ := dg_cells (show DataW.trod enc Try.prog W 0 (fun _ => true) true n 35 [a2, a3, a4, a5, a6, a7] = some y2 from h2) hs2
  simp at e0
  subst e0 e1
  refine ⟨⟨v0, y, d, z⟩, ?_, hy, hd, hz⟩
  show _ = _ :: _ :: d.C z.v
  rw [← e2]
theorem move_cells {H : Type} {enc : TypeId × Value → H} {W : World} {fuel : Nat} {cs : List Value} {x : DataW H × List MemPlace} (h : DataW.trod enc Try.prog W 0 (fun _ => true) true fuel 56 cs = some x) (hs : Szd 56 x.1) : ∃ q : Mv, cs = q.C ∧ q.Ok W W.heap.size := by
  obtain ⟨f0, f1, f2, f3, hu, ⟨t0, o0⟩, ⟨t1, o1⟩, ⟨t2, o2⟩, t3, o3⟩ := fields56
  obtain ⟨xs, n, _, ex, hl, hlen, hf⟩ := DataW.trod_struct hu h
  obtain ⟨y0, y1, y2, y3, rfl⟩ := of4 hlen
  have h0 := hf 0 f0 rfl
  have h1 := hf 1 f1 rfl
  have h2 := hf 2 f2 rfl
  have h3 := hf 3 f3 rfl
  rw [t0, o0, cells3] at h0
  rw [t1, o1, cells3] at h1
  rw [t2, o2, cells3] at h2
  rw [t3, o3, cells33] at h3
  rw [cells56] at hl
  obtain ⟨a0, a1, a2, a3, rfl⟩ := of4 hl
  obtain ⟨v0, e0, _, w0⟩ := DataW.trod_int Try.underlying3 h0
  obtain ⟨v1, e1, _, w1⟩ := DataW.trod_int Try.underlying3 h1
  obtain ⟨v2, e2, _, w2⟩ := DataW.trod_int Try.underlying3 h2
  rw [ex] at hs
  have hs3 : Szd 33 y3.1 := szd_part (j := 3) hu hs (by simp [t3]) (by simp)
  obtain ⟨y, e3, hy⟩ := by_open (show DataW.trod enc Try.prog W 0 (fun _ => true) true n 33 [a3] = some y3 from h3) hs3
  simp at e0 e1 e2
  subst e0 e1 e2 e3
  exact ⟨⟨v0, v1, v2, y⟩, rfl, hy, bounds_i64 w1, bounds_i64 w2⟩
theorem rws_open {H : Type} {α : Type} [Inhabited α] (C : α → List Value) (Ok : α → World → Nat → Prop) {T e sz : Nat} (hsz : 0 < sz) (hlenC : ∀ x, (C x).length = sz) (hT : Try.prog.underlying T = some (.slice e)) (hce : Try.prog.cellsOf e = sz) {enc : TypeId × Value → H} {W : World} {fuel : Nat} {v : Value} {x : DataW H × List MemPlace}
    (hone : ∀ fuel cs (x : DataW H × List MemPlace), DataW.trod enc Try.prog W 0 (fun _ => true) true fuel e cs = some x → Szd e x.1 → ∃ q, cs = C q ∧ Ok q W W.heap.size)
    (h : DataW.trod enc Try.prog W 0 (fun _ => true) true fuel T [v] = some x) (hs : Szd T x.1) : ∃ ao m c X, v = .slice ao m c ∧ Rws C Ok sz W W.heap.size ao m X := by
  rcases open_slice hT h with ⟨hcs, hx⟩ | ⟨a, len, cap, m, n, D, Pl, hcs, _, hl, _, hm, hx, hel⟩
  · cases hcs
    exact ⟨none, 0, 0, [], rfl, ⟨rfl, fun s hs => (by cases hs), fun h => absurd rfl h⟩⟩
  · cases hcs
    simp only [if_true] at hm
    have hch : ∀ i, i < len → ∃ q : α, (∀ c u, (C q)[c]? = some u → W.cell? (a.add (i * sz + c)) = some u) ∧ Ok q W W.heap.size := by
      intro i hi
      obtain ⟨cs', h1, h2⟩ := hel i (by omega)
      rw [hce] at h1
      obtain ⟨_, hlen, hcell⟩ := World.cells?_some h1
      have hsi : Szd e (D i) := by
        intro q hq
        refine hs q ?_
        rw [hx]
        unfold DataW.weights
        rw [hT]
        exact List.mem_cons_of_mem _ (List.mem_append_left _ (weightsAll_mem (List.mem_map.2 ⟨i, List.mem_range.2 hi, rfl⟩) q hq))
      obtain ⟨q, rfl, hq⟩ := hone _ _ _ h2 hsi
      refine ⟨q, ?_, hq⟩
      intro c u hu
      have hc : c < sz := by have := (List.getElem?_eq_some_iff.1 hu).1; rw [hlenC] at this; exact this
      have := hcell c hc
      rw [add_add] at this
      rw [this]
      exact hu
    obtain ⟨X, hX⟩ := choose_lt hch
    refine ⟨some a, len, cap, (List.range len).map X, rfl, ⟨by simp, ?_, ?_⟩⟩
    · intro s hs
      simp only [List.mem_map, List.mem_range] at hs
      obtain ⟨i, hi, rfl⟩ := hs
      exact (hX i hi).2
    · intro hne
      have h0 : 0 < len := by
        rcases Nat.eq_zero_or_pos len with h0 | h0
        · subst h0; exact absurd rfl hne
        · exact h0
      obtain ⟨u0, hu0⟩ : ∃ u, (C (X 0))[0]? = some u := ⟨_, List.getElem?_eq_getElem (by rw [hlenC]; exact hsz)⟩
      have h1 := (hX 0 h0).1 0 _ hu0
      rw [Nat.zero_mul] at h1
      have ha := spot_none (show W.cell? a = some _ from h1)
      refine ⟨a.block, a.off, by rw [← ha], cell_lt (show W.cell? a = some _ from h1), fun i x hi c u hu => ?_⟩
      have hil : i < len := by have := (List.getElem?_eq_some_iff.1 hi).1; simpa using this
      obtain rfl : X i = x := by simpa [hil] using hi
      have := (hX i hil).1 c u hu
      rw [ha, Addr.add_lit, ← Nat.add_assoc] at this
      exact this
theorem steps_open {H : Type} {enc : TypeId × Value → H} {W : World} {fuel : Nat} {v : Value} {x : DataW H × List MemPlace} (h : DataW.trod enc Try.prog W 0 (fun _ => true) true fuel 22 [v] = some x) (hs : Szd 22 x.1) : ∃ ao m c X, v = .slice ao m c ∧ Sts W W.heap.size ao m X :=
  haveI : Inhabited St1 := ⟨⟨0, ⟨none, 0, 0, []⟩, ⟨0, 0, 0, 0, 0, []⟩, ⟨none, 0, 0, []⟩⟩⟩
  rws_open St1.C St1.Ok (by decide) (fun _ => rfl) Try.underlying22 cells37 (fun _ _ _ h hs => step_cells h hs) h hs
theorem moves_open {H : Type} {enc : TypeId × Value → H} {W : World} {fuel : Nat} {v : Value} {x : DataW H × List MemPlace} (h : DataW.trod enc Try.prog W 0 (fun _ => true) true fuel 49 [v] = some x) (hs : Szd 49 x.1) : ∃ ao m c X, v = .slice ao m c ∧ Mvs W W.heap.size ao m X :=
  haveI : Inhabited Mv := ⟨⟨0, 0, 0, ⟨none, 0, 0, []⟩⟩⟩
  rws_open Mv.C Mv.Ok (by decide) (fun _ => rfl) Try.underlying49 cells56 (fun _ _ _ h hs => move_cells h hs) h hs

end Go.Proofs.Ythbgnpbkdeofcaa
