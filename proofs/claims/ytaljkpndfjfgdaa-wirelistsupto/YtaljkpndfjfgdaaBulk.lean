/-
  What the bound on the arguments' bulk gives, and how a slice of slices of bytes is opened.
-/
import Derived.Test.YtaljkpndfjfgdaaOpen
import Derived.Deep.Slices
import Derived.JoinedCond
namespace Go.Proofs.Ytaljkpndfjfgdaa
open Go.ChangeShapes Go.WideShapes Go.ChangeAt Go.RowKit Go.Joins Go.Deep

theorem Try.cells23 : Try.prog.cellsOf 23 = 1 := by kernel_rfl

theorem bulk_pos {H : Type} (d : DataW H) : 1 ≤ Rows.uptoBulk d := by
  cases d with
  | lit x => cases x <;> simp [Rows.uptoBulk]
  | _ => simp [Rows.uptoBulk]

theorem bulk_len {H : Type} (ds : List (DataW H)) : ds.length ≤ Rows.uptoBulkAll ds := by
  induction ds with
  | nil => simp [Rows.uptoBulkAll]
  | cons d r ih => have := bulk_pos d; simp only [Rows.uptoBulkAll, List.length_cons]; omega

theorem bulk_two {H : Type} {d0 d1 : DataW H} (h : Rows.uptoSmall H [d0, d1] = true) : Rows.uptoBulk d0 + Rows.uptoBulk d1 ≤ 1048576 := by
  have h1 : Rows.uptoBulkAll [d0, d1] ≤ 1048576 := of_decide_eq_true h
  simp only [Rows.uptoBulkAll] at h1
  omega

theorem reads_bulk {H : Type} {d : DataW H} {m : Nat} (h : Reads d m) : m ≤ Rows.uptoBulk d := by
  rcases h with ⟨rfl, rfl⟩ | ⟨elems, spare, rfl, hm⟩
  · omega
  · have h1 := bulk_len elems
    have h2 := bulk_len spare
    simp only [Rows.uptoBulk]
    omega

theorem things_bulk {H : Type} {d0 d1 d2 d3 : DataW H} {m : Nat} (h : Reads d3 m) : m ≤ Rows.uptoBulk (.agg [d0, d1, d2, d3]) := by
  have := reads_bulk h
  simp only [Rows.uptoBulk, Rows.uptoBulkAll]
  omega

theorem flat_bulk {H : Type} (X : Nat → Sl) (D : Nat → DataW H) (L : List Nat) (h : ∀ i ∈ L, (X i).l.length ≤ Rows.uptoBulk (D i)) : (flat (L.map X)).length ≤ Rows.uptoBulkAll (L.map D) := by
  induction L with
  | nil => simp [flat]
  | cons a r ih =>
    have h1 := h a (by simp)
    have h2 := ih (fun i hi => h i (by simp [hi]))
    simp only [flat, List.map_cons, List.flatten_cons, List.length_append, Rows.uptoBulkAll] at h2 ⊢
    omega

/-- A slice of slices of bytes that came in. -/
theorem pieces_open {H : Type} {enc : TypeId × Value → H} {W : World} {fuel : Nat} {v : Value} {x : DataW H × List MemPlace}
    (h : DataW.trod enc Try.prog W 0 (fun _ => true) true fuel 26 [v] = some x) :
    ∃ (lo : Option Addr) (b off lc : Nat) (xs : List Sl), v = .slice lo xs.length lc ∧ (xs = [] ∨ lo = some ⟨b, off, none⟩) ∧
      (∀ i, ∀ h : i < xs.length, W.cell? ⟨b, off + i, none⟩ = some (xs[i].val)) ∧ (∀ i, ∀ h : i < xs.length, (xs[i]).ok W) ∧ xs.length ≤ Rows.uptoBulk x.1 ∧ (flat xs).length ≤ Rows.uptoBulk x.1 := by
  rcases open_slice1 Try.underlying26 Try.cells23 h with ⟨hcs, hx⟩ | ⟨a, len, cap, m, n, V, D, Pl, hcs, _, hl, _, hm, hx, hel⟩
  · cases hcs
    exact ⟨none, 0, 0, 0, [], rfl, .inl rfl, fun i h => absurd h (by simp), fun i h => absurd h (by simp), by simp, by simp [flat]⟩
  · cases hcs
    simp only [if_true] at hm
    have hch : ∀ i, i < len → ∃ s : Sl, V i = s.val ∧ s.ok W ∧ s.l.length ≤ Rows.uptoBulk (D i) := by
      intro i hi
      obtain ⟨ao, mm, c, l, h1, h2, _, h4⟩ := bytes_open (hel i (by omega)).2
      exact ⟨⟨ao, mm, c, l⟩, h1, h2, by have h5 := reads_bulk h4; have h6 := h2.1; simp only at h5 ⊢; omega⟩
    have : Inhabited Sl := ⟨⟨none, 0, 0, []⟩⟩
    obtain ⟨X, hX⟩ := choose_lt hch
    have hlen : ((List.range len).map X).length = len := by simp
    have hbulk : Rows.uptoBulkAll ((List.range len).map D) ≤ Rows.uptoBulk x.1 := by rw [hx]; simp only [Rows.uptoBulk]; omega
    have hb2 := bulk_len ((List.range len).map D)
    have hfl := flat_bulk X D (List.range len) (fun i hi => (hX i (List.mem_range.1 hi)).2.2)
    rw [List.length_map, List.length_range] at hb2
    by_cases h0 : len = 0
    · subst h0
      exact ⟨some a, 0, 0, cap, [], rfl, .inl rfl, fun i h => absurd h (by simp), fun i h => absurd h (by simp), by simp, by simp [flat]⟩
    · obtain ⟨b, off, spot⟩ := a
      have hsp : spot = none := by simpa [Addr.add] using World.cell?_spot (hel 0 (by omega)).1
      subst hsp
      refine ⟨some ⟨b, off, none⟩, b, off, cap, (List.range len).map X, by rw [hlen], .inr rfl, ?_, ?_, by rw [hlen]; omega, by omega⟩
      · intro i hi
        rw [hlen] at hi
        have h1 := (hel i (by omega)).1
        rw [Addr.add_lit] at h1
        rw [h1, (hX i hi).1]
        simp
      · intro i hi
        rw [hlen] at hi
        simpa using (hX i hi).2.1

end Go.Proofs.Ytaljkpndfjfgdaa
