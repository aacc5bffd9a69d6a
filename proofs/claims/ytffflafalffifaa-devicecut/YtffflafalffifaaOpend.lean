/-
  How the arguments of device's laws are opened: slices of bytes, of numbers.
-/
import Derived.Test.YtffflafalffifaaOfl
import Derived.ProofKit
import Derived.SizedLaws
import Derived.Lib.SmallJoins
import Derived.Test.YtffflafalffifaaRows
namespace Go.Proofs.Ytffflafalffifaa.K
open Go.ChangeShapes Go.WideShapes Go.ChangeAt Go.RowKit Go.Joins

theorem own : ownKnob Try.prog.godebug = none := by kernel_rfl
theorem cells5 : Try.prog.cellsOf 5 = 1 := by kernel_rfl
theorem cells2 : Try.prog.cellsOf 2 = 1 := by kernel_rfl
theorem bytes5 : Try.prog.bytesOf 5 = 1 := by kernel_rfl
theorem bytes2 : Try.prog.bytesOf 2 = 8 := by kernel_rfl
theorem laidOut : laidOutB Try.prog = true := by kernel_rfl
theorem spot_none {w : World} {a : Addr} {v : Value} (h : w.cell? a = some v) : a = ⟨a.block, a.off, none⟩ := by
  have : a.spot = none := by
    unfold World.cell? at h
    split at h
    · cases hs : a.spot with
      | none => rfl
      | some s => simp [hs] at h
    · cases h
  cases a; simp_all
/-- What a slice reads as, by its datum. -/
def Reads {H : Type} (d : DataW H) (m : Nat) : Prop := (d = .nil ∧ m = 0) ∨ ∃ elems spare, d = .slice elems spare ∧ m ≤ elems.length + spare.length
theorem reads_sized {H : Type} {ts : List TypeId} {ds : List (DataW H)} {j m t e : Nat} {d : DataW H} (hu : Try.prog.underlying t = some (.slice e)) (hb : 1 ≤ Try.prog.bytesOf e) (h : (DataW.weightsEach Try.prog ts ds).all (· ≤ reachBytes) = true) (ht : ts[j]? = some t) (hd : ds[j]? = some d) (hr : Reads d m) : m ≤ 140737488355328 := by
  rcases hr with ⟨_, rfl⟩ | ⟨elems, spare, rfl, hm⟩
  · omega
  · have := sized_slice h (j := j) (t := t) (e := e) ht hd hu
    simp only [reachBytes] at this
    have h2 : elems.length + spare.length ≤ (elems.length + spare.length) * Try.prog.bytesOf e := Nat.le_mul_of_pos_right _ hb
    omega
/-- A slice of bytes that came in. -/
theorem bytes_open {H : Type} {enc : TypeId × Value → H} {W : World} {fuel : Nat} {v : Value} {x : DataW H × List MemPlace}
    (h : DataW.trod enc Try.prog W 0 (fun _ => true) true fuel 42 [v] = some x) :
    ∃ ao m c l, v = .slice ao m c ∧ (ao = none → m = 0 ∧ c = 0) ∧ Vals W ao m c (u8s l) ∧ (∀ x ∈ l, 0 ≤ x ∧ x < 256) ∧ Reads x.1 m := by
  rcases open_ints Try.underlying42 Try.underlying5 cells5 h with ⟨hcs, hx⟩ | ⟨a, len, cap, zs, hcs, _, hl, _, hz, hx, hcell, hwf⟩
  · cases hcs
    exact ⟨none, 0, 0, [], rfl, fun _ => ⟨rfl, rfl⟩, ⟨rfl, Nat.le_refl _, fun h => absurd rfl h⟩, fun x hx => (by cases hx), .inl ⟨by rw [hx], rfl⟩⟩
  · cases hcs
    simp only [if_true] at hz
    refine ⟨some a, len, cap, zs.take len, rfl, (fun h => by cases h), ⟨by rw [u8s_len, List.length_take]; omega, hl, fun hne => ?_⟩, ?_, .inr ⟨_, _, by rw [hx], ?_⟩⟩
    · have hlen : 0 < len := by
        have : u8s (zs.take len) ≠ [] := hne
        rcases Nat.eq_zero_or_pos len with h0 | h0
        · subst h0; exact absurd rfl this
        · exact h0
      have h0 := hcell 0 (by omega)
      have ha := spot_none (show W.cell? a = some _ from h0)
      refine ⟨a.block, a.off, by rw [← ha], fun j u hj => ?_⟩
      have hjl : j < len := by
        have := (List.getElem?_eq_some_iff.1 hj).1
        simp [u8s] at this; omega
      have hc := hcell j (by omega)
      rw [ha, Addr.add_mid] at hc
      rw [hc, ← hj]
      simp [u8s, hjl, List.getD, show j < zs.length by omega]
    · intro y hy
      have hw := hwf y (List.mem_of_mem_take hy)
      have := bounds_u8 hw
      omega
    · simp only [lits, List.length_map, List.length_take, List.length_drop]; omega
/-- A slice of numbers that came in. -/
theorem ints_open {H : Type} {enc : TypeId × Value → H} {W : World} {fuel : Nat} {v : Value} {x : DataW H × List MemPlace}
    (h : DataW.trod enc Try.prog W 0 (fun _ => true) true fuel 43 [v] = some x) :
    ∃ ao m c l, v = .slice ao m c ∧ (ao = none → m = 0 ∧ c = 0) ∧ Vals W ao m c (i64s l) ∧ Reads x.1 m := by
  rcases open_ints Try.underlying43 Try.underlying2 cells2 h with ⟨hcs, hx⟩ | ⟨a, len, cap, zs, hcs, _, hl, _, hz, hx, hcell, hwf⟩
  · cases hcs
    exact ⟨none, 0, 0, [], rfl, fun _ => ⟨rfl, rfl⟩, ⟨rfl, Nat.le_refl _, fun h => absurd rfl h⟩, .inl ⟨by rw [hx], rfl⟩⟩
  · cases hcs
    simp only [if_true] at hz
    refine ⟨some a, len, cap, zs.take len, rfl, (fun h => by cases h), ⟨by rw [i64s_len, List.length_take]; omega, hl, fun hne => ?_⟩, .inr ⟨_, _, by rw [hx], ?_⟩⟩
    · have hlen : 0 < len := by
        have : i64s (zs.take len) ≠ [] := hne
        rcases Nat.eq_zero_or_pos len with h0 | h0
        · subst h0; exact absurd rfl this
        · exact h0
      have h0 := hcell 0 (by omega)
      have ha := spot_none (show W.cell? a = some _ from h0)
      refine ⟨a.block, a.off, by rw [← ha], fun j u hj => ?_⟩
      have hjl : j < len := by
        have := (List.getElem?_eq_some_iff.1 hj).1
        simp [i64s] at this; omega
      have hc := hcell j (by omega)
      rw [ha, Addr.add_mid] at hc
      rw [hc, ← hj]
      simp [i64s, hjl, List.getD, show j < zs.length by omega]
    · simp only [lits, List.length_map, List.length_take, List.length_drop]; omega

end Go.Proofs.Ytffflafalffifaa.K
