/-
  How the arguments of the laws are opened: a slice of bytes, and what is written.
-/
import Derived.Test.YtaljkpndfjfgdaaThere
import Derived.ProofKit
import Derived.SizedLaws
import Derived.Lib.SmallJoins
namespace Go.Proofs.Ytaljkpndfjfgdaa
open Go.ChangeShapes Go.WideShapes Go.ChangeAt Go.RowKit Go.Joins

theorem own : ownKnob Try.prog.godebug = none := by kernel_rfl
theorem Try.cells5 : Try.prog.cellsOf 5 = 1 := by kernel_rfl
theorem Try.bytes5 : Try.prog.bytesOf 5 = 1 := by kernel_rfl
theorem Try.cells25 : Try.prog.cellsOf 25 = 4 := by kernel_rfl
theorem Try.laidOut : laidOutB Try.prog = true := by kernel_rfl

/-- What a slice of bytes reads as, by its datum. -/
def Reads {H : Type} (d : DataW H) (m : Nat) : Prop := (d = .nil ∧ m = 0) ∨ ∃ elems spare, d = .slice elems spare ∧ m ≤ elems.length + spare.length

/-- A slice of bytes that came in. -/
theorem bytes_open {H : Type} {enc : TypeId × Value → H} {W : World} {fuel : Nat} {v : Value} {x : DataW H × List MemPlace}
    (h : DataW.trod enc Try.prog W 0 (fun _ => true) true fuel 23 [v] = some x) :
    ∃ ao m c l, v = .slice ao m c ∧ Holds W ao m c l ∧ Byt l ∧ Reads x.1 m := by
  rcases open_ints Try.underlying23 Try.underlying5 Try.cells5 h with ⟨hcs, hx⟩ | ⟨a, len, cap, zs, hcs, _, hl, _, hz, hx, hcell, hwf⟩
  · cases hcs
    exact ⟨none, 0, 0, [], rfl, holds_nil W, fun x hx => (by cases hx), .inl ⟨by rw [hx], rfl⟩⟩
  · cases hcs
    simp only [if_true] at hz
    refine ⟨some a, len, cap, zs.take len, rfl, ⟨by rw [List.length_take]; omega, hl, fun h => (by cases h), ?_⟩, ?_, .inr ⟨_, _, by rw [hx], ?_⟩⟩
    · intro ad had j u hj
      cases had
      have hjl : j < len := by
        have := (List.getElem?_eq_some_iff.1 hj).1
        simp [u8s] at this; omega
      rw [hcell j (by omega), ← hj]
      simp [u8s, hjl, List.getD, show j < zs.length by omega]
    · intro y hy
      have hw := hwf y (List.mem_of_mem_take hy)
      have := bounds_u8 hw
      omega
    · simp only [lits, List.length_map, List.length_take, List.length_drop]; omega

/-- The size of a slice of bytes that came in. -/
theorem reads_sized {H : Type} {ts : List TypeId} {ds : List (DataW H)} {j m : Nat} {d : DataW H} (h : (DataW.weightsEach Try.prog ts ds).all (· ≤ reachBytes) = true) (ht : ts[j]? = some 23) (hd : ds[j]? = some d) (hr : Reads d m) : m ≤ 140737488351232 := by
  rcases hr with ⟨_, rfl⟩ | ⟨elems, spare, rfl, hm⟩
  · omega
  · have := sized_slice h (j := j) (t := 23) (e := 5) ht hd Try.underlying23
    rw [Try.bytes5] at this
    simp only [reachBytes] at this
    omega

-- What is written, as it came in: a number, a signed number, a flag, bytes.
set_option maxRecDepth 100000 in
theorem things_open {H : Type} {enc : TypeId × Value → H} {W : World} {b0 : Nat} {r : Reach} {v : Value} {d : DataW H} {p : List MemPlace}
    (hv : Value.okWide Try.prog W r b0 25 v) (h : DataW.Trod enc Try.prog W 0 (fun _ => true) true 25 v d p) :
    ∃ (n : Nat) (s : Int) (f : Bool) (ao : Option Addr) (m c : Nat) (l : List Int) (d0 d1 d2 d3 : DataW H), v = .agg #[.int .u64 n, .int .i64 s, .bool f, .slice ao m c] ∧ d = .agg [d0, d1, d2, d3] ∧
      n < 18446744073709551616 ∧ -9223372036854775808 ≤ s ∧ s ≤ 9223372036854775807 ∧ Holds W ao m c l ∧ Byt l ∧ Reads d3 m := by
  obtain ⟨v0, v1, v2, v3, y0, y1, y2, y3, k, rfl, rfl, rfl, h0, h1, h2, h3⟩ := open_agg4 Try.underlying25 (by kernel_rfl) Try.cells25 hv h
  obtain ⟨n, e0, _, w0⟩ := DataW.trod_int Try.underlying22 h0
  obtain ⟨s, e1, _, w1⟩ := DataW.trod_int Try.underlying2 h1
  obtain ⟨f, e2, _⟩ := DataW.trod_bool Try.underlying4 h2
  obtain ⟨ao, m, c, l, e3, hh, hby, hr⟩ := bytes_open h3
  have b0 := bounds_u64 w0
  have b1 := bounds_i64 w1
  simp only [List.cons.injEq, and_true] at e0 e1 e2
  subst e0 e1 e2 e3
  obtain ⟨k, rfl⟩ := Int.eq_ofNat_of_zero_le b0.1
  exact ⟨k, s, f, ao, m, c, l, _, _, _, _, rfl, rfl, by omega, b1.1, b1.2, hh, hby, hr⟩

theorem things_sized {H : Type} {ts : List TypeId} {ds : List (DataW H)} {j m : Nat} {d0 d1 d2 d3 : DataW H} (h : (DataW.weightsEach Try.prog ts ds).all (· ≤ reachBytes) = true) (ht : ts[j]? = some 25) (hd : ds[j]? = some (.agg [d0, d1, d2, d3])) (hr : Reads d3 m) : m ≤ 140737488351232 := by
  have h' : (DataW.weightsEach Try.prog [22, 2, 4, 23] [d0, d1, d2, d3]).all (· ≤ reachBytes) = true := by
    rw [List.all_eq_true] at h ⊢
    intro n hn
    refine h n (DataW.weights_mem_each ht hd n ?_)
    simp only [DataW.weights, Try.underlying25]
    exact hn
  exact reads_sized h' (j := 3) rfl rfl hr

end Go.Proofs.Ytaljkpndfjfgdaa
