/-
  How a list of asks is opened.
-/
import Derived.Test.YtcfoebpbbmnleaaWherea
import Derived.Test.YtcfoebpbbmnleaaOpen
import Derived.OpenShut
namespace Go.Proofs.Ytcfoebpbbmnleaa
open Go.ChangeShapes Go.WideShapes Go.ChangeAt Go.RowKit Go.Joins Go.Deep

theorem Try.bytes33 : Try.prog.bytesOf 33 = 32 := by kernel_rfl
theorem list_four {α : Type} {l : List α} (h : l.length = 4) : ∃ a b c d, l = [a, b, c, d] := by
  match l, h with
  | [a, b, c, d], _ => exact ⟨a, b, c, d, rfl⟩
theorem spot_none {w : World} {a : Addr} {v : Value} (h : w.cell? a = some v) : a = ⟨a.block, a.off, none⟩ := by
  have : a.spot = none := by
    unfold World.cell? at h
    split at h
    · cases hs : a.spot with
      | none => rfl
      | some s => simp [hs] at h
    · cases h
  cases a; simp_all
theorem one_fields33 : ∃ f0 f1 f2 f3 : Field, Try.prog.underlying 33 = some (.struct #[f0, f1, f2, f3]) ∧ (f0.type = 3 ∧ f0.offset = 0) ∧ (f1.type = 3 ∧ f1.offset = 1) ∧ (f2.type = 3 ∧ f2.offset = 2) ∧ f3.type = 2 ∧ f3.offset = 3 :=
  ⟨_, _, _, _, Try.underlying33, ⟨rfl, rfl⟩, ⟨rfl, rfl⟩, ⟨rfl, rfl⟩, rfl, rfl⟩

/-- What a slice reads as, by its datum. -/
def Reads {H : Type} (d : DataW H) (m : Nat) : Prop := (d = .nil ∧ m = 0) ∨ ∃ elems spare, d = .slice elems spare ∧ m ≤ elems.length + spare.length
theorem reads_sized {H : Type} {ts : List TypeId} {ds : List (DataW H)} {j m : Nat} {d : DataW H} (h : (DataW.weightsEach Try.prog ts ds).all (· ≤ reachBytes) = true) (ht : ts[j]? = some 24) (hd : ds[j]? = some d) (hr : Reads d m) : m ≤ 140737488355328 := by
  rcases hr with ⟨_, rfl⟩ | ⟨elems, spare, rfl, hm⟩
  · omega
  · have := sized_slice h (j := j) (t := 24) (e := 33) ht hd Try.underlying24
    rw [Try.bytes33] at this
    simp only [reachBytes] at this
    omega

-- The asks that came in.
set_option maxRecDepth 100000 in
theorem asks_open {H : Type} {enc : TypeId × Value → H} {W : World} {fuel : Nat} {v : Value} {x : DataW H × List MemPlace}
    (h : DataW.trod enc Try.prog W 0 (fun _ => true) true fuel 24 [v] = some x) :
    ∃ (ao : Option Addr) (c : Nat) (l : List Ask), v = .slice ao l.length c ∧ AskS W ao l ∧ (∀ x ∈ l, I64 x.s) ∧ Reads x.1 l.length := by
  rcases open_slice Try.underlying24 h with ⟨hcs, hx⟩ | ⟨a, len, cap, m, n, D, Pl, hcs, _, hl, _, hm, hx, hel⟩
  · cases hcs
    exact ⟨none, 0, [], rfl, fun i x hx => (by simp at hx), fun x hx => (by cases hx), .inl ⟨by rw [hx], rfl⟩⟩
  · cases hcs
    simp only [if_true] at hm
    have c3 : Try.prog.cellsOf 3 = 1 := by kernel_rfl
    have c2 : Try.prog.cellsOf 2 = 1 := by kernel_rfl
    have hch : ∀ i, i < len → ∃ q : Ask, (∀ c u, (askC q)[c]? = some u → W.cell? (a.add (i * 4 + c)) = some u) ∧ I64 q.s := by
      intro i hi
      obtain ⟨cs', h1, h2⟩ := hel i (by omega)
      rw [Try.cells33] at h1
      obtain ⟨_, hlen, hcell⟩ := World.cells?_some h1
      obtain ⟨f0, f1, f2, f3, hu, ⟨t0, o0⟩, ⟨t1, o1⟩, ⟨t2, o2⟩, t3, o3⟩ := one_fields33
      obtain ⟨y0, y1, y2, y3, k, _, _, g0, g1, g2, g3⟩ := trod_struct4 hu h2
      obtain ⟨v0, v1, v2, v3, rfl⟩ := list_four hlen
      rw [t0, o0, c3] at g0
      rw [t1, o1, c3] at g1
      rw [t2, o2, c3] at g2
      rw [t3, o3, c2] at g3
      obtain ⟨p0, e0, _, _⟩ := DataW.trod_int Try.underlying3 g0
      obtain ⟨p1, e1, _, _⟩ := DataW.trod_int Try.underlying3 g1
      obtain ⟨p2, e2, _, w2⟩ := DataW.trod_int Try.underlying3 g2
      obtain ⟨p3, e3, _, _⟩ := DataW.trod_int Try.underlying2 g3
      simp at e0 e1 e2 e3
      subst e0 e1 e2 e3
      refine ⟨⟨p0, p1, p2, p3⟩, ?_, bounds_i64 w2⟩
      intro c u hu
      have hc : c < 4 := (List.getElem?_eq_some_iff.1 hu).1
      have := hcell c hc
      rw [add_add] at this
      rw [this]
      exact hu
    haveI : Inhabited Ask := ⟨⟨0, 0, 0, 0⟩⟩
    obtain ⟨X, hX⟩ := choose_lt hch
    refine ⟨some a, cap, (List.range len).map X, by simp, ?_, ?_, .inr ⟨_, _, by rw [hx], by simp⟩⟩
    · intro i x hi
      have hil : i < len := by have := (List.getElem?_eq_some_iff.1 hi).1; simpa using this
      obtain rfl : X i = x := by simpa [hil] using hi
      have h0 := (hX 0 (by omega)).1 0 _ rfl
      have ha := spot_none (show W.cell? a = some _ from h0)
      refine ⟨a.block, a.off, by rw [← ha], fun c u hu => ?_⟩
      have := (hX i hil).1 c u hu
      rw [ha, Addr.add_lit, ← Nat.add_assoc] at this
      exact this
    · intro x hx
      simp only [List.mem_map, List.mem_range] at hx
      obtain ⟨i, hi, rfl⟩ := hx
      exact (hX i hi).2

end Go.Proofs.Ytcfoebpbbmnleaa
