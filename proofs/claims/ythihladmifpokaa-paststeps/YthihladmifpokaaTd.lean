/-
  The document's Mark: where a mark lies; parts of a row; what a region makes.
-/
import Derived.Test.YthihladmifpokaaTc
namespace Go.Proofs.Ythihladmifpokaa
set_option maxRecDepth 100000
set_option linter.unusedSimpArgs false
open Go.RowKit

section
variable {ops : Array Oper} {rest : List Oper} {op o : Oper} {a : Act} {w : World} {K : Act → World → Prop} {Q : Exit → Act → World → Prop}
theorem o_rest28 (x y : Operand) (ho : o.op = .slice 28 x (some y) none none) (ao : Option Addr) (n c k : Nat) (hn : n ≤ c) (hno : ao = none → n = 0 ∧ c = 0) (hk : k ≤ n) (hx : a.eval x = .slice ao n c) (hy : a.eval y = .int .i64 k) (h : K (a.put o.dst (restV 3 ao n c k)) w) : o.wp Try.prog a w K Q := by
  unfold Oper.wp execOp
  simp only [ho, hx, hy, Option.map_none, Option.map_some]
  cases ao with
  | none =>
    obtain ⟨h1, h2⟩ := hno rfl
    subst h1 h2
    obtain rfl : k = 0 := by omega
    simp [go_sem]
    exact h
  | some ad =>
    obtain ⟨g, off, sp⟩ := ad
    unfold restV at h
    simp at h
    by_cases e : c = k
    · simp [e] at h
      subst e
      obtain rfl : n = c := by omega
      simp [go_sem]
      simp at h
      exact h
    · simp [e] at h
      simp [go_sem, hk, e]
      exact h
theorem o_head28 (x y : Operand) (ho : o.op = .slice 28 x none (some y) none) (ao : Option Addr) (n c k : Nat) (hn : n ≤ c) (hno : ao = none → n = 0 ∧ c = 0) (hk : k ≤ n) (hx : a.eval x = .slice ao n c) (hy : a.eval y = .int .i64 k) (h : K (a.put o.dst (.slice ao k c)) w) : o.wp Try.prog a w K Q := by
  unfold Oper.wp execOp
  simp only [ho, hx, hy, Option.map_none, Option.map_some]
  have hkc : k ≤ c := by omega
  cases ao with
  | none =>
    obtain ⟨h1, h2⟩ := hno rfl
    subst h1 h2
    obtain rfl : k = 0 := by omega
    simp [go_sem]
    exact h
  | some ad =>
    obtain ⟨g, off, sp⟩ := ad
    simp [go_sem, hkc]
    exact h
end
theorem Rw.head {e z : Nat} {W : World} {ao : Option Addr} {n c : Nat} {xs : List Value} (h : Rw W e z (.slice ao n c) n xs) (k : Nat) (hk : k ≤ n) : Rw W e z (.slice ao k c) k (xs.take (k * z)) := by
  have hm : k * z ≤ n * z := Nat.mul_le_mul_right _ hk
  refine ⟨by rw [List.length_take, h.len]; omega, ?_⟩
  rcases h.lie with ⟨h1, h2⟩ | ⟨g, off, cap, cur, h1, h2, h3, h4, h5, h6⟩
  · cases h1
    exact .inl ⟨by rw [show k = 0 by omega], by omega⟩
  · cases h1
    refine .inr ⟨g, off, c, cur, rfl, h2, by omega, h4, h5, fun j u hj => ?_⟩
    rw [List.getElem?_take] at hj
    split at hj
    · exact h6 j u hj
    · cases hj
theorem mkC_take (L : List Mk) (k : Nat) : (mkC L).take (k * 3) = mkC (L.take k) := by
  have e : mkC L = mkC (L.take k) ++ mkC (L.drop k) := by rw [← mkC_app, List.take_append_drop]
  by_cases hk : k ≤ L.length
  · rw [e, List.take_left' (by rw [mkC_len, List.length_take]; omega)]
  · rw [List.take_of_length_le (by rw [mkC_len]; omega), List.take_of_length_le (by omega)]
theorem mkC_drop (L : List Mk) (k : Nat) (hk : k ≤ L.length) : (mkC L).drop (k * 3) = mkC (L.drop k) := by
  have e : mkC L = mkC (L.take k) ++ mkC (L.drop k) := by rw [← mkC_app, List.take_append_drop]
  rw [e, List.drop_left' (by rw [mkC_len, List.length_take]; omega)]
theorem Ms.head {W : World} {ao : Option Addr} {c : Nat} {L : List Mk} (h : Ms W (.slice ao L.length c) L) (k : Nat) (hk : k ≤ L.length) : Ms W (.slice ao k c) (L.take k) := by
  have h1 := Rw.head h k hk
  rw [mkC_take] at h1
  show Rw _ _ _ _ _ _
  rw [List.length_take, Nat.min_eq_left hk]
  exact h1
theorem Ms.tail {W : World} {ao : Option Addr} {c : Nat} {L : List Mk} (h : Ms W (.slice ao L.length c) L) (k : Nat) (hk : k ≤ L.length) : Ms W (restV 3 ao L.length c k) (L.drop k) := by
  have h1 := Rw.rest h k hk
  rw [mkC_drop L k hk] at h1
  show Rw _ _ _ _ _ _
  rw [List.length_drop]
  exact h1
/-- Where the first mark lies that is not ahead of this one. -/
def posM (x : Mk) (L : List Mk) : Nat := (L.takeWhile (fun y => lessB y x)).length
theorem posM_le (x : Mk) : ∀ L : List Mk, posM x L ≤ L.length
  | [] => Nat.le_refl _
  | l :: L => by
    have := posM_le x L
    unfold posM at *
    rw [List.takeWhile_cons]
    split <;> simp <;> omega
theorem posM_lt {x : Mk} : ∀ {L : List Mk} {k : Nat} {m : Mk}, k < posM x L → L[k]? = some m → lessB m x = true
  | l :: L, k, m, h, hm => by
    unfold posM at h
    rw [List.takeWhile_cons] at h
    cases hl : lessB l x with
    | false => rw [hl] at h; simp at h
    | true =>
      rw [hl] at h
      cases k with
      | zero => simp at hm; subst hm; exact hl
      | succ k => exact posM_lt (L := L) (k := k) (by unfold posM; simp at h; exact h) (by simpa using hm)
theorem posM_at {x : Mk} : ∀ {L : List Mk} {m : Mk}, L[posM x L]? = some m → lessB m x = false
  | l :: L, m, hm => by
    unfold posM at hm
    rw [List.takeWhile_cons] at hm
    cases hl : lessB l x with
    | false => rw [hl] at hm; simp at hm; subst hm; exact hl
    | true =>
      rw [hl] at hm
      exact posM_at (L := L) (by unfold posM; simpa using hm)
def insM (x : Mk) (L : List Mk) : List Mk := L.take (posM x L) ++ [x] ++ L.drop (posM x L)
def rputM (x : Mk) (L : List Mk) : Int × List Mk := if L.length = 256 then (5, L) else (0, insM x L)
def rmarkP (p s f : Int) (L : List Mk) : Int × List Mk :=
  if okM p s f = true then
    match L[posM ⟨p, s, f⟩ L]? with
    | some z => if z.p = p ∧ z.s = s then (0, L.set (posM ⟨p, s, f⟩ L) ⟨z.p, z.s, min z.f f⟩) else rputM ⟨p, s, f⟩ L
    | none => rputM ⟨p, s, f⟩ L
  else (2, L)
/-- A mark's First is set in a row. -/
theorem Ms.put {W W' : World} {g off c : Nat} {L : List Mk} {k : Nat} {z : Mk} {f : Int} {cs : List Value} (h : Ms W (.slice (some ⟨g, off, none⟩) L.length c) L) (hz : L[k]? = some z) (hB : Blk W g 54 cs) (hB' : Blk W' g 54 (cs.set (off + k * 3 + 2) (.int .i64 f))) : Ms W' (.slice (some ⟨g, off, none⟩) L.length c) (L.set k ⟨z.p, z.s, f⟩) := by
  have hk := (List.getElem?_eq_some_iff.1 hz).1
  rcases h.lie with ⟨h1, _⟩ | ⟨g', off', cap, cur, h1, h2, h3, h4, h5, h6⟩
  · cases h1
  · cases h1
    unfold Blk at hB
    rw [h2] at hB
    obtain rfl : cur = cs.toArray := by injection hB with hB; injection hB
    refine ⟨by rw [mkC_len], .inr ⟨g, off, c, _, by rw [List.length_set], hB', by rw [List.length_set]; exact h3, h4, by simpa using h5, fun j u hj => ?_⟩⟩
    have hj2 : j < (L.set k ⟨z.p, z.s, f⟩).length * 3 := by have := (List.getElem?_eq_some_iff.1 hj).1; rwa [mkC_len] at this
    rw [List.length_set] at hj2
    have hi : j / 3 < L.length := by omega
    have e3 : j / 3 * 3 + j % 3 = j := by omega
    have hset : (L.set k ⟨z.p, z.s, f⟩)[j / 3]? = if k = j / 3 then some ⟨z.p, z.s, f⟩ else L[j / 3]? := by
      rw [List.getElem?_set]
      by_cases e : k = j / 3 <;> simp [e, hi]
    by_cases e : k = j / 3
    · rw [if_pos e] at hset
      have h7 := mkC_at hset (j % 3) (by omega)
      rw [e3, hj] at h7
      have h8 := mkC_at hz (j % 3) (by omega)
      rw [e, e3] at h8
      rw [List.getElem?_toArray, List.getElem?_set]
      have hcur : off + j < cs.length := by have := h5; simp at this; omega
      by_cases e2 : j % 3 = 2
      · have e4 : off + k * 3 + 2 = off + j := by omega
        rw [if_pos e4, if_pos (by omega)]
        rw [e2] at h7
        exact h7.symm
      · have e4 : ¬ off + k * 3 + 2 = off + j := by omega
        rw [if_neg e4]
        have h9 := h6 j u
        rw [List.getElem?_toArray] at h9
        refine h9 ?_
        rw [h8, h7]
        have h10 : j % 3 = 0 ∨ j % 3 = 1 := by omega
        rcases h10 with h10 | h10 <;> rw [h10] <;> rfl
    · rw [if_neg e] at hset
      obtain ⟨m, hm⟩ : ∃ m, L[j / 3]? = some m := ⟨_, List.getElem?_eq_getElem hi⟩
      rw [hm] at hset
      have h7 := mkC_at hset (j % 3) (by omega)
      rw [e3, hj] at h7
      have h8 := mkC_at hm (j % 3) (by omega)
      rw [e3] at h8
      have e4 : ¬ off + k * 3 + 2 = off + j := by omega
      rw [List.getElem?_toArray, List.getElem?_set, if_neg e4]
      have h9 := h6 j u
      rw [List.getElem?_toArray] at h9
      exact h9 (by rw [h8, h7])
theorem Ms.cs {W : World} {g off c n : Nat} {L : List Mk} (h : Ms W (.slice (some ⟨g, off, none⟩) n c) L) : ∃ cs : List Value, Blk W g 54 cs ∧ off + c * 3 ≤ cs.length ∧ L.length ≤ c := by
  rcases h.lie with ⟨h1, _⟩ | ⟨g', off', cap, cur, h1, h2, h3, h4, h5, h6⟩
  · cases h1
  · cases h1
    exact ⟨cur.toList, by unfold Blk; rw [h2], by simpa using h5, h3⟩

end Go.Proofs.Ythihladmifpokaa
