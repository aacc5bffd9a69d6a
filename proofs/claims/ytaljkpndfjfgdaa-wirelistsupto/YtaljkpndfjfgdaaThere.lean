/-
  Plain facts: a form is read as what was written, and what is read has just that form.
-/
import Derived.Test.YtaljkpndfjfgdaaDec
import Derived.Test.YtaljkpndfjfgdaaJoin
namespace Go.Proofs.Ytaljkpndfjfgdaa
open Go.RowKit

theorem dec_num : ∀ (x : Nat) (i acc : Nat) (r : List Int), (0 < i → 0 < x) → x * 128 ^ i < 18446744073709551616 →
    dec i acc (num x ++ r) = some (acc + x * 128 ^ i, i + (num x).length) := by
  intro x
  induction x using Nat.strongRecOn with
  | _ x ih =>
    intro i acc r hi hx
    by_cases h : x < 128
    · rw [num_lt h, List.singleton_append, dec, if_neg (by omega), if_neg, if_pos (by omega)]
      · simp
      · rintro ⟨rfl, h1⟩
        have e : (128 : Nat) ^ 9 = 9223372036854775808 := by decide
        rw [e] at hx; omega
    · rw [num_ge h, List.cons_append, dec, if_neg (by omega), if_neg, if_neg (by omega)]
      · have e1 : (128 + (x : Int) % 128).toNat - 128 = x % 128 := by omega
        have e2 : x / 128 * 128 ^ (i + 1) + x % 128 * 128 ^ i = x * 128 ^ i := by
          rw [Nat.pow_succ, Nat.mul_comm (128 ^ i) 128, ← Nat.mul_assoc, ← Nat.add_mul, show x / 128 * 128 + x % 128 = x by omega]
        rw [e1, ih (x / 128) (by omega) (i + 1) _ r (by omega) (by omega)]
        simp only [List.length_cons, Option.some.injEq, Prod.mk.injEq]
        omega
      · rintro ⟨rfl, h1⟩
        have e : (128 : Nat) ^ 9 = 9223372036854775808 := by decide
        rw [e] at hx; omega

theorem rdNum_num (n : Nat) (r : List Int) (hn : n < 18446744073709551616) : rdNum (num n ++ r) = (n, 0, r) := by
  have h := dec_num n 0 0 r (by omega) (by simpa using hn)
  rw [rdNum_some h]
  simp

theorem unf_fold (s : Int) : unf (fold s) = s := by
  unfold unf fold
  by_cases h : s < 0
  · rw [if_pos h]; split <;> omega
  · rw [if_neg h]; split <;> omega

theorem rdCount_num (n : Nat) (most : Int) (r : List Int) (hn : n < 18446744073709551616) (h : (n : Int) ≤ most) : rdCount most (num n ++ r) = (n, 0, r) := by
  have h1 := dec_num n 0 0 r (by omega) (by simpa using hn)
  unfold rdCount
  rw [if_neg (by omega), h1]
  simp only [Nat.pow_zero, Nat.mul_one, Nat.zero_add]
  rw [if_neg (by omega)]
  simp

theorem rdBytes_num (l r : List Int) (most : Int) (hn : l.length < 18446744073709551616) (h : (l.length : Int) ≤ most) : rdBytes most (num l.length ++ (l ++ r)) = (l, 0, r) := by
  unfold rdBytes
  rw [rdCount_num l.length most (l ++ r) hn h]
  simp

/-- What is read has just the form that was read. -/
theorem dec_inv : ∀ (l : List Int) (i acc v k : Nat), Byt l → dec i acc l = some (v, k) →
    ∃ x, v = acc + x * 128 ^ i ∧ k = i + (num x).length ∧ (∃ r, l = num x ++ r) ∧ (0 < i → 0 < x) := by
  intro l
  induction l with
  | nil => intro i acc v k _ h; simp [dec] at h
  | cons b r ih =>
    intro i acc v k hby h
    obtain ⟨hb0, hb1⟩ := hby b (by simp)
    rw [dec] at h
    by_cases hA : 0 < i ∧ b = 0
    · rw [if_pos hA] at h; simp at h
    rw [if_neg hA] at h
    by_cases hB : i = 9 ∧ 1 < b
    · rw [if_pos hB] at h; simp at h
    rw [if_neg hB] at h
    by_cases hC : b < 128
    · rw [if_pos hC] at h
      simp only [Option.some.injEq, Prod.mk.injEq] at h
      have e : num b.toNat = [b] := by rw [num_lt (by omega)]; simp; omega
      exact ⟨b.toNat, h.1.symm, by rw [e]; simpa using h.2.symm, ⟨r, by rw [e]; rfl⟩, by omega⟩
    · rw [if_neg hC] at h
      obtain ⟨x, h1, h2, ⟨r', h3⟩, h4⟩ := ih (i + 1) _ v k (fun y hy => hby y (by simp [hy])) h
      have hx := h4 (by omega)
      have e : num (128 * x + (b.toNat - 128)) = b :: num x := by
        rw [num_ge (by omega)]
        have e1 : (128 + ((128 * x + (b.toNat - 128) : Nat) : Int) % 128) = b := by omega
        have e2 : (128 * x + (b.toNat - 128)) / 128 = x := by omega
        rw [e1, e2]
      refine ⟨128 * x + (b.toNat - 128), ?_, ?_, ⟨r', ?_⟩, by omega⟩
      · rw [h1, Nat.pow_succ, Nat.mul_comm (128 ^ i) 128, ← Nat.mul_assoc, Nat.add_assoc, ← Nat.add_mul, show b.toNat - 128 + x * 128 = 128 * x + (b.toNat - 128) by omega]
      · rw [e, List.length_cons]; omega
      · rw [e, h3]; rfl

/-- The bytes that were read, when they were read, are the beginning of what was there. -/
theorem rdBytes_inv (l : List Int) (most : Int) (hby : Byt l) (h : (rdBytes most l).2.1 = 0) :
    ∃ n, (rdBytes most l).1.length = n ∧ l = num n ++ ((rdBytes most l).1 ++ (rdBytes most l).2.2) ∧ (n : Int) ≤ most := by
  unfold rdBytes at h ⊢
  by_cases h1 : (rdCount most l).2.1 = 0
  · rw [if_neg (by simpa using h1)] at h ⊢
    by_cases h2 : (rdCount most l).2.2.length < (rdCount most l).1
    · rw [if_pos h2] at h; simp at h
    · rw [if_neg h2]
      unfold rdCount at h1 h2 ⊢
      by_cases h0 : most < 0
      · rw [if_pos h0] at h1; simp at h1
      rw [if_neg h0] at h1 h2 ⊢
      cases hd : dec 0 0 l with
      | none => rw [hd] at h1; simp at h1
      | some p =>
        obtain ⟨v, k⟩ := p
        rw [hd] at h1 h2
        simp only at h1 h2 ⊢
        by_cases h3 : most < (v : Int)
        · rw [if_pos h3] at h1; simp at h1
        rw [if_neg h3] at h2 ⊢
        obtain ⟨x, e1, e2, ⟨r, e3⟩, _⟩ := dec_inv l 0 0 v k hby hd
        simp at e1 e2 h2
        subst e1
        refine ⟨v, ?_, ?_, by omega⟩
        · simp only [List.length_take, List.length_drop]; omega
        · simp only [List.take_append_drop]
          have e4 : l.drop k = r := by rw [e3, e2]; simp
          rw [e4]; exact e3
  · rw [if_pos (by simpa using h1)] at h; exact absurd h h1

theorem rdBytes_err (l : List Int) (most : Int) (hm : 0 ≤ most) (h : (rdBytes most l).2.1 ≠ 0) : ((rdBytes most l).2.1 = 3 ∨ (rdBytes most l).2.1 = 4) ∧ (rdBytes most l).2.2 = l := by
  unfold rdBytes at h ⊢
  by_cases h1 : (rdCount most l).2.1 = 0
  · rw [if_neg (by simpa using h1)] at h ⊢
    by_cases h2 : (rdCount most l).2.2.length < (rdCount most l).1
    · rw [if_pos h2]; simp
    · rw [if_neg h2] at h; simp at h
  · rw [if_pos (by simpa using h1)]
    refine ⟨?_, rfl⟩
    simp only
    unfold rdCount at h1 ⊢
    rw [if_neg (by omega)] at h1 ⊢
    cases hd : dec 0 0 l with
    | none => simp
    | some p =>
      obtain ⟨v, k⟩ := p
      rw [hd] at h1
      simp only at h1 ⊢
      by_cases h3 : most < (v : Int)
      · rw [if_pos h3]; simp
      · rw [if_neg h3] at h1; simp at h1

/-- A form of bytes that is cut short by one is refused. -/
theorem rdBytes_short (y : List Int) (most : Int) (hn : y.length < 18446744073709551616) (hm : (y.length : Int) ≤ most) :
    (rdBytes most ((num y.length ++ y).take ((num y.length ++ y).length - 1))).2.1 = 4 := by
  by_cases h : y = []
  · subst h
    have : num ([] : List Int).length = [0] := num_lt (by simp)
    rw [this]
    simp only [List.append_nil, List.length_singleton, Nat.sub_self, List.take_zero]
    have e : rdCount most [] = (0, 4, []) := by unfold rdCount; rw [if_neg (by simp at hm; omega)]; rfl
    unfold rdBytes; rw [e]; simp
  · have hp : 0 < y.length := List.length_pos_iff.2 h
    have e1 : (num y.length ++ y).take ((num y.length ++ y).length - 1) = num y.length ++ y.take (y.length - 1) := by
      rw [List.length_append, List.take_append]
      have : (num y.length).length + y.length - 1 - (num y.length).length = y.length - 1 := by omega
      rw [this, List.take_of_length_le (by omega)]
    rw [e1]
    unfold rdBytes
    rw [rdCount_num y.length most _ hn hm]
    have h2 : (y.take (y.length - 1)).length < y.length := by simp; omega
    simp only [ne_eq, not_true_eq_false, if_false, if_pos h2]

theorem byt_num (n : Nat) : Byt (num n) := fun x hx => num_byte n x hx
theorem byt_app {a b : List Int} (ha : Byt a) (hb : Byt b) : Byt (a ++ b) := by
  intro x hx
  rcases List.mem_append.1 hx with h | h
  · exact ha x h
  · exact hb x h
theorem byt_flag (f : Bool) : Byt [if f then 1 else 0] := by
  intro x hx
  simp at hx; subst hx
  cases f <;> simp
theorem byt_take {l : List Int} (h : Byt l) (n : Nat) : Byt (l.take n) := fun x hx => h x (List.mem_of_mem_take hx)
theorem byt_drop {l : List Int} (h : Byt l) (n : Nat) : Byt (l.drop n) := fun x hx => h x (List.mem_of_mem_drop hx)

theorem rdFlag_flag (f : Bool) : rdFlag [if f then 1 else 0] = (f, 0, []) := by cases f <;> rfl

end Go.Proofs.Ytaljkpndfjfgdaa
