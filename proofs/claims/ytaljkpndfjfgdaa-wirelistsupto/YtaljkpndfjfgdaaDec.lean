/-
  Plain facts on reading a number's digits.
-/
import Derived.Test.YtaljkpndfjfgdaaPlain
import Derived.Laws.BitsAllLaws
namespace Go.Proofs.Ytaljkpndfjfgdaa
open Go.RowKit

def Byt (l : List Int) : Prop := ∀ x ∈ l, 0 ≤ x ∧ x < 256

/-- The number that stands at the beginning of these bytes, and how many bytes it takes; none: there is none. -/
def dec (i acc : Nat) : List Int → Option (Nat × Nat)
  | [] => none
  | b :: r => if 0 < i ∧ b = 0 then none else if i = 9 ∧ 1 < b then none else
      if b < 128 then some (acc + b.toNat * 128 ^ i, i + 1) else dec (i + 1) (acc + (b.toNat - 128) * 128 ^ i) r

/-- What reading a number tells: the number, the error's number, the bytes that are left. -/
def rdNum (l : List Int) : Nat × Int × List Int :=
  match dec 0 0 l with
  | some (n, k) => (n, 0, l.drop k)
  | none => (0, 4, l)

theorem rdNum_some {l : List Int} {n k : Nat} (h : dec 0 0 l = some (n, k)) : rdNum l = (n, 0, l.drop k) := by simp [rdNum, h]
theorem rdNum_none {l : List Int} (h : dec 0 0 l = none) : rdNum l = (0, 4, l) := by simp [rdNum, h]

theorem pow7 (k : Nat) : (2 : Nat) ^ (7 * k) = 128 ^ k := by rw [Nat.pow_mul]

theorem pow128_le (k : Nat) (h : k ≤ 9) : (128 : Nat) ^ k ≤ 9223372036854775808 := by
  have h9 : (128 : Nat) ^ 9 = 9223372036854775808 := by decide
  rw [← h9]; exact Nat.pow_le_pow_right (by decide) h

theorem pow128_le8 (k : Nat) (h : k ≤ 8) : (128 : Nat) ^ k ≤ 72057594037927936 := by
  have h8 : (128 : Nat) ^ 8 = 72057594037927936 := by decide
  rw [← h8]; exact Nat.pow_le_pow_right (by decide) h

theorem dig_lt (k x : Nat) (hk : k ≤ 9) (hx : x < 128) (h9 : 9 ≤ k → x ≤ 1) : x * 128 ^ k < 18446744073709551616 := by
  by_cases h : k ≤ 8
  · have := pow128_le8 k h
    calc x * 128 ^ k ≤ 127 * 72057594037927936 := Nat.mul_le_mul (by omega) this
      _ < 18446744073709551616 := by decide
  · have := pow128_le k hk
    calc x * 128 ^ k ≤ 1 * 9223372036854775808 := Nat.mul_le_mul (h9 (by omega)) this
      _ < 18446744073709551616 := by decide

/-- A digit laid above those that are there. -/
theorem or_dig (acc k x : Nat) (ha : acc < 128 ^ k) (hk : k ≤ 9) (hx : x < 128) (h9 : 9 ≤ k → x ≤ 1) :
    bits .or .u64 (acc : Int) (IntKind.u64.wrap ((x : Int) * 2 ^ (7 * k))) = ((acc + x * 128 ^ k : Nat) : Int) := by
  have hd := dig_lt k x hk hx h9
  have hp := pow128_le k hk
  have e : ((x : Int) * 2 ^ (7 * k)) = ((x * 128 ^ k : Nat) : Int) := by rw [← pow7]; simp
  rw [IntKind.wrap_u64, e, Int.emod_eq_of_lt (by omega) (by omega), u64_or_nat _ _ (by omega) hd]
  have h : acc ||| x * 128 ^ k = acc + x * 128 ^ k := by
    rw [← pow7, Nat.mul_comm x, Nat.or_comm, ← Nat.two_pow_add_eq_or_of_lt (by rw [pow7]; exact ha)]; omega
  rw [h]

theorem drop_cons {l : List Int} {k : Nat} {x : Int} (h : l[k]? = some x) : l.drop k = x :: l.drop (k + 1) := by
  obtain ⟨hk, hx⟩ := List.getElem?_eq_some_iff.1 h
  rw [List.drop_eq_getElem_cons hk, hx]

theorem dec_bad0 {l : List Int} {k acc : Nat} {x : Int} (h : l[k]? = some x) (hk : 0 < k) (hx : x = 0) : dec k acc (l.drop k) = none := by
  rw [drop_cons h]; unfold dec; rw [if_pos ⟨hk, hx⟩]
theorem dec_bad9 {l : List Int} {k acc : Nat} {x : Int} (h : l[k]? = some x) (hk : k = 9) (hx : 1 < x) : dec k acc (l.drop k) = none := by
  rw [drop_cons h]; unfold dec; rw [if_neg (by omega), if_pos ⟨hk, hx⟩]
theorem dec_last {l : List Int} {k acc : Nat} {x : Int} (h : l[k]? = some x) (h0 : ¬ (0 < k ∧ x = 0)) (h9 : ¬ (k = 9 ∧ 1 < x)) (hx : x < 128) : dec k acc (l.drop k) = some (acc + x.toNat * 128 ^ k, k + 1) := by
  rw [drop_cons h]; unfold dec; rw [if_neg h0, if_neg h9, if_pos hx]
theorem dec_more {l : List Int} {k acc : Nat} {x : Int} (h : l[k]? = some x) (h0 : ¬ (0 < k ∧ x = 0)) (h9 : ¬ (k = 9 ∧ 1 < x)) (hx : ¬ x < 128) : dec k acc (l.drop k) = dec (k + 1) (acc + (x.toNat - 128) * 128 ^ k) (l.drop (k + 1)) := by
  rw [drop_cons h]; rw [dec, if_neg h0, if_neg h9, if_neg hx]
theorem dec_end {l : List Int} {k acc : Nat} (h : l.length ≤ k) : dec k acc (l.drop k) = none := by
  rw [List.drop_of_length_le h]; rfl

theorem acc_lt (acc k d : Nat) (ha : acc < 128 ^ k) (hd : d < 128) : acc + d * 128 ^ k < 128 ^ (k + 1) := by
  rw [Nat.pow_succ]
  have : d * 128 ^ k ≤ 127 * 128 ^ k := Nat.mul_le_mul_right _ (by omega)
  omega

/-- What End tells of what is left. -/
def endE (l : List Int) : Int := if l = [] then 0 else 4

/-- A signed number out of its form's number. -/
def unf (n : Nat) : Int := if n % 2 = 1 then -((n / 2 : Nat) : Int) - 1 else ((n / 2 : Nat) : Int)

/-- What reading a flag tells. -/
def rdFlag : List Int → Bool × Int × List Int
  | [] => (false, 4, [])
  | x :: r => if 1 < x then (false, 4, x :: r) else (x == 1, 0, r)

/-- What reading a count tells, and where the reader is then (also beside an error). -/
def rdCount (most : Int) (l : List Int) : Nat × Int × List Int :=
  if most < 0 then (0, 2, l) else
  match dec 0 0 l with
  | none => (0, 4, l)
  | some (n, k) => if most < (n : Int) then (0, 3, l.drop k) else (n, 0, l.drop k)

/-- What reading bytes tells. -/
def rdBytes (most : Int) (l : List Int) : List Int × Int × List Int :=
  if (rdCount most l).2.1 ≠ 0 then ([], (rdCount most l).2.1, l) else
  if (rdCount most l).2.2.length < (rdCount most l).1 then ([], 4, l) else
  ((rdCount most l).2.2.take (rdCount most l).1, 0, (rdCount most l).2.2.drop (rdCount most l).1)

theorem dec_lt {l : List Int} : ∀ {i acc n k : Nat}, Byt l → i ≤ 9 → acc < 128 ^ i → dec i acc l = some (n, k) → n < 18446744073709551616 := by
  induction l with
  | nil => intro i acc n k _ _ _ h; simp [dec] at h
  | cons x r ih =>
    intro i acc n k hb hi ha h
    obtain ⟨h0, h1⟩ := hb x (by simp)
    unfold dec at h
    by_cases hA : 0 < i ∧ x = 0
    · rw [if_pos hA] at h; simp at h
    rw [if_neg hA] at h
    by_cases hB : i = 9 ∧ 1 < x
    · rw [if_pos hB] at h; simp at h
    rw [if_neg hB] at h
    by_cases hC : x < 128
    · rw [if_pos hC] at h
      simp only [Option.some.injEq, Prod.mk.injEq] at h
      have hp := pow128_le i hi
      by_cases h8 : i ≤ 8
      · have := acc_lt acc i x.toNat ha (by omega)
        have h9 := pow128_le (i + 1) (by omega)
        omega
      · have : x.toNat * 128 ^ i ≤ 1 * 9223372036854775808 := Nat.mul_le_mul (by omega) hp
        omega
    · rw [if_neg hC] at h
      exact ih (fun y hy => hb y (by simp [hy])) (by omega) (acc_lt acc i (x.toNat - 128) ha (by omega)) h

theorem rdNum_lt {l : List Int} (h : Byt l) : (rdNum l).1 < 18446744073709551616 := by
  unfold rdNum
  cases hd : dec 0 0 l with
  | none => simp
  | some p => exact dec_lt h (by omega) (by simp) hd

end Go.Proofs.Ytaljkpndfjfgdaa
