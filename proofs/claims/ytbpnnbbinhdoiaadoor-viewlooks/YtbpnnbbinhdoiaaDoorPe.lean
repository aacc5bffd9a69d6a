/-
  What is put is read back.
-/
import Derived.Test.YtbpnnbbinhdoiaaDoorPd
import Derived.Test.YtbpnnbbinhdoiaaDoorVf
namespace Go.Proofs.YtbpnnbbinhdoiaaDoor
set_option maxRecDepth 100000
open Go.RowKit


theorem ofB_app : ∀ (l : List Int) (n x : Int), ofB n (l ++ [x]) = wrap64 (ofB n l * 256 + x)
  | [], n, x => rfl
  | y :: l, n, x => by rw [List.cons_append, ofB, ofB_app l, ofB]
theorem ofB_be : ∀ (k : Nat) (m : Int), 0 ≤ m → m < 256 ^ k → m ≤ 9223372036854775807 → ofB 0 (be k m) = m
  | 0, m, h0, h1, _ => by
    rw [Int.pow_zero] at h1
    simp [be, ofB]
    omega
  | k + 1, m, h0, h1, h2 => by
    have hp : (256 : Int) ^ (k + 1) = 256 ^ k * 256 := Int.pow_succ ..
    rw [hp] at h1
    rw [be, ofB_app, ofB_be k (m / 256) (by omega) (by omega) (by omega)]
    unfold wrap64
    omega
theorem bitF_up : ∀ (l : List (Bool × Int)) (j : Nat), bitF (j + 1) l = 2 * bitF j l := by
  intro l
  induction l with
  | nil => intro j; rfl
  | cons m l ih =>
    intro j
    rw [bitF, bitF, ih, ih]
    have : 2 ^ (j + 1) = 2 * 2 ^ j := by rw [Nat.pow_succ]; omega
    split
    · rw [this]; omega
    · omega
theorem bit_at : ∀ (l : List (Bool × Int)) (i : Nat) (m : Bool × Int), l[i]? = some m → bitF 0 l / 2 ^ i % 2 = if m.1 then 1 else 0 := by
  intro l
  induction l with
  | nil => intro i m h; simp at h
  | cons x l ih =>
    intro i m h
    have hb : bitF 0 (x :: l) = (if x.1 then 1 else 0) + 2 * bitF 0 l := by rw [bitF, bitF_up]
    cases i with
    | zero =>
      simp at h
      subst h
      rw [hb, Nat.pow_zero, Nat.div_one]
      split <;> omega
    | succ i =>
      have := ih i m (by simpa using h)
      rw [hb, Nat.pow_succ, Nat.mul_comm (2 ^ i) 2, ← Nat.div_div_eq_div_mul]
      have h2 : ((if x.1 then 1 else 0) + 2 * bitF 0 l) / 2 = bitF 0 l := by split <;> omega
      rw [h2]
      exact this
theorem ep_at : ∀ (l : List (Bool × Int)) (z : List Int) (i : Nat) (m : Bool × Int), l[i]? = some m → ((epB l ++ z).drop (4 * i)).take 4 = be 4 m.2 := by
  intro l
  induction l with
  | nil => intro z i m h; simp at h
  | cons x l ih =>
    intro z i m h
    have he : epB (x :: l) = be 4 x.2 ++ epB l := rfl
    rw [he]
    cases i with
    | zero =>
      simp at h
      subst h
      rw [Nat.mul_zero, List.drop_zero, List.append_assoc, List.take_append_of_le_length (by rw [be_len]; exact Nat.le_refl _), List.take_of_length_le (by rw [be_len]; exact Nat.le_refl _)]
    | succ i =>
      rw [List.append_assoc, show 4 * (i + 1) = 4 + 4 * i by omega, ← List.drop_drop, List.drop_left' (be_len 4 _)]
      exact ih z i m (by simpa using h)
/-- A sector's view is the view whose it is. -/
theorem view_sec {v : Vw} (hm : v.may = true) (hok : v.Ok) (hq : ¬ v = fv) : viewV (secV v) = v := by
  have hnu := may_nu hm
  have hn0 : ¬ v.nu = 0 := by
    intro h
    unfold Vw.may at hm
    rw [if_pos h] at hm
    exact hq (by simpa using hm)
  have hfd : 0 ≤ v.fd ∧ v.fd < 8 := by
    unfold Vw.may at hm
    rw [if_neg hn0] at hm
    simp [Vw.isIn, isNo] at hm
    omega
  have h8 := hok.len
  have e1 : (secV v).getD 1 0 = if v.op then 1 else 0 := rfl
  have e2 : (secV v).getD 2 0 = v.fd % 256 := rfl
  have e3 : (secV v).getD 3 0 = ((bitF 0 v.ms : Nat) : Int) := rfl
  have e4 : ((secV v).drop 4).take 8 = be 8 v.nu := by
    show (be 8 v.nu ++ epB v.ms ++ zs 20).take 8 = _
    rw [List.append_assoc, List.take_append_of_le_length (by rw [be_len]; exact Nat.le_refl _), List.take_of_length_le (by rw [be_len]; exact Nat.le_refl _)]
  have e5 : ∀ i, ((secV v).drop (12 + 4 * i)) = (epB v.ms ++ zs 20).drop (4 * i) := by
    intro i
    rw [← List.drop_drop]
    refine congrArg (List.drop (4 * i)) ?_
    show ([193, (if v.op then 1 else 0), v.fd % 256, ((bitF 0 v.ms : Nat) : Int)] ++ be 8 v.nu ++ epB v.ms ++ zs 20).drop 12 = _
    rw [List.append_assoc _ (epB v.ms)]
    rw [List.drop_left' (by rw [List.length_append, be_len]; rfl)]
  unfold viewV
  rw [e1, e2, e4, ofB_be 8 v.nu hnu.1 (by have : (256 : Int) ^ 8 = 18446744073709551616 := by decide
                                          omega) (by omega)]
  have hms : (List.range 8).map (memV (secV v)) = v.ms := by
    apply List.ext_getElem?
    intro i
    by_cases hi : i < 8
    · obtain ⟨m, hmi⟩ : ∃ m, v.ms[i]? = some m := ⟨_, List.getElem?_eq_getElem (by omega)⟩
      have hmk := may_mem hm hok.len (n := (i : Int)) (by omega) (by omega)
      have hme : v.mem (i : Int) = m := by unfold Vw.mem; rw [Int.toNat_natCast, List.getD_eq_getElem?_getD, hmi]; rfl
      rw [hme] at hmk
      have he : 0 ≤ m.2 ∧ m.2 ≤ 2147483647 := by
        unfold memOk isEp at hmk
        split at hmk <;> simp at hmk <;> omega
      have hmv : memV (secV v) i = m := by
        unfold memV
        rw [e3, e5 i, ep_at v.ms (zs 20) i m hmi, ofB_be 4 m.2 he.1 (by have : (256 : Int) ^ 4 = 4294967296 := by decide
                                                                        omega) (by omega)]
        have hb := bit_at v.ms i m hmi
        refine Prod.ext ?_ rfl
        show decide (((bitF 0 v.ms : Nat) : Int) / 2 ^ i % 2 = 1) = m.1
        have hc : ((bitF 0 v.ms : Nat) : Int) / 2 ^ i % 2 = ((bitF 0 v.ms / 2 ^ i % 2 : Nat) : Int) := by
          rw [Int.natCast_emod, Int.natCast_ediv, Int.natCast_pow]; rfl
        rw [hc, hb]
        cases m.1 <;> rfl
      rw [hmi, ← hmv]
      simp [hi]
    · rw [List.getElem?_eq_none (by simp; omega), List.getElem?_eq_none (by omega)]
  rw [hms]
  cases v with
  | mk nu op fd ms =>
    simp only at *
    refine congr (congr (congr rfl ?_) ?_) rfl
    · cases op <;> rfl
    · omega
theorem sec_byts {v : Vw} (hok : v.Ok) : Byts 64 (secV v) := by
  refine ⟨by unfold secV; rw [secL_len, hok.len], ?_⟩
  intro x hx
  unfold secV secL at hx
  have hb : bitF 0 v.ms < 256 := by
    have := bitF_lt v.ms 0
    rw [hok.len] at this
    simp at this
    omega
  simp only [List.mem_append, List.mem_cons, List.mem_nil_iff, or_false] at hx
  rcases hx with ((hx | hx) | hx) | hx
  · rcases hx with rfl | rfl | rfl | rfl
    · omega
    · split <;> omega
    · omega
    · omega
  · exact be_byte _ _ x hx
  · unfold epB at hx
    simp only [List.mem_flatten, List.mem_map] at hx
    obtain ⟨l, ⟨m, _, rfl⟩, hx⟩ := hx
    exact be_byte _ _ x hx
  · exact (zs_byts 20).byte x hx
theorem put_byts {v : Vw} (hok : v.Ok) : Byts 64 (putV v).1 := by
  unfold putV
  split
  · exact zs_byts 64
  · split
    · exact zs_byts 64
    · exact sec_byts hok
theorem get_put {v : Vw} (hm : v.may = true) (hok : v.Ok) : getV (putV v).1 = (v, 0) := by
  unfold putV
  rw [if_neg (by rw [hm]; simp)]
  by_cases hq : v = fv
  · rw [if_pos hq]; unfold getV; rw [if_pos rfl, hq]
  · rw [if_neg hq]
    show getV (secV v) = _
    have hvs := view_sec hm hok hq
    unfold getV
    rw [if_neg (by intro h; have := congrArg (fun l => l.getD 0 0) h; simp [secV, secL, zs] at this), hvs]
    rw [if_pos]
    unfold putV
    rw [if_neg (by rw [hm]; simp), if_neg hq]

end Go.Proofs.YtbpnnbbinhdoiaaDoor
