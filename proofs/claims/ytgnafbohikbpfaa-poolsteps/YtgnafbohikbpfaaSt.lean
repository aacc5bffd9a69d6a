/-
  The clock: how many may go; who was used just now.
-/
import Derived.Test.YtgnafbohikbpfaaSr
namespace Go.Proofs.Ytgnafbohikbpfaa
set_option maxRecDepth 100000
set_option linter.unusedSimpArgs false
open Go.RowKit


variable {R P : Po} {T k : Nat}
def sumF (g : Nat → Nat) : Nat → Nat
  | 0 => 0
  | n + 1 => sumF g n + g n
theorem sumF_same {g h : Nat → Nat} : ∀ {n}, (∀ p, p < n → g p = h p) → sumF g n = sumF h n
  | 0, _ => rfl
  | n + 1, e => by rw [sumF, sumF, sumF_same (n := n) (fun p hp => e p (by omega)), e n (by omega)]
theorem sumF_add (g h : Nat → Nat) : ∀ n, sumF (fun p => g p + h p) n = sumF g n + sumF h n
  | 0 => rfl
  | n + 1 => by rw [sumF, sumF, sumF, sumF_add g h n]; omega
theorem sumF_zero : ∀ n, sumF (fun _ => 0) n = 0
  | 0 => rfl
  | n + 1 => by rw [sumF, sumF_zero n]
theorem sumF_ind (x : Nat) : ∀ n, sumF (fun p => if x = p then 1 else 0) n = if x < n then 1 else 0
  | 0 => rfl
  | n + 1 => by
    rw [sumF, sumF_ind x n]
    by_cases h : x = n
    · subst h; simp
    · by_cases h2 : x < n
      · rw [if_pos h2, if_neg h, if_pos (by omega)]
      · rw [if_neg h2, if_neg h, if_neg (by omega)]
theorem cnt_sum (f : Nat → Bool) : ∀ n, cntF f n = sumF (fun p => if f p = true then 1 else 0) n
  | 0 => rfl
  | n + 1 => by rw [cntF, sumF, cnt_sum f n]
theorem filter_len (f : Nat → Bool) : ∀ n, ((List.range n).filter f).length = cntF f n
  | 0 => rfl
  | n + 1 => by
    rw [List.range_succ, List.filter_append, List.length_append, filter_len f n, cntF]
    cases h : f n <;> simp [h]
theorem cd_iff (R : Po) (j : Nat) : R.cd j = true ↔ ¬ (R.S j).f.md = 0 ∧ (R.S j).pn = 0 := by
  unfold Po.cd Pl.out
  simp
/-- May a page go? -/
def freeB (R : Po) (p : Nat) : Bool := (lookP R p).2 && decide (pinsP R p = 0)
theorem cnt_pages (hk : R.Ok) : ∀ n, cntF R.ct n = sumF (fun p => cntF (R.cp (p : Int)) n) 16
  | 0 => by rw [cntF]; exact (sumF_zero 16).symm
  | n + 1 => by
    rw [cntF, cnt_pages hk n]
    show _ = sumF (fun p => cntF (R.cp (p : Int)) n + (if R.cp (p : Int) n = true then 1 else 0)) 16
    rw [sumF_add]
    congr 1
    cases hc : R.ct n with
    | false =>
      rw [if_neg (by simp)]
      symm
      rw [sumF_same (h := fun _ => 0) (fun p _ => by
        rw [if_neg]
        intro e
        have := cp_ct R _ n e
        rw [hc] at this; cases this)]
      exact sumF_zero 16
    | true =>
      rw [if_pos rfl]
      have h1 := (cd_iff R _).1 hc
      have hb : R.busy (R.vat n) := ⟨vat_lt' R hk.h n, h1.1⟩
      have h2 := hk.pg _ hb
      have h3 : sumF (fun p => if R.cp (p : Int) n = true then 1 else 0) 16 = sumF (fun p => if (R.S (R.vat n)).f.pg.toNat = p then 1 else 0) 16 := sumF_same (fun p _ => by
        unfold Po.ct at hc
        unfold Po.cp
        rw [hc, Bool.true_and]
        by_cases e : (R.S (R.vat n)).f.pg = (p : Int)
        · rw [if_pos (decide_eq_true e), if_pos (by omega)]
        · rw [if_neg (by simpa using e), if_neg (by omega)])
      rw [h3, sumF_ind, if_pos (by omega)]
theorem cp_free (hk : R.Ok) (p : Nat) : cntF (R.cp (p : Int)) R.m = if freeB R p = true then 1 else 0 := by
  have hcp : ∀ t, R.cp (p : Int) t = true → R.busy (R.vat t) ∧ (R.S (R.vat t)).pn = 0 ∧ (R.S (R.vat t)).f.pg = p := by
    intro t ht
    unfold Po.cp at ht
    rw [Bool.and_eq_true] at ht
    have h1 := (cd_iff R _).1 ht.1
    exact ⟨⟨vat_lt' R hk.h t, h1.1⟩, h1.2, of_decide_eq_true ht.2⟩
  unfold freeB lookP pinsP
  cases hf : R.find (p : Int) with
  | none =>
    simp only [Bool.false_and]
    rw [if_neg (by simp)]
    refine cntF_none (fun t _ => ?_)
    cases hq : R.cp (p : Int) t with
    | false => rfl
    | true =>
      obtain ⟨h1, _, h3⟩ := hcp t hq
      exact absurd h3 (Po.find_none hf h1)
  | some q =>
    obtain ⟨hb, hp⟩ := Po.find_some hf
    simp only [Bool.true_and]
    by_cases h0 : (R.S q).pn = 0
    · rw [if_pos (decide_eq_true h0)]
      obtain ⟨t, h1, h2⟩ := vat_inv R hk.h hb.1
      refine cntF_one h1 (fun i hi => ?_)
      by_cases e : i = t
      · subst e
        rw [decide_eq_true rfl]
        unfold Po.cp
        rw [h2, (cd_iff R q).2 ⟨hb.2, h0⟩, hp]
        simp
      · rw [decide_eq_false e]
        cases hq : R.cp (p : Int) i with
        | false => rfl
        | true =>
          obtain ⟨h3, _, h5⟩ := hcp i hq
          have := hk.un _ _ h3 hb (by rw [h5, hp])
          exact absurd (vat_inj R hk.h hi h1 (by rw [this, h2])) e
    · rw [if_neg (by simpa using h0)]
      refine cntF_none (fun t _ => ?_)
      cases hq : R.cp (p : Int) t with
      | false => rfl
      | true =>
        obtain ⟨h1, h2, h3⟩ := hcp t hq
        have := hk.un _ _ h1 hb (by rw [h3, hp])
        rw [this] at h2
        exact absurd h2 h0
/-- The pages that may go, as the law lists them. -/
def frP (R : Po) (n : Nat) : List Int := ((List.range n).filter (freeB R)).map (fun p : Nat => (p : Int))
theorem frP_len (hk : R.Ok) : (frP R 16).length = cntF R.ct R.m := by
  unfold frP
  rw [List.length_map, filter_len, cnt_pages hk R.m, cnt_sum]
  exact sumF_same (fun p _ => (cp_free hk p).symm)
theorem frP_len16 (R : Po) (n : Nat) : (frP R n).length ≤ n := by
  unfold frP
  rw [List.length_map]
  exact Nat.le_trans (List.length_filter_le _ _) (by simp)
theorem frP_yes {n : Nat} (h : freeB R n = true) : frP R (n + 1) = frP R n ++ [(n : Int)] := by
  unfold frP
  rw [List.range_succ, List.filter_append, List.map_append]
  simp [h]
theorem frP_no {n : Nat} (h : freeB R n = false) : frP R (n + 1) = frP R n := by
  unfold frP
  rw [List.range_succ, List.filter_append, List.map_append]
  simp [h]
theorem frP_mem {n : Nat} {x : Int} (h : x ∈ frP R n) : ∃ p : Nat, x = (p : Int) ∧ p < n ∧ freeB R p = true := by
  unfold frP at h
  obtain ⟨p, h1, rfl⟩ := List.mem_map.1 h
  rw [List.mem_filter, List.mem_range] at h1
  exact ⟨p, rfl, h1.1, h1.2⟩
/-- Twice each. -/
theorem came_two (hk : R.Ok) {T1 n : Nat} (hn : n = cntF R.ct R.m) (h : cntF R.ct T = cntF R.ct T1 + 2 * n) {p : Nat} (hp : freeB R p = true) {c : Nat} (hc : c + cntF (R.cp (p : Int)) T1 = cntF (R.cp (p : Int)) T) : c = 2 := by
  have h1 : cntF R.ct T = cntF R.ct (T1 + R.m + R.m) := by rw [cntF_per (ct_per R), cntF_per (ct_per R)]; omega
  have h2 := cntF_sub2 (cp_ct R (p : Int)) h1
  rw [h2, cntF_per (cp_per R p), cntF_per (cp_per R p), cp_free hk p, if_pos hp] at hc
  omega
theorem cntF_add (f : Nat → Bool) (a : Nat) : ∀ b, cntF f (a + b) = cntF f a + cntF (fun i => f (a + i)) b
  | 0 => rfl
  | b + 1 => by rw [← Nat.add_assoc, cntF_s, cntF_add f a b, cntF_s]; omega
/-- As many may go, wherever the hand stands. -/
theorem Hd.cnt (h : Hd R P T) : cntF P.ct P.m = cntF R.ct R.m := by
  have h1 : cntF P.ct P.m = cntF (fun i => R.ct (T + i)) R.m := by
    rw [h.m]
    exact cntF_same (fun i _ => by unfold Po.ct; rw [h.cd, h.vat])
  have h2 := cntF_add R.ct T R.m
  rw [cntF_per (ct_per R)] at h2
  omega
theorem vS_keep (P : Po) (j : Nat) : ∀ k, (∀ t, t < k → P.vat t ≠ j) → P.vS k j = P.S j
  | 0, _ => rfl
  | k + 1, h => by
    have ih := vS_keep P j k (fun t ht => h t (by omega))
    unfold Po.vS
    split
    · exact ih
    · rw [upd_ne _ _ (fun e => h k (by omega) e.symm)]; exact ih
theorem cp_find {p : Nat} (hp : freeB P p = true) : ∃ q, P.find (p : Int) = some q ∧ P.cd q = true := by
  unfold freeB lookP pinsP at hp
  cases hf : P.find (p : Int) with
  | none => rw [hf] at hp; simp at hp
  | some q =>
    rw [hf] at hp
    simp at hp
    exact ⟨q, rfl, (cd_iff P q).2 ⟨(Po.find_some hf).1.2, hp⟩⟩
theorem Hd.free (h : Hd R P T) (hk : P.Ok) {p : Nat} (hp : freeB R p = true) : freeB P p = true := by
  obtain ⟨q, h1, h2⟩ := cp_find hp
  obtain ⟨h3, h4⟩ := Po.find_some h1
  have hb : P.busy q := ⟨by rw [h.m]; exact h3.1, by rw [(h.f q).1]; exact h3.2⟩
  unfold freeB lookP pinsP
  cases hf : P.find (p : Int) with
  | none => exact absurd (by rw [(h.f q).1]; exact h4) (Po.find_none hf hb)
  | some q2 =>
    obtain ⟨h5, h6⟩ := Po.find_some hf
    have := hk.un _ _ h5 hb (by rw [h6, (h.f q).1, h4])
    subst this
    simp
    rw [(h.f q2).2]
    exact ((cd_iff R q2).1 h2).2
/-- What was used just now does not go next, if another may. -/
theorem get_vic (hk : P.Ok) (ha : ∀ j, j < P.m → P.cd j = true → (P.S j).us = false) {p : Nat} (hp : freeB P p = true) : (getP P (p : Int)).2.2 = 0 ∧ (getP P (p : Int)).1.vic.2.2 = true ∧ ((getP P (p : Int)).1.vic.2.1 ≠ (p : Int) ∨ cntF P.ct P.m = 1) := by
  obtain ⟨q, hf, hcd⟩ := cp_find hp
  obtain ⟨hb, hpg⟩ := Po.find_some hf
  unfold getP
  rw [hf]
  simp only
  obtain ⟨P', hP'⟩ : ∃ P', P' = P.up q ⟨(P.S q).f, (P.S q).pn, true⟩ := ⟨_, rfl⟩
  rw [← hP']
  have hm : P'.m = P.m := by rw [hP']; rfl
  have hS : ∀ j, P'.S j = if j = q then ⟨(P.S q).f, (P.S q).pn, true⟩ else P.S j := fun j => by rw [hP', P.up_S]
  have hv : ∀ k, P'.vat k = P.vat k := fun k => by rw [hP']; rfl
  have hpt : ∀ j, (P'.S j).f = (P.S j).f ∧ (P'.S j).pn = (P.S j).pn := fun j => by
    rw [hS j]
    split
    · rename_i e; rw [e]; exact ⟨rfl, rfl⟩
    · exact ⟨rfl, rfl⟩
  have hc : ∀ j, P'.cd j = P.cd j := fun j => by unfold Po.cd Pl.out; rw [(hpt j).1, (hpt j).2]
  obtain ⟨t, ht1, ht2⟩ := vat_inv P hk.h hb.1
  obtain ⟨k, h1, h2, h3⟩ := vic_yes P' (t := t) (by rw [hm]; exact ht1) (by rw [hv, ht2, hc]; exact hcd)
  refine ⟨by trivial, by rw [h3], ?_⟩
  by_cases e : (P'.vS k (P'.vat k)).f.pg = (p : Int)
  · right
    have hsk := h1
    rw [stop_eq, Bool.and_eq_true, hc, hv] at hsk
    have hkb : P.busy (P.vat k) := ⟨vat_lt' P hk.h k, ((cd_iff P _).1 hsk.1).1⟩
    rw [hv, (vS_f P' k _).1, (hpt _).1] at e
    have hkq : P.vat k = q := hk.un _ _ hkb hb (by rw [e, hpg])
    have hall : ∀ u, u < P.m → P.cd (P.vat u) = true → P.vat u = q := by
      intro u hu hcu
      rcases Classical.em (P.vat u = q) with h4 | h4
      · exact h4
      · exfalso
        have h5 : (P'.S (P.vat u)).us = false := by rw [hS, if_neg h4]; exact ha _ (vat_lt' P hk.h u) hcu
        have h6 : P'.stop u = true := by rw [stop_eq, hv, hc, hcu, vS_us2 P' u _ h5]; rfl
        have h7 : k ≤ u := by
          rcases Nat.lt_or_ge u k with h8 | h8
          · rw [h2 u h8] at h6; cases h6
          · exact h8
        have h9 : P'.vS k q = P'.S q := vS_keep P' q k (fun t3 ht3 e3 => by
          rw [hv, ← hkq] at e3
          have := vat_inj P hk.h (by omega) (by omega) e3
          omega)
        have h10 := hsk.2
        rw [hkq, h9, hS, if_pos rfl] at h10
        simp at h10
    refine cntF_one ht1 (fun i hi => ?_)
    by_cases e2 : i = t
    · subst e2
      rw [decide_eq_true rfl]
      unfold Po.ct
      rw [ht2]; exact hcd
    · rw [decide_eq_false e2]
      cases hq : P.ct i with
      | false => rfl
      | true => exact absurd (vat_inj P hk.h hi ht1 (by rw [hall i hi hq, ht2])) e2
  · left
    rw [h3]
    exact e
theorem no_cd (hk : R.Ok) (h : cntF R.ct R.m = 0) (t : Nat) : R.cd (R.vat t) = false := by
  obtain ⟨u, h1, h2⟩ := vat_inv R hk.h (vat_lt' R hk.h t)
  have := cntF_eq (f := R.ct) (a := 0) (b := R.m) (by rw [h]; exact Nat.zero_le _) u (by omega) h1
  unfold Po.ct at this
  rw [h2] at this
  exact this

end Go.Proofs.Ytgnafbohikbpfaa
