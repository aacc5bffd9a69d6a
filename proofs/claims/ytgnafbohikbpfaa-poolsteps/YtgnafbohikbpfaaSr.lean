/-
  The clock: victims over and over.
-/
import Derived.Test.YtgnafbohikbpfaaRj
namespace Go.Proofs.Ytgnafbohikbpfaa
set_option maxRecDepth 100000
set_option linter.unusedSimpArgs false
open Go.RowKit


/-- How many of the first are so. -/
def cntF (f : Nat → Bool) : Nat → Nat
  | 0 => 0
  | n + 1 => cntF f n + (if f n = true then 1 else 0)
theorem cntF_s (f : Nat → Bool) (n : Nat) : cntF f (n + 1) = cntF f n + (if f n = true then 1 else 0) := rfl
theorem cntF_mono (f : Nat → Bool) {a b : Nat} (h : a ≤ b) : cntF f a ≤ cntF f b := by
  induction b with
  | zero => obtain rfl : a = 0 := by omega
            exact Nat.le_refl _
  | succ b ih =>
    by_cases e : a = b + 1
    · rw [e]; exact Nat.le_refl _
    · have := ih (by omega)
      rw [cntF_s]
      omega
theorem cntF_per {f : Nat → Bool} {m : Nat} (hp : ∀ t, f (t + m) = f t) : ∀ a, cntF f (a + m) = cntF f a + cntF f m
  | 0 => by rw [Nat.zero_add]; simp [cntF]
  | a + 1 => by
    rw [show a + 1 + m = (a + m) + 1 by omega]
    rw [cntF_s, cntF_s, cntF_per hp a, hp a]
    omega
theorem cntF_same {f g : Nat → Bool} : ∀ {n}, (∀ i, i < n → f i = g i) → cntF f n = cntF g n
  | 0, _ => rfl
  | n + 1, h => by rw [cntF, cntF, cntF_same (n := n) (fun i hi => h i (by omega)), h n (by omega)]
theorem cntF_none {f : Nat → Bool} : ∀ {n}, (∀ i, i < n → f i = false) → cntF f n = 0
  | 0, _ => rfl
  | n + 1, h => by rw [cntF, cntF_none (n := n) (fun i hi => h i (by omega)), h n (by omega)]; rfl
theorem cntF_one {f : Nat → Bool} {k : Nat} : ∀ {n}, k < n → (∀ i, i < n → f i = decide (i = k)) → cntF f n = 1
  | 0, h0, _ => by omega
  | n + 1, h0, h => by
    rw [cntF]
    by_cases e : k = n
    · subst e
      rw [cntF_none (n := k) (fun i hi => by rw [h i (by omega)]; simp; omega), h k (by omega)]
      simp
    · rw [cntF_one (n := n) (by omega) (fun i hi => h i (by omega)), h n (by omega)]
      simp
      omega
theorem cntF_eq {f : Nat → Bool} {a b : Nat} (h : cntF f b ≤ cntF f a) : ∀ t, a ≤ t → t < b → f t = false := by
  intro t h1 h2
  have h3 := cntF_mono f h1
  have h4 := cntF_mono f (show t + 1 ≤ b by omega)
  rw [cntF] at h4
  cases hf : f t with
  | false => rfl
  | true => rw [if_pos hf] at h4; omega
theorem cntF_sub {f g : Nat → Bool} (hfg : ∀ t, g t = true → f t = true) {a b : Nat} (hab : a ≤ b) (h : cntF f b ≤ cntF f a) : cntF g b = cntF g a := by
  have h1 := cntF_eq h
  clear h
  induction b with
  | zero => obtain rfl : a = 0 := by omega
            rfl
  | succ b ih =>
    by_cases e : a = b + 1
    · rw [e]
    · rw [cntF, ih (by omega) (fun t h2 h3 => h1 t h2 (by omega))]
      have := h1 b (by omega) (by omega)
      cases hg : g b with
      | false => rfl
      | true => rw [hfg b hg] at this; cases this
theorem cntF_sub2 {f g : Nat → Bool} (hfg : ∀ t, g t = true → f t = true) {a b : Nat} (h : cntF f a = cntF f b) : cntF g a = cntF g b := by
  rcases Nat.le_total a b with h1 | h1
  · exact (cntF_sub hfg h1 (by omega)).symm
  · exact cntF_sub hfg h1 (by omega)
/-- A place that may go. -/
def Po.cd (P : Po) (j : Nat) : Bool := !(P.S j).out
/-- P as it stands behind T steps of the hand, from R on. -/
structure Hd (R P : Po) (T : Nat) : Prop where
  m : P.m = R.m
  h : P.h = (R.h + T) % R.m
  f : ∀ j, (P.S j).f = (R.S j).f ∧ (P.S j).pn = (R.S j).pn
  cl : ∀ t, t < T → R.cd (R.vat t) = true → (P.S (R.vat t)).us = false
variable {R P : Po} {T k : Nat}
theorem Hd.start (R : Po) (h : R.h < R.m) : Hd R R 0 := ⟨rfl, by rw [Nat.add_zero, Nat.mod_eq_of_lt h], fun _ => ⟨rfl, rfl⟩, fun t ht => by omega⟩
theorem Hd.cd (h : Hd R P T) (j : Nat) : P.cd j = R.cd j := by unfold Po.cd Pl.out; rw [(h.f j).1, (h.f j).2]
theorem Hd.vat (h : Hd R P T) (k : Nat) : P.vat k = R.vat (T + k) := by
  unfold Po.vat
  rw [h.h, h.m, Nat.mod_add_mod, Nat.add_assoc]
theorem vat_per (R : Po) (t : Nat) : R.vat (t + R.m) = R.vat t := by
  unfold Po.vat
  rw [← Nat.add_assoc, Nat.add_mod_right]
theorem vS_out_eq (P : Po) (k j : Nat) : (P.vS k j).out = (P.S j).out := by unfold Pl.out; rw [(vS_f P k j).1, (vS_f P k j).2.1]
theorem vS_us2 (P : Po) : ∀ k j, (P.S j).us = false → (P.vS k j).us = false
  | 0, j, h => h
  | k + 1, j, h => by
    have ih := vS_us2 P k j h
    unfold Po.vS
    split
    · exact ih
    · by_cases e : j = P.vat k
      · subst e; rw [upd_same]
      · rw [upd_ne _ _ e]; exact ih
theorem vS_past (P : Po) : ∀ k t, t < k → P.cd (P.vat t) = true → (P.vS k (P.vat t)).us = false
  | 0, t, h, _ => by omega
  | k + 1, t, h, hc => by
    have ih := vS_past P k t
    unfold Po.vS
    split
    · rename_i ho
      by_cases e : t = k
      · subst e
        rw [vS_out_eq] at ho
        unfold Po.cd at hc
        rw [ho] at hc; cases hc
      · exact ih (by omega) hc
    · by_cases e : P.vat t = P.vat k
      · rw [e, upd_same]
      · rw [upd_ne _ _ e]
        exact ih (by
          by_cases e2 : t = k
          · subst e2; exact absurd rfl e
          · omega) hc
theorem stop_eq (P : Po) (k : Nat) : P.stop k = (P.cd (P.vat k) && !(P.vS k (P.vat k)).us) := by
  unfold Po.stop Po.cd
  rw [vS_out_eq]
theorem vTo_min {P : Po} : ∀ n, (∃ k, k < n ∧ P.stop k = true) → ∃ k, k < n ∧ P.stop k = true ∧ (∀ j, j < k → P.stop j = false) := by
  intro n
  induction n with
  | zero => rintro ⟨k, h, _⟩; omega
  | succ n ih =>
    rintro ⟨k, h, hs⟩
    by_cases h1 : ∃ k, k < n ∧ P.stop k = true
    · obtain ⟨j, h2, h3, h4⟩ := ih h1
      exact ⟨j, by omega, h3, h4⟩
    · have h2 : ∀ j, j < n → P.stop j = false := fun j hj => by
        cases hq : P.stop j with
        | false => rfl
        | true => exact absurd ⟨j, hj, hq⟩ h1
      refine ⟨k, h, hs, fun j hj => h2 j (by omega)⟩
/-- There is a victim where some place may go. -/
theorem vic_yes (P : Po) {t : Nat} (ht : t < P.m) (hc : P.cd (P.vat t) = true) : ∃ k, P.stop k = true ∧ (∀ j, j < k → P.stop j = false) ∧ P.vic = (⟨P.m, (P.vat k + 1) % P.m, P.vS k⟩, (P.vS k (P.vat k)).f.pg, true) := by
  have h1 : P.stop (t + P.m) = true := by
    rw [stop_eq, vat_per, hc, vS_past P _ t (by omega) hc]
    rfl
  obtain ⟨k, h2, h3, h4⟩ := vTo_min (2 * P.m) ⟨t + P.m, by omega, h1⟩
  refine ⟨k, h3, h4, ?_⟩
  unfold Po.vic
  rw [vTo_some h4 h3 _ h2]
theorem vic_none (P : Po) (hc : ∀ t, P.cd (P.vat t) = false) : P.vic.2 = (0, false) := by
  unfold Po.vic
  rw [vTo_none _ (fun j _ => by rw [stop_eq, hc j]; rfl)]
theorem Hd.vic (h : Hd R P T) {t : Nat} (ht : t < R.m) (hc : R.cd (R.vat t) = true) : ∃ k, P.vic.2 = ((R.S (R.vat (T + k))).f.pg, true) ∧ Hd R P.vic.1 (T + k + 1) ∧ R.cd (R.vat (T + k)) = true ∧ (∀ j, j < k → P.stop j = false) ∧ P.stop k = true ∧ P.vic.1.S = P.vS k := by
  have ht2 : ∃ t2, t2 < P.m ∧ P.cd (P.vat t2) = true := by
    refine ⟨(t + T * R.m - T) % R.m, by rw [h.m]; exact Nat.mod_lt _ (by omega), ?_⟩
    have hTm : T ≤ T * R.m := Nat.le_mul_of_pos_right _ (by omega)
    rw [h.cd, h.vat]
    have e : R.vat (T + (t + T * R.m - T) % R.m) = R.vat t := by
      unfold Po.vat
      rw [← Nat.add_assoc, Nat.add_mod_mod, show R.h + T + (t + T * R.m - T) = (R.h + t) + T * R.m by omega, Nat.add_mul_mod_self_right]
    rw [e]; exact hc
  obtain ⟨t2, ht3, hc3⟩ := ht2
  obtain ⟨k, h1, h2, h3⟩ := vic_yes P ht3 hc3
  have hcd : R.cd (R.vat (T + k)) = true := by
    have := h1
    rw [stop_eq, Bool.and_eq_true] at this
    rw [← h.cd, ← h.vat]; exact this.1
  refine ⟨k, ?_, ?_, hcd, h2, h1, by rw [h3]⟩
  · rw [h3]
    show ((P.vS k (P.vat k)).f.pg, true) = _
    rw [(vS_f P k _).1, (h.f _).1, h.vat]
  · rw [h3]
    refine ⟨h.m, ?_, fun j => ⟨(vS_f P k j).1.trans (h.f j).1, (vS_f P k j).2.1.trans (h.f j).2⟩, ?_⟩
    · show (P.vat k + 1) % P.m = _
      rw [h.vat, h.m]
      unfold Po.vat
      rw [Nat.mod_add_mod]
      rfl
    · intro t4 ht4 hc4
      show (P.vS k (R.vat t4)).us = false
      by_cases e : t4 < T
      · exact vS_us2 P k _ (h.cl t4 e hc4)
      · by_cases e2 : t4 = T + k
        · subst e2
          have := h1
          rw [stop_eq, Bool.and_eq_true, h.vat] at this
          have h9 := this.2
          simpa using h9
        · have e3 : R.vat t4 = P.vat (t4 - T) := by rw [h.vat]; congr 1; omega
          rw [e3]
          rw [e3, ← h.cd] at hc4
          exact vS_past P k _ (by omega) hc4
/-- What may go, by the hand's steps. -/
def Po.ct (R : Po) (t : Nat) : Bool := R.cd (R.vat t)
def Po.cp (R : Po) (p : Int) (t : Nat) : Bool := R.cd (R.vat t) && decide ((R.S (R.vat t)).f.pg = p)
theorem ct_per (R : Po) (t : Nat) : R.ct (t + R.m) = R.ct t := by unfold Po.ct; rw [vat_per]
theorem cp_per (R : Po) (p : Int) (t : Nat) : R.cp p (t + R.m) = R.cp p t := by unfold Po.cp; rw [vat_per]
theorem cp_ct (R : Po) (p : Int) (t : Nat) (h : R.cp p t = true) : R.ct t = true := by unfold Po.cp at h; rw [Bool.and_eq_true] at h; exact h.1
/-- The hand's step that comes to a place. -/
theorem vat_inv (R : Po) (hh : R.h < R.m) {j : Nat} (hj : j < R.m) : ∃ t, t < R.m ∧ R.vat t = j := by
  refine ⟨(j + R.m - R.h) % R.m, Nat.mod_lt _ (by omega), ?_⟩
  unfold Po.vat
  rw [Nat.add_mod_mod, show R.h + (j + R.m - R.h) = j + R.m by omega, Nat.add_mod_right, Nat.mod_eq_of_lt hj]
theorem vat_inj (R : Po) (hh : R.h < R.m) {t u : Nat} (ht : t < R.m) (hu : u < R.m) (e : R.vat t = R.vat u) : t = u := by
  unfold Po.vat at e
  have h1 : ∀ x, x < R.m → (R.h + x) % R.m = if R.h + x < R.m then R.h + x else R.h + x - R.m := by
    intro x hx
    split
    · exact Nat.mod_eq_of_lt (by assumption)
    · rw [Nat.mod_eq_sub_mod (by omega), Nat.mod_eq_of_lt (by omega)]
  rw [h1 t ht, h1 u hu] at e
  split at e <;> split at e <;> omega
/-- Nothing that may go was used. -/
def AllC (R P : Po) : Prop := ∀ j, j < R.m → R.cd j = true → (P.S j).us = false
theorem Hd.all (h : Hd R P T) (hh : R.h < R.m) (hn : cntF R.ct R.m ≤ cntF R.ct T) : AllC R P := by
  intro j hj hc
  obtain ⟨t, h1, h2⟩ := vat_inv R hh hj
  by_cases e : t < T
  · have := h.cl t e (by rw [h2]; exact hc)
    rw [h2] at this; exact this
  · have := cntF_eq hn t (by omega) h1
    unfold Po.ct at this
    rw [h2, hc] at this; cases this
theorem vat_lt' (R : Po) (hh : R.h < R.m) (t : Nat) : R.vat t < R.m := Nat.mod_lt _ (by omega)
/-- One victim more, ahead of which all may have been used. -/
theorem Hd.one (h : Hd R P T) {n : Nat} (hn : 0 < cntF R.ct R.m) (hc : n ≤ cntF R.ct T) : ∃ T', P.vic.2.2 = true ∧ Hd R P.vic.1 T' ∧ n + 1 ≤ cntF R.ct T' := by
  have ht : ∃ t, t < R.m ∧ R.ct t = true := by
    rcases Classical.em (∃ t, t < R.m ∧ R.ct t = true) with h1 | h1
    · exact h1
    · rw [cntF_none (fun i hi => by
        cases hq : R.ct i with
        | false => rfl
        | true => exact absurd ⟨i, hi, hq⟩ h1)] at hn
      omega
  obtain ⟨t, h1, h2⟩ := ht
  obtain ⟨k, h3, h4, h5, _⟩ := h.vic h1 h2
  refine ⟨T + k + 1, by rw [h3], h4, ?_⟩
  have h6 := cntF_mono R.ct (show T ≤ T + k by omega)
  show n + 1 ≤ cntF R.ct (T + k) + (if R.ct (T + k) = true then 1 else 0)
  rw [if_pos (show R.ct (T + k) = true from h5)]
  omega
/-- Victims when nothing was used: each time the next one. -/
theorem Hd.next (h : Hd R P T) (hh : R.h < R.m) (hn : 0 < cntF R.ct R.m) (ha : AllC R P) : ∃ T', P.vic.2.2 = true ∧ Hd R P.vic.1 T' ∧ AllC R P.vic.1 ∧ cntF R.ct T' = cntF R.ct T + 1 ∧ (∀ p, cntF (R.cp p) T' = cntF (R.cp p) T + (if P.vic.2.1 = p then 1 else 0)) ∧ ∃ j, j < R.m ∧ R.cd j = true ∧ P.vic.2.1 = (R.S j).f.pg := by
  have ht : ∃ t, t < R.m ∧ R.ct t = true := by
    rcases Classical.em (∃ t, t < R.m ∧ R.ct t = true) with h1 | h1
    · exact h1
    · rw [cntF_none (fun i hi => by
        cases hq : R.ct i with
        | false => rfl
        | true => exact absurd ⟨i, hi, hq⟩ h1)] at hn
      omega
  obtain ⟨t, h1, h2⟩ := ht
  obtain ⟨k, h3, h4, h5, h6, h7, h8⟩ := h.vic h1 h2
  have hno : ∀ j, j < k → R.ct (T + j) = false := by
    intro j hj
    cases hq : R.ct (T + j) with
    | false => rfl
    | true =>
      have := h6 j hj
      rw [stop_eq, h.cd, h.vat] at this
      unfold Po.ct at hq
      rw [hq, vS_us2 P j _ (ha _ (vat_lt' R hh _) hq)] at this
      cases this
  have hcn : ∀ (f : Nat → Bool), (∀ t, f t = true → R.ct t = true) → ∀ j, j ≤ k → cntF f (T + j) = cntF f T := by
    intro f hf j
    induction j with
    | zero => intro _; rfl
    | succ j ih =>
      intro hj
      show cntF f (T + j) + (if f (T + j) = true then 1 else 0) = _
      rw [ih (by omega), if_neg]
      · rfl
      · intro e
        have := hno j (by omega)
        rw [hf _ e] at this
        cases this
  refine ⟨T + k + 1, by rw [h3], h4, ?_, ?_, ?_, R.vat (T + k), vat_lt' R hh _, h5, by rw [h3]⟩
  · intro j hj hc
    rw [h8]
    exact vS_us2 P k j (ha j hj hc)
  · show cntF R.ct (T + k) + (if R.ct (T + k) = true then 1 else 0) = _
    rw [hcn R.ct (fun _ h => h) k (Nat.le_refl _), if_pos (show R.ct (T + k) = true from h5)]
  · intro p
    show cntF (R.cp p) (T + k) + (if R.cp p (T + k) = true then 1 else 0) = _
    rw [hcn (R.cp p) (cp_ct R p) k (Nat.le_refl _), h3]
    unfold Po.cp
    rw [h5, Bool.true_and]
    by_cases e : (R.S (R.vat (T + k))).f.pg = p
    · rw [if_pos (decide_eq_true e), if_pos e]
    · rw [if_neg (by simpa using e), if_neg e]

end Go.Proofs.Ytgnafbohikbpfaa
