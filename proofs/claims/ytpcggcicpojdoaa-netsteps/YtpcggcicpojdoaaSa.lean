/-
  Letters that are alike, or not.
-/
import Derived.Test.YtpcggcicpojdoaaNq
import Derived.Lib.Bytes
namespace Go.Proofs.Ytpcggcicpojdoaa
open Go.RowKit

/-- Are two letters alike? -/
def alike (a b : Ltr) : Bool := decide (a.num = b.num) && (decide (a.fr = b.fr) && (decide (a.to = b.to) && decide (a.bs = b.bs)))
theorem alike_iff {a b : Ltr} : alike a b = true ↔ a.num = b.num ∧ a.fr = b.fr ∧ a.to = b.to ∧ a.bs = b.bs := by
  unfold alike
  simp
theorem alike_refl (a : Ltr) : alike a a = true := alike_iff.2 ⟨rfl, rfl, rfl, rfl⟩
theorem strNums_inj : ∀ (l k : List Int), (∀ x ∈ l, 0 ≤ x ∧ x < 256) → (∀ x ∈ k, 0 ≤ x ∧ x < 256) → strOfNums l = strOfNums k → l = k := by
  intro l k hl hk h
  have h2 := congrArg (fun b : ByteArray => b.data.toList) h
  simp only [strOfNums_data] at h2
  clear h
  induction l generalizing k with
  | nil =>
    cases k with
    | nil => rfl
    | cons y k => simp at h2
  | cons x l ih =>
    cases k with
    | nil => simp at h2
    | cons y k =>
      simp only [List.map_cons, List.cons.injEq] at h2
      have hx := hl x (List.mem_cons_self ..)
      have hy := hk y (List.mem_cons_self ..)
      have h3 := congrArg UInt8.toNat h2.1
      rw [UInt8.toNat_ofNat', UInt8.toNat_ofNat', Nat.mod_eq_of_lt (by omega), Nat.mod_eq_of_lt (by omega)] at h3
      rw [ih k (fun z hz => hl z (List.mem_cons_of_mem _ hz)) (fun z hz => hk z (List.mem_cons_of_mem _ hz)) h2.2, show x = y by omega]
theorem str_eq {l k : List Int} (hl : ∀ x ∈ l, 0 ≤ x ∧ x < 256) (hk : ∀ x ∈ k, 0 ≤ x ∧ x < 256) : ((strOfNums l).toList == (strOfNums k).toList) = decide (l = k) := by
  by_cases h : l = k
  · subst h
    simp
  · rw [decide_eq_false h, beq_eq_false_iff_ne, Lib.strOfNums_toList, Lib.strOfNums_toList]
    intro e
    apply h
    apply strNums_inj l k hl hk
    unfold strOfNums
    exact congrArg (fun x : List UInt8 => (⟨x.toArray⟩ : ByteArray)) e
theorem equal54 (v1 v2 : Value) (l k : List Int) (w : World) (h1 : RowAt w v1 l) (h2 : RowAt w v2 k) (hl : ∀ x ∈ l, 0 ≤ x ∧ x < 256) (hk : ∀ x ∈ k, 0 ≤ x ∧ x < 256) : Calls Try.prog 54 #[v1, v2] w fun e w' => e = .returned (.bool (decide (l = k))) ∧ w' = w := by
  have hc1 := conv34 h1
  have hc2 := conv34 h2
  have hs := str_eq hl hk
  obtain ⟨a1, c1, rfl, _⟩ := h1
  obtain ⟨a2, c2, rfl, _⟩ := h2
  clear hl hk
  go_enter Try.func54, Try.ntmps54
  go_wp2
  go_ret
  exact ⟨by rw [← hs]; rfl, rfl⟩
set_option maxHeartbeats 8000000 in
theorem same19x (a b : Ltr) (w : World) (h1 : RowAt w a.v a.bs) (h2 : RowAt w b.v b.bs) (hl : ∀ x ∈ a.bs, 0 ≤ x ∧ x < 256) (hk : ∀ x ∈ b.bs, 0 ≤ x ∧ x < 256) : Calls Try.prog 19 #[aggV a.C, aggV b.C] w fun e w' => e = .returned (.bool (alike a b)) ∧ Kept [] w w' := by
  have R1 := hide h1
  have R2 := hide h2
  have HS := hide (str_eq hl hk)
  have HL := hide hl
  have HKK := hide hk
  obtain ⟨num1, fr1, to1, v1, l⟩ := a
  obtain ⟨num2, fr2, to2, v2, k⟩ := b
  simp only at h1 h2 R1 R2 HS HL HKK
  obtain ⟨a1, c1, rfl, _⟩ := h1
  obtain ⟨a2, c2, rfl, _⟩ := h2
  have HK := hide (Kept.refl [] w)
  clear hl hk
  unfold Ltr.C alike
  simp only
  by_cases hn : num1 = num2
  · subst hn
    by_cases hf : fr1 = fr2
    · subst hf
      by_cases ht : to1 = to2
      · subst ht
        go_enter Try.func19, Try.ntmps19
        go_wp2_with (
          first
          | (refine wpBoxV (by rfl) (.tmp 0) (by rfl) [.int .i64 num1, .int .i64 fr1, .int .i64 to1, .slice a1 l.length c1] (by kernel_rfl) ?_
             intro W1 p1 e1 B1 K1
             have HB := hide B1
             replace HK := hide ((unhide HK).trans K1)
             clear e1 B1 K1
             refine Stp.go ?_))
        constructor
        go_wp2_with (
          first
          | (refine wpBoxV (by rfl) (.tmp 1) (by rfl) [.int .i64 num1, .int .i64 fr1, .int .i64 to1, .slice a2 k.length c2] (by kernel_rfl) ?_
             intro W2 p2 e2 B2 K2
             replace HB := hide ((unhide HB).kept K2 (by simp))
             replace HK := hide ((unhide HK).trans K2)
             have g0 := fits_cell (unhide HB) 0 _ rfl
             have g1 := fits_cell (unhide HB) 1 _ rfl
             have g2 := fits_cell (unhide HB) 2 _ rfl
             have g3 := fits_cell (unhide HB) 3 _ rfl
             have f0 := fits_cell B2 0 _ rfl
             have f1 := fits_cell B2 1 _ rfl
             have f2 := fits_cell B2 2 _ rfl
             have f3 := fits_cell B2 3 _ rfl
             have hc1 := conv34 ((unhide R1).kept (unhide HK))
             have hc2 := conv34 ((unhide R2).kept (unhide HK))
             have hs := unhide HS
             clear e2 B2 K2))
        go_ret
        exact ⟨by simp, unhide HK⟩
      · have hb : (to1 == to2) = false := by simp [ht]
        have hd : decide (to1 = to2) = false := by simp [ht]
        go_enter Try.func19, Try.ntmps19
        go_wp2_with (
          first
          | (refine wpBoxV (by rfl) (.tmp 0) (by rfl) [.int .i64 num1, .int .i64 fr1, .int .i64 to1, .slice a1 l.length c1] (by kernel_rfl) ?_
             intro W1 p1 e1 B1 K1
             have HB := hide B1
             replace HK := hide ((unhide HK).trans K1)
             clear e1 B1 K1
             refine Stp.go ?_))
        constructor
        go_wp2_with (
          first
          | (refine wpBoxV (by rfl) (.tmp 1) (by rfl) [.int .i64 num1, .int .i64 fr1, .int .i64 to2, .slice a2 k.length c2] (by kernel_rfl) ?_
             intro W2 p2 e2 B2 K2
             replace HB := hide ((unhide HB).kept K2 (by simp))
             replace HK := hide ((unhide HK).trans K2)
             have g0 := fits_cell (unhide HB) 0 _ rfl
             have g1 := fits_cell (unhide HB) 1 _ rfl
             have g2 := fits_cell (unhide HB) 2 _ rfl
             have g3 := fits_cell (unhide HB) 3 _ rfl
             have f0 := fits_cell B2 0 _ rfl
             have f1 := fits_cell B2 1 _ rfl
             have f2 := fits_cell B2 2 _ rfl
             have f3 := fits_cell B2 3 _ rfl
             have hc1 := conv34 ((unhide R1).kept (unhide HK))
             have hc2 := conv34 ((unhide R2).kept (unhide HK))
             have hs := unhide HS
             clear e2 B2 K2))
        go_ret
        exact ⟨by simp [hd], unhide HK⟩
    · have hb : (fr1 == fr2) = false := by simp [hf]
      have hd : decide (fr1 = fr2) = false := by simp [hf]
      go_enter Try.func19, Try.ntmps19
      go_wp2_with (
        first
        | (refine wpBoxV (by rfl) (.tmp 0) (by rfl) [.int .i64 num1, .int .i64 fr1, .int .i64 to1, .slice a1 l.length c1] (by kernel_rfl) ?_
           intro W1 p1 e1 B1 K1
           have HB := hide B1
           replace HK := hide ((unhide HK).trans K1)
           clear e1 B1 K1
           refine Stp.go ?_))
      constructor
      go_wp2_with (
        first
        | (refine wpBoxV (by rfl) (.tmp 1) (by rfl) [.int .i64 num1, .int .i64 fr2, .int .i64 to2, .slice a2 k.length c2] (by kernel_rfl) ?_
           intro W2 p2 e2 B2 K2
           replace HB := hide ((unhide HB).kept K2 (by simp))
           replace HK := hide ((unhide HK).trans K2)
           have g0 := fits_cell (unhide HB) 0 _ rfl
           have g1 := fits_cell (unhide HB) 1 _ rfl
           have g2 := fits_cell (unhide HB) 2 _ rfl
           have g3 := fits_cell (unhide HB) 3 _ rfl
           have f0 := fits_cell B2 0 _ rfl
           have f1 := fits_cell B2 1 _ rfl
           have f2 := fits_cell B2 2 _ rfl
           have f3 := fits_cell B2 3 _ rfl
           have hc1 := conv34 ((unhide R1).kept (unhide HK))
           have hc2 := conv34 ((unhide R2).kept (unhide HK))
           have hs := unhide HS
           clear e2 B2 K2))
      go_ret
      exact ⟨by simp [hd], unhide HK⟩
  · have hb : (num1 == num2) = false := by simp [hn]
    have hd : decide (num1 = num2) = false := by simp [hn]
    go_enter Try.func19, Try.ntmps19
    go_wp2_with (
      first
      | (refine wpBoxV (by rfl) (.tmp 0) (by rfl) [.int .i64 num1, .int .i64 fr1, .int .i64 to1, .slice a1 l.length c1] (by kernel_rfl) ?_
         intro W1 p1 e1 B1 K1
         have HB := hide B1
         replace HK := hide ((unhide HK).trans K1)
         clear e1 B1 K1
         refine Stp.go ?_))
    constructor
    go_wp2_with (
      first
      | (refine wpBoxV (by rfl) (.tmp 1) (by rfl) [.int .i64 num2, .int .i64 fr2, .int .i64 to2, .slice a2 k.length c2] (by kernel_rfl) ?_
         intro W2 p2 e2 B2 K2
         replace HB := hide ((unhide HB).kept K2 (by simp))
         replace HK := hide ((unhide HK).trans K2)
         have g0 := fits_cell (unhide HB) 0 _ rfl
         have g1 := fits_cell (unhide HB) 1 _ rfl
         have g2 := fits_cell (unhide HB) 2 _ rfl
         have g3 := fits_cell (unhide HB) 3 _ rfl
         have f0 := fits_cell B2 0 _ rfl
         have f1 := fits_cell B2 1 _ rfl
         have f2 := fits_cell B2 2 _ rfl
         have f3 := fits_cell B2 3 _ rfl
         have hc1 := conv34 ((unhide R1).kept (unhide HK))
         have hc2 := conv34 ((unhide R2).kept (unhide HK))
         have hs := unhide HS
         clear e2 B2 K2))
    go_ret
    exact ⟨by simp [hd], unhide HK⟩
set_option maxHeartbeats 8000000 in
theorem alike40 (a b : Ltr) (w : World) (h1 : RowAt w a.v a.bs) (h2 : RowAt w b.v b.bs) (hl : ∀ x ∈ a.bs, 0 ≤ x ∧ x < 256) (hk : ∀ x ∈ b.bs, 0 ≤ x ∧ x < 256) : Calls Try.prog 40 #[aggV a.C, aggV b.C] w fun e w' => e = .returned (.bool (alike a b)) ∧ Kept [] w w' := by
  have R1 := hide h1
  have R2 := hide h2
  have HS := hide (str_eq hl hk)
  have HL := hide hl
  have HKK := hide hk
  obtain ⟨num1, fr1, to1, v1, l⟩ := a
  obtain ⟨num2, fr2, to2, v2, k⟩ := b
  simp only at h1 h2 R1 R2 HS HL HKK
  obtain ⟨a1, c1, rfl, _⟩ := h1
  obtain ⟨a2, c2, rfl, _⟩ := h2
  have HK := hide (Kept.refl [] w)
  clear hl hk
  unfold Ltr.C alike
  simp only
  by_cases hn : num1 = num2
  · subst hn
    by_cases hf : fr1 = fr2
    · subst hf
      by_cases ht : to1 = to2
      · subst ht
        go_enter Try.func40, Try.ntmps40
        go_wp2_with (
          first
          | (refine wpBoxV (by rfl) (.tmp 0) (by rfl) [.int .i64 num1, .int .i64 fr1, .int .i64 to1, .slice a1 l.length c1] (by kernel_rfl) ?_
             intro W1 p1 e1 B1 K1
             have HB := hide B1
             replace HK := hide ((unhide HK).trans K1)
             clear e1 B1 K1
             refine Stp.go ?_))
        constructor
        go_wp2_with (
          first
          | (refine wpBoxV (by rfl) (.tmp 1) (by rfl) [.int .i64 num1, .int .i64 fr1, .int .i64 to1, .slice a2 k.length c2] (by kernel_rfl) ?_
             intro W2 p2 e2 B2 K2
             replace HB := hide ((unhide HB).kept K2 (by simp))
             replace HK := hide ((unhide HK).trans K2)
             have g0 := fits_cell (unhide HB) 0 _ rfl
             have g1 := fits_cell (unhide HB) 1 _ rfl
             have g2 := fits_cell (unhide HB) 2 _ rfl
             have g3 := fits_cell (unhide HB) 3 _ rfl
             have f0 := fits_cell B2 0 _ rfl
             have f1 := fits_cell B2 1 _ rfl
             have f2 := fits_cell B2 2 _ rfl
             have f3 := fits_cell B2 3 _ rfl
             have PE := hide (equal54 _ _ l k W2 ((unhide R1).kept (unhide HK)) ((unhide R2).kept (unhide HK)) (unhide HL) (unhide HKK))
             clear e2 B2 K2
             refine Stp.go ?_))
        constructor
        go_wp2_with (
          first
          | (go_at_call 54
             refine (unhide PE).mono ?_
             rintro e V1 ⟨rfl, hw1⟩
             obtain rfl := hw1.symm
             clear hw1))
        go_ret
        exact ⟨by simp, unhide HK⟩
      · have hb : (to1 == to2) = false := by simp [ht]
        have hd : decide (to1 = to2) = false := by simp [ht]
        go_enter Try.func40, Try.ntmps40
        go_wp2_with (
          first
          | (refine wpBoxV (by rfl) (.tmp 0) (by rfl) [.int .i64 num1, .int .i64 fr1, .int .i64 to1, .slice a1 l.length c1] (by kernel_rfl) ?_
             intro W1 p1 e1 B1 K1
             have HB := hide B1
             replace HK := hide ((unhide HK).trans K1)
             clear e1 B1 K1
             refine Stp.go ?_))
        constructor
        go_wp2_with (
          first
          | (refine wpBoxV (by rfl) (.tmp 1) (by rfl) [.int .i64 num1, .int .i64 fr1, .int .i64 to2, .slice a2 k.length c2] (by kernel_rfl) ?_
             intro W2 p2 e2 B2 K2
             replace HB := hide ((unhide HB).kept K2 (by simp))
             replace HK := hide ((unhide HK).trans K2)
             have g0 := fits_cell (unhide HB) 0 _ rfl
             have g1 := fits_cell (unhide HB) 1 _ rfl
             have g2 := fits_cell (unhide HB) 2 _ rfl
             have g3 := fits_cell (unhide HB) 3 _ rfl
             have f0 := fits_cell B2 0 _ rfl
             have f1 := fits_cell B2 1 _ rfl
             have f2 := fits_cell B2 2 _ rfl
             have f3 := fits_cell B2 3 _ rfl
             have PE := hide (equal54 _ _ l k W2 ((unhide R1).kept (unhide HK)) ((unhide R2).kept (unhide HK)) (unhide HL) (unhide HKK))
             clear e2 B2 K2))
        go_ret
        exact ⟨by simp [hd], unhide HK⟩
    · have hb : (fr1 == fr2) = false := by simp [hf]
      have hd : decide (fr1 = fr2) = false := by simp [hf]
      go_enter Try.func40, Try.ntmps40
      go_wp2_with (
        first
        | (refine wpBoxV (by rfl) (.tmp 0) (by rfl) [.int .i64 num1, .int .i64 fr1, .int .i64 to1, .slice a1 l.length c1] (by kernel_rfl) ?_
           intro W1 p1 e1 B1 K1
           have HB := hide B1
           replace HK := hide ((unhide HK).trans K1)
           clear e1 B1 K1
           refine Stp.go ?_))
      constructor
      go_wp2_with (
        first
        | (refine wpBoxV (by rfl) (.tmp 1) (by rfl) [.int .i64 num1, .int .i64 fr2, .int .i64 to2, .slice a2 k.length c2] (by kernel_rfl) ?_
           intro W2 p2 e2 B2 K2
           replace HB := hide ((unhide HB).kept K2 (by simp))
           replace HK := hide ((unhide HK).trans K2)
           have g0 := fits_cell (unhide HB) 0 _ rfl
           have g1 := fits_cell (unhide HB) 1 _ rfl
           have g2 := fits_cell (unhide HB) 2 _ rfl
           have g3 := fits_cell (unhide HB) 3 _ rfl
           have f0 := fits_cell B2 0 _ rfl
           have f1 := fits_cell B2 1 _ rfl
           have f2 := fits_cell B2 2 _ rfl
           have f3 := fits_cell B2 3 _ rfl
           have PE := hide (equal54 _ _ l k W2 ((unhide R1).kept (unhide HK)) ((unhide R2).kept (unhide HK)) (unhide HL) (unhide HKK))
           clear e2 B2 K2))
      go_ret
      exact ⟨by simp [hd], unhide HK⟩
  · have hb : (num1 == num2) = false := by simp [hn]
    have hd : decide (num1 = num2) = false := by simp [hn]
    go_enter Try.func40, Try.ntmps40
    go_wp2_with (
      first
      | (refine wpBoxV (by rfl) (.tmp 0) (by rfl) [.int .i64 num1, .int .i64 fr1, .int .i64 to1, .slice a1 l.length c1] (by kernel_rfl) ?_
         intro W1 p1 e1 B1 K1
         have HB := hide B1
         replace HK := hide ((unhide HK).trans K1)
         clear e1 B1 K1
         refine Stp.go ?_))
    constructor
    go_wp2_with (
      first
      | (refine wpBoxV (by rfl) (.tmp 1) (by rfl) [.int .i64 num2, .int .i64 fr2, .int .i64 to2, .slice a2 k.length c2] (by kernel_rfl) ?_
         intro W2 p2 e2 B2 K2
         replace HB := hide ((unhide HB).kept K2 (by simp))
         replace HK := hide ((unhide HK).trans K2)
         have g0 := fits_cell (unhide HB) 0 _ rfl
         have g1 := fits_cell (unhide HB) 1 _ rfl
         have g2 := fits_cell (unhide HB) 2 _ rfl
         have g3 := fits_cell (unhide HB) 3 _ rfl
         have f0 := fits_cell B2 0 _ rfl
         have f1 := fits_cell B2 1 _ rfl
         have f2 := fits_cell B2 2 _ rfl
         have f3 := fits_cell B2 3 _ rfl
         have PE := hide (equal54 _ _ l k W2 ((unhide R1).kept (unhide HK)) ((unhide R2).kept (unhide HK)) (unhide HL) (unhide HKK))
         clear e2 B2 K2))
    go_ret
    exact ⟨by simp [hd], unhide HK⟩

end Go.Proofs.Ytpcggcicpojdoaa
