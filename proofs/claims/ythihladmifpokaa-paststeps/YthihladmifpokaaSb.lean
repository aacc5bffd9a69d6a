/-
  The bound, as plain facts; the marks of a map in their order.
-/
import Derived.Test.YthihladmifpokaaSa
namespace Go.Proofs.Ythihladmifpokaa
set_option maxRecDepth 100000
set_option linter.unusedSimpArgs false
open Go.RowKit


variable {w W W' : World} {b mb : Nat} {M L : List Mk} {n p s f k : Int}
theorem fndB_any (f : Mk → Bool) (L : List Mk) : fndB f L = L.any f := by
  unfold fndB
  rw [Bool.eq_iff_iff, List.find?_isSome, List.any_eq_true]
/-- Any marks that stand in a map have their order. -/
theorem MapAt.srt (h : MapAt W mb M) : ∃ L, L.Perm M ∧ Srt L := by
  refine ⟨M.mergeSort (fun x y => !lessB y x), List.mergeSort_perm _ _, ?_⟩
  have h1 : (M.mergeSort (fun x y => !lessB y x)).Pairwise (fun x y => (!lessB y x) = true) := List.pairwise_mergeSort (fun a b c h1 h2 => by
    simp only [Bool.not_eq_true'] at h1 h2 ⊢
    exact less_ntrans h2 h1) (fun a b => by
    cases h : lessB b a with
    | false => simp
    | true =>
      have : lessB a b = false := by rw [lessB_no]; rw [lessB_iff] at h; omega
      simp [this]) M
  have h2 := (List.Perm.pairwise_iff (R := fun x y : Mk => ¬ (x.p = y.p ∧ x.s = y.s)) (fun h e => h ⟨e.1.symm, e.2.symm⟩) (List.mergeSort_perm M (fun x y => !lessB y x))).2 h.nd
  refine (h1.and h2).imp ?_
  rintro x y ⟨h3, h4⟩
  simp only [Bool.not_eq_true'] at h3
  rw [lessB_no] at h3
  rw [lessB_iff]
  omega
theorem Pg.srt (h : Pg W b mb M) : ∃ L, L.Perm M ∧ Srt L := h.map.srt
theorem has16M (h : Pg w b mb M) : Calls Try.prog 16 #[P0 b, .int .i64 k] w fun e W => e = .returned (.bool (M.any (ofP k))) ∧ Kept [] w W := by
  obtain ⟨L, hp, hs⟩ := h.srt
  have h1 := has16 (k := k) h hp hs
  rw [fndB_any, hp.any_eq] at h1
  exact h1
/-- The bound of the marks alone. -/
def bd (n : Int) (M : List Mk) : Int := boundP n [] M
theorem minM_n (n : Int) : ∀ L : List Mk, minM n (fun _ => false) L ≤ n
  | [] => Int.le_refl _
  | l :: L => by have := minM_n n L; simp [minM]; omega
theorem minM_l (n : Int) : ∀ (L : List Mk) (l : Mk), l ∈ L → minM n (fun _ => false) L ≤ l.f
  | x :: L, l, h => by
    rcases List.mem_cons.1 h with rfl | h
    · simp [minM]; omega
    · have := minM_l n L l h; simp [minM]; omega
theorem le_minM (n x : Int) : ∀ L : List Mk, x ≤ n → (∀ l ∈ L, x ≤ l.f) → x ≤ minM n (fun _ => false) L
  | [], h, _ => h
  | l :: L, h, hl => by
    have h1 := hl l (by simp)
    have h2 := le_minM n x L h fun y hy => hl y (List.mem_cons_of_mem _ hy)
    simp [minM]
    omega
theorem bd_n : bd n M ≤ n := minM_n n M
theorem bd_l {l : Mk} (h : l ∈ M) : bd n M ≤ l.f := minM_l n M l h
theorem le_bd {x : Int} (h : x ≤ n) (hl : ∀ l ∈ M, x ≤ l.f) : x ≤ bd n M := le_minM n x M h hl
theorem bd_nil : bd n [] = n := rfl
theorem markP_old {q : Nat} {z : Mk} (h1 : okM p s f = true) (h2 : placeOf p s M 0 = some (q, z)) : markP p s f M = (0, M.set q ⟨p, s, min z.f f⟩) := by
  unfold markP; rw [if_pos h1, h2]
theorem markP_full (h1 : okM p s f = true) (h2 : placeOf p s M 0 = none) (h3 : M.length = 256) : markP p s f M = (5, M) := by
  unfold markP; rw [if_pos h1, h2]; simp [h3]
theorem markP_new (h1 : okM p s f = true) (h2 : placeOf p s M 0 = none) (h3 : ¬ M.length = 256) : markP p s f M = (0, M ++ [⟨p, s, f⟩]) := by
  unfold markP; rw [if_pos h1, h2]; simp [h3]
theorem markP_no (h1 : okM p s f = false) : markP p s f M = (2, M) := by
  unfold markP; rw [if_neg (by simp [h1])]
/-- How a mark goes. -/
theorem markP_ways (p s f : Int) (M : List Mk) : (∃ q z, okM p s f = true ∧ placeOf p s M 0 = some (q, z) ∧ markP p s f M = (0, M.set q ⟨p, s, min z.f f⟩)) ∨ (okM p s f = true ∧ placeOf p s M 0 = none ∧ ¬ M.length = 256 ∧ markP p s f M = (0, M ++ [⟨p, s, f⟩])) ∨ (okM p s f = true ∧ placeOf p s M 0 = none ∧ M.length = 256 ∧ markP p s f M = (5, M)) ∨ (okM p s f = false ∧ markP p s f M = (2, M)) := by
  cases h1 : okM p s f with
  | false => exact .inr (.inr (.inr ⟨rfl, markP_no h1⟩))
  | true =>
    cases h2 : placeOf p s M 0 with
    | some x => exact .inl ⟨x.1, x.2, rfl, rfl, markP_old h1 h2⟩
    | none =>
      by_cases h3 : M.length = 256
      · exact .inr (.inr (.inl ⟨rfl, rfl, h3, markP_full h1 h2 h3⟩))
      · exact .inr (.inl ⟨rfl, rfl, h3, markP_new h1 h2 h3⟩)
/-- No mark's First rises by a mark. -/
theorem mark_down {l : Mk} (h : l ∈ M) : ∃ l' ∈ (markP p s f M).2, l'.f ≤ l.f := by
  rcases markP_ways p s f M with ⟨q, z, h1, h2, h3⟩ | ⟨h1, h2, h3, h4⟩ | ⟨h1, h2, h3, h4⟩ | ⟨h1, h4⟩
  · rw [h3]
    obtain ⟨_, hq, _, _⟩ := placeOf_some h2
    rw [Nat.sub_zero] at hq
    obtain ⟨j, hj⟩ := List.mem_iff_getElem?.1 h
    by_cases e : q = j
    · subst e
      rw [hq] at hj
      cases hj
      have hlt := (List.getElem?_eq_some_iff.1 hq).1
      exact ⟨⟨p, s, min l.f f⟩, List.mem_iff_getElem?.2 ⟨q, by simp [hlt]⟩, by show min l.f f ≤ l.f; omega⟩
    · exact ⟨l, List.mem_iff_getElem?.2 ⟨j, by rw [List.getElem?_set_ne e]; exact hj⟩, Int.le_refl _⟩
  · rw [h4]; exact ⟨l, by simp [h], Int.le_refl _⟩
  · rw [h4]; exact ⟨l, h, Int.le_refl _⟩
  · rw [h4]; exact ⟨l, h, Int.le_refl _⟩
theorem bd_mark : bd n (markP p s f M).2 ≤ bd n M := le_bd bd_n fun l hl => by
  obtain ⟨l', h1, h2⟩ := mark_down (p := p) (s := s) (f := f) hl
  exact Int.le_trans (bd_l h1) h2
/-- The mark stands. -/
theorem mark_in (h : (markP p s f M).1 = 0) : ∃ l ∈ (markP p s f M).2, l.p = p ∧ l.f ≤ f := by
  rcases markP_ways p s f M with ⟨q, z, h1, h2, h3⟩ | ⟨h1, h2, h3, h4⟩ | ⟨h1, h2, h3, h4⟩ | ⟨h1, h4⟩
  · rw [h3]
    obtain ⟨_, hq, _, _⟩ := placeOf_some h2
    rw [Nat.sub_zero] at hq
    have hlt := (List.getElem?_eq_some_iff.1 hq).1
    exact ⟨⟨p, s, min z.f f⟩, List.mem_iff_getElem?.2 ⟨q, by simp [hlt]⟩, rfl, by show min z.f f ≤ f; omega⟩
  · rw [h4]; exact ⟨⟨p, s, f⟩, by simp, rfl, Int.le_refl _⟩
  · rw [h4] at h; cases h
  · rw [h4] at h; cases h
theorem bd_put (h : (markP p s f M).1 = 0) : bd n (markP p s f M).2 ≤ f := by
  obtain ⟨l, h1, _, h2⟩ := mark_in h
  exact Int.le_trans (bd_l h1) h2
theorem has_put (h : (markP p s f M).1 = 0) : (markP p s f M).2.any (ofP p) = true := by
  obtain ⟨l, h1, h2, _⟩ := mark_in h
  rw [List.any_eq_true]
  exact ⟨l, h1, by simp [ofP, h2]⟩
theorem disc_sub {l : Mk} (h : l ∈ (discP p s M).2.2) : l ∈ M := by
  unfold discP at h
  split at h
  · exact (List.mem_filter.1 h).1
  · exact h
theorem bd_disc : bd n M ≤ bd n (discP p s M).2.2 := le_bd bd_n fun _ hl => bd_l (disc_sub hl)
/-- A page that is discarded wholly has no mark. -/
theorem disc_all {k : Nat} (hM : Ok M) (hk : k < 16) (h : ∀ l ∈ M, (k : Int) ≤ l.p) : ∀ l ∈ (discP (k : Int) 2147483647 M).2.2, (k : Int) + 1 ≤ l.p := by
  intro l hl
  have h1 := h l (disc_sub hl)
  have h2 := (hM.may l (disc_sub hl)).2.1.2
  have hp : isPg (k : Int) = true := by simp [isPg]; omega
  unfold discP at hl
  rw [if_pos hp] at hl
  have h3 := (List.mem_filter.1 hl).2
  simp [gone] at h3
  omega
theorem none_of {k : Nat} (h : ∀ l ∈ M, (k : Int) + 1 ≤ l.p) : M.any (ofP (k : Int)) = false := by
  rw [Bool.eq_false_iff]
  intro e
  rw [List.any_eq_true] at e
  obtain ⟨l, h1, h2⟩ := e
  have := h l h1
  simp [ofP] at h2
  omega
theorem all_gone (hM : Ok M) (h : ∀ l ∈ M, (16 : Int) ≤ l.p) : M = [] := by
  cases M with
  | nil => rfl
  | cons l M =>
    have h1 := h l (by simp)
    have h2 := (hM.may l (by simp)).1.2
    omega

end Go.Proofs.Ythihladmifpokaa
