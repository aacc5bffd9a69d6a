/-
  The program's marks and the document's: what a step does to both.
-/
import Derived.Test.YthihladmifpokaaTf
namespace Go.Proofs.Ythihladmifpokaa
set_option maxRecDepth 100000
set_option linter.unusedSimpArgs false
open Go.RowKit


variable {w W W' : World} {r : Nat} {v : Value} {L M : List Mk} {p s f : Int} {z a x : Mk} {k : Nat}
theorem set_perm : ∀ {L : List Mk} {k : Nat}, L[k]? = some z → L.Nodup → (L.set k a).Perm (a :: L.filter (fun y => !decide (y = z)))
  | [], k, h, _ => by simp at h
  | l :: L, 0, h, hn => by
    obtain rfl : l = z := by simpa using h
    obtain ⟨h1, h2⟩ := List.nodup_cons.1 hn
    have h3 : L.filter (fun y => !decide (y = l)) = L := List.filter_eq_self.2 fun y hy => by
      have : ¬ y = l := fun e => h1 (e ▸ hy)
      simp [this]
    simp [h3]
  | l :: L, k + 1, h, hn => by
    obtain ⟨h1, h2⟩ := List.nodup_cons.1 hn
    have hz : L[k]? = some z := by simpa using h
    have hne : ¬ l = z := fun e => h1 (e ▸ List.mem_of_getElem? hz)
    have ih := set_perm hz h2
    simp only [List.set_cons_succ, List.filter_cons, hne, decide_false, Bool.not_false, if_true]
    exact (List.Perm.cons l ih).trans (List.Perm.swap a l _)
theorem less_keyL {a b c : Mk} (h1 : a.p = b.p) (h2 : a.s = b.s) : lessB a c = lessB b c := by unfold lessB; rw [h1, h2]
theorem less_keyR {a b c : Mk} (h1 : a.p = b.p) (h2 : a.s = b.s) : lessB c a = lessB c b := by unfold lessB; rw [h1, h2]
theorem mem_set' : ∀ {L : List Mk} {k : Nat} {y : Mk}, y ∈ L.set k a → y = a ∨ y ∈ L
  | [], k, y, h => by simp at h
  | l :: L, 0, y, h => by
    simp at h
    rcases h with h | h
    · exact .inl h
    · exact .inr (List.mem_cons_of_mem _ h)
  | l :: L, k + 1, y, h => by
    simp only [List.set_cons_succ, List.mem_cons] at h
    rcases h with h | h
    · exact .inr (by simp [h])
    · rcases mem_set' h with h | h
      · exact .inl h
      · exact .inr (List.mem_cons_of_mem _ h)
theorem Srt.set : ∀ {L : List Mk} {k : Nat}, Srt L → L[k]? = some z → a.p = z.p → a.s = z.s → Srt (L.set k a)
  | [], k, h, hz, _, _ => by simp at hz
  | l :: L, 0, h, hz, h1, h2 => by
    obtain rfl : l = z := by simpa using hz
    obtain ⟨h3, h4⟩ := List.pairwise_cons.1 h
    exact List.pairwise_cons.2 ⟨fun y hy => by rw [less_keyL h1 h2]; exact h3 y hy, h4⟩
  | l :: L, k + 1, h, hz, h1, h2 => by
    obtain ⟨h3, h4⟩ := List.pairwise_cons.1 h
    have hz' : L[k]? = some z := by simpa using hz
    refine List.pairwise_cons.2 ⟨fun y hy => ?_, Srt.set h4 hz' h1 h2⟩
    rcases mem_set' hy with rfl | hy
    · rw [less_keyR h1 h2]; exact h3 z (List.mem_of_getElem? hz')
    · exact h3 y hy
theorem posM_cons (x l : Mk) (L : List Mk) : posM x (l :: L) = if lessB l x = true then posM x L + 1 else 0 := by
  unfold posM
  rw [List.takeWhile_cons]
  cases lessB l x <;> simp
theorem key_pos : ∀ {L : List Mk}, Srt L → z ∈ L → z.p = x.p → z.s = x.s → L[posM x L]? = some z
  | l :: L, h, hz, h1, h2 => by
    obtain ⟨h3, h4⟩ := List.pairwise_cons.1 h
    have hzx : lessB z x = false := by rw [lessB_no]; omega
    rw [posM_cons]
    cases hl : lessB l x with
    | true =>
      rcases List.mem_cons.1 hz with e | hz'
      · rw [e] at hzx; rw [hzx] at hl; cases hl
      · simpa using key_pos h4 hz' h1 h2
    | false =>
      rcases List.mem_cons.1 hz with e | hz'
      · simp [e]
      · have h5 := h3 z hz'
        rw [less_keyR (c := l) h1 h2, hl] at h5
        cases h5
theorem insM_cons (x l : Mk) (L : List Mk) : insM x (l :: L) = if lessB l x = true then l :: insM x L else x :: l :: L := by
  unfold insM
  rw [posM_cons]
  cases lessB l x <;> simp
theorem insM_perm (x : Mk) (L : List Mk) : (insM x L).Perm (x :: L) := by
  unfold insM
  rw [List.append_assoc]
  have h : (L.take (posM x L) ++ x :: L.drop (posM x L)).Perm (x :: (L.take (posM x L) ++ L.drop (posM x L))) := List.perm_middle
  rw [List.take_append_drop] at h
  exact h
theorem Srt.ins : ∀ {L : List Mk}, Srt L → (∀ l ∈ L, ¬ (l.p = x.p ∧ l.s = x.s)) → Srt (insM x L)
  | [], _, _ => by simp [insM, posM, Srt]
  | l :: L, h, hk => by
    obtain ⟨h3, h4⟩ := List.pairwise_cons.1 h
    rw [insM_cons]
    cases hl : lessB l x with
    | true =>
      refine List.pairwise_cons.2 ⟨fun y hy => ?_, Srt.ins h4 fun y hy => hk y (List.mem_cons_of_mem _ hy)⟩
      rcases List.mem_cons.1 ((insM_perm x L).mem_iff.1 hy) with rfl | hy
      · exact hl
      · exact h3 y hy
    | false =>
      have hxl : lessB x l = true := by
        have := hk l (by simp)
        rw [lessB_no] at hl
        rw [lessB_iff]
        omega
      refine List.pairwise_cons.2 ⟨fun y hy => ?_, h⟩
      rcases List.mem_cons.1 hy with rfl | hy
      · exact hxl
      · exact less_trans hxl (h3 y hy)
theorem rputM_of (hp : L.Perm M) (hs : Srt L) (hk : ∀ l ∈ L, ¬ (l.p = x.p ∧ l.s = x.s)) : (rputM x L).1 = (if M.length = 256 then 5 else 0) ∧ (rputM x L).2.Perm (if M.length = 256 then M else M ++ [x]) ∧ Srt (rputM x L).2 := by
  unfold rputM
  rw [hp.length_eq]
  split
  · exact ⟨rfl, hp, hs⟩
  · refine ⟨rfl, (insM_perm x L).trans ?_, hs.ins hk⟩
    exact (List.Perm.cons x hp).trans (List.perm_append_singleton x M).symm
/-- A mark does the same to both. -/
theorem mark_rel (hn : M.Nodup) (hp : L.Perm M) (hs : Srt L) (p s f : Int) : (rmarkP p s f L).1 = (markP p s f M).1 ∧ (rmarkP p s f L).2.Perm (markP p s f M).2 ∧ Srt (rmarkP p s f L).2 := by
  cases hok : okM p s f with
  | false =>
    have h1 : rmarkP p s f L = (2, L) := by unfold rmarkP; rw [if_neg (by simp [hok])]
    rw [h1, markP_no hok]
    exact ⟨rfl, hp, hs⟩
  | true =>
    cases hq : placeOf p s M 0 with
    | some qz =>
      obtain ⟨q, z⟩ := qz
      obtain ⟨_, h1, h2, h3⟩ := placeOf_some hq
      rw [Nat.sub_zero] at h1
      have hzM := List.mem_of_getElem? h1
      have hzL := hp.mem_iff.2 hzM
      have h4 : L[posM ⟨p, s, f⟩ L]? = some z := key_pos hs hzL h2 h3
      have h5 : rmarkP p s f L = (0, L.set (posM ⟨p, s, f⟩ L) ⟨z.p, z.s, min z.f f⟩) := by
        unfold rmarkP
        rw [if_pos hok, h4]
        simp [h2, h3]
      rw [h5, markP_old hok hq]
      refine ⟨rfl, ?_, hs.set h4 rfl rfl⟩
      rw [show (⟨z.p, z.s, min z.f f⟩ : Mk) = ⟨p, s, min z.f f⟩ by rw [h2, h3]]
      exact (set_perm h4 hs.nodup).trans ((List.Perm.cons _ (hp.filter _)).trans (set_perm h1 hn).symm)
    | none =>
      have hk : ∀ l ∈ L, ¬ (l.p = p ∧ l.s = s) := fun l hl => placeOf_none hq l (hp.mem_iff.1 hl)
      have h5 : rmarkP p s f L = rputM ⟨p, s, f⟩ L := by
        unfold rmarkP
        rw [if_pos hok]
        cases h6 : L[posM ⟨p, s, f⟩ L]? with
        | none => rfl
        | some z => simp only [if_neg (hk z (List.mem_of_getElem? h6))]
      have h6 := rputM_of (x := ⟨p, s, f⟩) hp hs hk
      rw [h5]
      by_cases h7 : M.length = 256
      · rw [markP_full hok hq h7]
        simpa [h7] using h6
      · rw [markP_new hok hq h7]
        simpa [h7] using h6
theorem discL_perm (hp : L.Perm M) : (discL p s L).Perm (discL p s M) := hp.filter _
theorem disc_rel (hp : L.Perm M) (hs : Srt L) (p s : Int) : (discP p s L).1 = (discP p s M).1 ∧ (discP p s L).2.1 = (discP p s M).2.1 ∧ (discP p s L).2.2.Perm (discP p s M).2.2 ∧ Srt (discP p s L).2.2 := by
  unfold discP
  split
  · exact ⟨by rw [hp.length_eq, (discL_perm (p := p) (s := s) hp).length_eq], rfl, discL_perm hp, hs.filter _⟩
  · exact ⟨rfl, rfl, hp, hs⟩
/-- The document's Mark, any. -/
theorem rmark21 (h : Rp w r v L) : Calls Try.prog 21 #[P0 r, .int .i64 p, .int .i64 s, .int .i64 f] w fun e W => e = .returned (.int .i64 (rmarkP p s f L).1) ∧ (∃ u, Rp W r u (rmarkP p s f L).2 ∧ ∀ i, u.ownBlock = some i → v.ownBlock = some i ∨ w.heap.size ≤ i) ∧ Kept (r :: v.ownBlock.toList) w W := by
  cases hok : okM p s f with
  | true => exact rmark21_ok h hok
  | false =>
    have h1 : rmarkP p s f L = (2, L) := by unfold rmarkP; rw [if_neg (by simp [hok])]
    rw [h1]
    exact (rmark21_bad r w hok).mono fun e W ⟨h2, h3⟩ => by subst h3; exact ⟨h2, ⟨v, h, fun i hi => .inl hi⟩, Kept.refl _ _⟩
theorem rdisc22 (h : Rp w r v L) : Calls Try.prog 22 #[P0 r, .int .i64 p, .int .i64 s] w fun e W => e = .returned (.tuple #[.int .i64 (discP p s L).1, .int .i64 (discP p s L).2.1]) ∧ (∃ u, Rp W r u (discP p s L).2.2 ∧ ∀ i, u.ownBlock = some i → v.ownBlock = some i ∨ w.heap.size ≤ i) ∧ Kept (r :: v.ownBlock.toList) w W := by
  unfold discP
  cases hp : isPg p with
  | true => exact (rdisc22_ok h hp).mono fun e W ⟨h1, ⟨u, h2, h3⟩, h4⟩ => ⟨h1, ⟨u, h2, fun i hi => .inr (h3 i hi)⟩, h4.mono (by simp)⟩
  | false => exact (rdisc22_p r w hp).mono fun e W ⟨h2, h3⟩ => by subst h3; exact ⟨h2, ⟨v, h, fun i hi => .inl hi⟩, Kept.refl _ _⟩

end Go.Proofs.Ythihladmifpokaa
