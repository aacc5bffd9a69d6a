/-
  What follows of Put, Get and Stamp: sectors that are laid say their page, half, PSN and bytes; halves of unlike versions are not whole.
-/
import Derived.Test.YtkpkiibahfdomaaDoorPgStamp
namespace Go.Proofs.YtkpkiibahfdomaaDoor.Pg
open Go.RowKit

theorem laid_p (p h n : Int) (x : List Int) : pOf (laidL p h n x) = p % 256 := rfl
theorem laid_h (p h n : Int) (x : List Int) : hOf (laidL p h n x) = (161 + h) % 256 - 161 := rfl
theorem laid_half (p h n : Int) {x : List Int} (hx : x.length = 48) : halfL (laidL p h n x) = x := by
  unfold halfL laidL
  rw [List.append_assoc]
  simp [hx]
theorem laid_psn (p h n : Int) (x : List Int) (hn : 0 ≤ n ∧ n < 4294967296) : psnL (laidL p h n x) = n := by
  unfold psnL
  have e : psnK (laidL p h n x) 4 = (((0 * 256 + (n / 16777216 % 256).toNat) * 256 + (n / 65536 % 256).toNat) * 256 + (n / 256 % 256).toNat) * 256 + (n % 256).toNat := rfl
  rw [e]
  omega
theorem zs_psn : psnL (zs 64) = 0 := by rfl

theorem putL_ok {p n : Int} {s : List Int} (h : (putL p n s).2 = 0) : isPageB p = true ∧ isVer n s = true ∧ 0 ≤ n ∧ n ≤ 2147483647 := by
  unfold putL at h
  split at h
  · simp at h
  · next hb =>
    have hb : isPageB p = true ∧ isVer n s = true := by simpa using hb
    refine ⟨hb.1, hb.2, ?_⟩
    have := hb.2
    unfold isVer at this
    split at this
    · omega
    · simp [isWrit] at this; omega

/-- The two sectors that Put laid. -/
def fstL (p n : Int) (s : List Int) : List Int := if n = 0 then zs 64 else laidL p 0 n (s.take 48)
def sndL (p n : Int) (s : List Int) : List Int := if n = 0 then zs 64 else laidL p 1 n (s.drop 48)
theorem fst_byts {p n : Int} {s : List Int} (hs : Byts 96 s) : Byts 64 (fstL p n s) := by unfold fstL; split; exact zs_byts 64; exact laidL_byts (take48 hs)
theorem snd_byts {p n : Int} {s : List Int} (hs : Byts 96 s) : Byts 64 (sndL p n s) := by unfold sndL; split; exact zs_byts 64; exact laidL_byts (drop48 hs)
theorem putL_eq {p n : Int} {s : List Int} (h : (putL p n s).2 = 0) : (putL p n s).1 = fstL p n s ++ sndL p n s := by
  obtain ⟨h1, h2, _⟩ := putL_ok h
  unfold putL fstL sndL
  rw [h1, h2]
  simp
  split
  · exact zs2
  · rfl
theorem fst_psn {p n : Int} {s : List Int} (hn : 0 ≤ n ∧ n ≤ 2147483647) : psnL (fstL p n s) = n := by
  unfold fstL; split
  · next h => rw [zs_psn, h]
  · exact laid_psn _ _ _ _ (by omega)
theorem snd_psn {p n : Int} {s : List Int} (hn : 0 ≤ n ∧ n ≤ 2147483647) : psnL (sndL p n s) = n := by
  unfold sndL; split
  · next h => rw [zs_psn, h]
  · exact laid_psn _ _ _ _ (by omega)
theorem fst_page {p n : Int} {s : List Int} (hn : n ≠ 0) (hp : isPageB p = true) : pOf (fstL p n s) = p := by
  have : 0 ≤ p ∧ p < 16 := by simpa [isPageB] using hp
  unfold fstL; rw [if_neg hn, laid_p]; omega
theorem snd_page {p n : Int} {s : List Int} (hn : n ≠ 0) (hp : isPageB p = true) : pOf (sndL p n s) = p := by
  have : 0 ≤ p ∧ p < 16 := by simpa [isPageB] using hp
  unfold sndL; rw [if_neg hn, laid_p]; omega

/-- Sectors that are whole are those that Put lays for what they say. -/
theorem get_ok {p : Int} {x y : List Int} (hx : Byts 64 x) (hy : Byts 64 y) (h : (getL p x y).2 = 0) : (putL p (psnL x) (halfL x ++ halfL y)).2 = 0 ∧ x = fstL p (psnL x) (halfL x ++ halfL y) ∧ y = sndL p (psnL x) (halfL x ++ halfL y) := by
  unfold getL at h
  split at h
  · simp at h
  · split at h
    · simp at h
    · next hb =>
      have hb := not_or.1 hb
      have h1 : (putL p (psnL x) (halfL x ++ halfL y)).2 = 0 := Classical.not_not.1 hb.1
      have h2 : (putL p (psnL x) (halfL x ++ halfL y)).1 = x ++ y := Classical.not_not.1 hb.2
      rw [putL_eq h1] at h2
      have := List.append_inj h2 (by rw [(fst_byts (halves_byts hx hy)).len, hx.len])
      exact ⟨h1, this.1.symm, this.2.symm⟩
theorem whole_psn {p : Int} {x y : List Int} (hx : Byts 64 x) (hy : Byts 64 y) (h : (getL p x y).2 = 0) : psnL x = psnL y := by
  obtain ⟨h1, _, h3⟩ := get_ok hx hy h
  have := snd_psn (p := p) (s := halfL x ++ halfL y) (putL_ok h1).2.2
  rw [← h3] at this
  exact this.symm
theorem whole_page {p : Int} {x y : List Int} (hx : Byts 64 x) (hy : Byts 64 y) (h : (getL p x y).2 = 0) (hn : psnL x ≠ 0) : pOf x = p ∧ pOf y = p := by
  obtain ⟨h1, h2, h3⟩ := get_ok hx hy h
  have hp := (putL_ok h1).1
  have e1 := fst_page (s := halfL x ++ halfL y) hn hp
  have e2 := snd_page (s := halfL x ++ halfL y) hn hp
  rw [← h2] at e1
  rw [← h3] at e2
  exact ⟨e1, e2⟩

theorem torn1 {p q n m : Int} {s t : List Int} (hs : Byts 96 s) (ht : Byts 96 t) (h1 : (putL p n s).2 = 0) (h2 : (putL q m t).2 = 0) (hne : n ≠ m) : decide ((getL p (fstL p n s) (sndL q m t)).2 = 0) = false := by
  apply decide_eq_false
  intro h
  have := whole_psn (fst_byts hs) (snd_byts ht) h
  rw [fst_psn (putL_ok h1).2.2, snd_psn (putL_ok h2).2.2] at this
  exact hne this
theorem torn2 {p q n m : Int} {s t : List Int} (hs : Byts 96 s) (ht : Byts 96 t) (h1 : (putL p n s).2 = 0) (h2 : (putL q m t).2 = 0) (hne : n ≠ m) : decide ((getL p (fstL q m t) (sndL p n s)).2 = 0) = false := by
  apply decide_eq_false
  intro h
  have := whole_psn (fst_byts ht) (snd_byts hs) h
  rw [fst_psn (putL_ok h2).2.2, snd_psn (putL_ok h1).2.2] at this
  exact hne this.symm
theorem torn3 {p q n : Int} {s : List Int} (hs : Byts 96 s) (h1 : (putL p n s).2 = 0) (hn : n ≠ 0) (hpq : p ≠ q) : decide ((getL q (fstL p n s) (sndL p n s)).2 = 0) = false := by
  apply decide_eq_false
  intro h
  have := whole_page (fst_byts hs) (snd_byts hs) h (by rw [fst_psn (putL_ok h1).2.2]; exact hn)
  rw [fst_page hn (putL_ok h1).1] at this
  exact hpq this.1
theorem torn4 {p q n m : Int} {s t : List Int} (hs : Byts 96 s) (ht : Byts 96 t) (h1 : (putL p n s).2 = 0) (h2 : (putL q m t).2 = 0) (hn : n ≠ 0) (hpq : p ≠ q) : decide ((getL p (fstL p n s) (sndL q m t)).2 = 0) = false := by
  by_cases hnm : n = m
  · apply decide_eq_false
    intro h
    have := whole_page (fst_byts hs) (snd_byts ht) h (by rw [fst_psn (putL_ok h1).2.2]; exact hn)
    rw [snd_page (by rw [← hnm]; exact hn) (putL_ok h2).1] at this
    exact hpq this.2.symm
  · exact torn1 hs ht h1 h2 hnm
theorem stamp_zs : stampL (zs 64) = ((0, 0, 0), false) := by rfl
theorem stamp_laid {p n : Int} {h : Int} {x : List Int} (hp : isPageB p = true) (hh : h = 0 ∨ h = 1) (hn : 1 ≤ n ∧ n ≤ 2147483647) (hx : x.length = 48) : stampL (laidL p h n x) = ((p, h, n), true) := by
  have hp' : 0 ≤ p ∧ p < 16 := by simpa [isPageB] using hp
  have e1 : pOf (laidL p h n x) = p := by rw [laid_p]; omega
  have e2 : hOf (laidL p h n x) = h := by rw [laid_h]; omega
  have e3 := laid_psn p h n x (by omega)
  have e4 := laid_half p h n hx
  unfold stampL isStampB
  rw [e1, e2, e3, e4, hp]
  have e5 : isWrit n = true := by simp [isWrit]; omega
  have e6 : decide (h = 0 ∨ h = 1) = true := decide_eq_true hh
  rw [e5, e6]
  simp
theorem stamp_fst {p n : Int} {s : List Int} (hs : Byts 96 s) (h1 : (putL p n s).2 = 0) : stampL (fstL p n s) = if n = 0 then ((0, 0, 0), false) else ((p, 0, n), true) := by
  obtain ⟨a1, a2, a3⟩ := putL_ok h1
  unfold fstL
  by_cases h : n = 0
  · simp only [h, if_true]; exact stamp_zs
  · rw [if_neg h, if_neg h]
    exact stamp_laid a1 (.inl rfl) (by omega) (take48 hs).len
theorem stamp_snd {p n : Int} {s : List Int} (hs : Byts 96 s) (h1 : (putL p n s).2 = 0) : stampL (sndL p n s) = if n = 0 then ((0, 0, 0), false) else ((p, 1, n), true) := by
  obtain ⟨a1, a2, a3⟩ := putL_ok h1
  unfold sndL
  by_cases h : n = 0
  · simp only [h, if_true]; exact stamp_zs
  · rw [if_neg h, if_neg h]
    exact stamp_laid a1 (.inr rfl) (by omega) (drop48 hs).len

end Go.Proofs.YtkpkiibahfdomaaDoor.Pg
