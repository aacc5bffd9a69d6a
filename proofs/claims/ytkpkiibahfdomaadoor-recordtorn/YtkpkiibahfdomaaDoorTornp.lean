/-
  What follows of torn records.
-/
import Derived.Test.YtkpkiibahfdomaaDoorGetsa
import Derived.Test.YtkpkiibahfdomaaDoorRpure
import Derived.Test.YtkpkiibahfdomaaDoorPgHalf
namespace Go.Proofs.YtkpkiibahfdomaaDoor
open Go.RowKit

/-- The same but for the bodies. -/
def hdsEq (a b : Rec) : Prop := a.nd = b.nd ∧ a.ep = b.ep ∧ a.ls = b.ls ∧ a.pg = b.pg ∧ a.ps = b.ps
def withBd (b : Rec) (s : List Int) : Rec := ⟨b.nd, b.ep, b.ls, b.pg, b.ps, s⟩
theorem recEq_hds (a b : Rec) : recEq (withBd b a.bd) a = true ↔ hdsEq a b := by
  unfold recEq withBd hdsEq
  simp only [Bool.and_eq_true, decide_eq_true_eq]
  constructor
  · rintro ⟨h1, h2, h3, h4, h5, -⟩; exact ⟨h1.symm, h2.symm, h3.symm, h4.symm, h5.symm⟩
  · rintro ⟨h1, h2, h3, h4, h5⟩; exact ⟨h1.symm, h2.symm, h3.symm, h4.symm, h5.symm, trivial⟩
theorem laid_hds {a b : Rec} (ha : isRec a = true) (hb : isRec b = true) {h k : Nat} (e : laidR a h = laidR b k) : hdsEq a b := by
  simp only [isRec, isWrit, Bool.and_eq_true, decide_eq_true_eq] at ha hb
  obtain ⟨⟨n1, n2⟩, ⟨p1, p2⟩, ⟨e1, e2⟩, ⟨l1, l2⟩, s1, s2⟩ := ha
  obtain ⟨⟨m1, m2⟩, ⟨q1, q2⟩, ⟨f1, f2⟩, ⟨k1, k2⟩, t1, t2⟩ := hb
  have a1 := laidR_num1 a h (by omega)
  have a2 := laidR_num2 a h (by omega)
  have a6 := laidR_num6 a h (by omega)
  have a10 := laidR_num10 a h (by omega)
  have b1 := laidR_num1 b k (by omega)
  have b2 := laidR_num2 b k (by omega)
  have b6 := laidR_num6 b k (by omega)
  have b10 := laidR_num10 b k (by omega)
  rw [e] at a1 a2 a6 a10
  refine ⟨?_, ?_, ?_, ?_, ?_⟩ <;> omega
theorem hdsEq.symm {a b : Rec} (h : hdsEq a b) : hdsEq b a := ⟨h.1.symm, h.2.1.symm, h.2.2.1.symm, h.2.2.2.1.symm, h.2.2.2.2.symm⟩
theorem hdsEq.trans {a b c : Rec} (h : hdsEq a b) (k : hdsEq b c) : hdsEq a c := ⟨h.1.trans k.1, h.2.1.trans k.2.1, h.2.2.1.trans k.2.2.1, h.2.2.2.1.trans k.2.2.2.1, h.2.2.2.2.trans k.2.2.2.2⟩
theorem whole_parts {x y : List Int} (hx : Byts 64 x) (hy : Byts 64 y) (h : (getR x y).2 = 0) : isRec (betR x y) = true ∧ laidR (betR x y) 0 = x ∧ laidR (betR x y) 1 = y := by
  unfold getR at h
  split at h
  · next hc =>
    have hb := (betR_ok hx hy).bd
    have l0 := (laidR_byts (r := betR x y) (h := 0) (by omega) hb).len
    obtain ⟨e0, e1⟩ := List.append_inj hc.2 (by rw [l0, hx.len])
    exact ⟨hc.1, e0, e1⟩
  · cases h
theorem whole_torn {a b : Rec} (ha : isRec a = true) (hb : isRec b = true) (sa : Byts 96 a.bd) (sb : Byts 96 b.bd) (hne : ¬ hdsEq a b) : decide ((getR (laidR a 0) (laidR b 1)).2 = 0) = false := by
  apply decide_eq_false
  intro h
  obtain ⟨hI, e0, e1⟩ := whole_parts (laidR_byts (by omega) sa) (laidR_byts (by omega) sb) h
  exact hne ((laid_hds hI ha e0).symm.trans (laid_hds hI hb e1))
theorem whole_first {x y : List Int} (hx : Byts 64 x) (hy : Byts 64 y) {c : Int} (hc : x[0]? = some c) (hne : c ≠ 177) : decide ((getR x y).2 = 0) = false := by
  apply decide_eq_false
  intro h
  obtain ⟨hI, e0, e1⟩ := whole_parts hx hy h
  have := laid_first (betR x y) (h := 0) (by omega)
  rw [e0, hc] at this
  exact hne (by simpa using this)
theorem getD_first {s : List Int} {c : Int} (h : s[0]? = some c) : s.getD 0 0 = c := by
  simp [List.getD, h]
theorem stamp_rec (r : Rec) {h : Nat} (hh : h < 2) : Pg.stampL (laidR r h) = ((0, 0, 0), false) := by
  unfold Pg.stampL
  rw [if_neg]
  rintro ⟨hb, -⟩
  have e := getD_first (laid_first r hh)
  simp only [Pg.isStampB, Pg.hOf, e, Bool.and_eq_true, decide_eq_true_eq] at hb
  have := hb.2.1
  omega
theorem puth_byte (st ep : Int) : (puthR st ep).1[0]? = some 0 ∨ (puthR st ep).1[0]? = some 179 := by
  unfold puthR
  split
  · exact .inl rfl
  · split
    · right; simp [secOf, be]
    · exact .inl rfl
theorem take_rec (r : Rec) {h : Nat} (hh : h < 2) : takeR (laidR r h) = ((0, 0), 12) := by
  unfold takeR
  rw [if_neg]
  rintro ⟨-, e⟩
  have h1 := laid_first r hh
  have h2 := puth_byte (hdR (laidR r h)).1 (hdR (laidR r h)).2
  rw [← e, h1] at h2
  simp only [Option.some.injEq] at h2
  omega
theorem page_rec (p : Int) (r : Rec) (hs : Byts 96 r.bd) : decide ((Pg.getL p (laidR r 0) (laidR r 1)).2 = 0) = false := by
  apply decide_eq_false
  intro h
  obtain ⟨-, e, -⟩ := Pg.get_ok (laidR_byts (by omega) hs) (laidR_byts (by omega) hs) h
  have h1 := laid_first r (h := 0) (by omega)
  rw [e] at h1
  unfold Pg.fstL at h1
  split at h1
  · cases h1
  · cases h1
theorem fst_first {p n : Int} {s : List Int} (hn : n ≠ 0) : (Pg.fstL p n s)[0]? = some 161 := by
  unfold Pg.fstL
  rw [if_neg hn]
  rfl
theorem st_page {x : List Int} (hx : Byts 64 x) (hc : x[0]? = some 161) : stR x = (zrec, 0, false) := by
  have h0 := okH_c hx (h := 0) (by omega) hc (by omega)
  have h1 := okH_c hx (h := 1) (by omega) hc (by omega)
  simp [stR, h0, h1]

end Go.Proofs.YtkpkiibahfdomaaDoor
