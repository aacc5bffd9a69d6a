/-
  What is laid reads back as it was.
-/
import Derived.Test.YtmeajhdhiebkdaaDoorRcTake
namespace Go.Proofs.YtmeajhdhiebkdaaDoor.Rc
open Go.RowKit

theorem getD_mid (pre mid : List Int) (k : Nat) : (pre ++ mid).getD (pre.length + k) 0 = mid.getD k 0 := by
  simp [List.getD, List.getElem?_append_right]
theorem num_at4 (pre post : List Int) (n : Int) (o : Nat) (ho : pre.length = o) (h : 0 ≤ n ∧ n ≤ 2147483647) : numL (pre ++ (be 4 n ++ post)) o 4 = n := by
  subst ho
  have g0 : (pre ++ (be 4 n ++ post)).getD (pre.length + 0) 0 = n / 16777216 % 256 := (getD_mid _ _ 0).trans (by simp [be])
  have g1 : (pre ++ (be 4 n ++ post)).getD (pre.length + 1) 0 = n / 65536 % 256 := (getD_mid _ _ 1).trans (by simp [be])
  have g2 : (pre ++ (be 4 n ++ post)).getD (pre.length + 2) 0 = n / 256 % 256 := (getD_mid _ _ 2).trans (by simp [be])
  have g3 : (pre ++ (be 4 n ++ post)).getD (pre.length + 3) 0 = n % 256 := (getD_mid _ _ 3).trans (by simp [be])
  simp only [numL, numK, g0, g1, g2, g3]
  omega
theorem num_at1 (pre post : List Int) (n : Int) (o : Nat) (ho : pre.length = o) (h : 0 ≤ n ∧ n < 256) : numL (pre ++ (be 1 n ++ post)) o 1 = n := by
  subst ho
  have g0 : (pre ++ (be 1 n ++ post)).getD (pre.length + 0) 0 = n % 256 := (getD_mid _ _ 0).trans (by simp [be])
  simp only [numL, numK, g0]
  omega
theorem laidR_num1 (r : Rec) (h : Nat) (hp : 0 ≤ 16 * r.nd + r.pg ∧ 16 * r.nd + r.pg < 256) : numL (laidR r h) 1 1 = 16 * r.nd + r.pg := by
  have := num_at1 (be 1 (177 + h)) (be 4 r.ep ++ (be 4 r.ls ++ (be 4 r.ps ++ (halfB h r.bd ++ zs (64 - (laidD r h).length))))) (16 * r.nd + r.pg) 1 (be_len _ _) hp
  rw [← this]
  simp [laidR, secOf, laidD, laidH]
theorem laidR_num2 (r : Rec) (h : Nat) (hp : 0 ≤ r.ep ∧ r.ep ≤ 2147483647) : numL (laidR r h) 2 4 = r.ep := by
  have := num_at4 (be 1 (177 + h) ++ be 1 (16 * r.nd + r.pg)) (be 4 r.ls ++ (be 4 r.ps ++ (halfB h r.bd ++ zs (64 - (laidD r h).length)))) r.ep 2 (by simp [be_len]) hp
  refine Eq.trans ?_ this
  simp [laidR, secOf, laidD, laidH]
theorem laidR_num6 (r : Rec) (h : Nat) (hp : 0 ≤ r.ls ∧ r.ls ≤ 2147483647) : numL (laidR r h) 6 4 = r.ls := by
  have := num_at4 (be 1 (177 + h) ++ be 1 (16 * r.nd + r.pg) ++ be 4 r.ep) (be 4 r.ps ++ (halfB h r.bd ++ zs (64 - (laidD r h).length))) r.ls 6 (by simp [be_len]) hp
  refine Eq.trans ?_ this
  simp [laidR, secOf, laidD, laidH]
theorem laidR_num10 (r : Rec) (h : Nat) (hp : 0 ≤ r.ps ∧ r.ps ≤ 2147483647) : numL (laidR r h) 10 4 = r.ps := by
  have := num_at4 (be 1 (177 + h) ++ be 1 (16 * r.nd + r.pg) ++ be 4 r.ep ++ be 4 r.ls) (halfB h r.bd ++ zs (64 - (laidD r h).length)) r.ps 10 (by simp [be_len]) hp
  refine Eq.trans ?_ this
  simp [laidR, secOf, laidD, laidH]
theorem laidR_half (r : Rec) (h : Nat) (hh : h < 2) (hs : Byts 96 r.bd) : halfS (laidR r h) = halfB h r.bd := by
  have hl := (halfB_byts hh hs).len
  have e : laidR r h = laidH r h ++ (halfB h r.bd ++ zs (64 - (laidD r h).length)) := by simp [laidR, secOf, laidD]
  unfold halfS
  rw [e, List.drop_left' (laidH_len r h), List.take_left' hl]
theorem bet_laid (r : Rec) (hr : isRec r = true) (hs : Byts 96 r.bd) : betR (laidR r 0) (laidR r 1) = r := by
  simp only [isRec, isWrit, Bool.and_eq_true, decide_eq_true_eq] at hr
  obtain ⟨⟨n1, n2⟩, ⟨p1, p2⟩, ⟨e1, e2⟩, ⟨l1, l2⟩, s1, s2⟩ := hr
  have hb : halfB 0 r.bd ++ halfB 1 r.bd = r.bd := by
    have h2 : (r.bd.drop 48).take 48 = r.bd.drop 48 := List.take_of_length_le (by simp [hs.len])
    simp [halfB, h2]
  have q := laidR_num1 r 0 (by omega)
  refine Rec.ext' ?_ ?_ ?_ ?_ ?_ ?_
  · show numL (laidR r 0) 1 1 / 16 = _; omega
  · exact laidR_num2 r 0 (by omega)
  · exact laidR_num6 r 0 (by omega)
  · show numL (laidR r 0) 1 1 % 16 = _; omega
  · exact laidR_num10 r 0 (by omega)
  · show halfS (laidR r 0) ++ halfS (laidR r 1) = _
    rw [laidR_half r 0 (by omega) hs, laidR_half r 1 (by omega) hs, hb]
theorem get_laid (r : Rec) (hr : isRec r = true) (hs : Byts 96 r.bd) : getR (laidR r 0) (laidR r 1) = (r, 0) := by
  have e := bet_laid r hr hs
  simp [getR, e, hr]
theorem take_first : takeR (zs 64) = ((1, 0), 0) := by kernel_rfl
theorem take_laid (st ep : Int) (h : isHd st ep = true ∨ isWrit ep = true ∧ isWrit st = true) : takeR (puthR st ep).1 = ((st, ep), 0) ∧ (puthR st ep).2 = 0 := by
  by_cases hI : isHd st ep = true
  · have e : puthR st ep = (zs 64, 0) := by simp [puthR, hI]
    simp only [isHd, Bool.and_eq_true, decide_eq_true_eq] at hI
    obtain ⟨rfl, rfl⟩ := hI
    rw [e]
    exact ⟨take_first, rfl⟩
  · obtain ⟨hE, hS⟩ := h.resolve_left hI
    have e : puthR st ep = (secOf (be 1 179 ++ be 4 ep ++ be 4 st), 0) := by simp [puthR, hI, hE, hS]
    rw [e]
    refine ⟨?_, rfl⟩
    simp only [isWrit, decide_eq_true_eq] at hE hS
    have z : ¬ secOf (be 1 179 ++ be 4 ep ++ be 4 st) = zs 64 := by
      intro hz
      have h1 : (secOf (be 1 179 ++ be 4 ep ++ be 4 st))[0]? = (zs 64)[0]? := by rw [hz]
      have h2 : (zs 64)[0]? = some 0 := rfl
      rw [h2] at h1
      simp [secOf, be] at h1
    have x1 : numL (secOf (be 1 179 ++ be 4 ep ++ be 4 st)) 5 4 = st := by
      have := num_at4 (be 1 179 ++ be 4 ep) (zs (64 - (be 1 179 ++ be 4 ep ++ be 4 st).length)) st 5 (by simp [be_len]) (by omega)
      refine Eq.trans ?_ this
      simp [secOf]
    have x2 : numL (secOf (be 1 179 ++ be 4 ep ++ be 4 st)) 1 4 = ep := by
      have := num_at4 (be 1 179) (be 4 st ++ zs (64 - (be 1 179 ++ be 4 ep ++ be 4 st).length)) ep 1 (by simp [be_len]) (by omega)
      refine Eq.trans ?_ this
      simp [secOf]
    have hd : hdR (secOf (be 1 179 ++ be 4 ep ++ be 4 st)) = (st, ep) := by rw [hdR, if_neg z, x1, x2]
    unfold takeR
    rw [hd]
    show (if (puthR st ep).2 = 0 ∧ _ = (puthR st ep).1 then _ else _) = _
    rw [e]
    rw [if_pos ⟨rfl, rfl⟩]

end Go.Proofs.YtmeajhdhiebkdaaDoor.Rc
