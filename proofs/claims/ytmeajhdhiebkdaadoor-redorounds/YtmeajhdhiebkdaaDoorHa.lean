/-
  A device that holds what its log has flushed: what is read of it.
-/
import Derived.Test.YtmeajhdhiebkdaaDoorLw
import Derived.Test.YtmeajhdhiebkdaaDoorRcPure
namespace Go.Proofs.YtmeajhdhiebkdaaDoor
set_option maxRecDepth 100000
open Go.RowKit

/-- A record as this log's own: its place in the row. -/
structure Own (L : Lo) (k : Nat) (r : Rc.Rec) : Prop where
  nd : r.nd = L.nd
  ep : r.ep = L.ep
  ls : r.ls = L.st + k
  pg : 0 ≤ r.pg ∧ r.pg < L.J.p
  ok : Rc.isRec r = true
  bd : Rc.Byts 96 r.bd
/-- What the places say: the flushed records, and nothing that follows them. -/
structure Hol (D : Dv.Dev) (L : Lo) : Prop where
  cut : D.set = false
  len : (D.S.length : Int) = L.J.sectors.1
  ref : D.ref L.nd L.ep true = 0
  may : L.J.may = true
  node : 0 ≤ L.nd ∧ L.nd < L.J.n
  st : 1 ≤ L.st
  nx : L.st + L.R.length ≤ 2147483647
  fl : L.fl ≤ L.R.length
  many : (L.R.length : Int) ≤ L.J.l
  ep : 1 ≤ L.ep ∧ L.ep ≤ 2147483647
  recs : ∀ k r, L.R[k]? = some r → Own L k r
  hd : ∃ e, e ≤ L.ep ∧ Rc.takeR (D.read (L.J.head L.nd).1).1 = ((L.st, e), 0)
  yes : ∀ k r, k < L.fl → L.R[k]? = some r → gotA D L.J L.nd (L.st + k) = (r, 0)
  no : ∀ s, L.st + L.fl ≤ s → s < L.st + L.J.l → s ≤ 2147483647 → (gotA D L.J L.nd s).2 = 0 → (gotA D L.J L.nd s).1.ls < s
theorem Hol.stand {D : Dv.Dev} {L : Lo} (h : Hol D L) : ∀ (m k : Nat) (a : Rc.Rec), k ≤ L.fl → k + m = laidN L.J L.st → a.ls = L.st + k - 1 → a.nd = L.nd → a.ep ≤ L.ep →
    standF L.J.p a (laidF D L.J L.nd (L.st + k) m) = (L.R.take L.fl).drop k := by
  have hfl := h.fl
  have hnx := h.nx
  have hmany := h.many
  have hN : (laidN L.J L.st : Int) = min (L.st + L.J.l) 2147483647 - L.st := by unfold laidN; omega
  intro m
  induction m with
  | zero =>
    intro k a hk hm _ _ _
    rw [laidF, standF, List.drop_eq_nil_of_le (by rw [List.length_take]; omega)]
  | succ m ih =>
    intro k a hk hm h1 h2 h3
    by_cases hlt : k < L.fl
    · obtain ⟨r, hr⟩ : ∃ r, L.R[k]? = some r := ⟨_, List.getElem?_eq_getElem (by omega)⟩
      have hg := h.yes k r hlt hr
      have hO := h.recs k r hr
      rw [laidF, hg, if_pos rfl, standF]
      have h4 : (decide (L.J.p ≤ r.pg) || !Rc.folB a r) = false := by
        have e1 := hO.ls
        have e2 := hO.pg
        have e3 := hO.nd
        have e4 := hO.ep
        simp [Rc.folB]
        refine ⟨by omega, by omega, by omega, by omega, by omega⟩
      rw [h4, if_neg (by simp)]
      have h5 := ih (k + 1) r (by omega) (by omega) (by have := hO.ls; omega) hO.nd (by rw [hO.ep]; omega)
      rw [show L.st + ((k + 1 : Nat) : Int) = L.st + k + 1 by omega] at h5
      rw [h5]
      have h6 : (L.R.take L.fl)[k]? = some r := by rw [List.getElem?_take_of_lt hlt]; exact hr
      obtain ⟨hl, he⟩ := List.getElem?_eq_some_iff.1 h6
      rw [List.drop_eq_getElem_cons hl, he]
    · obtain rfl : k = L.fl := by omega
      rw [List.drop_eq_nil_of_le (by rw [List.length_take]; omega), laidF]
      by_cases hc : (gotA D L.J L.nd (L.st + L.fl)).2 = 0
      · rw [if_pos hc, standF]
        have h4 := h.no (L.st + L.fl) (by omega) (by omega) (by omega) hc
        have h5 : Rc.folB a (gotA D L.J L.nd (L.st + L.fl)).1 = false := by
          simp [Rc.folB]
          omega
        rw [h5]
        simp
      · rw [if_neg hc, standF]
theorem Hol.look {D : Dv.Dev} {L : Lo} (h : Hol D L) : lookR D L.J L.nd true = (L.st, L.R.take L.fl, 0) := by
  obtain ⟨e, he, ht⟩ := h.hd
  have hh : (L.J.head L.nd).2 = 0 := by
    unfold Ar.Job.head
    have := h.node
    rw [h.may, if_pos (by simp [Ar.below]; omega)]
  have hl := h.len
  unfold lookR
  rw [if_neg (by simp [hh]; omega), ht, if_neg (by simp)]
  have hs := h.stand (laidN L.J L.st) 0 (ahead0 L.nd e L.st) (by omega) (by omega) (by simp [ahead0]) rfl he
  simp only [standS, laidS]
  simp at hs
  rw [hs]

end Go.Proofs.YtmeajhdhiebkdaaDoor
