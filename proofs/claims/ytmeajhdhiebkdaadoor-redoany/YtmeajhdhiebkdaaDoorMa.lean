/-
  Flush and Cut of a device that holds its log.
-/
import Derived.Test.YtmeajhdhiebkdaaDoorLw
import Derived.Test.YtmeajhdhiebkdaaDoorRcPure

/-
  A device that holds what its log has flushed: what is read of it.
-/
namespace Go.Proofs.YtmeajhdhiebkdaaDoor
set_option maxRecDepth 100000
open Go.RowKit

/-- A record as this log's own: its place in the row. -/
structure Own (L : Lo) (k : Nat) (r : Rc.Rec) : Prop where
  nd : r.nd = L.nd
  ep : r.ep = L.ep
  ls : r.ls = L.st + k
  pg : 0 ≤ r.pg ∧ r.pg < L.J.p
  ok : Rc.isRec r = true
  bd : Rc.Byts 96 r.bd
/-- What the places say: the flushed records, and nothing that follows them. -/
structure Hol (D : Dv.Dev) (L : Lo) : Prop where
  cut : D.set = false
  len : (D.S.length : Int) = L.J.sectors.1
  ref : D.ref L.nd L.ep true = 0
  may : L.J.may = true
  node : 0 ≤ L.nd ∧ L.nd < L.J.n
  st : 1 ≤ L.st
  nx : L.st + L.R.length ≤ 2147483647
  fl : L.fl ≤ L.R.length
  many : (L.R.length : Int) ≤ L.J.l
  ep : 1 ≤ L.ep ∧ L.ep ≤ 2147483647
  recs : ∀ k r, L.R[k]? = some r → Own L k r
  hd : ∃ e, e ≤ L.ep ∧ Rc.takeR (D.read (L.J.head L.nd).1).1 = ((L.st, e), 0)
  yes : ∀ k r, k < L.fl → L.R[k]? = some r → gotA D L.J L.nd (L.st + k) = (r, 0)
  no : ∀ s, L.st + L.fl ≤ s → s < L.st + L.J.l → s ≤ 2147483647 → (gotA D L.J L.nd s).2 = 0 → (gotA D L.J L.nd s).1.ls < s
theorem Hol.stand {D : Dv.Dev} {L : Lo} (h : Hol D L) : ∀ (m k : Nat) (a : Rc.Rec), k ≤ L.fl → k + m = laidN L.J L.st → a.ls = L.st + k - 1 → a.nd = L.nd → a.ep ≤ L.ep →
    standF L.J.p a (laidF D L.J L.nd (L.st + k) m) = (L.R.take L.fl).drop k := by
  have hfl := h.fl
  have hnx := h.nx
  have hmany := h.many
  have hN : (laidN L.J L.st : Int) = min (L.st + L.J.l) 2147483647 - L.st := by unfold laidN; omega
  intro m
  induction m with
  | zero =>
    intro k a hk hm _ _ _
    rw [laidF, standF, List.drop_eq_nil_of_le (by rw [List.length_take]; omega)]
  | succ m ih =>
    intro k a hk hm h1 h2 h3
    by_cases hlt : k < L.fl
    · obtain ⟨r, hr⟩ : ∃ r, L.R[k]? = some r := ⟨_, List.getElem?_eq_getElem (by omega)⟩
      have hg := h.yes k r hlt hr
      have hO := h.recs k r hr
      rw [laidF, hg, if_pos rfl, standF]
      have h4 : (decide (L.J.p ≤ r.pg) || !Rc.folB a r) = false := by
        have e1 := hO.ls
        have e2 := hO.pg
        have e3 := hO.nd
        have e4 := hO.ep
        simp [Rc.folB]
        refine ⟨by omega, by omega, by omega, by omega, by omega⟩
      rw [h4, if_neg (by simp)]
      have h5 := ih (k + 1) r (by omega) (by omega) (by have := hO.ls; omega) hO.nd (by rw [hO.ep]; omega)
      rw [show L.st + ((k + 1 : Nat) : Int) = L.st + k + 1 by omega] at h5
      rw [h5]
      have h6 : (L.R.take L.fl)[k]? = some r := by rw [List.getElem?_take_of_lt hlt]; exact hr
      obtain ⟨hl, he⟩ := List.getElem?_eq_some_iff.1 h6
      rw [List.drop_eq_getElem_cons hl, he]
    · obtain rfl : k = L.fl := by omega
      rw [List.drop_eq_nil_of_le (by rw [List.length_take]; omega), laidF]
      by_cases hc : (gotA D L.J L.nd (L.st + L.fl)).2 = 0
      · rw [if_pos hc, standF]
        have h4 := h.no (L.st + L.fl) (by omega) (by omega) (by omega) hc
        have h5 : Rc.folB a (gotA D L.J L.nd (L.st + L.fl)).1 = false := by
          simp [Rc.folB]
          omega
        rw [h5]
        simp
      · rw [if_neg hc, standF]
theorem Hol.look {D : Dv.Dev} {L : Lo} (h : Hol D L) : lookR D L.J L.nd true = (L.st, L.R.take L.fl, 0) := by
  obtain ⟨e, he, ht⟩ := h.hd
  have hh : (L.J.head L.nd).2 = 0 := by
    unfold Ar.Job.head
    have := h.node
    rw [h.may, if_pos (by simp [Ar.below]; omega)]
  have hl := h.len
  unfold lookR
  rw [if_neg (by simp [hh]; omega), ht, if_neg (by simp)]
  have hs := h.stand (laidN L.J L.st) 0 (ahead0 L.nd e L.st) (by omega) (by omega) (by simp [ahead0]) rfl he
  simp only [standS, laidS]
  simp at hs
  rw [hs]

end Go.Proofs.YtmeajhdhiebkdaaDoor

/-
  What Append, Flush and Cut leave of a device that holds its log.
-/
namespace Go.Proofs.YtmeajhdhiebkdaaDoor
set_option maxRecDepth 100000
open Go.RowKit

theorem mod_inj {a b l : Int} (hl : 0 < l) (h : a % l = b % l) (h1 : a - b < l) (h2 : b - a < l) : a = b := by
  have ea := Int.mul_ediv_add_emod a l
  have eb := Int.mul_ediv_add_emod b l
  rcases Int.lt_trichotomy (a / l) (b / l) with hx | hx | hx
  · have h3 : l * (a / l + 1) ≤ l * (b / l) := Int.mul_le_mul_of_nonneg_left (by omega) (by omega)
    rw [Int.mul_add, Int.mul_one] at h3
    omega
  · rw [hx] at ea
    omega
  · have h3 : l * (b / l + 1) ≤ l * (a / l) := Int.mul_le_mul_of_nonneg_left (by omega) (by omega)
    rw [Int.mul_add, Int.mul_one] at h3
    omega
/-- The place of a number. -/
def plc (J : Ar.Job) (nd s : Int) : Int := 9 + nd * (1 + 2 * J.l) + 1 + 2 * ((s - 1) % J.l)
theorem rec_plc {J : Ar.Job} {nd s : Int} (hm : J.may = true) (hn : 0 ≤ nd ∧ nd < J.n) (hs : 1 ≤ s ∧ s ≤ 2147483647) : (J.record nd s).1 = plc J nd s := by
  unfold Ar.Job.record plc
  rw [if_pos (by simp [hm, Ar.below, Ar.lsnB]; omega)]
theorem head_plc {J : Ar.Job} {nd : Int} (hm : J.may = true) (hn : 0 ≤ nd ∧ nd < J.n) : (J.head nd).1 = 9 + nd * (1 + 2 * J.l) := by
  unfold Ar.Job.head
  rw [if_pos (by simp [hm, Ar.below]; omega)]
theorem plc_in {J : Ar.Job} {nd s : Int} (hm : J.may = true) (hn : 0 ≤ nd ∧ nd < J.n) : 0 ≤ 9 + nd * (1 + 2 * J.l) ∧ 9 + nd * (1 + 2 * J.l) < plc J nd s ∧ plc J nd s + 1 < J.sectors.1 := by
  have hm' := hm
  simp only [Ar.Job.may, decide_eq_true_eq] at hm'
  have h1 : 0 ≤ nd * (1 + 2 * J.l) := Int.mul_nonneg (by omega) (by omega)
  have h2 : (nd + 1) * (1 + 2 * J.l) ≤ J.n * (1 + 2 * J.l) := Int.mul_le_mul_of_nonneg_right (by omega) (by omega)
  rw [Int.add_mul, Int.one_mul] at h2
  have h3 := Int.emod_nonneg (s - 1) (b := J.l) (by omega)
  have h4 := Int.emod_lt_of_pos (s - 1) (b := J.l) (by omega)
  have e : J.sectors.1 = J.p * 2 + (J.n * (1 + 2 * J.l) + 9) := by unfold Ar.Job.sectors Ar.Job.L; rw [if_pos hm]
  rw [e]
  unfold plc
  omega
theorem plc_inj {J : Ar.Job} {nd s t : Int} (hm : J.may = true) (h : plc J nd s = plc J nd t) (h1 : s - t < J.l) (h2 : t - s < J.l) : s = t := by
  simp only [Ar.Job.may, decide_eq_true_eq] at hm
  unfold plc at h
  have := mod_inj (a := s - 1) (b := t - 1) (l := J.l) (by omega) (by omega) (by omega) (by omega)
  omega
theorem plc_wrap {J : Ar.Job} {nd s : Int} : plc J nd (s + J.l) = plc J nd s := by
  unfold plc
  rw [show s + J.l - 1 = s - 1 + J.l by omega, Int.add_emod_right]
theorem puts1 {D : Dv.Dev} (h : D.set = false) (k : Nat) (x : List Int) : D.puts k [x] = { D with S := D.S.set k x, done := wrap64 (D.done + 1) } := by
  simp [Dv.Dev.puts, Dv.Dev.step, h]
theorem puts2 {D : Dv.Dev} (h : D.set = false) (k : Nat) (x y : List Int) : D.puts k [x, y] = { D with S := (D.S.set k x).set (k + 1) y, done := wrap64 (wrap64 (D.done + 1) + 1) } := by
  simp [Dv.Dev.puts, Dv.Dev.step, h]
theorem ref_hasS {D : Dv.Dev} {x ep : Int} (h : D.ref x ep true = 0) {b : Bool} (hb : b = true) : D.ref x ep b = 0 := by rw [hb]; exact h
theorem read_set {D D' : Dv.Dev} {k : Nat} {v : List Int} (hS : D'.S = D.S.set k v) (x : Int) (hx : 0 ≤ x) : D'.read x = if x = k ∧ k < D.S.length then (v, 0) else D.read x := by
  unfold Dv.Dev.read
  rw [hS, List.length_set]
  by_cases hk : x = k ∧ k < D.S.length
  · rw [if_pos hk, if_pos (by simp [Dv.hasS]; omega)]
    have : x.toNat = k := by omega
    simp [List.getD_eq_getElem?_getD, this, hk.2]
  · rw [if_neg hk]
    split
    · rename_i hh
      simp [Dv.hasS] at hh
      simp only [List.getD_eq_getElem?_getD, List.getElem?_set]
      rw [if_neg (by omega)]
    · rfl
theorem Hol.app {D : Dv.Dev} {L : Lo} (h : Hol D L) (p ps : Int) (bd : List Int) (hb : Rc.Byts 96 bd) : Hol D (L.app p ps bd).1 := by
  unfold Lo.app
  split
  · exact h
  · rename_i hm
    split
    · exact h
    · rename_i hr
      have hm' := h.may
      simp only [Ar.Job.may, decide_eq_true_eq] at hm'
      simp only [Lo.mayA, Bool.and_eq_false_iff, decide_eq_false_iff_not, not_or, Decidable.not_not] at hm
      have hnx := h.nx
      have hmany := h.many
      have hst := h.st
      have hr2 : ¬ L.st + L.R.length = 2147483647 := by
        intro e
        unfold Lo.room at hr
        rw [if_pos e] at hr
        exact hr rfl
      have hr3 : ¬ L.J.l - L.R.length = 0 := by
        unfold Lo.room at hr
        rw [if_neg hr2] at hr
        exact hr
      refine ⟨h.cut, h.len, h.ref, h.may, h.node, h.st, ?_, ?_, ?_, h.ep, ?_, h.hd, ?_, h.no⟩
      · show L.st + ((L.R ++ [L.recN p ps bd]).length : Int) ≤ _
        rw [List.length_append]; simp; omega
      · show L.fl ≤ (L.R ++ [L.recN p ps bd]).length
        rw [List.length_append]; have := h.fl; omega
      · show ((L.R ++ [L.recN p ps bd]).length : Int) ≤ L.J.l
        rw [List.length_append]; simp; omega
      · intro k r hk
        replace hk : (L.R ++ [L.recN p ps bd])[k]? = some r := hk
        by_cases hlt : k < L.R.length
        · rw [List.getElem?_append_left hlt] at hk
          have := h.recs k r hk
          exact ⟨this.nd, this.ep, this.ls, this.pg, this.ok, this.bd⟩
        · rw [List.getElem?_append_right (by omega)] at hk
          have hk0 : k - L.R.length = 0 := by
            have := (List.getElem?_eq_some_iff.1 hk).1
            simp at this
            omega
          rw [hk0] at hk
          simp at hk
          subst hk
          have hn := h.node
          have he := h.ep
          refine ⟨rfl, rfl, ?_, ?_, ?_, hb⟩
          · show L.st + (L.R.length : Int) = L.st + (k : Int)
            omega
          · show 0 ≤ p ∧ p < L.J.p
            omega
          · have e1 : decide (0 ≤ L.nd ∧ L.nd < 8) = true := decide_eq_true (by omega)
            have e2 : decide (0 ≤ p ∧ p < 16) = true := decide_eq_true (by omega)
            have e3 : decide (1 ≤ L.ep ∧ L.ep ≤ 2147483647) = true := decide_eq_true (by omega)
            have e4 : decide (1 ≤ L.st + (L.R.length : Int) ∧ L.st + (L.R.length : Int) ≤ 2147483647) = true := decide_eq_true (by omega)
            have e5 : decide (1 ≤ ps ∧ ps ≤ 2147483647) = true := decide_eq_true (by omega)
            show (decide (0 ≤ L.nd ∧ L.nd < 8) && (decide (0 ≤ p ∧ p < 16) && (decide (1 ≤ L.ep ∧ L.ep ≤ 2147483647) && (decide (1 ≤ L.st + (L.R.length : Int) ∧ L.st + (L.R.length : Int) ≤ 2147483647) && decide (1 ≤ ps ∧ ps ≤ 2147483647))))) = true
            rw [e1, e2, e3, e4, e5]
            rfl
      · intro k r hk hr
        replace hr : (L.R ++ [L.recN p ps bd])[k]? = some r := hr
        have hfl := h.fl
        replace hk : k < L.fl := hk
        rw [List.getElem?_append_left (by omega)] at hr
        exact h.yes k r hk hr
theorem got_two {D D' : Dv.Dev} {J : Ar.Job} {nd : Int} (hm : J.may = true) (hn : 0 ≤ nd ∧ nd < J.n) (hl : (D.S.length : Int) = J.sectors.1) {t : Int} {x y : List Int} (hS : D'.S = (D.S.set (plc J nd t).toNat x).set ((plc J nd t).toNat + 1) y) {s : Int} (hs : 1 ≤ s ∧ s ≤ 2147483647) :
    gotA D' J nd s = if plc J nd s = plc J nd t then Rc.getR x y else gotA D J nd s := by
  have i1 := plc_in (s := s) hm hn
  have i2 := plc_in (s := t) hm hn
  obtain ⟨D1, hD1⟩ : ∃ D1 : Dv.Dev, D1.S = D.S.set (plc J nd t).toNat x := ⟨{ D with S := D.S.set (plc J nd t).toNat x }, rfl⟩
  have hl1 : D1.S.length = D.S.length := by rw [hD1, List.length_set]
  rw [← hD1] at hS
  unfold gotA
  rw [rec_plc hm hn hs, read_set hS _ (by omega), read_set hS _ (by omega), read_set hD1 _ (by omega), read_set hD1 _ (by omega)]
  by_cases he : plc J nd s = plc J nd t
  · rw [if_pos he, if_neg (by omega), if_pos (by omega), if_pos (by omega)]
  · have h2 : plc J nd s + 1 ≠ plc J nd t ∧ plc J nd s ≠ plc J nd t + 1 := by unfold plc; omega
    rw [if_neg he, if_neg (by omega), if_neg (by omega), if_neg (by omega), if_neg (by omega)]

end Go.Proofs.YtmeajhdhiebkdaaDoor

/-
  Flush and Cut of a device that holds its log.
-/
namespace Go.Proofs.YtmeajhdhiebkdaaDoor
set_option maxRecDepth 100000
open Go.RowKit

theorem secsR_two {r : Rc.Rec} (hr : Rc.isRec r = true) (hb : Rc.Byts 96 r.bd) : secsR r = [Rc.laidR r 0, Rc.laidR r 1] := by
  have l0 := (Rc.laidR_byts (r := r) (h := 0) (by omega) hb).len
  unfold secsR Rc.putR
  rw [if_pos hr]
  show [(Rc.laidR r 0 ++ Rc.laidR r 1).take 64, (Rc.laidR r 0 ++ Rc.laidR r 1).drop 64] = _
  rw [List.take_left' l0, List.drop_left' l0]
theorem atF_self (L : Lo) : L.atF L.fl = L := rfl
theorem Hol.put {D : Dv.Dev} {L : Lo} (h : Hol D L) {r : Rc.Rec} (hr : L.R[L.fl]? = some r) : (D.write L.nd L.ep (L.J.record L.nd r.ls).1 (secsR r)).1 = 0 ∧ Hol (D.write L.nd L.ep (L.J.record L.nd r.ls).1 (secsR r)).2 (L.atF (L.fl + 1)) := by
  have hO := h.recs _ _ hr
  have hlt := (List.getElem?_eq_some_iff.1 hr).1
  have hnx := h.nx
  have hst := h.st
  have hmany := h.many
  have hl := h.len
  have hls : 1 ≤ r.ls ∧ r.ls ≤ 2147483647 := by have := hO.ls; omega
  have i1 := plc_in (s := r.ls) h.may h.node
  rw [secsR_two hO.ok hO.bd, rec_plc h.may h.node hls]
  have hs : Dv.hasS D.S.length (plc L.J L.nd r.ls) ([Rc.laidR r 0, Rc.laidR r 1] : List (List Int)).length = true := by
    simp [Dv.hasS]
    omega
  have hw : D.write L.nd L.ep (plc L.J L.nd r.ls) [Rc.laidR r 0, Rc.laidR r 1] = (0, D.puts (plc L.J L.nd r.ls).toNat [Rc.laidR r 0, Rc.laidR r 1]) := by
    unfold Dv.Dev.write
    rw [hs, if_pos h.ref]
  rw [hw, puts2 h.cut]
  refine ⟨rfl, ?_⟩
  obtain ⟨D', hD'⟩ : ∃ D' : Dv.Dev, D' = { D with S := (D.S.set (plc L.J L.nd r.ls).toNat (Rc.laidR r 0)).set ((plc L.J L.nd r.ls).toNat + 1) (Rc.laidR r 1), done := wrap64 (wrap64 (D.done + 1) + 1) } := ⟨_, rfl⟩
  show Hol { D with S := (D.S.set (plc L.J L.nd r.ls).toNat (Rc.laidR r 0)).set ((plc L.J L.nd r.ls).toNat + 1) (Rc.laidR r 1), done := wrap64 (wrap64 (D.done + 1) + 1) } _
  rw [← hD']
  have hS : D'.S = (D.S.set (plc L.J L.nd r.ls).toNat (Rc.laidR r 0)).set ((plc L.J L.nd r.ls).toNat + 1) (Rc.laidR r 1) := by rw [hD']
  have hg := fun (s : Int) (hs : 1 ≤ s ∧ s ≤ 2147483647) => got_two h.may h.node hl hS hs
  refine ⟨by rw [hD']; exact h.cut, ?_, by rw [hD']; exact h.ref, h.may, h.node, h.st, h.nx, ?_, h.many, h.ep, ?_, ?_, ?_, ?_⟩
  · rw [hS, List.length_set, List.length_set]; exact hl
  · show L.fl + 1 ≤ L.R.length
    omega
  · intro k q hq
    have := h.recs k q hq
    exact ⟨this.nd, this.ep, this.ls, this.pg, this.ok, this.bd⟩
  · obtain ⟨e, he, ht⟩ := h.hd
    refine ⟨e, he, ?_⟩
    show Rc.takeR (D'.read (L.J.head L.nd).1).1 = _
    obtain ⟨D1, hD1⟩ : ∃ D1 : Dv.Dev, D1.S = D.S.set (plc L.J L.nd r.ls).toNat (Rc.laidR r 0) := ⟨{ D with S := D.S.set (plc L.J L.nd r.ls).toNat (Rc.laidR r 0) }, rfl⟩
    rw [← hD1] at hS
    rw [head_plc h.may h.node, read_set hS _ (by omega), if_neg (by omega), read_set hD1 _ (by omega), if_neg (by omega), ← head_plc h.may h.node]
    exact ht
  · intro k q hk hq
    replace hk : k < L.fl + 1 := hk
    replace hq : L.R[k]? = some q := hq
    show gotA D' L.J L.nd (L.st + k) = _
    have hk2 := (List.getElem?_eq_some_iff.1 hq).1
    rw [hg _ (by omega)]
    by_cases he : k = L.fl
    · subst he
      rw [hq] at hr
      cases hr
      rw [if_pos (by rw [hO.ls]), Rc.get_laid _ hO.ok hO.bd]
    · rw [if_neg (fun e => by
        have := plc_inj h.may e (by have := hO.ls; omega) (by have := hO.ls; omega)
        have := hO.ls
        omega)]
      exact h.yes k q (by omega) hq
  · intro s h1 h2 h3
    replace h1 : L.st + ((L.fl + 1 : Nat) : Int) ≤ s := h1
    replace h2 : s < L.st + L.J.l := h2
    show (gotA D' L.J L.nd s).2 = 0 → (gotA D' L.J L.nd s).1.ls < s
    rw [hg _ (by omega), if_neg (fun e => by
        have := plc_inj h.may e (by have := hO.ls; omega) (by have := hO.ls; omega)
        have := hO.ls
        omega)]
    exact h.no s (by omega) h2 h3
theorem Hol.flush' : ∀ (m : Nat) (D : Dv.Dev) (L : Lo), Hol D L → L.R.length - L.fl = m → (L.flush D).2.2 = 0 ∧ (L.flush D).2.1 = L.R.length ∧ Hol (L.flush D).1 (L.atF L.R.length) := by
  intro m
  induction m with
  | zero =>
    intro D L h hm
    have hfl := h.fl
    have e : L.R.drop L.fl = [] := List.drop_eq_nil_of_le (by omega)
    unfold Lo.flush
    rw [e, flushR]
    refine ⟨rfl, by show L.fl = _; omega, ?_⟩
    rw [show L.R.length = L.fl by omega]
    exact h
  | succ m ih =>
    intro D L h hm
    have hlt : L.fl < L.R.length := by omega
    have hr : L.R[L.fl]? = some L.R[L.fl] := List.getElem?_eq_getElem hlt
    obtain ⟨h1, h2⟩ := h.put hr
    have e : L.flush D = (L.atF (L.fl + 1)).flush (D.write L.nd L.ep (L.J.record L.nd L.R[L.fl].ls).1 (secsR L.R[L.fl])).2 := by
      unfold Lo.flush
      rw [List.drop_eq_getElem_cons hlt, flushR, if_pos h1]
      rfl
    rw [e]
    exact ih _ _ h2 (by show L.R.length - (L.fl + 1) = m; omega)
theorem Hol.flush {D : Dv.Dev} {L : Lo} (h : Hol D L) : (L.flush D).2.2 = 0 ∧ (L.flush D).2.1 = L.R.length ∧ Hol (L.flush D).1 (L.atF L.R.length) := Hol.flush' _ D L h rfl
theorem Hol.cutTo {D : Dv.Dev} {L : Lo} (h : Hol D L) (s : Int) (hs : L.mayC s = true) : (L.cut D s).2 = (L.from s, 0) ∧ Hol (L.cut D s).1 (L.from s) := by
  have hs' := hs
  simp only [Lo.mayC, decide_eq_true_eq] at hs'
  have hnx := h.nx
  have hst := h.st
  have hmany := h.many
  have hfl := h.fl
  have hl := h.len
  have hep := h.ep
  have i1 := plc_in (s := 1) h.may h.node
  have hsec : Dv.hasS D.S.length (9 + L.nd * (1 + 2 * L.J.l)) ([(Rc.puthR s L.ep).1] : List (List Int)).length = true := by
    simp [Dv.hasS]
    omega
  have hw : L.cutW D s = (0, D.puts (9 + L.nd * (1 + 2 * L.J.l)).toNat [(Rc.puthR s L.ep).1]) := by
    unfold Lo.cutW
    rw [head_plc h.may h.node]
    unfold Dv.Dev.write
    rw [hsec, if_pos h.ref]
  unfold Lo.cut
  rw [hs, if_neg (by simp), hw, if_pos rfl, puts1 h.cut]
  refine ⟨rfl, ?_⟩
  obtain ⟨D', hD'⟩ : ∃ D' : Dv.Dev, D' = { D with S := D.S.set (9 + L.nd * (1 + 2 * L.J.l)).toNat (Rc.puthR s L.ep).1, done := wrap64 (D.done + 1) } := ⟨_, rfl⟩
  show Hol { D with S := D.S.set (9 + L.nd * (1 + 2 * L.J.l)).toNat (Rc.puthR s L.ep).1, done := wrap64 (D.done + 1) } _
  rw [← hD']
  have hS : D'.S = D.S.set (9 + L.nd * (1 + 2 * L.J.l)).toNat (Rc.puthR s L.ep).1 := by rw [hD']
  have hg : ∀ t : Int, 1 ≤ t ∧ t ≤ 2147483647 → gotA D' L.J L.nd t = gotA D L.J L.nd t := by
    intro t ht
    have i2 := plc_in (s := t) h.may h.node
    unfold gotA
    rw [rec_plc h.may h.node ht, read_set hS _ (by omega), if_neg (by omega), read_set hS _ (by omega), if_neg (by omega)]
  obtain ⟨gn, hgn⟩ : ∃ gn : Nat, (s - L.st).toNat = gn := ⟨_, rfl⟩
  have hgs : s = L.st + gn := by omega
  have hF : L.from s = ⟨L.J, L.nd, L.ep, s, L.R.drop gn, L.fl - gn⟩ := by unfold Lo.from; rw [hgn]
  rw [hF]
  have hlen : (L.R.drop gn).length = L.R.length - gn := List.length_drop
  refine ⟨by rw [hD']; exact h.cut, ?_, by rw [hD']; exact h.ref, h.may, h.node, ?_, ?_, ?_, ?_, h.ep, ?_, ?_, ?_, ?_⟩
  · rw [hS, List.length_set]; exact hl
  · show 1 ≤ s
    omega
  · show s + ((L.R.drop gn).length : Int) ≤ _
    omega
  · show L.fl - gn ≤ (L.R.drop gn).length
    omega
  · show ((L.R.drop gn).length : Int) ≤ L.J.l
    omega
  · intro k r hk
    replace hk : (L.R.drop gn)[k]? = some r := hk
    rw [List.getElem?_drop] at hk
    have := h.recs _ r hk
    refine ⟨this.nd, this.ep, ?_, this.pg, this.ok, this.bd⟩
    have e := this.ls
    show r.ls = s + (k : Int)
    omega
  · refine ⟨L.ep, Int.le_refl _, ?_⟩
    show Rc.takeR (D'.read (L.J.head L.nd).1).1 = _
    rw [head_plc h.may h.node, read_set hS _ (by omega), if_pos (by omega)]
    exact (Rc.take_laid s L.ep (.inr ⟨by simp [Rc.isWrit]; omega, by simp [Rc.isWrit]; omega⟩)).1
  · intro k r hk hr
    replace hk : k < L.fl - gn := hk
    replace hr : (L.R.drop gn)[k]? = some r := hr
    rw [List.getElem?_drop] at hr
    show gotA D' L.J L.nd (s + k) = _
    rw [hg _ (by omega), show s + (k : Int) = L.st + ((gn + k : Nat) : Int) by omega]
    exact h.yes _ r (by omega) hr
  · intro t h1 h2 h3
    replace h1 : s + ((L.fl - gn : Nat) : Int) ≤ t := h1
    replace h2 : t < s + L.J.l := h2
    show (gotA D' L.J L.nd t).2 = 0 → (gotA D' L.J L.nd t).1.ls < t
    rw [hg _ (by omega)]
    by_cases hlt : t < L.st + L.J.l
    · exact h.no t (by omega) hlt h3
    · obtain ⟨k, hk⟩ : ∃ k : Nat, t - L.J.l = L.st + k := ⟨(t - L.J.l - L.st).toNat, by omega⟩
      have hkf : k < L.fl := by omega
      have hr : L.R[k]? = some L.R[k] := List.getElem?_eq_getElem (by omega)
      have hy := h.yes k _ hkf hr
      have hp : gotA D L.J L.nd t = gotA D L.J L.nd (L.st + k) := by
        unfold gotA
        rw [rec_plc h.may h.node (by omega), rec_plc h.may h.node (by omega), ← hk, show t = t - L.J.l + L.J.l by omega, plc_wrap, show t - L.J.l + L.J.l - L.J.l = t - L.J.l by omega]
      rw [hp, hy]
      intro _
      have e := (h.recs k _ hr).ls
      have hm' := h.may
      simp only [Ar.Job.may, decide_eq_true_eq] at hm'
      show (L.R[k]).ls < t
      omega

end Go.Proofs.YtmeajhdhiebkdaaDoor
