/-
  A log with a row of records beside it; a crash, and what is read then.
-/
import Derived.Test.YtmeajhdhiebkdaaDoorRcPure
import Derived.Test.YtmeajhdhiebkdaaDoorHd

/-
  What is torn is no record.
-/
namespace Go.Proofs.YtmeajhdhiebkdaaDoor.Rc
open Go.RowKit

theorem laid_first (r : Rec) {h : Nat} (hh : h < 2) : (laidR r h)[0]? = some (177 + (h : Int)) := by
  simp [laidR, secOf, laidD, laidH, be]
  omega
/-- The same but for the bodies. -/
def hdsEq (a b : Rec) : Prop := a.nd = b.nd ∧ a.ep = b.ep ∧ a.ls = b.ls ∧ a.pg = b.pg ∧ a.ps = b.ps
def withBd (b : Rec) (s : List Int) : Rec := ⟨b.nd, b.ep, b.ls, b.pg, b.ps, s⟩
theorem recEq_hds (a b : Rec) : recEq (withBd b a.bd) a = true ↔ hdsEq a b := by
  unfold recEq withBd hdsEq
  simp only [Bool.and_eq_true, decide_eq_true_eq]
  constructor
  · rintro ⟨h1, h2, h3, h4, h5, -⟩; exact ⟨h1.symm, h2.symm, h3.symm, h4.symm, h5.symm⟩
  · rintro ⟨h1, h2, h3, h4, h5⟩; exact ⟨h1.symm, h2.symm, h3.symm, h4.symm, h5.symm, trivial⟩
theorem laid_hds {a b : Rec} (ha : isRec a = true) (hb : isRec b = true) {h k : Nat} (e : laidR a h = laidR b k) : hdsEq a b := by
  simp only [isRec, isWrit, Bool.and_eq_true, decide_eq_true_eq] at ha hb
  obtain ⟨⟨n1, n2⟩, ⟨p1, p2⟩, ⟨e1, e2⟩, ⟨l1, l2⟩, s1, s2⟩ := ha
  obtain ⟨⟨m1, m2⟩, ⟨q1, q2⟩, ⟨f1, f2⟩, ⟨k1, k2⟩, t1, t2⟩ := hb
  have a1 := laidR_num1 a h (by omega)
  have a2 := laidR_num2 a h (by omega)
  have a6 := laidR_num6 a h (by omega)
  have a10 := laidR_num10 a h (by omega)
  have b1 := laidR_num1 b k (by omega)
  have b2 := laidR_num2 b k (by omega)
  have b6 := laidR_num6 b k (by omega)
  have b10 := laidR_num10 b k (by omega)
  rw [e] at a1 a2 a6 a10
  refine ⟨?_, ?_, ?_, ?_, ?_⟩ <;> omega
theorem hdsEq.symm {a b : Rec} (h : hdsEq a b) : hdsEq b a := ⟨h.1.symm, h.2.1.symm, h.2.2.1.symm, h.2.2.2.1.symm, h.2.2.2.2.symm⟩
theorem hdsEq.trans {a b c : Rec} (h : hdsEq a b) (k : hdsEq b c) : hdsEq a c := ⟨h.1.trans k.1, h.2.1.trans k.2.1, h.2.2.1.trans k.2.2.1, h.2.2.2.1.trans k.2.2.2.1, h.2.2.2.2.trans k.2.2.2.2⟩
theorem whole_parts {x y : List Int} (hx : Byts 64 x) (hy : Byts 64 y) (h : (getR x y).2 = 0) : isRec (betR x y) = true ∧ laidR (betR x y) 0 = x ∧ laidR (betR x y) 1 = y := by
  unfold getR at h
  split at h
  · next hc =>
    have hb := (betR_ok hx hy).bd
    have l0 := (laidR_byts (r := betR x y) (h := 0) (by omega) hb).len
    obtain ⟨e0, e1⟩ := List.append_inj hc.2 (by rw [l0, hx.len])
    exact ⟨hc.1, e0, e1⟩
  · cases h
theorem whole_torn {a b : Rec} (ha : isRec a = true) (hb : isRec b = true) (sa : Byts 96 a.bd) (sb : Byts 96 b.bd) (hne : ¬ hdsEq a b) : decide ((getR (laidR a 0) (laidR b 1)).2 = 0) = false := by
  apply decide_eq_false
  intro h
  obtain ⟨hI, e0, e1⟩ := whole_parts (laidR_byts (by omega) sa) (laidR_byts (by omega) sb) h
  exact hne ((laid_hds hI ha e0).symm.trans (laid_hds hI hb e1))
theorem whole_first {x y : List Int} (hx : Byts 64 x) (hy : Byts 64 y) {c : Int} (hc : x[0]? = some c) (hne : c ≠ 177) : decide ((getR x y).2 = 0) = false := by
  apply decide_eq_false
  intro h
  obtain ⟨hI, e0, e1⟩ := whole_parts hx hy h
  have := laid_first (betR x y) (h := 0) (by omega)
  rw [e0, hc] at this
  exact hne (by simpa using this)

end Go.Proofs.YtmeajhdhiebkdaaDoor.Rc

/-
  Second halves at the places that wait: none is of a record to come.
-/
namespace Go.Proofs.YtmeajhdhiebkdaaDoor
set_option maxRecDepth 100000
open Go.RowKit

/-- No place that waits holds the second half of a record of its number to come. -/
def Hs (D : Dv.Dev) (L : Lo) : Prop := ∀ s, L.st + L.fl ≤ s → s < L.st + L.J.l → s ≤ 2147483647 → ∀ q, Rc.isRec q = true → q.ls = s → (D.read (plc L.J L.nd s + 1)).1 ≠ Rc.laidR q 1
theorem Hs.app {D : Dv.Dev} {L : Lo} (h : Hs D L) (p ps : Int) (bd : List Int) : Hs D (L.app p ps bd).1 := by
  unfold Lo.app
  split
  · exact h
  · split
    · exact h
    · exact h
theorem Hs.put {D : Dv.Dev} {L : Lo} (g : Hs D L) (h : Hol D L) {r : Rc.Rec} (hr : L.R[L.fl]? = some r) : Hs (D.write L.nd L.ep (L.J.record L.nd r.ls).1 (secsR r)).2 (L.atF (L.fl + 1)) := by
  have hO := h.recs _ _ hr
  have hlt := (List.getElem?_eq_some_iff.1 hr).1
  have hnx := h.nx
  have hst := h.st
  have hmany := h.many
  have hl := h.len
  have hls : 1 ≤ r.ls ∧ r.ls ≤ 2147483647 := by have := hO.ls; omega
  have i1 := plc_in (s := r.ls) h.may h.node
  rw [secsR_two hO.ok hO.bd, rec_plc h.may h.node hls]
  have hs : Dv.hasS D.S.length (plc L.J L.nd r.ls) ([Rc.laidR r 0, Rc.laidR r 1] : List (List Int)).length = true := by
    simp [Dv.hasS]
    omega
  have hw : D.write L.nd L.ep (plc L.J L.nd r.ls) [Rc.laidR r 0, Rc.laidR r 1] = (0, D.puts (plc L.J L.nd r.ls).toNat [Rc.laidR r 0, Rc.laidR r 1]) := by
    unfold Dv.Dev.write
    rw [hs, if_pos h.ref]
  rw [hw, puts2 h.cut]
  intro s h1 h2 h3 q hq hqs
  replace h1 : L.st + ((L.fl + 1 : Nat) : Int) ≤ s := h1
  replace h2 : s < L.st + L.J.l := h2
  have i2 := plc_in (s := s) h.may h.node
  have hne : plc L.J L.nd s ≠ plc L.J L.nd r.ls := fun e => by
    have := plc_inj h.may e (by have := hO.ls; omega) (by have := hO.ls; omega)
    have := hO.ls
    omega
  have h4 : plc L.J L.nd s + 1 ≠ plc L.J L.nd r.ls := by unfold plc; omega
  obtain ⟨D1, hD1⟩ : ∃ D1 : Dv.Dev, D1 = { D with S := D.S.set (plc L.J L.nd r.ls).toNat (Rc.laidR r 0) } := ⟨_, rfl⟩
  have e1 : D1.S = D.S.set (plc L.J L.nd r.ls).toNat (Rc.laidR r 0) := by rw [hD1]
  obtain ⟨D', hD'⟩ : ∃ D' : Dv.Dev, D' = { D with S := (D.S.set (plc L.J L.nd r.ls).toNat (Rc.laidR r 0)).set ((plc L.J L.nd r.ls).toNat + 1) (Rc.laidR r 1), done := wrap64 (wrap64 (D.done + 1) + 1) } := ⟨_, rfl⟩
  have e2 : D'.S = D1.S.set ((plc L.J L.nd r.ls).toNat + 1) (Rc.laidR r 1) := by rw [hD', e1]
  show (Dv.Dev.read { D with S := (D.S.set (plc L.J L.nd r.ls).toNat (Rc.laidR r 0)).set ((plc L.J L.nd r.ls).toNat + 1) (Rc.laidR r 1), done := wrap64 (wrap64 (D.done + 1) + 1) } (plc L.J L.nd s + 1)).1 ≠ _
  rw [← hD', read_set e2 _ (by omega), if_neg (by omega), read_set e1 _ (by omega), if_neg (by omega)]
  exact g s (by omega) h2 h3 q hq hqs
theorem Hs.flush' : ∀ (m : Nat) (D : Dv.Dev) (L : Lo), Hs D L → Hol D L → L.R.length - L.fl = m → Hs (L.flush D).1 (L.atF L.R.length) := by
  intro m
  induction m with
  | zero =>
    intro D L g h hm
    have hfl := h.fl
    have e : L.R.drop L.fl = [] := List.drop_eq_nil_of_le (by omega)
    unfold Lo.flush
    rw [e, flushR, show L.R.length = L.fl by omega]
    exact g
  | succ m ih =>
    intro D L g h hm
    have hlt : L.fl < L.R.length := by omega
    have hr : L.R[L.fl]? = some L.R[L.fl] := List.getElem?_eq_getElem hlt
    obtain ⟨h1, h2⟩ := h.put hr
    have e : L.flush D = (L.atF (L.fl + 1)).flush (D.write L.nd L.ep (L.J.record L.nd L.R[L.fl].ls).1 (secsR L.R[L.fl])).2 := by
      unfold Lo.flush
      rw [List.drop_eq_getElem_cons hlt, flushR, if_pos h1]
      rfl
    rw [e]
    exact ih _ _ (g.put h hr) h2 (by show L.R.length - (L.fl + 1) = m; omega)
theorem Hs.flush {D : Dv.Dev} {L : Lo} (g : Hs D L) (h : Hol D L) : Hs (L.flush D).1 (L.atF L.R.length) := Hs.flush' _ D L g h rfl
theorem Hol.second {D : Dv.Dev} {L : Lo} (h : Hol D L) (hD : D.Ok) {k : Nat} (hk : k < L.fl) {r : Rc.Rec} (hr : L.R[k]? = some r) : (D.read (plc L.J L.nd (L.st + k) + 1)).1 = Rc.laidR r 1 := by
  have hy := h.yes k r hk hr
  have hnx := h.nx
  have hst := h.st
  have hlt := (List.getElem?_eq_some_iff.1 hr).1
  unfold gotA at hy
  rw [rec_plc h.may h.node (by omega)] at hy
  obtain ⟨_, _, e1⟩ := Rc.whole_parts (read_byts hD _) (read_byts hD _) (by rw [hy])
  have e2 : Rc.betR (D.read (plc L.J L.nd (L.st + k))).1 (D.read (plc L.J L.nd (L.st + k) + 1)).1 = r := by
    unfold Rc.getR at hy
    split at hy
    · exact (Prod.mk.inj hy).1
    · exact absurd (Prod.mk.inj hy).2 (by decide)
  rw [e2] at e1
  exact e1.symm

end Go.Proofs.YtmeajhdhiebkdaaDoor

/-
  A flush that a crash cuts: what stands then.
-/
namespace Go.Proofs.YtmeajhdhiebkdaaDoor
set_option maxRecDepth 100000
open Go.RowKit

theorem Hol.ofS {D D' : Dv.Dev} {L : Lo} (h : Hol D L) (hS : D'.S = D.S) (hE : D'.E = D.E) (hN : D'.N = D.N) (hs : D'.set = false) : Hol D' L := by
  have hr : ∀ x, D'.read x = D.read x := fun x => by unfold Dv.Dev.read; rw [hS]
  have hg : ∀ s, gotA D' L.J L.nd s = gotA D L.J L.nd s := fun s => by unfold gotA; rw [hr, hr]
  refine ⟨hs, by rw [hS]; exact h.len, ?_, h.may, h.node, h.st, h.nx, h.fl, h.many, h.ep, h.recs, ?_, ?_, ?_⟩
  · have := h.ref
    unfold Dv.Dev.ref Dv.Dev.ep at this ⊢
    rw [hE, hN]
    exact this
  · rw [hr]; exact h.hd
  · intro k r hk hr2
    rw [hg]
    exact h.yes k r hk hr2
  · intro s h1 h2 h3
    rw [hg]
    exact h.no s h1 h2 h3
/-- The first f records alone. -/
def Lo.tk (L : Lo) (f : Nat) : Lo := ⟨L.J, L.nd, L.ep, L.st, L.R.take f, f⟩
theorem Hol.tk {D : Dv.Dev} {L : Lo} (h : Hol D L) : Hol D (L.tk L.fl) := by
  have hfl := h.fl
  have hnx := h.nx
  have hmany := h.many
  have hl : (L.R.take L.fl).length = L.fl := by rw [List.length_take]; omega
  refine ⟨h.cut, h.len, h.ref, h.may, h.node, h.st, ?_, ?_, ?_, h.ep, ?_, h.hd, ?_, h.no⟩
  · show L.st + ((L.R.take L.fl).length : Int) ≤ _
    omega
  · show L.fl ≤ (L.R.take L.fl).length
    omega
  · show ((L.R.take L.fl).length : Int) ≤ L.J.l
    omega
  · intro k r hk
    replace hk : (L.R.take L.fl)[k]? = some r := hk
    have hlt := (List.getElem?_eq_some_iff.1 hk).1
    rw [List.getElem?_take_of_lt (by omega)] at hk
    have := h.recs k r hk
    exact ⟨this.nd, this.ep, this.ls, this.pg, this.ok, this.bd⟩
  · intro k r hk hr
    replace hk : k < L.fl := hk
    replace hr : (L.R.take L.fl)[k]? = some r := hr
    rw [List.getElem?_take_of_lt hk] at hr
    exact h.yes k r hk hr
/-- A device that a crash will cut behind n sectors more. -/
def cutD (D : Dv.Dev) (n : Int) : Dv.Dev := { D with set := true, left := n, lost := false }
/-- Writes behind the cut write nothing. -/
theorem stuck {J : Ar.Job} {nd ep : Int} : ∀ (rs : List Rc.Rec) (D : Dv.Dev) (f : Nat), D.set = true → D.left = 0 → (∀ r ∈ rs, D.ref nd ep (Dv.hasS D.S.length (J.record nd r.ls).1 (secsR r).length) = 0) →
    ∃ D', flushR J nd ep D rs f = (D', f + rs.length, 0) ∧ D'.S = D.S ∧ D'.E = D.E ∧ D'.N = D.N := by
  intro rs
  induction rs with
  | nil => intro D f _ _ _; exact ⟨D, rfl, rfl, rfl, rfl⟩
  | cons r rs ih =>
    intro D f h1 h2 h3
    have hw : D.write nd ep (J.record nd r.ls).1 (secsR r) = (0, { D with lost := true }) := by
      unfold Dv.Dev.write
      rw [if_pos (h3 r (by simp))]
      simp [secsR, Dv.Dev.puts, Dv.Dev.step, h1, h2]
    obtain ⟨D', e, e1, e2, e3⟩ := ih { D with lost := true } (f + 1) h1 h2 (fun q hq => h3 q (by simp [hq]))
    refine ⟨D', ?_, e1, e2, e3⟩
    rw [flushR, hw, if_pos rfl]
    show flushR J nd ep { D with lost := true } rs (f + 1) = _
    rw [e, List.length_cons, show f + 1 + rs.length = f + (rs.length + 1) by omega]
theorem Hol.fits {D : Dv.Dev} {L : Lo} (h : Hol D L) {r : Rc.Rec} (hr : r ∈ L.R) : Dv.hasS D.S.length (L.J.record L.nd r.ls).1 (secsR r).length = true ∧ (L.J.record L.nd r.ls).1 = plc L.J L.nd r.ls ∧ 1 ≤ r.ls ∧ r.ls ≤ 2147483647 := by
  obtain ⟨k, hk⟩ := List.mem_iff_getElem?.1 hr
  have hO := h.recs k r hk
  have hlt := (List.getElem?_eq_some_iff.1 hk).1
  have hnx := h.nx
  have hst := h.st
  have hl := h.len
  have hls : 1 ≤ r.ls ∧ r.ls ≤ 2147483647 := by have := hO.ls; omega
  have i1 := plc_in (s := r.ls) h.may h.node
  rw [rec_plc h.may h.node hls]
  refine ⟨?_, rfl, hls⟩
  simp [Dv.hasS, secsR]
  omega
/-- The first half alone of the record that comes next. -/
theorem Hol.half {D : Dv.Dev} {L : Lo} (h : Hol D L) (g : Hs D L) (hD : D.Ok) {r : Rc.Rec} (hr : L.R[L.fl]? = some r) {D' : Dv.Dev} (hS : D'.S = D.S.set (plc L.J L.nd r.ls).toNat (Rc.laidR r 0)) (hE : D'.E = D.E) (hN : D'.N = D.N) (hs : D'.set = false) : Hol D' (L.tk L.fl) := by
  have hO := h.recs _ _ hr
  have hlt := (List.getElem?_eq_some_iff.1 hr).1
  have hnx := h.nx
  have hst := h.st
  have hmany := h.many
  have hl := h.len
  have hT := h.tk
  have i1 := plc_in (s := r.ls) h.may h.node
  have hg : ∀ s, 1 ≤ s ∧ s ≤ 2147483647 → plc L.J L.nd s ≠ plc L.J L.nd r.ls → gotA D' L.J L.nd s = gotA D L.J L.nd s := by
    intro s hs2 hne
    have i2 := plc_in (s := s) h.may h.node
    have h4 : plc L.J L.nd s + 1 ≠ plc L.J L.nd r.ls := by unfold plc; omega
    unfold gotA
    rw [rec_plc h.may h.node hs2, read_set hS _ (by omega), if_neg (by omega), read_set hS _ (by omega), if_neg (by omega)]
  refine ⟨hs, by rw [hS, List.length_set]; exact hl, ?_, h.may, h.node, h.st, hT.nx, hT.fl, hT.many, h.ep, hT.recs, ?_, ?_, ?_⟩
  · have := h.ref
    unfold Dv.Dev.ref Dv.Dev.ep at this ⊢
    rw [hE, hN]
    exact this
  · obtain ⟨e, he, ht⟩ := h.hd
    refine ⟨e, he, ?_⟩
    show Rc.takeR (D'.read (L.J.head L.nd).1).1 = _
    rw [head_plc h.may h.node, read_set hS _ (by omega), if_neg (by omega), ← head_plc h.may h.node]
    exact ht
  · intro k q hk hq
    replace hk : k < L.fl := hk
    show gotA D' L.J L.nd (L.st + k) = _
    rw [hg _ (by omega) (fun e => by
      have := plc_inj h.may e (by have := hO.ls; omega) (by have := hO.ls; omega)
      have := hO.ls
      omega)]
    exact hT.yes k q hk hq
  · intro s h1 h2 h3
    replace h1 : L.st + (L.fl : Int) ≤ s := h1
    replace h2 : s < L.st + L.J.l := h2
    show (gotA D' L.J L.nd s).2 = 0 → (gotA D' L.J L.nd s).1.ls < s
    by_cases he : s = r.ls
    · intro hc
      exfalso
      have hsr : 1 ≤ s ∧ s ≤ 2147483647 := by omega
      have i2 := plc_in (s := s) h.may h.node
      unfold gotA at hc
      rw [rec_plc h.may h.node hsr, read_set hS _ (by omega), if_pos (by rw [he]; omega), read_set hS _ (by omega), if_neg (by rw [he]; omega)] at hc
      obtain ⟨p1, p2, p3⟩ := Rc.whole_parts (Rc.laidR_byts (by omega) hO.bd) (read_byts hD _) hc
      have hh := Rc.laid_hds p1 hO.ok p2
      exact g s h1 h2 h3 _ p1 (by rw [hh.2.2.1, he]) p3.symm
    · rw [hg _ (by omega) (fun e => he (plc_inj h.may e (by have := hO.ls; omega) (by have := hO.ls; omega)))]
      exact h.no s h1 h2 h3

end Go.Proofs.YtmeajhdhiebkdaaDoor

/-
  A flush that a crash cuts, whole.
-/
namespace Go.Proofs.YtmeajhdhiebkdaaDoor
set_option maxRecDepth 100000
open Go.RowKit

theorem okSet {D : Dv.Dev} (h : D.Ok) {x : List Int} (hx : Rc.Byts 64 x) (k : Nat) (d : Int) : Dv.Dev.Ok { D with S := D.S.set k x, done := d } := by
  refine ⟨by show 1 ≤ (D.S.set k x).length; rw [List.length_set]; exact h.s0, by show (D.S.set k x).length ≤ _; rw [List.length_set]; exact h.s1, ?_, h.n0, h.n1, h.e8, h.e0, h.l0⟩
  intro s hs
  rcases List.mem_or_eq_of_mem_set hs with h1 | rfl
  · exact h.sec s h1
  · exact ⟨hx.len, hx.byte⟩
theorem Hol.putEq {D : Dv.Dev} {L : Lo} (h : Hol D L) {r : Rc.Rec} (hr : L.R[L.fl]? = some r) : (D.write L.nd L.ep (L.J.record L.nd r.ls).1 (secsR r)).2 = { D with S := (D.S.set (plc L.J L.nd r.ls).toNat (Rc.laidR r 0)).set ((plc L.J L.nd r.ls).toNat + 1) (Rc.laidR r 1), done := wrap64 (wrap64 (D.done + 1) + 1) } := by
  have hO := h.recs _ _ hr
  obtain ⟨f1, f2, _⟩ := h.fits (List.mem_iff_getElem?.2 ⟨_, hr⟩)
  unfold Dv.Dev.write
  rw [f1, if_pos h.ref, f2, secsR_two hO.ok hO.bd, puts2 h.cut]
theorem Hol.putOk {D : Dv.Dev} {L : Lo} (h : Hol D L) (hD : D.Ok) {r : Rc.Rec} (hr : L.R[L.fl]? = some r) : (D.write L.nd L.ep (L.J.record L.nd r.ls).1 (secsR r)).2.Ok := by
  have hO := h.recs _ _ hr
  rw [h.putEq hr]
  exact okSet (okSet hD (Rc.laidR_byts (h := 0) (by omega) hO.bd) _ (wrap64 (D.done + 1))) (Rc.laidR_byts (h := 1) (by omega) hO.bd) _ _
theorem cut_two (D : Dv.Dev) (n : Nat) (k : Nat) (x y : List Int) : (cutD D ((n + 2 : Nat) : Int)).puts k [x, y] = cutD { D with S := (D.S.set k x).set (k + 1) y, done := wrap64 (wrap64 (D.done + 1) + 1) } (n : Int) := by
  have e1 : ¬ ((n + 2 : Nat) : Int) = 0 := by omega
  have e2 : ¬ ((n + 2 : Nat) : Int) - 1 = 0 := by omega
  have e3 : ((n + 2 : Nat) : Int) - 1 - 1 = (n : Int) := by omega
  unfold Dv.Dev.puts
  have s1 : (cutD D ((n + 2 : Nat) : Int)).step ((cutD D ((n + 2 : Nat) : Int)).S.set k x) (cutD D ((n + 2 : Nat) : Int)).E = ({ D with S := D.S.set k x, set := true, left := ((n + 2 : Nat) : Int) - 1, lost := false, done := wrap64 (D.done + 1) }, true) := by
    unfold Dv.Dev.step
    rw [if_neg (fun hh => e1 hh.2)]
    rfl
  rw [s1, if_pos rfl]
  unfold Dv.Dev.puts
  have s2 : Dv.Dev.step { D with S := D.S.set k x, set := true, left := ((n + 2 : Nat) : Int) - 1, lost := false, done := wrap64 (D.done + 1) } ((D.S.set k x).set (k + 1) y) D.E = ({ D with S := (D.S.set k x).set (k + 1) y, set := true, left := (n : Int), lost := false, done := wrap64 (wrap64 (D.done + 1) + 1) }, true) := by
    unfold Dv.Dev.step
    rw [if_neg (fun hh => e2 hh.2)]
    rw [← e3]
    rfl
  show (if (Dv.Dev.step { D with S := D.S.set k x, set := true, left := ((n + 2 : Nat) : Int) - 1, lost := false, done := wrap64 (D.done + 1) } ((D.S.set k x).set (k + 1) y) D.E).2 then _ else _) = _
  rw [s2, if_pos rfl]
  rfl
theorem cut_one (D : Dv.Dev) (k : Nat) (x y : List Int) : (cutD D 1).puts k [x, y] = { D with S := D.S.set k x, set := true, left := 0, lost := true, done := wrap64 (D.done + 1) } := by
  simp [Dv.Dev.puts, Dv.Dev.step, cutD]
/-- A flush within a cut of n sectors tells OK, and that all is flushed; behind the crash those records stand that were whole by then, and no other. -/
theorem torn : ∀ (m : Nat) (D : Dv.Dev) (L : Lo) (n : Nat), Hol D L → Hs D L → D.Ok → L.R.length - L.fl = m →
    ∃ D', L.flush (cutD D (n : Int)) = (D', L.R.length, 0) ∧ Hol D'.uncut (L.tk (min L.R.length (L.fl + n / 2))) := by
  intro m
  induction m with
  | zero =>
    intro D L n h g hD hm
    have hfl := h.fl
    refine ⟨cutD D (n : Int), ?_, ?_⟩
    · unfold Lo.flush
      rw [List.drop_eq_nil_of_le (by omega), flushR, show L.fl = L.R.length by omega]
    · rw [show min L.R.length (L.fl + n / 2) = L.fl by omega]
      exact h.tk.ofS rfl rfl rfl rfl
  | succ m ih =>
    intro D L n h g hD hm
    have hlt : L.fl < L.R.length := by omega
    obtain ⟨r, hr⟩ : ∃ r, L.R[L.fl]? = some r := ⟨_, List.getElem?_eq_getElem hlt⟩
    have hdr : L.R.drop L.fl = r :: L.R.drop (L.fl + 1) := by rw [List.drop_eq_getElem_cons hlt, (List.getElem?_eq_some_iff.1 hr).2]
    have hO := h.recs _ _ hr
    obtain ⟨f1, f2, _⟩ := h.fits (List.mem_iff_getElem?.2 ⟨_, hr⟩)
    match n with
    | 0 =>
      obtain ⟨D', e, e1, e2, e3⟩ := stuck (J := L.J) (nd := L.nd) (ep := L.ep) (L.R.drop L.fl) (cutD D 0) L.fl rfl rfl (fun q hq => by
        have f := (h.fits (List.mem_of_mem_drop hq)).1
        show D.ref L.nd L.ep (Dv.hasS D.S.length (L.J.record L.nd q.ls).1 (secsR q).length) = 0
        rw [f]
        exact h.ref)
      refine ⟨D', ?_, ?_⟩
      · have e9 : L.fl + (L.R.drop L.fl).length = L.R.length := by rw [List.length_drop]; omega
        rw [e9] at e
        exact e
      · rw [show min L.R.length (L.fl + 0 / 2) = L.fl by omega]
        exact h.tk.ofS e1 e2 e3 rfl
    | 1 =>
      have hw : (cutD D 1).write L.nd L.ep (L.J.record L.nd r.ls).1 (secsR r) = (0, { D with S := D.S.set (plc L.J L.nd r.ls).toNat (Rc.laidR r 0), set := true, left := 0, lost := true, done := wrap64 (D.done + 1) }) := by
        unfold Dv.Dev.write
        rw [show Dv.hasS (cutD D 1).S.length (L.J.record L.nd r.ls).1 (secsR r).length = true from f1, if_pos (show (cutD D 1).ref L.nd L.ep true = 0 from h.ref), f2, secsR_two hO.ok hO.bd, cut_one]
      obtain ⟨D', e, e1, e2, e3⟩ := stuck (J := L.J) (nd := L.nd) (ep := L.ep) (L.R.drop (L.fl + 1)) { D with S := D.S.set (plc L.J L.nd r.ls).toNat (Rc.laidR r 0), set := true, left := 0, lost := true, done := wrap64 (D.done + 1) } (L.fl + 1) rfl rfl (fun q hq => by
        have f := (h.fits (List.mem_of_mem_drop hq)).1
        show D.ref L.nd L.ep (Dv.hasS (D.S.set (plc L.J L.nd r.ls).toNat (Rc.laidR r 0)).length (L.J.record L.nd q.ls).1 (secsR q).length) = 0
        rw [List.length_set, f]
        exact h.ref)
      refine ⟨D', ?_, ?_⟩
      · have e9 : L.fl + 1 + (L.R.drop (L.fl + 1)).length = L.R.length := by rw [List.length_drop]; omega
        rw [e9] at e
        show flushR L.J L.nd L.ep (cutD D 1) (L.R.drop L.fl) L.fl = _
        rw [hdr, flushR, hw, if_pos rfl]
        exact e
      · rw [show min L.R.length (L.fl + 1 / 2) = L.fl by omega]
        exact h.half g hD hr e1 e2 e3 rfl
    | k + 2 =>
      obtain ⟨h1, h2⟩ := h.put hr
      have hw : (cutD D ((k + 2 : Nat) : Int)).write L.nd L.ep (L.J.record L.nd r.ls).1 (secsR r) = (0, cutD (D.write L.nd L.ep (L.J.record L.nd r.ls).1 (secsR r)).2 (k : Int)) := by
        rw [h.putEq hr]
        unfold Dv.Dev.write
        rw [show Dv.hasS (cutD D ((k + 2 : Nat) : Int)).S.length (L.J.record L.nd r.ls).1 (secsR r).length = true from f1, if_pos (show (cutD D ((k + 2 : Nat) : Int)).ref L.nd L.ep true = 0 from h.ref), f2, secsR_two hO.ok hO.bd, cut_two]
      obtain ⟨D', e, e1⟩ := ih _ (L.atF (L.fl + 1)) k h2 (g.put h hr) (h.putOk hD hr) (by show L.R.length - (L.fl + 1) = m; omega)
      refine ⟨D', ?_, ?_⟩
      · show flushR L.J L.nd L.ep (cutD D ((k + 2 : Nat) : Int)) (L.R.drop L.fl) L.fl = _
        rw [hdr, flushR, hw, if_pos rfl]
        exact e
      · have e2 : min L.R.length (L.fl + (k + 2) / 2) = min L.R.length (L.fl + 1 + k / 2) := by omega
        rw [e2]
        exact e1

end Go.Proofs.YtmeajhdhiebkdaaDoor

/-
  Second halves: a new device, and Cut.
-/
namespace Go.Proofs.YtmeajhdhiebkdaaDoor
set_option maxRecDepth 100000
open Go.RowKit

theorem hs0 (a : Int) : Hs (eP a) (openL (jP a) 0 1 1 []) := by
  intro s _ _ _ q _ _ e
  rw [noughts_read (n := (jP a).sectors.1.toNat) rfl] at e
  have h1 := Rc.laid_first q (h := 1) (by omega)
  rw [← e] at h1
  simp [Rc.zs] at h1
theorem Hs.cutTo {D : Dv.Dev} {L : Lo} (g : Hs D L) (h : Hol D L) (hD : D.Ok) (s : Int) (hs : L.mayC s = true) : Hs (L.cut D s).1 (L.from s) := by
  have hs' := hs
  simp only [Lo.mayC, decide_eq_true_eq] at hs'
  have hnx := h.nx
  have hst := h.st
  have hmany := h.many
  have hfl := h.fl
  have hl := h.len
  have i1 := plc_in (s := 1) h.may h.node
  have hsec : Dv.hasS D.S.length (9 + L.nd * (1 + 2 * L.J.l)) ([(Rc.puthR s L.ep).1] : List (List Int)).length = true := by
    simp [Dv.hasS]
    omega
  have hw : L.cutW D s = (0, D.puts (9 + L.nd * (1 + 2 * L.J.l)).toNat [(Rc.puthR s L.ep).1]) := by
    unfold Lo.cutW
    rw [head_plc h.may h.node]
    unfold Dv.Dev.write
    rw [hsec, if_pos h.ref]
  unfold Lo.cut
  rw [hs, if_neg (by simp), hw, if_pos rfl, puts1 h.cut]
  intro t h1 h2 h3 q hq hqs
  replace h1 : s + ((L.fl - (s - L.st).toNat : Nat) : Int) ≤ t := h1
  replace h2 : t < s + L.J.l := h2
  obtain ⟨D', hD'⟩ : ∃ D' : Dv.Dev, D' = { D with S := D.S.set (9 + L.nd * (1 + 2 * L.J.l)).toNat (Rc.puthR s L.ep).1, done := wrap64 (D.done + 1) } := ⟨_, rfl⟩
  have hS : D'.S = D.S.set (9 + L.nd * (1 + 2 * L.J.l)).toNat (Rc.puthR s L.ep).1 := by rw [hD']
  show (Dv.Dev.read { D with S := D.S.set (9 + L.nd * (1 + 2 * L.J.l)).toNat (Rc.puthR s L.ep).1, done := wrap64 (D.done + 1) } (plc L.J L.nd t + 1)).1 ≠ _
  have i2 := plc_in (s := t) h.may h.node
  rw [← hD', read_set hS _ (by omega), if_neg (by omega)]
  by_cases hlt : t < L.st + L.J.l
  · exact g t (by omega) hlt h3 q hq hqs
  · obtain ⟨k, hk⟩ : ∃ k : Nat, t - L.J.l = L.st + k := ⟨(t - L.J.l - L.st).toNat, by omega⟩
    have hkf : k < L.fl := by omega
    have hr : L.R[k]? = some L.R[k] := List.getElem?_eq_getElem (by omega)
    have hO := h.recs k _ hr
    have e := h.second hD hkf hr
    rw [← hk, ← plc_wrap, show t - L.J.l + L.J.l = t by omega] at e
    rw [e]
    intro e2
    have := (Rc.laid_hds hO.ok hq e2).2.2.1
    have e3 := hO.ls
    have hm' := h.may
    simp only [Ar.Job.may, decide_eq_true_eq] at hm'
    omega

end Go.Proofs.YtmeajhdhiebkdaaDoor

/-
  A new device of any job; one record of a later epoch.
-/
namespace Go.Proofs.YtmeajhdhiebkdaaDoor
set_option maxRecDepth 100000
open Go.RowKit

def eJ (J : Ar.Job) : Dv.Dev := ups (Dv.newDev J.sectors.1.toNat J.n.toNat) J.n.toNat
theorem ups_eq (k n : Nat) (h : 2 ≤ n ∧ n ≤ 8) : ∃ E, ups (Dv.newDev k n) n = ⟨Dv.noughts k, n, E, n, false, 0, false⟩ ∧ E.length = 8 ∧ ∀ i, i < n → E.getD i 0 = 1 := by
  obtain ⟨h1, h2⟩ := h
  match n, h1, h2 with
  | 2, _, _ => exact ⟨[1, 1, 0, 0, 0, 0, 0, 0], by kernel_rfl, rfl, by decide⟩
  | 3, _, _ => exact ⟨[1, 1, 1, 0, 0, 0, 0, 0], by kernel_rfl, rfl, by decide⟩
  | 4, _, _ => exact ⟨[1, 1, 1, 1, 0, 0, 0, 0], by kernel_rfl, rfl, by decide⟩
  | 5, _, _ => exact ⟨[1, 1, 1, 1, 1, 0, 0, 0], by kernel_rfl, rfl, by decide⟩
  | 6, _, _ => exact ⟨[1, 1, 1, 1, 1, 1, 0, 0], by kernel_rfl, rfl, by decide⟩
  | 7, _, _ => exact ⟨[1, 1, 1, 1, 1, 1, 1, 0], by kernel_rfl, rfl, by decide⟩
  | 8, _, _ => exact ⟨[1, 1, 1, 1, 1, 1, 1, 1], by kernel_rfl, rfl, by decide⟩
theorem eJ_is {J : Ar.Job} (hm : J.may = true) : ∃ E, eJ J = ⟨Dv.noughts J.sectors.1.toNat, J.n.toNat, E, (J.n.toNat : Int), false, 0, false⟩ ∧ E.length = 8 ∧ ∀ i, i < J.n.toNat → E.getD i 0 = 1 := by
  have hm' := hm
  simp only [Ar.Job.may, decide_eq_true_eq] at hm'
  exact ups_eq _ _ (by omega)
theorem hol0J {J : Ar.Job} {nd : Int} (hm : J.may = true) (hn : 0 ≤ nd ∧ nd < J.n) : Hol (eJ J) (openL J nd 1 1 []) ∧ Hs (eJ J) (openL J nd 1 1 []) := by
  have hm' := hm
  simp only [Ar.Job.may, decide_eq_true_eq] at hm'
  obtain ⟨E, hE, h8, h1⟩ := eJ_is hm
  have hS : (eJ J).S = Dv.noughts J.sectors.1.toNat := by rw [hE]
  have hs : 1 ≤ J.sectors.1 := by
    have := plc_in (s := 1) hm hn
    omega
  have hg : ∀ s, gotA (eJ J) J nd s = (Rc.zrec, 12) := by
    intro s
    unfold gotA
    rw [noughts_read hS, noughts_read hS, get_zero]
  refine ⟨⟨by rw [hE], ?_, ?_, hm, hn, by show (1 : Int) ≤ 1; omega, by show (1 : Int) + 0 ≤ _; omega, by show 0 ≤ 0; omega, by show (0 : Int) ≤ J.l; omega, by show (1 : Int) ≤ 1 ∧ (1 : Int) ≤ 2147483647; omega, ?_, ?_, ?_, ?_⟩, ?_⟩
  · rw [hS]
    show ((Dv.noughts J.sectors.1.toNat).length : Int) = J.sectors.1
    unfold Dv.noughts
    rw [List.length_replicate]
    omega
  · have e1 : (eJ J).N = J.n.toNat := by rw [hE]
    have e2 : (eJ J).ep nd = 1 := by
      unfold Dv.Dev.ep
      rw [hE]
      exact h1 _ (by omega)
    show (eJ J).ref nd 1 true = 0
    unfold Dv.Dev.ref
    rw [e1, e2, if_pos ⟨rfl, by unfold Dv.hasN; exact decide_eq_true (by omega), by omega, by omega⟩, if_neg (by omega)]
  · intro k r hk
    cases hk
  · refine ⟨0, by show (0 : Int) ≤ 1; omega, ?_⟩
    show Rc.takeR ((eJ J).read _).1 = _
    rw [noughts_read hS]
    exact Rc.take_first
  · intro k r hk
    exact absurd hk (by show ¬ k < 0; omega)
  · intro s _ _ _ hc
    replace hc : (gotA (eJ J) J nd s).2 = 0 := hc
    rw [hg] at hc
    exact absurd hc (by decide)
  · intro s _ _ _ q _ _ e
    rw [noughts_read hS] at e
    have h1 := Rc.laid_first q (h := 1) (by omega)
    rw [← e] at h1
    simp [Rc.zs] at h1
/-- What is read of a device whose places hold these records, and at the next place none that follows. -/
theorem read_is {D : Dv.Dev} {J : Ar.Job} {nd st e : Int} {R : List Rc.Rec} (hm : J.may = true) (hn : 0 ≤ nd ∧ nd < J.n) (hl : (D.S.length : Int) = J.sectors.1) (hnx : st + R.length ≤ 2147483647) (hmany : (R.length : Int) ≤ J.l)
    (hd : Rc.takeR (D.read (J.head nd).1).1 = ((st, e), 0)) (recs : ∀ (k : Nat) (r : Rc.Rec), R[k]? = some r → r.nd = nd ∧ r.ls = st + k ∧ r.pg < J.p) (m0 : ∀ r, R[0]? = some r → e ≤ r.ep) (m1 : ∀ (k : Nat) (a r : Rc.Rec), R[k]? = some a → R[k + 1]? = some r → a.ep ≤ r.ep)
    (yes : ∀ (k : Nat) (r : Rc.Rec), R[k]? = some r → gotA D J nd (st + k) = (r, 0)) (no : (R.length : Int) < J.l → (gotA D J nd (st + R.length)).2 = 0 → (gotA D J nd (st + R.length)).1.ls < st + R.length) : lookR D J nd true = (st, R, 0) := by
  have hN : (laidN J st : Int) = min (st + J.l) 2147483647 - st := by unfold laidN; omega
  have stand : ∀ (m k : Nat) (a : Rc.Rec), k ≤ R.length → k + m = laidN J st → a.ls = st + k - 1 → a.nd = nd → (∀ r, R[k]? = some r → a.ep ≤ r.ep) → standF J.p a (laidF D J nd (st + k) m) = R.drop k := by
    intro m
    induction m with
    | zero =>
      intro k a hk hm _ _ _
      rw [laidF, standF, List.drop_eq_nil_of_le (by omega)]
    | succ m ih =>
      intro k a hk hm h1 h2 h3
      by_cases hlt : k < R.length
      · obtain ⟨r, hr⟩ : ∃ r, R[k]? = some r := ⟨_, List.getElem?_eq_getElem hlt⟩
        have hg := yes k r hr
        obtain ⟨o1, o2, o3⟩ := recs k r hr
        rw [laidF, hg, if_pos rfl, standF]
        have h4 : (decide (J.p ≤ r.pg) || !Rc.folB a r) = false := by
          have e4 := h3 r hr
          simp [Rc.folB]
          refine ⟨by omega, by omega, by omega, by omega, by omega⟩
        rw [h4, if_neg (by simp)]
        have h5 := ih (k + 1) r (by omega) (by omega) (by omega) o1 (fun q hq => m1 k r q hr hq)
        rw [show st + ((k + 1 : Nat) : Int) = st + k + 1 by omega] at h5
        rw [h5]
        obtain ⟨hl, he⟩ := List.getElem?_eq_some_iff.1 hr
        rw [List.drop_eq_getElem_cons hl, he]
      · obtain rfl : k = R.length := by omega
        rw [List.drop_eq_nil_of_le (by omega), laidF]
        by_cases hc : (gotA D J nd (st + R.length)).2 = 0
        · rw [if_pos hc, standF]
          have h4 := no (by omega) hc
          have h5 : Rc.folB a (gotA D J nd (st + R.length)).1 = false := by
            simp [Rc.folB]
            omega
          rw [h5]
          simp
        · rw [if_neg hc, standF]
  have hh : (J.head nd).2 = 0 := by
    unfold Ar.Job.head
    rw [hm, if_pos (by simp [Ar.below]; omega)]
  unfold lookR
  rw [if_neg (by simp [hh]; omega), hd, if_neg (by simp)]
  have hs := stand (laidN J st) 0 (ahead0 nd e st) (by omega) (by omega) (by simp [ahead0]) rfl m0
  simp only [standS, laidS]
  simp at hs
  rw [hs]
/-- Behind a crash: Open by a later epoch, Append and Flush; what is read then. -/
theorem Hol.later {D D2 : Dv.Dev} {L : Lo} (h : Hol D L) (hfl : L.fl = L.R.length) (hS : D2.S = D.S) (hset : D2.set = false) (ep : Int) (he : L.ep ≤ ep) (hep : ep ≤ 2147483647) (href : D2.ref L.nd ep true = 0) (ps : Int) (bd : List Int) (hb : Rc.Byts 96 bd) (hps : 1 ≤ ps ∧ ps ≤ 2147483647) (hroom : ¬ (openL L.J L.nd ep L.st L.R).room = 0) :
    ∃ r : Rc.Rec, r = ⟨L.nd, ep, L.st + L.R.length, 0, ps, bd⟩ ∧ (openL L.J L.nd ep L.st L.R).app 0 ps bd = ((openL L.J L.nd ep L.st L.R).more r, L.st + L.R.length, 0) ∧ ∃ D3, ((openL L.J L.nd ep L.st L.R).more r).flush D2 = (D3, L.R.length + 1, 0) ∧ lookR D3 L.J L.nd true = (L.st, L.R ++ [r], 0) := by
  have hm' := h.may
  simp only [Ar.Job.may, decide_eq_true_eq] at hm'
  have hst := h.st
  have hnx := h.nx
  have hmany := h.many
  have hl := h.len
  have hep1 := h.ep
  obtain ⟨r, hr⟩ : ∃ r : Rc.Rec, r = ⟨L.nd, ep, L.st + L.R.length, 0, ps, bd⟩ := ⟨_, rfl⟩
  have hroom' : L.st + (L.R.length : Int) < 2147483647 ∧ (L.R.length : Int) < L.J.l := by
    replace hroom : ¬ (if L.st + (L.R.length : Int) = 2147483647 then (0 : Int) else L.J.l - L.R.length) = 0 := hroom
    by_cases hc : L.st + (L.R.length : Int) = 2147483647
    · rw [if_pos hc] at hroom
      exact absurd rfl hroom
    · rw [if_neg hc] at hroom
      omega
  have hok : Rc.isRec r = true := by
    have := h.node
    rw [hr]
    simp [Rc.isRec, Rc.isWrit]
    omega
  have hbd : Rc.Byts 96 r.bd := by rw [hr]; exact hb
  have hls : r.ls = L.st + L.R.length := by rw [hr]
  refine ⟨r, hr, ?_, ?_⟩
  · unfold Lo.app
    have : (openL L.J L.nd ep L.st L.R).mayA 0 ps = true := by
      unfold Lo.mayA
      rw [decide_eq_true (by show (0 : Int) ≤ 0 ∧ (0 : Int) ≤ L.J.p - 1; omega), decide_eq_true hps]
      rfl
    rw [this, if_neg (by simp), if_neg hroom, hr]
    rfl
  · have i1 := plc_in (s := r.ls) h.may h.node
    have hrc : (L.J.record L.nd r.ls).1 = plc L.J L.nd r.ls := rec_plc h.may h.node (by omega)
    have hsec : Dv.hasS D2.S.length (plc L.J L.nd r.ls) ([Rc.laidR r 0, Rc.laidR r 1] : List (List Int)).length = true := by
      simp [Dv.hasS]
      rw [hS]
      omega
    obtain ⟨D3, hD3⟩ : ∃ D3 : Dv.Dev, D3 = { D2 with S := (D2.S.set (plc L.J L.nd r.ls).toNat (Rc.laidR r 0)).set ((plc L.J L.nd r.ls).toNat + 1) (Rc.laidR r 1), done := wrap64 (wrap64 (D2.done + 1) + 1) } := ⟨_, rfl⟩
    have hw : D2.write L.nd ep (L.J.record L.nd r.ls).1 (secsR r) = (0, D3) := by
      rw [hrc, secsR_two hok hbd]
      unfold Dv.Dev.write
      rw [hsec, if_pos href, puts2 hset, hD3]
    have hS3 : D3.S = (D.S.set (plc L.J L.nd r.ls).toNat (Rc.laidR r 0)).set ((plc L.J L.nd r.ls).toNat + 1) (Rc.laidR r 1) := by rw [hD3, ← hS]
    refine ⟨D3, ?_, ?_⟩
    · unfold Lo.flush
      have e1 : ((openL L.J L.nd ep L.st L.R).more r).R.drop ((openL L.J L.nd ep L.st L.R).more r).fl = [r] := by
        show (L.R ++ [r]).drop L.R.length = [r]
        simp
      rw [e1]
      show flushR L.J L.nd ep D2 [r] L.R.length = _
      rw [flushR, hw, if_pos rfl, flushR]
    · have hgot : ∀ s : Int, 1 ≤ s ∧ s ≤ 2147483647 → _ := fun s hs => got_two (t := r.ls) h.may h.node hl hS3 (s := s) hs
      obtain ⟨e, he0, ht⟩ := h.hd
      have hlen : (D3.S.length : Int) = L.J.sectors.1 := by rw [hS3, List.length_set, List.length_set]; exact hl
      have happ : ((L.R ++ [r]).length : Int) = L.R.length + 1 := by rw [List.length_append]; simp
      have hgot' : ∀ s, 1 ≤ s → s ≤ 2147483647 → s ≠ r.ls → s - r.ls < L.J.l → r.ls - s < L.J.l → gotA D3 L.J L.nd s = gotA D L.J L.nd s := by
        intro s h1 h2 hne h3 h4
        rw [hgot s ⟨h1, h2⟩, if_neg (fun e9 => hne (plc_inj h.may e9 h3 h4))]
      have hself : gotA D3 L.J L.nd r.ls = (r, 0) := by
        rw [hgot r.ls (by omega), if_pos rfl]
        exact Rc.get_laid r hok hbd
      refine read_is (e := e) h.may h.node hlen (by omega) (by omega) ?_ ?_ ?_ ?_ ?_ ?_
      · rw [head_plc h.may h.node]
        have e1 : (D3.read (9 + L.nd * (1 + 2 * L.J.l))).1 = (D.read (9 + L.nd * (1 + 2 * L.J.l))).1 := by
          obtain ⟨Dm, hDm⟩ : ∃ Dm : Dv.Dev, Dm.S = D.S.set (plc L.J L.nd r.ls).toNat (Rc.laidR r 0) := ⟨{ D with S := D.S.set (plc L.J L.nd r.ls).toNat (Rc.laidR r 0) }, rfl⟩
          rw [read_set (D := Dm) (by rw [hDm]; exact hS3) _ (by omega), if_neg (by omega), read_set hDm _ (by omega), if_neg (by omega)]
        rw [e1, ← head_plc h.may h.node]
        exact ht
      · intro k q hq
        by_cases hlt : k < L.R.length
        · rw [List.getElem?_append_left hlt] at hq
          have hO := h.recs k q hq
          exact ⟨hO.nd, hO.ls, hO.pg.2⟩
        · rw [List.getElem?_append_right (by omega)] at hq
          obtain rfl : k = L.R.length := by
            have := (List.getElem?_eq_some_iff.1 hq).1
            simp at this
            omega
          simp at hq
          subst hq
          exact ⟨by rw [hr], hls, by rw [hr]; show (0 : Int) < L.J.p; omega⟩
      · intro q hq
        by_cases hlt : 0 < L.R.length
        · rw [List.getElem?_append_left hlt] at hq
          rw [(h.recs 0 q hq).ep]
          exact he0
        · rw [List.getElem?_append_right (by omega)] at hq
          have : L.R.length = 0 := by omega
          rw [this] at hq
          simp at hq
          subst hq
          rw [hr]
          show e ≤ ep
          omega
      · intro k a q ha hq
        have hk := (List.getElem?_eq_some_iff.1 hq).1
        have hkl : k < L.R.length := by
          rw [List.length_append] at hk
          simp at hk
          omega
        rw [List.getElem?_append_left hkl] at ha
        rw [(h.recs k a ha).ep]
        by_cases hlt : k + 1 < L.R.length
        · rw [List.getElem?_append_left hlt] at hq
          rw [(h.recs _ q hq).ep]
          omega
        · rw [List.getElem?_append_right (by omega)] at hq
          have : k + 1 - L.R.length = 0 := by omega
          rw [this] at hq
          simp at hq
          subst hq
          rw [hr]
          exact he
      · intro k q hq
        by_cases hlt : k < L.R.length
        · rw [List.getElem?_append_left hlt] at hq
          rw [hgot' _ (by omega) (by omega) (by omega) (by omega) (by omega)]
          exact h.yes k q (by omega) hq
        · rw [List.getElem?_append_right (by omega)] at hq
          obtain rfl : k = L.R.length := by
            have := (List.getElem?_eq_some_iff.1 hq).1
            simp at this
            omega
          simp at hq
          subst hq
          rw [← hls]
          exact hself
      · intro h1 h2
        have e3 : L.st + ((L.R ++ [r]).length : Int) = L.st + L.R.length + 1 := by omega
        rw [e3] at h2 ⊢
        rw [hgot' _ (by omega) (by omega) (by omega) (by omega) (by omega)] at h2 ⊢
        exact h.no _ (by omega) (by omega) (by omega) h2
/-- What is read depends on the sectors alone. -/
theorem look_S {D D' : Dv.Dev} (h : D'.S = D.S) (J : Ar.Job) (nd : Int) : lookR D' J nd true = lookR D J nd true := by
  have hr : ∀ x, D'.read x = D.read x := by
    intro x
    unfold Dv.Dev.read
    rw [h]
  have hg : ∀ s, gotA D' J nd s = gotA D J nd s := by
    intro s
    unfold gotA
    rw [hr, hr]
  have hlf : ∀ (m : Nat) (s : Int), laidF D' J nd s m = laidF D J nd s m := by
    intro m
    induction m with
    | zero => intro s; rw [laidF, laidF]
    | succ m ih => intro s; rw [laidF, laidF, hg, ih]
  unfold lookR standS laidS
  rw [h, hr, hlf]

end Go.Proofs.YtmeajhdhiebkdaaDoor

/-
  A log with a row of records beside it; a crash, and what is read then.
-/
namespace Go.Proofs.YtmeajhdhiebkdaaDoor
set_option maxRecDepth 100000
open Go.RowKit

/-- A log and its device, made since w0, and a row of records apart from the log's own. -/
structure Kb (w0 W : World) (l b g : Nat) (D : Dv.Dev) (L : Lo) (u : Value) (S : List Rc.Rec) : Prop where
  lt : ∃ rv, Lt W l b g rv D L ∧ (∀ k, rv.ownBlock = some k → w0.heap.size ≤ k) ∧ (∀ k, u.ownBlock = some k → w0.heap.size ≤ k ∧ rv.ownBlock ≠ some k)
  row : OwnO W u S.length (cellsR S)
  bd : ∀ r ∈ S, Rc.Byts 96 r.bd
  k : Kept [] w0 W
  gl : w0.heap.size ≤ l
  gb : w0.heap.size ≤ b
  gg : w0.heap.size ≤ g
section
variable {w0 W W' : World} {l b g : Nat} {D : Dv.Dev} {L : Lo} {u : Value} {S : List Rc.Rec}
theorem Kb.step (h : Kb w0 W l b g D L u S) (hk : Kept [] W W') : Kb w0 W' l b g D L u S := by
  obtain ⟨⟨rv, h1, h2, h3⟩, h4, h5, h6, h7, h8, h9⟩ := h
  exact ⟨⟨rv, h1.kept0 hk, h2, h3⟩, h4.kept hk (by simp), h5, h6.trans hk, h7, h8, h9⟩
theorem Kb.ka (h : Kb w0 W l b g D L u S) : Ka w0 W l b g D L := by
  obtain ⟨⟨rv, h1, h2, h3⟩, h4, h5, h6, h7, h8, h9⟩ := h
  exact ⟨⟨rv, h1, h2⟩, h6, h7, h8, h9⟩
theorem Ka.kb (h : Ka w0 W l b g D L) : Kb w0 W l b g D L (.slice none 0 0) [] := by
  obtain ⟨⟨rv, h1, h2⟩, h6, h7, h8, h9⟩ := h
  exact ⟨⟨rv, h1, h2, (fun k e => by cases e)⟩, OwnO.nil _, (fun r hr => by cases hr), h6, h7, h8, h9⟩
theorem Kb.ok (h : Kb w0 W l b g D L u S) : D.Ok := h.ka.kd.dev.ok
theorem Kb.apart (h : Kb w0 W l b g D L u S) : ∀ k, u.ownBlock = some k → k ∉ [l, b, g] := by
  obtain ⟨⟨rv, h1, h2, h3⟩, h4, _⟩ := h
  intro k e hm
  obtain ⟨cs, hc⟩ := h4.block k e
  obtain ⟨cap, g1, ex, g2, _⟩ := h1.dev.lay
  have g0 := h1.head
  unfold Dv.Head at g1
  simp only [List.mem_cons, List.not_mem_nil, or_false] at hm
  rcases hm with rfl | rfl | rfl
  · unfold Blk at g0
    rw [hc] at g0
    injection g0 with g0
    injection g0 with _ g0
    exact absurd g0 (by decide)
  · rw [hc] at g1
    injection g1 with g1
    injection g1 with _ g1
    exact absurd g1 (by decide)
  · rw [hc] at g2
    injection g2 with g2
    injection g2 with _ g2
    exact absurd g2 (by decide)
theorem kb_start (h : Kb w0 W l b g D L u S) : Calls Tryd.prog 21 #[P0 l] W fun e w' => e = .returned (.int .i64 L.st) ∧ Kb w0 w' l b g D L u S := by
  obtain ⟨rv, h1, h2⟩ := h.lt
  exact (start21 l b g rv D L W h1).mono (by rintro e w' ⟨rfl, rfl⟩; exact ⟨rfl, h⟩)
theorem kb_flushed (h : Kb w0 W l b g D L u S) : Calls Tryd.prog 15 #[P0 l] W fun e w' => e = .returned (.int .i64 (L.st + L.fl - 1)) ∧ Kb w0 w' l b g D L u S := by
  obtain ⟨rv, h1, h2⟩ := h.lt
  exact (flushed15 l b g rv D L W h1).mono (by rintro e w' ⟨rfl, hk⟩; exact ⟨rfl, h.step hk⟩)
theorem kb_next (h : Kb w0 W l b g D L u S) : Calls Tryd.prog 23 #[P0 l] W fun e w' => e = .returned (.int .i64 (L.st + L.R.length)) ∧ Kb w0 w' l b g D L u S := by
  obtain ⟨rv, h1, h2⟩ := h.lt
  exact (next23 l b g rv D L W h1).mono (by rintro e w' ⟨rfl, hk⟩; exact ⟨rfl, h.step hk⟩)
theorem kb_room (m : Int) (hm : L.room = m) (h : Kb w0 W l b g D L u S) : Calls Tryd.prog 12 #[P0 l] W fun e w' => e = .returned (.int .i64 m) ∧ Kb w0 w' l b g D L u S := by
  obtain ⟨rv, h1, h2⟩ := h.lt
  rw [← hm]
  exact (room12 l b g rv D L W h1).mono (by rintro e w' ⟨rfl, hk⟩; exact ⟨rfl, h.step hk⟩)
theorem kb_app (p ps : Int) (bd : List Int) (hb : Rc.Byts 96 bd) (h : Kb w0 W l b g D L u S) : Calls Tryd.prog 16 #[P0 l, .int .i64 p, aggV (verC ps bd)] W fun e w' => e = .returned (.tuple #[.int .i64 (L.app p ps bd).2.1, .int .i64 (L.app p ps bd).2.2]) ∧ Kb w0 w' l b g D (L.app p ps bd).1 u S := by
  obtain ⟨rv, h1, h2, h3⟩ := h.lt
  refine (append16 l b g rv D L p ps bd W h1 hb).mono ?_
  rintro e w' ⟨rv', rfl, h4, hk, h5⟩
  refine ⟨rfl, ⟨rv', h4, fun k e => ?_, fun k e => ?_⟩, h.row.kept hk (fun k e hm => ?_), h.bd, h.k.fresh hk (fun i hi hl => ?_), h.gl, h.gb, h.gg⟩
  · rcases h5 k e with h6 | h6
    · exact h2 k h6
    · have := h.k.size; omega
  · refine ⟨(h3 k e).1, fun e2 => ?_⟩
    rcases h5 k e2 with h6 | h6
    · exact (h3 k e).2 h6
    · obtain ⟨cs, hc⟩ := h.row.block k e
      have := lt_of_block hc
      omega
  · rcases List.mem_cons.1 hm with rfl | hm
    · exact h.apart k e (by simp)
    · exact (h3 k e).2 (by simpa using hm)
  · rcases List.mem_cons.1 hi with rfl | hi
    · have := h.gl; omega
    · have := h2 i (by simpa using hi); omega
theorem Kb.turn {D' : Dv.Dev} {L' : Lo} (h : Kb w0 W l b g D L u S) {rv rv' : Value} (_ : Lt W l b g rv D L) (h2 : ∀ k, rv.ownBlock = some k → w0.heap.size ≤ k) (h3 : ∀ k, u.ownBlock = some k → w0.heap.size ≤ k ∧ rv.ownBlock ≠ some k) (h4 : Lt W' l b g rv' D' L') (h5 : rv'.ownBlock = rv.ownBlock) {X : List Nat} (hX : ∀ i ∈ X, i ∈ [l, b, g]) (hk : Kept X W W') : Kb w0 W' l b g D' L' u S := by
  refine ⟨⟨rv', h4, fun k e => h2 k (by rw [← h5]; exact e), fun k e => by rw [h5]; exact h3 k e⟩, h.row.kept hk (fun k e hm => h.apart k e (hX k hm)), h.bd, h.k.fresh hk (fun i hi hl => ?_), h.gl, h.gb, h.gg⟩
  have h9 := hX i hi
  have := h.gl; have := h.gb; have := h.gg
  simp at h9
  omega
theorem kb_flush {D' : Dv.Dev} {f : Nat} {c : Int} (hf : L.flush D = (D', f, c)) (h : Kb w0 W l b g D L u S) : Calls Tryd.prog 13 #[P0 l] W fun e w' => e = .returned (.int .i64 c) ∧ Kb w0 w' l b g D' (L.atF f) u S := by
  obtain ⟨rv, h1, h2, h3⟩ := h.lt
  have h9 := flush13 l b g rv D L W h1
  rw [hf] at h9
  refine h9.mono ?_
  rintro e w' ⟨rfl, h4, hk⟩
  exact ⟨rfl, h.turn h1 h2 h3 h4 rfl (fun i hi => hi) hk⟩
theorem kb_cut {D' : Dv.Dev} {L' : Lo} {c : Int} (hF : Rc.First w0) (s : Int) (hc : L.cut D s = (D', L', c)) (h : Kb w0 W l b g D L u S) : Calls Tryd.prog 14 #[P0 l, .int .i64 s] W fun e w' => e = .returned (.int .i64 c) ∧ Kb w0 w' l b g D' L' u S := by
  obtain ⟨rv, h1, h2, h3⟩ := h.lt
  have h9 := cut14 l b g rv D L s W h1 (hF.kept h.k)
  rw [hc] at h9
  refine h9.mono ?_
  rintro e w' ⟨rv', rfl, h4, hk, h5⟩
  exact ⟨rfl, h.turn h1 h2 h3 h4 h5 (fun i hi => hi) hk⟩
theorem kb_dcut (n : Int) (hn : n ≤ 9223372036854775807) {D' : Dv.Dev} {c : Int} (hc : D.cut n = (c, D')) (h : Kb w0 W l b g D L u S) : Calls Tryd.prog 17 #[P0 b, .int .i64 n] W fun e w' => e = .returned (.int .i64 c) ∧ Kb w0 w' l b g D' L u S := by
  obtain ⟨rv, h1, h2, h3⟩ := h.lt
  have h9 := Dv.cut25 b g D n W h1.dev hn
  rw [hc] at h9
  refine h9.mono ?_
  rintro e w' ⟨rfl, h4, hk⟩
  exact ⟨rfl, h.turn h1 h2 h3 (h1.setdev h4 hk) rfl (fun i hi => by simp at hi ⊢; omega) hk⟩
theorem kb_whole (h : Kb w0 W l b g D L u S) : Calls Tryd.prog 18 #[P0 b] W fun e w' => e = .returned (.bool (!D.lost)) ∧ Kb w0 w' l b g D.uncut L u S := by
  obtain ⟨rv, h1, h2, h3⟩ := h.lt
  refine (Dv.whole20 b g D W h1.dev).mono ?_
  rintro e w' ⟨rfl, h4, hk⟩
  exact ⟨rfl, h.turn h1 h2 h3 (h1.setdev h4 hk) rfl (fun i hi => by simp at hi ⊢; omega) hk⟩
theorem kb_up (x : Int) {D' : Dv.Dev} {y c : Int} (hc : D.up x = (y, c, D')) (h : Kb w0 W l b g D L u S) : Calls Tryd.prog 19 #[P0 b, .int .i64 x] W fun e w' => e = .returned (.tuple #[.int .i64 y, .int .i64 c]) ∧ Kb w0 w' l b g D' L u S := by
  obtain ⟨rv, h1, h2, h3⟩ := h.lt
  have h9 := Dv.up27 b g D x W h1.dev
  rw [hc] at h9
  refine h9.mono ?_
  rintro e w' ⟨rfl, h4, hk⟩
  exact ⟨rfl, h.turn h1 h2 h3 (h1.setdev h4 hk) rfl (fun i hi => by simp at hi ⊢; omega) hk⟩
theorem Kb.nil (h : Kb w0 W l b g D L u S) : Kb w0 W l b g D L (.slice none 0 0) [] := h.ka.kb
theorem Kb.put {r : Rc.Rec} {v : Value} {n : Nat} {xs : List Value} (h : Kb w0 W l b g D L u S) (hb : Rc.Byts 96 r.bd) (hn : n = S.length + 1) (hx : xs = cellsR (S ++ [r])) (h1 : OwnO W' v n xs) (hk : Kept u.ownBlock.toList W W') (h2 : ∀ k, v.ownBlock = some k → u.ownBlock = some k ∨ W.heap.size ≤ k) : Kb w0 W' l b g D L v (S ++ [r]) := by
  subst hn hx
  obtain ⟨rv, g1, g2, g3⟩ := h.lt
  have hap := h.apart
  have hno : ∀ i, i ∈ [l, b, g] → i ∉ u.ownBlock.toList := fun i hi hm => hap i (by simpa using hm) hi
  refine ⟨⟨rv, ⟨g1.head.kept hk (hno l (by simp)), g1.dev.kept hk (hno b (by simp)) (hno g (by simp)), g1.row.kept hk (fun k e hm => (g3 k (by simpa using hm)).2 e), g1.recs, g1.may, g1.node, g1.ep, g1.st, g1.nx, g1.fl, g1.many⟩, g2, fun k e => ?_⟩, ?_, ?_, h.k.fresh hk (fun i hi hl => ?_), h.gl, h.gb, h.gg⟩
  · rcases h2 k e with h3 | h3
    · exact g3 k h3
    · refine ⟨by have := h.k.size; omega, fun e2 => ?_⟩
      obtain ⟨cs, hc⟩ := g1.row.block k e2
      have := lt_of_block hc
      omega
  · rw [List.length_append]
    exact h1
  · intro q hq
    rcases List.mem_append.1 hq with h3 | h3
    · exact h.bd q h3
    · simp at h3
      subst h3
      exact hb
  · have := g3 i (by simpa using hi)
    omega
end
/-- What RedoTorn keeps. -/
structure Tn (J : Ar.Job) (D : Dv.Dev) (L : Lo) : Prop where
  hol : Hol D L
  hs : Hs D L
  J : L.J = J
  nd : L.nd = 1
  ep : L.ep = 1
theorem Tn.app {J : Ar.Job} {D : Dv.Dev} {L : Lo} (h : Tn J D L) (ps : Int) (bd : List Int) (hb : Rc.Byts 96 bd) : Tn J D (L.app 0 ps bd).1 := by
  refine ⟨h.hol.app 0 ps bd hb, h.hs.app 0 ps bd, ?_, ?_, ?_⟩ <;> unfold Lo.app <;> split
  · exact h.J
  · split
    · exact h.J
    · exact h.J
  · exact h.nd
  · split
    · exact h.nd
    · exact h.nd
  · exact h.ep
  · split
    · exact h.ep
    · exact h.ep
/-- How an Append ends. -/
theorem Tn.ends {J : Ar.Job} {D : Dv.Dev} {L : Lo} (h : Tn J D L) (ps : Int) (bd : List Int) : ((L.app 0 ps bd).1 = L ∧ ¬ (L.app 0 ps bd).2.2 = 0) ∨ ((L.app 0 ps bd).2.2 = 0 ∧ ∃ n, (L.app 0 ps bd).2.1 = n ∧ (L.app 0 ps bd).1.R = L.R ++ [⟨1, 1, n, 0, ps, bd⟩] ∧ (L.app 0 ps bd).1.fl = L.fl ∧ (L.app 0 ps bd).1.st = L.st) := by
  unfold Lo.app
  split
  · exact .inl ⟨rfl, by show ¬ (2 : Int) = 0; omega⟩
  · split
    · exact .inl ⟨rfl, by show ¬ (5 : Int) = 0; omega⟩
    · refine .inr ⟨rfl, _, rfl, ?_, rfl, rfl⟩
      show L.R ++ [L.recN 0 ps bd] = _
      unfold Lo.recN
      rw [h.nd, h.ep]
theorem Tn.flush {J : Ar.Job} {D : Dv.Dev} {L : Lo} (h : Tn J D L) : ∃ D', L.flush D = (D', L.R.length, 0) ∧ Tn J D' (L.atF L.R.length) := by
  obtain ⟨h1, h2, h3⟩ := h.hol.flush
  have h4 := h.hs.flush h.hol
  obtain ⟨⟨D', f, c⟩, hh⟩ : ∃ t, L.flush D = t := ⟨_, rfl⟩
  rw [hh] at h1 h2 h3 h4
  obtain rfl : f = L.R.length := h2
  obtain rfl : c = 0 := h1
  exact ⟨D', hh, h3, h4, h.J, h.nd, h.ep⟩
theorem Tn.cutAll {J : Ar.Job} {D : Dv.Dev} {L : Lo} (h : Tn J D L) (hD : D.Ok) (hfl : L.fl = L.R.length) : ∃ D' L', L.cut D (L.st + L.fl - 1 + 1) = (D', L', 0) ∧ Tn J D' L' ∧ L'.R = [] := by
  have hst := h.hol.st
  have hc : L.mayC (L.st + L.fl - 1 + 1) = true := by
    unfold Lo.mayC
    exact decide_eq_true (by omega)
  obtain ⟨h1, h2⟩ := h.hol.cutTo _ hc
  have h3 := h.hs.cutTo h.hol hD _ hc
  obtain ⟨⟨D', L', c⟩, hh⟩ : ∃ t, L.cut D (L.st + L.fl - 1 + 1) = t := ⟨_, rfl⟩
  rw [hh] at h1 h2 h3
  injection h1 with e1 e2
  replace e1 : L' = L.from (L.st + L.fl - 1 + 1) := e1
  replace e2 : c = 0 := e2
  subst e1 e2
  refine ⟨D', _, hh, ⟨h2, h3, h.J, h.nd, h.ep⟩, ?_⟩
  show L.R.drop _ = []
  exact List.drop_eq_nil_of_le (by omega)
/-- A crash within a flush, and the node's coming up behind it. -/
theorem Tn.crash {J : Ar.Job} {D : Dv.Dev} {L : Lo} (h : Tn J D L) (hD : D.Ok) (n : Nat) : ∃ D1 D2 f, f = min L.R.length (L.fl + n / 2) ∧ D.cut (n : Int) = (0, cutD D n) ∧ L.flush (cutD D n) = (D1, L.R.length, 0) ∧ D1.uncut.up 1 = (2, 0, D2) ∧ Hol D1.uncut (L.tk f) ∧ D2.S = D1.uncut.S ∧ D2.set = false ∧ D2.ref 1 2 true = 0 ∧ lookR D2 J 1 true = (L.st, L.R.take f, 0) := by
  obtain ⟨D1, e1, h1⟩ := torn _ D L n h.hol h.hs hD rfl
  have hfl := h.hol.fl
  have href := h1.ref
  have hr : D1.uncut.ref 1 1 true = 0 := by
    have e8 : (L.tk (min L.R.length (L.fl + n / 2))).nd = 1 := h.nd
    have e9 : (L.tk (min L.R.length (L.fl + n / 2))).ep = 1 := h.ep
    rw [e8, e9] at href
    exact href
  have hp : Dv.hasN D1.uncut.N 1 = true ∧ D1.uncut.ep 1 = 1 := by
    unfold Dv.Dev.ref at hr
    split at hr
    · rename_i hh
      split at hr
      · exact absurd hr (by decide)
      · exact ⟨hh.2.1, by omega⟩
    · exact absurd hr (by decide)
  have hu : D1.uncut.up 1 = (2, 0, (D1.uncut.step D1.uncut.S (D1.uncut.E.set 1 2)).1) := by
    unfold Dv.Dev.up
    rw [hp.1, hp.2, if_pos rfl, if_neg (by decide)]
    rfl
  have hst : (D1.uncut.step D1.uncut.S (D1.uncut.E.set 1 2)).1 = { D1.uncut with E := D1.uncut.E.set 1 2, done := wrap64 (D1.uncut.done + 1) } := by
    unfold Dv.Dev.step
    simp [Dv.Dev.uncut]
  have hlen : 1 < D1.uncut.E.length := by
    have h8 := hp.2
    unfold Dv.Dev.ep at h8
    rw [List.getD_eq_getElem?_getD] at h8
    by_cases hc : 1 < D1.uncut.E.length
    · exact hc
    · rw [List.getElem?_eq_none (by show D1.uncut.E.length ≤ (1 : Int).toNat; simp; omega)] at h8
      simp at h8
  refine ⟨D1, _, _, rfl, ?_, e1, hu, h1, by rw [hst], by rw [hst]; rfl, ?_, ?_⟩
  · unfold Dv.Dev.cut
    rw [if_neg (by omega), h.hol.cut]
    rfl
  · rw [hst]
    unfold Dv.Dev.ref
    have e2 : Dv.Dev.ep { D1.uncut with E := D1.uncut.E.set 1 2, done := wrap64 (D1.uncut.done + 1) } 1 = 2 := by
      unfold Dv.Dev.ep
      rw [List.getD_eq_getElem?_getD]
      show ((D1.uncut.E.set 1 2)[(1 : Int).toNat]?).getD 0 = 2
      rw [show (1 : Int).toNat = 1 from rfl, List.getElem?_set_self hlen]
      rfl
    rw [e2, if_pos ⟨rfl, hp.1, by omega, by omega⟩, if_neg (by omega)]
  · have hs2 : (D1.uncut.step D1.uncut.S (D1.uncut.E.set 1 2)).1.S = D1.uncut.S := by rw [hst]
    rw [look_S hs2]
    have h9 := h1.look
    have e7 : (L.tk (min L.R.length (L.fl + n / 2))).J = J := h.J
    have e8 : (L.tk (min L.R.length (L.fl + n / 2))).nd = 1 := h.nd
    rw [e7, e8] at h9
    rw [h9]
    show (L.st, (L.R.take (min L.R.length (L.fl + n / 2))).take (min L.R.length (L.fl + n / 2)), 0) = _
    rw [List.take_take, Nat.min_self]

end Go.Proofs.YtmeajhdhiebkdaaDoor
