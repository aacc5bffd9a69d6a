/-
  Flush and Cut of a device that holds its log.
-/
import Derived.Test.YtmeajhdhiebkdaaDoorHb
namespace Go.Proofs.YtmeajhdhiebkdaaDoor
set_option maxRecDepth 100000
open Go.RowKit

theorem secsR_two {r : Rc.Rec} (hr : Rc.isRec r = true) (hb : Rc.Byts 96 r.bd) : secsR r = [Rc.laidR r 0, Rc.laidR r 1] := by
  have l0 := (Rc.laidR_byts (r := r) (h := 0) (by omega) hb).len
  unfold secsR Rc.putR
  rw [if_pos hr]
  show [(Rc.laidR r 0 ++ Rc.laidR r 1).take 64, (Rc.laidR r 0 ++ Rc.laidR r 1).drop 64] = _
  rw [List.take_left' l0, List.drop_left' l0]
theorem atF_self (L : Lo) : L.atF L.fl = L := rfl
theorem Hol.put {D : Dv.Dev} {L : Lo} (h : Hol D L) {r : Rc.Rec} (hr : L.R[L.fl]? = some r) : (D.write L.nd L.ep (L.J.record L.nd r.ls).1 (secsR r)).1 = 0 ∧ Hol (D.write L.nd L.ep (L.J.record L.nd r.ls).1 (secsR r)).2 (L.atF (L.fl + 1)) := by
  have hO := h.recs _ _ hr
  have hlt := (List.getElem?_eq_some_iff.1 hr).1
  have hnx := h.nx
  have hst := h.st
  have hmany := h.many
  have hl := h.len
  have hls : 1 ≤ r.ls ∧ r.ls ≤ 2147483647 := by have := hO.ls; omega
  have i1 := plc_in (s := r.ls) h.may h.node
  rw [secsR_two hO.ok hO.bd, rec_plc h.may h.node hls]
  have hs : Dv.hasS D.S.length (plc L.J L.nd r.ls) ([Rc.laidR r 0, Rc.laidR r 1] : List (List Int)).length = true := by
    simp [Dv.hasS]
    omega
  have hw : D.write L.nd L.ep (plc L.J L.nd r.ls) [Rc.laidR r 0, Rc.laidR r 1] = (0, D.puts (plc L.J L.nd r.ls).toNat [Rc.laidR r 0, Rc.laidR r 1]) := by
    unfold Dv.Dev.write
    rw [hs, if_pos h.ref]
  rw [hw, puts2 h.cut]
  refine ⟨rfl, ?_⟩
  obtain ⟨D', hD'⟩ : ∃ D' : Dv.Dev, D' = { D with S := (D.S.set (plc L.J L.nd r.ls).toNat (Rc.laidR r 0)).set ((plc L.J L.nd r.ls).toNat + 1) (Rc.laidR r 1), done := wrap64 (wrap64 (D.done + 1) + 1) } := ⟨_, rfl⟩
  show Hol { D with S := (D.S.set (plc L.J L.nd r.ls).toNat (Rc.laidR r 0)).set ((plc L.J L.nd r.ls).toNat + 1) (Rc.laidR r 1), done := wrap64 (wrap64 (D.done + 1) + 1) } _
  rw [← hD']
  have hS : D'.S = (D.S.set (plc L.J L.nd r.ls).toNat (Rc.laidR r 0)).set ((plc L.J L.nd r.ls).toNat + 1) (Rc.laidR r 1) := by rw [hD']
  have hg := fun (s : Int) (hs : 1 ≤ s ∧ s ≤ 2147483647) => got_two h.may h.node hl hS hs
  refine ⟨by rw [hD']; exact h.cut, ?_, by rw [hD']; exact h.ref, h.may, h.node, h.st, h.nx, ?_, h.many, h.ep, ?_, ?_, ?_, ?_⟩
  · rw [hS, List.length_set, List.length_set]; exact hl
  · show L.fl + 1 ≤ L.R.length
    omega
  · intro k q hq
    have := h.recs k q hq
    exact ⟨this.nd, this.ep, this.ls, this.pg, this.ok, this.bd⟩
  · obtain ⟨e, he, ht⟩ := h.hd
    refine ⟨e, he, ?_⟩
    show Rc.takeR (D'.read (L.J.head L.nd).1).1 = _
    obtain ⟨D1, hD1⟩ : ∃ D1 : Dv.Dev, D1.S = D.S.set (plc L.J L.nd r.ls).toNat (Rc.laidR r 0) := ⟨{ D with S := D.S.set (plc L.J L.nd r.ls).toNat (Rc.laidR r 0) }, rfl⟩
    rw [← hD1] at hS
    rw [head_plc h.may h.node, read_set hS _ (by omega), if_neg (by omega), read_set hD1 _ (by omega), if_neg (by omega), ← head_plc h.may h.node]
    exact ht
  · intro k q hk hq
    replace hk : k < L.fl + 1 := hk
    replace hq : L.R[k]? = some q := hq
    show gotA D' L.J L.nd (L.st + k) = _
    have hk2 := (List.getElem?_eq_some_iff.1 hq).1
    rw [hg _ (by omega)]
    by_cases he : k = L.fl
    · subst he
      rw [hq] at hr
      cases hr
      rw [if_pos (by rw [hO.ls]), Rc.get_laid _ hO.ok hO.bd]
    · rw [if_neg (fun e => by
        have := plc_inj h.may e (by have := hO.ls; omega) (by have := hO.ls; omega)
        have := hO.ls
        omega)]
      exact h.yes k q (by omega) hq
  · intro s h1 h2 h3
    replace h1 : L.st + ((L.fl + 1 : Nat) : Int) ≤ s := h1
    replace h2 : s < L.st + L.J.l := h2
    show (gotA D' L.J L.nd s).2 = 0 → (gotA D' L.J L.nd s).1.ls < s
    rw [hg _ (by omega), if_neg (fun e => by
        have := plc_inj h.may e (by have := hO.ls; omega) (by have := hO.ls; omega)
        have := hO.ls
        omega)]
    exact h.no s (by omega) h2 h3
theorem Hol.flush' : ∀ (m : Nat) (D : Dv.Dev) (L : Lo), Hol D L → L.R.length - L.fl = m → (L.flush D).2.2 = 0 ∧ (L.flush D).2.1 = L.R.length ∧ Hol (L.flush D).1 (L.atF L.R.length) := by
  intro m
  induction m with
  | zero =>
    intro D L h hm
    have hfl := h.fl
    have e : L.R.drop L.fl = [] := List.drop_eq_nil_of_le (by omega)
    unfold Lo.flush
    rw [e, flushR]
    refine ⟨rfl, by show L.fl = _; omega, ?_⟩
    rw [show L.R.length = L.fl by omega]
    exact h
  | succ m ih =>
    intro D L h hm
    have hlt : L.fl < L.R.length := by omega
    have hr : L.R[L.fl]? = some L.R[L.fl] := List.getElem?_eq_getElem hlt
    obtain ⟨h1, h2⟩ := h.put hr
    have e : L.flush D = (L.atF (L.fl + 1)).flush (D.write L.nd L.ep (L.J.record L.nd L.R[L.fl].ls).1 (secsR L.R[L.fl])).2 := by
      unfold Lo.flush
      rw [List.drop_eq_getElem_cons hlt, flushR, if_pos h1]
      rfl
    rw [e]
    exact ih _ _ h2 (by show L.R.length - (L.fl + 1) = m; omega)
theorem Hol.flush {D : Dv.Dev} {L : Lo} (h : Hol D L) : (L.flush D).2.2 = 0 ∧ (L.flush D).2.1 = L.R.length ∧ Hol (L.flush D).1 (L.atF L.R.length) := Hol.flush' _ D L h rfl
theorem Hol.cutTo {D : Dv.Dev} {L : Lo} (h : Hol D L) (s : Int) (hs : L.mayC s = true) : (L.cut D s).2 = (L.from s, 0) ∧ Hol (L.cut D s).1 (L.from s) := by
  have hs' := hs
  simp only [Lo.mayC, decide_eq_true_eq] at hs'
  have hnx := h.nx
  have hst := h.st
  have hmany := h.many
  have hfl := h.fl
  have hl := h.len
  have hep := h.ep
  have i1 := plc_in (s := 1) h.may h.node
  have hsec : Dv.hasS D.S.length (9 + L.nd * (1 + 2 * L.J.l)) ([(Rc.puthR s L.ep).1] : List (List Int)).length = true := by
    simp [Dv.hasS]
    omega
  have hw : L.cutW D s = (0, D.puts (9 + L.nd * (1 + 2 * L.J.l)).toNat [(Rc.puthR s L.ep).1]) := by
    unfold Lo.cutW
    rw [head_plc h.may h.node]
    unfold Dv.Dev.write
    rw [hsec, if_pos h.ref]
  unfold Lo.cut
  rw [hs, if_neg (by simp), hw, if_pos rfl, puts1 h.cut]
  refine ⟨rfl, ?_⟩
  obtain ⟨D', hD'⟩ : ∃ D' : Dv.Dev, D' = { D with S := D.S.set (9 + L.nd * (1 + 2 * L.J.l)).toNat (Rc.puthR s L.ep).1, done := wrap64 (D.done + 1) } := ⟨_, rfl⟩
  show Hol { D with S := D.S.set (9 + L.nd * (1 + 2 * L.J.l)).toNat (Rc.puthR s L.ep).1, done := wrap64 (D.done + 1) } _
  rw [← hD']
  have hS : D'.S = D.S.set (9 + L.nd * (1 + 2 * L.J.l)).toNat (Rc.puthR s L.ep).1 := by rw [hD']
  have hg : ∀ t : Int, 1 ≤ t ∧ t ≤ 2147483647 → gotA D' L.J L.nd t = gotA D L.J L.nd t := by
    intro t ht
    have i2 := plc_in (s := t) h.may h.node
    unfold gotA
    rw [rec_plc h.may h.node ht, read_set hS _ (by omega), if_neg (by omega), read_set hS _ (by omega), if_neg (by omega)]
  obtain ⟨gn, hgn⟩ : ∃ gn : Nat, (s - L.st).toNat = gn := ⟨_, rfl⟩
  have hgs : s = L.st + gn := by omega
  have hF : L.from s = ⟨L.J, L.nd, L.ep, s, L.R.drop gn, L.fl - gn⟩ := by unfold Lo.from; rw [hgn]
  rw [hF]
  have hlen : (L.R.drop gn).length = L.R.length - gn := List.length_drop
  refine ⟨by rw [hD']; exact h.cut, ?_, by rw [hD']; exact h.ref, h.may, h.node, ?_, ?_, ?_, ?_, h.ep, ?_, ?_, ?_, ?_⟩
  · rw [hS, List.length_set]; exact hl
  · show 1 ≤ s
    omega
  · show s + ((L.R.drop gn).length : Int) ≤ _
    omega
  · show L.fl - gn ≤ (L.R.drop gn).length
    omega
  · show ((L.R.drop gn).length : Int) ≤ L.J.l
    omega
  · intro k r hk
    replace hk : (L.R.drop gn)[k]? = some r := hk
    rw [List.getElem?_drop] at hk
    have := h.recs _ r hk
    refine ⟨this.nd, this.ep, ?_, this.pg, this.ok, this.bd⟩
    have e := this.ls
    show r.ls = s + (k : Int)
    omega
  · refine ⟨L.ep, Int.le_refl _, ?_⟩
    show Rc.takeR (D'.read (L.J.head L.nd).1).1 = _
    rw [head_plc h.may h.node, read_set hS _ (by omega), if_pos (by omega)]
    exact (Rc.take_laid s L.ep (.inr ⟨by simp [Rc.isWrit]; omega, by simp [Rc.isWrit]; omega⟩)).1
  · intro k r hk hr
    replace hk : k < L.fl - gn := hk
    replace hr : (L.R.drop gn)[k]? = some r := hr
    rw [List.getElem?_drop] at hr
    show gotA D' L.J L.nd (s + k) = _
    rw [hg _ (by omega), show s + (k : Int) = L.st + ((gn + k : Nat) : Int) by omega]
    exact h.yes _ r (by omega) hr
  · intro t h1 h2 h3
    replace h1 : s + ((L.fl - gn : Nat) : Int) ≤ t := h1
    replace h2 : t < s + L.J.l := h2
    show (gotA D' L.J L.nd t).2 = 0 → (gotA D' L.J L.nd t).1.ls < t
    rw [hg _ (by omega)]
    by_cases hlt : t < L.st + L.J.l
    · exact h.no t (by omega) hlt h3
    · obtain ⟨k, hk⟩ : ∃ k : Nat, t - L.J.l = L.st + k := ⟨(t - L.J.l - L.st).toNat, by omega⟩
      have hkf : k < L.fl := by omega
      have hr : L.R[k]? = some L.R[k] := List.getElem?_eq_getElem (by omega)
      have hy := h.yes k _ hkf hr
      have hp : gotA D L.J L.nd t = gotA D L.J L.nd (L.st + k) := by
        unfold gotA
        rw [rec_plc h.may h.node (by omega), rec_plc h.may h.node (by omega), ← hk, show t = t - L.J.l + L.J.l by omega, plc_wrap, show t - L.J.l + L.J.l - L.J.l = t - L.J.l by omega]
      rw [hp, hy]
      intro _
      have e := (h.recs k _ hr).ls
      have hm' := h.may
      simp only [Ar.Job.may, decide_eq_true_eq] at hm'
      show (L.R[k]).ls < t
      omega

end Go.Proofs.YtmeajhdhiebkdaaDoor
