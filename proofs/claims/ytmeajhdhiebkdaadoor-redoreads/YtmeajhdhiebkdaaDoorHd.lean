/-
  A log that goes round: what RedoRounds keeps.
-/
import Derived.Test.YtmeajhdhiebkdaaDoorMa
import Derived.Test.YtmeajhdhiebkdaaDoorMd
namespace Go.Proofs.YtmeajhdhiebkdaaDoor
set_option maxRecDepth 100000
open Go.RowKit

def jP (a : Int) : Ar.Job := ⟨2, 1, 1, a, 2⟩
theorem jP_may {a : Int} (h : 2 ≤ a ∧ a ≤ 64) : (jP a).may = true := by
  unfold Ar.Job.may
  refine decide_eq_true ?_
  show (2 : Int) ≤ 2 ∧ (2 : Int) ≤ 8 ∧ (1 : Int) ≤ 1 ∧ (1 : Int) ≤ 16 ∧ (1 : Int) ≤ 1 ∧ (1 : Int) ≤ 16 ∧ 2 ≤ a ∧ a ≤ 64 ∧ (2 : Int) ≤ 2 ∧ (2 : Int) ≤ 100
  omega
def eP (a : Int) : Dv.Dev := ups (Dv.newDev (jP a).sectors.1.toNat (jP a).n.toNat) (jP a).n.toNat
theorem eP_eq (a : Int) : eP a = ⟨Dv.noughts (jP a).sectors.1.toNat, 2, [1, 1, 0, 0, 0, 0, 0, 0], 2, false, 0, false⟩ := by kernel_rfl
theorem noughts_read {D : Dv.Dev} {n : Nat} (h : D.S = Dv.noughts n) (x : Int) : (D.read x).1 = Rc.zs 64 := by
  unfold Dv.Dev.read
  split
  · show D.S.getD x.toNat Dv.nought = _
    rw [h, List.getD_eq_getElem?_getD]
    unfold Dv.noughts
    rw [List.getElem?_replicate]
    split <;> rfl
  · rfl
theorem get_zero : Rc.getR (Rc.zs 64) (Rc.zs 64) = (Rc.zrec, 12) := by kernel_rfl
theorem hol0 {a : Int} (h : 2 ≤ a ∧ a ≤ 64) : Hol (eP a) (openL (jP a) 0 1 1 []) := by
  have hs : (jP a).sectors.1 = 1 * 2 + (2 * (1 + 2 * a) + 9) := by
    unfold Ar.Job.sectors Ar.Job.L
    rw [if_pos (jP_may h)]
    rfl
  have hg : ∀ s, gotA (eP a) (jP a) 0 s = (Rc.zrec, 12) := by
    intro s
    unfold gotA
    rw [noughts_read (n := (jP a).sectors.1.toNat) rfl, noughts_read (n := (jP a).sectors.1.toNat) rfl, get_zero]
  refine ⟨rfl, ?_, rfl, jP_may h, ⟨by show (0 : Int) ≤ 0; omega, by show (0 : Int) < 2; omega⟩, by show (1 : Int) ≤ 1; omega, by show (1 : Int) + 0 ≤ _; omega, by show 0 ≤ 0; omega, by show (0 : Int) ≤ a; omega, by show (1 : Int) ≤ 1 ∧ (1 : Int) ≤ 2147483647; omega, ?_, ?_, ?_, ?_⟩
  · rw [eP_eq]
    show ((Dv.noughts (jP a).sectors.1.toNat).length : Int) = (jP a).sectors.1
    unfold Dv.noughts
    rw [List.length_replicate]
    omega
  · intro k r hk
    cases hk
  · refine ⟨0, by show (0 : Int) ≤ 1; omega, ?_⟩
    show Rc.takeR ((eP a).read _).1 = _
    rw [noughts_read (n := (jP a).sectors.1.toNat) rfl]
    exact Rc.take_first
  · intro k r hk
    exact absurd hk (by show ¬ k < 0; omega)
  · intro s _ _ _ hc
    replace hc : (gotA (eP a) (jP a) 0 s).2 = 0 := hc
    rw [hg] at hc
    exact absurd hc (by decide)
def bt (n : Int) : Int := n % 256
theorem bt_byts (n : Int) : Rc.Byts 96 (bt n :: Rc.zs 95) := vb_byts (bt n) (by unfold bt; omega)
structure Rn (a : Int) (D : Dv.Dev) (L : Lo) (i : Int) : Prop where
  hol : Hol D L
  J : L.J = jP a
  nd : L.nd = 0
  ep : L.ep = 1
  nx : L.st + L.R.length = i
  bd : ∀ (k : Nat) (r : Rc.Rec), L.R[k]? = some r → r.ps = r.ls ∧ r.bd = bt r.ls :: Rc.zs 95
theorem Rn.room {a : Int} {D : Dv.Dev} {L : Lo} {i : Int} (h : Rn a D L i) (hi : i ≤ 1000) : L.room = a - L.R.length := by
  unfold Lo.room
  have := h.nx
  rw [if_neg (by omega), h.J]
  rfl
theorem Rn.app {a : Int} {D : Dv.Dev} {L : Lo} {i : Int} (h : Rn a D L i) (hr : ¬ L.room = 0) (hi : 1 ≤ i ∧ i ≤ 1000) : (L.app 0 i (bt i :: Rc.zs 95)).2 = (i, 0) ∧ Rn a D (L.app 0 i (bt i :: Rc.zs 95)).1 (i + 1) := by
  have hA := h.hol.app 0 i (bt i :: Rc.zs 95) (bt_byts i)
  have hm : L.mayA 0 i = true := by
    unfold Lo.mayA
    rw [h.J, decide_eq_true (by show (0 : Int) ≤ 0 ∧ (0 : Int) ≤ 1 - 1; omega), decide_eq_true (by omega)]
    rfl
  have e : L.app 0 i (bt i :: Rc.zs 95) = (L.more (L.recN 0 i (bt i :: Rc.zs 95)), L.st + L.R.length, 0) := by
    unfold Lo.app
    rw [hm, if_neg (by simp), if_neg hr]
  rw [e] at hA ⊢
  refine ⟨by rw [h.nx], hA, h.J, h.nd, h.ep, ?_, ?_⟩
  · show L.st + ((L.R ++ [L.recN 0 i (bt i :: Rc.zs 95)]).length : Int) = _
    have := h.nx
    rw [List.length_append]
    simp
    omega
  · intro k r hk
    replace hk : (L.R ++ [L.recN 0 i (bt i :: Rc.zs 95)])[k]? = some r := hk
    by_cases hlt : k < L.R.length
    · rw [List.getElem?_append_left hlt] at hk
      exact h.bd k r hk
    · rw [List.getElem?_append_right (by omega)] at hk
      have hk0 : k - L.R.length = 0 := by
        have := (List.getElem?_eq_some_iff.1 hk).1
        simp at this
        omega
      rw [hk0] at hk
      simp at hk
      subst hk
      have e9 : L.st + (L.R.length : Int) = i := h.nx
      show i = L.st + (L.R.length : Int) ∧ bt i :: Rc.zs 95 = bt (L.st + (L.R.length : Int)) :: Rc.zs 95
      rw [e9]
      exact ⟨rfl, rfl⟩
theorem Rn.flush {a : Int} {D : Dv.Dev} {L : Lo} {i : Int} (h : Rn a D L i) : Rn a (L.flush D).1 (L.atF L.R.length) i := ⟨h.hol.flush.2.2, h.J, h.nd, h.ep, h.nx, h.bd⟩
theorem Rn.cut {a : Int} {D : Dv.Dev} {L : Lo} {i : Int} (h : Rn a D L i) (hfl : L.fl = L.R.length) (hr : (L.R.length : Int) = a) (kp : Int) (hk : 0 ≤ kp ∧ kp < a) (hi : i ≤ 1000) : L.mayC (i - kp) = true ∧ Rn a (L.cut D (i - kp)).1 (L.from (i - kp)) i ∧ ¬ (L.from (i - kp)).room = 0 := by
  have hnx := h.nx
  have hc : L.mayC (i - kp) = true := by
    unfold Lo.mayC
    exact decide_eq_true (by omega)
  have hl : ((L.R.drop (i - kp - L.st).toNat).length : Int) = kp := by
    rw [List.length_drop]
    omega
  have hR : Rn a (L.cut D (i - kp)).1 (L.from (i - kp)) i := by
    refine ⟨(h.hol.cutTo _ hc).2, h.J, h.nd, h.ep, ?_, ?_⟩
    · show i - kp + ((L.R.drop (i - kp - L.st).toNat).length : Int) = i
      omega
    · intro k r hk
      replace hk : (L.R.drop (i - kp - L.st).toNat)[k]? = some r := hk
      rw [List.getElem?_drop] at hk
      exact h.bd _ r hk
  refine ⟨hc, hR, ?_⟩
  rw [hR.room hi]
  show ¬ a - ((L.R.drop (i - kp - L.st).toNat).length : Int) = 0
  omega
/-- The calls. -/
theorem kr_room {W0 W : World} {l b g : Nat} {D : Dv.Dev} {L : Lo} (m : Int) (hm : L.room = m) (h : Ka W0 W l b g D L) : Calls Tryd.prog 12 #[P0 l] W fun e w' => e = .returned (.int .i64 m) ∧ Ka W0 w' l b g D L := by rw [← hm]; exact ka_room h
theorem kr_next {W0 W : World} {l b g : Nat} {D : Dv.Dev} {L : Lo} (m : Int) (hm : L.st + L.R.length = m) (h : Ka W0 W l b g D L) : Calls Tryd.prog 23 #[P0 l] W fun e w' => e = .returned (.int .i64 m) ∧ Ka W0 w' l b g D L := by rw [← hm]; exact ka_next h
theorem kr_flush {W0 W : World} {l b g : Nat} {D : Dv.Dev} {L : Lo} (hh : Hol D L) (h : Ka W0 W l b g D L) : Calls Tryd.prog 13 #[P0 l] W fun e w' => e = .returned (.int .i64 0) ∧ Ka W0 w' l b g (L.flush D).1 (L.atF L.R.length) := by
  have h9 := ka_flush h
  rw [hh.flush.1, hh.flush.2.1] at h9
  exact h9
theorem kr_cut {W0 W : World} {l b g : Nat} {D : Dv.Dev} {L : Lo} (hF : Rc.First W0) (s : Int) (hh : Hol D L) (hs : L.mayC s = true) (h : Ka W0 W l b g D L) : Calls Tryd.prog 14 #[P0 l, .int .i64 s] W fun e w' => e = .returned (.int .i64 0) ∧ Ka W0 w' l b g (L.cut D s).1 (L.from s) := by
  have h9 := ka_cut hF s h
  rw [(hh.cutTo s hs).1] at h9
  exact h9
theorem kr_app {W0 W : World} {l b g : Nat} {a : Int} {D : Dv.Dev} {L : Lo} {i : Int} (h : Ka W0 W l b g D L) (hn : Rn a D L i) (hr : ¬ L.room = 0) (hi : 1 ≤ i ∧ i ≤ 1000) : Calls Tryd.prog 16 #[P0 l, .int .i64 0, aggV (verC i (bt i :: Rc.zs 95))] W fun e w' => e = .returned (.tuple #[.int .i64 i, .int .i64 0]) ∧ ∃ L', Ka W0 w' l b g D L' ∧ Rn a D L' (i + 1) := by
  have h9 := ka_app 0 i (bt i :: Rc.zs 95) (bt_byts i) h
  obtain ⟨h1, h2⟩ := hn.app hr hi
  rw [h1] at h9
  exact h9.mono (by rintro e w' ⟨rfl, h3⟩; exact ⟨rfl, _, h3, h2⟩)
theorem kr_read {W0 W : World} {l b g : Nat} {D : Dv.Dev} {L : Lo} (hF : Rc.First W0) (hh : Hol D L) (hfl : L.fl = L.R.length) (h : Ka W0 W l b g D L) : Calls Tryd.prog 20 #[P0 b, aggV (Ar.jobC L.J), .int .i64 L.nd] W fun e w' => ∃ u, e = .returned (.tuple #[.int .i64 L.st, u, .int .i64 0]) ∧ OwnO w' u L.R.length (cellsR L.R) ∧ Kept [] W w' := by
  have h9 := read20 b g D L.J L.nd W h.kd.dev (h.first hF)
  rw [hh.look, hfl, List.take_length] at h9
  exact h9.mono (by rintro e w' ⟨u, rfl, h1, _, h2⟩; exact ⟨u, rfl, h1, h2⟩)

end Go.Proofs.YtmeajhdhiebkdaaDoor
