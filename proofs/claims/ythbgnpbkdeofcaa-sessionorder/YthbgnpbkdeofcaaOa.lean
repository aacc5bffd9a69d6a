/-
  What is on its way is turned; one come, told wholly; how all settles.
-/
import Derived.Test.YthbgnpbkdeofcaaTf
namespace Go.Proofs.Ythbgnpbkdeofcaa
set_option maxRecDepth 100000
open Go.RowKit


theorem zcomeX (w W : World) (z : Nat) (vw : Int) (pt : Nat → Nat) (sv : Nat → Value) (sw : Nat → List Value) (sp : Nat → Ps) (onv : Value) (D : List (Dg × Value)) (st ou : Nat → Value) (L M : Nat → List (List Int)) (N : Nat) (h : Zt w W z vw pt sv sw sp onv D st ou L M N) (i : Nat) (hi : i < 2) (d : Dg) (u : Value) (hd : Wd vw sp (1 - i) d) (hB : Bod W u d.bs) (hN : N ≤ 1000) : Calls Try.prog 25 #[P0 z, aggV (d.C u)] W fun e W' => e = .returned (.tuple #[]) ∧ Kt W W' ∧ ∃ sv' sw' ou' M', Zt w W' z vw pt sv' sw' (upd sp i ((sp i).come d).1) onv D st ou' L M' N := by
  have hto : d.to = (i : Int) := by rw [hd.to]; omega
  have hok : ∀ j, j < 2 → (sp j).Ok := fun j hj => (h.t.s j hj).ok
  have hiv := h.iv.come hi hd hok
  have hgr : ∀ j, Gr (sp j) (upd sp i ((sp i).come d).1 j) := gr_upd (gr_come (sp i) d)
  have hn : ∀ j, j < 2 → (upd sp i ((sp i).come d).1 j).sent.length ≤ N := fun j hj => by
    unfold upd
    split
    · rw [come_sent]; exact h.n i hi
    · exact h.n j hj
  have hD : ∀ p ∈ D, ∃ j, j < 2 ∧ Wd vw (upd sp i ((sp i).come d).1) j p.1 := fun p hp => by
    obtain ⟨j, hj, hw⟩ := h.d p hp
    exact ⟨j, hj, hw.mono (hgr j)⟩
  cases hc : ((sp i).come d).2 with
  | none =>
    refine (come25_no w W z pt sv sw sp onv D st ou L M h.t d u hB i hi hto hc).mono ?_
    rintro e W' ⟨rfl, hk, v', ws', ht⟩
    rw [hc] at hiv
    exact ⟨rfl, hk, _, _, _, _, ⟨ht, hiv, hn, hD⟩⟩
  | some bs =>
    have hM : (M i).length ≤ 10000 := by
      rw [h.iv.mq i hi, List.length_take]
      have := h.n (1 - i) (by omega)
      omega
    refine (come25_yes w W z pt sv sw sp onv D st ou L M h.t d u hB i hi hto bs hc hM).mono ?_
    rintro e W' ⟨rfl, hk, v', ws', ov, ht⟩
    rw [hc] at hiv
    exact ⟨rfl, hk, _, _, _, _, ⟨ht, hiv, hn, hD⟩⟩
/-- Rows of datagrams, one behind the other. -/
theorem Dl.app {W W' : World} {B : Nat} {v v' : Value} {L R : List (Dg × Value)} (h : Dl W B v L) (hr : W'.ownsRow B 35 6 v' (L.length + R.length) (cellsD L ++ cellsD R)) (hg : W.grownBy W' v.ownBlock) (hb : ∀ p ∈ R, Bod W p.2 p.1.bs) (hn : ∀ p ∈ R, ∀ k, p.2.ownBlock = some k → B ≤ k) : Dl W' B v' (L ++ R) := by
  have hK : Kept v.ownBlock.toList W W' := Kept.of_grown hg (fun k e _ => by simp [e])
  have hno : ∀ x bs, Bod W x bs → ∀ k, x.ownBlock = some k → k ∉ v.ownBlock.toList := by
    intro x bs hx k hk hm
    obtain ⟨cs, hc⟩ := hx.block k hk
    obtain ⟨cs', hc'⟩ := owns_block h.row k (by simpa using hm)
    rw [hc] at hc'
    cases hc'
  refine ⟨by rw [cellsD_app, List.length_append]; exact hr, fun p hp => ?_, fun p hp k e => ?_⟩
  · rcases List.mem_append.1 hp with hp | hp
    · exact (h.bod p hp).kept hK (hno _ _ (h.bod p hp))
    · exact (hb p hp).kept hK (hno _ _ (hb p hp))
  · rcases List.mem_append.1 hp with hp | hp
    · exact h.new p hp k e
    · exact hn p hp k e
/-- What is on its way is another row now. -/
theorem Tt.setOn {w W W' : World} {z : Nat} {pt : Nat → Nat} {sv : Nat → Value} {sw : Nat → List Value} {sp : Nat → Ps} {onv onv' : Value} {D D' : List (Dg × Value)} {st ou : Nat → Value} {L M : Nat → List (List Int)} {X : List Nat} (h : Tt w W z pt sv sw sp onv D st ou L M) (hz : Blk W' z 54 (twC pt onv' st ou)) (hk : Kept (z :: X) W W') (hX : ∀ k ∈ X, k < W.heap.size → w.heap.size ≤ k ∧ ∃ cs, W.heap[k]? = some (.cells cs 35 (0, 0))) (hD : Dl W' w.heap.size onv' D') : Tt w W' z pt sv sw sp onv' D' st ou L M := by
  have hno : ∀ (p T : Nat) (cs : Array Value) (q' : Nat × Nat), T ≠ 54 → T ≠ 35 → W.heap[p]? = some (Obj.cells cs T q') → p ∉ z :: X := fun p T cs q' h1 h2 hp hm => by
    rcases List.mem_cons.1 hm with rfl | hm
    · have := h.hd
      unfold Blk at this
      rw [this] at hp
      cases hp
      exact h1 rfl
    · obtain ⟨_, cs', hc⟩ := hX p hm (lt_of_block hp)
      rw [hc] at hp
      cases hp
      exact h2 rfl
  have h5 : ∀ k ∈ z :: X, ∀ cs p, W.heap[k]? ≠ some (Obj.cells cs 5 p) := fun k hm cs p hc => hno k 5 cs p (by decide) (by decide) hc hm
  have hrow : ∀ m, m < 6 → ∀ k, (Rw sv st ou m).ownBlock = some k → k ∉ z :: X := by
    intro m hm k e
    obtain ⟨cs, hc⟩ := h.row m hm k e
    exact hno k 33 cs _ (by decide) (by decide) hc
  refine ⟨h.k.fresh hk (fun x hx hl => ?_), hz, fun j hj => ?_, fun j hj => ?_, fun j hj => ?_, hD, h.ge, h.ap, h.ne⟩
  · have hs := h.k.size
    rcases List.mem_cons.1 hx with rfl | hx
    · have := h.ge.1; omega
    · have := (hX x hx (by omega)).1; omega
  · have hs := h.s j hj
    refine hs.kept hk (hno _ _ _ _ (by decide) (by decide) hs.head) (fun k e => hrow j (by omega) k (by unfold Rw; rw [if_pos hj]; exact e)) (fun u hu k e => ?_)
    obtain ⟨bs, hb⟩ := hs.bod hu
    obtain ⟨cs, hc⟩ := hb.block k e
    exact hno _ _ _ _ (by decide) (by decide) hc
  · refine (h.r j hj).kept hk (fun k ek => hrow (j + 2) (by omega) k ?_) h5
    unfold Rw
    rw [if_neg (by omega), if_pos (by omega), Nat.add_sub_cancel]
    exact ek
  · refine (h.q j hj).kept hk (fun k ek => hrow (j + 4) (by omega) k ?_) h5
    unfold Rw
    rw [if_neg (by omega), if_neg (by omega), Nat.add_sub_cancel]
    exact ek
/-- An end that told again, and the other one behind the first j of it. -/
structure Fd (k : Nat) (sp0 : Nat → Ps) (j : Nat) (sp : Nat → Ps) : Prop where
  me : sp k = (sp0 k).toldP
  sent : (sp (1 - k)).sent = (sp0 (1 - k)).sent
  got : (sp (1 - k)).got = if (sp0 k).known < (sp0 k).sent.length then max (sp0 (1 - k)).got (((sp0 k).known + j : Nat) : Int) else (sp0 (1 - k)).got
  known : (sp (1 - k)).known = if j = 0 then (sp0 (1 - k)).known else max (sp0 (1 - k)).known (sp0 k).got.toNat
  owes : (sp (1 - k)).owes = if j = 0 then (sp0 (1 - k)).owes else if (sp0 k).known < (sp0 k).sent.length then true else (sp0 (1 - k)).owes
theorem Fd.init {vw : Int} {sp0 : Nat → Ps} {L M : Nat → List (List Int)} (h : Iv vw sp0 L M) {k : Nat} (hk : k < 2) : Fd k sp0 0 (upd sp0 k (sp0 k).toldP) := by
  have hne : 1 - k ≠ k := by omega
  refine ⟨upd_same _ _ _, by rw [upd_ne _ _ hne], ?_, by rw [upd_ne _ _ hne, if_pos rfl], by rw [upd_ne _ _ hne, if_pos rfl]⟩
  rw [upd_ne _ _ hne]
  have := h.known k hk
  split
  · rw [Nat.add_zero]; omega
  · rfl
theorem Fd.step {vw : Int} {sp0 sp : Nat → Ps} {L M : Nat → List (List Int)} {k j : Nat} (h : Fd k sp0 j sp) (hk : k < 2) (hiv : Iv vw sp L M) (hok : ∀ i, i < 2 → (sp i).Ok) {d : Dg} (hd : (sp0 k).again[j]? = some d) (hw : Wd vw sp k d) : Fd k sp0 (j + 1) (upd sp (1 - k) ((sp (1 - k)).come d).1) := by
  have hne : k ≠ 1 - k := by omega
  have hoo : 1 - (1 - k) = k := by omega
  have hce := come_eq hiv (i := 1 - k) (by omega) (d := d) (by rw [hoo]; exact hw) hok
  have hs := come_sent (sp (1 - k)) d
  have hg := h.got
  have hkn := h.known
  have how := h.owes
  have hack : d.ack = (sp0 k).got ∧ (((sp0 k).known < (sp0 k).sent.length ∧ d.seq = (((sp0 k).known + j + 1 : Nat) : Int)) ∨ (¬ (sp0 k).known < (sp0 k).sent.length ∧ d.seq = 0 ∧ j = 0)) := by
    unfold Ps.again Ps.tellL at hd
    split at hd
    · rename_i hc
      have hj : j = 0 := by have := (List.getElem?_eq_some_iff.1 hd).1; simpa using this
      subst hj
      simp at hd
      subst hd
      exact ⟨rfl, .inr ⟨by omega, rfl, rfl⟩⟩
    · unfold Ps.waitL at hd
      rw [List.getElem?_map] at hd
      have hj : j < (sp0 k).sent.length - (sp0 k).known := by
        cases hq : (List.range ((sp0 k).sent.length - (sp0 k).known))[j]? with
        | none => rw [hq] at hd; cases hd
        | some x => have := (List.getElem?_eq_some_iff.1 hq).1; simpa using this
      rw [List.getElem?_range hj] at hd
      simp at hd
      subst hd
      refine ⟨rfl, .inl ⟨by omega, ?_⟩⟩
      show ((sp0 k).known : Int) + 1 + (j : Int) = _
      omega
  obtain ⟨ha, hb⟩ := hack
  have hkn2 : ((sp (1 - k)).come d).1.known = max (sp (1 - k)).known d.ack.toNat := by
    rw [hce]
    split
    · rfl
    · split <;> rfl
  have hknn : max (sp (1 - k)).known d.ack.toNat = max (sp0 (1 - k)).known (sp0 k).got.toNat := by
    rw [ha, hkn]
    split <;> omega
  rcases hb with ⟨hwt, hsq⟩ | ⟨hwt, hsq, hj0⟩
  · rw [if_pos hwt] at hg
    have hgt : ((sp (1 - k)).come d).1.got = max (sp (1 - k)).got d.seq ∧ ((sp (1 - k)).come d).1.owes = true := by
      rw [hce, if_neg (by omega)]
      split
      · next e => exact ⟨by show d.seq = _; omega, rfl⟩
      · next e => exact ⟨by show (sp (1 - k)).got = _; omega, rfl⟩
    refine ⟨by rw [upd_ne _ _ hne]; exact h.me, by rw [upd_same, hs]; exact h.sent, ?_, by rw [upd_same, hkn2, hknn, if_neg (by omega)], by rw [upd_same, hgt.2, if_neg (by omega), if_pos hwt]⟩
    rw [upd_same, hgt.1, if_pos hwt]
    omega
  · subst hj0
    rw [if_neg hwt] at hg
    rw [if_pos rfl] at how
    have hgt : ((sp (1 - k)).come d).1.got = (sp (1 - k)).got ∧ ((sp (1 - k)).come d).1.owes = (sp (1 - k)).owes := by
      rw [hce, if_pos hsq]; exact ⟨rfl, rfl⟩
    exact ⟨by rw [upd_ne _ _ hne]; exact h.me, by rw [upd_same, hs]; exact h.sent, by rw [upd_same, hgt.1, if_neg hwt]; exact hg, by rw [upd_same, hkn2, hknn, if_neg (by omega)], by rw [upd_same, hgt.2, if_neg (by omega), if_neg hwt]; exact how⟩
/-- How far it settled. -/
def full (sp : Nat → Ps) (i : Nat) : Prop := (sp (1 - i)).got = (sp i).sent.length
def sure (sp : Nat → Ps) (i : Nat) : Prop := (sp i).known = (sp i).sent.length
def Pg : Nat → (Nat → Ps) → Prop
  | 0, _ => True
  | 1, sp => full sp 0 ∧ (sure sp 0 ∨ (sp 1).owes = true)
  | 2, sp => full sp 0 ∧ full sp 1 ∧ sure sp 0 ∧ (sure sp 1 ∨ (sp 0).owes = true)
  | _ + 3, sp => full sp 0 ∧ full sp 1 ∧ sure sp 0 ∧ sure sp 1
/-- What one telling again leaves. -/
structure Dn (k : Nat) (sp0 sp : Nat → Ps) : Prop where
  fk : full sp k
  fq : full sp0 (1 - k) → full sp (1 - k)
  sk : sure sp0 k → sure sp k
  sq : sure sp0 (1 - k) → sure sp (1 - k)
  ow : sure sp k ∨ (sp (1 - k)).owes = true
  ac : full sp0 (1 - k) → (sp0 k).owes = true ∨ ¬ sure sp0 k → sure sp (1 - k)
theorem again_len (P : Ps) (hok : P.Ok) : P.again.length = if P.known < P.sent.length then P.sent.length - P.known else if P.owes = true then 1 else 0 := by
  have := hok.known
  unfold Ps.again Ps.tellL
  by_cases h : P.known < P.sent.length
  · rw [if_neg (by omega), if_pos h]; simp [Ps.waitL]
  · rw [if_neg h]
    by_cases ho : P.owes = true
    · rw [if_pos ⟨by omega, ho⟩, if_pos ho]; rfl
    · rw [if_neg (fun h9 => ho h9.2), if_neg ho]; simp [Ps.waitL]; omega
theorem Fd.done {vw : Int} {sp0 sp : Nat → Ps} {L M : Nat → List (List Int)} {k : Nat} (hk : k < 2) (hiv : Iv vw sp0 L M) (hok : ∀ i, i < 2 → (sp0 i).Ok) (h : Fd k sp0 (sp0 k).again.length sp) : Dn k sp0 sp := by
  have hoo : 1 - (1 - k) = k := by omega
  have hl := again_len (sp0 k) (hok k hk)
  have hg1 := hiv.got (1 - k) (by omega)
  rw [hoo] at hg1
  have hg2 := hiv.got k hk
  have hk1 := hiv.known k hk
  have hk2 := hiv.known (1 - k) (by omega)
  rw [hoo] at hk2
  have hkP := (hok k hk).known
  have hkQ := (hok (1 - k) (by omega)).known
  have eS : (sp k).sent = (sp0 k).sent := by rw [h.me]; rfl
  have eK : (sp k).known = (sp0 k).known := by rw [h.me]; rfl
  have eG : (sp k).got = (sp0 k).got := by rw [h.me]; rfl
  have hs := h.sent
  have hgot := h.got
  have hkn := h.known
  have how := h.owes
  by_cases hw : (sp0 k).known < (sp0 k).sent.length
  · rw [if_pos hw] at hl hgot
    rw [if_neg (by omega)] at hkn how
    rw [if_pos hw] at how
    refine ⟨?_, fun f => ?_, fun f => ?_, fun f => ?_, .inr how, fun f _ => ?_⟩
    · unfold full; rw [eS, hgot]; omega
    · unfold full at f ⊢; rw [hoo] at f ⊢; rw [eG, hs]; exact f
    · unfold sure at f ⊢; omega
    · unfold sure at f ⊢; rw [hs, hkn]; omega
    · unfold full at f; unfold sure; rw [hoo] at f; rw [hs, hkn]; omega
  · rw [if_neg hw] at hl hgot
    refine ⟨?_, fun f => ?_, fun f => ?_, fun f => ?_, .inl (by unfold sure; rw [eK, eS]; omega), fun f hp => ?_⟩
    · unfold full; rw [eS, hgot]; omega
    · unfold full at f ⊢; rw [hoo] at f ⊢; rw [eG, hs]; exact f
    · unfold sure at f ⊢; rw [eK, eS]; exact f
    · unfold sure at f ⊢
      rw [hs, hkn]
      split <;> omega
    · have ho : (sp0 k).owes = true := by
        rcases hp with hp | hp
        · exact hp
        · exact absurd (show sure sp0 k by unfold sure; omega) hp
      rw [if_pos ho] at hl
      rw [if_neg (by omega)] at hkn
      unfold full at f; unfold sure; rw [hoo] at f; rw [hs, hkn]; omega
theorem Pg.next {t k : Nat} {sp0 sp : Nat → Ps} (h : Pg t sp0) (hk : k = t % 2 ∨ (3 ≤ t ∧ k < 2)) (hd : Dn k sp0 sp) : Pg (t + 1) sp := by
  match t, h, hk with
  | 0, _, hk =>
    obtain rfl : k = 0 := by omega
    exact ⟨hd.fk, hd.ow⟩
  | 1, h, hk =>
    obtain rfl : k = 1 := by omega
    obtain ⟨h1, h2⟩ := h
    refine ⟨hd.fq h1, hd.fk, ?_, hd.ow⟩
    rcases h2 with h2 | h2
    · exact hd.sq h2
    · exact hd.ac h1 (.inl h2)
  | 2, h, hk =>
    obtain rfl : k = 0 := by omega
    obtain ⟨h1, h2, h3, h4⟩ := h
    refine ⟨hd.fk, hd.fq h2, hd.sk h3, ?_⟩
    rcases h4 with h4 | h4
    · exact hd.sq h4
    · exact hd.ac h2 (.inl h4)
  | t + 3, h, hk =>
    obtain ⟨h1, h2, h3, h4⟩ := h
    rcases (show k = 0 ∨ k = 1 by omega) with rfl | rfl
    · exact ⟨hd.fk, hd.fq h2, hd.sk h3, hd.sq h4⟩
    · exact ⟨hd.fq h1, hd.fk, hd.sq h3, hd.sk h4⟩

end Go.Proofs.Ythbgnpbkdeofcaa
