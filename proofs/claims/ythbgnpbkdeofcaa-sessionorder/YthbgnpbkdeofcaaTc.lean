/-
  Both ends, plainly: what came out is a beginning of what was sent.
-/
import Derived.Test.YthbgnpbkdeofcaaTb
namespace Go.Proofs.Ythbgnpbkdeofcaa
set_option maxRecDepth 100000
open Go.RowKit

structure Iv (vw : Int) (sp : Nat → Ps) (L M : Nat → List (List Int)) : Prop where
  ids : ∀ i, i < 2 → (sp i).me = (i : Int) ∧ (sp i).oth = ((1 - i : Nat) : Int) ∧ (sp i).view = vw
  lq : ∀ i, i < 2 → L i = (sp i).sent
  mq : ∀ i, i < 2 → M i = (sp (1 - i)).sent.take (sp i).got.toNat
  got : ∀ i, i < 2 → 0 ≤ (sp i).got ∧ (sp i).got ≤ (sp (1 - i)).sent.length
  known : ∀ i, i < 2 → ((sp i).known : Int) ≤ (sp (1 - i)).got
/-- A datagram of the end j. -/
structure Wd (vw : Int) (sp : Nat → Ps) (j : Nat) (d : Dg) : Prop where
  fr : d.fr = (j : Int)
  to : d.to = ((1 - j : Nat) : Int)
  vw : d.vw = vw
  seq : 0 ≤ d.seq ∧ d.seq ≤ (sp j).sent.length
  ack : 0 ≤ d.ack ∧ d.ack ≤ (sp j).got
  nil : d.seq = 0 → d.bs = []
  body : 0 < d.seq → (sp j).sent[(d.seq - 1).toNat]? = some d.bs
structure Gr (P Q : Ps) : Prop where
  sent : P.sent <+: Q.sent
  got : P.got ≤ Q.got
theorem Gr.refl (P : Ps) : Gr P P := ⟨List.prefix_refl _, Int.le_refl _⟩
theorem Wd.mono {vw : Int} {sp sp' : Nat → Ps} {j : Nat} {d : Dg} (h : Wd vw sp j d) (hg : Gr (sp j) (sp' j)) : Wd vw sp' j d := by
  have hl := hg.sent.length_le
  refine ⟨h.fr, h.to, h.vw, ⟨h.seq.1, by have := h.seq.2; omega⟩, ⟨h.ack.1, by have := h.ack.2; have := hg.got; omega⟩, h.nil, fun h0 => ?_⟩
  have h1 := h.body h0
  obtain ⟨t, ht⟩ := hg.sent
  rw [← ht, List.getElem?_append_left (List.getElem?_eq_some_iff.1 h1).1]
  exact h1
theorem gr_upd {sp : Nat → Ps} {i : Nat} {Q : Ps} (h : Gr (sp i) Q) (j : Nat) : Gr (sp j) (upd sp i Q j) := by
  unfold upd
  split
  · next e => rw [e]; exact h
  · exact Gr.refl _
theorem gr_put (P : Ps) (bs : List Int) : Gr P (P.put bs) := ⟨List.prefix_append _ _, Int.le_refl _⟩
theorem gr_told (P : Ps) : Gr P P.toldP := ⟨List.prefix_refl _, Int.le_refl _⟩
theorem gr_come (P : Ps) (d : Dg) : Gr P (P.come d).1 := by
  refine ⟨by rw [come_sent]; exact List.prefix_refl _, ?_⟩
  unfold Ps.come
  split
  · exact Int.le_refl _
  · split
    · exact Int.le_refl _
    · split
      · next e => show P.got ≤ d.seq; omega
      · exact Int.le_refl _
theorem two_cases {i j : Nat} (hi : i < 2) (hj : j < 2) : j = i ∨ (j ≠ i ∧ j = 1 - i) := by omega
theorem Iv.put {vw : Int} {sp : Nat → Ps} {L M : Nat → List (List Int)} (h : Iv vw sp L M) {i : Nat} (hi : i < 2) (bs : List Int) : Iv vw (upd sp i ((sp i).put bs)) (upd L i (L i ++ [bs])) M := by
  have hne : 1 - i ≠ i := by omega
  have hoo : 1 - (1 - i) = i := by omega
  refine ⟨fun j hj => ?_, fun j hj => ?_, fun j hj => ?_, fun j hj => ?_, fun j hj => ?_⟩
  all_goals rcases two_cases hi hj with rfl | ⟨h1, rfl⟩
  · rw [upd_same]; exact h.ids j hi
  · rw [upd_ne _ _ h1]; exact h.ids _ hj
  · rw [upd_same, upd_same, h.lq j hi]; rfl
  · rw [upd_ne _ _ h1, upd_ne _ _ h1]; exact h.lq _ hj
  · rw [upd_same, upd_ne _ _ hne]; exact h.mq j hi
  · rw [upd_ne _ _ h1, hoo, upd_same, h.mq _ hj, hoo]
    have := (h.got _ hj).2
    rw [hoo] at this
    show _ = List.take _ ((sp i).sent ++ [bs])
    rw [List.take_append_of_le_length (by omega)]
  · rw [upd_same, upd_ne _ _ hne]; exact h.got j hi
  · rw [upd_ne _ _ h1, hoo, upd_same]
    have := h.got _ hj
    rw [hoo] at this
    refine ⟨this.1, ?_⟩
    show _ ≤ (((sp i).sent ++ [bs]).length : Int)
    rw [List.length_append]
    have := this.2
    omega
  · rw [upd_same, upd_ne _ _ hne]; exact h.known j hi
  · rw [upd_ne _ _ h1, hoo, upd_same]
    have := h.known _ hj
    rw [hoo] at this
    exact this
theorem Iv.told {vw : Int} {sp : Nat → Ps} {L M : Nat → List (List Int)} (h : Iv vw sp L M) {i : Nat} (hi : i < 2) : Iv vw (upd sp i (sp i).toldP) L M := by
  have hs : ∀ j, (upd sp i (sp i).toldP j).me = (sp j).me ∧ (upd sp i (sp i).toldP j).oth = (sp j).oth ∧ (upd sp i (sp i).toldP j).view = (sp j).view ∧ (upd sp i (sp i).toldP j).sent = (sp j).sent ∧ (upd sp i (sp i).toldP j).got = (sp j).got ∧ (upd sp i (sp i).toldP j).known = (sp j).known := by
    intro j
    unfold upd
    split
    · next e => subst e; exact ⟨rfl, rfl, rfl, rfl, rfl, rfl⟩
    · exact ⟨rfl, rfl, rfl, rfl, rfl, rfl⟩
  refine ⟨fun j hj => ?_, fun j hj => ?_, fun j hj => ?_, fun j hj => ?_, fun j hj => ?_⟩
  · obtain ⟨a, b, c, _, _, _⟩ := hs j
    rw [a, b, c]; exact h.ids j hj
  · rw [(hs j).2.2.2.1]; exact h.lq j hj
  · rw [(hs (1 - j)).2.2.2.1, (hs j).2.2.2.2.1]; exact h.mq j hj
  · rw [(hs (1 - j)).2.2.2.1, (hs j).2.2.2.2.1]; exact h.got j hj
  · rw [(hs (1 - j)).2.2.2.2.1, (hs j).2.2.2.2.2]; exact h.known j hj
def cameM (M : Nat → List (List Int)) (i : Nat) : Option (List Int) → Nat → List (List Int)
  | none => M
  | some bs => upd M i (M i ++ [bs])
theorem come_eq {vw : Int} {sp : Nat → Ps} {L M : Nat → List (List Int)} (h : Iv vw sp L M) {i : Nat} (hi : i < 2) {d : Dg} (hd : Wd vw sp (1 - i) d) (hok : ∀ j, j < 2 → (sp j).Ok) : (sp i).come d = if d.seq = 0 then ((sp i).forget d.ack.toNat, none) else if d.seq = (sp i).got + 1 then (((sp i).forget d.ack.toNat).take d.seq, some d.bs) else (((sp i).forget d.ack.toNat).owe, none) := by
  have hoo : 1 - (1 - i) = i := by omega
  have hno : (sp i).no d = false := by
    obtain ⟨a, b, c⟩ := h.ids i hi
    have h1 := h.got (1 - i) (by omega)
    rw [hoo] at h1
    have h2 := hd.ack
    have h3 := hd.seq
    have h4 := (hok (1 - i) (by omega)).many
    have h8 := (hok i hi).many
    have h6 := h.got i hi
    have h5 : d.bs.length ≤ 256 := by
      by_cases e : d.seq = 0
      · rw [hd.nil e]; simp
      · exact (hok (1 - i) (by omega)).small _ (List.mem_of_getElem? (hd.body (by omega)))
    have h7 : d.seq = 0 → ¬ 0 < d.bs.length := fun e => by rw [hd.nil e]; simp
    unfold Ps.no numB
    simp only [Bool.or_eq_false_iff, Bool.not_eq_false', Bool.and_eq_true, decide_eq_true_eq, decide_eq_false_iff_not, Bool.and_eq_false_iff]
    refine ⟨⟨⟨⟨⟨⟨⟨?_, ?_⟩, ?_⟩, ?_⟩, ?_⟩, ?_⟩, ?_⟩, ?_⟩
    · rw [hd.fr, b]
    · rw [hd.to, a, hoo]
    · rw [hd.vw, c]
    · omega
    · omega
    · omega
    · by_cases e : d.seq = 0
      · exact .inr (h7 e)
      · exact .inl e
    · omega
  unfold Ps.come
  rw [if_neg (by rw [hno]; decide)]
theorem Iv.come {vw : Int} {sp : Nat → Ps} {L M : Nat → List (List Int)} (h : Iv vw sp L M) {i : Nat} (hi : i < 2) {d : Dg} (hd : Wd vw sp (1 - i) d) (hok : ∀ j, j < 2 → (sp j).Ok) : Iv vw (upd sp i ((sp i).come d).1) L (cameM M i ((sp i).come d).2) := by
  have hne : 1 - i ≠ i := by omega
  have hoo : 1 - (1 - i) = i := by omega
  have hce := come_eq h hi hd hok
  have hg := gr_come (sp i) d
  have hse := come_sent (sp i) d
  have hid : ((sp i).come d).1.me = (sp i).me ∧ ((sp i).come d).1.oth = (sp i).oth ∧ ((sp i).come d).1.view = (sp i).view := by
    rw [hce]
    split
    · exact ⟨rfl, rfl, rfl⟩
    · split <;> exact ⟨rfl, rfl, rfl⟩
  have hkn : ((sp i).come d).1.known = max (sp i).known d.ack.toNat := by
    rw [hce]
    split
    · rfl
    · split <;> rfl
  have hgt : (((sp i).come d).2 = none ∧ ((sp i).come d).1.got = (sp i).got) ∨ (((sp i).come d).2 = some d.bs ∧ ((sp i).come d).1.got = (sp i).got + 1 ∧ d.seq = (sp i).got + 1) := by
    rw [hce]
    split
    · exact .inl ⟨rfl, rfl⟩
    · split
      · next e => exact .inr ⟨rfl, e, e⟩
      · exact .inl ⟨rfl, rfl⟩
  have hgi := h.got i hi
  have hsq := hd.seq
  refine ⟨fun j hj => ?_, fun j hj => ?_, fun j hj => ?_, fun j hj => ?_, fun j hj => ?_⟩
  all_goals rcases two_cases hi hj with rfl | ⟨h1, rfl⟩
  · rw [upd_same, hid.1, hid.2.1, hid.2.2]; exact h.ids j hi
  · rw [upd_ne _ _ h1]; exact h.ids _ hj
  · rw [upd_same, hse]; exact h.lq j hi
  · rw [upd_ne _ _ h1]; exact h.lq _ hj
  · rw [upd_same, upd_ne _ _ hne]
    rcases hgt with ⟨e1, e2⟩ | ⟨e1, e2, e3⟩
    · rw [e1, e2]; exact h.mq j hi
    · rw [e1, e2]
      show upd M j (M j ++ [d.bs]) j = _
      rw [upd_same, h.mq j hi]
      have hb := hd.body (by omega)
      have e4 : ((sp j).got + 1).toNat = (sp j).got.toNat + 1 := by omega
      have e5 : (d.seq - 1).toNat = (sp j).got.toNat := by omega
      rw [e5] at hb
      rw [e4, List.take_add_one, hb]
      rfl
  · rw [upd_ne _ _ h1, hoo, upd_same, hse]
    have e : cameM M i ((sp i).come d).2 (1 - i) = M (1 - i) := by
      cases ((sp i).come d).2 with
      | none => rfl
      | some bs => exact upd_ne _ _ h1
    rw [e, h.mq _ hj, hoo]
  · rw [upd_same, upd_ne _ _ hne]
    rcases hgt with ⟨e1, e2⟩ | ⟨e1, e2, e3⟩
    · rw [e2]; exact hgi
    · rw [e2]; omega
  · rw [upd_ne _ _ h1, hoo, upd_same, hse]
    have := h.got _ hj
    rw [hoo] at this
    exact this
  · rw [upd_same, upd_ne _ _ hne, hkn]
    have h2 := h.known j hi
    have h3 := hd.ack
    omega
  · rw [upd_ne _ _ h1, hoo, upd_same]
    have := h.known _ hj
    rw [hoo] at this
    have := hg.got
    omega
theorem tell_wd {vw : Int} {sp : Nat → Ps} {L M : Nat → List (List Int)} (h : Iv vw sp L M) {i : Nat} (hi : i < 2) (f : Nat) : ∀ d ∈ (sp i).tellL f, Wd vw sp i d := by
  obtain ⟨a, b, c⟩ := h.ids i hi
  have hg := (h.got i hi).1
  intro d hd
  unfold Ps.tellL at hd
  split at hd
  · simp only [List.mem_singleton] at hd
    subst hd
    exact ⟨a, b, c, ⟨Int.le_refl _, by show (0 : Int) ≤ _; omega⟩, ⟨hg, Int.le_refl _⟩, fun _ => rfl, fun h0 => absurd h0 (by show ¬ (0 : Int) < 0; omega)⟩
  · unfold Ps.waitL at hd
    obtain ⟨k, hk, rfl⟩ := List.mem_map.1 hd
    have hk := List.mem_range.1 hk
    refine ⟨a, b, c, ⟨by show (0 : Int) ≤ (f : Int) + 1 + (k : Int); omega, by show (f : Int) + 1 + (k : Int) ≤ _; omega⟩, ⟨hg, Int.le_refl _⟩, fun e => absurd e (by show ¬ (f : Int) + 1 + (k : Int) = 0; omega), fun _ => ?_⟩
    show (sp i).sent[((f : Int) + 1 + (k : Int) - 1).toNat]? = some ((sp i).sent.getD (f + k) [])
    rw [show ((f : Int) + 1 + (k : Int) - 1).toNat = f + k from by omega, List.getD_eq_getElem?_getD, List.getElem?_eq_getElem (by omega)]
    rfl
theorem Iv.right {vw : Int} {sp : Nat → Ps} {L M : Nat → List (List Int)} (h : Iv vw sp L M) : ∀ i, i < 2 → M i <+: L (1 - i) := fun i hi => by
  rw [h.mq i hi, h.lq (1 - i) (by omega)]
  exact List.take_prefix _ _

end Go.Proofs.Ythbgnpbkdeofcaa
