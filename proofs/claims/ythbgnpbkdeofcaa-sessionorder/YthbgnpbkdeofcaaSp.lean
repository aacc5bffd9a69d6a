/-
  Bodies and datagrams that came in; one that comes twice.
-/
import Derived.Test.YthbgnpbkdeofcaaSo
namespace Go.Proofs.Ythbgnpbkdeofcaa
set_option maxRecDepth 100000
open Go.RowKit

/-- A body that came in. -/
structure By where
  ao : Option Addr
  m : Nat
  c : Nat
  bs : List Int
def By.v (y : By) : Value := .slice y.ao y.m y.c
structure By.Ok (y : By) (w : World) (B : Nat) : Prop where
  vals : Vals w y.ao y.m y.c (u8s y.bs)
  nil : y.ao = none → y.m = 0 ∧ y.c = 0
  byte : ∀ x ∈ y.bs, 0 ≤ x ∧ x < 256
  old : y.bs ≠ [] → ∀ g off, y.ao = some ⟨g, off, none⟩ → g < B
  big : y.m ≤ 140737488351232
theorem By.Ok.kept {y : By} {w w' : World} {B : Nat} {X : List Nat} (h : y.Ok w B) (hk : Kept X w w') (hX : ∀ i ∈ X, B ≤ i) : y.Ok w' B := by
  refine ⟨⟨h.vals.len, h.vals.cap, fun hne => ?_⟩, h.nil, h.byte, h.old, h.big⟩
  obtain ⟨g, off, e, hr⟩ := h.vals.lies hne
  have hg := h.old (fun e => hne (by rw [e]; rfl)) g off e
  exact ⟨g, off, e, fun j v hj => hk.cell (hr j v hj) (fun hm => by have := hX _ hm; simp at this; omega)⟩
theorem By.Ok.len {y : By} {w : World} {B : Nat} (h : y.Ok w B) : y.bs.length = y.m := by have := h.vals.len; rw [u8s_len] at this; exact this
theorem By.Ok.one {y : By} : y.v.oneCell' = true := rfl
/-- Bodies that came in. -/
structure Bys (w : World) (B : Nat) (ao : Option Addr) (m c : Nat) (X : List By) : Prop where
  len : X.length = m
  ok : ∀ y ∈ X, y.Ok w B
  lies : X ≠ [] → ∃ h off, ao = some ⟨h, off, none⟩ ∧ h < B ∧ ∀ (i : Nat) y, X[i]? = some y → w.cell? ⟨h, off + i, none⟩ = some y.v
theorem Bys.kept {w w' : World} {B : Nat} {ao : Option Addr} {m c : Nat} {Y : List By} {X : List Nat} (h : Bys w B ao m c Y) (hk : Kept X w w') (hX : ∀ i ∈ X, B ≤ i) : Bys w' B ao m c Y := by
  refine ⟨h.len, fun x hx => (h.ok x hx).kept hk hX, fun hne => ?_⟩
  obtain ⟨g, off, e, hg, hr⟩ := h.lies hne
  exact ⟨g, off, e, hg, fun i x hi => hk.cell (hr i x hi) (fun hm => by have := hX _ hm; simp at this; omega)⟩
theorem send_arg (W : World) (b : Nat) (v : Value) (ws : List Value) (P : Ps) (y : By) (B : Nat) (h : Sx W b v ws P) (hy : y.Ok W B) (hl : P.sent.length < 1000) : Calls Try.prog 12 #[P0 b, y.v] W fun e W' => e = .returned (.int .i64 (P.send y.bs).2) ∧ ∃ v' ws', SR W b v ws W' v' ws' (P.send y.bs).1 := by
  have hlen := hy.len
  unfold Ps.send
  by_cases hm : 256 < y.bs.length
  · rw [if_pos hm]
    refine (send_no b v ws P y.ao y.m y.c W h (by omega)).mono ?_
    rintro e W' ⟨rfl, q, rfl⟩
    exact ⟨rfl, v, ws, SR.same h (kept_drewN _ _ _)⟩
  · rw [if_neg hm]
    refine (send_yes b v ws P y.ao y.m y.c y.bs W h hy.vals hy.nil hy.byte (by omega) hl).mono ?_
    rintro e W' ⟨rfl, v', u, hR, _⟩
    exact ⟨rfl, v', _, hR⟩
theorem come_arg (w W : World) (b : Nat) (v : Value) (ws : List Value) (P : Ps) (d : Dg) (y : By) (h : Sm w W b v ws P) (hy : y.Ok W w.heap.size) (hd : d.bs = y.bs) : Calls Try.prog 20 #[P0 b, aggV (d.C y.v)] W fun e W' => CR W b v ws P d e W' := by
  refine come20 b v ws P d y.ao y.m y.c W h.sx (by rw [hd]; exact hy.len) (by rw [hd]; exact hy.vals) hy.nil (by rw [hd]; exact hy.byte) (fun g off hne e => ?_)
  intro hm
  have h1 := hy.old (fun e => hne (by rw [hd, e]; rfl)) g off e
  have h2 := h.in g hm
  omega
theorem send_len (P : Ps) (bs : List Int) : (P.send bs).1.sent.length ≤ P.sent.length + 1 := by
  unfold Ps.send Ps.put
  split <;> simp
theorem no_told (P : Ps) (d : Dg) : P.toldP.no d = P.no d := rfl
theorem no_forget (P : Ps) (a : Nat) (d : Dg) : (P.forget a).no d = P.no d := rfl
theorem no_owe (P : Ps) (d : Dg) : P.owe.no d = P.no d := rfl
theorem no_take (P : Ps) (s : Int) (d : Dg) : (P.take s).no d = P.no d := rfl
theorem come_eq_no {P : Ps} {d : Dg} (h : P.no d = true) : P.come d = (P, none) := by unfold Ps.come; rw [if_pos h]
theorem come_eq_0 {P : Ps} {d : Dg} (h : P.no d = false) (h0 : d.seq = 0) : P.come d = (P.forget d.ack.toNat, none) := by unfold Ps.come; rw [if_neg (by rw [h]; simp), if_pos h0]
theorem come_eq_next {P : Ps} {d : Dg} (h : P.no d = false) (h0 : d.seq ≠ 0) (h1 : d.seq = P.got + 1) : P.come d = ((P.forget d.ack.toNat).take d.seq, some d.bs) := by unfold Ps.come; rw [if_neg (by rw [h]; simp), if_neg h0, if_pos h1]
theorem come_eq_far {P : Ps} {d : Dg} (h : P.no d = false) (h0 : d.seq ≠ 0) (h1 : d.seq ≠ P.got + 1) : P.come d = ((P.forget d.ack.toNat).owe, none) := by unfold Ps.come; rw [if_neg (by rw [h]; simp), if_neg h0, if_neg h1]
/-- One that comes twice changes nothing the second time, but that an answer is owed. -/
theorem twice (P : Ps) (d : Dg) : ((P.come d).1.toldP.come d).2 = none ∧ (if ((P.come d).1.toldP.come d).1.owes then ((P.come d).1.toldP.come d).1.toldP else ((P.come d).1.toldP.come d).1) = (P.come d).1.toldP := by
  cases hno : P.no d with
  | true =>
    rw [come_eq_no hno]
    have h2 : P.toldP.no d = true := hno
    rw [come_eq_no h2]
    exact ⟨rfl, rfl⟩
  | false =>
    by_cases h0 : d.seq = 0
    · rw [come_eq_0 hno h0]
      have h2 : (P.forget d.ack.toNat).toldP.no d = false := hno
      rw [come_eq_0 h2 h0]
      refine ⟨rfl, ?_⟩
      simp [Ps.toldP, Ps.forget]
    · by_cases h1 : d.seq = P.got + 1
      · rw [come_eq_next hno h0 h1]
        have h2 : ((P.forget d.ack.toNat).take d.seq).toldP.no d = false := hno
        have h3 : d.seq ≠ ((P.forget d.ack.toNat).take d.seq).toldP.got + 1 := by simp [Ps.toldP, Ps.take]; omega
        rw [come_eq_far h2 h0 h3]
        refine ⟨rfl, ?_⟩
        simp [Ps.toldP, Ps.forget, Ps.take, Ps.owe]
      · rw [come_eq_far hno h0 h1]
        have h2 : (P.forget d.ack.toNat).owe.toldP.no d = false := hno
        have h3 : d.seq ≠ (P.forget d.ack.toNat).owe.toldP.got + 1 := h1
        rw [come_eq_far h2 h0 h3]
        refine ⟨rfl, ?_⟩
        simp [Ps.toldP, Ps.forget, Ps.owe]
theorem sameB_refl (P : Ps) : sameB P P = true := by unfold sameB stEq; simp
set_option maxHeartbeats 4000000 in
theorem twice5 (ao : Option Addr) (m c : Nat) (X : List By) (d : Dg) (y : By) (w : World) (hX : Bys w w.heap.size ao m c X) (hy : y.Ok w w.heap.size) (hd : d.bs = y.bs) : Calls Try.prog 5 #[.slice ao m c, aggV (d.C y.v)] w fun e w' => e = .returned (.bool true) ∧ Kept [] w w' := by
  have HX := hide hX
  have HY := hide hy
  have HD := hide hd
  clear hX hy hd
  by_cases hm : m ≤ 40
  · have hmI : ¬ (40 : Int) < (m : Int) := by omega
    go_enter Try.func5, Try.ntmps5
    go_wp2_with (
      first
      | (refine wpBoxV (by rfl) (.tmp 1) (by rfl) (d.C y.v) (by kernel_rfl) ?_
         intro V1 z e1 B1 K1
         have HZ := hide B1
         have HK := hide K1
         have HE : Hid (w.heap.size ≤ z) := (by omega : w.heap.size ≤ z)
         clear e1 B1 K1)
      | (go_at_call 9
         refine (new_yes 2 3 7 _ (by decide)).mono ?_
         rintro e V2 ⟨b, rfl, e2, hs, hk⟩
         have MA : Hid (Sm w V2 b (.slice none 0 0) [] (newP 2 3 7)) := ⟨hs, (unhide HK).trans hk, by have := (unhide HK).size; omega, fun i h => by cases h⟩
         replace HZ := hide ((unhide HZ).kept hk (by simp))
         clear e2 hs hk HK))
    go_loopw [7] (fun i wr => ∃ (k : Nat) (v : Value) (ws : List Value) (P : Ps), k ≤ m ∧ i = .int .i64 k ∧ Hid (Sm w wr b v ws P) ∧ Hid (P.sent.length ≤ k) ∧ Hid (Blk wr z 35 (d.C y.v))) (fun i _ => m - (intOf i).toNat)
    case atStart => exact ⟨0, _, _, _, by omega, rfl, MA, hide (by simp [newP]), HZ⟩
    case round =>
      clear MA HZ
      obtain ⟨k, v, ws, P, hk, rfl, MA, HL, HZ⟩ := hrel
      have HXw := hide ((unhide HX).kept (unhide MA).k (by simp))
      by_cases hlt : k < m
      · obtain ⟨x, hx⟩ : ∃ x, X[k]? = some x := ⟨_, List.getElem?_eq_getElem (by rw [(unhide HX).len]; exact hlt)⟩
        obtain ⟨g, off, rfl, _, hl⟩ := (unhide HXw).lies (by intro e; rw [e] at hx; simp at hx)
        have hcell := hl k x hx
        have PS := hide (send_arg wr b v ws P x w.heap.size (unhide MA).sx ((unhide HXw).ok x (List.mem_of_getElem? hx)) (by have := unhide HL; omega))
        have hltI : (k : Int) < (m : Int) := by omega
        clear hl hx
        unfold By.v at hcell PS
        go_wp2_with (
          first
          | (go_at_call 12
             refine (unhide PS).mono ?_
             rintro e V3 ⟨rfl, v', ws', hR⟩
             replace HZ := hide (hR.blk (unhide MA).sx (unhide HZ) (by decide) (by decide))
             replace MA := hide ((unhide MA).mut hR)
             have HL2 : Hid ((P.send x.bs).1.sent.length ≤ k + 1) := by have h1 := send_len P x.bs; have h2 := unhide HL; exact (by omega : (P.send x.bs).1.sent.length ≤ k + 1)
             clear hR PS HL hcell))
        go_roundw
        case rel => exact ⟨k + 1, v', ws', _, by omega, by go_num, MA, HL2, HZ⟩
        case measure => simp [intOf]; omega
      · have hltI : ¬ (k : Int) < (m : Int) := by omega
        have HYw := hide ((unhide HY).kept (unhide MA).k (by simp))
        have TW := hide (twice P d)
        go_wp2_with (
          first
          | (refine wpLoadA row35 (by rfl) (.tmp 3) (by rfl) z 0 (by kernel_rfl) (d.C y.v) rfl (unhide HZ).range ?_
             refine Stp.go ?_))
        constructor
        go_wp2_with (
          first
          | (go_at_call 20
             refine (come_arg w _ b v ws P d y (unhide MA) (unhide HYw) (unhide HD)).mono ?_
             rintro e V4 ⟨v4, ws4, r4, rfl, hR, hB4, _⟩
             obtain ⟨ro4, rc4, hro4, _, _⟩ := hB4.sl
             replace HZ := hide (hR.blk (unhide MA).sx (unhide HZ) (by decide) (by decide))
             replace MA := hide ((unhide MA).mut hR)
             clear hR hB4 hro4 HYw
             refine Stp.go ?_))
        constructor
        go_wp2_with (
          first
          | (go_at_call 14
             refine (fresh14 b v4 ws4 _ _ (unhide MA).sx).mono ?_
             rintro e V5 ⟨dv5, L5, rfl, _, _, hR⟩
             replace HZ := hide (hR.blk (unhide MA).sx (unhide HZ) (by decide) (by decide))
             replace MA := hide ((unhide MA).mut hR)
             clear hR
             refine Stp.go ?_))
        constructor
        go_wp2_with (
          first
          | (obtain ⟨P2, hP2⟩ : ∃ P2, P2 = (P.come d).1.toldP := ⟨_, rfl⟩
             rw [← hP2] at MA TW
             go_at_call 27
             refine (copy27 b v4 ws4 P2 _ (unhide MA).sx).mono ?_
             rintro e V6 ⟨b2, v2, rfl, hs2, hg1, hg2, hk⟩
             have MC : Hid (Sm w V6 b2 v2 ws4 P2) := ⟨hs2, (unhide MA).k.trans hk, by have := (unhide MA).k.size; omega, fun i h => by have := hg2 i h; have := (unhide MA).k.size; omega⟩
             have AP : Hid (Ap b v4 b2 v2) := ⟨by have := (unhide MA).sx.lt.1; omega, fun i e1 e2 => by have := (unhide MA).sx.lt.2.1 i e1; have := hg2 i e2; omega⟩
             replace HZ := hide ((unhide HZ).kept hk (by simp))
             replace MA := hide ((unhide MA).step hk)
             have HYw := hide ((unhide HY).kept (unhide MA).k (by simp))
             clear hs2 hg1 hg2 hk hP2
             refine Stp.go ?_))
        constructor
        go_wp2_with (
          first
          | (refine wpLoadA row35 (by rfl) (.tmp 3) (by rfl) z 0 (by kernel_rfl) (d.C y.v) rfl (unhide HZ).range ?_
             refine Stp.go ?_))
        constructor
        go_wp2_with (
          first
          | (go_at_call 20
             refine (come_arg w _ b v4 ws4 P2 d y (unhide MA) (unhide HYw) (unhide HD)).mono ?_
             rintro e V7 ⟨v7, ws7, r7, rfl, hR, hB7, _⟩
             obtain ⟨ro7, rc7, hro7, _, _⟩ := hB7.sl
             rw [(unhide TW).1]
             have HT := hide (unhide TW).2
             have AQ := AP
             replace AP := hide ((unhide AP).mut hR (unhide MC).sx)
             replace MC := hide ((unhide MC).other hR (unhide MA) (unhide AQ))
             replace MA := hide ((unhide MA).mut hR)
             obtain ⟨P3, hP3⟩ : ∃ P3, P3 = (P2.come d).1 := ⟨_, rfl⟩
             rw [← hP3] at MA HT
             clear hR hB7 hro7 HYw AQ TW HZ hP3
             refine Stp.go ?_))
        constructor
        
        go_wp2_with (
          first
          | (go_at_call 24
             refine (owes24 b v7 ws7 P3 _ (unhide MA).sx).mono ?_
             rintro e V8 ⟨rfl, q8, hq⟩
             have hkq : Kept [] V7 V8 := by rw [hq]; exact kept_drewN _ _ _
             replace MA := hide ((unhide MA).step hkq)
             replace MC := hide ((unhide MC).step hkq)
             clear hq hkq
             refine Stp.go ?_))
        constructor
        cases ho : P3.owes with
        | true =>
          replace HT : Hid (P3.toldP = P2) := by have h9 := unhide HT; rw [ho] at h9; exact h9
          clear ho
          go_wp2_with (
            first
            | (go_at_call 14
               refine (fresh14 b v7 ws7 P3 _ (unhide MA).sx).mono ?_
               rintro e V9 ⟨dv9, L9, rfl, _, _, hR⟩
               rw [unhide HT] at hR
               have AQ := AP
               replace AP := hide ((unhide AP).mut hR (unhide MC).sx)
               replace MC := hide ((unhide MC).other hR (unhide MA) (unhide AQ))
               replace MA := hide ((unhide MA).mut hR)
               clear hR AQ HT)
            | (go_at_call 28
               refine (k_same b b2 _ _ _ _ P2 P2 true (sameB_refl P2) _ (unhide MA).sx (unhide MC).sx).mono ?_
               rintro e V10 ⟨rfl, hk⟩
               replace MA := hide ((unhide MA).step hk)
               clear hk)
            | (go_at_call 11
               refine (known11 _).mono ?_
               rintro e V11 ⟨rfl, hk⟩
               replace MA := hide ((unhide MA).step hk)
               clear hk))
          go_ret
          exact ⟨rfl, (unhide MA).k⟩
        | false =>
          replace HT : Hid (P3 = P2) := by have h9 := unhide HT; rw [ho] at h9; exact h9
          clear ho
          go_wp2_with (
            first
            | (go_at_call 28
               refine (k_same b b2 _ _ _ _ P3 P2 true (by rw [unhide HT]; exact sameB_refl P2) _ (unhide MA).sx (unhide MC).sx).mono ?_
               rintro e V10 ⟨rfl, hk⟩
               replace MA := hide ((unhide MA).step hk)
               clear hk)
            | (go_at_call 11
               refine (known11 _).mono ?_
               rintro e V11 ⟨rfl, hk⟩
               replace MA := hide ((unhide MA).step hk)
               clear hk))
          go_ret
          exact ⟨rfl, (unhide MA).k⟩
  · have hmI : (40 : Int) < (m : Int) := by omega
    go_enter Try.func5, Try.ntmps5
    go_wp2_with (
      first
      | (refine wpBoxV (by rfl) (.tmp 1) (by rfl) (d.C y.v) (by kernel_rfl) ?_
         intro V1 z e1 B1 K1
         have HK := hide K1
         clear e1 B1 K1)
      | (go_at_call 11
         refine (known11 _).mono ?_
         rintro e V2 ⟨rfl, hk⟩
         replace HK := hide ((unhide HK).trans hk)
         clear hk))
    go_ret
    exact ⟨rfl, unhide HK⟩

end Go.Proofs.Ythbgnpbkdeofcaa
