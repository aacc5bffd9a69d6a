/-
  Send.
-/
import Derived.Test.YthbgnpbkdeofcaaSd
namespace Go.Proofs.Ythbgnpbkdeofcaa
set_option maxRecDepth 100000
open Go.RowKit

def Ps.put (P : Ps) (bs : List Int) : Ps := { P with sent := P.sent ++ [bs] }
/-- Send, plainly: what is sent waits, unless it is too long. -/
def Ps.send (P : Ps) (bs : List Int) : Ps × Int := if 256 < bs.length then (P, 3) else (P.put bs, 0)
theorem put_ok {P : Ps} {bs : List Int} (h : P.Ok) (hb : ∀ x ∈ bs, 0 ≤ x ∧ x < 256) (hs : bs.length ≤ 256) (hm : P.sent.length < 1000) : (P.put bs).Ok := by
  refine ⟨h.ne, ?_, ?_, h.got, ?_, ?_, ?_⟩
  · simp only [Ps.put, List.length_append]; have := h.known; simp; omega
  · simp only [Ps.put, List.length_append]; have := h.told; simp; omega
  · simp only [Ps.put, List.length_append]; simp; omega
  · intro l hl
    simp only [Ps.put, List.mem_append, List.mem_singleton] at hl
    rcases hl with hl | rfl
    · exact h.small l hl
    · exact hs
  · intro l hl
    simp only [Ps.put, List.mem_append, List.mem_singleton] at hl
    rcases hl with hl | rfl
    · exact h.byte l hl
    · exact hb
/-- What Send's region keeps. -/
@[reducible] def S12 (V : World) (b : Nat) (v : Value) (ws : List Value) (P : Ps) (bs : List Int) (d : Nat → Bool) (vs : Nat → Value) (W : World) : Prop :=
  (d 11 = false → (d 8 = false → Kept [] V W) ∧ (d 6 = true → (Bod W (vs 6) bs ∧ ∀ k, (vs 6).ownBlock = some k → V.heap.size ≤ k)) ∧ (d 7 = true → d 8 = false → ∃ p, vs 7 = .slice (some ⟨p, 0, none⟩) 1 1 ∧ Blk W p 33 [vs 6]) ∧ (d 8 = true → OwnO W (vs 8) (ws ++ [vs 6]) ∧ Kept v.ownBlock.toList V W ∧ ∀ k, (vs 8).ownBlock = some k → v.ownBlock = some k ∨ V.heap.size ≤ k)) ∧
  (d 11 = true → ∃ v' u, OwnO W v' (ws ++ [u]) ∧ Blk W b 68 (P.C v') ∧ Kept (b :: v.ownBlock.toList) V W ∧ (∀ k, v'.ownBlock = some k → v.ownBlock = some k ∨ V.heap.size ≤ k) ∧ Bod W u bs ∧ ∀ k, u.ownBlock = some k → V.heap.size ≤ k)
theorem S12.loc {V : World} {b : Nat} {v : Value} {ws : List Value} {P : Ps} {bs : List Int} : ∀ d d' vs vs' W, (∀ i ∈ [6, 7, 8, 11], d i = d' i ∧ vs i = vs' i) → S12 V b v ws P bs d vs W → S12 V b v ws P bs d' vs' W := by
  intro d d' vs vs' W H h
  have e0 := H 6 (by simp)
  have e1 := H 7 (by simp)
  have e2 := H 8 (by simp)
  have e4 := H 11 (by simp)
  unfold S12 at h ⊢
  rw [← e0.1, ← e0.2, ← e1.1, ← e1.2, ← e2.1, ← e2.2, ← e4.1]
  exact h
theorem send_sx {V W : World} {b : Nat} {v v' u : Value} {ws : List Value} {P : Ps} {bs : List Int} (h : Sx V b v ws P) (hb : ∀ x ∈ bs, 0 ≤ x ∧ x < 256) (hs : bs.length ≤ 256) (hm : P.sent.length < 1000) (h1 : OwnO W v' (ws ++ [u])) (h2 : Blk W b 68 (P.C v')) (h3 : Kept (b :: v.ownBlock.toList) V W) (h4 : ∀ k, v'.ownBlock = some k → v.ownBlock = some k ∨ V.heap.size ≤ k) (h5 : Bod W u bs) (h6 : ∀ k, u.ownBlock = some k → V.heap.size ≤ k) : SR V b v ws W v' (ws ++ [u]) (P.put bs) := by
  have hl := h.len
  refine ⟨⟨put_ok h.ok hb hs hm, h2, h1, ?_, ?_⟩, h3, h4, ?_⟩
  · simp only [Ps.put, List.length_append, List.length_singleton]; omega
  · intro i x l hx hsl
    simp only [Ps.put] at hsl
    by_cases hi : i < ws.length
    · rw [List.getElem?_append_left hi] at hx
      rw [List.getElem?_append_left (by omega)] at hsl
      have hB := h.body i x l hx hsl
      exact hB.kept h3 (h.away hB)
    · rw [List.getElem?_append_right (by omega)] at hx
      rw [List.getElem?_append_right (by omega)] at hsl
      have hi0 : i - ws.length = 0 := by have := (List.getElem?_eq_some_iff.1 hx).1; simp at this; omega
      rw [hi0] at hx
      rw [show P.known + i - P.sent.length = 0 by omega] at hsl
      simp at hx hsl
      subst hx hsl
      exact h5
  · intro x hx k e
    rcases List.mem_append.1 hx with hx | hx
    · exact .inl ⟨x, hx, e⟩
    · simp at hx
      subst hx
      exact .inr (h6 k e)
theorem send_no (b : Nat) (v : Value) (ws : List Value) (P : Ps) (ao : Option Addr) (m c : Nat) (w : World) (h : Sx w b v ws P) (hm : 256 < m) : Calls Try.prog 12 #[P0 b, .slice ao m c] w fun e w' => e = .returned (.int .i64 3) ∧ ∃ q, w' = w.drewN q := by
  have P33 := hide (none33 b v ws P w h)
  have hd : (256 : Int) < (m : Int) := by omega
  clear h
  go_enter Try.func12, Try.ntmps12
  go_wp2_with (
    first
    | (go_at_call 33
       refine (unhide P33).mono ?_
       rintro e V1 ⟨rfl, q1, rfl⟩))
  go_ret
  exact ⟨rfl, _, rfl⟩
set_option maxHeartbeats 2000000 in
theorem send_yes (b : Nat) (v : Value) (ws : List Value) (P : Ps) (ao : Option Addr) (m c : Nat) (bs : List Int) (w : World) (h : Sx w b v ws P) (hV : Vals w ao m c (u8s bs)) (hnil : ao = none → m = 0 ∧ c = 0) (hb : ∀ x ∈ bs, 0 ≤ x ∧ x < 256) (hm : m ≤ 256) (hl : P.sent.length < 1000) : Calls Try.prog 12 #[P0 b, .slice ao m c] w fun e w' => e = .returned (.int .i64 0) ∧ ∃ v' u, SR w b v ws w' v' (ws ++ [u]) (P.put bs) ∧ ∀ k, u.ownBlock = some k → w.heap.size ≤ k := by
  have P33 := hide (none33 b v ws P w h)
  obtain ⟨vo, vc, rfl, _, _⟩ := h.sl
  have hd : ¬ (256 : Int) < (m : Int) := by omega
  have hml : bs.length = m := by have := hV.len; rw [u8s_len] at this; exact this
  have HS := hide h
  have HX := hide hV
  have HN := hide hnil
  have HBY := hide hb
  have HM := hide hm
  have HML := hide hml
  have HLL := hide hl
  clear h hV hnil hb hm hl hml
  go_enter Try.func12, Try.ntmps12
  go_wp2_with (
    first
    | (go_at_call 33
       refine (unhide P33).mono ?_
       rintro e w1 ⟨rfl, q1, hq⟩
       have HK : Hid (Kept [] w w1) := by rw [hq]; exact ⟨rfl, rfl, rfl, Nat.le_refl _, fun _ _ _ => rfl⟩
       clear hq P33))
  replace HS := hide ((unhide HS).kept0 (unhide HK))
  have HH := hide (unhide HS).head
  have HO := hide (unhide HS).row
  have HV := hide ((unhide HX).kept (unhide HK) (fun _ _ _ => by simp))
  have HL : Hid (ws.length ≤ 1000) := by have := (unhide HS).len; have := (unhide HS).ok.many; exact (by omega : ws.length ≤ 1000)
  have HVL := hide (unhide HS).lt.2.1
  have HNL : Hid (b ∉ (Value.slice vo ws.length vc).ownBlock.toList) := fun hm => (unhide HS).hv b (by simpa using hm) rfl
  clear HX
  refine wp_region_any mixed (wpAny_gx 12 rfl (by kernel_rfl) [some (P0 b), some (P0 b), some (P0 b), some (.pointer (some ⟨b, 7, none⟩)), some (.slice vo ws.length vc), some (.slice ao m c), none, none, none, some (P0 b), some (.pointer (some ⟨b, 7, none⟩)), none] rfl (by kernel_rfl) (fun l vs W => (S12 w1 b (.slice vo ws.length vc) ws P bs) (fun i => l.getD i false) vs W) (⟨fun _ => ⟨fun _ => ⟨rfl, rfl, rfl, Nat.le_refl _, fun _ _ _ => rfl⟩, (fun h => by cases h), (fun h => by cases h), (fun h => by cases h)⟩, fun h => by cases h⟩) ?_ ?_)
  · intro ix o' hi ho a' w2 l vs hls hlf hJ hout hin hdep hnot
    match ix, ho with
    | 0, ho =>
      obtain rfl := Option.some.inj ho
      have e0 := hout 0 (by kernel_rfl)
      replace e0 : a'.eval (.tmp 0) = _ := e0.trans rfl
      exact wp_move (.tmp 0) rfl _ e0 ⟨_, rfl, told_of rfl, keepG (St := (S12 w1 b (.slice vo ws.length vc) ws P bs)) [6, 7, 8, 11] S12.loc (by omega) (by decide) hJ⟩
    | 1, ho =>
      obtain rfl := Option.some.inj ho
      have e0 := hout 0 (by kernel_rfl)
      replace e0 : a'.eval (.tmp 0) = _ := e0.trans rfl
      exact wp_move (.tmp 0) rfl _ e0 ⟨_, rfl, told_of rfl, keepG (St := (S12 w1 b (.slice vo ws.length vc) ws P bs)) [6, 7, 8, 11] S12.loc (by omega) (by decide) hJ⟩
    | 2, ho =>
      obtain rfl := Option.some.inj ho
      have e0 : a'.eval (.tmp 13) = P0 b := by have h9 := hin 1 13 (by kernel_rfl) (by kernel_rfl); exact h9.1.trans (told_is _ h9.2 rfl)
      exact o_nil (.tmp 13) rfl _ e0 ⟨_, rfl, told_of rfl, keepG (St := (S12 w1 b (.slice vo ws.length vc) ws P bs)) [6, 7, 8, 11] S12.loc (by omega) (by decide) hJ⟩
    | 3, ho =>
      obtain rfl := Option.some.inj ho
      have e0 : a'.eval (.tmp 14) = P0 b := by have h9 := hin 2 14 (by kernel_rfl) (by kernel_rfl); exact h9.1.trans (told_is _ h9.2 rfl)
      exact o_fld68_1 (.tmp 14) rfl _ e0 ⟨_, rfl, told_of rfl, keepG (St := (S12 w1 b (.slice vo ws.length vc) ws P bs)) [6, 7, 8, 11] S12.loc (by omega) (by decide) hJ⟩
    | 4, ho =>
      obtain rfl := Option.some.inj ho
      have e0 : a'.eval (.tmp 15) = .pointer (some ⟨b, 7, none⟩) := by have h9 := hin 3 15 (by kernel_rfl) (by kernel_rfl); exact h9.1.trans (told_is _ h9.2 rfl)
      exact o_load30 (.tmp 15) rfl _ _ e0 (fits_cell ((unhide HH).kept ((hJ.1 (hnot 11 (by kernel_rfl))).1 (hnot 8 (by kernel_rfl))) (by simp)) 7 _ rfl) ⟨_, rfl, told_of rfl, keepG (St := (S12 w1 b (.slice vo ws.length vc) ws P bs)) [6, 7, 8, 11] S12.loc (by omega) (by decide) hJ⟩
    | 5, ho =>
      obtain rfl := Option.some.inj ho
      have e0 := hout 1 (by kernel_rfl)
      replace e0 : a'.eval (.tmp 1) = _ := e0.trans rfl
      exact wp_move (.tmp 1) rfl _ e0 ⟨_, rfl, told_of rfl, keepG (St := (S12 w1 b (.slice vo ws.length vc) ws P bs)) [6, 7, 8, 11] S12.loc (by omega) (by decide) hJ⟩
    | 6, ho =>
      obtain rfl := Option.some.inj ho
      have e0 : a'.eval (.tmp 17) = .slice ao m c := by have h9 := hin 5 17 (by kernel_rfl) (by kernel_rfl); exact h9.1.trans (told_is _ h9.2 rfl)
      have hk0 := ((hJ.1 (hnot 11 (by kernel_rfl))).1 (hnot 8 (by kernel_rfl)))
      refine wp_callF 34 _ _ rfl #[.slice ao m c] (by simp [e0]) (cf34 _ _) ((clone34 ao m c bs _ ((unhide HV).kept hk0 (fun _ _ _ => by simp)) (unhide HN) (unhide HBY) (by have := unhide HM; omega)).mono ?_)
      rintro e w3 ⟨u, rfl, hB3, hf3, hk3⟩
      refine ⟨_, rfl, _, rfl, told_no rfl, nextG (St := (S12 w1 b (.slice vo ws.length vc) ws P bs)) (by omega) ⟨fun h11 => ⟨fun _ => hk0.trans hk3, fun _ => ⟨hB3, fun k hk => by have := hf3 k hk; have := hk0.size; omega⟩, fun h7 _ => ?_, fun h8 => ?_⟩, fun h11 => ?_⟩⟩
      · have h9 : l.getD 7 false = true := h7; rw [hnot 7 (by kernel_rfl)] at h9; cases h9
      · have h9 : l.getD 8 false = true := h8; rw [hnot 8 (by kernel_rfl)] at h9; cases h9
      · have h9 : l.getD 11 false = true := h11; rw [hnot 11 (by kernel_rfl)] at h9; cases h9
    | 7, ho =>
      obtain rfl := Option.some.inj ho
      have e0 : a'.eval (.tmp 18) = vs 6 := (hin 6 18 (by kernel_rfl) (by kernel_rfl)).1
      have hk0 := ((hJ.1 (hnot 11 (by kernel_rfl))).1 (hnot 8 (by kernel_rfl)))
      obtain ⟨hB6, hf6⟩ := (hJ.1 (hnot 11 (by kernel_rfl))).2.1 (hdep 6 (by kernel_rfl))
      obtain ⟨uo, uc, hu, _, _⟩ := hB6.sl
      refine o_bsS (.tmp 18) rfl uo bs.length uc (e0.trans hu) ?_
      refine ⟨_, rfl, told_no rfl, nextG (St := (S12 w1 b (.slice vo ws.length vc) ws P bs)) (by omega) ⟨fun h11 => ⟨fun _ => hk0.alloc _, fun _ => ⟨hB6.kept ((Kept.refl [] _).alloc _) (fun _ _ => by simp), hf6⟩, fun _ _ => ⟨w2.heap.size, rfl, ?_⟩, fun h8 => ?_⟩, fun h11 => ?_⟩⟩
      · show Blk _ _ _ [vs 6]; rw [hu]; exact Blk.new w2 33 [Value.slice uo bs.length uc]
      · have h9 : l.getD 8 false = true := h8; rw [hnot 8 (by kernel_rfl)] at h9; cases h9
      · have h9 : l.getD 11 false = true := h11; rw [hnot 11 (by kernel_rfl)] at h9; cases h9
    | 8, ho =>
      obtain rfl := Option.some.inj ho
      have e0 : a'.eval (.tmp 16) = .slice vo ws.length vc := by have h9 := hin 4 16 (by kernel_rfl) (by kernel_rfl); exact h9.1.trans (told_is _ h9.2 rfl)
      have e1 : a'.eval (.tmp 19) = vs 7 := (hin 7 19 (by kernel_rfl) (by kernel_rfl)).1
      have hk0 := (hJ.1 (hnot 11 (by kernel_rfl))).1 hlf
      obtain ⟨hB6, hf6⟩ := (hJ.1 (hnot 11 (by kernel_rfl))).2.1 (hdep 6 (by kernel_rfl))
      obtain ⟨q, hq, hBq⟩ := (hJ.1 (hnot 11 (by kernel_rfl))).2.2.1 (hdep 7 (by kernel_rfl)) hlf
      refine o_appO (.tmp 16) (.tmp 19) rfl (.slice vo ws.length vc) ws e0 ((unhide HO).kept hk0 (by simp)) q (vs 6) (e1.trans hq) hBq hB6.one (by have := unhide HL; omega) fun v' w' h1 h2 h3 => ?_
      refine ⟨_, rfl, told_no rfl, nextG (St := (S12 w1 b (.slice vo ws.length vc) ws P bs)) (by omega) ⟨fun h11 => ⟨(fun h => by cases h), fun _ => ⟨hB6.kept h2 (fun k hk hm => ?_), hf6⟩, (fun _ h => by cases h), fun _ => ⟨h1, (hk0.mono (by simp)).trans h2, fun k hk => (h3 k hk).imp id (fun x => by have := hk0.size; omega)⟩⟩, fun h11 => ?_⟩⟩
      · have h9 := hf6 k hk; have h8 := unhide HVL k (by simpa using hm); omega
      · have h9 : l.getD 11 false = true := h11; rw [hnot 11 (by kernel_rfl)] at h9; cases h9
    | 9, ho =>
      obtain rfl := Option.some.inj ho
      have e0 : a'.eval (.tmp 12) = P0 b := by have h9 := hin 0 12 (by kernel_rfl) (by kernel_rfl); exact h9.1.trans (told_is _ h9.2 rfl)
      exact o_nil (.tmp 12) rfl _ e0 ⟨_, rfl, told_of rfl, keepG (St := (S12 w1 b (.slice vo ws.length vc) ws P bs)) [6, 7, 8, 11] S12.loc (by omega) (by decide) hJ⟩
    | 10, ho =>
      obtain rfl := Option.some.inj ho
      have e0 : a'.eval (.tmp 21) = P0 b := by have h9 := hin 9 21 (by kernel_rfl) (by kernel_rfl); exact h9.1.trans (told_is _ h9.2 rfl)
      exact o_fld68_1 (.tmp 21) rfl _ e0 ⟨_, rfl, told_of rfl, keepG (St := (S12 w1 b (.slice vo ws.length vc) ws P bs)) [6, 7, 8, 11] S12.loc (by omega) (by decide) hJ⟩
    | 11, ho =>
      obtain rfl := Option.some.inj ho
      have e0 : a'.eval (.tmp 22) = .pointer (some ⟨b, 7, none⟩) := by have h9 := hin 10 22 (by kernel_rfl) (by kernel_rfl); exact h9.1.trans (told_is _ h9.2 rfl)
      have e1 : a'.eval (.tmp 20) = vs 8 := (hin 8 20 (by kernel_rfl) (by kernel_rfl)).1
      obtain ⟨hB6, hf6⟩ := (hJ.1 hlf).2.1 (hdep 6 (by kernel_rfl))
      obtain ⟨h1, h2, h3⟩ := (hJ.1 hlf).2.2.2 (hdep 8 (by kernel_rfl))
      have hB9 := (unhide HH).kept h2 (unhide HNL)
      obtain ⟨ao9, c9, e9, _, _⟩ := h1.sl
      refine o_st30 (.tmp 22) (.tmp 20) rfl rfl b 7 68 _ (vs 8) e0 e1 ⟨ao9, _, c9, e9⟩ hB9 (by simp [Ps.C]) fun W hBW hkW => ⟨_, rfl, told_no rfl, nextG (St := (S12 w1 b (.slice vo ws.length vc) ws P bs)) (by omega) ⟨(fun h => by cases h), fun _ => ⟨vs 8, vs 6, h1.kept hkW (fun k hk hm => ?_), hBW, (h2.mono (fun k hk => List.mem_cons_of_mem _ hk)).trans (hkW.mono (by simp)), h3, hB6.kept hkW (fun k hk hm => ?_), hf6⟩⟩⟩
      · simp at hm; subst hm; obtain ⟨cs, hc⟩ := h1.block k hk; unfold Blk at hB9; rw [hB9] at hc; injection hc with hc; injection hc with _ hc; exact absurd hc (by decide)
      · simp at hm; subst hm; obtain ⟨cs, hc⟩ := hB6.block k hk; unfold Blk at hB9; rw [hB9] at hc; injection hc with hc; injection hc with _ hc; exact absurd hc (by decide)
  intro l vs w9 hl hJ htold
  have t0 : vs 0 = P0 b := told_is _ (htold 0 (by decide)) rfl
  have t1 : vs 1 = P0 b := told_is _ (htold 1 (by decide)) rfl
  have t2 : vs 2 = P0 b := told_is _ (htold 2 (by decide)) rfl
  have t3 : vs 3 = .pointer (some ⟨b, 7, none⟩) := told_is _ (htold 3 (by decide)) rfl
  have t4 : vs 4 = .slice vo ws.length vc := told_is _ (htold 4 (by decide)) rfl
  have t5 : vs 5 = .slice ao m c := told_is _ (htold 5 (by decide)) rfl
  have t9 : vs 9 = P0 b := told_is _ (htold 9 (by decide)) rfl
  have t10 : vs 10 = .pointer (some ⟨b, 7, none⟩) := told_is _ (htold 10 (by decide)) rfl
  rw [show (List.range 12).map vs = [vs 0, vs 1, vs 2, vs 3, vs 4, vs 5, vs 6, vs 7, vs 8, vs 9, vs 10, vs 11] from rfl]
  simp only [t0, t1, t2, t3, t4, t5, t9, t10, putAll, Act.put, List.setIfInBounds_toArray, List.set_cons_succ, List.set_cons_zero]
  clear t0 t1 t2 t3 t4 t5 t9 t10 htold
  obtain ⟨v', u, h1, h2, h3, h4, h5, h6⟩ := hJ.2 (hl 11 (by decide))
  have HR := hide (send_sx (unhide HS) (unhide HBY) (by rw [unhide HML]; exact unhide HM) (unhide HLL) h1 h2 h3 h4 h5 h6)
  have HF := hide h6
  clear hJ hl h1 h2 h3 h4 h5 h6
  go_wp2
  go_ret
  exact ⟨rfl, v', u, (unhide HR).after (unhide HK), fun k hk => by have := unhide HF k hk; have := (unhide HK).size; omega⟩

end Go.Proofs.Ythbgnpbkdeofcaa
