/-
  PoolSame.
-/
import Derived.Test.YtgnafbohikbpfaaSp
import Derived.BigQuiet
namespace Go.Proofs.Ytgnafbohikbpfaa
set_option maxRecDepth 100000
set_option linter.unusedSimpArgs false
open Go.RowKit

theorem cg8 (vs : Array Value) (w : World) : (callFunc 8 vs).run Try.prog w = .ok (.enter 8 vs) w := by kernel_rfl
theorem cg10 (vs : Array Value) (w : World) : (callFunc 10 vs).run Try.prog w = .ok (.enter 10 vs) w := by kernel_rfl
theorem cg14 (vs : Array Value) (w : World) : (callFunc 14 vs).run Try.prog w = .ok (.enter 14 vs) w := by kernel_rfl
set_option maxHeartbeats 8000000 in
theorem same_gen (sa sb : Int) (ao : Option Addr) (N cc : Nat) (X : List Se) (ar : Option Addr) (R cr : Nat) (Y : List Se) (w : World) (hN : X.length = N) (hX : RowS Se.C 104 w ao X) (hR : Y.length = R) (hY : RowS Se.C 104 w ar Y) : Calls Try.prog 4 #[aggV [.int .i64 sa, .int .i64 sb], .slice ao N cc, .slice ar R cr] w fun e w' => e = .returned (.bool true) ∧ Kept [] w w' := by
  have HSX := hide hX
  have HN := hide hN
  have HSY := hide hY
  have HR := hide hR
  clear hN hX hR hY
  go_enter Try.func4, Try.ntmps4
  go_wp2_with (
    first
    | (refine wpBoxV rfl (.tmp 0) rfl ([.int .i64 sa, .int .i64 sb]) rfl ?_
       intro W1 b1 e1 B1 K1
       have M : Hid (Mm [] w W1 [(b1, 44, [.int .i64 sa, .int .i64 sb])]) := hide ((Mm.init).new e1 B1 K1)
       have c0 := fits_cell ((unhide M).at 0 _ rfl) 0 _ rfl
       have c1 := fits_cell ((unhide M).at 0 _ rfl) 1 _ rfl
       clear e1 B1 K1
       refine Stp.go ?_))
  constructor
  go_wp2_with (
    first
    | (go_at_call 7
       refine (newO7 (w0 := w) sa (unhide M).kept).mono ?_
       rintro e W2 ⟨x, r1, B, rfl, H2, HL2, K2⟩
       have HX := hide H2
       have HB2 := hide H2.lt
       replace M : Hid (Mm [] w W2 [(b1, 44, [.int .i64 sa, .int .i64 sb])]) := hide ((unhide M).step K2)
       replace c0 := K2.cell c0 (by simp)
       replace c1 := K2.cell c1 (by simp)
       clear H2 K2 HL2
       refine Stp.go ?_))
  constructor
  go_wp2_with (
    first
    | (go_at_call 7
       refine (newO7 (w0 := w) sb (unhide M).kept).mono ?_
       rintro e W3 ⟨y, r2, D, rfl, H3, HL3, K3⟩
       have HBD : Hid (Far B D) := hide (Far.of (unhide HB2) HL3)
       have HY := hide H3
       replace HX := hide ((unhide HX).step K3)
       replace M : Hid (Mm [] w W3 [(b1, 44, [.int .i64 sa, .int .i64 sb])]) := hide ((unhide M).step K3)
       clear H3 K3 HL3 c0 c1 HB2
       refine Stp.go ?_))
  constructor
  go_wp2_with fail
  refine wp_region_any mixed (wpAny_gx 8 rfl (by kernel_rfl) [some (.pointer (some ⟨b1, 0, none⟩)), some (.int .i64 sa), none, some (.pointer (some ⟨b1, 1, none⟩)), some (.int .i64 sb), none, none, none] rfl (by kernel_rfl) (fun l vs W => (ST3 w W3 (newO sa) (newO sb)) (fun i => l.getD i false) vs W) (⟨⟨⟨rfl, rfl, rfl, Nat.le_refl _, fun _ _ _ => rfl⟩, [], [], (fun h => by cases h), (fun h => by cases h), fun h => by cases h⟩, (fun h => by cases h), fun h => by cases h⟩) ?_ ?_)
  · intro ix o' hi ho a' w2 l vs hls hlf hJ hout hin hdep hnot
    match ix, ho with
    | 0, ho =>
      obtain rfl := Option.some.inj ho
      have e0 := hout 3 (by kernel_rfl)
      replace e0 : a'.eval (.tmp 3) = _ := e0.trans rfl
      exact o_idx44 (.tmp 3) 0 (by omega) rfl b1 e0 ⟨_, rfl, told_of rfl, keepG (St := (ST3 w W3 (newO sa) (newO sb))) [2, 5, 6, 7] ST3.loc (by omega) (by decide) hJ⟩
    | 1, ho =>
      obtain rfl := Option.some.inj ho
      have e0 : a'.eval (.tmp 28) = .pointer (some ⟨b1, 0, none⟩) := by have h9 := hin 0 28 (by kernel_rfl) (by kernel_rfl); exact h9.1.trans (told_is _ h9.2 rfl)
      exact o_load3 (.tmp 28) rfl _ _ e0 (fits_cell (((unhide M).step hJ.1.1).at 0 _ rfl) 0 _ rfl) ⟨_, rfl, told_of rfl, keepG (St := (ST3 w W3 (newO sa) (newO sb))) [2, 5, 6, 7] ST3.loc (by omega) (by decide) hJ⟩
    | 2, ho =>
      obtain rfl := Option.some.inj ho
      have e0 : a'.eval (.tmp 29) = .int .i64 sa := by have h9 := hin 1 29 (by kernel_rfl) (by kernel_rfl); exact h9.1.trans (told_is _ h9.2 rfl)
      have hM := ((unhide M).step hJ.1.1).kept
      refine wp_callF 8 _ _ rfl #[.int .i64 sa] (by simp [e0]) (cg8 _ _) ((newO8 (w0 := w) sa hM).mono ?_)
      rintro e w3 ⟨u3, C, rfl, hP, hLC, hk3⟩
      obtain ⟨hJ1, ⟨C0, E0, hJ2, hJ3, hJ4⟩⟩ := hJ.1
      exact ⟨_, rfl, _, rfl, told_no rfl, nextG (St := (ST3 w W3 (newO sa) (newO sb))) (by omega) ⟨⟨hJ1.trans hk3, C, E0, (fun _ => ⟨hP, fun i hi => Nat.le_trans hJ1.size (hLC i hi)⟩), (fun h => ⟨(hJ3 h).1.step hk3, (hJ3 h).2⟩), fun _ h => (Far.of (hJ3 h).1.lt hLC).symm⟩, (fun h => by have h9 : l.getD 6 false = true := h; rw [hnot 6 (by kernel_rfl)] at h9; cases h9), fun h => hJ.2.2 h⟩⟩
    | 3, ho =>
      obtain rfl := Option.some.inj ho
      have e0 := hout 3 (by kernel_rfl)
      replace e0 : a'.eval (.tmp 3) = _ := e0.trans rfl
      exact o_idx44 (.tmp 3) 1 (by omega) rfl b1 e0 ⟨_, rfl, told_of rfl, keepG (St := (ST3 w W3 (newO sa) (newO sb))) [2, 5, 6, 7] ST3.loc (by omega) (by decide) hJ⟩
    | 4, ho =>
      obtain rfl := Option.some.inj ho
      have e0 : a'.eval (.tmp 31) = .pointer (some ⟨b1, 1, none⟩) := by have h9 := hin 3 31 (by kernel_rfl) (by kernel_rfl); exact h9.1.trans (told_is _ h9.2 rfl)
      exact o_load3 (.tmp 31) rfl _ _ e0 (fits_cell (((unhide M).step hJ.1.1).at 0 _ rfl) 1 _ rfl) ⟨_, rfl, told_of rfl, keepG (St := (ST3 w W3 (newO sa) (newO sb))) [2, 5, 6, 7] ST3.loc (by omega) (by decide) hJ⟩
    | 5, ho =>
      obtain rfl := Option.some.inj ho
      have e0 : a'.eval (.tmp 32) = .int .i64 sb := by have h9 := hin 4 32 (by kernel_rfl) (by kernel_rfl); exact h9.1.trans (told_is _ h9.2 rfl)
      have hM := ((unhide M).step hJ.1.1).kept
      refine wp_callF 8 _ _ rfl #[.int .i64 sb] (by simp [e0]) (cg8 _ _) ((newO8 (w0 := w) sb hM).mono ?_)
      rintro e w3 ⟨u3, C, rfl, hP, hLC, hk3⟩
      obtain ⟨hJ1, ⟨C0, E0, hJ2, hJ3, hJ4⟩⟩ := hJ.1
      exact ⟨_, rfl, _, rfl, told_no rfl, nextG (St := (ST3 w W3 (newO sa) (newO sb))) (by omega) ⟨⟨hJ1.trans hk3, C0, C, (fun h => ⟨(hJ2 h).1.step hk3, (hJ2 h).2⟩), (fun _ => ⟨hP, fun i hi => Nat.le_trans hJ1.size (hLC i hi)⟩), fun h _ => Far.of (hJ2 h).1.lt hLC⟩, (fun h => hJ.2.1 h), (fun h => by have h9 : l.getD 7 false = true := h; rw [hnot 7 (by kernel_rfl)] at h9; cases h9)⟩⟩
    | 6, ho =>
      obtain rfl := Option.some.inj ho
      have e0 : a'.eval (.tmp 30) = vs 2 := (hin 2 30 (by kernel_rfl) (by kernel_rfl)).1
      exact wp_assignV (.tmp 30) rfl _ e0 ⟨_, rfl, told_no rfl, nextG (St := (ST3 w W3 (newO sa) (newO sb))) (by omega) ⟨hJ.1, (fun _ => ⟨rfl, hdep 2 (by kernel_rfl)⟩), fun h => hJ.2.2 h⟩⟩
    | 7, ho =>
      obtain rfl := Option.some.inj ho
      have e0 : a'.eval (.tmp 33) = vs 5 := (hin 5 33 (by kernel_rfl) (by kernel_rfl)).1
      exact wp_assignV (.tmp 33) rfl _ e0 ⟨_, rfl, told_no rfl, nextG (St := (ST3 w W3 (newO sa) (newO sb))) (by omega) ⟨hJ.1, (fun h => hJ.2.1 h), fun _ => ⟨rfl, hdep 5 (by kernel_rfl)⟩⟩⟩
  intro l_ vs3 V3 hl hJ htold
  have t0 : vs3 0 = .pointer (some ⟨b1, 0, none⟩) := told_is _ (htold 0 (by decide)) rfl
  have t1 : vs3 1 = .int .i64 sa := told_is _ (htold 1 (by decide)) rfl
  have t3 : vs3 3 = .pointer (some ⟨b1, 1, none⟩) := told_is _ (htold 3 (by decide)) rfl
  have t4 : vs3 4 = .int .i64 sb := told_is _ (htold 4 (by decide)) rfl
  rw [show (List.range 8).map vs3 = [vs3 0, vs3 1, vs3 2, vs3 3, vs3 4, vs3 5, vs3 6, vs3 7] from rfl]
  simp only [t0, t1, t3, t4, putAll, Act.put, List.setIfInBounds_toArray, List.set_cons_succ, List.set_cons_zero]
  clear t0 t1 t3 t4 htold
  obtain ⟨⟨hk3, C, E, hp2, hp5, hf⟩, he6, he7⟩ := hJ
  have e6 := (he6 (hl 6 (by decide))).1
  have e7 := (he7 (hl 7 (by decide))).1
  replace hp2 := hp2 (hl 2 (by decide))
  replace hp5 := hp5 (hl 5 (by decide))
  replace hf := hf (hl 2 (by decide)) (hl 5 (by decide))
  rw [e6, e7]
  obtain ⟨p, hpd⟩ : ∃ p, p = vs3 2 := ⟨_, rfl⟩
  obtain ⟨r, hrd⟩ : ∃ r, r = vs3 5 := ⟨_, rfl⟩
  rw [← hpd] at hp2 ⊢
  rw [← hrd] at hp5 ⊢
  have HQ : Hid (Q4 w V3 (newO sa) (newO sb) x p y r) := hide ⟨(unhide M).kept.trans hk3, B ++ C, D ++ E, Sid.of ((unhide HX).step hk3) hp2.1 (Far.of (unhide HX).lt hp2.2), Sid.of ((unhide HY).step hk3) hp5.1 (Far.of (unhide HY).lt hp5.2), ((((unhide HBD).symm.left (Far.of (unhide HX).lt hp5.2).symm).symm).left ((((Far.of (unhide HY).lt hp2.2).left (hf.symm))).symm))⟩
  clear hk3 hp2 hp5 hf he6 he7 e6 e7 hl hpd hrd HX HY HBD M
  go_upto_block 0 with fail
  go_cut [7, 11, 13, 14] from 34 to 61 (fun xv pv ok i wc => ∃ o xa pa, xa = xv ∧ pa = pv ∧ ok = .bool true ∧ Hid (okO 60 o) ∧ Hid (Q4 w wc o (newO sb) xa pa y r))
  case first =>
   as_aux_lemma =>
    go_wp2_with fail
    go_loopw [7, 11, 13, 14] (fun xx xp xo i wr => ∃ (j : Nat) (o : Option Po) (za zp : Value), j ≤ 60 ∧ za = xx ∧ zp = xp ∧ xo = .bool true ∧ i = .int .i64 j ∧ Hid (okO j o) ∧ Hid (Q4 w wr o (newO sb) za zp y r)) (fun _ _ _ i _ => 60 - (intOf i).toNat)
    case atStart => exact ⟨0, _, _, _, by omega, rfl, rfl, rfl, rfl, hide (newO_ok sa), HQ⟩
    case round =>
    clear HQ
    obtain ⟨j, o, za, zp, hj, rfl, rfl, rfl, rfl, HO, HQ⟩ := hrel
    by_cases hjn : j < N
    rotate_left
    · have hdn : decide ((j : Int) < (N : Int)) = false := by simp; omega
      go_wp2_with fail
      go_meet
      case rel => exact ⟨_, _, _, rfl, rfl, rfl, hide (fun u hu i => Nat.le_trans (unhide HO u hu i) (by omega)), HQ⟩
    have hjnI : (j : Int) < (N : Int) := by omega
    have hdn : decide ((j : Int) < (N : Int)) = true := by simpa using hjnI
    by_cases hlt : j < 60
    rotate_left
    · have hd : decide ((j : Int) < 60) = false := by simp; omega
      go_wp2_with fail
      go_meet
      case rel => exact ⟨_, _, _, rfl, rfl, rfl, hide (fun u hu i => Nat.le_trans (unhide HO u hu i) (by omega)), HQ⟩
    have hjI : (j : Int) < 60 := by omega
    have hd : decide ((j : Int) < 60) = true := by simpa using hjI
    cases o with
    | none =>
      obtain rfl : zp = .pointer none := by obtain ⟨B9, D9, h1, _⟩ := (unhide HQ).ex; exact h1.2.1
      go_wp2_with fail
      go_meet
      case rel => exact ⟨_, _, _, rfl, rfl, rfl, hide (fun u hu i => Nat.le_trans (unhide HO u hu i) (by omega)), HQ⟩
    | some P =>
      obtain ⟨B9, D9, h1, h2, h3⟩ := (unhide HQ).ex
      obtain ⟨b, mb, c, g, rfl, rfl, rfl, h4⟩ := h1
      have HT := hide h4
      have HSD := hide h2
      have HF := hide h3
      clear h2 h3 h4
      obtain ⟨s, hs⟩ : ∃ s, X[j]? = some s := ⟨_, List.getElem?_eq_getElem (by have := unhide HN; omega)⟩
      obtain ⟨bo, oo, rfl, hcs⟩ := (unhide HSX) j s hs
      have HXR : Hid (∀ W, Kept [] w W → W.rangeAt bo (oo + j * 104) s.C) := by
        intro W hW i u hu
        exact hW.cell (hcs i u hu) (by simp)
      obtain ⟨sc, hsc⟩ : ∃ c, c = s.C := ⟨_, rfl⟩
      have HLC : Hid (sc.length = 104) := by show _ = _; rw [hsc, Se.len]
      rw [← hsc] at HXR
      have HDO := hide (do11 (unhide HT) s (fun i => Nat.le_trans (unhide HO P rfl i) (by omega)))
      rw [← hsc] at HDO
      clear hcs hs hsc
      go_wp2_with (
        first
        | (refine wpLoadA row41 rfl (.tmp 56) rfl bo (oo + j * 104) rfl sc (unhide HLC) (unhide HXR _ (unhide HQ).kept) ?_
           refine Stp.go ?_))
      constructor
      go_wp2_with (
        first
        | (go_at_call 11
           refine (unhide HDO).mono ?_
           rintro e W9 ⟨b9, m9, g9, rfl, D9⟩
           have HQ9 := hide (Q4.do (unhide HT) (unhide HSD) (unhide HF) D9)
           clear D9 HQ HT HSD HF
           refine Stp.go ?_))
      constructor
      go_wp2_with fail
      go_roundw
      case rel => exact ⟨j + 1, some (doP P s), P0 b9, P0 c, by omega, rfl, rfl, rfl, by go_num, hide (fun u hu => by cases hu; exact doP_pn (unhide HO P rfl) s), HQ9⟩
      case measure => simp [intOf]; omega
  case rest =>
   as_aux_lemma =>
    obtain ⟨o1, xa, pa, rfl, rfl, rfl, HO1, HQ1⟩ := hcut
    clear HQ
    have HQ := hide (unhide HQ1).swap
    clear HQ1
    go_upto_block 2 with fail
    go_cut [9, 12, 13, 15] from 62 to 89 (fun xv pv ok i wc => ∃ o ya yr, ya = xv ∧ yr = pv ∧ ok = .bool true ∧ Hid (okO 60 o) ∧ Hid (Q4 w wc o o1 ya yr xa pa))
    case first =>
     as_aux_lemma =>
      go_wp2_with fail
      go_loopw [9, 12, 13, 15] (fun xx xp xo i wr => ∃ (j : Nat) (o : Option Po) (za zp : Value), j ≤ 60 ∧ za = xx ∧ zp = xp ∧ xo = .bool true ∧ i = .int .i64 j ∧ Hid (okO j o) ∧ Hid (Q4 w wr o o1 za zp xa pa)) (fun _ _ _ i _ => 60 - (intOf i).toNat)
      case atStart => exact ⟨0, _, _, _, by omega, rfl, rfl, rfl, rfl, hide (newO_ok sb), HQ⟩
      case round =>
      clear HQ
      obtain ⟨j, o, za, zp, hj, rfl, rfl, rfl, rfl, HO, HQ⟩ := hrel
      by_cases hjn : j < R
      rotate_left
      · have hdn : decide ((j : Int) < (R : Int)) = false := by simp; omega
        go_wp2_with fail
        go_meet
        case rel => exact ⟨_, _, _, rfl, rfl, rfl, hide (fun u hu i => Nat.le_trans (unhide HO u hu i) (by omega)), HQ⟩
      have hjnI : (j : Int) < (R : Int) := by omega
      have hdn : decide ((j : Int) < (R : Int)) = true := by simpa using hjnI
      by_cases hlt : j < 60
      rotate_left
      · have hd : decide ((j : Int) < 60) = false := by simp; omega
        go_wp2_with fail
        go_meet
        case rel => exact ⟨_, _, _, rfl, rfl, rfl, hide (fun u hu i => Nat.le_trans (unhide HO u hu i) (by omega)), HQ⟩
      have hjI : (j : Int) < 60 := by omega
      have hd : decide ((j : Int) < 60) = true := by simpa using hjI
      cases o with
      | none =>
        obtain rfl : zp = .pointer none := by obtain ⟨B9, D9, h1, _⟩ := (unhide HQ).ex; exact h1.2.1
        go_wp2_with fail
        go_meet
        case rel => exact ⟨_, _, _, rfl, rfl, rfl, hide (fun u hu i => Nat.le_trans (unhide HO u hu i) (by omega)), HQ⟩
      | some P =>
        obtain ⟨B9, D9, h1, h2, h3⟩ := (unhide HQ).ex
        obtain ⟨b, mb, c, g, rfl, rfl, rfl, h4⟩ := h1
        have HT := hide h4
        have HSD := hide h2
        have HF := hide h3
        clear h2 h3 h4
        obtain ⟨s, hs⟩ : ∃ s, Y[j]? = some s := ⟨_, List.getElem?_eq_getElem (by have := unhide HR; omega)⟩
        obtain ⟨bo, oo, rfl, hcs⟩ := (unhide HSY) j s hs
        have HXR : Hid (∀ W, Kept [] w W → W.rangeAt bo (oo + j * 104) s.C) := by
          intro W hW i u hu
          exact hW.cell (hcs i u hu) (by simp)
        obtain ⟨sc, hsc⟩ : ∃ c, c = s.C := ⟨_, rfl⟩
        have HLC : Hid (sc.length = 104) := by show _ = _; rw [hsc, Se.len]
        rw [← hsc] at HXR
        have HDO := hide (do11 (unhide HT) s (fun i => Nat.le_trans (unhide HO P rfl i) (by omega)))
        rw [← hsc] at HDO
        clear hcs hs hsc
        go_wp2_with (
          first
          | (refine wpLoadA row41 rfl (.tmp 84) rfl bo (oo + j * 104) rfl sc (unhide HLC) (unhide HXR _ (unhide HQ).kept) ?_
             refine Stp.go ?_))
        constructor
        go_wp2_with (
          first
          | (go_at_call 11
             refine (unhide HDO).mono ?_
             rintro e W9 ⟨b9, m9, g9, rfl, D9⟩
             have HQ9 := hide (Q4.do (unhide HT) (unhide HSD) (unhide HF) D9)
             clear D9 HQ HT HSD HF
             refine Stp.go ?_))
        constructor
        go_wp2_with fail
        go_roundw
        case rel => exact ⟨j + 1, some (doP P s), P0 b9, P0 c, by omega, rfl, rfl, rfl, by go_num, hide (fun u hu => by cases hu; exact doP_pn (unhide HO P rfl) s), HQ9⟩
        case measure => simp [intOf]; omega
    case rest =>
     as_aux_lemma =>
      obtain ⟨q, ya, yr, rfl, rfl, rfl, HOQ, HQ1⟩ := hcut
      clear HQ
      have HQ := hide (unhide HQ1).swap
      clear HQ1
      go_upto_region 13 with fail
      refine wp_text_tq 19 rfl (by kernel_rfl) [some (.bool true), some (.bool true), some (xa), some (ya), some (.bool (sameO o1 q)), some (pa), some (yr), some (.bool (sameO o1 q)), some (.bool true), some (.bool true), some (.bool true), some (xa), some (xa), some (.bool true), some (.bool true), some (.bool true), some (.bool true), some (.bool true), some (.bool true)] rfl (by kernel_rfl) (by kernel_rfl) ?_ ?_
      · intro i o' hi hsk ho a' w2 hout hin hk2
        replace hk2 : Kept [] wc w2 := ⟨hk2.os, hk2.tape, hk2.output, hk2.size, hk2.block⟩
        match i, ho, hsk with
        | 0, ho, hsk =>
          obtain rfl := Option.some.inj ho
          exact wp_move (.tmp 13) rfl _ ((hout 13 (by kernel_rfl)).trans rfl) ⟨_, rfl, tq_is _ _ _ _ rfl, Kept.refl _ _, fun _ _ _ _ _ => trivial⟩
        | 1, ho, hsk =>
          obtain rfl := Option.some.inj ho
          have e0 : a'.eval (.tmp 90) = .bool true := is_tq (hin 0 90 (by kernel_rfl) (by kernel_rfl)) rfl
          exact wp_move (.tmp 90) rfl _ e0 ⟨_, rfl, tq_is _ _ _ _ rfl, Kept.refl _ _, fun _ _ _ _ _ => trivial⟩
        | 2, ho, hsk =>
          obtain rfl := Option.some.inj ho
          exact wp_move (.tmp 7) rfl _ ((hout 7 (by kernel_rfl)).trans rfl) ⟨_, rfl, tq_is _ _ _ _ rfl, Kept.refl _ _, fun _ _ _ _ _ => trivial⟩
        | 3, ho, hsk =>
          obtain rfl := Option.some.inj ho
          exact wp_move (.tmp 9) rfl _ ((hout 9 (by kernel_rfl)).trans rfl) ⟨_, rfl, tq_is _ _ _ _ rfl, Kept.refl _ _, fun _ _ _ _ _ => trivial⟩
        | 4, ho, hsk =>
          obtain rfl := Option.some.inj ho
          have e0 : a'.eval (.tmp 92) = xa := is_tq (hin 2 92 (by kernel_rfl) (by kernel_rfl)) rfl
          have e1 : a'.eval (.tmp 93) = ya := is_tq (hin 3 93 (by kernel_rfl) (by kernel_rfl)) rfl
          refine wp_callF 13 _ _ rfl #[xa, ya] (by simp [e0, e1]) (cg13 _ _) ((((unhide HQ).step hk2).same13).mono ?_)
          rintro e w3 ⟨rfl, hk3⟩
          exact ⟨_, rfl, _, rfl, tq_is _ _ _ _ rfl, hk3, fun _ _ _ _ _ => trivial⟩
        | 5, ho, hsk =>
          obtain rfl := Option.some.inj ho
          exact wp_move (.tmp 11) rfl _ ((hout 11 (by kernel_rfl)).trans rfl) ⟨_, rfl, tq_is _ _ _ _ rfl, Kept.refl _ _, fun _ _ _ _ _ => trivial⟩
        | 6, ho, hsk =>
          obtain rfl := Option.some.inj ho
          exact wp_move (.tmp 12) rfl _ ((hout 12 (by kernel_rfl)).trans rfl) ⟨_, rfl, tq_is _ _ _ _ rfl, Kept.refl _ _, fun _ _ _ _ _ => trivial⟩
        | 7, ho, hsk =>
          obtain rfl := Option.some.inj ho
          have e0 : a'.eval (.tmp 95) = pa := is_tq (hin 5 95 (by kernel_rfl) (by kernel_rfl)) rfl
          have e1 : a'.eval (.tmp 96) = yr := is_tq (hin 6 96 (by kernel_rfl) (by kernel_rfl)) rfl
          refine wp_callF 14 _ _ rfl #[pa, yr] (by simp [e0, e1]) (cg14 _ _) ((((unhide HQ).step hk2).same14).mono ?_)
          rintro e w3 ⟨rfl, hk3⟩
          exact ⟨_, rfl, _, rfl, tq_is _ _ _ _ rfl, hk3, fun _ _ _ _ _ => trivial⟩
        | 8, ho, hsk =>
          obtain rfl := Option.some.inj ho
          have e0 : a'.eval (.tmp 94) = .bool (sameO o1 q) := is_tq (hin 4 94 (by kernel_rfl) (by kernel_rfl)) rfl
          have e1 : a'.eval (.tmp 97) = .bool (sameO o1 q) := is_tq (hin 7 97 (by kernel_rfl) (by kernel_rfl)) rfl
          exact o_eqlBB (.tmp 94) (.tmp 97) rfl _ e0 e1 ⟨_, rfl, tq_is _ _ _ _ rfl, Kept.refl _ _, fun _ _ _ _ _ => trivial⟩
        | 9, ho, hsk =>
          obtain rfl := Option.some.inj ho
          have e0 : a'.eval (.tmp 91) = .bool true := is_tq (hin 1 91 (by kernel_rfl) (by kernel_rfl)) rfl
          have e1 : a'.eval (.tmp 98) = .bool true := is_tq (hin 8 98 (by kernel_rfl) (by kernel_rfl)) rfl
          exact o_pick (.tmp 91) (.tmp 98) rfl _ e0 e1 ⟨_, rfl, tq_is _ _ _ _ rfl, Kept.refl _ _, fun _ _ _ _ _ => trivial⟩
        | 10, ho, hsk =>
          obtain rfl := Option.some.inj ho
          have e0 : a'.eval (.tmp 99) = .bool true := is_tq (hin 9 99 (by kernel_rfl) (by kernel_rfl)) rfl
          exact wp_move (.tmp 99) rfl _ e0 ⟨_, rfl, tq_is _ _ _ _ rfl, Kept.refl _ _, fun _ _ _ _ _ => trivial⟩
        | 11, ho, hsk =>
          obtain rfl := Option.some.inj ho
          exact wp_move (.tmp 7) rfl _ ((hout 7 (by kernel_rfl)).trans rfl) ⟨_, rfl, tq_is _ _ _ _ rfl, Kept.refl _ _, fun _ _ _ _ _ => trivial⟩
        | 12, ho, hsk =>
          obtain rfl := Option.some.inj ho
          exact wp_move (.tmp 7) rfl _ ((hout 7 (by kernel_rfl)).trans rfl) ⟨_, rfl, tq_is _ _ _ _ rfl, Kept.refl _ _, fun _ _ _ _ _ => trivial⟩
        | 13, ho, hsk =>
          obtain rfl := Option.some.inj ho
          have e0 : a'.eval (.tmp 101) = xa := is_tq (hin 11 101 (by kernel_rfl) (by kernel_rfl)) rfl
          have e1 : a'.eval (.tmp 102) = xa := is_tq (hin 12 102 (by kernel_rfl) (by kernel_rfl)) rfl
          refine wp_callF 13 _ _ rfl #[xa, xa] (by simp [e0, e1]) (cg13 _ _) ((((unhide HQ).step hk2).self13).mono ?_)
          rintro e w3 ⟨rfl, hk3⟩
          exact ⟨_, rfl, _, rfl, tq_is _ _ _ _ rfl, hk3, fun _ _ _ _ _ => trivial⟩
        | 14, ho, hsk =>
          obtain rfl := Option.some.inj ho
          have e0 : a'.eval (.tmp 100) = .bool true := is_tq (hin 10 100 (by kernel_rfl) (by kernel_rfl)) rfl
          have e1 : a'.eval (.tmp 103) = .bool true := is_tq (hin 13 103 (by kernel_rfl) (by kernel_rfl)) rfl
          exact o_pick (.tmp 100) (.tmp 103) rfl _ e0 e1 ⟨_, rfl, tq_is _ _ _ _ rfl, Kept.refl _ _, fun _ _ _ _ _ => trivial⟩
        | 15, ho, hsk =>
          obtain rfl := Option.some.inj ho
          have e0 : a'.eval (.tmp 104) = .bool true := is_tq (hin 14 104 (by kernel_rfl) (by kernel_rfl)) rfl
          exact wp_move (.tmp 104) rfl _ e0 ⟨_, rfl, tq_is _ _ _ _ rfl, Kept.refl _ _, fun _ _ _ _ _ => trivial⟩
        | 16, ho, hsk =>
          obtain rfl := Option.some.inj ho
          refine wp_callF 10 _ _ rfl #[] (by simp) (cg10 _ _) ((known10 _).mono ?_)
          rintro e w3 ⟨rfl, hk3⟩
          exact ⟨_, rfl, _, rfl, tq_is _ _ _ _ rfl, hk3, fun _ _ _ _ _ => trivial⟩
        | 17, ho, hsk =>
          obtain rfl := Option.some.inj ho
          have e0 : a'.eval (.tmp 105) = .bool true := is_tq (hin 15 105 (by kernel_rfl) (by kernel_rfl)) rfl
          have e1 : a'.eval (.tmp 106) = .bool true := is_tq (hin 16 106 (by kernel_rfl) (by kernel_rfl)) rfl
          exact o_pick (.tmp 105) (.tmp 106) rfl _ e0 e1 ⟨_, rfl, tq_is _ _ _ _ rfl, Kept.refl _ _, fun _ _ _ _ _ => trivial⟩
        | 18, ho, hsk =>
          obtain rfl := Option.some.inj ho
          have e0 : a'.eval (.tmp 107) = .bool true := is_tq (hin 17 107 (by kernel_rfl) (by kernel_rfl)) rfl
          exact wp_assignV (.tmp 107) rfl _ e0 ⟨_, rfl, tq_is _ _ _ _ rfl, Kept.refl _ _, fun _ _ _ _ _ => trivial⟩
      intro w9 hk9
      replace hk9 : Kept [] wc w9 := ⟨hk9.os, hk9.tape, hk9.output, hk9.size, hk9.block⟩
      simp only [valsQ, List.map_cons, List.map_nil, Option.getD_some, List.take_succ_cons, List.take_zero, putAll, Act.put, List.setIfInBounds_toArray, List.set_cons_succ, List.set_cons_zero]
      go_wp2_with fail
      go_ret
      exact ⟨rfl, (unhide HQ).kept.trans hk9⟩
theorem same4 (sa sb : Int) (ao : Option Addr) (cc : Nat) (X : List Se) (ar : Option Addr) (cr : Nat) (Y : List Se) (w : World) (hX : RowS Se.C 104 w ao X) (hY : RowS Se.C 104 w ar Y) : Calls Try.prog 4 #[aggV [.int .i64 sa, .int .i64 sb], .slice ao X.length cc, .slice ar Y.length cr] w fun e w' => e = .returned (.bool true) ∧ Kept [] w w' :=
  same_gen sa sb ao _ cc X ar _ cr Y w rfl hX rfl hY

end Go.Proofs.Ytgnafbohikbpfaa
