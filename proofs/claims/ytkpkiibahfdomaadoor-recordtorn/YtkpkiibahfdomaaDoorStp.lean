/-
  The walk of Stamp.
-/
import Derived.Test.YtkpkiibahfdomaaDoorRst
namespace Go.Proofs.YtkpkiibahfdomaaDoor
open Go.RowKit

theorem res20 (w : World) (z : Nat) (vs : List Value) (e : Int) (r : Bool) (tmps : Array Value) (h4 : tmps[2]?.getD undef = P0 z) (h5 : tmps[3]?.getD undef = .int .i64 e) (h6 : tmps[4]?.getD undef = .bool r) (hl : vs.length = 101) (hb : Blk w z 25 vs) : (results Tryd.f20 tmps).run Tryd.prog w = .ok (.tuple #[aggV vs, .int .i64 e, .bool r]) w := by
  have := loadV row25 hl hb
  simp [results, Tryd.results20, h4, h5, h6, this, asAddr]
/-- A sector is this half of a record. -/
def okH (s : List Int) (h : Nat) : Bool := isRec (readR s h) && decide (s = laidR (readR s h) h)
/-- What Stamp tells. -/
def stR (s : List Int) : Rec × Int × Bool := if okH s 0 then (bareR (readR s 0), 0, true) else if okH s 1 then (bareR (readR s 1), 1, true) else (zrec, 0, false)

theorem stR_yes {s : List Int} {h : Nat} (hno : ∀ k, k < h → okH s k = false) (hh : h < 2) (hok : okH s h = true) : Ending.returned (.tuple #[aggV (recC (bareR (readR s h))), .int .i64 h, .bool true]) = .returned (.tuple #[aggV (recC (stR s).1), .int .i64 (stR s).2.1, .bool (stR s).2.2]) := by
  obtain rfl | rfl : h = 0 ∨ h = 1 := by omega
  · simp [stR, hok]
  · have := hno 0 (by omega)
    simp [stR, hok, this]
set_option maxHeartbeats 4000000 in
set_option maxRecDepth 100000 in
theorem stamp20 (s : List Int) (hs : Byts 64 s) (w : World) : Calls Tryd.prog 20 #[aggV (u8s s)] w fun e w' => e = .returned (.tuple #[aggV (recC (stR s).1), .int .i64 (stR s).2.1, .bool (stR s).2.2]) ∧ Kept [] w w' := by
  have lz : (recC zrec).length = 101 := recC_len zrec_ok.bd.len
  go_enter Tryd.func20, Tryd.ntmps20
  go_wp2_with (
    first
    | (refine wpBoxV rfl (.tmp 0) rfl (u8s s) rfl ?_
       intro W1 b0 e1 B1 K1
       have BR := hide B1
       have KA := hide K1
       clear e1 B1 K1)
    | (refine wpAllocW (recC zrec) zero25 2 rfl rfl rfl ?_
       intro W3 zb e3 B3 K3
       have G : Hid (Ew w W3 b0 b0 zb s s) := ⟨(unhide BR).kept K3 (by simp), (unhide BR).kept K3 (by simp), B3, (unhide KA).trans K3, by have := (unhide KA).size; omega⟩
       clear e3 B3 K3 BR KA))
  go_loopw [7] (fun i wr => ∃ h : Nat, h ≤ 2 ∧ i = .int .i64 h ∧ Hid (Ew w wr b0 b0 zb s s) ∧ Hid (∀ k, k < h → okH s k = false)) (fun i _ => 2 - (intOf i).toNat)
  case atStart => exact ⟨0, by omega, rfl, G, fun k hk => by omega⟩
  case round =>
    clear G
    obtain ⟨h, hh2, rfl, G, HNo⟩ := hrel
    by_cases hh : h < 2
    · have hR0 := readR_ok hs hh
      have H40 := hide (fun w => read40 s hs h hh w)
      have H31 := hide (fun w => isRecord31 (readR s h) w)
      have HOk0 := hide (show okH s h = (isRec (readR s h) && decide (s = laidR (readR s h) h)) from rfl)
      have H32z := hide (fun hI w => laid32 (readR s h) hI hR0.bd h hh w)
      have lL0 := (laidR_byts (r := readR s h) hh hR0.bd).len
      obtain ⟨R, hRd⟩ : ∃ R, readR s h = R := ⟨_, rfl⟩
      rw [hRd] at H40 H31 HOk0 H32z lL0
      have hR : R.bd.length = 96 := by rw [← hRd]; exact hR0.bd.len
      have lR := recC_len hR
      have HRd := hide hRd
      clear hRd hR0
      go_wp2_with (
        first
        | (refine wpLoadA row29 (by rfl) (.tmp 1) (by rfl) b0 0 (by kernel_rfl) (u8s s) (u8l hs.len) (unhide G).s0.range ?_)
        | (go_at_call 40
           refine (unhide H40 _).mono ?_
           rintro e W8 ⟨rfl, K8⟩
           replace G := hide ((unhide G).step K8)
           clear K8 H40)
        | (refine wpNew row25 (recC zrec) lz zero25 6 (by rfl) (by rfl) (by rfl) (.tmp 12) (by rfl) (by rfl) (by rfl) (recC R) lR (recC_one _) (by kernel_rfl) (by kernel_rfl) ?_
           intro W9 q e5 B5 K5
           have nq : Hid (b0 ≠ q ∧ zb ≠ q ∧ w.heap.size ≤ q) := by
             have y0 := (unhide G).s0.lt
             have y1 := (unhide G).res.lt
             have y2 := (unhide G).kept.size
             refine ⟨?_, ?_, ?_⟩ <;> omega
           replace G := hide ((unhide G).step K5)
           have RR := hide B5
           clear e5 B5 K5))
      cases hI : isRec R with
      | false =>
        have HOk : Hid (okH s h = false) := by show _ = _; rw [unhide HOk0, hI]; rfl
        rw [hI] at H31
        clear hI H32z lL0 HOk0
        refine wp_region_any mixed (wpAny_tq 9 rfl (by kernel_rfl) [some (aggV (recC R)), some (.bool false), some (.bool false), none, none, none, none, none, some (.bool false)] rfl (by kernel_rfl) (by kernel_rfl) ?_ ?_)
        · intro i o' hi hsk ho a' w2 hout hin hk2
          replace hk2 : Kept [] W9 w2 := ⟨hk2.os, hk2.tape, hk2.output, hk2.size, hk2.block⟩
          match i, ho, hsk with
          | 0, ho, hsk =>
            obtain rfl := Option.some.inj ho
            exact wp_loadA row25 (.tmp 6) rfl q 0 ((hout 6 (by kernel_rfl)).trans rfl) (recC R) lR ((unhide RR).kept hk2 (by simp)).range ⟨_, rfl, tq_is _ _ _ _ rfl, Kept.refl _ _, fun _ _ _ _ _ => trivial⟩
          | 1, ho, hsk =>
            obtain rfl := Option.some.inj ho
            have e0 : a'.eval (.tmp 13) = aggV (recC R) := is_tq (hin 0 13 (by kernel_rfl) (by kernel_rfl)) rfl
            refine wp_callF 31 _ _ rfl #[aggV (recC R)] (by simp [e0]) (cf31 _ _) ((unhide H31 w2).mono ?_)
            rintro e w3 ⟨rfl, hk3⟩
            exact ⟨_, rfl, _, rfl, tq_is _ _ _ _ rfl, hk3, fun _ _ _ _ _ => trivial⟩
          | 2, ho, hsk =>
            obtain rfl := Option.some.inj ho
            have e0 : a'.eval (.tmp 14) = .bool false := is_tq (hin 1 14 (by kernel_rfl) (by kernel_rfl)) rfl
            exact wp_move (.tmp 14) rfl _ e0 ⟨_, rfl, tq_is _ _ _ _ rfl, Kept.refl _ _, fun _ _ _ _ _ => trivial⟩
          | 3, ho, hsk =>
            cases hsk
          | 4, ho, hsk =>
            cases hsk
          | 5, ho, hsk =>
            cases hsk
          | 6, ho, hsk =>
            cases hsk
          | 7, ho, hsk =>
            cases hsk
          | 8, ho, hsk =>
            obtain rfl := Option.some.inj ho
            have e0 : a'.eval (.tmp 15) = .bool false := is_tq (hin 2 15 (by kernel_rfl) (by kernel_rfl)) rfl
            exact o_pickN (.tmp 15) (.tmp 20) rfl e0 ⟨_, rfl, tq_is _ _ _ _ rfl, Kept.refl _ _, fun _ _ _ _ _ => trivial⟩
        intro w9 hk9
        replace hk9 : Kept [] W9 w9 := ⟨hk9.os, hk9.tape, hk9.output, hk9.size, hk9.block⟩
        simp only [valsQ, List.map_cons, List.map_nil, Option.getD_some, Option.getD_none, List.take_succ_cons, List.take_zero, putAll, Act.put, List.setIfInBounds_toArray, List.set_cons_succ, List.set_cons_zero]
        refine wpAny_done (by kernel_rfl) ?_ _
        replace G := hide ((unhide G).step hk9)
        replace RR := hide ((unhide RR).kept hk9 (by simp))
        clear hk9
        go_wp2_with fail
        go_roundw
        case rel =>
          refine ⟨h + 1, by omega, by go_num, G, ?_⟩
          intro k hk
          obtain rfl | hk2 : k = h ∨ k < h := by omega
          · exact unhide HOk
          · exact unhide HNo k hk2
        case measure => simp [intOf]; omega
      | true =>
        have H32 := hide (unhide H32z hI)
        obtain ⟨L, hL⟩ : ∃ L, laidR R h = L := ⟨_, rfl⟩
        rw [hL] at H32 HOk0 lL0
        have lL := lL0
        rw [hI] at H31
        cases hE : decide (s = L) with
        | false =>
          have HOk : Hid (okH s h = false) := by show _ = _; rw [unhide HOk0, hI, hE]; rfl
          have EL := hide hE
          clear hI hE hL H32z lL0 HOk0
          refine wp_region_any mixed (wpAny_tq 9 rfl (by kernel_rfl) [some (aggV (recC R)), some (.bool true), some (.bool true), some (aggV (u8s s)), some (aggV (recC R)), some (.int .i64 h), some (aggV (u8s L)), some (.bool false), some (.bool false)] rfl (by kernel_rfl) (by kernel_rfl) ?_ ?_)
          · intro i o' hi hsk ho a' w2 hout hin hk2
            replace hk2 : Kept [] W9 w2 := ⟨hk2.os, hk2.tape, hk2.output, hk2.size, hk2.block⟩
            match i, ho, hsk with
            | 0, ho, hsk =>
              obtain rfl := Option.some.inj ho
              exact wp_loadA row25 (.tmp 6) rfl q 0 ((hout 6 (by kernel_rfl)).trans rfl) (recC R) lR ((unhide RR).kept hk2 (by simp)).range ⟨_, rfl, tq_is _ _ _ _ rfl, Kept.refl _ _, fun _ _ _ _ _ => trivial⟩
            | 1, ho, hsk =>
              obtain rfl := Option.some.inj ho
              have e0 : a'.eval (.tmp 13) = aggV (recC R) := is_tq (hin 0 13 (by kernel_rfl) (by kernel_rfl)) rfl
              refine wp_callF 31 _ _ rfl #[aggV (recC R)] (by simp [e0]) (cf31 _ _) ((unhide H31 w2).mono ?_)
              rintro e w3 ⟨rfl, hk3⟩
              exact ⟨_, rfl, _, rfl, tq_is _ _ _ _ rfl, hk3, fun _ _ _ _ _ => trivial⟩
            | 2, ho, hsk =>
              obtain rfl := Option.some.inj ho
              have e0 : a'.eval (.tmp 14) = .bool true := is_tq (hin 1 14 (by kernel_rfl) (by kernel_rfl)) rfl
              exact wp_move (.tmp 14) rfl _ e0 ⟨_, rfl, tq_is _ _ _ _ rfl, Kept.refl _ _, fun _ _ _ _ _ => trivial⟩
            | 3, ho, hsk =>
              obtain rfl := Option.some.inj ho
              exact wp_loadA row29 (.tmp 1) rfl b0 0 ((hout 1 (by kernel_rfl)).trans rfl) (u8s s) (u8l hs.len) ((unhide G).step hk2).s0.range ⟨_, rfl, tq_is _ _ _ _ rfl, Kept.refl _ _, fun _ _ _ _ _ => trivial⟩
            | 4, ho, hsk =>
              obtain rfl := Option.some.inj ho
              exact wp_loadA row25 (.tmp 6) rfl q 0 ((hout 6 (by kernel_rfl)).trans rfl) (recC R) lR ((unhide RR).kept hk2 (by simp)).range ⟨_, rfl, tq_is _ _ _ _ rfl, Kept.refl _ _, fun _ _ _ _ _ => trivial⟩
            | 5, ho, hsk =>
              obtain rfl := Option.some.inj ho
              exact wp_move (.tmp 5) rfl _ ((hout 5 (by kernel_rfl)).trans rfl) ⟨_, rfl, tq_is _ _ _ _ rfl, Kept.refl _ _, fun _ _ _ _ _ => trivial⟩
            | 6, ho, hsk =>
              obtain rfl := Option.some.inj ho
              have e0 : a'.eval (.tmp 17) = aggV (recC R) := is_tq (hin 4 17 (by kernel_rfl) (by kernel_rfl)) rfl
              have e1 : a'.eval (.tmp 18) = .int .i64 h := is_tq (hin 5 18 (by kernel_rfl) (by kernel_rfl)) rfl
              refine wp_callF 32 _ _ rfl #[aggV (recC R), .int .i64 h] (by simp [e0, e1]) (cf32 _ _) ((unhide H32 w2).mono ?_)
              rintro e w3 ⟨rfl, hk3⟩
              exact ⟨_, rfl, _, rfl, tq_is _ _ _ _ rfl, hk3, fun _ _ _ _ _ => trivial⟩
            | 7, ho, hsk =>
              obtain rfl := Option.some.inj ho
              have e0 : a'.eval (.tmp 16) = aggV (u8s s) := is_tq (hin 3 16 (by kernel_rfl) (by kernel_rfl)) rfl
              have e1 : a'.eval (.tmp 19) = aggV (u8s L) := is_tq (hin 6 19 (by kernel_rfl) (by kernel_rfl)) rfl
              exact o_eqlA 29 29 guard29 (.tmp 16) (.tmp 19) rfl (u8s s) (u8s L) e0 e1 false ((equal29 _ s L hs.len lL).trans (by rw [unhide EL])) ⟨_, rfl, tq_is _ _ _ _ rfl, Kept.refl _ _, fun _ _ _ _ _ => trivial⟩
            | 8, ho, hsk =>
              obtain rfl := Option.some.inj ho
              have e0 : a'.eval (.tmp 15) = .bool true := is_tq (hin 2 15 (by kernel_rfl) (by kernel_rfl)) rfl
              have e1 : a'.eval (.tmp 20) = .bool false := is_tq (hin 7 20 (by kernel_rfl) (by kernel_rfl)) rfl
              exact o_pick (.tmp 15) (.tmp 20) rfl _ e0 e1 ⟨_, rfl, tq_is _ _ _ _ rfl, Kept.refl _ _, fun _ _ _ _ _ => trivial⟩
          intro w9 hk9
          replace hk9 : Kept [] W9 w9 := ⟨hk9.os, hk9.tape, hk9.output, hk9.size, hk9.block⟩
          simp only [valsQ, List.map_cons, List.map_nil, Option.getD_some, List.take_succ_cons, List.take_zero, putAll, Act.put, List.setIfInBounds_toArray, List.set_cons_succ, List.set_cons_zero]
          refine wpAny_done (by kernel_rfl) ?_ _
          replace G := hide ((unhide G).step hk9)
          replace RR := hide ((unhide RR).kept hk9 (by simp))
          clear hk9
          go_wp2_with fail
          go_roundw
          case rel =>
            refine ⟨h + 1, by omega, by go_num, G, ?_⟩
            intro k hk
            obtain rfl | hk2 : k = h ∨ k < h := by omega
            · exact unhide HOk
            · exact unhide HNo k hk2
          case measure => simp [intOf]; omega
        | true =>
          have HOk : Hid (okH s h = true) := by show _ = _; rw [unhide HOk0, hI, hE]; rfl
          have EL := hide hE
          clear hI hE hL H32z lL0 HOk0
          refine wp_region_any mixed (wpAny_tq 9 rfl (by kernel_rfl) [some (aggV (recC R)), some (.bool true), some (.bool true), some (aggV (u8s s)), some (aggV (recC R)), some (.int .i64 h), some (aggV (u8s L)), some (.bool true), some (.bool true)] rfl (by kernel_rfl) (by kernel_rfl) ?_ ?_)
          · intro i o' hi hsk ho a' w2 hout hin hk2
            replace hk2 : Kept [] W9 w2 := ⟨hk2.os, hk2.tape, hk2.output, hk2.size, hk2.block⟩
            match i, ho, hsk with
            | 0, ho, hsk =>
              obtain rfl := Option.some.inj ho
              exact wp_loadA row25 (.tmp 6) rfl q 0 ((hout 6 (by kernel_rfl)).trans rfl) (recC R) lR ((unhide RR).kept hk2 (by simp)).range ⟨_, rfl, tq_is _ _ _ _ rfl, Kept.refl _ _, fun _ _ _ _ _ => trivial⟩
            | 1, ho, hsk =>
              obtain rfl := Option.some.inj ho
              have e0 : a'.eval (.tmp 13) = aggV (recC R) := is_tq (hin 0 13 (by kernel_rfl) (by kernel_rfl)) rfl
              refine wp_callF 31 _ _ rfl #[aggV (recC R)] (by simp [e0]) (cf31 _ _) ((unhide H31 w2).mono ?_)
              rintro e w3 ⟨rfl, hk3⟩
              exact ⟨_, rfl, _, rfl, tq_is _ _ _ _ rfl, hk3, fun _ _ _ _ _ => trivial⟩
            | 2, ho, hsk =>
              obtain rfl := Option.some.inj ho
              have e0 : a'.eval (.tmp 14) = .bool true := is_tq (hin 1 14 (by kernel_rfl) (by kernel_rfl)) rfl
              exact wp_move (.tmp 14) rfl _ e0 ⟨_, rfl, tq_is _ _ _ _ rfl, Kept.refl _ _, fun _ _ _ _ _ => trivial⟩
            | 3, ho, hsk =>
              obtain rfl := Option.some.inj ho
              exact wp_loadA row29 (.tmp 1) rfl b0 0 ((hout 1 (by kernel_rfl)).trans rfl) (u8s s) (u8l hs.len) ((unhide G).step hk2).s0.range ⟨_, rfl, tq_is _ _ _ _ rfl, Kept.refl _ _, fun _ _ _ _ _ => trivial⟩
            | 4, ho, hsk =>
              obtain rfl := Option.some.inj ho
              exact wp_loadA row25 (.tmp 6) rfl q 0 ((hout 6 (by kernel_rfl)).trans rfl) (recC R) lR ((unhide RR).kept hk2 (by simp)).range ⟨_, rfl, tq_is _ _ _ _ rfl, Kept.refl _ _, fun _ _ _ _ _ => trivial⟩
            | 5, ho, hsk =>
              obtain rfl := Option.some.inj ho
              exact wp_move (.tmp 5) rfl _ ((hout 5 (by kernel_rfl)).trans rfl) ⟨_, rfl, tq_is _ _ _ _ rfl, Kept.refl _ _, fun _ _ _ _ _ => trivial⟩
            | 6, ho, hsk =>
              obtain rfl := Option.some.inj ho
              have e0 : a'.eval (.tmp 17) = aggV (recC R) := is_tq (hin 4 17 (by kernel_rfl) (by kernel_rfl)) rfl
              have e1 : a'.eval (.tmp 18) = .int .i64 h := is_tq (hin 5 18 (by kernel_rfl) (by kernel_rfl)) rfl
              refine wp_callF 32 _ _ rfl #[aggV (recC R), .int .i64 h] (by simp [e0, e1]) (cf32 _ _) ((unhide H32 w2).mono ?_)
              rintro e w3 ⟨rfl, hk3⟩
              exact ⟨_, rfl, _, rfl, tq_is _ _ _ _ rfl, hk3, fun _ _ _ _ _ => trivial⟩
            | 7, ho, hsk =>
              obtain rfl := Option.some.inj ho
              have e0 : a'.eval (.tmp 16) = aggV (u8s s) := is_tq (hin 3 16 (by kernel_rfl) (by kernel_rfl)) rfl
              have e1 : a'.eval (.tmp 19) = aggV (u8s L) := is_tq (hin 6 19 (by kernel_rfl) (by kernel_rfl)) rfl
              exact o_eqlA 29 29 guard29 (.tmp 16) (.tmp 19) rfl (u8s s) (u8s L) e0 e1 true ((equal29 _ s L hs.len lL).trans (by rw [unhide EL])) ⟨_, rfl, tq_is _ _ _ _ rfl, Kept.refl _ _, fun _ _ _ _ _ => trivial⟩
            | 8, ho, hsk =>
              obtain rfl := Option.some.inj ho
              have e0 : a'.eval (.tmp 15) = .bool true := is_tq (hin 2 15 (by kernel_rfl) (by kernel_rfl)) rfl
              have e1 : a'.eval (.tmp 20) = .bool true := is_tq (hin 7 20 (by kernel_rfl) (by kernel_rfl)) rfl
              exact o_pick (.tmp 15) (.tmp 20) rfl _ e0 e1 ⟨_, rfl, tq_is _ _ _ _ rfl, Kept.refl _ _, fun _ _ _ _ _ => trivial⟩
          intro w9 hk9
          replace hk9 : Kept [] W9 w9 := ⟨hk9.os, hk9.tape, hk9.output, hk9.size, hk9.block⟩
          simp only [valsQ, List.map_cons, List.map_nil, Option.getD_some, List.take_succ_cons, List.take_zero, putAll, Act.put, List.setIfInBounds_toArray, List.set_cons_succ, List.set_cons_zero]
          refine wpAny_done (by kernel_rfl) ?_ _
          replace G := hide ((unhide G).step hk9)
          replace RR := hide ((unhide RR).kept hk9 (by simp))
          clear hk9
          go_wp2_with (
            first
            | (refine wpBuildZ (u8s (zs 96)) build23 (by rfl) (by rfl) ?_)
            | (refine wpStoreA row23 (by rfl) (.tmp 23) (.tmp 22) (by rfl) q 5 (u8s (zs 96)) (by kernel_rfl) (by kernel_rfl) (u8l (by simp [zs])) (u8s_one _) ((unhide RR).there5 hR) ?_
               replace RR := hide ((unhide RR).bare hR)
               replace G := hide ((unhide G).other (o := 5) (vs := u8s (zs 96)) (unhide nq).1 (unhide nq).1 (unhide nq).2.1 (unhide nq).2.2)
               have lB : (recC (bareR R)).length = 101 := recC_len (by simp [bareR, zs])
               generalize w9.setCells q 5 (u8s (zs 96)) = W10 at *)
            | (refine wpLoadA row25 (by rfl) (.tmp 6) (by rfl) q 0 (by kernel_rfl) (recC (bareR R)) lB (unhide RR).range ?_)
            | (refine wpStoreA row25 (by rfl) (.tmp 2) (.tmp 24) (by rfl) zb 0 (recC (bareR R)) (by kernel_rfl) (by kernel_rfl) lB (recC_one _) ((unhide G).res.there (by rw [lz]; omega)) ?_))
          have g4 := (unhide G).res.put (vs := recC (bareR R)) (by rw [lz, lB])
          have nz := (unhide G).nz
          refine bodyPost_ret (res20 _ _ _ _ _ _ rfl rfl rfl lB g4) rfl ⟨?_, (unhide G).kept.setCells _ _ (by omega)⟩
          rw [← unhide HRd]
          exact stR_yes (unhide HNo) hh (unhide HOk)
    · obtain rfl : h = 2 := by omega
      go_wp2_with (
        first
        | (refine wpBuildZ (recC zrec) build25 (by rfl) (by rfl) ?_)
        | (refine wpStoreA row25 (by rfl) (.tmp 2) (.tmp 27) (by rfl) zb 0 (recC zrec) (by kernel_rfl) (by kernel_rfl) lz (recC_one _) ((unhide G).res.there (by rw [lz]; omega)) ?_))
      have g4 := (unhide G).res.put (vs := recC zrec) (by rw [lz])
      have nz := (unhide G).nz
      have er : stR s = (zrec, 0, false) := by simp [stR, unhide HNo 0 (by omega), unhide HNo 1 (by omega)]
      rw [er]
      exact bodyPost_ret (res20 _ _ _ _ _ _ rfl rfl rfl lz g4) rfl ⟨rfl, (unhide G).kept.setCells _ _ (by omega)⟩

end Go.Proofs.YtkpkiibahfdomaaDoor
