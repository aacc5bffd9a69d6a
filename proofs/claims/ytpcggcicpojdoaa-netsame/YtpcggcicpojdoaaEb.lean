/-
  The walk of NetSame.
-/
import Derived.Test.YtpcggcicpojdoaaEa
import Derived.Deep.CutBlock
namespace Go.Proofs.Ytpcggcicpojdoaa
open Go.RowKit

theorem cg8 (vs : Array Value) (w : World) : (callFunc 8 vs).run Try.prog w = .ok (.enter 8 vs) w := by kernel_rfl
/-- What the region that makes the document's two nets keeps. -/
@[reducible] def S5n (V : World) (n0 n1 : Int) (d : Nat → Bool) (vs : Nat → Value) (W : World) : Prop :=
  Kept [] V W ∧ (d 2 = true → NewR V W n0 (vs 2)) ∧ (d 5 = true → d 2 = true ∧ NewR V W n1 (vs 5) ∧ ∀ r, vs 2 = P0 r → vs 5 ≠ P0 r) ∧ (d 6 = true → d 2 = true ∧ vs 6 = vs 2) ∧ (d 7 = true → d 5 = true ∧ vs 7 = vs 5)
theorem S5n.loc {V : World} {n0 n1 : Int} : ∀ d d' vs vs' W, (∀ i ∈ [2, 5, 6, 7], d i = d' i ∧ vs i = vs' i) → S5n V n0 n1 d vs W → S5n V n0 n1 d' vs' W := by
  intro d d' vs vs' W H h
  have e2 := H 2 (by simp)
  have e5 := H 5 (by simp)
  have e6 := H 6 (by simp)
  have e7 := H 7 (by simp)
  unfold S5n at h ⊢
  rw [← e2.1, ← e2.2, ← e5.1, ← e5.2, ← e6.1, ← e6.2, ← e7.1, ← e7.2]
  exact h
section
variable {o : Oper} {a : Act} {w : World} {K : Act → World → Prop} {Q : Exit → Act → World → Prop}
theorem o_idx39 (x : Operand) (i : Nat) (hi : i < 2) (ho : o.op = .indexAddr 39 x (.const (.int .i64 i))) (b : Nat) (hx : a.eval x = P0 b) (h : K (a.put o.dst (.pointer (some ⟨b, i, none⟩))) w) : o.wp Try.prog a w K Q := by
  have hiI : (i : Int) < 2 := by omega
  unfold Oper.wp execOp
  simp only [ho, hx]
  match i, hi with
  | 0, _ => simp [go_sem]; exact h
  | 1, _ => simp [go_sem]; exact h
end
theorem new_apart {V W W' : World} {n m : Int} {x y : Value} (hx : NewR V W n x) (hy : NewR W W' m y) : ∀ r, x = P0 r → y ≠ P0 r := by
  intro r e e2
  cases hx with
  | no => cases e
  | yes _ r1 _ h1 =>
    cases e
    cases hy with
    | no => cases e2
    | yes _ r2 h2 => cases e2; have := h1.head.lt; omega
theorem Duo.new {w A B C W : World} {n0 n1 : Int} {xv pv yv qv : Value} (ka : Kept [] w A) (hx : NewN A B n0 xv) (kb : Kept [] A B) (hy : NewN B C n1 yv) (kc : Kept [] B C) (hp : NewR C W n0 pv) (hq : NewR C W n1 qv) (kw : Kept [] C W) (hne : ∀ r, pv = P0 r → qv ≠ P0 r) : ∃ P Q X Y, Duo w W 0 0 xv pv yv qv P Q X Y := by
  have s1 := ka.size
  have s2 := kb.size
  have s3 := kc.size
  obtain ⟨P, X, h1, h2⟩ := qw_new (w := w) hx (kc.trans kw) hp (by omega) (by omega)
  obtain ⟨Q, Y, h3, h4⟩ := qw_new (w := w) hy kw hq (by omega) (by omega)
  refine ⟨P, Q, X, Y, h1, h3, fun k hk hk2 => ?_, ((ka.trans kb).trans kc).trans kw⟩
  have gp : ∀ r, pv = P0 r → C.heap.size ≤ r := fun r e => by cases hp with
    | no => cases e
    | yes _ r' h => cases e; exact h
  have gq : ∀ r, qv = P0 r → C.heap.size ≤ r := fun r e => by cases hq with
    | no => cases e
    | yes _ r' h => cases e; exact h
  rcases h2 k hk with h5 | h5
  · rcases h4 k hk2 with h6 | h6
    · omega
    · have := gq k h6; omega
  · rcases h4 k hk2 with h6 | h6
    · have := gp k h5; omega
    · exact hne k h5 h6
set_option maxHeartbeats 16000000 in
set_option maxRecDepth 100000 in
theorem same4 (n0 n1 : Int) (ao : Option Addr) (m c : Nat) (ao2 : Option Addr) (m2 c2 : Nat) (X X2 : List Stq) (w : World) (hS : Scq w w.heap.size ao m c X) (hS2 : Scq w w.heap.size ao2 m2 c2 X2) (hm : m ≤ 1048576) (hm2 : m2 ≤ 1048576) (hkn : ∀ W, Calls Try.prog 10 #[] W fun e w' => e = .returned (.bool true) ∧ Kept [] W w') : Calls Try.prog 4 #[aggV [.int .i64 n0, .int .i64 n1], .slice ao m c, .slice ao2 m2 c2] w fun e w' => e = .returned (.bool true) ∧ Kept [] w w' := by
  have HS := hide hS
  have HS2 := hide hS2
  have PK := hide hkn
  clear hS hS2 hkn
  go_enter Try.func4, Try.ntmps4
  go_wp2_with (
    first
    | (refine wpBoxV (by rfl) (.tmp 0) (by rfl) [.int .i64 n0, .int .i64 n1] (by kernel_rfl) ?_
       intro V1 b3 e3 B3 K3
       have HB3 := hide B3
       have HK := hide K3
       have q0 := fits_cell B3 0 _ rfl
       have q1 := fits_cell B3 1 _ rfl
       clear e3 B3 K3
       refine Stp.go ?_))
  constructor
  go_wp2_with (
    first
    | (go_at_call 11
       refine (much11 w.heap.size ao m c X _ ((unhide HS).kept (unhide HK) (by simp)) (by omega)).mono ?_
       rintro e V3 ⟨rm3, rfl, hw9⟩
       obtain rfl := hw9.symm
       clear hw9
       refine Stp.go ?_))
  constructor
  cases rm3 with
  | true =>
    go_wp2_with (
      first
      | (go_at_call 10
         refine (unhide PK _).mono ?_
         rintro e V9 ⟨rfl, hk⟩
         replace HK := hide ((unhide HK).trans hk)
         clear hk q0 q1))
    go_ret
    exact ⟨rfl, unhide HK⟩
  | false =>
    go_wp2_with (
      first
      | (go_at_call 11
         refine (much11 w.heap.size ao2 m2 c2 X2 _ ((unhide HS2).kept (unhide HK) (by simp)) (by omega)).mono ?_
         rintro e V4 ⟨rm4, rfl, hw9⟩
         obtain rfl := hw9.symm
         clear hw9
         refine Stp.go ?_))
    constructor
    cases rm4 with
    | true =>
      go_wp2_with (
        first
        | (go_at_call 10
           refine (unhide PK _).mono ?_
           rintro e V9 ⟨rfl, hk⟩
           replace HK := hide ((unhide HK).trans hk)
           clear hk q0 q1))
      go_ret
      exact ⟨rfl, unhide HK⟩
    | false =>
      go_wp2_with (
        first
        | (go_at_call 7
           refine (p7 n0 _).mono ?_
           clear q0 q1
           rintro e V5 ⟨xv1, ce1, rfl, hx, hk⟩
           have HN1 := hide hx
           have HK1 := hide hk
           replace HB3 := hide ((unhide HB3).kept hk (by simp))
           have q0 := fits_cell (unhide HB3) 0 _ rfl
           have q1 := fits_cell (unhide HB3) 1 _ rfl
           clear hx hk
           refine Stp.go ?_))
      constructor
      go_wp2_with (
        first
        | (go_at_call 7
           refine (p7 n1 _).mono ?_
           clear q0 q1
           rintro e V6 ⟨xv2, ce2, rfl, hx, hk⟩
           have HN2 := hide hx
           have HK2 := hide hk
           replace HB3 := hide ((unhide HB3).kept hk (by simp))
           have q0 := fits_cell (unhide HB3) 0 _ rfl
           have q1 := fits_cell (unhide HB3) 1 _ rfl
           clear hx hk
           refine Stp.go ?_))
      constructor
      clear q0 q1
      go_wp2_with fail
      refine wp_region_any mixed (wpAny_gx 8 rfl (by kernel_rfl) [some (.pointer (some ⟨b3, 0, none⟩)), some (.int .i64 n0), none, some (.pointer (some ⟨b3, 1, none⟩)), some (.int .i64 n1), none, none, none] rfl (by kernel_rfl) (fun l vs W => (S5n V6 n0 n1) (fun i => l.getD i false) vs W) (⟨⟨rfl, rfl, rfl, Nat.le_refl _, fun _ _ _ => rfl⟩, (fun h => by cases h), (fun h => by cases h), (fun h => by cases h), fun h => by cases h⟩) ?_ ?_)
      · intro ix o' hi ho a' w2 l vs hls hlf hJ hout hin hdep hnot
        match ix, ho with
        | 0, ho =>
          obtain rfl := Option.some.inj ho
          have e0 := hout 3 (by kernel_rfl)
          replace e0 : a'.eval (.tmp 3) = _ := e0.trans rfl
          exact o_idx39 (.tmp 3) 0 (by decide) rfl b3 e0 ⟨_, rfl, told_of rfl, keepG (St := (S5n V6 n0 n1)) [2, 5, 6, 7] S5n.loc (by omega) (by decide) hJ⟩
        | 1, ho =>
          obtain rfl := Option.some.inj ho
          have e0 : a'.eval (.tmp 35) = .pointer (some ⟨b3, 0, none⟩) := by have h9 := hin 0 35 (by kernel_rfl) (by kernel_rfl); exact h9.1.trans (told_is _ h9.2 rfl)
          exact o_load3 (.tmp 35) rfl _ _ e0 (fits_cell ((unhide HB3).kept hJ.1 (by simp)) 0 _ rfl) ⟨_, rfl, told_of rfl, keepG (St := (S5n V6 n0 n1)) [2, 5, 6, 7] S5n.loc (by omega) (by decide) hJ⟩
        | 2, ho =>
          obtain rfl := Option.some.inj ho
          have e0 : a'.eval (.tmp 36) = .int .i64 n0 := by have h9 := hin 1 36 (by kernel_rfl) (by kernel_rfl); exact h9.1.trans (told_is _ h9.2 rfl)
          refine wp_callF 8 _ _ rfl #[.int .i64 n0] (by simp [e0]) (cg8 _ _) ((p8 n0 w2).mono ?_)
          rintro e w3 ⟨pv, rfl, hp, hk3⟩
          have hs := hJ.1.size
          exact ⟨_, rfl, _, rfl, told_no rfl, nextG (St := (S5n V6 n0 n1)) (by omega) ⟨hJ.1.trans hk3, fun _ => hp.old hs, (fun h => by have h9 : l.getD 5 false = true := h; rw [hnot 5 (by kernel_rfl)] at h9; cases h9), (fun h => by have h9 : l.getD 6 false = true := h; rw [hnot 6 (by kernel_rfl)] at h9; cases h9), fun h => by have h9 : l.getD 7 false = true := h; rw [hnot 7 (by kernel_rfl)] at h9; cases h9⟩⟩
        | 3, ho =>
          obtain rfl := Option.some.inj ho
          have e0 := hout 3 (by kernel_rfl)
          replace e0 : a'.eval (.tmp 3) = _ := e0.trans rfl
          exact o_idx39 (.tmp 3) 1 (by decide) rfl b3 e0 ⟨_, rfl, told_of rfl, keepG (St := (S5n V6 n0 n1)) [2, 5, 6, 7] S5n.loc (by omega) (by decide) hJ⟩
        | 4, ho =>
          obtain rfl := Option.some.inj ho
          have e0 : a'.eval (.tmp 38) = .pointer (some ⟨b3, 1, none⟩) := by have h9 := hin 3 38 (by kernel_rfl) (by kernel_rfl); exact h9.1.trans (told_is _ h9.2 rfl)
          exact o_load3 (.tmp 38) rfl _ _ e0 (fits_cell ((unhide HB3).kept hJ.1 (by simp)) 1 _ rfl) ⟨_, rfl, told_of rfl, keepG (St := (S5n V6 n0 n1)) [2, 5, 6, 7] S5n.loc (by omega) (by decide) hJ⟩
        | 5, ho =>
          obtain rfl := Option.some.inj ho
          have e0 : a'.eval (.tmp 39) = .int .i64 n1 := by have h9 := hin 4 39 (by kernel_rfl) (by kernel_rfl); exact h9.1.trans (told_is _ h9.2 rfl)
          refine wp_callF 8 _ _ rfl #[.int .i64 n1] (by simp [e0]) (cg8 _ _) ((p8 n1 w2).mono ?_)
          rintro e w3 ⟨pv, rfl, hp, hk3⟩
          have hs := hJ.1.size
          have h2 := hJ.2.1 (hdep 2 (by kernel_rfl))
          exact ⟨_, rfl, _, rfl, told_no rfl, nextG (St := (S5n V6 n0 n1)) (by omega) ⟨hJ.1.trans hk3, fun _ => h2.kept hk3, fun _ => ⟨hdep 2 (by kernel_rfl), hp.old hs, new_apart h2 hp⟩, hJ.2.2.2.1, fun h => by have h9 : l.getD 7 false = true := h; rw [hnot 7 (by kernel_rfl)] at h9; cases h9⟩⟩
        | 6, ho =>
          obtain rfl := Option.some.inj ho
          have e0 : a'.eval (.tmp 37) = vs 2 := (hin 2 37 (by kernel_rfl) (by kernel_rfl)).1
          exact wp_assignV (.tmp 37) rfl _ e0 ⟨_, rfl, told_no rfl, nextG (St := (S5n V6 n0 n1)) (by omega) ⟨hJ.1, hJ.2.1, hJ.2.2.1, fun _ => ⟨hdep 2 (by kernel_rfl), rfl⟩, hJ.2.2.2.2⟩⟩
        | 7, ho =>
          obtain rfl := Option.some.inj ho
          have e0 : a'.eval (.tmp 40) = vs 5 := (hin 5 40 (by kernel_rfl) (by kernel_rfl)).1
          exact wp_assignV (.tmp 40) rfl _ e0 ⟨_, rfl, told_no rfl, nextG (St := (S5n V6 n0 n1)) (by omega) ⟨hJ.1, hJ.2.1, hJ.2.2.1, hJ.2.2.2.1, fun _ => ⟨hdep 5 (by kernel_rfl), rfl⟩⟩⟩
      intro l vs w9 hl hJ htold
      have t0 : vs 0 = .pointer (some ⟨b3, 0, none⟩) := told_is _ (htold 0 (by decide)) rfl
      have t1 : vs 1 = .int .i64 n0 := told_is _ (htold 1 (by decide)) rfl
      have t3 : vs 3 = .pointer (some ⟨b3, 1, none⟩) := told_is _ (htold 3 (by decide)) rfl
      have t4 : vs 4 = .int .i64 n1 := told_is _ (htold 4 (by decide)) rfl
      rw [show (List.range 8).map vs = [vs 0, vs 1, vs 2, vs 3, vs 4, vs 5, vs 6, vs 7] from rfl]
      simp only [t0, t1, t3, t4, putAll, Act.put, List.setIfInBounds_toArray, List.set_cons_succ, List.set_cons_zero]
      clear t0 t1 t3 t4 htold
      obtain ⟨hk9, h2, h5, h6, h7⟩ := hJ
      replace h2 := h2 (hl 2 (by decide))
      replace h5 := (h5 (hl 5 (by decide))).2
      replace h6 := (h6 (hl 6 (by decide))).2
      replace h7 := (h7 (hl 7 (by decide))).2
      rw [h6, h7]
      obtain ⟨Pa, Pb, Xa, Ya, hDU⟩ := Duo.new (unhide HK) (unhide HN1) (unhide HK1) (unhide HN2) (unhide HK2) h2 h5.1 hk9 h5.2
      have DU := hide hDU
      generalize vs 2 = pv at DU ⊢
      generalize vs 5 = qv at DU ⊢
      clear hDU hk9 h2 h5 h6 h7 hl HN1 HN2 HK1 HK2 HB3
      clear HK
      go_upto_block 0 with fail
      go_cut [7, 11, 13, 14] from 41 to 68 (fun xv pv ok i wc => ∃ xa pa P Z, xa = xv ∧ pa = pv ∧ ok = .bool true ∧ Hid (Duo w wc 40 0 xa pa xv2 qv P Pb Z Ya))
      case first =>
        go_wp2_with fail
        go_loopw [7, 11, 13, 14] (fun xv pv ok i wr => ∃ (k : Nat) (P : Option Pn) (Z : List Nat), k ≤ m ∧ k ≤ 40 ∧ ok = .bool true ∧ i = .int .i64 k ∧ Hid (Duo w wr k 0 xv pv xv2 qv P Pb Z Ya)) (fun _ _ _ i _ => 40 - (intOf i).toNat)
        case atStart => exact ⟨0, _, _, by omega, by omega, rfl, rfl, DU⟩
        case round =>
          clear DU
          obtain ⟨k, P, Z, hk, hk4, rfl, rfl, DU⟩ := hrel
          by_cases hlt : k < m
          · by_cases h40 : k < 40
            · obtain ⟨x, hx⟩ : ∃ x, X[k]? = some x := ⟨_, List.getElem?_eq_getElem (by rw [(unhide HS).len]; exact hlt)⟩
              have hS3 := (unhide HS).kept (unhide DU).k (by simp)
              obtain ⟨h, off, rfl, hg, hl⟩ := hS3.lies (by intro e; rw [e] at hx; simp at hx)
              have HR := hide (hl k x hx)
              have HX := hide (hS3.ok x (List.mem_of_getElem? hx))
              have hltI : (k : Int) < m := by omega
              have h40I : (k : Int) < 40 := by omega
              clear hl hS3 hg hx
              obtain ⟨du1, du2, du3, du4⟩ := unhide DU
              have HU := hide (And.intro du2 (And.intro du3 du4))
              clear du2 du3 du4
              cases du1 with
              | no =>
                go_wp2_with fail
                go_meet
                case rel => exact ⟨_, _, _, _, rfl, rfl, rfl, hide ⟨(unhide DU).one.grow (by omega), (unhide DU).two, (unhide DU).dis, (unhide DU).k⟩⟩
              | yes b mb v N r lv R hp hl hb =>
                have HP := hide hp
                have HL := hide hl
                have HBB := hide hb
                have P12 := hide (do12 x b mb v N r lv R wr hp (by omega) w.heap.size (unhide HX) (unhide HU).2.2.size hb)
                clear hp hl hb HX DU
                go_wp2_with (
                  first
                  | (refine wpLoadA row36 (by rfl) (.tmp 63) (by rfl) h (off + k * 5) (by kernel_rfl) x.C rfl (unhide HR) ?_
                     refine Stp.go ?_))
                constructor
                go_wp2_with fail
                refine (unhide P12).mono ?_
                rintro e V5 ⟨b', mb', v', N', lv', R', rfl, hD⟩
                have DU2 := hide (Duo.do (unhide HP) (unhide HL) (unhide HBB) (unhide HU).1 (unhide HU).2.1 (unhide HU).2.2 hD)
                clear hD P12 HR HP HL HBB HU
                go_wp2_with fail
                go_roundw
                case rel => exact ⟨k + 1, _, _, by omega, by omega, rfl, by go_num, DU2⟩
                case measure => simp [intOf]; omega
            · have h40I : ¬ (k : Int) < 40 := by omega
              go_wp2_with fail
              go_meet
              case rel => exact ⟨_, _, _, _, rfl, rfl, rfl, hide ⟨(unhide DU).one.grow (by omega), (unhide DU).two, (unhide DU).dis, (unhide DU).k⟩⟩
          · have hltI : ¬ (k : Int) < m := by omega
            go_wp2_with fail
            go_meet
            case rel => exact ⟨_, _, _, _, rfl, rfl, rfl, hide ⟨(unhide DU).one.grow (by omega), (unhide DU).two, (unhide DU).dis, (unhide DU).k⟩⟩
        
      case rest =>
        obtain ⟨xa, pa, P1, Z1, rfl, rfl, rfl, DU1⟩ := hcut
        clear DU
        have DU := hide (unhide DU1).symm
        clear DU1
        go_upto_block 2 with fail
        go_cut [9, 12, 13, 15] from 69 to 96 (fun yv qv ok i wc => ∃ ya qa P Z, ya = yv ∧ qa = qv ∧ ok = .bool true ∧ Hid (Duo w wc 40 40 ya qa xa pa P P1 Z Z1))
        case first =>
          go_wp2_with fail
          go_loopw [9, 12, 13, 15] (fun yv qv ok i wr => ∃ (k : Nat) (P : Option Pn) (Z : List Nat), k ≤ m2 ∧ k ≤ 40 ∧ ok = .bool true ∧ i = .int .i64 k ∧ Hid (Duo w wr k 40 yv qv xa pa P P1 Z Z1)) (fun _ _ _ i _ => 40 - (intOf i).toNat)
          case atStart => exact ⟨0, _, _, by omega, by omega, rfl, rfl, DU⟩
          case round =>
            clear DU
            obtain ⟨k, P, Z, hk, hk4, rfl, rfl, DU⟩ := hrel
            by_cases hlt : k < m2
            · by_cases h40 : k < 40
              · obtain ⟨x, hx⟩ : ∃ x, X2[k]? = some x := ⟨_, List.getElem?_eq_getElem (by rw [(unhide HS2).len]; exact hlt)⟩
                have hS3 := (unhide HS2).kept (unhide DU).k (by simp)
                obtain ⟨h, off, rfl, hg, hl⟩ := hS3.lies (by intro e; rw [e] at hx; simp at hx)
                have HR := hide (hl k x hx)
                have HX := hide (hS3.ok x (List.mem_of_getElem? hx))
                have hltI : (k : Int) < m2 := by omega
                have h40I : (k : Int) < 40 := by omega
                clear hl hS3 hg hx
                obtain ⟨du1, du2, du3, du4⟩ := unhide DU
                have HU := hide (And.intro du2 (And.intro du3 du4))
                clear du2 du3 du4
                cases du1 with
                | no =>
                  go_wp2_with fail
                  go_meet
                  case rel => exact ⟨_, _, _, _, rfl, rfl, rfl, hide ⟨(unhide DU).one.grow (by omega), (unhide DU).two, (unhide DU).dis, (unhide DU).k⟩⟩
                | yes b mb v N r lv R hp hl hb =>
                  have HP := hide hp
                  have HL := hide hl
                  have HBB := hide hb
                  have P12 := hide (do12 x b mb v N r lv R wr hp (by omega) w.heap.size (unhide HX) (unhide HU).2.2.size hb)
                  clear hp hl hb HX DU
                  go_wp2_with (
                    first
                    | (refine wpLoadA row36 (by rfl) (.tmp 91) (by rfl) h (off + k * 5) (by kernel_rfl) x.C rfl (unhide HR) ?_
                       refine Stp.go ?_))
                  constructor
                  go_wp2_with fail
                  refine (unhide P12).mono ?_
                  rintro e V5 ⟨b', mb', v', N', lv', R', rfl, hD⟩
                  have DU2 := hide (Duo.do (unhide HP) (unhide HL) (unhide HBB) (unhide HU).1 (unhide HU).2.1 (unhide HU).2.2 hD)
                  clear hD P12 HR HP HL HBB HU
                  go_wp2_with fail
                  go_roundw
                  case rel => exact ⟨k + 1, _, _, by omega, by omega, rfl, by go_num, DU2⟩
                  case measure => simp [intOf]; omega
              · have h40I : ¬ (k : Int) < 40 := by omega
                go_wp2_with fail
                go_meet
                case rel => exact ⟨_, _, _, _, rfl, rfl, rfl, hide ⟨(unhide DU).one.grow (by omega), (unhide DU).two, (unhide DU).dis, (unhide DU).k⟩⟩
            · have hltI : ¬ (k : Int) < m2 := by omega
              go_wp2_with fail
              go_meet
              case rel => exact ⟨_, _, _, _, rfl, rfl, rfl, hide ⟨(unhide DU).one.grow (by omega), (unhide DU).two, (unhide DU).dis, (unhide DU).k⟩⟩
          
        case rest =>
          obtain ⟨ya, qa, P2, Z2, rfl, rfl, rfl, DU2⟩ := hcut
          clear DU
          have DU := hide (unhide DU2).symm
          clear DU2
          go_wp2_with (
            first
            | (go_at_call 14
               refine ((unhide DU).c14).mono ?_
               rintro e V7 ⟨rfl, hk⟩
               replace DU := hide ((unhide DU).step hk)
               clear hk
               refine Stp.go ?_))
          constructor
          go_wp2_with (
            first
            | (go_at_call 15
               refine ((unhide DU).c15).mono ?_
               rintro e V8 ⟨rfl, hk⟩
               replace DU := hide ((unhide DU).step hk)
               clear hk
               refine Stp.go ?_))
          constructor
          go_wp2_with (
            first
            | (go_at_call 14
               refine ((unhide DU).c14s).mono ?_
               rintro e V10 ⟨rfl, hk⟩
               replace DU := hide ((unhide DU).step hk)
               clear hk
               refine Stp.go ?_))
          constructor
          go_wp2_with (
            first
            | (go_at_call 10
               refine (unhide PK _).mono ?_
               rintro e V9 ⟨rfl, hk⟩
               replace DU := hide ((unhide DU).step hk)
               clear hk))
          go_ret
          exact ⟨rfl, (unhide DU).k⟩
      
      

end Go.Proofs.Ytpcggcicpojdoaa
