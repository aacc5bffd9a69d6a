/-
  The walk of AreaWhere, of a job that may be.
-/
import Derived.Test.YtcfoebpbbmnleaaWherea
namespace Go.Proofs.Ytcfoebpbbmnleaa
open Go.RowKit

set_option maxHeartbeats 20000000 in
set_option maxRecDepth 100000 in
theorem where3_yes (j : Job) (hm : j.may = true) (l : List Ask) (hI : ∀ x ∈ l, I64 x.s) (hl : l.length ≤ 140737488355328) (la : Option Addr) (lc : Nat) (w : World) (hA : AskS w la l) : Calls Try.prog 3 #[aggV (jobC j), .slice la l.length lc] w fun e w' => e = .returned (.bool true) ∧ Kept [] w w' := by
  have HA := hide hA
  clear hA
  have hNl := Job.N_le j
  have p0 := hide known14
  have p1 := hide (sectors8 j)
  have p2 := hide (view9 j)
  have p3 := hide (may10 j)
  have hN := Job.N_yes hm
  have s1 : j.sectors = ((j.N : Int), 0) := by rw [hN]; simp [Job.sectors, hm]
  have s2 : j.view = (0, 0) := by simp [Job.view, hm]
  clear hN
  rw [s1] at p1
  rw [s2] at p2
  rw [hm] at p3
  clear s1 s2 hm
  go_enter Try.func3, Try.ntmps3
  go_wp2_with (
    first
    | (refine wpBoxV rfl (.tmp 0) rfl (jobC j) rfl ?_
       intro W1 b1 e1 B1 K1
       have BB := hide B1
       have KK := hide K1
       clear e1 B1 K1)
    | (refine wpLoadA row23 rfl (.tmp 2) rfl b1 0 (by kernel_rfl) (jobC j) rfl (unhide BB).range ?_)
    | (go_at_call 7; refine (list7 j _).mono ?_; rintro e W3 ⟨v, rfl, hO, K3⟩
       obtain ⟨ao, c, rfl, hlst⟩ := own_lst hO
       have HL := hide hlst
       replace BB := hide ((unhide BB).kept K3 (by simp))
       replace KK := hide ((unhide KK).trans K3)
       clear K3 hO hlst)
    | (go_at_call 8; refine (unhide p1 _).mono ?_; clear p1; rintro e W' ⟨rfl, K'⟩
       replace BB := hide ((unhide BB).kept K' (by simp))
       replace HL := hide ((unhide HL).kept K')
       replace KK := hide ((unhide KK).trans K')
       clear K')
    | (go_at_call 9; refine (unhide p2 _).mono ?_; clear p2; rintro e W' ⟨rfl, K'⟩
       replace BB := hide ((unhide BB).kept K' (by simp))
       replace HL := hide ((unhide HL).kept K')
       replace KK := hide ((unhide KK).trans K')
       clear K')
    | (go_at_call 10; refine (unhide p3 _).mono ?_; clear p3; rintro e W' ⟨rfl, K'⟩
       replace BB := hide ((unhide BB).kept K' (by simp))
       replace HL := hide ((unhide HL).kept K')
       replace KK := hide ((unhide KK).trans K')
       clear K')
    | (go_at_call 11; refine (num11 _ _).mono ?_; rintro e W' ⟨rfl, rfl⟩))
  go_loopw [10] (fun i wr => ∃ k : Nat, k ≤ l.length ∧ k ≤ 40 ∧ i = .int .i64 k ∧ Hid (Kept [] W' wr)) (fun i _ => 40 - (intOf i).toNat)
  case atStart => exact ⟨0, by omega, by omega, rfl, Kept.refl _ _⟩
  case round =>
    obtain ⟨k, hk, hk40, rfl, hkp⟩ := hrel
    replace BB := hide ((unhide BB).kept (unhide hkp) (by simp))
    replace HL := hide ((unhide HL).kept (unhide hkp))
    replace KK := hide ((unhide KK).trans (unhide hkp))
    by_cases hlt : k < l.length
    rotate_left
    · go_wp2_with (
        first
        | (go_at_call 14; refine (unhide p0 _).mono ?_; clear p0; rintro e W' ⟨rfl, K'⟩
           replace BB := hide ((unhide BB).kept K' (by simp))
           replace HL := hide ((unhide HL).kept K')
           replace KK := hide ((unhide KK).trans K')
           clear K'))
      go_ret
      exact ⟨rfl, unhide KK⟩
    by_cases hlt2 : k < 40
    rotate_left
    · go_wp2_with (
        first
        | (go_at_call 14; refine (unhide p0 _).mono ?_; clear p0; rintro e W' ⟨rfl, K'⟩
           replace BB := hide ((unhide BB).kept K' (by simp))
           replace HL := hide ((unhide HL).kept K')
           replace KK := hide ((unhide KK).trans K')
           clear K'))
      go_ret
      exact ⟨rfl, unhide KK⟩
    obtain ⟨x, hx⟩ : ∃ x, l[k]? = some x := ⟨_, List.getElem?_eq_getElem hlt⟩
    have hxs := hI x (List.mem_of_getElem? hx)
    obtain ⟨lb, lo, hao, hxr⟩ := ((unhide HA).kept (unhide KK)) k x hx
    subst hao
    have HX := hide hxr
    have r1 := hide (where12 j x.n x.p x.s x.l)
    have r2 := hide (of13 j x.s hxs)
    clear hx hxr
    by_cases hout : x.s < 0 ∨ (j.N : Int) ≤ x.s
    · have ho := of_out x.s hout
      rw [ho] at r2
      clear ho
      by_cases h0 : x.s < 0
      · go_wp2_with (
          first
          | (refine wpLoadA row23 rfl (.tmp 2) rfl b1 0 (by kernel_rfl) (jobC j) rfl (unhide BB).range ?_)
          | (refine wpLoadA row33 rfl (.tmp 73) rfl lb (lo + k * 4) (by kernel_rfl) (fourC x.n x.p x.s x.l) rfl (unhide HX) ?_)
          | (refine wpNew row33 (fourC 0 0 0 0) rfl zero33 11 rfl rfl rfl (.tmp 74) rfl rfl rfl (fourC x.n x.p x.s x.l) rfl (fourC_one _ _ _ _) (by kernel_rfl) (by kernel_rfl) ?_
             intro W5 b3 e3 B3 K3
             have B3' := hide B3
             have BB2 := hide ((unhide BB).kept K3 (by simp))
             have HL2 := hide ((unhide HL).kept K3)
             have HKP := hide ((unhide hkp).trans K3)
             clear e3 B3 K3 BB HL HX)
          | (refine wpLoadA row23 rfl (.tmp 2) rfl b1 0 (by kernel_rfl) (jobC j) rfl (unhide BB2).range ?_)
          | (refine wpLoadA row33 rfl (.tmp 11) rfl b3 0 (by kernel_rfl) (fourC x.n x.p x.s x.l) rfl (unhide B3').range ?_)
          | (go_at_call 12; refine (unhide r1 _).mono ?_; clear r1; rintro e W' ⟨rfl, K'⟩
             replace B3' := hide ((unhide B3').kept K' (by simp))
             replace BB2 := hide ((unhide BB2).kept K' (by simp))
             replace HL2 := hide ((unhide HL2).kept K')
             replace HKP := hide ((unhide HKP).trans K')
             obtain ⟨x0, x1, x2, x3⟩ := four_cells (unhide B3')
             clear K')
          | (go_at_call 13; refine (unhide r2 _).mono ?_; clear r2; rintro e W' ⟨rfl, K'⟩
             clear x0 x1 x2 x3
             replace B3' := hide ((unhide B3').kept K' (by simp))
             replace BB2 := hide ((unhide BB2).kept K' (by simp))
             replace HL2 := hide ((unhide HL2).kept K')
             replace HKP := hide ((unhide HKP).trans K')
             clear K')
          | (refine wpNew row37 (fourC 0 0 0 0) rfl zero37 12 rfl rfl rfl (.tmp 84) rfl rfl rfl (fourC 0 0 0 0) rfl (fourC_one _ _ _ _) (by kernel_rfl) (by kernel_rfl) ?_
             intro W6 b4 e4 B4 K4
             have B4' := hide B4
             replace B3' := hide ((unhide B3').kept K4 (by simp))
             replace BB2 := hide ((unhide BB2).kept K4 (by simp))
             replace HL2 := hide ((unhide HL2).kept K4)
             replace HKP := hide ((unhide HKP).trans K4)
             obtain ⟨x0, x1, x2, x3⟩ := four_cells (unhide B3')
             clear e4 B4 K4)
          | (refine wpLoadA row37 rfl (.tmp 12) rfl b4 0 (by kernel_rfl) (fourC 0 0 0 0) rfl (unhide B4').range ?_)
          | (refine wpBuildZ (fourC 0 0 0 0) build37 rfl rfl ?_)
          | (refine wpNeqA 37 37 guard37 (.tmp 96) (.tmp 97) rfl rfl (fourC 0 0 0 0) (fourC 0 0 0 0) (by kernel_rfl) (by kernel_rfl) true (pl_zero _) ?_)
          | (go_at_call 11; refine (num11 _ _).mono ?_; rintro e W' ⟨rfl, rfl⟩))
        go_roundw
        case rel => exact ⟨k + 1, by omega, by omega, by go_num, HKP⟩
        case measure => simp [intOf]; omega
      · have h1 : (j.N : Int) ≤ x.s := by omega
        go_wp2_with (
          first
          | (refine wpLoadA row23 rfl (.tmp 2) rfl b1 0 (by kernel_rfl) (jobC j) rfl (unhide BB).range ?_)
          | (refine wpLoadA row33 rfl (.tmp 73) rfl lb (lo + k * 4) (by kernel_rfl) (fourC x.n x.p x.s x.l) rfl (unhide HX) ?_)
          | (refine wpNew row33 (fourC 0 0 0 0) rfl zero33 11 rfl rfl rfl (.tmp 74) rfl rfl rfl (fourC x.n x.p x.s x.l) rfl (fourC_one _ _ _ _) (by kernel_rfl) (by kernel_rfl) ?_
             intro W5 b3 e3 B3 K3
             have B3' := hide B3
             have BB2 := hide ((unhide BB).kept K3 (by simp))
             have HL2 := hide ((unhide HL).kept K3)
             have HKP := hide ((unhide hkp).trans K3)
             clear e3 B3 K3 BB HL HX)
          | (refine wpLoadA row23 rfl (.tmp 2) rfl b1 0 (by kernel_rfl) (jobC j) rfl (unhide BB2).range ?_)
          | (refine wpLoadA row33 rfl (.tmp 11) rfl b3 0 (by kernel_rfl) (fourC x.n x.p x.s x.l) rfl (unhide B3').range ?_)
          | (go_at_call 12; refine (unhide r1 _).mono ?_; clear r1; rintro e W' ⟨rfl, K'⟩
             replace B3' := hide ((unhide B3').kept K' (by simp))
             replace BB2 := hide ((unhide BB2).kept K' (by simp))
             replace HL2 := hide ((unhide HL2).kept K')
             replace HKP := hide ((unhide HKP).trans K')
             obtain ⟨x0, x1, x2, x3⟩ := four_cells (unhide B3')
             clear K')
          | (go_at_call 13; refine (unhide r2 _).mono ?_; clear r2; rintro e W' ⟨rfl, K'⟩
             clear x0 x1 x2 x3
             replace B3' := hide ((unhide B3').kept K' (by simp))
             replace BB2 := hide ((unhide BB2).kept K' (by simp))
             replace HL2 := hide ((unhide HL2).kept K')
             replace HKP := hide ((unhide HKP).trans K')
             clear K')
          | (refine wpNew row37 (fourC 0 0 0 0) rfl zero37 12 rfl rfl rfl (.tmp 84) rfl rfl rfl (fourC 0 0 0 0) rfl (fourC_one _ _ _ _) (by kernel_rfl) (by kernel_rfl) ?_
             intro W6 b4 e4 B4 K4
             have B4' := hide B4
             replace B3' := hide ((unhide B3').kept K4 (by simp))
             replace BB2 := hide ((unhide BB2).kept K4 (by simp))
             replace HL2 := hide ((unhide HL2).kept K4)
             replace HKP := hide ((unhide HKP).trans K4)
             obtain ⟨x0, x1, x2, x3⟩ := four_cells (unhide B3')
             clear e4 B4 K4)
          | (refine wpLoadA row37 rfl (.tmp 12) rfl b4 0 (by kernel_rfl) (fourC 0 0 0 0) rfl (unhide B4').range ?_)
          | (refine wpBuildZ (fourC 0 0 0 0) build37 rfl rfl ?_)
          | (refine wpNeqA 37 37 guard37 (.tmp 96) (.tmp 97) rfl rfl (fourC 0 0 0 0) (fourC 0 0 0 0) (by kernel_rfl) (by kernel_rfl) true (pl_zero _) ?_)
          | (go_at_call 11; refine (num11 _ _).mono ?_; rintro e W' ⟨rfl, rfl⟩))
        go_roundw
        case rel => exact ⟨k + 1, by omega, by omega, by go_num, HKP⟩
        case measure => simp [intOf]; omega
    · obtain ⟨s, hs⟩ : ∃ s : Nat, x.s = s := ⟨x.s.toNat, by omega⟩
      have hsN : s < j.N := by omega
      have h0 : ¬ ((s : Int) < 0) := by omega
      have h1 : ¬ ((j.N : Int) ≤ s) := by omega
      rw [hs, of_in s hsN] at r2
      rw [hs] at r1
      have hxc : askC x = fourC x.n x.p s x.l := by rw [askC, hs]
      rw [hxc] at HX
      clear hs hxc hout
      generalize x.n = xn at *
      generalize x.p = xp at *
      generalize x.l = xl at *
      obtain ⟨g, hao2, hrg⟩ := unhide HL s hsN
      subst hao2
      go_wp2_with (
        first
        | (refine wpLoadA row23 rfl (.tmp 2) rfl b1 0 (by kernel_rfl) (jobC j) rfl (unhide BB).range ?_)
        | (refine wpLoadA row33 rfl (.tmp 73) rfl lb (lo + k * 4) (by kernel_rfl) (fourC xn xp s xl) rfl (unhide HX) ?_)
        | (refine wpNew row33 (fourC 0 0 0 0) rfl zero33 11 rfl rfl rfl (.tmp 74) rfl rfl rfl (fourC xn xp s xl) rfl (fourC_one _ _ _ _) (by kernel_rfl) (by kernel_rfl) ?_
           intro W5 b3 e3 B3 K3
           have B3' := hide B3
           have BB2 := hide ((unhide BB).kept K3 (by simp))
           have HL2 := hide ((unhide HL).kept K3)
           have HKP := hide ((unhide hkp).trans K3)
           clear e3 B3 K3 BB HL HX)
        | (refine wpLoadA row23 rfl (.tmp 2) rfl b1 0 (by kernel_rfl) (jobC j) rfl (unhide BB2).range ?_)
        | (refine wpLoadA row33 rfl (.tmp 11) rfl b3 0 (by kernel_rfl) (fourC xn xp s xl) rfl (unhide B3').range ?_)
        | (go_at_call 12; refine (unhide r1 _).mono ?_; clear r1; rintro e W' ⟨rfl, K'⟩
           replace B3' := hide ((unhide B3').kept K' (by simp))
           replace BB2 := hide ((unhide BB2).kept K' (by simp))
           replace HL2 := hide ((unhide HL2).kept K')
           replace HKP := hide ((unhide HKP).trans K')
           obtain ⟨x0, x1, x2, x3⟩ := four_cells (unhide B3')
           clear K')
        | (go_at_call 13; refine (unhide r2 _).mono ?_; clear r2; rintro e W' ⟨rfl, K'⟩
           clear x0 x1 x2 x3
           replace B3' := hide ((unhide B3').kept K' (by simp))
           replace BB2 := hide ((unhide BB2).kept K' (by simp))
           replace HL2 := hide ((unhide HL2).kept K')
           replace HKP := hide ((unhide HKP).trans K')
           clear K')
        | (refine wpNew row37 (fourC 0 0 0 0) rfl zero37 12 rfl rfl rfl (.tmp 84) rfl rfl rfl (j.pl s).C rfl (fourC_one _ _ _ _) (by kernel_rfl) (by kernel_rfl) ?_
           intro W6 b4 e4 B4 K4
           have B4' := hide B4
           replace B3' := hide ((unhide B3').kept K4 (by simp))
           replace BB2 := hide ((unhide BB2).kept K4 (by simp))
           replace HL2 := hide ((unhide HL2).kept K4)
           replace HKP := hide ((unhide HKP).trans K4)
           obtain ⟨x0, x1, x2, x3⟩ := four_cells (unhide B3')
           clear e4 B4 K4))
      refine wp_region_prefG mixed 12 0 rfl (by kernel_rfl) (tab (List.map Fact.is [aggV (j.pl s).C, .slice (some ⟨g, 0, none⟩) j.N c, .pointer (some ⟨b3, 2, none⟩), .int .i64 s, .pointer (some ⟨g, s * 4, none⟩), aggV (j.pl s).C, .bool false, .bool false, .int .i64 0, .int .i64 0, .bool false, .bool false])) (apartE []) (fun j o i b _ ho hg => guards_spec (by kernel_rfl) j o i b ho hg) (tab_kept _) (by kernel_rfl) ?_ ?_
      · intro i o hi ho a' w2 hout hin hk2
        match i, ho with
        | 0, ho =>
          obtain rfl := Option.some.inj ho
          exact wp_loadA row37 (.tmp 12) rfl b4 0 ((hout 12 (by kernel_rfl)).trans rfl) (j.pl s).C rfl ((unhide B4').kept hk2 (by simp)).range ⟨_, rfl, tab_is _ _ _ _ rfl, Kept.refl _ _, fun i u _ _ _ => fun _ hj => absurd hj (by decide)⟩
        | 1, ho =>
          obtain rfl := Option.some.inj ho
          exact o_moveV (.tmp 5) _ rfl ((hout 5 (by kernel_rfl)).trans rfl) ⟨_, rfl, tab_is _ _ _ _ rfl, Kept.refl _ _, fun i u _ _ _ => fun _ hj => absurd hj (by decide)⟩
        | 2, ho =>
          obtain rfl := Option.some.inj ho
          exact o_field33 (.tmp 11) 2 (by decide) rfl b3 ((hout 11 (by kernel_rfl)).trans rfl) ⟨_, rfl, tab_is _ _ _ _ rfl, Kept.refl _ _, fun i u _ _ _ => fun _ hj => absurd hj (by decide)⟩
        | 3, ho =>
          obtain rfl := Option.some.inj ho
          have e0 : a'.eval (.tmp 106) = .pointer (some ⟨b3, 2, none⟩) := is_tab (hin 2 106 (by kernel_rfl) (by kernel_rfl)) rfl
          exact o_load3 (.tmp 106) rfl ⟨b3, 2, none⟩ _ e0 (fits_cell ((unhide B3').kept hk2 (by simp)) 2 _ rfl) ⟨_, rfl, tab_is _ _ _ _ rfl, Kept.refl _ _, fun i u _ _ _ => fun _ hj => absurd hj (by decide)⟩
        | 4, ho =>
          obtain rfl := Option.some.inj ho
          have e0 : a'.eval (.tmp 105) = .slice (some ⟨g, 0, none⟩) j.N c := is_tab (hin 1 105 (by kernel_rfl) (by kernel_rfl)) rfl
          have e1 : a'.eval (.tmp 107) = .int .i64 s := is_tab (hin 3 107 (by kernel_rfl) (by kernel_rfl)) rfl
          exact o_idx25 (.tmp 105) (.tmp 107) rfl g j.N c s hsN e0 e1 ⟨_, rfl, tab_is _ _ _ _ rfl, Kept.refl _ _, fun i u _ _ _ => fun _ hj => absurd hj (by decide)⟩
        | 5, ho =>
          obtain rfl := Option.some.inj ho
          have e0 : a'.eval (.tmp 108) = .pointer (some ⟨g, s * 4, none⟩) := is_tab (hin 4 108 (by kernel_rfl) (by kernel_rfl)) rfl
          obtain ⟨g', hg', hr'⟩ := ((unhide HL2).kept hk2) s hsN
          cases hg'
          exact wp_loadA row37 (.tmp 108) rfl g (s * 4) e0 (j.pl s).C rfl hr' ⟨_, rfl, tab_is _ _ _ _ rfl, Kept.refl _ _, fun i u _ _ _ => fun _ hj => absurd hj (by decide)⟩
        | 6, ho =>
          obtain rfl := Option.some.inj ho
          have e0 : a'.eval (.tmp 104) = aggV (j.pl s).C := is_tab (hin 0 104 (by kernel_rfl) (by kernel_rfl)) rfl
          have e1 : a'.eval (.tmp 109) = aggV (j.pl s).C := is_tab (hin 5 109 (by kernel_rfl) (by kernel_rfl)) rfl
          exact o_neq37 (.tmp 104) (.tmp 109) rfl (j.pl s) e0 e1 ⟨_, rfl, tab_is _ _ _ _ rfl, Kept.refl _ _, fun i u _ _ _ => fun _ hj => absurd hj (by decide)⟩
        | 7, ho =>
          obtain rfl := Option.some.inj ho
          have e0 : a'.eval (.tmp 110) = .bool false := is_tab (hin 6 110 (by kernel_rfl) (by kernel_rfl)) rfl
          exact o_moveV (.tmp 110) _ rfl e0 ⟨_, rfl, tab_is _ _ _ _ rfl, Kept.refl _ _, fun i u _ _ _ => fun _ hj => absurd hj (by decide)⟩
        | 8, ho =>
          obtain rfl := Option.some.inj ho
          exact o_moveV (.tmp 13) _ rfl ((hout 13 (by kernel_rfl)).trans rfl) ⟨_, rfl, tab_is _ _ _ _ rfl, Kept.refl _ _, fun i u _ _ _ => fun _ hj => absurd hj (by decide)⟩
        | 9, ho =>
          obtain rfl := Option.some.inj ho
          have e0 : a'.eval (.tmp 112) = .int .i64 0 := is_tab (hin 8 112 (by kernel_rfl) (by kernel_rfl)) rfl
          refine wp_callF 11 _ _ rfl #[.int .i64 0] (by simp [e0]) (cf11 _ _) ((num11 0 w2).mono ?_)
          rintro e w3 ⟨rfl, rfl⟩
          exact ⟨_, rfl, _, rfl, tab_is _ _ _ _ rfl, Kept.refl _ _, fun i u _ _ _ => fun _ hj => absurd hj (by decide)⟩
        | 10, ho =>
          obtain rfl := Option.some.inj ho
          have e0 : a'.eval (.tmp 113) = .int .i64 0 := is_tab (hin 9 113 (by kernel_rfl) (by kernel_rfl)) rfl
          exact o_neq3 (.tmp 113) (.const (.int .i64 0)) rfl _ e0 rfl ⟨_, rfl, tab_is _ _ _ _ rfl, Kept.refl _ _, fun i u _ _ _ => fun _ hj => absurd hj (by decide)⟩
        | 11, ho =>
          obtain rfl := Option.some.inj ho
          have e0 : a'.eval (.tmp 111) = .bool false := is_tab (hin 7 111 (by kernel_rfl) (by kernel_rfl)) rfl
          have e1 : a'.eval (.tmp 114) = .bool false := is_tab (hin 10 114 (by kernel_rfl) (by kernel_rfl)) rfl
          exact o_pickOr (.tmp 111) (.tmp 114) rfl false e0 e1 ⟨_, rfl, tab_is _ _ _ _ rfl, Kept.refl _ _, fun i u _ _ _ => fun _ hj => absurd hj (by decide)⟩
      · intro vs w3 hlen hF hE hk2
        obtain rfl := vs_is hF (by rw [hlen]; rfl)
        replace HKP := hide ((unhide HKP).trans hk2)
        clear hF hE hk2 HL2 B3' B4' BB2
        simp only [List.take_succ_cons, List.take_zero, putAll, Act.put, List.setIfInBounds_toArray, List.set_cons_succ, List.set_cons_zero]
        refine wpAny_done (by kernel_rfl) ?_ _
        go_wp2_with fail
        go_roundw
        case rel => exact ⟨k + 1, by omega, by omega, by go_num, HKP⟩
        case measure => simp [intOf]; omega

end Go.Proofs.Ytcfoebpbbmnleaa
