/-
  The walk of RecordRuns.
-/
import Derived.Test.YtkpkiibahfdomaaDoorRunsa
namespace Go.Proofs.YtkpkiibahfdomaaDoor
open Go.RowKit

set_option maxHeartbeats 1000000 in
theorem runs_long (start : Int) (l : List Rec) (hn : 100 < l.length) (hl2 : l.length ≤ 140737488355328) (ao : Option Addr) (c : Nat) (w : World) (hF : First w) : Calls Tryd.prog 5 #[.int .i64 start, .slice ao l.length c] w fun e w' => e = .returned (.bool true) ∧ Kept [] w w' := by
  have P := hide (known15 w hF)
  clear hF
  go_enter Tryd.func5, Tryd.ntmps5
  go_wp2_with (go_at_call 15; refine (unhide P).mono ?_; rintro e W1 ⟨rfl, K1⟩; have KK := hide K1; clear K1)
  go_ret
  exact ⟨rfl, unhide KK⟩

set_option maxHeartbeats 4000000 in
set_option maxRecDepth 100000 in
theorem runs_short (start : Int) (l : List Rec) (hl : ∀ r ∈ l, r.Ok) (hn : l.length ≤ 100) (ao : Option Addr) (c : Nat) (hnil : ao = none → l = [] ∧ c = 0) (w : World) (hS : RecS w ao l) (hF : First w) : Calls Tryd.prog 5 #[.int .i64 start, .slice ao l.length c] w fun e w' => e = .returned (.bool true) ∧ Kept [] w w' := by
  have hlb : ∀ r ∈ l, r.bd.length = 96 := fun r hr => (hl r hr).bd.len
  obtain ⟨R7, r7b, r7n, r7w, r7s⟩ : ∃ R : Rec, R.bd.length = 96 ∧ R.nd = 77 ∧ (∀ W : World, (Instr.build 25 #[(0, .int .i64 77)]).run Tryd.prog W = .ok (aggV (recC R)) W) ∧ (∀ W : World, (Instr.buildSlice 55 1 #[(0, aggV (recC R))]).run Tryd.prog W = .ok (.slice (some ⟨W.heap.size, 0, none⟩) 1 1) (W.alloc (.cells (recC R).toArray 25))) :=
    ⟨⟨77, 0, 0, 0, 0, zs 96⟩, by simp [zs], rfl, fun W => by kernel_rfl, fun W => by kernel_rfl⟩
  have H7w := hide r7w
  have H7s := hide r7s
  have HSl := hide hS
  have HF := hide hF
  have HNil := hide hnil
  have HLb := hide hlb
  have HL := hide hl
  clear r7w r7s hS hF hnil hlb hl
  have hw0 := Nat.le_refl w.heap.size
  go_enter Tryd.func5, Tryd.ntmps5
  go_wp2_with (
    first
    | (at_builtin; refine wpAppR (by rfl) (.const (.slice none 0 0)) (.tmp 12) (by rfl) w.heap.size (.slice none 0 0) [] l (by rfl) ao c (by rfl) (unhide HNil) (unhide HSl) (unhide HLb) ⟨rfl, .inl ⟨rfl, rfl⟩⟩ (by simp; omega) (Nat.le_refl _) ?_
       intro v1 W1 hO1 hB1 hK1
       have O1 : Hid (OwnR W1 w.heap.size v1 l) := hO1
       have L1 := hide (hB1 w (Below.refl _ _))
       clear hO1 hB1 hK1)
    | (refine wpBuildP rfl _ rfl #[(0, .int .i64 77)] (by kernel_rfl) (recC R7) (unhide H7w _) ?_)
    | (refine wpBSlice 1 _ rfl (by kernel_rfl) #[(0, aggV (recC R7))] (by kernel_rfl) (recC R7) (unhide H7s) ?_
       intro W2 g2 B2 K2
       have O2 := hide ((unhide O1).kept K2)
       have L2 := hide (Kept.below (unhide L1) K2 (unhide L1).size (by simp))
       have S2 : Hid (RecS W2 (some ⟨g2, 0, none⟩) [R7]) := RecS.of_blk (T := 25) (ex := []) (by rw [List.append_nil]; simpa [recsC] using B2) (fun r hr => by rw [List.mem_singleton.1 hr]; exact r7b)
       clear B2 K2 O1 L1)
    | (at_builtin; refine wpAppR (by rfl) (.tmp 13) (.tmp 15) (by rfl) w.heap.size v1 l [R7] (by rfl) (some ⟨g2, 0, none⟩) 1 (by rfl) (fun h => by cases h) (unhide S2) (fun r hr => by rw [List.mem_singleton.1 hr]; exact r7b) (unhide O2) (by simp; omega) (unhide L2).size ?_
       intro v2 W3 hO3 hB3 hK3
       obtain ⟨g, cap, rfl, hcap, hmax, hRO⟩ := hO3.slice (fun r hr => by rcases List.mem_append.1 hr with h | h; exact unhide HLb r h; rw [List.mem_singleton.1 h]; exact r7b) (by simp)
       have RO := hide hRO
       have K3 : Hid (Kept [] w W3) := Kept.of_below (hB3 w (unhide L2))
       have RS := hide ((unhide HSl).kept (unhide K3))
       have RF := hide ((unhide HF).kept (unhide K3))
       rw [List.length_append, List.length_singleton] at hcap
       unfold maxLen at hmax
       clear hO3 hB3 hK3 hRO O2 L2 S2 HSl HF))
  have RO1 : Hid (RecS W3 (some ⟨g, 0, none⟩) l) := fun i r hi => unhide RO i r (by rw [List.getElem?_append_left (List.getElem?_eq_some_iff.1 hi).1]; exact hi)
  refine (run23 start l (unhide HL) (by omega) (some ⟨g, 0, none⟩) cap W3 (unhide RO1)).mono ?_
  rintro e W4 ⟨rfl, K4⟩
  have XO := hide ((unhide RO).kept K4)
  have XS := hide ((unhide RS).kept K4)
  have XF := hide ((unhide RF).kept K4)
  have XK := hide ((unhide K3).trans K4)
  clear K4 RO1 RO RS RF K3
  go_wp2_with fail
  go_loopw [7] (fun i wr => ∃ k : Nat, k ≤ l.length ∧ i = .int .i64 k ∧ Hid (RecS wr (some ⟨g, 0, none⟩) (l ++ [R7])) ∧ Hid (RecS wr ao l) ∧ Hid (First wr) ∧ Hid (Kept [] w wr)) (fun i _ => l.length - (intOf i).toNat)
  case atStart => exact ⟨0, by omega, rfl, XO, XS, XF, XK⟩
  case round =>
    clear XO XS XF XK
    obtain ⟨k, hkl, rfl, RO, RS, RF, RK⟩ := hrel
    by_cases hlt : k < l.length
    · obtain ⟨r, hr⟩ : ∃ r, l[k]? = some r := ⟨_, List.getElem?_eq_getElem hlt⟩
      have rok := unhide HL r (List.mem_of_getElem? hr)
      obtain ⟨b, o, hao, _⟩ := (unhide RS) k r hr
      subst hao
      have HRo : Hid ((l ++ [R7])[k]? = some r) := by show _ = _; rw [List.getElem?_append_left hlt]; exact hr
      have HRk := hide hr
      clear hr
      by_cases hk0 : k = 0
      · have HK0 := hide hk0
        clear hk0
        go_wp2_with fail
        refine wp_region_any mixed (wpAny_tq 36 rfl (by kernel_rfl) [some (.slice (some ⟨g, 0, none⟩) (l.length + 1) cap), some (.int .i64 k), some (.pointer (some ⟨g, 0 + k * 101, none⟩)), some (aggV (recC r)), some (.slice (some ⟨b, o, none⟩) l.length c), some (.int .i64 k), some (.pointer (some ⟨b, o + k * 101, none⟩)), some (aggV (recC r)), some (.bool false), some (.bool false), some (.int .i64 k), some (.bool false), some (.bool false), none, none, none, none, none, none, none, none, none, none, none, none, none, none, none, none, none, none, none, none, none, some (.bool false), some (.bool false)] rfl (by kernel_rfl) (by kernel_rfl) ?_ ?_)
        · intro i o' hi hsk ho a' w2 hout hin hk2
          replace hk2 : Kept [] wr w2 := ⟨hk2.os, hk2.tape, hk2.output, hk2.size, hk2.block⟩
          match i, ho, hsk with
          | 0, ho, hsk =>
            obtain rfl := Option.some.inj ho
            exact wp_move (.tmp 5) rfl _ ((hout 5 (by kernel_rfl)).trans rfl) ⟨_, rfl, tq_is _ _ _ _ rfl, Kept.refl _ _, fun _ _ _ _ _ => trivial⟩
          | 1, ho, hsk =>
            obtain rfl := Option.some.inj ho
            exact wp_move (.tmp 7) rfl _ ((hout 7 (by kernel_rfl)).trans rfl) ⟨_, rfl, tq_is _ _ _ _ rfl, Kept.refl _ _, fun _ _ _ _ _ => trivial⟩
          | 2, ho, hsk =>
            obtain rfl := Option.some.inj ho
            have e0 : a'.eval (.tmp 29) = .slice (some ⟨g, 0, none⟩) (l.length + 1) cap := is_tq (hin 0 29 (by kernel_rfl) (by kernel_rfl)) rfl
            have e1 : a'.eval (.tmp 30) = .int .i64 k := is_tq (hin 1 30 (by kernel_rfl) (by kernel_rfl)) rfl
            exact o_idxS (.tmp 29) (.tmp 30) rfl g 0 (l.length + 1) cap k (by omega) e0 e1 ⟨_, rfl, tq_is _ _ _ _ rfl, Kept.refl _ _, fun _ _ _ _ _ => trivial⟩
          | 3, ho, hsk =>
            obtain rfl := Option.some.inj ho
            have e0 : a'.eval (.tmp 31) = .pointer (some ⟨g, 0 + k * 101, none⟩) := is_tq (hin 2 31 (by kernel_rfl) (by kernel_rfl)) rfl
            exact wp_loadA row25 (.tmp 31) rfl g (0 + k * 101) e0 (recC r) (recC_len rok.bd.len) (((unhide RO).kept hk2).at (unhide HRo)) ⟨_, rfl, tq_is _ _ _ _ rfl, Kept.refl _ _, fun _ _ _ _ _ => trivial⟩
          | 4, ho, hsk =>
            obtain rfl := Option.some.inj ho
            exact wp_move (.tmp 1) rfl _ ((hout 1 (by kernel_rfl)).trans rfl) ⟨_, rfl, tq_is _ _ _ _ rfl, Kept.refl _ _, fun _ _ _ _ _ => trivial⟩
          | 5, ho, hsk =>
            obtain rfl := Option.some.inj ho
            exact wp_move (.tmp 7) rfl _ ((hout 7 (by kernel_rfl)).trans rfl) ⟨_, rfl, tq_is _ _ _ _ rfl, Kept.refl _ _, fun _ _ _ _ _ => trivial⟩
          | 6, ho, hsk =>
            obtain rfl := Option.some.inj ho
            have e0 : a'.eval (.tmp 33) = .slice (some ⟨b, o, none⟩) l.length c := is_tq (hin 4 33 (by kernel_rfl) (by kernel_rfl)) rfl
            have e1 : a'.eval (.tmp 34) = .int .i64 k := is_tq (hin 5 34 (by kernel_rfl) (by kernel_rfl)) rfl
            exact o_idxS (.tmp 33) (.tmp 34) rfl b o l.length c k hlt e0 e1 ⟨_, rfl, tq_is _ _ _ _ rfl, Kept.refl _ _, fun _ _ _ _ _ => trivial⟩
          | 7, ho, hsk =>
            obtain rfl := Option.some.inj ho
            have e0 : a'.eval (.tmp 35) = .pointer (some ⟨b, o + k * 101, none⟩) := is_tq (hin 6 35 (by kernel_rfl) (by kernel_rfl)) rfl
            exact wp_loadA row25 (.tmp 35) rfl b (o + k * 101) e0 (recC r) (recC_len rok.bd.len) (((unhide RS).kept hk2).at (unhide HRk)) ⟨_, rfl, tq_is _ _ _ _ rfl, Kept.refl _ _, fun _ _ _ _ _ => trivial⟩
          | 8, ho, hsk =>
            obtain rfl := Option.some.inj ho
            have e0 : a'.eval (.tmp 32) = aggV (recC r) := is_tq (hin 3 32 (by kernel_rfl) (by kernel_rfl)) rfl
            have e1 : a'.eval (.tmp 36) = aggV (recC r) := is_tq (hin 7 36 (by kernel_rfl) (by kernel_rfl)) rfl
            exact o_neq25 (.tmp 32) (.tmp 36) rfl r rok.bd.len e0 e1 ⟨_, rfl, tq_is _ _ _ _ rfl, Kept.refl _ _, fun _ _ _ _ _ => trivial⟩
          | 9, ho, hsk =>
            obtain rfl := Option.some.inj ho
            have e0 : a'.eval (.tmp 37) = .bool false := is_tq (hin 8 37 (by kernel_rfl) (by kernel_rfl)) rfl
            exact wp_move (.tmp 37) rfl _ e0 ⟨_, rfl, tq_is _ _ _ _ rfl, Kept.refl _ _, fun _ _ _ _ _ => trivial⟩
          | 10, ho, hsk =>
            obtain rfl := Option.some.inj ho
            exact wp_move (.tmp 7) rfl _ ((hout 7 (by kernel_rfl)).trans rfl) ⟨_, rfl, tq_is _ _ _ _ rfl, Kept.refl _ _, fun _ _ _ _ _ => trivial⟩
          | 11, ho, hsk =>
            obtain rfl := Option.some.inj ho
            have e0 : a'.eval (.tmp 39) = .int .i64 k := is_tq (hin 10 39 (by kernel_rfl) (by kernel_rfl)) rfl
            exact o_gtr3 (.tmp 39) 0 rfl _ false (by have := unhide HK0; simp; omega) e0 ⟨_, rfl, tq_is _ _ _ _ rfl, Kept.refl _ _, fun _ _ _ _ _ => trivial⟩
          | 12, ho, hsk =>
            obtain rfl := Option.some.inj ho
            have e0 : a'.eval (.tmp 40) = .bool false := is_tq (hin 11 40 (by kernel_rfl) (by kernel_rfl)) rfl
            exact wp_move (.tmp 40) rfl _ e0 ⟨_, rfl, tq_is _ _ _ _ rfl, Kept.refl _ _, fun _ _ _ _ _ => trivial⟩
          | 13, ho, hsk =>
            cases hsk
          | 14, ho, hsk =>
            cases hsk
          | 15, ho, hsk =>
            cases hsk
          | 16, ho, hsk =>
            cases hsk
          | 17, ho, hsk =>
            cases hsk
          | 18, ho, hsk =>
            cases hsk
          | 19, ho, hsk =>
            cases hsk
          | 20, ho, hsk =>
            cases hsk
          | 21, ho, hsk =>
            cases hsk
          | 22, ho, hsk =>
            cases hsk
          | 23, ho, hsk =>
            cases hsk
          | 24, ho, hsk =>
            cases hsk
          | 25, ho, hsk =>
            cases hsk
          | 26, ho, hsk =>
            cases hsk
          | 27, ho, hsk =>
            cases hsk
          | 28, ho, hsk =>
            cases hsk
          | 29, ho, hsk =>
            cases hsk
          | 30, ho, hsk =>
            cases hsk
          | 31, ho, hsk =>
            cases hsk
          | 32, ho, hsk =>
            cases hsk
          | 33, ho, hsk =>
            cases hsk
          | 34, ho, hsk =>
            obtain rfl := Option.some.inj ho
            have e0 : a'.eval (.tmp 41) = .bool false := is_tq (hin 12 41 (by kernel_rfl) (by kernel_rfl)) rfl
            exact o_pickN (.tmp 41) (.tmp 62) rfl e0 ⟨_, rfl, tq_is _ _ _ _ rfl, Kept.refl _ _, fun _ _ _ _ _ => trivial⟩
          | 35, ho, hsk =>
            obtain rfl := Option.some.inj ho
            have e0 : a'.eval (.tmp 38) = .bool false := is_tq (hin 9 38 (by kernel_rfl) (by kernel_rfl)) rfl
            have e1 : a'.eval (.tmp 63) = .bool false := is_tq (hin 34 63 (by kernel_rfl) (by kernel_rfl)) rfl
            exact o_pickOrF (.tmp 38) (.tmp 63) rfl e0 e1 ⟨_, rfl, tq_is _ _ _ _ rfl, Kept.refl _ _, fun _ _ _ _ _ => trivial⟩
        · intro w3 hk3
          replace hk3 : Kept [] wr w3 := ⟨hk3.os, hk3.tape, hk3.output, hk3.size, hk3.block⟩
          simp only [valsQ, List.map_cons, List.map_nil, Option.getD_some, Option.getD_none, List.take_succ_cons, List.take_zero, putAll, Act.put, List.setIfInBounds_toArray, List.set_cons_succ, List.set_cons_zero]
          refine wpAny_done (by kernel_rfl) ?_ _
          have RO3 := hide ((unhide RO).kept hk3)
          have RS3 := hide ((unhide RS).kept hk3)
          have RF3 := hide ((unhide RF).kept hk3)
          have RK3 := hide ((unhide RK).trans hk3)
          clear hk3 RO RS RF RK
          go_wp2_with fail
          go_roundw
          case rel => exact ⟨k + 1, by omega, by go_num, RO3, RS3, RF3, RK3⟩
          case measure => simp [intOf]; omega
      · obtain ⟨m, hm⟩ : ∃ m, k = m + 1 := ⟨k - 1, by omega⟩
        obtain ⟨q, hq⟩ : ∃ q, l[m]? = some q := ⟨_, List.getElem?_eq_getElem (by omega)⟩
        have qok := unhide HL q (List.mem_of_getElem? hq)
        have HM := hide hm
        have HQk := hide hq
        clear hm hq hk0
        go_wp2_with fail
        refine wp_region_any mixed (wpAny_tq 36 rfl (by kernel_rfl) [some (.slice (some ⟨g, 0, none⟩) (l.length + 1) cap), some (.int .i64 k), some (.pointer (some ⟨g, 0 + k * 101, none⟩)), some (aggV (recC r)), some (.slice (some ⟨b, o, none⟩) l.length c), some (.int .i64 k), some (.pointer (some ⟨b, o + k * 101, none⟩)), some (aggV (recC r)), some (.bool false), some (.bool false), some (.int .i64 k), some (.bool true), some (.bool true), some (.slice (some ⟨b, o, none⟩) l.length c), some (.int .i64 k), some (.int .i64 m), some (.pointer (some ⟨b, o + m * 101, none⟩)), some (aggV (recC q)), some (.slice (some ⟨b, o, none⟩) l.length c), some (.int .i64 k), some (.pointer (some ⟨b, o + k * 101, none⟩)), some (aggV (recC r)), some (.bool (folB q r)), some (.slice (some ⟨b, o, none⟩) l.length c), some (.int .i64 k), some (.int .i64 m), some (.pointer (some ⟨b, o + m * 101, none⟩)), some (aggV (recC q)), some (.slice (some ⟨b, o, none⟩) l.length c), some (.int .i64 k), some (.pointer (some ⟨b, o + k * 101, none⟩)), some (aggV (recC r)), some (.bool (folB q r)), some (.bool false), some (.bool false), some (.bool false)] rfl (by kernel_rfl) (by kernel_rfl) ?_ ?_)
        · intro i o' hi hsk ho a' w2 hout hin hk2
          replace hk2 : Kept [] wr w2 := ⟨hk2.os, hk2.tape, hk2.output, hk2.size, hk2.block⟩
          match i, ho, hsk with
          | 0, ho, hsk =>
            obtain rfl := Option.some.inj ho
            exact wp_move (.tmp 5) rfl _ ((hout 5 (by kernel_rfl)).trans rfl) ⟨_, rfl, tq_is _ _ _ _ rfl, Kept.refl _ _, fun _ _ _ _ _ => trivial⟩
          | 1, ho, hsk =>
            obtain rfl := Option.some.inj ho
            exact wp_move (.tmp 7) rfl _ ((hout 7 (by kernel_rfl)).trans rfl) ⟨_, rfl, tq_is _ _ _ _ rfl, Kept.refl _ _, fun _ _ _ _ _ => trivial⟩
          | 2, ho, hsk =>
            obtain rfl := Option.some.inj ho
            have e0 : a'.eval (.tmp 29) = .slice (some ⟨g, 0, none⟩) (l.length + 1) cap := is_tq (hin 0 29 (by kernel_rfl) (by kernel_rfl)) rfl
            have e1 : a'.eval (.tmp 30) = .int .i64 k := is_tq (hin 1 30 (by kernel_rfl) (by kernel_rfl)) rfl
            exact o_idxS (.tmp 29) (.tmp 30) rfl g 0 (l.length + 1) cap k (by omega) e0 e1 ⟨_, rfl, tq_is _ _ _ _ rfl, Kept.refl _ _, fun _ _ _ _ _ => trivial⟩
          | 3, ho, hsk =>
            obtain rfl := Option.some.inj ho
            have e0 : a'.eval (.tmp 31) = .pointer (some ⟨g, 0 + k * 101, none⟩) := is_tq (hin 2 31 (by kernel_rfl) (by kernel_rfl)) rfl
            exact wp_loadA row25 (.tmp 31) rfl g (0 + k * 101) e0 (recC r) (recC_len rok.bd.len) (((unhide RO).kept hk2).at (unhide HRo)) ⟨_, rfl, tq_is _ _ _ _ rfl, Kept.refl _ _, fun _ _ _ _ _ => trivial⟩
          | 4, ho, hsk =>
            obtain rfl := Option.some.inj ho
            exact wp_move (.tmp 1) rfl _ ((hout 1 (by kernel_rfl)).trans rfl) ⟨_, rfl, tq_is _ _ _ _ rfl, Kept.refl _ _, fun _ _ _ _ _ => trivial⟩
          | 5, ho, hsk =>
            obtain rfl := Option.some.inj ho
            exact wp_move (.tmp 7) rfl _ ((hout 7 (by kernel_rfl)).trans rfl) ⟨_, rfl, tq_is _ _ _ _ rfl, Kept.refl _ _, fun _ _ _ _ _ => trivial⟩
          | 6, ho, hsk =>
            obtain rfl := Option.some.inj ho
            have e0 : a'.eval (.tmp 33) = .slice (some ⟨b, o, none⟩) l.length c := is_tq (hin 4 33 (by kernel_rfl) (by kernel_rfl)) rfl
            have e1 : a'.eval (.tmp 34) = .int .i64 k := is_tq (hin 5 34 (by kernel_rfl) (by kernel_rfl)) rfl
            exact o_idxS (.tmp 33) (.tmp 34) rfl b o l.length c k hlt e0 e1 ⟨_, rfl, tq_is _ _ _ _ rfl, Kept.refl _ _, fun _ _ _ _ _ => trivial⟩
          | 7, ho, hsk =>
            obtain rfl := Option.some.inj ho
            have e0 : a'.eval (.tmp 35) = .pointer (some ⟨b, o + k * 101, none⟩) := is_tq (hin 6 35 (by kernel_rfl) (by kernel_rfl)) rfl
            exact wp_loadA row25 (.tmp 35) rfl b (o + k * 101) e0 (recC r) (recC_len rok.bd.len) (((unhide RS).kept hk2).at (unhide HRk)) ⟨_, rfl, tq_is _ _ _ _ rfl, Kept.refl _ _, fun _ _ _ _ _ => trivial⟩
          | 8, ho, hsk =>
            obtain rfl := Option.some.inj ho
            have e0 : a'.eval (.tmp 32) = aggV (recC r) := is_tq (hin 3 32 (by kernel_rfl) (by kernel_rfl)) rfl
            have e1 : a'.eval (.tmp 36) = aggV (recC r) := is_tq (hin 7 36 (by kernel_rfl) (by kernel_rfl)) rfl
            exact o_neq25 (.tmp 32) (.tmp 36) rfl r rok.bd.len e0 e1 ⟨_, rfl, tq_is _ _ _ _ rfl, Kept.refl _ _, fun _ _ _ _ _ => trivial⟩
          | 9, ho, hsk =>
            obtain rfl := Option.some.inj ho
            have e0 : a'.eval (.tmp 37) = .bool false := is_tq (hin 8 37 (by kernel_rfl) (by kernel_rfl)) rfl
            exact wp_move (.tmp 37) rfl _ e0 ⟨_, rfl, tq_is _ _ _ _ rfl, Kept.refl _ _, fun _ _ _ _ _ => trivial⟩
          | 10, ho, hsk =>
            obtain rfl := Option.some.inj ho
            exact wp_move (.tmp 7) rfl _ ((hout 7 (by kernel_rfl)).trans rfl) ⟨_, rfl, tq_is _ _ _ _ rfl, Kept.refl _ _, fun _ _ _ _ _ => trivial⟩
          | 11, ho, hsk =>
            obtain rfl := Option.some.inj ho
            have e0 : a'.eval (.tmp 39) = .int .i64 k := is_tq (hin 10 39 (by kernel_rfl) (by kernel_rfl)) rfl
            exact o_gtr3 (.tmp 39) 0 rfl _ true (by have := unhide HM; simp; omega) e0 ⟨_, rfl, tq_is _ _ _ _ rfl, Kept.refl _ _, fun _ _ _ _ _ => trivial⟩
          | 12, ho, hsk =>
            obtain rfl := Option.some.inj ho
            have e0 : a'.eval (.tmp 40) = .bool true := is_tq (hin 11 40 (by kernel_rfl) (by kernel_rfl)) rfl
            exact wp_move (.tmp 40) rfl _ e0 ⟨_, rfl, tq_is _ _ _ _ rfl, Kept.refl _ _, fun _ _ _ _ _ => trivial⟩
          | 13, ho, hsk =>
            obtain rfl := Option.some.inj ho
            exact wp_move (.tmp 1) rfl _ ((hout 1 (by kernel_rfl)).trans rfl) ⟨_, rfl, tq_is _ _ _ _ rfl, Kept.refl _ _, fun _ _ _ _ _ => trivial⟩
          | 14, ho, hsk =>
            obtain rfl := Option.some.inj ho
            exact wp_move (.tmp 7) rfl _ ((hout 7 (by kernel_rfl)).trans rfl) ⟨_, rfl, tq_is _ _ _ _ rfl, Kept.refl _ _, fun _ _ _ _ _ => trivial⟩
          | 15, ho, hsk =>
            obtain rfl := Option.some.inj ho
            have e0 : a'.eval (.tmp 43) = .int .i64 k := is_tq (hin 14 43 (by kernel_rfl) (by kernel_rfl)) rfl
            exact o_dec3 (.tmp 43) rfl k m (unhide HM) (by have := unhide HM; omega) e0 ⟨_, rfl, tq_is _ _ _ _ rfl, Kept.refl _ _, fun _ _ _ _ _ => trivial⟩
          | 16, ho, hsk =>
            obtain rfl := Option.some.inj ho
            have e0 : a'.eval (.tmp 42) = .slice (some ⟨b, o, none⟩) l.length c := is_tq (hin 13 42 (by kernel_rfl) (by kernel_rfl)) rfl
            have e1 : a'.eval (.tmp 44) = .int .i64 m := is_tq (hin 15 44 (by kernel_rfl) (by kernel_rfl)) rfl
            exact o_idxS (.tmp 42) (.tmp 44) rfl b o l.length c m (by have := unhide HM; omega) e0 e1 ⟨_, rfl, tq_is _ _ _ _ rfl, Kept.refl _ _, fun _ _ _ _ _ => trivial⟩
          | 17, ho, hsk =>
            obtain rfl := Option.some.inj ho
            have e0 : a'.eval (.tmp 45) = .pointer (some ⟨b, o + m * 101, none⟩) := is_tq (hin 16 45 (by kernel_rfl) (by kernel_rfl)) rfl
            exact wp_loadA row25 (.tmp 45) rfl b (o + m * 101) e0 (recC q) (recC_len qok.bd.len) (((unhide RS).kept hk2).at (unhide HQk)) ⟨_, rfl, tq_is _ _ _ _ rfl, Kept.refl _ _, fun _ _ _ _ _ => trivial⟩
          | 18, ho, hsk =>
            obtain rfl := Option.some.inj ho
            exact wp_move (.tmp 1) rfl _ ((hout 1 (by kernel_rfl)).trans rfl) ⟨_, rfl, tq_is _ _ _ _ rfl, Kept.refl _ _, fun _ _ _ _ _ => trivial⟩
          | 19, ho, hsk =>
            obtain rfl := Option.some.inj ho
            exact wp_move (.tmp 7) rfl _ ((hout 7 (by kernel_rfl)).trans rfl) ⟨_, rfl, tq_is _ _ _ _ rfl, Kept.refl _ _, fun _ _ _ _ _ => trivial⟩
          | 20, ho, hsk =>
            obtain rfl := Option.some.inj ho
            have e0 : a'.eval (.tmp 47) = .slice (some ⟨b, o, none⟩) l.length c := is_tq (hin 18 47 (by kernel_rfl) (by kernel_rfl)) rfl
            have e1 : a'.eval (.tmp 48) = .int .i64 k := is_tq (hin 19 48 (by kernel_rfl) (by kernel_rfl)) rfl
            exact o_idxS (.tmp 47) (.tmp 48) rfl b o l.length c k hlt e0 e1 ⟨_, rfl, tq_is _ _ _ _ rfl, Kept.refl _ _, fun _ _ _ _ _ => trivial⟩
          | 21, ho, hsk =>
            obtain rfl := Option.some.inj ho
            have e0 : a'.eval (.tmp 49) = .pointer (some ⟨b, o + k * 101, none⟩) := is_tq (hin 20 49 (by kernel_rfl) (by kernel_rfl)) rfl
            exact wp_loadA row25 (.tmp 49) rfl b (o + k * 101) e0 (recC r) (recC_len rok.bd.len) (((unhide RS).kept hk2).at (unhide HRk)) ⟨_, rfl, tq_is _ _ _ _ rfl, Kept.refl _ _, fun _ _ _ _ _ => trivial⟩
          | 22, ho, hsk =>
            obtain rfl := Option.some.inj ho
            have e0 : a'.eval (.tmp 46) = aggV (recC q) := is_tq (hin 17 46 (by kernel_rfl) (by kernel_rfl)) rfl
            have e1 : a'.eval (.tmp 50) = aggV (recC r) := is_tq (hin 21 50 (by kernel_rfl) (by kernel_rfl)) rfl
            refine wp_callF 24 _ _ rfl #[aggV (recC q), aggV (recC r)] (by simp [e0, e1]) (cf24 _ _) ((follows24 q r qok.ls rok.ls w2).mono ?_)
            rintro e w3 ⟨rfl, hk3⟩
            exact ⟨_, rfl, _, rfl, tq_is _ _ _ _ rfl, hk3, fun _ _ _ _ _ => trivial⟩
          | 23, ho, hsk =>
            obtain rfl := Option.some.inj ho
            exact wp_move (.tmp 1) rfl _ ((hout 1 (by kernel_rfl)).trans rfl) ⟨_, rfl, tq_is _ _ _ _ rfl, Kept.refl _ _, fun _ _ _ _ _ => trivial⟩
          | 24, ho, hsk =>
            obtain rfl := Option.some.inj ho
            exact wp_move (.tmp 7) rfl _ ((hout 7 (by kernel_rfl)).trans rfl) ⟨_, rfl, tq_is _ _ _ _ rfl, Kept.refl _ _, fun _ _ _ _ _ => trivial⟩
          | 25, ho, hsk =>
            obtain rfl := Option.some.inj ho
            have e0 : a'.eval (.tmp 53) = .int .i64 k := is_tq (hin 24 53 (by kernel_rfl) (by kernel_rfl)) rfl
            exact o_dec3 (.tmp 53) rfl k m (unhide HM) (by have := unhide HM; omega) e0 ⟨_, rfl, tq_is _ _ _ _ rfl, Kept.refl _ _, fun _ _ _ _ _ => trivial⟩
          | 26, ho, hsk =>
            obtain rfl := Option.some.inj ho
            have e0 : a'.eval (.tmp 52) = .slice (some ⟨b, o, none⟩) l.length c := is_tq (hin 23 52 (by kernel_rfl) (by kernel_rfl)) rfl
            have e1 : a'.eval (.tmp 54) = .int .i64 m := is_tq (hin 25 54 (by kernel_rfl) (by kernel_rfl)) rfl
            exact o_idxS (.tmp 52) (.tmp 54) rfl b o l.length c m (by have := unhide HM; omega) e0 e1 ⟨_, rfl, tq_is _ _ _ _ rfl, Kept.refl _ _, fun _ _ _ _ _ => trivial⟩
          | 27, ho, hsk =>
            obtain rfl := Option.some.inj ho
            have e0 : a'.eval (.tmp 55) = .pointer (some ⟨b, o + m * 101, none⟩) := is_tq (hin 26 55 (by kernel_rfl) (by kernel_rfl)) rfl
            exact wp_loadA row25 (.tmp 55) rfl b (o + m * 101) e0 (recC q) (recC_len qok.bd.len) (((unhide RS).kept hk2).at (unhide HQk)) ⟨_, rfl, tq_is _ _ _ _ rfl, Kept.refl _ _, fun _ _ _ _ _ => trivial⟩
          | 28, ho, hsk =>
            obtain rfl := Option.some.inj ho
            exact wp_move (.tmp 1) rfl _ ((hout 1 (by kernel_rfl)).trans rfl) ⟨_, rfl, tq_is _ _ _ _ rfl, Kept.refl _ _, fun _ _ _ _ _ => trivial⟩
          | 29, ho, hsk =>
            obtain rfl := Option.some.inj ho
            exact wp_move (.tmp 7) rfl _ ((hout 7 (by kernel_rfl)).trans rfl) ⟨_, rfl, tq_is _ _ _ _ rfl, Kept.refl _ _, fun _ _ _ _ _ => trivial⟩
          | 30, ho, hsk =>
            obtain rfl := Option.some.inj ho
            have e0 : a'.eval (.tmp 57) = .slice (some ⟨b, o, none⟩) l.length c := is_tq (hin 28 57 (by kernel_rfl) (by kernel_rfl)) rfl
            have e1 : a'.eval (.tmp 58) = .int .i64 k := is_tq (hin 29 58 (by kernel_rfl) (by kernel_rfl)) rfl
            exact o_idxS (.tmp 57) (.tmp 58) rfl b o l.length c k hlt e0 e1 ⟨_, rfl, tq_is _ _ _ _ rfl, Kept.refl _ _, fun _ _ _ _ _ => trivial⟩
          | 31, ho, hsk =>
            obtain rfl := Option.some.inj ho
            have e0 : a'.eval (.tmp 59) = .pointer (some ⟨b, o + k * 101, none⟩) := is_tq (hin 30 59 (by kernel_rfl) (by kernel_rfl)) rfl
            exact wp_loadA row25 (.tmp 59) rfl b (o + k * 101) e0 (recC r) (recC_len rok.bd.len) (((unhide RS).kept hk2).at (unhide HRk)) ⟨_, rfl, tq_is _ _ _ _ rfl, Kept.refl _ _, fun _ _ _ _ _ => trivial⟩
          | 32, ho, hsk =>
            obtain rfl := Option.some.inj ho
            have e0 : a'.eval (.tmp 56) = aggV (recC q) := is_tq (hin 27 56 (by kernel_rfl) (by kernel_rfl)) rfl
            have e1 : a'.eval (.tmp 60) = aggV (recC r) := is_tq (hin 31 60 (by kernel_rfl) (by kernel_rfl)) rfl
            refine wp_callF 25 _ _ rfl #[aggV (recC q), aggV (recC r)] (by simp [e0, e1]) (cf25 _ _) ((rfollows25 q r qok.ls rok.ls w2).mono ?_)
            rintro e w3 ⟨rfl, hk3⟩
            exact ⟨_, rfl, _, rfl, tq_is _ _ _ _ rfl, hk3, fun _ _ _ _ _ => trivial⟩
          | 33, ho, hsk =>
            obtain rfl := Option.some.inj ho
            have e0 : a'.eval (.tmp 51) = .bool (folB q r) := is_tq (hin 22 51 (by kernel_rfl) (by kernel_rfl)) rfl
            have e1 : a'.eval (.tmp 61) = .bool (folB q r) := is_tq (hin 32 61 (by kernel_rfl) (by kernel_rfl)) rfl
            exact o_neq4 (.tmp 51) (.tmp 61) rfl _ e0 e1 ⟨_, rfl, tq_is _ _ _ _ rfl, Kept.refl _ _, fun _ _ _ _ _ => trivial⟩
          | 34, ho, hsk =>
            obtain rfl := Option.some.inj ho
            have e0 : a'.eval (.tmp 41) = .bool true := is_tq (hin 12 41 (by kernel_rfl) (by kernel_rfl)) rfl
            have e1 : a'.eval (.tmp 62) = .bool false := is_tq (hin 33 62 (by kernel_rfl) (by kernel_rfl)) rfl
            exact o_pick (.tmp 41) (.tmp 62) rfl _ e0 e1 ⟨_, rfl, tq_is _ _ _ _ rfl, Kept.refl _ _, fun _ _ _ _ _ => trivial⟩
          | 35, ho, hsk =>
            obtain rfl := Option.some.inj ho
            have e0 : a'.eval (.tmp 38) = .bool false := is_tq (hin 9 38 (by kernel_rfl) (by kernel_rfl)) rfl
            have e1 : a'.eval (.tmp 63) = .bool false := is_tq (hin 34 63 (by kernel_rfl) (by kernel_rfl)) rfl
            exact o_pickOrF (.tmp 38) (.tmp 63) rfl e0 e1 ⟨_, rfl, tq_is _ _ _ _ rfl, Kept.refl _ _, fun _ _ _ _ _ => trivial⟩
        · intro w3 hk3
          replace hk3 : Kept [] wr w3 := ⟨hk3.os, hk3.tape, hk3.output, hk3.size, hk3.block⟩
          simp only [valsQ, List.map_cons, List.map_nil, Option.getD_some, List.take_succ_cons, List.take_zero, putAll, Act.put, List.setIfInBounds_toArray, List.set_cons_succ, List.set_cons_zero]
          refine wpAny_done (by kernel_rfl) ?_ _
          have RO3 := hide ((unhide RO).kept hk3)
          have RS3 := hide ((unhide RS).kept hk3)
          have RF3 := hide ((unhide RF).kept hk3)
          have RK3 := hide ((unhide RK).trans hk3)
          clear hk3 RO RS RF RK
          go_wp2_with fail
          go_roundw
          case rel => exact ⟨k + 1, by omega, by go_num, RO3, RS3, RF3, RK3⟩
          case measure => simp [intOf]; omega
    · obtain rfl : k = l.length := by omega
      have P26 := hide (rrun26 start l (unhide HL) (by omega) ao c wr (unhide RS))
      go_wp2_with (
        first
        | (go_at_call 26; refine (unhide P26).mono ?_; clear P26; rintro e W5 ⟨rfl, K5⟩
           have c77 : W5.cell? ⟨g, l.length * 101, none⟩ = some (.int .i64 77) := by
             have := ((unhide RO).kept K5).at (i := l.length) (r := R7) (by simp) 0 (.int .i64 77) (by rw [← r7n]; rfl)
             rw [Nat.zero_add, Nat.add_zero] at this
             exact this
           have RF2 := hide ((unhide RF).kept K5)
           have RK1 := hide ((unhide RK).trans K5)
           clear K5 RO RS RF RK)
        | (refine wpIdxG (.tmp 71) (.tmp 73) (by rfl) (by kernel_rfl) g 0 (l.length + 1) cap l.length (l.length * 101) (by omega) (by omega) (by kernel_rfl) (by kernel_rfl) ?_)
        | (go_at_call 15; refine (known15 _ (unhide RF2)).mono ?_; rintro e W6 ⟨rfl, K6⟩
           have RK2 := hide ((unhide RK1).trans K6)
           clear K6 RF2 RK1))
      go_ret
      exact ⟨by simp, unhide RK2⟩

theorem runs5 (start : Int) (l : List Rec) (hl : ∀ r ∈ l, r.Ok) (hl2 : l.length ≤ 140737488355328) (ao : Option Addr) (c : Nat) (hnil : ao = none → l = [] ∧ c = 0) (w : World) (hS : RecS w ao l) (hF : First w) : Calls Tryd.prog 5 #[.int .i64 start, .slice ao l.length c] w fun e w' => e = .returned (.bool true) ∧ Kept [] w w' := by
  by_cases h : 100 < l.length
  · exact runs_long start l h hl2 ao c w hF
  · exact runs_short start l hl (by omega) ao c hnil w hS hF

end Go.Proofs.YtkpkiibahfdomaaDoor
