/-
  ViewLooks.
-/
import Derived.Test.YtbpnnbbinhdoiaaDoorVu
import Derived.Test.YtbpnnbbinhdoiaaDoorUt
import Derived.Test.YtbpnnbbinhdoiaaDoorPd
import Derived.Test.YtbpnnbbinhdoiaaDoorOpn
namespace Go.Proofs.YtbpnnbbinhdoiaaDoor
set_option maxRecDepth 100000
open Go.RowKit Go.Shelf
attribute [local go_sem] Oper.semAt_some


theorem eq59 (q : Value) (W : World) : Sem.run Tryd.prog (binOp BinOp.eql 59 (.func (.func 40) #[] #[q]) .nilFunc) W = .ok (.bool false) W := by kernel_rfl
theorem Ints.out {W W' : World} {base b T : Nat} {u : Value} {L : List Int} {us : List Value} (h : Ints W base u L) (hk : Kept [b] W W') (hB : Blk W b T us) (hT : T ≠ 3) : Ints W' base u L :=
  h.kept hk (fun k e hm => by
    simp at hm
    subst hm
    obtain ⟨_, cs, hc⟩ := h.block _ e
    unfold Blk at hB
    rw [hB] at hc
    cases hc
    exact hT rfl)
set_option maxHeartbeats 16000000 in
theorem looks_gen (v : Vw) (x : Ask) (leave : Int) (Ls Pg : List Int) (r ok : Bool) (m : Int) (w : World) (hF : First w) (hv : v.ms.length = 8) (hr : r = v.is x.a x.e) (S : List (Nat × Int)) (hS : S = v.list) (hLs : Ls = S.map (fun q => (q.1 : Int))) (hPl : Pg.length ≤ 1000)
    (k22 : ∀ W, First W → Calls Tryd.prog 22 #[aggV (vwC v)] W fun e w' => ∃ u, e = .returned u ∧ Ints w' W.heap.size u Ls ∧ Kept [] W w')
    (k23 : ∀ W, First W → Calls Tryd.prog 23 #[aggV (vwC v), .int .i64 x.p] W fun e w' => e = .returned (.tuple #[.int .i64 m, .bool ok]) ∧ Kept [] W w')
    (k24 : ∀ W, First W → Calls Tryd.prog 24 #[aggV (vwC v), .int .i64 x.p] W fun e w' => e = .returned (.tuple #[.int .i64 m, .bool ok]) ∧ Kept [] W w')
    (k25 : ∀ W, First W → Calls Tryd.prog 25 #[aggV (vwC v), .int .i64 x.a, .int .i64 x.e] W fun e w' => e = .returned (.bool r) ∧ Kept [] W w')
    (k26 : ∀ W, First W → Calls Tryd.prog 26 #[aggV (vwC v)] W fun e w' => e = .returned (.int .i64 Ls.length) ∧ Kept [] W w')
    (k28 : ∀ W, First W → Calls Tryd.prog 28 #[aggV (vwC v), .int .i64 x.a, .int .i64 x.q] W fun e w' => ∃ u, e = .returned u ∧ Ints w' W.heap.size u Pg ∧ Kept [] W w')
    (k29 : ∀ W, First W → Calls Tryd.prog 29 #[aggV (vwC v), .int .i64 x.a, .int .i64 x.q] W fun e w' => ∃ u, e = .returned u ∧ Ints w' W.heap.size u Pg ∧ Kept [] W w') : CallsIn Fence.wide 3 Tryd.prog 5 #[aggV (vwC v), aggV x.C, .int .i64 leave] w fun e w' => e = .returned (.bool true) ∧ Kept [] w w' := by
  have P22 := fun W hW => hide (k22 W hW)
  have P23 := fun W hW => hide (k23 W hW)
  have P24 := fun W hW => hide (k24 W hW)
  have P25 := fun W hW => hide (k25 W hW)
  have P26 := fun W hW => hide (k26 W hW)
  have P28 := fun W hW => hide (k28 W hW)
  have P29 := fun W hW => hide (k29 W hW)
  clear k22 k23 k24 k25 k26 k28 k29
  have hFw := wideF
  have hL8 : Ls.length ≤ 8 := by rw [hLs, List.length_map, hS]; exact list_len hv
  have HS := hide hS
  clear hS
  have HL8 := hide hL8
  have HLs := hide hLs
  clear hLs
  have HRr := hide hr
  clear hr
  refine callsIn_of_wp_marks Tryd.func5 rfl trivial ?_ rfl
  simp only [Tryd.ntmps5, List.size_toArray, List.length_cons, List.length_nil, Nat.reduceAdd, Nat.reduceSub, Array.replicate_succ, Array.replicate_zero, List.push_toArray, List.append_toArray, List.nil_append, List.cons_append]
  rw [wpIn_wide]
  have M : Hid (Mm w w []) := hide (Mm.init hF)
  go_wp2_with (
    first
    | (refine wpBoxV rfl (.tmp 0) rfl (vwC v) rfl ?_
       intro W1 b1 e1 B1 K1
       replace M : Hid (Mm w W1 [(b1, 26, vwC v)]) := hide ((unhide M).new e1 B1 K1)
       clear e1 B1 K1
       refine Stp.go ?_))
  constructor
  go_wp2_with (
    first
    | (refine wpBoxV rfl (.tmp 1) rfl (x.C) rfl ?_
       intro W2 b2 e2 B2 K2
       replace M : Hid (Mm w W2 [(b1, 26, vwC v), (b2, 42, x.C)]) := hide ((unhide M).new e2 B2 K2)
       clear e2 B2 K2
       refine Stp.go ?_))
  constructor
  go_wp2_with (
    first
    | (refine wpBox3 rfl (.tmp 2) rfl leave rfl ?_
       intro W3 b3 e3 B3 K3
       replace M : Hid (Mm w W3 [(b1, 26, vwC v), (b2, 42, x.C), (b3, 3, [.int .i64 leave])]) := hide ((unhide M).new e3 B3 K3)
       clear e3 B3 K3
       refine Stp.go ?_))
  constructor
  go_wp2_with (
    first
    | (refine wpAllocW ([.bool false]) zero4 6 rfl rfl rfl ?_
       intro W4 b4 e4 B4 K4
       replace M : Hid (Mm w W4 [(b1, 26, vwC v), (b2, 42, x.C), (b3, 3, [.int .i64 leave]), (b4, 4, [.bool false])]) := hide ((unhide M).new e4 B4 K4)
       clear e4 B4 K4
       refine Stp.go ?_))
  constructor
  go_wp2_with (
    first
    | (refine wpLoadA row26 rfl (.tmp 3) rfl b1 0 rfl (vwC v) (vwC_len hv) ((unhide M).at 0 _ rfl).range ?_
       refine Stp.go ?_))
  constructor
  go_wp2_with (
    first
    | (go_at_call 22
       refine (unhide (P22 _ (unhide M).first)).mono ?_
       rintro e W5 ⟨u, rfl, hI, K5⟩
       have HU : Hid (Ints W5 w.heap.size u Ls) := hide (hI.base (unhide M).kept.size)
       obtain ⟨ao, uc, hu⟩ := hI.sl
       subst hu
       replace M : Hid (Mm w W5 [(b1, 26, vwC v), (b2, 42, x.C), (b3, 3, [.int .i64 leave]), (b4, 4, [.bool false])]) := hide ((unhide M).step K5)
       clear K5 hI
       refine Stp.go ?_))
  constructor
  go_wp2_with (
    first
    | (refine wpAllocW ([Value.slice none 0 0]) zero50 7 rfl rfl rfl ?_
       intro W6 b6 e6 B6 K6
       replace M : Hid (Mm w W6 [(b1, 26, vwC v), (b2, 42, x.C), (b3, 3, [.int .i64 leave]), (b4, 4, [.bool false]), (b6, 50, [Value.slice none 0 0])]) := hide ((unhide M).new e6 B6 K6)
       replace HU : Hid (Ints W6 w.heap.size (.slice ao Ls.length uc) Ls) := hide ((unhide HU).kept K6 (by simp))
       clear e6 B6 K6
       refine Stp.go ?_))
  constructor
  go_wp2_with (
    first
    | (refine wpStoreK1 size50 rfl (.tmp 7) (.tmp 19) rfl rfl b6 0 4 (.slice ao Ls.length uc) ⟨rfl, rfl⟩ rfl rfl (unhide M) rfl (by simp) ?_
       intro W7 N7 K7
       replace HU : Hid (Ints W7 w.heap.size (.slice ao Ls.length uc) Ls) := hide ((unhide HU).out (T := 50) K7 ((unhide M).at 4 _ rfl) (by decide))
       replace M : Hid (Mm w W7 [(b1, 26, vwC v), (b2, 42, x.C), (b3, 3, [.int .i64 leave]), (b4, 4, [.bool false]), (b6, 50, [(.slice ao Ls.length uc)])]) := hide N7
       clear N7 K7
       refine Stp.go ?_))
  constructor
  go_upto_region 2 with fail
  go_cut [8] from 18 to 109 (fun xr wc => xr = .bool r ∧ Hid (Mm w wc [(b1, 26, vwC v), (b2, 42, x.C), (b3, 3, [.int .i64 leave]), (b4, 4, [.bool false]), (b6, 50, [(.slice ao Ls.length uc)])]) ∧ Hid (Ints wc w.heap.size (.slice ao Ls.length uc) Ls))
  case first =>
    cases hmay : v.may with
    | false =>
      have P13 : ∀ W, First W → Hid (Calls Tryd.prog 13 #[aggV (vwC v)] W fun e w' => e = .returned (.bool false) ∧ Kept [] W w') := fun W hW => hide (by have := rmay13 v W hW hv; rw [hmay] at this; exact this)
      have HR : Hid (r = false) := by show r = false; rw [unhide HRr]; unfold Vw.is Vw.isIn isNo; simp [hmay]
      refine wp_region_any mixed (wpAny_tq 32 rfl (by kernel_rfl) [some (aggV (vwC v)), some (.bool false), some (.bool false), none, none, none, some (.bool false), some (.bool false), none, none, none, some (.bool false), some (.bool false), none, none, none, none, none, none, some (.bool false), some (.bool false), none, none, none, none, none, none, none, none, none, some (.bool false), some (.bool false)] rfl (by kernel_rfl) (by kernel_rfl) ?_ ?_)
      · intro i o' hi hsk ho a' w2 hout hin hk2
        replace hk2 : Kept [] W7 w2 := ⟨hk2.os, hk2.tape, hk2.output, hk2.size, hk2.block⟩
        match i, ho, hsk with
        | 0, ho, hsk =>
          obtain rfl := Option.some.inj ho
          exact wp_loadA row26 (.tmp 3) rfl b1 0 ((hout 3 (by kernel_rfl)).trans rfl) (vwC v) (vwC_len hv) (((unhide M).step hk2).at 0 _ rfl).range ⟨_, rfl, tq_is _ _ _ _ rfl, Kept.refl _ _, fun _ _ _ _ _ => trivial⟩
        | 1, ho, hsk =>
          obtain rfl := Option.some.inj ho
          have e0 : a'.eval (.tmp 20) = aggV (vwC v) := is_tq (hin 0 20 (by kernel_rfl) (by kernel_rfl)) rfl
          refine wp_callF 13 _ _ rfl #[aggV (vwC v)] (by simp [e0]) (cg13 _ _) ((unhide (P13 _ ((unhide M).step hk2).first)).mono ?_)
          rintro e w3 ⟨rfl, hk3⟩
          exact ⟨_, rfl, _, rfl, tq_is _ _ _ _ rfl, hk3, fun _ _ _ _ _ => trivial⟩
        | 2, ho, hsk =>
          obtain rfl := Option.some.inj ho
          have e0 : a'.eval (.tmp 21) = .bool false := is_tq (hin 1 21 (by kernel_rfl) (by kernel_rfl)) rfl
          exact wp_move (.tmp 21) rfl _ e0 ⟨_, rfl, tq_is _ _ _ _ rfl, Kept.refl _ _, fun _ _ _ _ _ => trivial⟩
        | 3, ho, hsk =>
          cases hsk
        | 4, ho, hsk =>
          cases hsk
        | 5, ho, hsk =>
          cases hsk
        | 6, ho, hsk =>
          obtain rfl := Option.some.inj ho
          have e0 : a'.eval (.tmp 22) = .bool false := is_tq (hin 2 22 (by kernel_rfl) (by kernel_rfl)) rfl
          exact o_pickN (.tmp 22) (.tmp 25) rfl e0 ⟨_, rfl, tq_is _ _ _ _ rfl, Kept.refl _ _, fun _ _ _ _ _ => trivial⟩
        | 7, ho, hsk =>
          obtain rfl := Option.some.inj ho
          have e0 : a'.eval (.tmp 26) = .bool false := is_tq (hin 6 26 (by kernel_rfl) (by kernel_rfl)) rfl
          exact wp_move (.tmp 26) rfl _ e0 ⟨_, rfl, tq_is _ _ _ _ rfl, Kept.refl _ _, fun _ _ _ _ _ => trivial⟩
        | 8, ho, hsk =>
          cases hsk
        | 9, ho, hsk =>
          cases hsk
        | 10, ho, hsk =>
          cases hsk
        | 11, ho, hsk =>
          obtain rfl := Option.some.inj ho
          have e0 : a'.eval (.tmp 27) = .bool false := is_tq (hin 7 27 (by kernel_rfl) (by kernel_rfl)) rfl
          exact o_pickN (.tmp 27) (.tmp 30) rfl e0 ⟨_, rfl, tq_is _ _ _ _ rfl, Kept.refl _ _, fun _ _ _ _ _ => trivial⟩
        | 12, ho, hsk =>
          obtain rfl := Option.some.inj ho
          have e0 : a'.eval (.tmp 31) = .bool false := is_tq (hin 11 31 (by kernel_rfl) (by kernel_rfl)) rfl
          exact wp_move (.tmp 31) rfl _ e0 ⟨_, rfl, tq_is _ _ _ _ rfl, Kept.refl _ _, fun _ _ _ _ _ => trivial⟩
        | 13, ho, hsk =>
          cases hsk
        | 14, ho, hsk =>
          cases hsk
        | 15, ho, hsk =>
          cases hsk
        | 16, ho, hsk =>
          cases hsk
        | 17, ho, hsk =>
          cases hsk
        | 18, ho, hsk =>
          cases hsk
        | 19, ho, hsk =>
          obtain rfl := Option.some.inj ho
          have e0 : a'.eval (.tmp 32) = .bool false := is_tq (hin 12 32 (by kernel_rfl) (by kernel_rfl)) rfl
          exact o_pickN (.tmp 32) (.tmp 38) rfl e0 ⟨_, rfl, tq_is _ _ _ _ rfl, Kept.refl _ _, fun _ _ _ _ _ => trivial⟩
        | 20, ho, hsk =>
          obtain rfl := Option.some.inj ho
          have e0 : a'.eval (.tmp 39) = .bool false := is_tq (hin 19 39 (by kernel_rfl) (by kernel_rfl)) rfl
          exact wp_move (.tmp 39) rfl _ e0 ⟨_, rfl, tq_is _ _ _ _ rfl, Kept.refl _ _, fun _ _ _ _ _ => trivial⟩
        | 21, ho, hsk =>
          cases hsk
        | 22, ho, hsk =>
          cases hsk
        | 23, ho, hsk =>
          cases hsk
        | 24, ho, hsk =>
          cases hsk
        | 25, ho, hsk =>
          cases hsk
        | 26, ho, hsk =>
          cases hsk
        | 27, ho, hsk =>
          cases hsk
        | 28, ho, hsk =>
          cases hsk
        | 29, ho, hsk =>
          cases hsk
        | 30, ho, hsk =>
          obtain rfl := Option.some.inj ho
          have e0 : a'.eval (.tmp 40) = .bool false := is_tq (hin 20 40 (by kernel_rfl) (by kernel_rfl)) rfl
          exact o_pickN (.tmp 40) (.tmp 49) rfl e0 ⟨_, rfl, tq_is _ _ _ _ rfl, Kept.refl _ _, fun _ _ _ _ _ => trivial⟩
        | 31, ho, hsk =>
          obtain rfl := Option.some.inj ho
          have e0 : a'.eval (.tmp 50) = .bool false := is_tq (hin 30 50 (by kernel_rfl) (by kernel_rfl)) rfl
          exact wp_assignV (.tmp 50) rfl _ e0 ⟨_, rfl, tq_is _ _ _ _ rfl, Kept.refl _ _, fun _ _ _ _ _ => trivial⟩
      intro w9 hk9
      replace hk9 : Kept [] W7 w9 := ⟨hk9.os, hk9.tape, hk9.output, hk9.size, hk9.block⟩
      simp only [valsQ, List.map_cons, List.map_nil, Option.getD_some, Option.getD_none, List.take_succ_cons, List.take_zero, putAll, Act.put, List.setIfInBounds_toArray, List.set_cons_succ, List.set_cons_zero]
      refine wpAny_done (by kernel_rfl) ?_ _
      replace M := hide ((unhide M).step hk9)
      replace HU := hide ((unhide HU).kept hk9 (by simp))
      clear hk9
      go_wp2_with fail
      go_meet
      case rel => exact ⟨by rw [unhide HR], M, HU⟩
    | true =>
      have P13 : ∀ W, First W → Hid (Calls Tryd.prog 13 #[aggV (vwC v)] W fun e w' => e = .returned (.bool true) ∧ Kept [] W w') := fun W hW => hide (by have := rmay13 v W hW hv; rw [hmay] at this; exact this)
      by_cases ha0 : x.a < 0
      · have HR : Hid (r = false) := by show r = false; rw [unhide HRr]; unfold Vw.is Vw.isIn isNo; simp; omega
        refine wp_region_any mixed (wpAny_tq 32 rfl (by kernel_rfl) [some (aggV (vwC v)), some (.bool true), some (.bool true), some (.pointer (some ⟨b2, 0, none⟩)), some (.int .i64 x.a), some (.bool false), some (.bool false), some (.bool false), none, none, none, some (.bool false), some (.bool false), none, none, none, none, none, none, some (.bool false), some (.bool false), none, none, none, none, none, none, none, none, none, some (.bool false), some (.bool false)] rfl (by kernel_rfl) (by kernel_rfl) ?_ ?_)
        · intro i o' hi hsk ho a' w2 hout hin hk2
          replace hk2 : Kept [] W7 w2 := ⟨hk2.os, hk2.tape, hk2.output, hk2.size, hk2.block⟩
          match i, ho, hsk with
          | 0, ho, hsk =>
            obtain rfl := Option.some.inj ho
            exact wp_loadA row26 (.tmp 3) rfl b1 0 ((hout 3 (by kernel_rfl)).trans rfl) (vwC v) (vwC_len hv) (((unhide M).step hk2).at 0 _ rfl).range ⟨_, rfl, tq_is _ _ _ _ rfl, Kept.refl _ _, fun _ _ _ _ _ => trivial⟩
          | 1, ho, hsk =>
            obtain rfl := Option.some.inj ho
            have e0 : a'.eval (.tmp 20) = aggV (vwC v) := is_tq (hin 0 20 (by kernel_rfl) (by kernel_rfl)) rfl
            refine wp_callF 13 _ _ rfl #[aggV (vwC v)] (by simp [e0]) (cg13 _ _) ((unhide (P13 _ ((unhide M).step hk2).first)).mono ?_)
            rintro e w3 ⟨rfl, hk3⟩
            exact ⟨_, rfl, _, rfl, tq_is _ _ _ _ rfl, hk3, fun _ _ _ _ _ => trivial⟩
          | 2, ho, hsk =>
            obtain rfl := Option.some.inj ho
            have e0 : a'.eval (.tmp 21) = .bool true := is_tq (hin 1 21 (by kernel_rfl) (by kernel_rfl)) rfl
            exact wp_move (.tmp 21) rfl _ e0 ⟨_, rfl, tq_is _ _ _ _ rfl, Kept.refl _ _, fun _ _ _ _ _ => trivial⟩
          | 3, ho, hsk =>
            obtain rfl := Option.some.inj ho
            exact o_fld42_0 (.tmp 4) rfl b2 ((hout 4 (by kernel_rfl)).trans rfl) ⟨_, rfl, tq_is _ _ _ _ rfl, Kept.refl _ _, fun _ _ _ _ _ => trivial⟩
          | 4, ho, hsk =>
            obtain rfl := Option.some.inj ho
            have e0 : a'.eval (.tmp 23) = .pointer (some ⟨b2, 0, none⟩) := is_tq (hin 3 23 (by kernel_rfl) (by kernel_rfl)) rfl
            exact o_load3 (.tmp 23) rfl ⟨b2, 0, none⟩ _ e0 (fits_cell (((unhide M).step hk2).at 1 _ rfl) 0 _ rfl) ⟨_, rfl, tq_is _ _ _ _ rfl, Kept.refl _ _, fun _ _ _ _ _ => trivial⟩
          | 5, ho, hsk =>
            obtain rfl := Option.some.inj ho
            have e0 : a'.eval (.tmp 24) = .int .i64 x.a := is_tq (hin 4 24 (by kernel_rfl) (by kernel_rfl)) rfl
            exact o_geqc (.tmp 24) 0 rfl x.a false (by simp; omega) e0 ⟨_, rfl, tq_is _ _ _ _ rfl, Kept.refl _ _, fun _ _ _ _ _ => trivial⟩
          | 6, ho, hsk =>
            obtain rfl := Option.some.inj ho
            have e0 : a'.eval (.tmp 22) = .bool true := is_tq (hin 2 22 (by kernel_rfl) (by kernel_rfl)) rfl
            have e1 : a'.eval (.tmp 25) = .bool false := is_tq (hin 5 25 (by kernel_rfl) (by kernel_rfl)) rfl
            exact o_pick (.tmp 22) (.tmp 25) rfl _ e0 e1 ⟨_, rfl, tq_is _ _ _ _ rfl, Kept.refl _ _, fun _ _ _ _ _ => trivial⟩
          | 7, ho, hsk =>
            obtain rfl := Option.some.inj ho
            have e0 : a'.eval (.tmp 26) = .bool false := is_tq (hin 6 26 (by kernel_rfl) (by kernel_rfl)) rfl
            exact wp_move (.tmp 26) rfl _ e0 ⟨_, rfl, tq_is _ _ _ _ rfl, Kept.refl _ _, fun _ _ _ _ _ => trivial⟩
          | 8, ho, hsk =>
            cases hsk
          | 9, ho, hsk =>
            cases hsk
          | 10, ho, hsk =>
            cases hsk
          | 11, ho, hsk =>
            obtain rfl := Option.some.inj ho
            have e0 : a'.eval (.tmp 27) = .bool false := is_tq (hin 7 27 (by kernel_rfl) (by kernel_rfl)) rfl
            exact o_pickN (.tmp 27) (.tmp 30) rfl e0 ⟨_, rfl, tq_is _ _ _ _ rfl, Kept.refl _ _, fun _ _ _ _ _ => trivial⟩
          | 12, ho, hsk =>
            obtain rfl := Option.some.inj ho
            have e0 : a'.eval (.tmp 31) = .bool false := is_tq (hin 11 31 (by kernel_rfl) (by kernel_rfl)) rfl
            exact wp_move (.tmp 31) rfl _ e0 ⟨_, rfl, tq_is _ _ _ _ rfl, Kept.refl _ _, fun _ _ _ _ _ => trivial⟩
          | 13, ho, hsk =>
            cases hsk
          | 14, ho, hsk =>
            cases hsk
          | 15, ho, hsk =>
            cases hsk
          | 16, ho, hsk =>
            cases hsk
          | 17, ho, hsk =>
            cases hsk
          | 18, ho, hsk =>
            cases hsk
          | 19, ho, hsk =>
            obtain rfl := Option.some.inj ho
            have e0 : a'.eval (.tmp 32) = .bool false := is_tq (hin 12 32 (by kernel_rfl) (by kernel_rfl)) rfl
            exact o_pickN (.tmp 32) (.tmp 38) rfl e0 ⟨_, rfl, tq_is _ _ _ _ rfl, Kept.refl _ _, fun _ _ _ _ _ => trivial⟩
          | 20, ho, hsk =>
            obtain rfl := Option.some.inj ho
            have e0 : a'.eval (.tmp 39) = .bool false := is_tq (hin 19 39 (by kernel_rfl) (by kernel_rfl)) rfl
            exact wp_move (.tmp 39) rfl _ e0 ⟨_, rfl, tq_is _ _ _ _ rfl, Kept.refl _ _, fun _ _ _ _ _ => trivial⟩
          | 21, ho, hsk =>
            cases hsk
          | 22, ho, hsk =>
            cases hsk
          | 23, ho, hsk =>
            cases hsk
          | 24, ho, hsk =>
            cases hsk
          | 25, ho, hsk =>
            cases hsk
          | 26, ho, hsk =>
            cases hsk
          | 27, ho, hsk =>
            cases hsk
          | 28, ho, hsk =>
            cases hsk
          | 29, ho, hsk =>
            cases hsk
          | 30, ho, hsk =>
            obtain rfl := Option.some.inj ho
            have e0 : a'.eval (.tmp 40) = .bool false := is_tq (hin 20 40 (by kernel_rfl) (by kernel_rfl)) rfl
            exact o_pickN (.tmp 40) (.tmp 49) rfl e0 ⟨_, rfl, tq_is _ _ _ _ rfl, Kept.refl _ _, fun _ _ _ _ _ => trivial⟩
          | 31, ho, hsk =>
            obtain rfl := Option.some.inj ho
            have e0 : a'.eval (.tmp 50) = .bool false := is_tq (hin 30 50 (by kernel_rfl) (by kernel_rfl)) rfl
            exact wp_assignV (.tmp 50) rfl _ e0 ⟨_, rfl, tq_is _ _ _ _ rfl, Kept.refl _ _, fun _ _ _ _ _ => trivial⟩
        intro w9 hk9
        replace hk9 : Kept [] W7 w9 := ⟨hk9.os, hk9.tape, hk9.output, hk9.size, hk9.block⟩
        simp only [valsQ, List.map_cons, List.map_nil, Option.getD_some, Option.getD_none, List.take_succ_cons, List.take_zero, putAll, Act.put, List.setIfInBounds_toArray, List.set_cons_succ, List.set_cons_zero]
        refine wpAny_done (by kernel_rfl) ?_ _
        replace M := hide ((unhide M).step hk9)
        replace HU := hide ((unhide HU).kept hk9 (by simp))
        clear hk9
        go_wp2_with fail
        go_meet
        case rel => exact ⟨by rw [unhide HR], M, HU⟩
      by_cases ha8 : ¬ x.a < 8
      · have HR : Hid (r = false) := by show r = false; rw [unhide HRr]; unfold Vw.is Vw.isIn isNo; simp; omega
        refine wp_region_any mixed (wpAny_tq 32 rfl (by kernel_rfl) [some (aggV (vwC v)), some (.bool true), some (.bool true), some (.pointer (some ⟨b2, 0, none⟩)), some (.int .i64 x.a), some (.bool true), some (.bool true), some (.bool true), some (.pointer (some ⟨b2, 0, none⟩)), some (.int .i64 x.a), some (.bool false), some (.bool false), some (.bool false), none, none, none, none, none, none, some (.bool false), some (.bool false), none, none, none, none, none, none, none, none, none, some (.bool false), some (.bool false)] rfl (by kernel_rfl) (by kernel_rfl) ?_ ?_)
        · intro i o' hi hsk ho a' w2 hout hin hk2
          replace hk2 : Kept [] W7 w2 := ⟨hk2.os, hk2.tape, hk2.output, hk2.size, hk2.block⟩
          match i, ho, hsk with
          | 0, ho, hsk =>
            obtain rfl := Option.some.inj ho
            exact wp_loadA row26 (.tmp 3) rfl b1 0 ((hout 3 (by kernel_rfl)).trans rfl) (vwC v) (vwC_len hv) (((unhide M).step hk2).at 0 _ rfl).range ⟨_, rfl, tq_is _ _ _ _ rfl, Kept.refl _ _, fun _ _ _ _ _ => trivial⟩
          | 1, ho, hsk =>
            obtain rfl := Option.some.inj ho
            have e0 : a'.eval (.tmp 20) = aggV (vwC v) := is_tq (hin 0 20 (by kernel_rfl) (by kernel_rfl)) rfl
            refine wp_callF 13 _ _ rfl #[aggV (vwC v)] (by simp [e0]) (cg13 _ _) ((unhide (P13 _ ((unhide M).step hk2).first)).mono ?_)
            rintro e w3 ⟨rfl, hk3⟩
            exact ⟨_, rfl, _, rfl, tq_is _ _ _ _ rfl, hk3, fun _ _ _ _ _ => trivial⟩
          | 2, ho, hsk =>
            obtain rfl := Option.some.inj ho
            have e0 : a'.eval (.tmp 21) = .bool true := is_tq (hin 1 21 (by kernel_rfl) (by kernel_rfl)) rfl
            exact wp_move (.tmp 21) rfl _ e0 ⟨_, rfl, tq_is _ _ _ _ rfl, Kept.refl _ _, fun _ _ _ _ _ => trivial⟩
          | 3, ho, hsk =>
            obtain rfl := Option.some.inj ho
            exact o_fld42_0 (.tmp 4) rfl b2 ((hout 4 (by kernel_rfl)).trans rfl) ⟨_, rfl, tq_is _ _ _ _ rfl, Kept.refl _ _, fun _ _ _ _ _ => trivial⟩
          | 4, ho, hsk =>
            obtain rfl := Option.some.inj ho
            have e0 : a'.eval (.tmp 23) = .pointer (some ⟨b2, 0, none⟩) := is_tq (hin 3 23 (by kernel_rfl) (by kernel_rfl)) rfl
            exact o_load3 (.tmp 23) rfl ⟨b2, 0, none⟩ _ e0 (fits_cell (((unhide M).step hk2).at 1 _ rfl) 0 _ rfl) ⟨_, rfl, tq_is _ _ _ _ rfl, Kept.refl _ _, fun _ _ _ _ _ => trivial⟩
          | 5, ho, hsk =>
            obtain rfl := Option.some.inj ho
            have e0 : a'.eval (.tmp 24) = .int .i64 x.a := is_tq (hin 4 24 (by kernel_rfl) (by kernel_rfl)) rfl
            exact o_geqc (.tmp 24) 0 rfl x.a true (by simp; omega) e0 ⟨_, rfl, tq_is _ _ _ _ rfl, Kept.refl _ _, fun _ _ _ _ _ => trivial⟩
          | 6, ho, hsk =>
            obtain rfl := Option.some.inj ho
            have e0 : a'.eval (.tmp 22) = .bool true := is_tq (hin 2 22 (by kernel_rfl) (by kernel_rfl)) rfl
            have e1 : a'.eval (.tmp 25) = .bool true := is_tq (hin 5 25 (by kernel_rfl) (by kernel_rfl)) rfl
            exact o_pick (.tmp 22) (.tmp 25) rfl _ e0 e1 ⟨_, rfl, tq_is _ _ _ _ rfl, Kept.refl _ _, fun _ _ _ _ _ => trivial⟩
          | 7, ho, hsk =>
            obtain rfl := Option.some.inj ho
            have e0 : a'.eval (.tmp 26) = .bool true := is_tq (hin 6 26 (by kernel_rfl) (by kernel_rfl)) rfl
            exact wp_move (.tmp 26) rfl _ e0 ⟨_, rfl, tq_is _ _ _ _ rfl, Kept.refl _ _, fun _ _ _ _ _ => trivial⟩
          | 8, ho, hsk =>
            obtain rfl := Option.some.inj ho
            exact o_fld42_0 (.tmp 4) rfl b2 ((hout 4 (by kernel_rfl)).trans rfl) ⟨_, rfl, tq_is _ _ _ _ rfl, Kept.refl _ _, fun _ _ _ _ _ => trivial⟩
          | 9, ho, hsk =>
            obtain rfl := Option.some.inj ho
            have e0 : a'.eval (.tmp 28) = .pointer (some ⟨b2, 0, none⟩) := is_tq (hin 8 28 (by kernel_rfl) (by kernel_rfl)) rfl
            exact o_load3 (.tmp 28) rfl ⟨b2, 0, none⟩ _ e0 (fits_cell (((unhide M).step hk2).at 1 _ rfl) 0 _ rfl) ⟨_, rfl, tq_is _ _ _ _ rfl, Kept.refl _ _, fun _ _ _ _ _ => trivial⟩
          | 10, ho, hsk =>
            obtain rfl := Option.some.inj ho
            have e0 : a'.eval (.tmp 29) = .int .i64 x.a := is_tq (hin 9 29 (by kernel_rfl) (by kernel_rfl)) rfl
            exact o_lssc (.tmp 29) 8 rfl x.a false (by simp; omega) e0 ⟨_, rfl, tq_is _ _ _ _ rfl, Kept.refl _ _, fun _ _ _ _ _ => trivial⟩
          | 11, ho, hsk =>
            obtain rfl := Option.some.inj ho
            have e0 : a'.eval (.tmp 27) = .bool true := is_tq (hin 7 27 (by kernel_rfl) (by kernel_rfl)) rfl
            have e1 : a'.eval (.tmp 30) = .bool false := is_tq (hin 10 30 (by kernel_rfl) (by kernel_rfl)) rfl
            exact o_pick (.tmp 27) (.tmp 30) rfl _ e0 e1 ⟨_, rfl, tq_is _ _ _ _ rfl, Kept.refl _ _, fun _ _ _ _ _ => trivial⟩
          | 12, ho, hsk =>
            obtain rfl := Option.some.inj ho
            have e0 : a'.eval (.tmp 31) = .bool false := is_tq (hin 11 31 (by kernel_rfl) (by kernel_rfl)) rfl
            exact wp_move (.tmp 31) rfl _ e0 ⟨_, rfl, tq_is _ _ _ _ rfl, Kept.refl _ _, fun _ _ _ _ _ => trivial⟩
          | 13, ho, hsk =>
            cases hsk
          | 14, ho, hsk =>
            cases hsk
          | 15, ho, hsk =>
            cases hsk
          | 16, ho, hsk =>
            cases hsk
          | 17, ho, hsk =>
            cases hsk
          | 18, ho, hsk =>
            cases hsk
          | 19, ho, hsk =>
            obtain rfl := Option.some.inj ho
            have e0 : a'.eval (.tmp 32) = .bool false := is_tq (hin 12 32 (by kernel_rfl) (by kernel_rfl)) rfl
            exact o_pickN (.tmp 32) (.tmp 38) rfl e0 ⟨_, rfl, tq_is _ _ _ _ rfl, Kept.refl _ _, fun _ _ _ _ _ => trivial⟩
          | 20, ho, hsk =>
            obtain rfl := Option.some.inj ho
            have e0 : a'.eval (.tmp 39) = .bool false := is_tq (hin 19 39 (by kernel_rfl) (by kernel_rfl)) rfl
            exact wp_move (.tmp 39) rfl _ e0 ⟨_, rfl, tq_is _ _ _ _ rfl, Kept.refl _ _, fun _ _ _ _ _ => trivial⟩
          | 21, ho, hsk =>
            cases hsk
          | 22, ho, hsk =>
            cases hsk
          | 23, ho, hsk =>
            cases hsk
          | 24, ho, hsk =>
            cases hsk
          | 25, ho, hsk =>
            cases hsk
          | 26, ho, hsk =>
            cases hsk
          | 27, ho, hsk =>
            cases hsk
          | 28, ho, hsk =>
            cases hsk
          | 29, ho, hsk =>
            cases hsk
          | 30, ho, hsk =>
            obtain rfl := Option.some.inj ho
            have e0 : a'.eval (.tmp 40) = .bool false := is_tq (hin 20 40 (by kernel_rfl) (by kernel_rfl)) rfl
            exact o_pickN (.tmp 40) (.tmp 49) rfl e0 ⟨_, rfl, tq_is _ _ _ _ rfl, Kept.refl _ _, fun _ _ _ _ _ => trivial⟩
          | 31, ho, hsk =>
            obtain rfl := Option.some.inj ho
            have e0 : a'.eval (.tmp 50) = .bool false := is_tq (hin 30 50 (by kernel_rfl) (by kernel_rfl)) rfl
            exact wp_assignV (.tmp 50) rfl _ e0 ⟨_, rfl, tq_is _ _ _ _ rfl, Kept.refl _ _, fun _ _ _ _ _ => trivial⟩
        intro w9 hk9
        replace hk9 : Kept [] W7 w9 := ⟨hk9.os, hk9.tape, hk9.output, hk9.size, hk9.block⟩
        simp only [valsQ, List.map_cons, List.map_nil, Option.getD_some, Option.getD_none, List.take_succ_cons, List.take_zero, putAll, Act.put, List.setIfInBounds_toArray, List.set_cons_succ, List.set_cons_zero]
        refine wpAny_done (by kernel_rfl) ?_ _
        replace M := hide ((unhide M).step hk9)
        replace HU := hide ((unhide HU).kept hk9 (by simp))
        clear hk9
        go_wp2_with fail
        go_meet
        case rel => exact ⟨by rw [unhide HR], M, HU⟩
      obtain ⟨xa, hxa⟩ : ∃ xa : Nat, x.a = (xa : Int) := ⟨x.a.toNat, by omega⟩
      have HXA := hide hxa
      have hxa8 : xa < 8 := by omega
      obtain ⟨m0, m1⟩ := Blk.mem ((unhide M).at 0 _ rfl) hv (n := x.a) (by omega) (by omega)
      have HC1 : Hid (W7.cell? ⟨b1, 3 + xa * 2 + 1, none⟩ = some (.int .i64 (v.mem x.a).2)) := by show _ = _; have h9 := m1; rw [hxa] at h9 ⊢; simpa using h9
      cases hin : (v.mem x.a).1 with
      | false =>
        have HC0 : Hid (W7.cell? ⟨b1, 3 + xa * 2, none⟩ = some (.bool false)) := by show _ = _; have h9 := m0; rw [hin, hxa] at h9; simpa using h9
        have HR : Hid (r = false) := by show r = false; rw [unhide HRr]; unfold Vw.is Vw.isIn isNo; simp [hin]
        refine wp_region_any mixed (wpAny_tq 32 rfl (by kernel_rfl) [some (aggV (vwC v)), some (.bool true), some (.bool true), some (.pointer (some ⟨b2, 0, none⟩)), some (.int .i64 x.a), some (.bool true), some (.bool true), some (.bool true), some (.pointer (some ⟨b2, 0, none⟩)), some (.int .i64 x.a), some (.bool true), some (.bool true), some (.bool true), some (.pointer (some ⟨b2, 0, none⟩)), some (.int .i64 x.a), some (.pointer (some ⟨b1, 3, none⟩)), some (.pointer (some ⟨b1, 3 + xa * 2, none⟩)), some (.pointer (some ⟨b1, 3 + xa * 2, none⟩)), some (.bool false), some (.bool false), some (.bool false), none, none, none, none, none, none, none, none, none, some (.bool false), some (.bool false)] rfl (by kernel_rfl) (by kernel_rfl) ?_ ?_)
        · intro i o' hi hsk ho a' w2 hout hin hk2
          replace hk2 : Kept [] W7 w2 := ⟨hk2.os, hk2.tape, hk2.output, hk2.size, hk2.block⟩
          match i, ho, hsk with
          | 0, ho, hsk =>
            obtain rfl := Option.some.inj ho
            exact wp_loadA row26 (.tmp 3) rfl b1 0 ((hout 3 (by kernel_rfl)).trans rfl) (vwC v) (vwC_len hv) (((unhide M).step hk2).at 0 _ rfl).range ⟨_, rfl, tq_is _ _ _ _ rfl, Kept.refl _ _, fun _ _ _ _ _ => trivial⟩
          | 1, ho, hsk =>
            obtain rfl := Option.some.inj ho
            have e0 : a'.eval (.tmp 20) = aggV (vwC v) := is_tq (hin 0 20 (by kernel_rfl) (by kernel_rfl)) rfl
            refine wp_callF 13 _ _ rfl #[aggV (vwC v)] (by simp [e0]) (cg13 _ _) ((unhide (P13 _ ((unhide M).step hk2).first)).mono ?_)
            rintro e w3 ⟨rfl, hk3⟩
            exact ⟨_, rfl, _, rfl, tq_is _ _ _ _ rfl, hk3, fun _ _ _ _ _ => trivial⟩
          | 2, ho, hsk =>
            obtain rfl := Option.some.inj ho
            have e0 : a'.eval (.tmp 21) = .bool true := is_tq (hin 1 21 (by kernel_rfl) (by kernel_rfl)) rfl
            exact wp_move (.tmp 21) rfl _ e0 ⟨_, rfl, tq_is _ _ _ _ rfl, Kept.refl _ _, fun _ _ _ _ _ => trivial⟩
          | 3, ho, hsk =>
            obtain rfl := Option.some.inj ho
            exact o_fld42_0 (.tmp 4) rfl b2 ((hout 4 (by kernel_rfl)).trans rfl) ⟨_, rfl, tq_is _ _ _ _ rfl, Kept.refl _ _, fun _ _ _ _ _ => trivial⟩
          | 4, ho, hsk =>
            obtain rfl := Option.some.inj ho
            have e0 : a'.eval (.tmp 23) = .pointer (some ⟨b2, 0, none⟩) := is_tq (hin 3 23 (by kernel_rfl) (by kernel_rfl)) rfl
            exact o_load3 (.tmp 23) rfl ⟨b2, 0, none⟩ _ e0 (fits_cell (((unhide M).step hk2).at 1 _ rfl) 0 _ rfl) ⟨_, rfl, tq_is _ _ _ _ rfl, Kept.refl _ _, fun _ _ _ _ _ => trivial⟩
          | 5, ho, hsk =>
            obtain rfl := Option.some.inj ho
            have e0 : a'.eval (.tmp 24) = .int .i64 x.a := is_tq (hin 4 24 (by kernel_rfl) (by kernel_rfl)) rfl
            exact o_geqc (.tmp 24) 0 rfl x.a true (by simp; omega) e0 ⟨_, rfl, tq_is _ _ _ _ rfl, Kept.refl _ _, fun _ _ _ _ _ => trivial⟩
          | 6, ho, hsk =>
            obtain rfl := Option.some.inj ho
            have e0 : a'.eval (.tmp 22) = .bool true := is_tq (hin 2 22 (by kernel_rfl) (by kernel_rfl)) rfl
            have e1 : a'.eval (.tmp 25) = .bool true := is_tq (hin 5 25 (by kernel_rfl) (by kernel_rfl)) rfl
            exact o_pick (.tmp 22) (.tmp 25) rfl _ e0 e1 ⟨_, rfl, tq_is _ _ _ _ rfl, Kept.refl _ _, fun _ _ _ _ _ => trivial⟩
          | 7, ho, hsk =>
            obtain rfl := Option.some.inj ho
            have e0 : a'.eval (.tmp 26) = .bool true := is_tq (hin 6 26 (by kernel_rfl) (by kernel_rfl)) rfl
            exact wp_move (.tmp 26) rfl _ e0 ⟨_, rfl, tq_is _ _ _ _ rfl, Kept.refl _ _, fun _ _ _ _ _ => trivial⟩
          | 8, ho, hsk =>
            obtain rfl := Option.some.inj ho
            exact o_fld42_0 (.tmp 4) rfl b2 ((hout 4 (by kernel_rfl)).trans rfl) ⟨_, rfl, tq_is _ _ _ _ rfl, Kept.refl _ _, fun _ _ _ _ _ => trivial⟩
          | 9, ho, hsk =>
            obtain rfl := Option.some.inj ho
            have e0 : a'.eval (.tmp 28) = .pointer (some ⟨b2, 0, none⟩) := is_tq (hin 8 28 (by kernel_rfl) (by kernel_rfl)) rfl
            exact o_load3 (.tmp 28) rfl ⟨b2, 0, none⟩ _ e0 (fits_cell (((unhide M).step hk2).at 1 _ rfl) 0 _ rfl) ⟨_, rfl, tq_is _ _ _ _ rfl, Kept.refl _ _, fun _ _ _ _ _ => trivial⟩
          | 10, ho, hsk =>
            obtain rfl := Option.some.inj ho
            have e0 : a'.eval (.tmp 29) = .int .i64 x.a := is_tq (hin 9 29 (by kernel_rfl) (by kernel_rfl)) rfl
            exact o_lssc (.tmp 29) 8 rfl x.a true (by simp; omega) e0 ⟨_, rfl, tq_is _ _ _ _ rfl, Kept.refl _ _, fun _ _ _ _ _ => trivial⟩
          | 11, ho, hsk =>
            obtain rfl := Option.some.inj ho
            have e0 : a'.eval (.tmp 27) = .bool true := is_tq (hin 7 27 (by kernel_rfl) (by kernel_rfl)) rfl
            have e1 : a'.eval (.tmp 30) = .bool true := is_tq (hin 10 30 (by kernel_rfl) (by kernel_rfl)) rfl
            exact o_pick (.tmp 27) (.tmp 30) rfl _ e0 e1 ⟨_, rfl, tq_is _ _ _ _ rfl, Kept.refl _ _, fun _ _ _ _ _ => trivial⟩
          | 12, ho, hsk =>
            obtain rfl := Option.some.inj ho
            have e0 : a'.eval (.tmp 31) = .bool true := is_tq (hin 11 31 (by kernel_rfl) (by kernel_rfl)) rfl
            exact wp_move (.tmp 31) rfl _ e0 ⟨_, rfl, tq_is _ _ _ _ rfl, Kept.refl _ _, fun _ _ _ _ _ => trivial⟩
          | 13, ho, hsk =>
            obtain rfl := Option.some.inj ho
            exact o_fld42_0 (.tmp 4) rfl b2 ((hout 4 (by kernel_rfl)).trans rfl) ⟨_, rfl, tq_is _ _ _ _ rfl, Kept.refl _ _, fun _ _ _ _ _ => trivial⟩
          | 14, ho, hsk =>
            obtain rfl := Option.some.inj ho
            have e0 : a'.eval (.tmp 33) = .pointer (some ⟨b2, 0, none⟩) := is_tq (hin 13 33 (by kernel_rfl) (by kernel_rfl)) rfl
            exact o_load3 (.tmp 33) rfl ⟨b2, 0, none⟩ _ e0 (fits_cell (((unhide M).step hk2).at 1 _ rfl) 0 _ rfl) ⟨_, rfl, tq_is _ _ _ _ rfl, Kept.refl _ _, fun _ _ _ _ _ => trivial⟩
          | 15, ho, hsk =>
            obtain rfl := Option.some.inj ho
            exact o_fld26_3 (.tmp 3) rfl b1 ((hout 3 (by kernel_rfl)).trans rfl) ⟨_, rfl, tq_is _ _ _ _ rfl, Kept.refl _ _, fun _ _ _ _ _ => trivial⟩
          | 16, ho, hsk =>
            obtain rfl := Option.some.inj ho
            have e0 : a'.eval (.tmp 35) = .pointer (some ⟨b1, 3, none⟩) := is_tq (hin 15 35 (by kernel_rfl) (by kernel_rfl)) rfl
            have e1 : a'.eval (.tmp 34) = .int .i64 x.a := is_tq (hin 14 34 (by kernel_rfl) (by kernel_rfl)) rfl
            exact o_idx24 (.tmp 35) (.tmp 34) rfl b1 xa (by omega) e0 (e1.trans (by rw [unhide HXA])) ⟨_, rfl, tq_is _ _ _ _ rfl, Kept.refl _ _, fun _ _ _ _ _ => trivial⟩
          | 17, ho, hsk =>
            obtain rfl := Option.some.inj ho
            have e0 : a'.eval (.tmp 36) = .pointer (some ⟨b1, 3 + xa * 2, none⟩) := is_tq (hin 16 36 (by kernel_rfl) (by kernel_rfl)) rfl
            exact o_fld23_0 (.tmp 36) rfl _ _ e0 ⟨_, rfl, tq_is _ _ _ _ rfl, Kept.refl _ _, fun _ _ _ _ _ => trivial⟩
          | 18, ho, hsk =>
            obtain rfl := Option.some.inj ho
            have e0 : a'.eval (.tmp 37) = .pointer (some ⟨b1, 3 + xa * 2, none⟩) := is_tq (hin 17 37 (by kernel_rfl) (by kernel_rfl)) rfl
            exact o_load4 (.tmp 37) rfl _ _ e0 (hk2.cell (unhide HC0) (by simp)) ⟨_, rfl, tq_is _ _ _ _ rfl, Kept.refl _ _, fun _ _ _ _ _ => trivial⟩
          | 19, ho, hsk =>
            obtain rfl := Option.some.inj ho
            have e0 : a'.eval (.tmp 32) = .bool true := is_tq (hin 12 32 (by kernel_rfl) (by kernel_rfl)) rfl
            have e1 : a'.eval (.tmp 38) = .bool false := is_tq (hin 18 38 (by kernel_rfl) (by kernel_rfl)) rfl
            exact o_pick (.tmp 32) (.tmp 38) rfl _ e0 e1 ⟨_, rfl, tq_is _ _ _ _ rfl, Kept.refl _ _, fun _ _ _ _ _ => trivial⟩
          | 20, ho, hsk =>
            obtain rfl := Option.some.inj ho
            have e0 : a'.eval (.tmp 39) = .bool false := is_tq (hin 19 39 (by kernel_rfl) (by kernel_rfl)) rfl
            exact wp_move (.tmp 39) rfl _ e0 ⟨_, rfl, tq_is _ _ _ _ rfl, Kept.refl _ _, fun _ _ _ _ _ => trivial⟩
          | 21, ho, hsk =>
            cases hsk
          | 22, ho, hsk =>
            cases hsk
          | 23, ho, hsk =>
            cases hsk
          | 24, ho, hsk =>
            cases hsk
          | 25, ho, hsk =>
            cases hsk
          | 26, ho, hsk =>
            cases hsk
          | 27, ho, hsk =>
            cases hsk
          | 28, ho, hsk =>
            cases hsk
          | 29, ho, hsk =>
            cases hsk
          | 30, ho, hsk =>
            obtain rfl := Option.some.inj ho
            have e0 : a'.eval (.tmp 40) = .bool false := is_tq (hin 20 40 (by kernel_rfl) (by kernel_rfl)) rfl
            exact o_pickN (.tmp 40) (.tmp 49) rfl e0 ⟨_, rfl, tq_is _ _ _ _ rfl, Kept.refl _ _, fun _ _ _ _ _ => trivial⟩
          | 31, ho, hsk =>
            obtain rfl := Option.some.inj ho
            have e0 : a'.eval (.tmp 50) = .bool false := is_tq (hin 30 50 (by kernel_rfl) (by kernel_rfl)) rfl
            exact wp_assignV (.tmp 50) rfl _ e0 ⟨_, rfl, tq_is _ _ _ _ rfl, Kept.refl _ _, fun _ _ _ _ _ => trivial⟩
        intro w9 hk9
        replace hk9 : Kept [] W7 w9 := ⟨hk9.os, hk9.tape, hk9.output, hk9.size, hk9.block⟩
        simp only [valsQ, List.map_cons, List.map_nil, Option.getD_some, Option.getD_none, List.take_succ_cons, List.take_zero, putAll, Act.put, List.setIfInBounds_toArray, List.set_cons_succ, List.set_cons_zero]
        refine wpAny_done (by kernel_rfl) ?_ _
        replace M := hide ((unhide M).step hk9)
        replace HU := hide ((unhide HU).kept hk9 (by simp))
        clear hk9
        go_wp2_with fail
        go_meet
        case rel => exact ⟨by rw [unhide HR], M, HU⟩
      | true =>
        have HC0 : Hid (W7.cell? ⟨b1, 3 + xa * 2, none⟩ = some (.bool true)) := by show _ = _; have h9 := m0; rw [hin, hxa] at h9; simpa using h9
        obtain ⟨me, hme⟩ : ∃ me, (v.mem x.a).2 = me := ⟨_, rfl⟩
        rw [hme] at HC1
        have HR : Hid (decide (me = x.e) = r) := by show _ = r; rw [unhide HRr, ← hme]; unfold Vw.is Vw.isIn isNo; simp [hmay, hin]; omega
        refine wp_region_any mixed (wpAny_tq 32 rfl (by kernel_rfl) [some (aggV (vwC v)), some (.bool true), some (.bool true), some (.pointer (some ⟨b2, 0, none⟩)), some (.int .i64 x.a), some (.bool true), some (.bool true), some (.bool true), some (.pointer (some ⟨b2, 0, none⟩)), some (.int .i64 x.a), some (.bool true), some (.bool true), some (.bool true), some (.pointer (some ⟨b2, 0, none⟩)), some (.int .i64 x.a), some (.pointer (some ⟨b1, 3, none⟩)), some (.pointer (some ⟨b1, 3 + xa * 2, none⟩)), some (.pointer (some ⟨b1, 3 + xa * 2, none⟩)), some (.bool true), some (.bool true), some (.bool true), some (.pointer (some ⟨b2, 0, none⟩)), some (.int .i64 x.a), some (.pointer (some ⟨b1, 3, none⟩)), some (.pointer (some ⟨b1, 3 + xa * 2, none⟩)), some (.pointer (some ⟨b1, 3 + xa * 2 + 1, none⟩)), some (.int .i64 me), some (.pointer (some ⟨b2, 4, none⟩)), some (.int .i64 x.e), some (.bool r), some (.bool r), some (.bool r)] rfl (by kernel_rfl) (by kernel_rfl) ?_ ?_)
        · intro i o' hi hsk ho a' w2 hout hin hk2
          replace hk2 : Kept [] W7 w2 := ⟨hk2.os, hk2.tape, hk2.output, hk2.size, hk2.block⟩
          match i, ho, hsk with
          | 0, ho, hsk =>
            obtain rfl := Option.some.inj ho
            exact wp_loadA row26 (.tmp 3) rfl b1 0 ((hout 3 (by kernel_rfl)).trans rfl) (vwC v) (vwC_len hv) (((unhide M).step hk2).at 0 _ rfl).range ⟨_, rfl, tq_is _ _ _ _ rfl, Kept.refl _ _, fun _ _ _ _ _ => trivial⟩
          | 1, ho, hsk =>
            obtain rfl := Option.some.inj ho
            have e0 : a'.eval (.tmp 20) = aggV (vwC v) := is_tq (hin 0 20 (by kernel_rfl) (by kernel_rfl)) rfl
            refine wp_callF 13 _ _ rfl #[aggV (vwC v)] (by simp [e0]) (cg13 _ _) ((unhide (P13 _ ((unhide M).step hk2).first)).mono ?_)
            rintro e w3 ⟨rfl, hk3⟩
            exact ⟨_, rfl, _, rfl, tq_is _ _ _ _ rfl, hk3, fun _ _ _ _ _ => trivial⟩
          | 2, ho, hsk =>
            obtain rfl := Option.some.inj ho
            have e0 : a'.eval (.tmp 21) = .bool true := is_tq (hin 1 21 (by kernel_rfl) (by kernel_rfl)) rfl
            exact wp_move (.tmp 21) rfl _ e0 ⟨_, rfl, tq_is _ _ _ _ rfl, Kept.refl _ _, fun _ _ _ _ _ => trivial⟩
          | 3, ho, hsk =>
            obtain rfl := Option.some.inj ho
            exact o_fld42_0 (.tmp 4) rfl b2 ((hout 4 (by kernel_rfl)).trans rfl) ⟨_, rfl, tq_is _ _ _ _ rfl, Kept.refl _ _, fun _ _ _ _ _ => trivial⟩
          | 4, ho, hsk =>
            obtain rfl := Option.some.inj ho
            have e0 : a'.eval (.tmp 23) = .pointer (some ⟨b2, 0, none⟩) := is_tq (hin 3 23 (by kernel_rfl) (by kernel_rfl)) rfl
            exact o_load3 (.tmp 23) rfl ⟨b2, 0, none⟩ _ e0 (fits_cell (((unhide M).step hk2).at 1 _ rfl) 0 _ rfl) ⟨_, rfl, tq_is _ _ _ _ rfl, Kept.refl _ _, fun _ _ _ _ _ => trivial⟩
          | 5, ho, hsk =>
            obtain rfl := Option.some.inj ho
            have e0 : a'.eval (.tmp 24) = .int .i64 x.a := is_tq (hin 4 24 (by kernel_rfl) (by kernel_rfl)) rfl
            exact o_geqc (.tmp 24) 0 rfl x.a true (by simp; omega) e0 ⟨_, rfl, tq_is _ _ _ _ rfl, Kept.refl _ _, fun _ _ _ _ _ => trivial⟩
          | 6, ho, hsk =>
            obtain rfl := Option.some.inj ho
            have e0 : a'.eval (.tmp 22) = .bool true := is_tq (hin 2 22 (by kernel_rfl) (by kernel_rfl)) rfl
            have e1 : a'.eval (.tmp 25) = .bool true := is_tq (hin 5 25 (by kernel_rfl) (by kernel_rfl)) rfl
            exact o_pick (.tmp 22) (.tmp 25) rfl _ e0 e1 ⟨_, rfl, tq_is _ _ _ _ rfl, Kept.refl _ _, fun _ _ _ _ _ => trivial⟩
          | 7, ho, hsk =>
            obtain rfl := Option.some.inj ho
            have e0 : a'.eval (.tmp 26) = .bool true := is_tq (hin 6 26 (by kernel_rfl) (by kernel_rfl)) rfl
            exact wp_move (.tmp 26) rfl _ e0 ⟨_, rfl, tq_is _ _ _ _ rfl, Kept.refl _ _, fun _ _ _ _ _ => trivial⟩
          | 8, ho, hsk =>
            obtain rfl := Option.some.inj ho
            exact o_fld42_0 (.tmp 4) rfl b2 ((hout 4 (by kernel_rfl)).trans rfl) ⟨_, rfl, tq_is _ _ _ _ rfl, Kept.refl _ _, fun _ _ _ _ _ => trivial⟩
          | 9, ho, hsk =>
            obtain rfl := Option.some.inj ho
            have e0 : a'.eval (.tmp 28) = .pointer (some ⟨b2, 0, none⟩) := is_tq (hin 8 28 (by kernel_rfl) (by kernel_rfl)) rfl
            exact o_load3 (.tmp 28) rfl ⟨b2, 0, none⟩ _ e0 (fits_cell (((unhide M).step hk2).at 1 _ rfl) 0 _ rfl) ⟨_, rfl, tq_is _ _ _ _ rfl, Kept.refl _ _, fun _ _ _ _ _ => trivial⟩
          | 10, ho, hsk =>
            obtain rfl := Option.some.inj ho
            have e0 : a'.eval (.tmp 29) = .int .i64 x.a := is_tq (hin 9 29 (by kernel_rfl) (by kernel_rfl)) rfl
            exact o_lssc (.tmp 29) 8 rfl x.a true (by simp; omega) e0 ⟨_, rfl, tq_is _ _ _ _ rfl, Kept.refl _ _, fun _ _ _ _ _ => trivial⟩
          | 11, ho, hsk =>
            obtain rfl := Option.some.inj ho
            have e0 : a'.eval (.tmp 27) = .bool true := is_tq (hin 7 27 (by kernel_rfl) (by kernel_rfl)) rfl
            have e1 : a'.eval (.tmp 30) = .bool true := is_tq (hin 10 30 (by kernel_rfl) (by kernel_rfl)) rfl
            exact o_pick (.tmp 27) (.tmp 30) rfl _ e0 e1 ⟨_, rfl, tq_is _ _ _ _ rfl, Kept.refl _ _, fun _ _ _ _ _ => trivial⟩
          | 12, ho, hsk =>
            obtain rfl := Option.some.inj ho
            have e0 : a'.eval (.tmp 31) = .bool true := is_tq (hin 11 31 (by kernel_rfl) (by kernel_rfl)) rfl
            exact wp_move (.tmp 31) rfl _ e0 ⟨_, rfl, tq_is _ _ _ _ rfl, Kept.refl _ _, fun _ _ _ _ _ => trivial⟩
          | 13, ho, hsk =>
            obtain rfl := Option.some.inj ho
            exact o_fld42_0 (.tmp 4) rfl b2 ((hout 4 (by kernel_rfl)).trans rfl) ⟨_, rfl, tq_is _ _ _ _ rfl, Kept.refl _ _, fun _ _ _ _ _ => trivial⟩
          | 14, ho, hsk =>
            obtain rfl := Option.some.inj ho
            have e0 : a'.eval (.tmp 33) = .pointer (some ⟨b2, 0, none⟩) := is_tq (hin 13 33 (by kernel_rfl) (by kernel_rfl)) rfl
            exact o_load3 (.tmp 33) rfl ⟨b2, 0, none⟩ _ e0 (fits_cell (((unhide M).step hk2).at 1 _ rfl) 0 _ rfl) ⟨_, rfl, tq_is _ _ _ _ rfl, Kept.refl _ _, fun _ _ _ _ _ => trivial⟩
          | 15, ho, hsk =>
            obtain rfl := Option.some.inj ho
            exact o_fld26_3 (.tmp 3) rfl b1 ((hout 3 (by kernel_rfl)).trans rfl) ⟨_, rfl, tq_is _ _ _ _ rfl, Kept.refl _ _, fun _ _ _ _ _ => trivial⟩
          | 16, ho, hsk =>
            obtain rfl := Option.some.inj ho
            have e0 : a'.eval (.tmp 35) = .pointer (some ⟨b1, 3, none⟩) := is_tq (hin 15 35 (by kernel_rfl) (by kernel_rfl)) rfl
            have e1 : a'.eval (.tmp 34) = .int .i64 x.a := is_tq (hin 14 34 (by kernel_rfl) (by kernel_rfl)) rfl
            exact o_idx24 (.tmp 35) (.tmp 34) rfl b1 xa (by omega) e0 (e1.trans (by rw [unhide HXA])) ⟨_, rfl, tq_is _ _ _ _ rfl, Kept.refl _ _, fun _ _ _ _ _ => trivial⟩
          | 17, ho, hsk =>
            obtain rfl := Option.some.inj ho
            have e0 : a'.eval (.tmp 36) = .pointer (some ⟨b1, 3 + xa * 2, none⟩) := is_tq (hin 16 36 (by kernel_rfl) (by kernel_rfl)) rfl
            exact o_fld23_0 (.tmp 36) rfl _ _ e0 ⟨_, rfl, tq_is _ _ _ _ rfl, Kept.refl _ _, fun _ _ _ _ _ => trivial⟩
          | 18, ho, hsk =>
            obtain rfl := Option.some.inj ho
            have e0 : a'.eval (.tmp 37) = .pointer (some ⟨b1, 3 + xa * 2, none⟩) := is_tq (hin 17 37 (by kernel_rfl) (by kernel_rfl)) rfl
            exact o_load4 (.tmp 37) rfl _ _ e0 (hk2.cell (unhide HC0) (by simp)) ⟨_, rfl, tq_is _ _ _ _ rfl, Kept.refl _ _, fun _ _ _ _ _ => trivial⟩
          | 19, ho, hsk =>
            obtain rfl := Option.some.inj ho
            have e0 : a'.eval (.tmp 32) = .bool true := is_tq (hin 12 32 (by kernel_rfl) (by kernel_rfl)) rfl
            have e1 : a'.eval (.tmp 38) = .bool true := is_tq (hin 18 38 (by kernel_rfl) (by kernel_rfl)) rfl
            exact o_pick (.tmp 32) (.tmp 38) rfl _ e0 e1 ⟨_, rfl, tq_is _ _ _ _ rfl, Kept.refl _ _, fun _ _ _ _ _ => trivial⟩
          | 20, ho, hsk =>
            obtain rfl := Option.some.inj ho
            have e0 : a'.eval (.tmp 39) = .bool true := is_tq (hin 19 39 (by kernel_rfl) (by kernel_rfl)) rfl
            exact wp_move (.tmp 39) rfl _ e0 ⟨_, rfl, tq_is _ _ _ _ rfl, Kept.refl _ _, fun _ _ _ _ _ => trivial⟩
          | 21, ho, hsk =>
            obtain rfl := Option.some.inj ho
            exact o_fld42_0 (.tmp 4) rfl b2 ((hout 4 (by kernel_rfl)).trans rfl) ⟨_, rfl, tq_is _ _ _ _ rfl, Kept.refl _ _, fun _ _ _ _ _ => trivial⟩
          | 22, ho, hsk =>
            obtain rfl := Option.some.inj ho
            have e0 : a'.eval (.tmp 41) = .pointer (some ⟨b2, 0, none⟩) := is_tq (hin 21 41 (by kernel_rfl) (by kernel_rfl)) rfl
            exact o_load3 (.tmp 41) rfl ⟨b2, 0, none⟩ _ e0 (fits_cell (((unhide M).step hk2).at 1 _ rfl) 0 _ rfl) ⟨_, rfl, tq_is _ _ _ _ rfl, Kept.refl _ _, fun _ _ _ _ _ => trivial⟩
          | 23, ho, hsk =>
            obtain rfl := Option.some.inj ho
            exact o_fld26_3 (.tmp 3) rfl b1 ((hout 3 (by kernel_rfl)).trans rfl) ⟨_, rfl, tq_is _ _ _ _ rfl, Kept.refl _ _, fun _ _ _ _ _ => trivial⟩
          | 24, ho, hsk =>
            obtain rfl := Option.some.inj ho
            have e0 : a'.eval (.tmp 43) = .pointer (some ⟨b1, 3, none⟩) := is_tq (hin 23 43 (by kernel_rfl) (by kernel_rfl)) rfl
            have e1 : a'.eval (.tmp 42) = .int .i64 x.a := is_tq (hin 22 42 (by kernel_rfl) (by kernel_rfl)) rfl
            exact o_idx24 (.tmp 43) (.tmp 42) rfl b1 xa (by omega) e0 (e1.trans (by rw [unhide HXA])) ⟨_, rfl, tq_is _ _ _ _ rfl, Kept.refl _ _, fun _ _ _ _ _ => trivial⟩
          | 25, ho, hsk =>
            obtain rfl := Option.some.inj ho
            have e0 : a'.eval (.tmp 44) = .pointer (some ⟨b1, 3 + xa * 2, none⟩) := is_tq (hin 24 44 (by kernel_rfl) (by kernel_rfl)) rfl
            exact o_fld23_1' (.tmp 44) rfl _ _ e0 ⟨_, rfl, tq_is _ _ _ _ rfl, Kept.refl _ _, fun _ _ _ _ _ => trivial⟩
          | 26, ho, hsk =>
            obtain rfl := Option.some.inj ho
            have e0 : a'.eval (.tmp 45) = .pointer (some ⟨b1, 3 + xa * 2 + 1, none⟩) := is_tq (hin 25 45 (by kernel_rfl) (by kernel_rfl)) rfl
            exact o_load2 (.tmp 45) rfl _ _ e0 (hk2.cell (unhide HC1) (by simp)) ⟨_, rfl, tq_is _ _ _ _ rfl, Kept.refl _ _, fun _ _ _ _ _ => trivial⟩
          | 27, ho, hsk =>
            obtain rfl := Option.some.inj ho
            exact o_fld42_4 (.tmp 4) rfl b2 ((hout 4 (by kernel_rfl)).trans rfl) ⟨_, rfl, tq_is _ _ _ _ rfl, Kept.refl _ _, fun _ _ _ _ _ => trivial⟩
          | 28, ho, hsk =>
            obtain rfl := Option.some.inj ho
            have e0 : a'.eval (.tmp 47) = .pointer (some ⟨b2, 4, none⟩) := is_tq (hin 27 47 (by kernel_rfl) (by kernel_rfl)) rfl
            exact o_load2 (.tmp 47) rfl _ _ e0 (fits_cell (((unhide M).step hk2).at 1 _ rfl) 4 _ rfl) ⟨_, rfl, tq_is _ _ _ _ rfl, Kept.refl _ _, fun _ _ _ _ _ => trivial⟩
          | 29, ho, hsk =>
            obtain rfl := Option.some.inj ho
            have e0 : a'.eval (.tmp 46) = .int .i64 me := is_tq (hin 26 46 (by kernel_rfl) (by kernel_rfl)) rfl
            have e1 : a'.eval (.tmp 48) = .int .i64 x.e := is_tq (hin 28 48 (by kernel_rfl) (by kernel_rfl)) rfl
            exact o_eqlV2 (.tmp 46) (.tmp 48) rfl _ _ r (unhide HR) e0 e1 ⟨_, rfl, tq_is _ _ _ _ rfl, Kept.refl _ _, fun _ _ _ _ _ => trivial⟩
          | 30, ho, hsk =>
            obtain rfl := Option.some.inj ho
            have e0 : a'.eval (.tmp 40) = .bool true := is_tq (hin 20 40 (by kernel_rfl) (by kernel_rfl)) rfl
            have e1 : a'.eval (.tmp 49) = .bool r := is_tq (hin 29 49 (by kernel_rfl) (by kernel_rfl)) rfl
            exact o_pick (.tmp 40) (.tmp 49) rfl _ e0 e1 ⟨_, rfl, tq_is _ _ _ _ rfl, Kept.refl _ _, fun _ _ _ _ _ => trivial⟩
          | 31, ho, hsk =>
            obtain rfl := Option.some.inj ho
            have e0 : a'.eval (.tmp 50) = .bool r := is_tq (hin 30 50 (by kernel_rfl) (by kernel_rfl)) rfl
            exact wp_assignV (.tmp 50) rfl _ e0 ⟨_, rfl, tq_is _ _ _ _ rfl, Kept.refl _ _, fun _ _ _ _ _ => trivial⟩
        intro w9 hk9
        replace hk9 : Kept [] W7 w9 := ⟨hk9.os, hk9.tape, hk9.output, hk9.size, hk9.block⟩
        simp only [valsQ, List.map_cons, List.map_nil, Option.getD_some, List.take_succ_cons, List.take_zero, putAll, Act.put, List.setIfInBounds_toArray, List.set_cons_succ, List.set_cons_zero]
        refine wpAny_done (by kernel_rfl) ?_ _
        replace M := hide ((unhide M).step hk9)
        replace HU := hide ((unhide HU).kept hk9 (by simp))
        clear hk9
        go_wp2_with fail
        go_meet
        case rel => exact ⟨rfl, M, HU⟩
  case rest =>
    clear M HU
    obtain ⟨rfl, M, HU⟩ := hcut
    clear HRr
    go_wp2_with (
      first
      | (refine wpLoadA row26 rfl (.tmp 3) rfl b1 0 rfl (vwC v) (vwC_len hv) ((unhide M).at 0 _ rfl).range ?_
         have c2 := fits_cell ((unhide M).at 1 _ rfl) 2 _ rfl
         refine Stp.go ?_))
    constructor
    go_wp2_with (
      first
      | (go_at_call 23
         refine (unhide (P23 _ (unhide M).first)).mono ?_
         rintro e W21 ⟨rfl, K21⟩
         replace HU : Hid (Ints W21 w.heap.size (.slice ao Ls.length uc) Ls) := hide ((unhide HU).kept K21 (by simp))
         replace M : Hid (Mm w W21 [(b1, 26, vwC v), (b2, 42, x.C), (b3, 3, [.int .i64 leave]), (b4, 4, [.bool false]), (b6, 50, [(.slice ao Ls.length uc)])]) := hide ((unhide M).step K21)
         clear K21
         clear c2
         refine Stp.go ?_))
    constructor
    go_wp2_with (
      first
      | (refine wpLoadA row26 rfl (.tmp 3) rfl b1 0 rfl (vwC v) (vwC_len hv) ((unhide M).at 0 _ rfl).range ?_
         have c2 := fits_cell ((unhide M).at 1 _ rfl) 2 _ rfl
         refine Stp.go ?_))
    constructor
    go_wp2_with (
      first
      | (go_at_call 24
         refine (unhide (P24 _ (unhide M).first)).mono ?_
         rintro e W22 ⟨rfl, K22⟩
         replace HU : Hid (Ints W22 w.heap.size (.slice ao Ls.length uc) Ls) := hide ((unhide HU).kept K22 (by simp))
         replace M : Hid (Mm w W22 [(b1, 26, vwC v), (b2, 42, x.C), (b3, 3, [.int .i64 leave]), (b4, 4, [.bool false]), (b6, 50, [(.slice ao Ls.length uc)])]) := hide ((unhide M).step K22)
         clear K22
         clear c2
         refine Stp.go ?_))
    constructor
    go_upto_region 5 with fail
    refine wp_region_any mixed (wpAny_gz 41 rfl [some (aggV (vwC v)), some (.pointer (some ⟨b2, 0, none⟩)), some (.int .i64 x.a), some (.pointer (some ⟨b2, 4, none⟩)), some (.int .i64 x.e), some (.bool r), some (.bool r), some (.bool false), some (.bool false), some (aggV (vwC v)), some (.int .i64 Ls.length), some ((.slice ao Ls.length uc)), some (.int .i64 Ls.length), some (.bool false), some (.bool false), some (.bool false), some (.int .i64 m), some (.int .i64 m), some (.bool false), some (.bool false), some (.bool false), some (.bool ok), some (.bool ok), some (.bool false), some (.bool false), some (.bool false), some (aggV (vwC v)), some (.pointer (some ⟨b2, 0, none⟩)), some (.int .i64 x.a), some (.pointer (some ⟨b2, 3, none⟩)), some (.int .i64 x.q), none, some (aggV (vwC v)), some (.pointer (some ⟨b2, 0, none⟩)), some (.int .i64 x.a), some (.pointer (some ⟨b2, 3, none⟩)), some (.int .i64 x.q), none, some (.bool true), some (.bool false), some (.bool false)] (by kernel_rfl) rfl (by kernel_rfl) (fun l vs W => (SY W22 w.heap.size Pg) (fun i => l.getD i false) vs W) (⟨⟨rfl, rfl, rfl, Nat.le_refl _, fun _ _ _ => rfl⟩, (fun h => by cases h), fun h => by cases h⟩) ?_ ?_)
    · intro ix o' hi ho a' w2 l vs hls hlf hJ hout hin hdep hnot
      match ix, ho with
      | 0, ho =>
        obtain rfl := Option.some.inj ho
        have e0 := hout 3 (by kernel_rfl)
        replace e0 : a'.eval (.tmp 3) = _ := e0.trans rfl
        exact wp_loadA row26 (.tmp 3) rfl b1 0 e0 (vwC v) (vwC_len hv) (((unhide M).step hJ.1).at 0 _ rfl).range ⟨_, rfl, told_of rfl, keepG (St := (SY W22 w.heap.size Pg)) [31, 37] SY.loc (by omega) (by decide) hJ⟩
      | 1, ho =>
        obtain rfl := Option.some.inj ho
        have e0 := hout 4 (by kernel_rfl)
        replace e0 : a'.eval (.tmp 4) = _ := e0.trans rfl
        exact o_fld42_0 (.tmp 4) rfl b2 e0 ⟨_, rfl, told_of rfl, keepG (St := (SY W22 w.heap.size Pg)) [31, 37] SY.loc (by omega) (by decide) hJ⟩
      | 2, ho =>
        obtain rfl := Option.some.inj ho
        have e0 : a'.eval (.tmp 66) = .pointer (some ⟨b2, 0, none⟩) := by have h9 := hin 1 66 (by kernel_rfl) (by kernel_rfl); exact h9.1.trans (told_is _ h9.2 rfl)
        exact o_load3 (.tmp 66) rfl _ _ e0 (fits_cell (((unhide M).step hJ.1).at 1 _ rfl) 0 _ rfl) ⟨_, rfl, told_of rfl, keepG (St := (SY W22 w.heap.size Pg)) [31, 37] SY.loc (by omega) (by decide) hJ⟩
      | 3, ho =>
        obtain rfl := Option.some.inj ho
        have e0 := hout 4 (by kernel_rfl)
        replace e0 : a'.eval (.tmp 4) = _ := e0.trans rfl
        exact o_fld42_4 (.tmp 4) rfl b2 e0 ⟨_, rfl, told_of rfl, keepG (St := (SY W22 w.heap.size Pg)) [31, 37] SY.loc (by omega) (by decide) hJ⟩
      | 4, ho =>
        obtain rfl := Option.some.inj ho
        have e0 : a'.eval (.tmp 68) = .pointer (some ⟨b2, 4, none⟩) := by have h9 := hin 3 68 (by kernel_rfl) (by kernel_rfl); exact h9.1.trans (told_is _ h9.2 rfl)
        exact o_load2 (.tmp 68) rfl _ _ e0 (fits_cell (((unhide M).step hJ.1).at 1 _ rfl) 4 _ rfl) ⟨_, rfl, told_of rfl, keepG (St := (SY W22 w.heap.size Pg)) [31, 37] SY.loc (by omega) (by decide) hJ⟩
      | 5, ho =>
        obtain rfl := Option.some.inj ho
        have e0 : a'.eval (.tmp 65) = aggV (vwC v) := by have h9 := hin 0 65 (by kernel_rfl) (by kernel_rfl); exact h9.1.trans (told_is _ h9.2 rfl)
        have e1 : a'.eval (.tmp 67) = .int .i64 x.a := by have h9 := hin 2 67 (by kernel_rfl) (by kernel_rfl); exact h9.1.trans (told_is _ h9.2 rfl)
        have e2 : a'.eval (.tmp 69) = .int .i64 x.e := by have h9 := hin 4 69 (by kernel_rfl) (by kernel_rfl); exact h9.1.trans (told_is _ h9.2 rfl)
        refine wp_callF 25 _ _ rfl #[aggV (vwC v), .int .i64 x.a, .int .i64 x.e] (by simp [e0, e1, e2]) (cg25 _ _) ((unhide (P25 _ ((unhide M).step hJ.1).first)).mono ?_)
        rintro e w3 ⟨rfl, hk3⟩
        exact ⟨_, rfl, _, rfl, told_of rfl, keepG (St := (SY W22 w.heap.size Pg)) [31, 37] SY.loc (by omega) (by decide) (SY.step hJ hk3)⟩
      | 6, ho =>
        obtain rfl := Option.some.inj ho
        have e0 := hout 8 (by kernel_rfl)
        replace e0 : a'.eval (.tmp 8) = _ := e0.trans rfl
        exact wp_move (.tmp 8) rfl _ e0 ⟨_, rfl, told_of rfl, keepG (St := (SY W22 w.heap.size Pg)) [31, 37] SY.loc (by omega) (by decide) hJ⟩
      | 7, ho =>
        obtain rfl := Option.some.inj ho
        have e0 : a'.eval (.tmp 70) = .bool r := by have h9 := hin 5 70 (by kernel_rfl) (by kernel_rfl); exact h9.1.trans (told_is _ h9.2 rfl)
        have e1 : a'.eval (.tmp 71) = .bool r := by have h9 := hin 6 71 (by kernel_rfl) (by kernel_rfl); exact h9.1.trans (told_is _ h9.2 rfl)
        exact o_neq4 (.tmp 70) (.tmp 71) rfl r e0 e1 ⟨_, rfl, told_of rfl, keepG (St := (SY W22 w.heap.size Pg)) [31, 37] SY.loc (by omega) (by decide) hJ⟩
      | 8, ho =>
        obtain rfl := Option.some.inj ho
        have e0 : a'.eval (.tmp 72) = .bool false := by have h9 := hin 7 72 (by kernel_rfl) (by kernel_rfl); exact h9.1.trans (told_is _ h9.2 rfl)
        exact wp_move (.tmp 72) rfl _ e0 ⟨_, rfl, told_of rfl, keepG (St := (SY W22 w.heap.size Pg)) [31, 37] SY.loc (by omega) (by decide) hJ⟩
      | 9, ho =>
        obtain rfl := Option.some.inj ho
        have e0 := hout 3 (by kernel_rfl)
        replace e0 : a'.eval (.tmp 3) = _ := e0.trans rfl
        exact wp_loadA row26 (.tmp 3) rfl b1 0 e0 (vwC v) (vwC_len hv) (((unhide M).step hJ.1).at 0 _ rfl).range ⟨_, rfl, told_of rfl, keepG (St := (SY W22 w.heap.size Pg)) [31, 37] SY.loc (by omega) (by decide) hJ⟩
      | 10, ho =>
        obtain rfl := Option.some.inj ho
        have e0 : a'.eval (.tmp 74) = aggV (vwC v) := by have h9 := hin 9 74 (by kernel_rfl) (by kernel_rfl); exact h9.1.trans (told_is _ h9.2 rfl)
        refine wp_callF 26 _ _ rfl #[aggV (vwC v)] (by simp [e0]) (cg26 _ _) ((unhide (P26 _ ((unhide M).step hJ.1).first)).mono ?_)
        rintro e w3 ⟨rfl, hk3⟩
        exact ⟨_, rfl, _, rfl, told_of rfl, keepG (St := (SY W22 w.heap.size Pg)) [31, 37] SY.loc (by omega) (by decide) (SY.step hJ hk3)⟩
      | 11, ho =>
        obtain rfl := Option.some.inj ho
        have e0 := hout 7 (by kernel_rfl)
        replace e0 : a'.eval (.tmp 7) = _ := e0.trans rfl
        exact o_load50 (.tmp 7) rfl _ _ e0 (fits_cell (((unhide M).step hJ.1).at 4 _ rfl) 0 _ rfl) ⟨_, rfl, told_of rfl, keepG (St := (SY W22 w.heap.size Pg)) [31, 37] SY.loc (by omega) (by decide) hJ⟩
      | 12, ho =>
        obtain rfl := Option.some.inj ho
        have e0 : a'.eval (.tmp 76) = (.slice ao Ls.length uc) := by have h9 := hin 11 76 (by kernel_rfl) (by kernel_rfl); exact h9.1.trans (told_is _ h9.2 rfl)
        exact o_len50 76 rfl _ _ _ e0 ⟨_, rfl, told_of rfl, keepG (St := (SY W22 w.heap.size Pg)) [31, 37] SY.loc (by omega) (by decide) hJ⟩
      | 13, ho =>
        obtain rfl := Option.some.inj ho
        have e0 : a'.eval (.tmp 75) = .int .i64 Ls.length := by have h9 := hin 10 75 (by kernel_rfl) (by kernel_rfl); exact h9.1.trans (told_is _ h9.2 rfl)
        have e1 : a'.eval (.tmp 77) = .int .i64 Ls.length := by have h9 := hin 12 77 (by kernel_rfl) (by kernel_rfl); exact h9.1.trans (told_is _ h9.2 rfl)
        exact o_neqI (.tmp 75) (.tmp 77) rfl _ e0 e1 ⟨_, rfl, told_of rfl, keepG (St := (SY W22 w.heap.size Pg)) [31, 37] SY.loc (by omega) (by decide) hJ⟩
      | 14, ho =>
        obtain rfl := Option.some.inj ho
        have e0 : a'.eval (.tmp 73) = .bool false := by have h9 := hin 8 73 (by kernel_rfl) (by kernel_rfl); exact h9.1.trans (told_is _ h9.2 rfl)
        have e1 : a'.eval (.tmp 78) = .bool false := by have h9 := hin 13 78 (by kernel_rfl) (by kernel_rfl); exact h9.1.trans (told_is _ h9.2 rfl)
        exact o_pickOrF (.tmp 73) (.tmp 78) rfl e0 e1 ⟨_, rfl, told_of rfl, keepG (St := (SY W22 w.heap.size Pg)) [31, 37] SY.loc (by omega) (by decide) hJ⟩
      | 15, ho =>
        obtain rfl := Option.some.inj ho
        have e0 : a'.eval (.tmp 79) = .bool false := by have h9 := hin 14 79 (by kernel_rfl) (by kernel_rfl); exact h9.1.trans (told_is _ h9.2 rfl)
        exact wp_move (.tmp 79) rfl _ e0 ⟨_, rfl, told_of rfl, keepG (St := (SY W22 w.heap.size Pg)) [31, 37] SY.loc (by omega) (by decide) hJ⟩
      | 16, ho =>
        obtain rfl := Option.some.inj ho
        have e0 := hout 9 (by kernel_rfl)
        replace e0 : a'.eval (.tmp 9) = _ := e0.trans rfl
        exact wp_move (.tmp 9) rfl _ e0 ⟨_, rfl, told_of rfl, keepG (St := (SY W22 w.heap.size Pg)) [31, 37] SY.loc (by omega) (by decide) hJ⟩
      | 17, ho =>
        obtain rfl := Option.some.inj ho
        have e0 := hout 11 (by kernel_rfl)
        replace e0 : a'.eval (.tmp 11) = _ := e0.trans rfl
        exact wp_move (.tmp 11) rfl _ e0 ⟨_, rfl, told_of rfl, keepG (St := (SY W22 w.heap.size Pg)) [31, 37] SY.loc (by omega) (by decide) hJ⟩
      | 18, ho =>
        obtain rfl := Option.some.inj ho
        have e0 : a'.eval (.tmp 81) = .int .i64 m := by have h9 := hin 16 81 (by kernel_rfl) (by kernel_rfl); exact h9.1.trans (told_is _ h9.2 rfl)
        have e1 : a'.eval (.tmp 82) = .int .i64 m := by have h9 := hin 17 82 (by kernel_rfl) (by kernel_rfl); exact h9.1.trans (told_is _ h9.2 rfl)
        exact o_neqI (.tmp 81) (.tmp 82) rfl _ e0 e1 ⟨_, rfl, told_of rfl, keepG (St := (SY W22 w.heap.size Pg)) [31, 37] SY.loc (by omega) (by decide) hJ⟩
      | 19, ho =>
        obtain rfl := Option.some.inj ho
        have e0 : a'.eval (.tmp 80) = .bool false := by have h9 := hin 15 80 (by kernel_rfl) (by kernel_rfl); exact h9.1.trans (told_is _ h9.2 rfl)
        have e1 : a'.eval (.tmp 83) = .bool false := by have h9 := hin 18 83 (by kernel_rfl) (by kernel_rfl); exact h9.1.trans (told_is _ h9.2 rfl)
        exact o_pickOrF (.tmp 80) (.tmp 83) rfl e0 e1 ⟨_, rfl, told_of rfl, keepG (St := (SY W22 w.heap.size Pg)) [31, 37] SY.loc (by omega) (by decide) hJ⟩
      | 20, ho =>
        obtain rfl := Option.some.inj ho
        have e0 : a'.eval (.tmp 84) = .bool false := by have h9 := hin 19 84 (by kernel_rfl) (by kernel_rfl); exact h9.1.trans (told_is _ h9.2 rfl)
        exact wp_move (.tmp 84) rfl _ e0 ⟨_, rfl, told_of rfl, keepG (St := (SY W22 w.heap.size Pg)) [31, 37] SY.loc (by omega) (by decide) hJ⟩
      | 21, ho =>
        obtain rfl := Option.some.inj ho
        have e0 := hout 10 (by kernel_rfl)
        replace e0 : a'.eval (.tmp 10) = _ := e0.trans rfl
        exact wp_move (.tmp 10) rfl _ e0 ⟨_, rfl, told_of rfl, keepG (St := (SY W22 w.heap.size Pg)) [31, 37] SY.loc (by omega) (by decide) hJ⟩
      | 22, ho =>
        obtain rfl := Option.some.inj ho
        have e0 := hout 12 (by kernel_rfl)
        replace e0 : a'.eval (.tmp 12) = _ := e0.trans rfl
        exact wp_move (.tmp 12) rfl _ e0 ⟨_, rfl, told_of rfl, keepG (St := (SY W22 w.heap.size Pg)) [31, 37] SY.loc (by omega) (by decide) hJ⟩
      | 23, ho =>
        obtain rfl := Option.some.inj ho
        have e0 : a'.eval (.tmp 86) = .bool ok := by have h9 := hin 21 86 (by kernel_rfl) (by kernel_rfl); exact h9.1.trans (told_is _ h9.2 rfl)
        have e1 : a'.eval (.tmp 87) = .bool ok := by have h9 := hin 22 87 (by kernel_rfl) (by kernel_rfl); exact h9.1.trans (told_is _ h9.2 rfl)
        exact o_neq4 (.tmp 86) (.tmp 87) rfl ok e0 e1 ⟨_, rfl, told_of rfl, keepG (St := (SY W22 w.heap.size Pg)) [31, 37] SY.loc (by omega) (by decide) hJ⟩
      | 24, ho =>
        obtain rfl := Option.some.inj ho
        have e0 : a'.eval (.tmp 85) = .bool false := by have h9 := hin 20 85 (by kernel_rfl) (by kernel_rfl); exact h9.1.trans (told_is _ h9.2 rfl)
        have e1 : a'.eval (.tmp 88) = .bool false := by have h9 := hin 23 88 (by kernel_rfl) (by kernel_rfl); exact h9.1.trans (told_is _ h9.2 rfl)
        exact o_pickOrF (.tmp 85) (.tmp 88) rfl e0 e1 ⟨_, rfl, told_of rfl, keepG (St := (SY W22 w.heap.size Pg)) [31, 37] SY.loc (by omega) (by decide) hJ⟩
      | 25, ho =>
        obtain rfl := Option.some.inj ho
        have e0 : a'.eval (.tmp 89) = .bool false := by have h9 := hin 24 89 (by kernel_rfl) (by kernel_rfl); exact h9.1.trans (told_is _ h9.2 rfl)
        exact wp_move (.tmp 89) rfl _ e0 ⟨_, rfl, told_of rfl, keepG (St := (SY W22 w.heap.size Pg)) [31, 37] SY.loc (by omega) (by decide) hJ⟩
      | 26, ho =>
        obtain rfl := Option.some.inj ho
        have e0 := hout 3 (by kernel_rfl)
        replace e0 : a'.eval (.tmp 3) = _ := e0.trans rfl
        exact wp_loadA row26 (.tmp 3) rfl b1 0 e0 (vwC v) (vwC_len hv) (((unhide M).step hJ.1).at 0 _ rfl).range ⟨_, rfl, told_of rfl, keepG (St := (SY W22 w.heap.size Pg)) [31, 37] SY.loc (by omega) (by decide) hJ⟩
      | 27, ho =>
        obtain rfl := Option.some.inj ho
        have e0 := hout 4 (by kernel_rfl)
        replace e0 : a'.eval (.tmp 4) = _ := e0.trans rfl
        exact o_fld42_0 (.tmp 4) rfl b2 e0 ⟨_, rfl, told_of rfl, keepG (St := (SY W22 w.heap.size Pg)) [31, 37] SY.loc (by omega) (by decide) hJ⟩
      | 28, ho =>
        obtain rfl := Option.some.inj ho
        have e0 : a'.eval (.tmp 92) = .pointer (some ⟨b2, 0, none⟩) := by have h9 := hin 27 92 (by kernel_rfl) (by kernel_rfl); exact h9.1.trans (told_is _ h9.2 rfl)
        exact o_load3 (.tmp 92) rfl _ _ e0 (fits_cell (((unhide M).step hJ.1).at 1 _ rfl) 0 _ rfl) ⟨_, rfl, told_of rfl, keepG (St := (SY W22 w.heap.size Pg)) [31, 37] SY.loc (by omega) (by decide) hJ⟩
      | 29, ho =>
        obtain rfl := Option.some.inj ho
        have e0 := hout 4 (by kernel_rfl)
        replace e0 : a'.eval (.tmp 4) = _ := e0.trans rfl
        exact o_fld42_3 (.tmp 4) rfl b2 e0 ⟨_, rfl, told_of rfl, keepG (St := (SY W22 w.heap.size Pg)) [31, 37] SY.loc (by omega) (by decide) hJ⟩
      | 30, ho =>
        obtain rfl := Option.some.inj ho
        have e0 : a'.eval (.tmp 94) = .pointer (some ⟨b2, 3, none⟩) := by have h9 := hin 29 94 (by kernel_rfl) (by kernel_rfl); exact h9.1.trans (told_is _ h9.2 rfl)
        exact o_load3 (.tmp 94) rfl _ _ e0 (fits_cell (((unhide M).step hJ.1).at 1 _ rfl) 3 _ rfl) ⟨_, rfl, told_of rfl, keepG (St := (SY W22 w.heap.size Pg)) [31, 37] SY.loc (by omega) (by decide) hJ⟩
      | 31, ho =>
        obtain rfl := Option.some.inj ho
        have e0 : a'.eval (.tmp 91) = aggV (vwC v) := by have h9 := hin 26 91 (by kernel_rfl) (by kernel_rfl); exact h9.1.trans (told_is _ h9.2 rfl)
        have e1 : a'.eval (.tmp 93) = .int .i64 x.a := by have h9 := hin 28 93 (by kernel_rfl) (by kernel_rfl); exact h9.1.trans (told_is _ h9.2 rfl)
        have e2 : a'.eval (.tmp 95) = .int .i64 x.q := by have h9 := hin 30 95 (by kernel_rfl) (by kernel_rfl); exact h9.1.trans (told_is _ h9.2 rfl)
        refine wp_callF 28 _ _ rfl #[aggV (vwC v), .int .i64 x.a, .int .i64 x.q] (by simp [e0, e1, e2]) (cg28 _ _) ((unhide (P28 _ ((unhide M).step hJ.1).first)).mono ?_)
        rintro e w3 ⟨u9, rfl, hI9, hk3⟩
        have hS9 := SY.step hJ hk3
        exact ⟨_, rfl, _, rfl, told_no rfl, nextG (St := (SY W22 w.heap.size Pg)) (by omega) ⟨hS9.1, fun _ => hI9.base (Nat.le_trans (unhide M).kept.size hJ.1.size), hS9.2.2⟩⟩
      | 32, ho =>
        obtain rfl := Option.some.inj ho
        have e0 := hout 3 (by kernel_rfl)
        replace e0 : a'.eval (.tmp 3) = _ := e0.trans rfl
        exact wp_loadA row26 (.tmp 3) rfl b1 0 e0 (vwC v) (vwC_len hv) (((unhide M).step hJ.1).at 0 _ rfl).range ⟨_, rfl, told_of rfl, keepG (St := (SY W22 w.heap.size Pg)) [31, 37] SY.loc (by omega) (by decide) hJ⟩
      | 33, ho =>
        obtain rfl := Option.some.inj ho
        have e0 := hout 4 (by kernel_rfl)
        replace e0 : a'.eval (.tmp 4) = _ := e0.trans rfl
        exact o_fld42_0 (.tmp 4) rfl b2 e0 ⟨_, rfl, told_of rfl, keepG (St := (SY W22 w.heap.size Pg)) [31, 37] SY.loc (by omega) (by decide) hJ⟩
      | 34, ho =>
        obtain rfl := Option.some.inj ho
        have e0 : a'.eval (.tmp 98) = .pointer (some ⟨b2, 0, none⟩) := by have h9 := hin 33 98 (by kernel_rfl) (by kernel_rfl); exact h9.1.trans (told_is _ h9.2 rfl)
        exact o_load3 (.tmp 98) rfl _ _ e0 (fits_cell (((unhide M).step hJ.1).at 1 _ rfl) 0 _ rfl) ⟨_, rfl, told_of rfl, keepG (St := (SY W22 w.heap.size Pg)) [31, 37] SY.loc (by omega) (by decide) hJ⟩
      | 35, ho =>
        obtain rfl := Option.some.inj ho
        have e0 := hout 4 (by kernel_rfl)
        replace e0 : a'.eval (.tmp 4) = _ := e0.trans rfl
        exact o_fld42_3 (.tmp 4) rfl b2 e0 ⟨_, rfl, told_of rfl, keepG (St := (SY W22 w.heap.size Pg)) [31, 37] SY.loc (by omega) (by decide) hJ⟩
      | 36, ho =>
        obtain rfl := Option.some.inj ho
        have e0 : a'.eval (.tmp 100) = .pointer (some ⟨b2, 3, none⟩) := by have h9 := hin 35 100 (by kernel_rfl) (by kernel_rfl); exact h9.1.trans (told_is _ h9.2 rfl)
        exact o_load3 (.tmp 100) rfl _ _ e0 (fits_cell (((unhide M).step hJ.1).at 1 _ rfl) 3 _ rfl) ⟨_, rfl, told_of rfl, keepG (St := (SY W22 w.heap.size Pg)) [31, 37] SY.loc (by omega) (by decide) hJ⟩
      | 37, ho =>
        obtain rfl := Option.some.inj ho
        have e0 : a'.eval (.tmp 97) = aggV (vwC v) := by have h9 := hin 32 97 (by kernel_rfl) (by kernel_rfl); exact h9.1.trans (told_is _ h9.2 rfl)
        have e1 : a'.eval (.tmp 99) = .int .i64 x.a := by have h9 := hin 34 99 (by kernel_rfl) (by kernel_rfl); exact h9.1.trans (told_is _ h9.2 rfl)
        have e2 : a'.eval (.tmp 101) = .int .i64 x.q := by have h9 := hin 36 101 (by kernel_rfl) (by kernel_rfl); exact h9.1.trans (told_is _ h9.2 rfl)
        refine wp_callF 29 _ _ rfl #[aggV (vwC v), .int .i64 x.a, .int .i64 x.q] (by simp [e0, e1, e2]) (cg29 _ _) ((unhide (P29 _ ((unhide M).step hJ.1).first)).mono ?_)
        rintro e w3 ⟨u9, rfl, hI9, hk3⟩
        have hS9 := SY.step hJ hk3
        exact ⟨_, rfl, _, rfl, told_no rfl, nextG (St := (SY W22 w.heap.size Pg)) (by omega) ⟨hS9.1, hS9.2.1, fun _ => hI9.base (Nat.le_trans (unhide M).kept.size hJ.1.size)⟩⟩
      | 38, ho =>
        obtain rfl := Option.some.inj ho
        have e0 : a'.eval (.tmp 96) = vs 31 := (hin 31 96 (by kernel_rfl) (by kernel_rfl)).1
        have e1 : a'.eval (.tmp 102) = vs 37 := (hin 37 102 (by kernel_rfl) (by kernel_rfl)).1
        have hd31 : l.getD 31 false = true := hdep 31 (by kernel_rfl)
        have hd37 : l.getD 37 false = true := hdep 37 (by kernel_rfl)
        refine wp_callF 27 _ _ rfl #[vs 31, vs 37] (by simp [e0, e1]) (cg27 _ _) ((same27 (vs 31) (vs 37) _ _ Pg _ (hJ.2.1 hd31) (hJ.2.2 hd37) hPl).mono ?_)
        rintro e w3 ⟨rfl, hk3⟩
        exact ⟨_, rfl, _, rfl, told_of rfl, keepG (St := (SY W22 w.heap.size Pg)) [31, 37] SY.loc (by omega) (by decide) (SY.step hJ hk3)⟩
      | 39, ho =>
        obtain rfl := Option.some.inj ho
        have e0 : a'.eval (.tmp 103) = .bool true := by have h9 := hin 38 103 (by kernel_rfl) (by kernel_rfl); exact h9.1.trans (told_is _ h9.2 rfl)
        exact o_not (.tmp 103) rfl true e0 ⟨_, rfl, told_of rfl, keepG (St := (SY W22 w.heap.size Pg)) [31, 37] SY.loc (by omega) (by decide) hJ⟩
      | 40, ho =>
        obtain rfl := Option.some.inj ho
        have e0 : a'.eval (.tmp 90) = .bool false := by have h9 := hin 25 90 (by kernel_rfl) (by kernel_rfl); exact h9.1.trans (told_is _ h9.2 rfl)
        have e1 : a'.eval (.tmp 104) = .bool false := by have h9 := hin 39 104 (by kernel_rfl) (by kernel_rfl); exact h9.1.trans (told_is _ h9.2 rfl)
        exact o_pickOrF (.tmp 90) (.tmp 104) rfl e0 e1 ⟨_, rfl, told_of rfl, keepG (St := (SY W22 w.heap.size Pg)) [31, 37] SY.loc (by omega) (by decide) hJ⟩
    intro l_ vs4 V4 hl hJ htold
    have t0 : vs4 0 = aggV (vwC v) := told_is _ (htold 0 (by decide)) rfl
    have t1 : vs4 1 = .pointer (some ⟨b2, 0, none⟩) := told_is _ (htold 1 (by decide)) rfl
    have t2 : vs4 2 = .int .i64 x.a := told_is _ (htold 2 (by decide)) rfl
    have t3 : vs4 3 = .pointer (some ⟨b2, 4, none⟩) := told_is _ (htold 3 (by decide)) rfl
    have t4 : vs4 4 = .int .i64 x.e := told_is _ (htold 4 (by decide)) rfl
    have t5 : vs4 5 = .bool r := told_is _ (htold 5 (by decide)) rfl
    have t6 : vs4 6 = .bool r := told_is _ (htold 6 (by decide)) rfl
    have t7 : vs4 7 = .bool false := told_is _ (htold 7 (by decide)) rfl
    have t8 : vs4 8 = .bool false := told_is _ (htold 8 (by decide)) rfl
    have t9 : vs4 9 = aggV (vwC v) := told_is _ (htold 9 (by decide)) rfl
    have t10 : vs4 10 = .int .i64 Ls.length := told_is _ (htold 10 (by decide)) rfl
    have t11 : vs4 11 = (.slice ao Ls.length uc) := told_is _ (htold 11 (by decide)) rfl
    have t12 : vs4 12 = .int .i64 Ls.length := told_is _ (htold 12 (by decide)) rfl
    have t13 : vs4 13 = .bool false := told_is _ (htold 13 (by decide)) rfl
    have t14 : vs4 14 = .bool false := told_is _ (htold 14 (by decide)) rfl
    have t15 : vs4 15 = .bool false := told_is _ (htold 15 (by decide)) rfl
    have t16 : vs4 16 = .int .i64 m := told_is _ (htold 16 (by decide)) rfl
    have t17 : vs4 17 = .int .i64 m := told_is _ (htold 17 (by decide)) rfl
    have t18 : vs4 18 = .bool false := told_is _ (htold 18 (by decide)) rfl
    have t19 : vs4 19 = .bool false := told_is _ (htold 19 (by decide)) rfl
    have t20 : vs4 20 = .bool false := told_is _ (htold 20 (by decide)) rfl
    have t21 : vs4 21 = .bool ok := told_is _ (htold 21 (by decide)) rfl
    have t22 : vs4 22 = .bool ok := told_is _ (htold 22 (by decide)) rfl
    have t23 : vs4 23 = .bool false := told_is _ (htold 23 (by decide)) rfl
    have t24 : vs4 24 = .bool false := told_is _ (htold 24 (by decide)) rfl
    have t25 : vs4 25 = .bool false := told_is _ (htold 25 (by decide)) rfl
    have t26 : vs4 26 = aggV (vwC v) := told_is _ (htold 26 (by decide)) rfl
    have t27 : vs4 27 = .pointer (some ⟨b2, 0, none⟩) := told_is _ (htold 27 (by decide)) rfl
    have t28 : vs4 28 = .int .i64 x.a := told_is _ (htold 28 (by decide)) rfl
    have t29 : vs4 29 = .pointer (some ⟨b2, 3, none⟩) := told_is _ (htold 29 (by decide)) rfl
    have t30 : vs4 30 = .int .i64 x.q := told_is _ (htold 30 (by decide)) rfl
    have t32 : vs4 32 = aggV (vwC v) := told_is _ (htold 32 (by decide)) rfl
    have t33 : vs4 33 = .pointer (some ⟨b2, 0, none⟩) := told_is _ (htold 33 (by decide)) rfl
    have t34 : vs4 34 = .int .i64 x.a := told_is _ (htold 34 (by decide)) rfl
    have t35 : vs4 35 = .pointer (some ⟨b2, 3, none⟩) := told_is _ (htold 35 (by decide)) rfl
    have t36 : vs4 36 = .int .i64 x.q := told_is _ (htold 36 (by decide)) rfl
    have t38 : vs4 38 = .bool true := told_is _ (htold 38 (by decide)) rfl
    have t39 : vs4 39 = .bool false := told_is _ (htold 39 (by decide)) rfl
    have t40 : vs4 40 = .bool false := told_is _ (htold 40 (by decide)) rfl
    rw [show (List.range 41).map vs4 = [vs4 0, vs4 1, vs4 2, vs4 3, vs4 4, vs4 5, vs4 6, vs4 7, vs4 8, vs4 9, vs4 10, vs4 11, vs4 12, vs4 13, vs4 14, vs4 15, vs4 16, vs4 17, vs4 18, vs4 19, vs4 20, vs4 21, vs4 22, vs4 23, vs4 24, vs4 25, vs4 26, vs4 27, vs4 28, vs4 29, vs4 30, vs4 31, vs4 32, vs4 33, vs4 34, vs4 35, vs4 36, vs4 37, vs4 38, vs4 39, vs4 40] from rfl]
    simp only [t0, t1, t2, t3, t4, t5, t6, t7, t8, t9, t10, t11, t12, t13, t14, t15, t16, t17, t18, t19, t20, t21, t22, t23, t24, t25, t26, t27, t28, t29, t30, t32, t33, t34, t35, t36, t38, t39, t40, putAll, Act.put, List.setIfInBounds_toArray, List.set_cons_succ, List.set_cons_zero]
    clear t0 t1 t2 t3 t4 t5 t6 t7 t8 t9 t10 t11 t12 t13 t14 t15 t16 t17 t18 t19 t20 t21 t22 t23 t24 t25 t26 t27 t28 t29 t30 t32 t33 t34 t35 t36 t38 t39 t40 htold
    replace HU : Hid (Ints V4 w.heap.size (.slice ao Ls.length uc) Ls) := hide ((unhide HU).kept hJ.1 (by simp))
    replace M : Hid (Mm w V4 [(b1, 26, vwC v), (b2, 42, x.C), (b3, 3, [.int .i64 leave]), (b4, 4, [.bool false]), (b6, 50, [(.slice ao Ls.length uc)])]) := hide ((unhide M).step hJ.1)
    clear hJ hl
    go_wp2_with (
      first
      | (refine wpLoadA row26 rfl (.tmp 3) rfl b1 0 rfl (vwC v) (vwC_len hv) ((unhide M).at 0 _ rfl).range ?_
         refine Stp.go ?_))
    constructor
    go_wp2_with (
      first
      | (go_at_call 30
         refine (members30 v _).mono ?_
         rintro e V5 ⟨p, rfl, hB, hp, K5⟩
         replace HU : Hid (Hu w (.slice ao Ls.length uc) Ls V5.heap.size V5) := hide (Hu.of ((unhide HU).kept K5 (by simp)))
         have hlt : ∀ q ∈ [(b1, 26, vwC v), (b2, 42, x.C), (b3, 3, [.int .i64 leave]), (b4, 4, [.bool false]), (b6, 50, [(.slice ao Ls.length uc)])], q.1 < V4.heap.size := fun q hq => ((unhide M).blk q hq).1.lt
         replace M : Hid (Mm w V5 [(b1, 26, vwC v), (b2, 42, x.C), (b3, 3, [.int .i64 leave]), (b4, 4, [.bool false]), (b6, 50, [(.slice ao Ls.length uc)]), (p, 26, vwC v)]) := hide (((unhide M).step K5).add hB (Nat.le_trans (unhide M).kept.size hp) (fun q hq => by have := hlt q hq; omega))
         have hq59 := eq59 (P0 p)
         clear hB hp K5 hlt
         refine Stp.go ?_))
    constructor
    go_upto_region 10 with fail
    obtain ⟨B, hBe⟩ : ∃ B, V5.heap.size = B := ⟨_, rfl⟩
    rw [hBe] at HU
    have HBe := hide hBe
    clear hBe
    go_cut [14] from 18 to 109 (fun x14 wd => ∃ bt, x14 = P0 bt ∧ Hid (B ≤ bt) ∧ Hid (Mm w wd [(b1, 26, vwC v), (b2, 42, x.C), (b3, 3, [.int .i64 leave]), (b4, 4, [.bool false]), (b6, 50, [(.slice ao Ls.length uc)]), (p, 26, vwC v), (bt, 3, [.int .i64 0])]) ∧ Hid (Hu w (.slice ao Ls.length uc) Ls B wd))
    case first =>
      go_wp2_with (
        first
        | (refine wpAllocW [.int .i64 0] zero3 14 rfl rfl rfl ?_
           intro Y1 bt e1 B1 K1
           have HBbt : Hid (B ≤ bt) := by have := unhide HBe; show _ ≤ _; omega
           replace HU : Hid (Hu w (.slice ao Ls.length uc) Ls B Y1) := hide ((unhide HU).kept K1)
           replace M : Hid (Mm w Y1 [(b1, 26, vwC v), (b2, 42, x.C), (b3, 3, [.int .i64 leave]), (b4, 4, [.bool false]), (b6, 50, [(.slice ao Ls.length uc)]), (p, 26, vwC v), (bt, 3, [.int .i64 0])]) := hide ((unhide M).new e1 B1 K1)
           clear e1 B1 K1
           refine Stp.go ?_))
      constructor
      go_wp2_with (
        first
        | (refine wpStoreK1 size3 (by rfl) (.tmp 14) (.const (.int .i64 0)) (by rfl) (by rfl) bt 0 6 (.int .i64 0) ⟨rfl, rfl⟩ (by rfl) (by rfl) (unhide M) (by rfl) (by simp) ?_
           intro Y2 N2 K2
           replace HU : Hid (Hu w (.slice ao Ls.length uc) Ls B Y2) := hide ((unhide HU).wr K2 (unhide HBbt))
           replace M : Hid (Mm w Y2 [(b1, 26, vwC v), (b2, 42, x.C), (b3, 3, [.int .i64 leave]), (b4, 4, [.bool false]), (b6, 50, [(.slice ao Ls.length uc)]), (p, 26, vwC v), (bt, 3, [.int .i64 0])]) := hide N2
           clear N2 K2
           refine Stp.go ?_))
      constructor
      go_wp2_with fail
      go_meet
      case rel => exact ⟨_, rfl, HBbt, M, HU⟩
    case rest =>
      clear M HU HBe
      obtain ⟨bt, rfl, HBbt, M, HU⟩ := hcut
      try go_wp2_with fail
      rw [← wpIn_wide (n := 3)]
      refine wpIn_loop_rounds 3 ?_
      rw [roundsIn_succ, wpIn_wide]
      have c14 := fits_cell ((unhide M).at 6 _ rfl) 0 _ rfl
      go_wp2_with (
        first
        | (refine wpAllocW [.int .i64 0] zero3 15 rfl rfl rfl ?_
           intro Y11 bn e11 B11 K11
           have HBbn : Hid (B ≤ bn) := by have h1 := unhide HBbt; have h2 := ((unhide M).at 6 _ rfl).lt; simp at h2; show _ ≤ _; omega
           replace HU : Hid (Hu w (.slice ao Ls.length uc) Ls B Y11) := hide ((unhide HU).kept K11)
           replace M : Hid (Mm w Y11 [(b1, 26, vwC v), (b2, 42, x.C), (b3, 3, [.int .i64 leave]), (b4, 4, [.bool false]), (b6, 50, [(.slice ao Ls.length uc)]), (p, 26, vwC v), (bt, 3, [.int .i64 0]), (bn, 3, [.int .i64 0])]) := hide ((unhide M).new e11 B11 K11)
           clear e11 B11 K11
           clear c14
           refine Stp.go ?_))
      constructor
      go_wp2_with (
        first
        | (refine wpStoreK1 size3 (by rfl) (.tmp 15) (.const (.int .i64 0)) (by rfl) (by rfl) bn 0 7 (.int .i64 0) ⟨rfl, rfl⟩ (by rfl) (by rfl) (unhide M) (by rfl) (by simp) ?_
           intro Y12 N12 K12
           replace HU : Hid (Hu w (.slice ao Ls.length uc) Ls B Y12) := hide ((unhide HU).wr K12 (unhide HBbn))
           replace M : Hid (Mm w Y12 [(b1, 26, vwC v), (b2, 42, x.C), (b3, 3, [.int .i64 leave]), (b4, 4, [.bool false]), (b6, 50, [(.slice ao Ls.length uc)]), (p, 26, vwC v), (bt, 3, [.int .i64 0]), (bn, 3, [.int .i64 0])]) := hide N12
           clear N12 K12
           refine Stp.go ?_))
      constructor
      go_wp2_with fail
      rw [← wpIn_wide (n := 3)]
      have HW : Hid (w.heap.size ≤ Y12.heap.size) := (unhide M).kept.size
      refine wp_rangeB p v S (unhide HS) rfl rfl ((unhide M).at 5 _ rfl) (unhide M).first hv
        (fun pre W => Mm w W [(b1, 26, vwC v), (b2, 42, x.C), (b3, 3, [.int .i64 leave]), (b4, 4, [.bool false]), (b6, 50, [(.slice ao Ls.length uc)]), (p, 26, vwC v), (bt, 3, [.int .i64 0]), (bn, 3, [.int .i64 pre.length])] ∧ Hu w (.slice ao Ls.length uc) Ls B W ∧ True)
        (fun pre W => Mm w W [(b1, 26, vwC v), (b2, 42, x.C), (b3, 3, [.int .i64 leave]), (b4, 4, [.bool false]), (b6, 50, [(.slice ao Ls.length uc)]), (p, 26, vwC v), (bt, 3, [.int .i64 0]), (bn, 3, [.int .i64 pre.length])] ∧ Hu w (.slice ao Ls.length uc) Ls B W ∧ True ∧ (pre.length : Int) = leave) ?hI0 ?hJ0 ⟨unhide M, unhide HU, trivial⟩
        (fun k q a' W => Mm w W [(b1, 26, vwC v), (b2, 42, x.C), (b3, 3, [.int .i64 leave]), (b4, 4, [.bool false]), (b6, 50, [(.slice ao Ls.length uc)]), (p, 26, vwC v), (bt, 3, [.int .i64 0]), (bn, 3, [.int .i64 k])] ∧ Hu w (.slice ao Ls.length uc) Ls B W ∧ True ∧ a' = { tmps := #[aggV (vwC v), aggV x.C, .int .i64 leave, P0 b1, P0 b2, P0 b3, P0 b4, P0 b6, .bool r, .int .i64 m, .bool ok, .int .i64 m, .bool ok, .func (.func 40) #[] #[P0 p], P0 bt, P0 bn, .int .i64 q.1, .int .i64 q.2, u18, u19, u20, u21, u22, u23, u24, u25, u26, u27, u28, u29, u30, u31, u32, u33, u34, u35, u36, u37, u38, u39, u40, u41, u42, u43, u44, u45, u46, u47, u48, u49, u50, u51, u52, u53, u54, u55, u56, u57, u58, u59, u60, u61, u62, u63, u64, u65, u66, u67, u68, u69, u70, u71, u72, u73, u74, u75, u76, u77, u78, u79, u80, u81, u82, u83, u84, u85, u86, u87, u88, u89, u90, u91, u92, u93, u94, u95, u96, u97, u98, u99, u100, u101, u102, u103, u104, u105, u106, u107, u108, u109, .int .i64 0, .bool true, undef, undef, .func (.func 40) #[] #[P0 p], .int .i64 q.1, .int .i64 q.2, undef, undef, undef, undef, undef, undef, undef, undef, undef, undef, undef, undef, undef, undef, undef, undef, undef, undef, undef, undef, undef, undef, undef, undef, undef, undef, undef, undef, undef, undef, undef, undef, undef, undef, undef, undef, undef, undef, undef, undef, undef, undef, undef, undef, undef, undef, undef, undef, undef, undef, undef, undef, undef, undef, undef], defers := [] }) ?hFr0 ?assign0 ?body0 ?hend0 ?hE0
      case hI0 =>
        intro s A C row hs hg hr
        exact ⟨hs.1.grown hg (unhide HW) hr, hs.2.1.grown hg (fun r e => (hr r e).2), trivial⟩
      case hJ0 =>
        intro s A C row hs hg hr
        exact ⟨hs.1.grown hg (unhide HW) hr, hs.2.1.grown hg (fun r e => (hr r e).2), trivial, hs.2.2.2⟩
      case hFr0 =>
        intro k q a' s A C row hs hg hr
        exact ⟨hs.1.grown hg (unhide HW) hr, hs.2.1.grown hg (fun r e => (hr r e).2), trivial, hs.2.2.2⟩
      case assign0 =>
        intro l k q W K hI hx hK
        simp only [List.zip_toArray, List.zip_cons_cons, List.zip_nil_right, List.foldl_toArray, List.foldl_cons, List.foldl_nil, List.setIfInBounds_toArray, List.set_cons_succ, List.set_cons_zero]
        have hlen : (S.take k).length = k := by rw [List.length_take]; have := (List.getElem?_eq_some_iff.1 hx).1; omega
        rw [hlen] at hI
        gi_wp2_with fail
        exact hK _ _ (Kept.refl _ _) ⟨hI.1, hI.2.1, trivial, rfl⟩
      case body0 =>
        rintro l k q a' W hx ⟨hM, hU, -, rfl⟩
        have hk := (List.getElem?_eq_some_iff.1 hx).1
        have hlen : (S.take (k + 1)).length = k + 1 := by rw [List.length_take]; omega
        have HLN := hide hlen
        have hSl : Ls.length = S.length := by rw [unhide HLs, List.length_map]
        have hL8 := unhide HL8
        have hkI : (k : Int) < (Ls.length : Int) := by omega
        have hk8 : (k : Int) ≤ 8 := by omega
        have hkN : k < Ls.length := by omega
        have hk0 : 0 ≤ (k : Int) := by omega
        have hge : decide ((Ls.length : Int) ≤ (k : Int)) = false := by simp; omega
        have hLk : Ls[k]? = some (q.1 : Int) := by rw [unhide HLs, List.getElem?_map, hx]; rfl
        obtain ⟨hq8, hqm⟩ := list_at hv (by rw [unhide HS] at hx; exact hx)
        obtain ⟨gb, gc, hu9, hgc⟩ := hU.1.get hLk
        injection hu9 with hu1 hu2 hu3
        subst hu1
        obtain ⟨m0, m1⟩ := Blk.mem (hM.at 0 _ rfl) hv (n := (q.1 : Int)) (by omega) (by omega)
        rw [hqm] at m0 m1
        have m2 : W.cell? ⟨b1, 3 + q.1 * 2 + 1, none⟩ = some (.int .i64 q.2) := by simpa using m1
        have hq0 : 0 ≤ (q.1 : Int) := by omega
        have hqI : (q.1 : Int) < 8 := by omega
        have hcn := fits_cell (hM.at 7 _ rfl) 0 _ rfl
        have hct := fits_cell (hM.at 6 _ rfl) 0 _ rfl
        have hcl := fits_cell (hM.at 2 _ rfl) 0 _ rfl
        have hcu := fits_cell (hM.at 4 _ rfl) 0 _ rfl
        have HM := hide hM
        have HUU := hide hU
        clear hM hU hlen hx hk hSl hL8 hu2 hu3 hLk hqm 
        gi_wp2_with (
          first
          | (refine listIn_of_list (by rintro ⟨a, w, h⟩; exact h) _ _ _ (noDefer_spec (by kernel_rfl)) ?_
             refine Stp.go ?_))
        constructor
        go_wp2_with fail
        gi_wp2_with (
          first
          | (refine listIn_of_list (by rintro ⟨a, w, h⟩; exact h) _ _ _ (noDefer_spec (by kernel_rfl)) ?_
             refine Stp.go ?_))
        constructor
        go_wp2_with (
          first
          | (refine wpStoreK1 size3 (by rfl) (.tmp 15) (.tmp 139) (by rfl) (by rfl) bn 0 7 (.int .i64 (k + 1)) ⟨rfl, rfl⟩ (by rfl) (by rfl) (unhide HM) (by rfl) (by simp) ?_
             intro Z9 M9 K9
             have HM9 : Hid (Mm w Z9 [(b1, 26, vwC v), (b2, 42, x.C), (b3, 3, [.int .i64 leave]), (b4, 4, [.bool false]), (b6, 50, [(.slice (some ⟨gb, 0, none⟩) Ls.length uc)]), (p, 26, vwC v), (bt, 3, [.int .i64 0]), (bn, 3, [.int .i64 (k + 1)])]) := hide M9
             have HK9 := hide K9
             clear hcn hct hcl hcu
             have hcn := fits_cell (M9.at 7 _ rfl) 0 _ rfl
             have hct := fits_cell (M9.at 6 _ rfl) 0 _ rfl
             have hcl := fits_cell (M9.at 2 _ rfl) 0 _ rfl
             clear M9 K9
             refine Stp.go ?_))
        constructor
        go_wp2_with fail
        by_cases hlv : (k : Int) + 1 = leave
        · have d1 : ((k : Int) + 1 == leave) = true := by simp [hlv]
          have d2 : decide ((k : Int) + 1 = leave) = true := by simp [hlv]
          have HLV := hide hlv
          clear hlv
          gi_wp2_with (
            first
            | (refine listIn_of_list (by rintro ⟨a, w, h⟩; exact h) _ _ _ (noDefer_spec (by kernel_rfl)) ?_
               refine Stp.go ?_))
          constructor
          go_wp2_with fail
          try gi_wp2_with fail
          obtain ⟨q1, q2⟩ := keep34 (B := Y12.heap.size) (unhide HK9) ((unhide HM).at 7 _ rfl) (.inl rfl)
          have hu9 := (unhide HUU).wr (unhide HK9) (unhide HBbn)
          refine ⟨q1, rfl, ?_, hu9, trivial, by rw [unhide HLN]; have := unhide HLV; omega⟩
          rw [unhide HLN]
          exact unhide HM9
        · have d1 : ((k : Int) + 1 == leave) = false := by simp [hlv]
          have d2 : decide ((k : Int) + 1 = leave) = false := by simp [hlv]
          gi_wp2_with (
            first
            | (refine listIn_of_list (by rintro ⟨a, w, h⟩; exact h) _ _ _ (noDefer_spec (by kernel_rfl)) ?_
               refine Stp.go ?_))
          constructor
          go_wp2_with fail
          try gi_wp2_with fail
          obtain ⟨q1, q2⟩ := keep34 (B := Y12.heap.size) (unhide HK9) ((unhide HM).at 7 _ rfl) (.inl rfl)
          have hu9 := (unhide HUU).wr (unhide HK9) (unhide HBbn)
          refine ⟨q1, q2, ?_, hu9, trivial⟩
          rw [unhide HLN]
          exact unhide HM9
      case hE0 =>
        intro a W h
        exact wpIn_exit h
      case hend0 =>
        rintro D pre W hD hor hK
        have hSl : Ls.length = S.length := by rw [unhide HLs, List.length_map]
        have hL8 := unhide HL8
        obtain ⟨n, hM, hU,  hn8, hn⟩ : ∃ n : Nat, Mm w W [(b1, 26, vwC v), (b2, 42, x.C), (b3, 3, [.int .i64 leave]), (b4, 4, [.bool false]), (b6, 50, [(.slice ao Ls.length uc)]), (p, 26, vwC v), (bt, 3, [.int .i64 0]), (bn, 3, [.int .i64 n])] ∧ Hu w (.slice ao Ls.length uc) Ls B W ∧ n ≤ 8 ∧ (n = Ls.length ∨ (n : Int) = leave) := by
          rcases hor with ⟨rfl, h1, h2, -⟩ | ⟨hl, hj⟩
          · exact ⟨pre.length, h1, h2,  by omega, .inl (by omega)⟩
          · exact ⟨pre.length, hj.1, hj.2.1, by omega, .inr hj.2.2.2⟩
        have HD : Hid (Mk w W D) := ⟨by have := unhide HW; omega, hK⟩
        have HBD : Hid (Y12.heap.size ≤ D) := hide hD
        clear M HU HW hor hK hD hSl 
        have M := hide hM
        have HU := hide hU

        clear hM hU 
        go_upto_region 21 with fail
        go_cut [169] from 110 to 168 (fun t we => t = .bool false ∧ Hid (Mm w we [(b1, 26, vwC v), (b2, 42, x.C), (b3, 3, [.int .i64 leave]), (b4, 4, [.bool false]), (b6, 50, [(.slice ao Ls.length uc)]), (p, 26, vwC v), (bt, 3, [.int .i64 0]), (bn, 3, [.int .i64 n])]) ∧ Hid (Hu w (.slice ao Ls.length uc) Ls B we) ∧ Hid (Mk w we D))
        case first =>
          have c14 := fits_cell ((unhide M).at 6 _ rfl) 0 _ rfl
          have c15 := fits_cell ((unhide M).at 7 _ rfl) 0 _ rfl
          have c5 := fits_cell ((unhide M).at 2 _ rfl) 0 _ rfl
          have c7 := fits_cell ((unhide M).at 4 _ rfl) 0 _ rfl
          by_cases hne : n = Ls.length
          · have d1 : ((n : Int) == (Ls.length : Int)) = true := by simp [hne]
            have d2 : ((n : Int) != (Ls.length : Int)) = false := by simp [hne]
            have d3 : decide ((n : Int) = (Ls.length : Int)) = true := by simp [hne]
            clear hne hn
            go_wp2_with fail
            go_meet
            case rel => exact ⟨rfl, M, HU, HD⟩
          · have hlv : (n : Int) = leave := hn.resolve_left hne
            have d1 : ((n : Int) == (Ls.length : Int)) = false := by simp; omega
            have d2 : ((n : Int) != (Ls.length : Int)) = true := by simp; omega
            have d3 : decide ((n : Int) = (Ls.length : Int)) = false := by simp; omega
            have d4 : ((n : Int) == leave) = true := by simp [hlv]
            have d5 : ((n : Int) != leave) = false := by simp [hlv]
            have d6 : decide ((n : Int) = leave) = true := by simp [hlv]
            clear hne hn hlv
            go_wp2_with fail
            go_meet
            case rel => exact ⟨rfl, M, HU, HD⟩
        case rest =>
          clear M HU HD hn hn8 hL8
          obtain ⟨rfl, M, HU, HD⟩ := hcut
          have c14 := fits_cell ((unhide M).at 6 _ rfl) 0 _ rfl
          go_wp2_with (
            first
            | (refine wpAllocW [.int .i64 0] zero3 14 rfl rfl rfl ?_
               intro Y21 bt1 e21 B21 K21
               have HBbt1 : Hid (B ≤ bt1) := by have h1 := unhide HBbt; have h2 := ((unhide M).at 6 _ rfl).lt; simp at h2; show _ ≤ _; omega
               replace HU : Hid (Hu w (.slice ao Ls.length uc) Ls B Y21) := hide ((unhide HU).kept K21)
               replace HD : Hid (Mk w Y21 D) := hide ((unhide HD).kept K21)
               replace M : Hid (Mm w Y21 [(b1, 26, vwC v), (b2, 42, x.C), (b3, 3, [.int .i64 leave]), (b4, 4, [.bool false]), (b6, 50, [(.slice ao Ls.length uc)]), (p, 26, vwC v), (bt, 3, [.int .i64 0]), (bn, 3, [.int .i64 n]), (bt1, 3, [.int .i64 0])]) := hide ((unhide M).new e21 B21 K21)
               clear e21 B21 K21
               clear c14
               refine Stp.go ?_))
          constructor
          go_wp2_with (
            first
            | (refine wpStoreK1 size3 (by rfl) (.tmp 14) (.tmp 170) (by rfl) (by rfl) bt1 0 8 (.int .i64 0) ⟨rfl, rfl⟩ (by rfl) (by rfl) (unhide M) (by rfl) (by simp) ?_
               intro Y22 N22 K22
               replace HU : Hid (Hu w (.slice ao Ls.length uc) Ls B Y22) := hide ((unhide HU).wr K22 (unhide HBbt1))
               replace HD : Hid (Mk w Y22 D) := hide ((unhide HD).wr K22 ((unhide M).at 8 _ rfl))
               replace M : Hid (Mm w Y22 [(b1, 26, vwC v), (b2, 42, x.C), (b3, 3, [.int .i64 leave]), (b4, 4, [.bool false]), (b6, 50, [(.slice ao Ls.length uc)]), (p, 26, vwC v), (bt, 3, [.int .i64 0]), (bn, 3, [.int .i64 n]), (bt1, 3, [.int .i64 0])]) := hide N22
               clear N22 K22
               have c14 := fits_cell ((unhide M).at 8 _ rfl) 0 _ rfl
               refine Stp.go ?_))
          constructor
          go_wp2_with (
            first
            | (refine wpStoreK1 size3 (by rfl) (.tmp 14) (.tmp 113) (by rfl) (by rfl) bt1 0 8 (.int .i64 1) ⟨rfl, rfl⟩ (by rfl) (by rfl) (unhide M) (by rfl) (by simp) ?_
               intro Y23 N23 K23
               replace HU : Hid (Hu w (.slice ao Ls.length uc) Ls B Y23) := hide ((unhide HU).wr K23 (unhide HBbt1))
               replace HD : Hid (Mk w Y23 D) := hide ((unhide HD).wr K23 ((unhide M).at 8 _ rfl))
               replace M : Hid (Mm w Y23 [(b1, 26, vwC v), (b2, 42, x.C), (b3, 3, [.int .i64 leave]), (b4, 4, [.bool false]), (b6, 50, [(.slice ao Ls.length uc)]), (p, 26, vwC v), (bt, 3, [.int .i64 0]), (bn, 3, [.int .i64 n]), (bt1, 3, [.int .i64 1])]) := hide N23
               clear N23 K23
               clear c14
               refine Stp.go ?_))
          constructor
          go_wp2_with fail
          rw [roundsIn_succ, wpIn_wide]
          have c14 := fits_cell ((unhide M).at 8 _ rfl) 0 _ rfl
          go_wp2_with (
            first
            | (refine wpAllocW [.int .i64 0] zero3 15 rfl rfl rfl ?_
               intro Y31 bn1 e31 B31 K31
               have HBbn1 : Hid (B ≤ bn1) := by have h1 := unhide HBbt; have h2 := ((unhide M).at 6 _ rfl).lt; simp at h2; show _ ≤ _; omega
               replace HU : Hid (Hu w (.slice ao Ls.length uc) Ls B Y31) := hide ((unhide HU).kept K31)
               replace HD : Hid (Mk w Y31 D) := hide ((unhide HD).kept K31)
               replace M : Hid (Mm w Y31 [(b1, 26, vwC v), (b2, 42, x.C), (b3, 3, [.int .i64 leave]), (b4, 4, [.bool false]), (b6, 50, [(.slice ao Ls.length uc)]), (p, 26, vwC v), (bt, 3, [.int .i64 0]), (bn, 3, [.int .i64 n]), (bt1, 3, [.int .i64 1]), (bn1, 3, [.int .i64 0])]) := hide ((unhide M).new e31 B31 K31)
               clear e31 B31 K31
               clear c14
               refine Stp.go ?_))
          constructor
          go_wp2_with (
            first
            | (refine wpStoreK1 size3 (by rfl) (.tmp 15) (.const (.int .i64 0)) (by rfl) (by rfl) bn1 0 9 (.int .i64 0) ⟨rfl, rfl⟩ (by rfl) (by rfl) (unhide M) (by rfl) (by simp) ?_
               intro Y32 N32 K32
               replace HU : Hid (Hu w (.slice ao Ls.length uc) Ls B Y32) := hide ((unhide HU).wr K32 (unhide HBbn1))
               replace HD : Hid (Mk w Y32 D) := hide ((unhide HD).wr K32 ((unhide M).at 9 _ rfl))
               replace M : Hid (Mm w Y32 [(b1, 26, vwC v), (b2, 42, x.C), (b3, 3, [.int .i64 leave]), (b4, 4, [.bool false]), (b6, 50, [(.slice ao Ls.length uc)]), (p, 26, vwC v), (bt, 3, [.int .i64 0]), (bn, 3, [.int .i64 n]), (bt1, 3, [.int .i64 1]), (bn1, 3, [.int .i64 0])]) := hide N32
               clear N32 K32
               refine Stp.go ?_))
          constructor
          go_wp2_with fail
          rw [← wpIn_wide (n := 3)]
          have HW : Hid (w.heap.size ≤ Y32.heap.size) := (unhide M).kept.size
          have HWD : Hid (D < Y32.heap.size) := (unhide HD).lt
          refine wp_rangeB p v S (unhide HS) rfl rfl ((unhide M).at 5 _ rfl) (unhide M).first hv
            (fun pre W => Mm w W [(b1, 26, vwC v), (b2, 42, x.C), (b3, 3, [.int .i64 leave]), (b4, 4, [.bool false]), (b6, 50, [(.slice ao Ls.length uc)]), (p, 26, vwC v), (bt, 3, [.int .i64 0]), (bn, 3, [.int .i64 n]), (bt1, 3, [.int .i64 1]), (bn1, 3, [.int .i64 pre.length])] ∧ Hu w (.slice ao Ls.length uc) Ls B W ∧ Mk w W D ∧ True)
            (fun _ _ => False) ?hI1 ?hJ1 ⟨unhide M, unhide HU, unhide HD, trivial⟩
            (fun k q a' W => Mm w W [(b1, 26, vwC v), (b2, 42, x.C), (b3, 3, [.int .i64 leave]), (b4, 4, [.bool false]), (b6, 50, [(.slice ao Ls.length uc)]), (p, 26, vwC v), (bt, 3, [.int .i64 0]), (bn, 3, [.int .i64 n]), (bt1, 3, [.int .i64 1]), (bn1, 3, [.int .i64 k])] ∧ Hu w (.slice ao Ls.length uc) Ls B W ∧ Mk w W D ∧ True ∧ a' = { tmps := #[aggV (vwC v), aggV x.C, .int .i64 leave, P0 b1, P0 b2, P0 b3, P0 b4, P0 b6, .bool r, .int .i64 m, .bool ok, .int .i64 m, .bool ok, .func (.func 40) #[] #[P0 p], P0 bt1, P0 bn1, .int .i64 q.1, .int .i64 q.2, u18, u19, u20, u21, u22, u23, u24, u25, u26, u27, u28, u29, u30, u31, u32, u33, u34, u35, u36, u37, u38, u39, u40, u41, u42, u43, u44, u45, u46, u47, u48, u49, u50, u51, u52, u53, u54, u55, u56, u57, u58, u59, u60, u61, u62, u63, u64, u65, u66, u67, u68, u69, u70, u71, u72, u73, u74, u75, u76, u77, u78, u79, u80, u81, u82, u83, u84, u85, u86, u87, u88, u89, u90, u91, u92, u93, u94, u95, u96, u97, u98, u99, u100, u101, u102, u103, u104, u105, u106, u107, u108, u109, .int .i64 1, .bool true, .int .i64 0, .int .i64 1, .func (.func 40) #[] #[P0 p], .int .i64 q.1, .int .i64 q.2, u117, u118, u119, u120, u121, u122, u123, u124, u125, u126, u127, u128, u129, u130, u131, u132, u133, u134, u135, u136, u137, u138, u139, u140, u141, u142, u143, u144, u145, u146, u147, u148, u149, u150, u151, u152, u153, u154, u155, u156, u157, u158, u159, u160, u161, u162, u163, u164, u165, u166, u167, u168, .bool false, .int .i64 0, undef], defers := [] }) ?hFr1 ?assign1 ?body1 ?hend1 ?hE1
          case hI1 =>
            intro s A C row hs hg hr
            exact ⟨hs.1.grown hg (unhide HW) hr, hs.2.1.grown hg (fun r e => (hr r e).2), hs.2.2.1.grown (unhide HWD) hg (fun r e => (hr r e).1), trivial⟩
          case hJ1 =>
            intro s A C row hs hg hr
            exact hs.elim
          case hFr1 =>
            intro k q a' s A C row hs hg hr
            exact ⟨hs.1.grown hg (unhide HW) hr, hs.2.1.grown hg (fun r e => (hr r e).2), hs.2.2.1.grown (unhide HWD) hg (fun r e => (hr r e).1), trivial, hs.2.2.2.2⟩
          case assign1 =>
            intro l k q W K hI hx hK
            simp only [List.zip_toArray, List.zip_cons_cons, List.zip_nil_right, List.foldl_toArray, List.foldl_cons, List.foldl_nil, List.setIfInBounds_toArray, List.set_cons_succ, List.set_cons_zero]
            have hlen : (S.take k).length = k := by rw [List.length_take]; have := (List.getElem?_eq_some_iff.1 hx).1; omega
            rw [hlen] at hI
            gi_wp2_with fail
            exact hK _ _ (Kept.refl _ _) ⟨hI.1, hI.2.1, hI.2.2.1, trivial, rfl⟩
          case body1 =>
            rintro l k q a' W hx ⟨hM, hU, hDD, -, rfl⟩
            have hk := (List.getElem?_eq_some_iff.1 hx).1
            have hlen : (S.take (k + 1)).length = k + 1 := by rw [List.length_take]; omega
            have HLN := hide hlen
            have hSl : Ls.length = S.length := by rw [unhide HLs, List.length_map]
            have hL8 := unhide HL8
            have hkI : (k : Int) < (Ls.length : Int) := by omega
            have hk8 : (k : Int) ≤ 8 := by omega
            have hkN : k < Ls.length := by omega
            have hk0 : 0 ≤ (k : Int) := by omega
            have hge : decide ((Ls.length : Int) ≤ (k : Int)) = false := by simp; omega
            have hLk : Ls[k]? = some (q.1 : Int) := by rw [unhide HLs, List.getElem?_map, hx]; rfl
            obtain ⟨hq8, hqm⟩ := list_at hv (by rw [unhide HS] at hx; exact hx)
            obtain ⟨gb, gc, hu9, hgc⟩ := hU.1.get hLk
            injection hu9 with hu1 hu2 hu3
            subst hu1
            obtain ⟨m0, m1⟩ := Blk.mem (hM.at 0 _ rfl) hv (n := (q.1 : Int)) (by omega) (by omega)
            rw [hqm] at m0 m1
            have m2 : W.cell? ⟨b1, 3 + q.1 * 2 + 1, none⟩ = some (.int .i64 q.2) := by simpa using m1
            have hq0 : 0 ≤ (q.1 : Int) := by omega
            have hqI : (q.1 : Int) < 8 := by omega
            have hcn := fits_cell (hM.at 9 _ rfl) 0 _ rfl
            have hct := fits_cell (hM.at 8 _ rfl) 0 _ rfl
            have hcl := fits_cell (hM.at 2 _ rfl) 0 _ rfl
            have hcu := fits_cell (hM.at 4 _ rfl) 0 _ rfl
            have HM := hide hM
            have HUU := hide hU
            have HXD := hide hDD
            clear hM hU hlen hx hk hSl hL8 hu2 hu3 hLk hqm hDD
            gi_wp2_with (
              first
              | (refine listIn_of_list (by rintro ⟨a, w, h⟩; exact h) _ _ _ (noDefer_spec (by kernel_rfl)) ?_
                 refine Stp.go ?_))
            constructor
            go_wp2_with fail
            gi_wp2_with (
              first
              | (refine listIn_of_list (by rintro ⟨a, w, h⟩; exact h) _ _ _ (noDefer_spec (by kernel_rfl)) ?_
                 refine Stp.go ?_))
            constructor
            go_wp2_with (
              first
              | (refine wpStoreK1 size3 (by rfl) (.tmp 15) (.tmp 139) (by rfl) (by rfl) bn1 0 9 (.int .i64 (k + 1)) ⟨rfl, rfl⟩ (by rfl) (by rfl) (unhide HM) (by rfl) (by simp) ?_
                 intro Z9 M9 K9
                 have HM9 : Hid (Mm w Z9 [(b1, 26, vwC v), (b2, 42, x.C), (b3, 3, [.int .i64 leave]), (b4, 4, [.bool false]), (b6, 50, [(.slice (some ⟨gb, 0, none⟩) Ls.length uc)]), (p, 26, vwC v), (bt, 3, [.int .i64 0]), (bn, 3, [.int .i64 n]), (bt1, 3, [.int .i64 1]), (bn1, 3, [.int .i64 (k + 1)])]) := hide M9
                 have HK9 := hide K9
                 clear hcn hct hcl hcu
                 have hcn := fits_cell (M9.at 9 _ rfl) 0 _ rfl
                 have hct := fits_cell (M9.at 8 _ rfl) 0 _ rfl
                 have hcl := fits_cell (M9.at 2 _ rfl) 0 _ rfl
                 clear M9 K9
                 refine Stp.go ?_))
            constructor
            go_wp2_with fail
            gi_wp2_with (
              first
              | (refine listIn_of_list (by rintro ⟨a, w, h⟩; exact h) _ _ _ (noDefer_spec (by kernel_rfl)) ?_
                 refine Stp.go ?_))
            constructor
            go_wp2_with fail
            try gi_wp2_with fail
            obtain ⟨q1, q2⟩ := keep34 (B := Y32.heap.size) (unhide HK9) ((unhide HM).at 9 _ rfl) (.inl rfl)
            have hu9 := (unhide HUU).wr (unhide HK9) (unhide HBbn1)
            have hdD := (unhide HXD).wr (unhide HK9) ((unhide HM).at 9 _ rfl)
            refine ⟨q1, q2, ?_, hu9, hdD, trivial⟩
            rw [unhide HLN]
            exact unhide HM9
          case hE1 =>
            intro a W h
            exact wpIn_exit h
          case hend1 =>
            rintro E pre W hE hor hK
            have hSl : Ls.length = S.length := by rw [unhide HLs, List.length_map]
            have hL8 := unhide HL8
            obtain ⟨n2, hM, hU, hmD, hn8, hn⟩ : ∃ n2 : Nat, Mm w W [(b1, 26, vwC v), (b2, 42, x.C), (b3, 3, [.int .i64 leave]), (b4, 4, [.bool false]), (b6, 50, [(.slice ao Ls.length uc)]), (p, 26, vwC v), (bt, 3, [.int .i64 0]), (bn, 3, [.int .i64 n]), (bt1, 3, [.int .i64 1]), (bn1, 3, [.int .i64 n2])] ∧ Hu w (.slice ao Ls.length uc) Ls B W ∧ Mk w W D ∧ n2 ≤ 8 ∧ n2 = Ls.length := by
              rcases hor with ⟨rfl, h1, h2, h3, -⟩ | ⟨hl, hj⟩
              · exact ⟨pre.length, h1, h2, h3, by omega, by omega⟩
              · exact hj.elim
            have HE : Hid (Mk w W E) := ⟨by have := unhide HW; omega, hK⟩
            have HBE : Hid (Y32.heap.size ≤ E) := hide hE
            clear M HU HW hor hK hE hSl HD
            have M := hide hM
            have HU := hide hU
            have HD := hide hmD
            clear hM hU hmD
            have HDE : Hid (D ≠ E) := by have h1 := unhide HWD; have h2 := unhide HBE; show _ ≠ _; omega
            subst hn
            have c14 := fits_cell ((unhide M).at 8 _ rfl) 0 _ rfl
            have c15 := fits_cell ((unhide M).at 9 _ rfl) 0 _ rfl
            have c7 := fits_cell ((unhide M).at 4 _ rfl) 0 _ rfl
            go_wp2_with (
              first
              | (refine wpAllocW [.int .i64 0] zero3 14 rfl rfl rfl ?_
                 intro Y41 bt2 e41 B41 K41
                 have HBbt2 : Hid (B ≤ bt2) := by have h1 := unhide HBbt; have h2 := ((unhide M).at 6 _ rfl).lt; simp at h2; show _ ≤ _; omega
                 replace HU : Hid (Hu w (.slice ao Ls.length uc) Ls B Y41) := hide ((unhide HU).kept K41)
                 replace HD : Hid (Mk w Y41 D) := hide ((unhide HD).kept K41)
                 replace HE : Hid (Mk w Y41 E) := hide ((unhide HE).kept K41)
                 replace M : Hid (Mm w Y41 [(b1, 26, vwC v), (b2, 42, x.C), (b3, 3, [.int .i64 leave]), (b4, 4, [.bool false]), (b6, 50, [(.slice ao Ls.length uc)]), (p, 26, vwC v), (bt, 3, [.int .i64 0]), (bn, 3, [.int .i64 n]), (bt1, 3, [.int .i64 1]), (bn1, 3, [.int .i64 Ls.length]), (bt2, 3, [.int .i64 0])]) := hide ((unhide M).new e41 B41 K41)
                 clear e41 B41 K41
                 clear c14 c15 c7
                 refine Stp.go ?_))
            constructor
            go_wp2_with (
              first
              | (refine wpStoreK1 size3 (by rfl) (.tmp 14) (.tmp 170) (by rfl) (by rfl) bt2 0 10 (.int .i64 1) ⟨rfl, rfl⟩ (by rfl) (by rfl) (unhide M) (by rfl) (by simp) ?_
                 intro Y42 N42 K42
                 replace HU : Hid (Hu w (.slice ao Ls.length uc) Ls B Y42) := hide ((unhide HU).wr K42 (unhide HBbt2))
                 replace HD : Hid (Mk w Y42 D) := hide ((unhide HD).wr K42 ((unhide M).at 10 _ rfl))
                 replace HE : Hid (Mk w Y42 E) := hide ((unhide HE).wr K42 ((unhide M).at 10 _ rfl))
                 replace M : Hid (Mm w Y42 [(b1, 26, vwC v), (b2, 42, x.C), (b3, 3, [.int .i64 leave]), (b4, 4, [.bool false]), (b6, 50, [(.slice ao Ls.length uc)]), (p, 26, vwC v), (bt, 3, [.int .i64 0]), (bn, 3, [.int .i64 n]), (bt1, 3, [.int .i64 1]), (bn1, 3, [.int .i64 Ls.length]), (bt2, 3, [.int .i64 1])]) := hide N42
                 clear N42 K42
                 have c14 := fits_cell ((unhide M).at 10 _ rfl) 0 _ rfl
                 refine Stp.go ?_))
            constructor
            go_wp2_with (
              first
              | (refine wpStoreK1 size3 (by rfl) (.tmp 14) (.tmp 113) (by rfl) (by rfl) bt2 0 10 (.int .i64 2) ⟨rfl, rfl⟩ (by rfl) (by rfl) (unhide M) (by rfl) (by simp) ?_
                 intro Y43 N43 K43
                 replace HU : Hid (Hu w (.slice ao Ls.length uc) Ls B Y43) := hide ((unhide HU).wr K43 (unhide HBbt2))
                 replace HD : Hid (Mk w Y43 D) := hide ((unhide HD).wr K43 ((unhide M).at 10 _ rfl))
                 replace HE : Hid (Mk w Y43 E) := hide ((unhide HE).wr K43 ((unhide M).at 10 _ rfl))
                 replace M : Hid (Mm w Y43 [(b1, 26, vwC v), (b2, 42, x.C), (b3, 3, [.int .i64 leave]), (b4, 4, [.bool false]), (b6, 50, [(.slice ao Ls.length uc)]), (p, 26, vwC v), (bt, 3, [.int .i64 0]), (bn, 3, [.int .i64 n]), (bt1, 3, [.int .i64 1]), (bn1, 3, [.int .i64 Ls.length]), (bt2, 3, [.int .i64 2])]) := hide N43
                 clear N43 K43
                 clear c14
                 refine Stp.go ?_))
            constructor
            go_wp2_with fail
            rw [roundsIn_succ, wpIn_wide]
            have c14 := fits_cell ((unhide M).at 10 _ rfl) 0 _ rfl
            go_wp2_with (
              first
              | (go_at_call 14
                 refine (known14 _ (unhide M).first).mono ?_
                 rintro e Y51 ⟨rfl, K51⟩
                 replace HD : Hid (Mk w Y51 D) := hide ((unhide HD).kept K51)
                 replace HE : Hid (Mk w Y51 E) := hide ((unhide HE).kept K51)
                 replace M : Hid (Mm w Y51 [(b1, 26, vwC v), (b2, 42, x.C), (b3, 3, [.int .i64 leave]), (b4, 4, [.bool false]), (b6, 50, [(.slice ao Ls.length uc)]), (p, 26, vwC v), (bt, 3, [.int .i64 0]), (bn, 3, [.int .i64 n]), (bt1, 3, [.int .i64 1]), (bn1, 3, [.int .i64 Ls.length]), (bt2, 3, [.int .i64 2])]) := hide ((unhide M).step K51)
                 clear K51 c14
                 refine Stp.go ?_))
            constructor
            go_wp2_with (
              first
              | (refine wpStoreK1 size4 (by rfl) (.tmp 6) (.tmp 171) (by rfl) (by rfl) b4 0 3 (.bool true) ⟨rfl, rfl⟩ (by rfl) (by rfl) (unhide M) (by rfl) (by simp) ?_
                 intro Y52 N52 K52
                 replace HD : Hid (Mk w Y52 D) := hide ((unhide HD).wr K52 ((unhide M).at 3 _ rfl))
                 replace HE : Hid (Mk w Y52 E) := hide ((unhide HE).wr K52 ((unhide M).at 3 _ rfl))
                 replace M : Hid (Mm w Y52 [(b1, 26, vwC v), (b2, 42, x.C), (b3, 3, [.int .i64 leave]), (b4, 4, [.bool true]), (b6, 50, [(.slice ao Ls.length uc)]), (p, 26, vwC v), (bt, 3, [.int .i64 0]), (bn, 3, [.int .i64 n]), (bt1, 3, [.int .i64 1]), (bn1, 3, [.int .i64 Ls.length]), (bt2, 3, [.int .i64 2])]) := hide N52
                 clear N52 K52
                 refine Stp.go ?_))
            constructor
            go_wp2_with fail
            exact all_leaves rfl ((unhide M).at 3 _ rfl) (unhide M).kept (unhide HE).2 (unhide HD).2 (unhide HDE) (unhide HE).1 (unhide HD).1
theorem looks5 (v : Vw) (x : Ask) (leave : Int) (w : World) (hF : First w) (hok : v.Ok) (xok : x.Ok) : Calls Tryd.prog 5 #[aggV (vwC v), aggV x.C, .int .i64 leave] w fun e w' => e = .returned (.bool true) ∧ Kept [] w w' := by
  refine callsIn_wide.1 (looks_gen v x leave (v.list.map (fun q => (q.1 : Int))) (v.pages x.a x.q) (v.is x.a x.e) (v.master x.p).2 (v.master x.p).1 w hF hok.len rfl v.list rfl rfl ?_ (fun W hW => list22 v W hW hok.len) (fun W hW => master23 v x.p W hW hok.len xok.p) (fun W hW => rmaster24 v x.p W hW hok.len xok.p) (fun W hW => is25 v x.a x.e W hW hok.len) (fun W hW => ?_) (fun W hW => pages28 v x.a x.q W hW hok.len) (fun W hW => rpages29 v x.a x.q W hW hok.len))
  · unfold Vw.pages
    split
    · simp
    · have := pgs_len v x.a x.q.toNat; omega
  · rw [List.length_map]
    exact count26 v W hW hok.len

end Go.Proofs.YtbpnnbbinhdoiaaDoor
