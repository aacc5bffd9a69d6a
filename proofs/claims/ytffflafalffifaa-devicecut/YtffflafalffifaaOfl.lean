/-
  The walk of DeviceOf's law.
-/
import Derived.Test.YtffflafalffifaaTup
import Derived.Test.YtffflafalffifaaStands
import Derived.Test.YtffflafalffifaaKnownb
namespace Go.Proofs.Ytffflafalffifaa.K
open Go.RowKit

set_option maxHeartbeats 2000000 in
set_option maxRecDepth 100000 in
theorem of_big (ao eo : Option Addr) (m c n ec : Nat) (w : World) (hm : m ≤ 140737488355328) (hn : n ≤ 140737488355328) (h : 9000 < m ∨ 20 < n) : Calls Try.prog 4 #[.slice ao m c, .slice eo n ec] w fun e w' => e = .returned (.bool true) ∧ Kept [] w w' := by
  by_cases h1 : 9000 < m
  · have h2 : (9000 : Int) < m := by omega
    go_enter Try.func4, Try.ntmps4
    go_wp2_with (
      first
      | (go_at_call 11
         refine (known11 _).mono ?_
         rintro e W1 ⟨rfl, K1⟩))
    go_ret
    exact ⟨rfl, K1⟩
  · have h2 : ¬ (9000 : Int) < m := by omega
    have h3 : (20 : Int) < n := by omega
    go_enter Try.func4, Try.ntmps4
    go_wp2_with (
      first
      | (go_at_call 11
         refine (known11 _).mono ?_
         rintro e W1 ⟨rfl, K1⟩))
    go_ret
    exact ⟨rfl, K1⟩
set_option maxHeartbeats 4000000 in
set_option maxRecDepth 100000 in
theorem ofl_no (ao eo : Option Addr) (m c n ec : Nat) (l eps : List Int) (w : World) (hb : ∀ x ∈ l, 0 ≤ x ∧ x < 256) (hl : Vals w ao m c (u8s l)) (he : Vals w eo n ec (i64s eps)) (hn1 : ao = none → m = 0 ∧ c = 0) (hn2 : eo = none → n = 0 ∧ ec = 0) (hm : m ≤ 9000) (hn : n ≤ 20) (hof : ofB m eps = false) : Calls Try.prog 4 #[.slice ao m c, .slice eo n ec] w fun e w' => e = .returned (.bool true) ∧ Kept [] w w' := by
  have hlm := hl.len
  rw [u8s_len] at hlm
  have hen := he.len
  rw [i64s_len] at hen
  have hmI : ¬ (9000 : Int) < m := by omega
  have hnI : ¬ (20 : Int) < n := by omega
  have HL := hide hl
  have HE := hide he
  have HBy := hide hb
  have HO := hide hof
  clear hl he hb hof
  go_enter Try.func4, Try.ntmps4
  go_wp2_with (
    first
    | (at_builtin; refine wpAppV (T := 42) (e := 5) (z := .int .u8 0) Try.underlying42 Try.info5 rfl (by decide) (by rfl) (.const (.slice none 0 0)) (.tmp 21) (by rfl) w.heap.size (.slice none 0 0) [] (u8s l) (by rfl) ao m c (by rfl) hn1 (unhide HL) (u8s_one _) (World.ownsRow_nil _ _ _ _) (by simp; omega) (Nat.le_refl _) ?_
       intro v1 W1 hO1 g1
       have KA : Hid (Kept [] w W1) := kept_grown (Kept.refl _ _) g1 (fun k h => by simp [Value.ownBlock] at h)
       have O1 : Hid (W1.ownsRow w.heap.size 5 1 v1 (u8s l).length (u8s l)) := hO1
       clear hO1 g1
       refine Stp.go ?_))
  constructor
  go_wp2_with (
    first
    | (refine wpBuildS1 (.int .u8 119) build42 (by rfl) (.const (.int .u8 119)) (by rfl) (by rfl) ?_
       intro W2 q2 e2 B2 K2
       replace O1 := hide (owns_kept (unhide O1) K2)
       replace KA := hide ((unhide KA).trans K2)
       have V2 : Hid (Vals W2 (some ⟨q2, 0, none⟩) 1 1 [.int .u8 119]) := ⟨rfl, Nat.le_refl _, fun _ => ⟨q2, 0, rfl, B2.range⟩⟩
       clear e2 B2 K2
       refine Stp.go ?_))
  constructor
  go_wp2_with (
    first
    | (at_builtin; refine wpAppV (T := 42) (e := 5) (z := .int .u8 0) Try.underlying42 Try.info5 rfl (by decide) (by rfl) (.tmp 22) (.tmp 23) (by rfl) w.heap.size v1 (u8s l) [.int .u8 119] (by rfl) (some ⟨q2, 0, none⟩) 1 1 (by rfl) (fun h => by cases h) (unhide V2) (fun u hu => by rw [List.mem_singleton.1 hu]; rfl) (unhide O1) (by rw [u8s_len]; omega) (unhide KA).size ?_
       intro v3 W3 hO3 g3
       replace KA : Hid (Kept [] w W3) := kept_grown (unhide KA) g3 (fun k h => ((unhide O1).lt k h).1)
       obtain ⟨g5, ex5, hv3, hg5, B5⟩ := owns_blk hO3 (by simp)
       obtain ⟨c5, hc5⟩ : ∃ c5, u8s l ++ [.int .u8 119] ++ ex5 = c5 := ⟨_, rfl⟩
       have hl5 : (u8s l ++ [Value.int .u8 119]).length = m + 1 := by simp [u8s_len, hlm]
       rw [hl5, hc5] at hv3
       rw [hc5] at B5
       subst hv3
       have HC5 := hide hc5
       have HB5 := hide B5
       have HG5 := hide hg5
       clear hO3 g3 B5 hg5 hc5 V2 O1 hl5
       refine Stp.go ?_))
  constructor
  go_wp2_with (
    first
    | (at_builtin; refine wpAppV (T := 43) (e := 2) (z := .int .i64 0) Try.underlying43 Try.zero2 rfl (by decide) (by rfl) (.const (.slice none 0 0)) (.tmp 25) (by rfl) W3.heap.size (.slice none 0 0) [] (i64s eps) (by rfl) eo n ec (by rfl) hn2 ((unhide HE).kept (unhide KA) (fun _ _ _ => by simp)) (i64s_one _) (World.ownsRow_nil _ _ _ _) (by simp; omega) (Nat.le_refl _) ?_
       intro v4 W4 hO4 g4
       have KB : Hid (Kept [] W3 W4) := kept_grown (Kept.refl _ _) g4 (fun k h => by simp [Value.ownBlock] at h)
       have O4 : Hid (W4.ownsRow W3.heap.size 2 1 v4 (i64s eps).length (i64s eps)) := hO4
       clear hO4 g4
       refine Stp.go ?_))
  constructor
  go_wp2_with (
    first
    | (refine wpBuildS1 (.int .i64 77) build43 (by rfl) (.const (.int .i64 77)) (by rfl) (by rfl) ?_
       intro W5 q5 e5 B5 K5
       replace O4 := hide (owns_kept (unhide O4) K5)
       replace KB := hide ((unhide KB).trans K5)
       have V5 : Hid (Vals W5 (some ⟨q5, 0, none⟩) 1 1 [.int .i64 77]) := ⟨rfl, Nat.le_refl _, fun _ => ⟨q5, 0, rfl, B5.range⟩⟩
       clear e5 B5 K5
       refine Stp.go ?_))
  constructor
  go_wp2_with (
    first
    | (at_builtin; refine wpAppV (T := 43) (e := 2) (z := .int .i64 0) Try.underlying43 Try.zero2 rfl (by decide) (by rfl) (.tmp 26) (.tmp 27) (by rfl) W3.heap.size v4 (i64s eps) [.int .i64 77] (by rfl) (some ⟨q5, 0, none⟩) 1 1 (by rfl) (fun h => by cases h) (unhide V5) (fun u hu => by rw [List.mem_singleton.1 hu]; rfl) (unhide O4) (by rw [i64s_len]; omega) (unhide KB).size ?_
       intro v6 W6 hO6 g6'
       replace KB : Hid (Kept [] W3 W6) := kept_grown (unhide KB) g6' (fun k h => ((unhide O4).lt k h).1)
       obtain ⟨g6, ex6, hv6, hg6, B6⟩ := owns_blk hO6 (by simp)
       obtain ⟨c6, hc6⟩ : ∃ c6, i64s eps ++ [.int .i64 77] ++ ex6 = c6 := ⟨_, rfl⟩
       have hl6 : (i64s eps ++ [Value.int .i64 77]).length = n + 1 := by simp [i64s_len, hen]
       rw [hl6, hc6] at hv6
       rw [hc6] at B6
       subst hv6
       have HC6 := hide hc6
       have G : Hid (Ow w W6 g5 g6 c5 c6) := ⟨(unhide HB5).kept (unhide KB) (by simp), B6, (unhide KA).trans (unhide KB), unhide HG5, by have := (unhide KA).size; omega, by have := (unhide HB5).lt; omega⟩
       clear hO6 g6' B6 hg6 hc6 V5 O4 hl6 KA KB HB5 HG5))
  have hc5m : m ≤ c5.length := by rw [← unhide HC5]; simp [u8s_len]; omega
  have hc6n : n ≤ c6.length := by rw [← unhide HC6]; simp [i64s_len]; omega
  have hc5l : m + 1 ≤ c5.length := by rw [← unhide HC5]; simp [u8s_len]; omega
  have hc6l : n + 1 ≤ c6.length := by rw [← unhide HC6]; simp [i64s_len]; omega
  have VL : Hid (Vals W6 (some ⟨g5, 0, none⟩) m c5.length (u8s l)) := by
    have := blk_vals (xs := u8s l ++ [.int .u8 119]) (ex := ex5) (by rw [unhide HC5]; exact (unhide G).b5) (u8s l) _ rfl
    rw [u8s_len, hlm, unhide HC5] at this
    exact this
  have VE : Hid (Vals W6 (some ⟨g6, 0, none⟩) n c6.length (eps.map (Value.int .i64))) := by
    have := blk_vals (xs := i64s eps ++ [.int .i64 77]) (ex := ex6) (by rw [unhide HC6]; exact (unhide G).b6) (i64s eps) _ rfl
    rw [i64s_len, hen, unhide HC6] at this
    exact this
  refine wp_region_any mixed (wpAny_tpk 10 4 rfl (by kernel_rfl) [.is (.slice (some ⟨g5, 0, none⟩) (m + 1) c5.length), .is (.slice ao m c), .is (.int .i64 m), .is (.slice (some ⟨g5, 0, none⟩) m c5.length), .is (.slice (some ⟨g6, 0, none⟩) (n + 1) c6.length), .is (.slice eo n ec), .is (.int .i64 n), .is (.slice (some ⟨g6, 0, none⟩) n c6.length), .is (.tuple #[.pointer none, .int .i64 2]), .is (.tuple #[.pointer none, .int .i64 2])] rfl (by kernel_rfl) (by kernel_rfl) ?_ ?_)
  · intro i o' hi hsk ho a' w2 hout hin hk2
    replace hk2 : Kept [] W6 w2 := ⟨hk2.os, hk2.tape, hk2.output, hk2.size, hk2.block⟩
    match i, ho, hsk with
    | 0, ho, hsk =>
      obtain rfl := Option.some.inj ho
      exact wp_move (.tmp 5) rfl _ ((hout 5 (by kernel_rfl)).trans rfl) ⟨_, rfl, tp_is _ _ _ _ rfl, Kept.refl _ _, fun _ _ _ _ _ => trivial⟩
    | 1, ho, hsk =>
      obtain rfl := Option.some.inj ho
      exact wp_move (.tmp 0) rfl _ ((hout 0 (by kernel_rfl)).trans rfl) ⟨_, rfl, tp_is _ _ _ _ rfl, Kept.refl _ _, fun _ _ _ _ _ => trivial⟩
    | 2, ho, hsk =>
      obtain rfl := Option.some.inj ho
      have e0 : a'.eval (.tmp 31) = .slice ao m c := is_tp (hin 1 31 (by kernel_rfl) (by kernel_rfl)) rfl
      exact o_len42 31 rfl _ _ _ e0 ⟨_, rfl, tp_is _ _ _ _ rfl, Kept.refl _ _, fun _ _ _ _ _ => trivial⟩
    | 3, ho, hsk =>
      obtain rfl := Option.some.inj ho
      have e0 : a'.eval (.tmp 30) = .slice (some ⟨g5, 0, none⟩) (m + 1) c5.length := is_tp (hin 0 30 (by kernel_rfl) (by kernel_rfl)) rfl
      have e1 : a'.eval (.tmp 32) = .int .i64 m := is_tp (hin 2 32 (by kernel_rfl) (by kernel_rfl)) rfl
      exact o_slice 42 (.inl rfl) (.tmp 30) 32 rfl g5 _ _ m hc5m e0 e1 ⟨_, rfl, tp_is _ _ _ _ rfl, Kept.refl _ _, fun _ _ _ _ _ => trivial⟩
    | 4, ho, hsk =>
      obtain rfl := Option.some.inj ho
      exact wp_move (.tmp 6) rfl _ ((hout 6 (by kernel_rfl)).trans rfl) ⟨_, rfl, tp_is _ _ _ _ rfl, Kept.refl _ _, fun _ _ _ _ _ => trivial⟩
    | 5, ho, hsk =>
      obtain rfl := Option.some.inj ho
      exact wp_move (.tmp 1) rfl _ ((hout 1 (by kernel_rfl)).trans rfl) ⟨_, rfl, tp_is _ _ _ _ rfl, Kept.refl _ _, fun _ _ _ _ _ => trivial⟩
    | 6, ho, hsk =>
      obtain rfl := Option.some.inj ho
      have e0 : a'.eval (.tmp 35) = .slice eo n ec := is_tp (hin 5 35 (by kernel_rfl) (by kernel_rfl)) rfl
      exact o_len43 35 rfl _ _ _ e0 ⟨_, rfl, tp_is _ _ _ _ rfl, Kept.refl _ _, fun _ _ _ _ _ => trivial⟩
    | 7, ho, hsk =>
      obtain rfl := Option.some.inj ho
      have e0 : a'.eval (.tmp 34) = .slice (some ⟨g6, 0, none⟩) (n + 1) c6.length := is_tp (hin 4 34 (by kernel_rfl) (by kernel_rfl)) rfl
      have e1 : a'.eval (.tmp 36) = .int .i64 n := is_tp (hin 6 36 (by kernel_rfl) (by kernel_rfl)) rfl
      exact o_slice 43 (.inr rfl) (.tmp 34) 36 rfl g6 _ _ n hc6n e0 e1 ⟨_, rfl, tp_is _ _ _ _ rfl, Kept.refl _ _, fun _ _ _ _ _ => trivial⟩
    | 8, ho, hsk =>
      obtain rfl := Option.some.inj ho
      have e0 : a'.eval (.tmp 33) = .slice (some ⟨g5, 0, none⟩) m c5.length := is_tp (hin 3 33 (by kernel_rfl) (by kernel_rfl)) rfl
      have e1 : a'.eval (.tmp 37) = .slice (some ⟨g6, 0, none⟩) n c6.length := is_tp (hin 7 37 (by kernel_rfl) (by kernel_rfl)) rfl
      refine wp_callF 15 _ _ rfl #[.slice (some ⟨g5, 0, none⟩) m c5.length, .slice (some ⟨g6, 0, none⟩) n c6.length] (by simp [e0, e1]) (cg15 _ _) ((of_no _ _ m _ n _ eps _ ((unhide VE).kept hk2 (fun _ _ _ => by simp)) (by omega) (by omega) (unhide HO)).mono ?_)
      rintro e w3 ⟨rfl, rfl⟩
      exact ⟨_, rfl, _, rfl, tp_is _ _ _ _ rfl, Kept.refl _ _, fun _ _ _ _ _ => trivial⟩
    | 9, ho, hsk =>
      obtain rfl := Option.some.inj ho
      have e0 : a'.eval (.tmp 38) = .tuple #[.pointer none, .int .i64 2] := is_tp (hin 8 38 (by kernel_rfl) (by kernel_rfl)) rfl
      exact wp_move (.tmp 38) rfl _ e0 ⟨_, rfl, tp_is _ _ _ _ rfl, Kept.refl _ _, fun _ _ _ _ _ => trivial⟩
  intro xx w9 hf9 hk9
  replace hk9 : Kept [] W6 w9 := ⟨hk9.os, hk9.tape, hk9.output, hk9.size, hk9.block⟩
  simp only [valsP, Nat.reduceAdd, List.take_succ_cons, List.take_zero, putAll, Act.put, List.setIfInBounds_toArray, List.set_cons_succ, List.set_cons_zero]
  clear hf9 xx
  refine tuple_tail 10 29 39 40 7 8 _ _ _ _ _ rfl rfl rfl rfl rfl rfl rfl rfl rfl rfl rfl rfl rfl rfl rfl rfl (by kernel_rfl) (by kernel_rfl) (by kernel_rfl) (by kernel_rfl) (by kernel_rfl) (by kernel_rfl) (by kernel_rfl) (by kernel_rfl) (by kernel_rfl) (by kernel_rfl) (by kernel_rfl) (by kernel_rfl) (by simp) (by decide) (.pointer none) (.int .i64 2) rfl ?_
  simp only [Act.put, List.setIfInBounds_toArray, List.set_cons_succ, List.set_cons_zero]
  have hg56 : g5 < w9.heap.size ∧ g6 < w9.heap.size := ⟨((unhide G).step hk9).b5.lt, ((unhide G).step hk9).b6.lt⟩
  replace G := hide ((unhide G).step hk9)
  clear hk9 VL VE
  have P16 := hide (r_of ao eo m c n ec l eps w9 (unhide HBy) ((unhide HL).kept (unhide G).k (fun _ _ _ => by simp)) ((unhide HE).kept (unhide G).k (fun _ _ _ => by simp)) (by omega) (by omega))
  go_wp2_with (
    first
    | (go_at_call 16
       refine (unhide P16).mono ?_
       rintro e W7 ⟨K7, h7⟩
       obtain rfl : e = .returned (.pointer none) := by
         rcases h7 with ⟨_, h⟩ | ⟨h, _⟩
         · exact h
         · rw [unhide HO] at h; cases h
       replace G := hide ((unhide G).step K7)
       clear h7 K7 P16 hg56
       refine Stp.go ?_))
  constructor
  
  have hcv1 : (convert 42 9 (.slice (some ⟨g5, 0, none⟩) (m + 1) c5.length)).run Try.prog W7 = .ok (.string (strOfNums (l ++ [119]))) W7 := by
    refine conv42 ⟨some ⟨g5, 0, none⟩, c5.length, by simp [hlm], fun _ => ⟨g5, 0, rfl, ?_⟩⟩
    refine (unhide G).b5.rangeIn _ (fun j hj => ?_)
    rw [← unhide HC5, Nat.zero_add, u8s_app, List.getElem?_append_left (by rw [u8s_app] at hj; exact hj)]
    rfl
  have hcv2 : (convert 42 9 (.slice ao m c)).run Try.prog W7 = .ok (.string (strOfNums l)) W7 := by
    have hv := (unhide HL).kept (unhide G).k (fun _ _ _ => by simp)
    refine conv42 ⟨ao, c, by rw [hlm], fun hne => ?_⟩
    exact hv.lies (by intro e; exact hne (List.length_eq_zero_iff.1 (by rw [← u8s_len, e]; rfl)))
  have hadd := str_add l (by omega)
  have hc77 : W7.cell? ⟨g6, n, none⟩ = some (.int .i64 77) := by
    rw [(unhide G).b6.cell, ← unhide HC6, List.append_assoc, List.getElem?_append_right (by rw [i64s_len]; omega), i64s_len, hen, Nat.sub_self]
    rfl
  go_wp2_with fail
  clear hcv1 hcv2 hadd hc77
  have G5 : Hid (∃ cs, cs.length = c5.length ∧ Ow w W7 g5 g6 cs c6) := ⟨c5, rfl, unhide G⟩
  clear G
  go_loopw [10] (fun i wr => ∃ k : Nat, k ≤ m + 1 ∧ i = .int .i64 k ∧ Hid (∃ cs, cs.length = c5.length ∧ Ow w wr g5 g6 cs c6)) (fun i _ => m + 1 - (intOf i).toNat)
  case atStart => exact ⟨0, by omega, rfl, G5⟩
  case round =>
    clear G5
    obtain ⟨k, hk, rfl, G5⟩ := hrel
    by_cases hlt : k < m + 1
    · obtain ⟨cs, hcl, hG⟩ := unhide G5
      obtain ⟨u, hu⟩ : ∃ u, wr.cell? ⟨g5, k, none⟩ = some u := ⟨cs[k], by rw [hG.b5.cell]; exact List.getElem?_eq_getElem (by omega)⟩
      have hfz := hG.b5.frozen k
      have G2 : Hid (∃ cs, cs.length = c5.length ∧ Ow w (wr.setCell ⟨g5, k, none⟩ (.int .u8 102)) g5 g6 cs c6) := ⟨_, by rw [List.length_set]; exact hcl, hG.set5 _⟩
      clear hG G5
      go_wp2_with fail
      go_roundw
      case rel => exact ⟨k + 1, by omega, by go_num, G2⟩
      case measure => simp [intOf]; omega
    · obtain ⟨cs, hcl, hG⟩ := unhide G5
      go_wp2_with fail
      have G6 : Hid (∃ cs ds, (∀ j, 0 ≤ j → j < n → ds[j]? = (i64s eps)[j]?) ∧ ds.length = c6.length ∧ Ow w wr g5 g6 cs ds) := ⟨cs, c6, fun j _ hj => by rw [← unhide HC6, List.append_assoc, List.getElem?_append_left (by rw [i64s_len]; omega)], rfl, hG⟩
      clear hG G5
      go_loopw [11] (fun i wr => ∃ k : Nat, k ≤ n ∧ i = .int .i64 k ∧ Hid (∃ cs ds, (∀ j, k ≤ j → j < n → ds[j]? = (i64s eps)[j]?) ∧ ds.length = c6.length ∧ Ow w wr g5 g6 cs ds)) (fun i _ => n - (intOf i).toNat)
      case atStart => exact ⟨0, by omega, rfl, G6⟩
      case round =>
        clear G6
        obtain ⟨k, hk2', rfl, G6⟩ := hrel
        by_cases hlt : k < n
        · obtain ⟨cs, ds, hds, hdl, hG⟩ := unhide G6
          obtain ⟨x, hx⟩ : ∃ x, eps[k]? = some x := ⟨_, List.getElem?_eq_getElem (by omega)⟩
          have hxs : (i64s eps)[k]? = some (.int .i64 x) := by simp [i64s, hx]
          have CM : Hid (wr.cell? ⟨g6, 0 + k, none⟩ = some (.int .i64 x)) := by show _ = _; rw [hG.b6.cell, Nat.zero_add, hds k (Nat.le_refl _) hlt]; exact hxs
          have hv := (unhide HE).kept hG.k (fun _ _ _ => by simp)
          obtain ⟨eh, eoff, rfl, her⟩ := hv.lies (by intro e; have := congrArg List.length e; rw [i64s_len] at this; simp at this; subst this; simp at hx)
          have CX := hide (her k _ hxs)
          have HG := hide hG
          have HDS := hide hds
          clear hv her hG hds G6
          go_wp2_with fail
          refine wp_region_any mixed (wpAny_tq 9 rfl (by kernel_rfl) [some (.slice (some ⟨g6, 0, none⟩) (n + 1) c6.length), some (.int .i64 k), some (.pointer (some ⟨g6, 0 + k, none⟩)), some (.int .i64 x), some (.slice (some ⟨eh, eoff, none⟩) n ec), some (.int .i64 k), some (.pointer (some ⟨eh, eoff + k, none⟩)), some (.int .i64 x), some (.bool false)] rfl (by kernel_rfl) (by kernel_rfl) ?_ ?_)
          · intro i o' hi hsk ho a' w2 hout hin hk2
            replace hk2 : Kept [] wr w2 := ⟨hk2.os, hk2.tape, hk2.output, hk2.size, hk2.block⟩
            match i, ho, hsk with
            | 0, ho, hsk =>
              obtain rfl := Option.some.inj ho
              exact wp_move (.tmp 6) rfl _ ((hout 6 (by kernel_rfl)).trans rfl) ⟨_, rfl, tq_is _ _ _ _ rfl, Kept.refl _ _, fun _ _ _ _ _ => trivial⟩
            | 1, ho, hsk =>
              obtain rfl := Option.some.inj ho
              exact wp_move (.tmp 11) rfl _ ((hout 11 (by kernel_rfl)).trans rfl) ⟨_, rfl, tq_is _ _ _ _ rfl, Kept.refl _ _, fun _ _ _ _ _ => trivial⟩
            | 2, ho, hsk =>
              obtain rfl := Option.some.inj ho
              have e0 : a'.eval (.tmp 73) = .slice (some ⟨g6, 0, none⟩) (n + 1) c6.length := is_tq (hin 0 73 (by kernel_rfl) (by kernel_rfl)) rfl
              have e1 : a'.eval (.tmp 74) = .int .i64 k := is_tq (hin 1 74 (by kernel_rfl) (by kernel_rfl)) rfl
              exact o_idx43 (.tmp 73) (.tmp 74) rfl g6 0 _ _ k (by omega) e0 e1 ⟨_, rfl, tq_is _ _ _ _ rfl, Kept.refl _ _, fun _ _ _ _ _ => trivial⟩
            | 3, ho, hsk =>
              obtain rfl := Option.some.inj ho
              have e0 : a'.eval (.tmp 75) = .pointer (some ⟨g6, 0 + k, none⟩) := is_tq (hin 2 75 (by kernel_rfl) (by kernel_rfl)) rfl
              exact o_load2 (.tmp 75) rfl ⟨g6, 0 + k, none⟩ _ e0 (hk2.cell (unhide CM) (by simp)) ⟨_, rfl, tq_is _ _ _ _ rfl, Kept.refl _ _, fun _ _ _ _ _ => trivial⟩
            | 4, ho, hsk =>
              obtain rfl := Option.some.inj ho
              exact wp_move (.tmp 1) rfl _ ((hout 1 (by kernel_rfl)).trans rfl) ⟨_, rfl, tq_is _ _ _ _ rfl, Kept.refl _ _, fun _ _ _ _ _ => trivial⟩
            | 5, ho, hsk =>
              obtain rfl := Option.some.inj ho
              exact wp_move (.tmp 11) rfl _ ((hout 11 (by kernel_rfl)).trans rfl) ⟨_, rfl, tq_is _ _ _ _ rfl, Kept.refl _ _, fun _ _ _ _ _ => trivial⟩
            | 6, ho, hsk =>
              obtain rfl := Option.some.inj ho
              have e0 : a'.eval (.tmp 77) = .slice (some ⟨eh, eoff, none⟩) n ec := is_tq (hin 4 77 (by kernel_rfl) (by kernel_rfl)) rfl
              have e1 : a'.eval (.tmp 78) = .int .i64 k := is_tq (hin 5 78 (by kernel_rfl) (by kernel_rfl)) rfl
              exact o_idx43 (.tmp 77) (.tmp 78) rfl eh eoff _ _ k hlt e0 e1 ⟨_, rfl, tq_is _ _ _ _ rfl, Kept.refl _ _, fun _ _ _ _ _ => trivial⟩
            | 7, ho, hsk =>
              obtain rfl := Option.some.inj ho
              have e0 : a'.eval (.tmp 79) = .pointer (some ⟨eh, eoff + k, none⟩) := is_tq (hin 6 79 (by kernel_rfl) (by kernel_rfl)) rfl
              exact o_load2 (.tmp 79) rfl ⟨eh, eoff + k, none⟩ _ e0 (hk2.cell (unhide CX) (by simp)) ⟨_, rfl, tq_is _ _ _ _ rfl, Kept.refl _ _, fun _ _ _ _ _ => trivial⟩
            | 8, ho, hsk =>
              obtain rfl := Option.some.inj ho
              have e0 : a'.eval (.tmp 76) = .int .i64 x := is_tq (hin 3 76 (by kernel_rfl) (by kernel_rfl)) rfl
              have e1 : a'.eval (.tmp 80) = .int .i64 x := is_tq (hin 7 80 (by kernel_rfl) (by kernel_rfl)) rfl
              exact o_neq2v (.tmp 76) (.tmp 80) rfl _ _ true (by simp) e0 e1 ⟨_, rfl, tq_is _ _ _ _ rfl, Kept.refl _ _, fun _ _ _ _ _ => trivial⟩
          intro w9 hk9
          replace hk9 : Kept [] wr w9 := ⟨hk9.os, hk9.tape, hk9.output, hk9.size, hk9.block⟩
          simp only [valsQ, List.map_cons, List.map_nil, Option.getD_some, List.take_succ_cons, List.take_zero, putAll, Act.put, List.setIfInBounds_toArray, List.set_cons_succ, List.set_cons_zero]
          refine wpAny_done (by kernel_rfl) ?_ _
          have hG9 := (unhide HG).step hk9
          have hc9 : w9.cell? ⟨g6, k, none⟩ = some (.int .i64 x) := by have := hk9.cell (unhide CM) (by simp); rwa [Nat.zero_add] at this
          have hf9 := hG9.b6.frozen k
          have G2 : Hid (∃ cs ds, (∀ j, k + 1 ≤ j → j < n → ds[j]? = (i64s eps)[j]?) ∧ ds.length = c6.length ∧ Ow w (w9.setCell ⟨g6, k, none⟩ (.int .i64 5)) g5 g6 cs ds) := ⟨cs, ds.set k (.int .i64 5), fun j hj hjn => by rw [List.getElem?_set_ne (by omega)]; exact unhide HDS j (by omega) hjn, by rw [List.length_set]; exact hdl, hG9.set6 _⟩
          clear hG9 HG HDS CM CX hk9
          go_wp2_with fail
          go_roundw
          case rel => exact ⟨k + 1, by omega, by go_num, G2⟩
          case measure => simp [intOf]; omega
        · obtain ⟨cs, ds, hds, hdl, hG⟩ := unhide G6
          have KK := hide hG.k
          clear hG hds G6
          go_wp2_with (
            first
            | (go_at_call 10; refine (num10 _ _).mono ?_; rintro e w' ⟨rfl, hww⟩; obtain rfl := hww.symm; clear hww
               refine Stp.go ?_))
          constructor
          go_wp2_with (
            first
            | (go_at_call 11
               refine (known11 _).mono ?_
               rintro e W9 ⟨rfl, K9⟩
               replace KK := hide ((unhide KK).trans K9)
               clear K9))
          go_ret
          exact ⟨rfl, unhide KK⟩
set_option maxHeartbeats 4000000 in
set_option maxRecDepth 100000 in
theorem ofl_yes (ao eo : Option Addr) (m c n ec : Nat) (l eps : List Int) (w : World) (hb : ∀ x ∈ l, 0 ≤ x ∧ x < 256) (hl : Vals w ao m c (u8s l)) (he : Vals w eo n ec (i64s eps)) (hn1 : ao = none → m = 0 ∧ c = 0) (hn2 : eo = none → n = 0 ∧ ec = 0) (hm : m ≤ 9000) (hn : n ≤ 20) (hof : ofB m eps = true) : Calls Try.prog 4 #[.slice ao m c, .slice eo n ec] w fun e w' => e = .returned (.bool true) ∧ Kept [] w w' := by
  have hlm := hl.len
  rw [u8s_len] at hlm
  have hen := he.len
  rw [i64s_len] at hen
  have hmI : ¬ (9000 : Int) < m := by omega
  have hnI : ¬ (20 : Int) < n := by omega
  have HL := hide hl
  have HE := hide he
  have HBy := hide hb
  have HO := hide hof
  clear hl he hb hof
  go_enter Try.func4, Try.ntmps4
  go_wp2_with (
    first
    | (at_builtin; refine wpAppV (T := 42) (e := 5) (z := .int .u8 0) Try.underlying42 Try.info5 rfl (by decide) (by rfl) (.const (.slice none 0 0)) (.tmp 21) (by rfl) w.heap.size (.slice none 0 0) [] (u8s l) (by rfl) ao m c (by rfl) hn1 (unhide HL) (u8s_one _) (World.ownsRow_nil _ _ _ _) (by simp; omega) (Nat.le_refl _) ?_
       intro v1 W1 hO1 g1
       have KA : Hid (Kept [] w W1) := kept_grown (Kept.refl _ _) g1 (fun k h => by simp [Value.ownBlock] at h)
       have O1 : Hid (W1.ownsRow w.heap.size 5 1 v1 (u8s l).length (u8s l)) := hO1
       clear hO1 g1
       refine Stp.go ?_))
  constructor
  go_wp2_with (
    first
    | (refine wpBuildS1 (.int .u8 119) build42 (by rfl) (.const (.int .u8 119)) (by rfl) (by rfl) ?_
       intro W2 q2 e2 B2 K2
       replace O1 := hide (owns_kept (unhide O1) K2)
       replace KA := hide ((unhide KA).trans K2)
       have V2 : Hid (Vals W2 (some ⟨q2, 0, none⟩) 1 1 [.int .u8 119]) := ⟨rfl, Nat.le_refl _, fun _ => ⟨q2, 0, rfl, B2.range⟩⟩
       clear e2 B2 K2
       refine Stp.go ?_))
  constructor
  go_wp2_with (
    first
    | (at_builtin; refine wpAppV (T := 42) (e := 5) (z := .int .u8 0) Try.underlying42 Try.info5 rfl (by decide) (by rfl) (.tmp 22) (.tmp 23) (by rfl) w.heap.size v1 (u8s l) [.int .u8 119] (by rfl) (some ⟨q2, 0, none⟩) 1 1 (by rfl) (fun h => by cases h) (unhide V2) (fun u hu => by rw [List.mem_singleton.1 hu]; rfl) (unhide O1) (by rw [u8s_len]; omega) (unhide KA).size ?_
       intro v3 W3 hO3 g3
       replace KA : Hid (Kept [] w W3) := kept_grown (unhide KA) g3 (fun k h => ((unhide O1).lt k h).1)
       obtain ⟨g5, ex5, hv3, hg5, B5⟩ := owns_blk hO3 (by simp)
       obtain ⟨c5, hc5⟩ : ∃ c5, u8s l ++ [.int .u8 119] ++ ex5 = c5 := ⟨_, rfl⟩
       have hl5 : (u8s l ++ [Value.int .u8 119]).length = m + 1 := by simp [u8s_len, hlm]
       rw [hl5, hc5] at hv3
       rw [hc5] at B5
       subst hv3
       have HC5 := hide hc5
       have HB5 := hide B5
       have HG5 := hide hg5
       clear hO3 g3 B5 hg5 hc5 V2 O1 hl5
       refine Stp.go ?_))
  constructor
  go_wp2_with (
    first
    | (at_builtin; refine wpAppV (T := 43) (e := 2) (z := .int .i64 0) Try.underlying43 Try.zero2 rfl (by decide) (by rfl) (.const (.slice none 0 0)) (.tmp 25) (by rfl) W3.heap.size (.slice none 0 0) [] (i64s eps) (by rfl) eo n ec (by rfl) hn2 ((unhide HE).kept (unhide KA) (fun _ _ _ => by simp)) (i64s_one _) (World.ownsRow_nil _ _ _ _) (by simp; omega) (Nat.le_refl _) ?_
       intro v4 W4 hO4 g4
       have KB : Hid (Kept [] W3 W4) := kept_grown (Kept.refl _ _) g4 (fun k h => by simp [Value.ownBlock] at h)
       have O4 : Hid (W4.ownsRow W3.heap.size 2 1 v4 (i64s eps).length (i64s eps)) := hO4
       clear hO4 g4
       refine Stp.go ?_))
  constructor
  go_wp2_with (
    first
    | (refine wpBuildS1 (.int .i64 77) build43 (by rfl) (.const (.int .i64 77)) (by rfl) (by rfl) ?_
       intro W5 q5 e5 B5 K5
       replace O4 := hide (owns_kept (unhide O4) K5)
       replace KB := hide ((unhide KB).trans K5)
       have V5 : Hid (Vals W5 (some ⟨q5, 0, none⟩) 1 1 [.int .i64 77]) := ⟨rfl, Nat.le_refl _, fun _ => ⟨q5, 0, rfl, B5.range⟩⟩
       clear e5 B5 K5
       refine Stp.go ?_))
  constructor
  go_wp2_with (
    first
    | (at_builtin; refine wpAppV (T := 43) (e := 2) (z := .int .i64 0) Try.underlying43 Try.zero2 rfl (by decide) (by rfl) (.tmp 26) (.tmp 27) (by rfl) W3.heap.size v4 (i64s eps) [.int .i64 77] (by rfl) (some ⟨q5, 0, none⟩) 1 1 (by rfl) (fun h => by cases h) (unhide V5) (fun u hu => by rw [List.mem_singleton.1 hu]; rfl) (unhide O4) (by rw [i64s_len]; omega) (unhide KB).size ?_
       intro v6 W6 hO6 g6'
       replace KB : Hid (Kept [] W3 W6) := kept_grown (unhide KB) g6' (fun k h => ((unhide O4).lt k h).1)
       obtain ⟨g6, ex6, hv6, hg6, B6⟩ := owns_blk hO6 (by simp)
       obtain ⟨c6, hc6⟩ : ∃ c6, i64s eps ++ [.int .i64 77] ++ ex6 = c6 := ⟨_, rfl⟩
       have hl6 : (i64s eps ++ [Value.int .i64 77]).length = n + 1 := by simp [i64s_len, hen]
       rw [hl6, hc6] at hv6
       rw [hc6] at B6
       subst hv6
       have HC6 := hide hc6
       have G : Hid (Ow w W6 g5 g6 c5 c6) := ⟨(unhide HB5).kept (unhide KB) (by simp), B6, (unhide KA).trans (unhide KB), unhide HG5, by have := (unhide KA).size; omega, by have := (unhide HB5).lt; omega⟩
       clear hO6 g6' B6 hg6 hc6 V5 O4 hl6 KA KB HB5 HG5))
  have hc5m : m ≤ c5.length := by rw [← unhide HC5]; simp [u8s_len]; omega
  have hc6n : n ≤ c6.length := by rw [← unhide HC6]; simp [i64s_len]; omega
  have hc5l : m + 1 ≤ c5.length := by rw [← unhide HC5]; simp [u8s_len]; omega
  have hc6l : n + 1 ≤ c6.length := by rw [← unhide HC6]; simp [i64s_len]; omega
  have VL : Hid (Vals W6 (some ⟨g5, 0, none⟩) m c5.length (u8s l)) := by
    have := blk_vals (xs := u8s l ++ [.int .u8 119]) (ex := ex5) (by rw [unhide HC5]; exact (unhide G).b5) (u8s l) _ rfl
    rw [u8s_len, hlm, unhide HC5] at this
    exact this
  have VE : Hid (Vals W6 (some ⟨g6, 0, none⟩) n c6.length (eps.map (Value.int .i64))) := by
    have := blk_vals (xs := i64s eps ++ [.int .i64 77]) (ex := ex6) (by rw [unhide HC6]; exact (unhide G).b6) (i64s eps) _ rfl
    rw [i64s_len, hen, unhide HC6] at this
    exact this
  refine wp_region_any mixed (wpAny_tpk 10 4 rfl (by kernel_rfl) [.is (.slice (some ⟨g5, 0, none⟩) (m + 1) c5.length), .is (.slice ao m c), .is (.int .i64 m), .is (.slice (some ⟨g5, 0, none⟩) m c5.length), .is (.slice (some ⟨g6, 0, none⟩) (n + 1) c6.length), .is (.slice eo n ec), .is (.int .i64 n), .is (.slice (some ⟨g6, 0, none⟩) n c6.length), .pr (PT W6.heap.size (ofDev l eps)) (PT_kept _ _), .pr (PT W6.heap.size (ofDev l eps)) (PT_kept _ _)] rfl (by kernel_rfl) (by kernel_rfl) ?_ ?_)
  · intro i o' hi hsk ho a' w2 hout hin hk2
    replace hk2 : Kept [] W6 w2 := ⟨hk2.os, hk2.tape, hk2.output, hk2.size, hk2.block⟩
    match i, ho, hsk with
    | 0, ho, hsk =>
      obtain rfl := Option.some.inj ho
      exact wp_move (.tmp 5) rfl _ ((hout 5 (by kernel_rfl)).trans rfl) ⟨_, rfl, tp_is _ _ _ _ rfl, Kept.refl _ _, fun _ _ _ _ _ => trivial⟩
    | 1, ho, hsk =>
      obtain rfl := Option.some.inj ho
      exact wp_move (.tmp 0) rfl _ ((hout 0 (by kernel_rfl)).trans rfl) ⟨_, rfl, tp_is _ _ _ _ rfl, Kept.refl _ _, fun _ _ _ _ _ => trivial⟩
    | 2, ho, hsk =>
      obtain rfl := Option.some.inj ho
      have e0 : a'.eval (.tmp 31) = .slice ao m c := is_tp (hin 1 31 (by kernel_rfl) (by kernel_rfl)) rfl
      exact o_len42 31 rfl _ _ _ e0 ⟨_, rfl, tp_is _ _ _ _ rfl, Kept.refl _ _, fun _ _ _ _ _ => trivial⟩
    | 3, ho, hsk =>
      obtain rfl := Option.some.inj ho
      have e0 : a'.eval (.tmp 30) = .slice (some ⟨g5, 0, none⟩) (m + 1) c5.length := is_tp (hin 0 30 (by kernel_rfl) (by kernel_rfl)) rfl
      have e1 : a'.eval (.tmp 32) = .int .i64 m := is_tp (hin 2 32 (by kernel_rfl) (by kernel_rfl)) rfl
      exact o_slice 42 (.inl rfl) (.tmp 30) 32 rfl g5 _ _ m hc5m e0 e1 ⟨_, rfl, tp_is _ _ _ _ rfl, Kept.refl _ _, fun _ _ _ _ _ => trivial⟩
    | 4, ho, hsk =>
      obtain rfl := Option.some.inj ho
      exact wp_move (.tmp 6) rfl _ ((hout 6 (by kernel_rfl)).trans rfl) ⟨_, rfl, tp_is _ _ _ _ rfl, Kept.refl _ _, fun _ _ _ _ _ => trivial⟩
    | 5, ho, hsk =>
      obtain rfl := Option.some.inj ho
      exact wp_move (.tmp 1) rfl _ ((hout 1 (by kernel_rfl)).trans rfl) ⟨_, rfl, tp_is _ _ _ _ rfl, Kept.refl _ _, fun _ _ _ _ _ => trivial⟩
    | 6, ho, hsk =>
      obtain rfl := Option.some.inj ho
      have e0 : a'.eval (.tmp 35) = .slice eo n ec := is_tp (hin 5 35 (by kernel_rfl) (by kernel_rfl)) rfl
      exact o_len43 35 rfl _ _ _ e0 ⟨_, rfl, tp_is _ _ _ _ rfl, Kept.refl _ _, fun _ _ _ _ _ => trivial⟩
    | 7, ho, hsk =>
      obtain rfl := Option.some.inj ho
      have e0 : a'.eval (.tmp 34) = .slice (some ⟨g6, 0, none⟩) (n + 1) c6.length := is_tp (hin 4 34 (by kernel_rfl) (by kernel_rfl)) rfl
      have e1 : a'.eval (.tmp 36) = .int .i64 n := is_tp (hin 6 36 (by kernel_rfl) (by kernel_rfl)) rfl
      exact o_slice 43 (.inr rfl) (.tmp 34) 36 rfl g6 _ _ n hc6n e0 e1 ⟨_, rfl, tp_is _ _ _ _ rfl, Kept.refl _ _, fun _ _ _ _ _ => trivial⟩
    | 8, ho, hsk =>
      obtain rfl := Option.some.inj ho
      have e0 : a'.eval (.tmp 33) = .slice (some ⟨g5, 0, none⟩) m c5.length := is_tp (hin 3 33 (by kernel_rfl) (by kernel_rfl)) rfl
      have e1 : a'.eval (.tmp 37) = .slice (some ⟨g6, 0, none⟩) n c6.length := is_tp (hin 7 37 (by kernel_rfl) (by kernel_rfl)) rfl
      refine wp_callF 15 _ _ rfl #[.slice (some ⟨g5, 0, none⟩) m c5.length, .slice (some ⟨g6, 0, none⟩) n c6.length] (by simp [e0, e1]) (cg15 _ _) ((of_yes _ _ m _ n _ l eps _ (unhide HBy) ((unhide VL).kept hk2 (fun _ _ _ => by simp)) ((unhide VE).kept hk2 (fun _ _ _ => by simp)) (by omega) (unhide HO)).mono ?_)
      rintro e w3 ⟨b, g, rfl, hb1, hb2, hb3, hk3⟩
      exact ⟨_, rfl, _, rfl, tp_pr _ _ _ _ _ _ rfl ⟨b, g, rfl, Nat.le_trans hk2.size hb1, Nat.le_trans hk2.size hb2, hb3⟩, hk3, fun _ _ _ _ _ => trivial⟩
    | 9, ho, hsk =>
      obtain rfl := Option.some.inj ho
      have e0 := pr_tp (hin 8 38 (by kernel_rfl) (by kernel_rfl)) rfl
      exact o_moveX (.tmp 38) rfl ⟨_, rfl, tp_pr _ _ _ _ _ _ rfl (e0), Kept.refl _ _, fun _ _ _ _ _ => trivial⟩
  intro xx w9 hf9 hk9
  replace hk9 : Kept [] W6 w9 := ⟨hk9.os, hk9.tape, hk9.output, hk9.size, hk9.block⟩
  simp only [valsP, Nat.reduceAdd, List.take_succ_cons, List.take_zero, putAll, Act.put, List.setIfInBounds_toArray, List.set_cons_succ, List.set_cons_zero]
  obtain ⟨b, g, hb12, hb1, hb2, hb3⟩ : PT W6.heap.size (ofDev l eps) (xx 9) w9 := hf9 9 _ _ rfl
  rw [hb12]
  obtain ⟨y8, hy8⟩ : ∃ y, xx 8 = y := ⟨_, rfl⟩
  rw [hy8]
  refine tuple_tail 10 29 39 40 7 8 _ _ _ _ _ rfl rfl rfl rfl rfl rfl rfl rfl rfl rfl rfl rfl rfl rfl rfl rfl (by kernel_rfl) (by kernel_rfl) (by kernel_rfl) (by kernel_rfl) (by kernel_rfl) (by kernel_rfl) (by kernel_rfl) (by kernel_rfl) (by kernel_rfl) (by kernel_rfl) (by kernel_rfl) (by kernel_rfl) (by simp) (by decide) (P0 b) (.int .i64 0) rfl ?_
  simp only [Act.put, List.setIfInBounds_toArray, List.set_cons_succ, List.set_cons_zero]
  have DV := hide hb3
  have nb : Hid (b ≠ g5 ∧ b ≠ g6 ∧ g ≠ g5 ∧ g ≠ g6) := by
    have h1 := (unhide G).b5.lt
    have h2 := (unhide G).b6.lt
    exact ⟨by omega, by omega, by omega, by omega⟩
  clear hb12 hy8 hf9 hb1 hb2 hb3 xx
  have hg56 : g5 < w9.heap.size ∧ g6 < w9.heap.size := ⟨((unhide G).step hk9).b5.lt, ((unhide G).step hk9).b6.lt⟩
  replace G := hide ((unhide G).step hk9)
  clear hk9 VL VE
  have P16 := hide (r_of ao eo m c n ec l eps w9 (unhide HBy) ((unhide HL).kept (unhide G).k (fun _ _ _ => by simp)) ((unhide HE).kept (unhide G).k (fun _ _ _ => by simp)) (by omega) (by omega))
  go_wp2_with (
    first
    | (go_at_call 16
       refine (unhide P16).mono ?_
       rintro e W7 ⟨K7, h7⟩
       obtain ⟨r, sg, eg, rfl, hge7, hR⟩ : ∃ r sg eg, e = .returned (P0 r) ∧ (w9.heap.size ≤ r ∧ w9.heap.size ≤ sg ∧ w9.heap.size ≤ eg) ∧ Rv W7 r sg eg (ofDev l eps) := by
         rcases h7 with ⟨h, _⟩ | ⟨_, h⟩
         · rw [unhide HO] at h; cases h
         · exact h
       replace G := hide ((unhide G).step K7)
       replace DV := hide ((unhide DV).kept K7 (by simp) (by simp))
       have RV := hide hR
       have nr : Hid (r ≠ g5 ∧ r ≠ g6 ∧ sg ≠ g5 ∧ sg ≠ g6 ∧ eg ≠ g5 ∧ eg ≠ g6) := ⟨by omega, by omega, by omega, by omega, by omega, by omega⟩
       clear hR hge7 h7 K7 P16 hg56
       refine Stp.go ?_))
  constructor
  
  have hcv1 : (convert 42 9 (.slice (some ⟨g5, 0, none⟩) (m + 1) c5.length)).run Try.prog W7 = .ok (.string (strOfNums (l ++ [119]))) W7 := by
    refine conv42 ⟨some ⟨g5, 0, none⟩, c5.length, by simp [hlm], fun _ => ⟨g5, 0, rfl, ?_⟩⟩
    refine (unhide G).b5.rangeIn _ (fun j hj => ?_)
    rw [← unhide HC5, Nat.zero_add, u8s_app, List.getElem?_append_left (by rw [u8s_app] at hj; exact hj)]
    rfl
  have hcv2 : (convert 42 9 (.slice ao m c)).run Try.prog W7 = .ok (.string (strOfNums l)) W7 := by
    have hv := (unhide HL).kept (unhide G).k (fun _ _ _ => by simp)
    refine conv42 ⟨ao, c, by rw [hlm], fun hne => ?_⟩
    exact hv.lies (by intro e; exact hne (List.length_eq_zero_iff.1 (by rw [← u8s_len, e]; rfl)))
  have hadd := str_add l (by omega)
  have hc77 : W7.cell? ⟨g6, n, none⟩ = some (.int .i64 77) := by
    rw [(unhide G).b6.cell, ← unhide HC6, List.append_assoc, List.getElem?_append_right (by rw [i64s_len]; omega), i64s_len, hen, Nat.sub_self]
    rfl
  go_wp2_with fail
  clear hcv1 hcv2 hadd hc77
  have G5 : Hid (∃ cs, cs.length = c5.length ∧ Ow w W7 g5 g6 cs c6) := ⟨c5, rfl, unhide G⟩
  clear G
  go_loopw [10] (fun i wr => ∃ k : Nat, k ≤ m + 1 ∧ i = .int .i64 k ∧ Hid (∃ cs, cs.length = c5.length ∧ Ow w wr g5 g6 cs c6) ∧ Hid (Dv wr b g (ofDev l eps)) ∧ Hid (Rv wr r sg eg (ofDev l eps))) (fun i _ => m + 1 - (intOf i).toNat)
  case atStart => exact ⟨0, by omega, rfl, G5, DV, RV⟩
  case round =>
    clear G5 DV RV
    obtain ⟨k, hk, rfl, G5, DV, RV⟩ := hrel
    by_cases hlt : k < m + 1
    · obtain ⟨cs, hcl, hG⟩ := unhide G5
      obtain ⟨u, hu⟩ : ∃ u, wr.cell? ⟨g5, k, none⟩ = some u := ⟨cs[k], by rw [hG.b5.cell]; exact List.getElem?_eq_getElem (by omega)⟩
      have hfz := hG.b5.frozen k
      have G2 : Hid (∃ cs, cs.length = c5.length ∧ Ow w (wr.setCell ⟨g5, k, none⟩ (.int .u8 102)) g5 g6 cs c6) := ⟨_, by rw [List.length_set]; exact hcl, hG.set5 _⟩
      have hkk : Kept [g5] wr (wr.setCell ⟨g5, k, none⟩ (.int .u8 102)) := (Kept.refl _ _).setCell (by simp) _
      have nb' := unhide nb
      have nr' := unhide nr
      have DV2 := hide ((unhide DV).kept hkk (by simp; omega) (by simp; omega))
      have RV2 := hide ((unhide RV).kept hkk (by simp; omega) (by simp; omega) (by simp; omega))
      clear hkk nb' nr'
      clear hG G5
      go_wp2_with fail
      go_roundw
      case rel => exact ⟨k + 1, by omega, by go_num, G2, DV2, RV2⟩
      case measure => simp [intOf]; omega
    · obtain ⟨cs, hcl, hG⟩ := unhide G5
      go_wp2_with fail
      have G6 : Hid (∃ cs ds, (∀ j, 0 ≤ j → j < n → ds[j]? = (i64s eps)[j]?) ∧ ds.length = c6.length ∧ Ow w wr g5 g6 cs ds) := ⟨cs, c6, fun j _ hj => by rw [← unhide HC6, List.append_assoc, List.getElem?_append_left (by rw [i64s_len]; omega)], rfl, hG⟩
      clear hG G5
      go_loopw [11] (fun i wr => ∃ k : Nat, k ≤ n ∧ i = .int .i64 k ∧ Hid (∃ cs ds, (∀ j, k ≤ j → j < n → ds[j]? = (i64s eps)[j]?) ∧ ds.length = c6.length ∧ Ow w wr g5 g6 cs ds) ∧ Hid (Dv wr b g (ofDev l eps)) ∧ Hid (Rv wr r sg eg (ofDev l eps))) (fun i _ => n - (intOf i).toNat)
      case atStart => exact ⟨0, by omega, rfl, G6, DV, RV⟩
      case round =>
        clear G6 DV RV
        obtain ⟨k, hk2', rfl, G6, DV, RV⟩ := hrel
        by_cases hlt : k < n
        · obtain ⟨cs, ds, hds, hdl, hG⟩ := unhide G6
          obtain ⟨x, hx⟩ : ∃ x, eps[k]? = some x := ⟨_, List.getElem?_eq_getElem (by omega)⟩
          have hxs : (i64s eps)[k]? = some (.int .i64 x) := by simp [i64s, hx]
          have CM : Hid (wr.cell? ⟨g6, 0 + k, none⟩ = some (.int .i64 x)) := by show _ = _; rw [hG.b6.cell, Nat.zero_add, hds k (Nat.le_refl _) hlt]; exact hxs
          have hv := (unhide HE).kept hG.k (fun _ _ _ => by simp)
          obtain ⟨eh, eoff, rfl, her⟩ := hv.lies (by intro e; have := congrArg List.length e; rw [i64s_len] at this; simp at this; subst this; simp at hx)
          have CX := hide (her k _ hxs)
          have HG := hide hG
          have HDS := hide hds
          clear hv her hG hds G6
          go_wp2_with fail
          refine wp_region_any mixed (wpAny_tq 9 rfl (by kernel_rfl) [some (.slice (some ⟨g6, 0, none⟩) (n + 1) c6.length), some (.int .i64 k), some (.pointer (some ⟨g6, 0 + k, none⟩)), some (.int .i64 x), some (.slice (some ⟨eh, eoff, none⟩) n ec), some (.int .i64 k), some (.pointer (some ⟨eh, eoff + k, none⟩)), some (.int .i64 x), some (.bool false)] rfl (by kernel_rfl) (by kernel_rfl) ?_ ?_)
          · intro i o' hi hsk ho a' w2 hout hin hk2
            replace hk2 : Kept [] wr w2 := ⟨hk2.os, hk2.tape, hk2.output, hk2.size, hk2.block⟩
            match i, ho, hsk with
            | 0, ho, hsk =>
              obtain rfl := Option.some.inj ho
              exact wp_move (.tmp 6) rfl _ ((hout 6 (by kernel_rfl)).trans rfl) ⟨_, rfl, tq_is _ _ _ _ rfl, Kept.refl _ _, fun _ _ _ _ _ => trivial⟩
            | 1, ho, hsk =>
              obtain rfl := Option.some.inj ho
              exact wp_move (.tmp 11) rfl _ ((hout 11 (by kernel_rfl)).trans rfl) ⟨_, rfl, tq_is _ _ _ _ rfl, Kept.refl _ _, fun _ _ _ _ _ => trivial⟩
            | 2, ho, hsk =>
              obtain rfl := Option.some.inj ho
              have e0 : a'.eval (.tmp 73) = .slice (some ⟨g6, 0, none⟩) (n + 1) c6.length := is_tq (hin 0 73 (by kernel_rfl) (by kernel_rfl)) rfl
              have e1 : a'.eval (.tmp 74) = .int .i64 k := is_tq (hin 1 74 (by kernel_rfl) (by kernel_rfl)) rfl
              exact o_idx43 (.tmp 73) (.tmp 74) rfl g6 0 _ _ k (by omega) e0 e1 ⟨_, rfl, tq_is _ _ _ _ rfl, Kept.refl _ _, fun _ _ _ _ _ => trivial⟩
            | 3, ho, hsk =>
              obtain rfl := Option.some.inj ho
              have e0 : a'.eval (.tmp 75) = .pointer (some ⟨g6, 0 + k, none⟩) := is_tq (hin 2 75 (by kernel_rfl) (by kernel_rfl)) rfl
              exact o_load2 (.tmp 75) rfl ⟨g6, 0 + k, none⟩ _ e0 (hk2.cell (unhide CM) (by simp)) ⟨_, rfl, tq_is _ _ _ _ rfl, Kept.refl _ _, fun _ _ _ _ _ => trivial⟩
            | 4, ho, hsk =>
              obtain rfl := Option.some.inj ho
              exact wp_move (.tmp 1) rfl _ ((hout 1 (by kernel_rfl)).trans rfl) ⟨_, rfl, tq_is _ _ _ _ rfl, Kept.refl _ _, fun _ _ _ _ _ => trivial⟩
            | 5, ho, hsk =>
              obtain rfl := Option.some.inj ho
              exact wp_move (.tmp 11) rfl _ ((hout 11 (by kernel_rfl)).trans rfl) ⟨_, rfl, tq_is _ _ _ _ rfl, Kept.refl _ _, fun _ _ _ _ _ => trivial⟩
            | 6, ho, hsk =>
              obtain rfl := Option.some.inj ho
              have e0 : a'.eval (.tmp 77) = .slice (some ⟨eh, eoff, none⟩) n ec := is_tq (hin 4 77 (by kernel_rfl) (by kernel_rfl)) rfl
              have e1 : a'.eval (.tmp 78) = .int .i64 k := is_tq (hin 5 78 (by kernel_rfl) (by kernel_rfl)) rfl
              exact o_idx43 (.tmp 77) (.tmp 78) rfl eh eoff _ _ k hlt e0 e1 ⟨_, rfl, tq_is _ _ _ _ rfl, Kept.refl _ _, fun _ _ _ _ _ => trivial⟩
            | 7, ho, hsk =>
              obtain rfl := Option.some.inj ho
              have e0 : a'.eval (.tmp 79) = .pointer (some ⟨eh, eoff + k, none⟩) := is_tq (hin 6 79 (by kernel_rfl) (by kernel_rfl)) rfl
              exact o_load2 (.tmp 79) rfl ⟨eh, eoff + k, none⟩ _ e0 (hk2.cell (unhide CX) (by simp)) ⟨_, rfl, tq_is _ _ _ _ rfl, Kept.refl _ _, fun _ _ _ _ _ => trivial⟩
            | 8, ho, hsk =>
              obtain rfl := Option.some.inj ho
              have e0 : a'.eval (.tmp 76) = .int .i64 x := is_tq (hin 3 76 (by kernel_rfl) (by kernel_rfl)) rfl
              have e1 : a'.eval (.tmp 80) = .int .i64 x := is_tq (hin 7 80 (by kernel_rfl) (by kernel_rfl)) rfl
              exact o_neq2v (.tmp 76) (.tmp 80) rfl _ _ true (by simp) e0 e1 ⟨_, rfl, tq_is _ _ _ _ rfl, Kept.refl _ _, fun _ _ _ _ _ => trivial⟩
          intro w9 hk9
          replace hk9 : Kept [] wr w9 := ⟨hk9.os, hk9.tape, hk9.output, hk9.size, hk9.block⟩
          simp only [valsQ, List.map_cons, List.map_nil, Option.getD_some, List.take_succ_cons, List.take_zero, putAll, Act.put, List.setIfInBounds_toArray, List.set_cons_succ, List.set_cons_zero]
          refine wpAny_done (by kernel_rfl) ?_ _
          have hG9 := (unhide HG).step hk9
          have hc9 : w9.cell? ⟨g6, k, none⟩ = some (.int .i64 x) := by have := hk9.cell (unhide CM) (by simp); rwa [Nat.zero_add] at this
          have hf9 := hG9.b6.frozen k
          have G2 : Hid (∃ cs ds, (∀ j, k + 1 ≤ j → j < n → ds[j]? = (i64s eps)[j]?) ∧ ds.length = c6.length ∧ Ow w (w9.setCell ⟨g6, k, none⟩ (.int .i64 5)) g5 g6 cs ds) := ⟨cs, ds.set k (.int .i64 5), fun j hj hjn => by rw [List.getElem?_set_ne (by omega)]; exact unhide HDS j (by omega) hjn, by rw [List.length_set]; exact hdl, hG9.set6 _⟩
          have hkk : Kept [g6] wr (w9.setCell ⟨g6, k, none⟩ (.int .i64 5)) := (hk9.mono (by simp)).setCell (by simp) _
          have nb' := unhide nb
          have nr' := unhide nr
          have DV2 := hide ((unhide DV).kept hkk (by simp; omega) (by simp; omega))
          have RV2 := hide ((unhide RV).kept hkk (by simp; omega) (by simp; omega) (by simp; omega))
          clear hkk nb' nr'
          clear hG9 HG HDS CM CX hk9
          go_wp2_with fail
          go_roundw
          case rel => exact ⟨k + 1, by omega, by go_num, G2, DV2, RV2⟩
          case measure => simp [intOf]; omega
        · obtain ⟨cs, ds, hds, hdl, hG⟩ := unhide G6
          have KK := hide hG.k
          clear hG hds G6
          go_wp2_with (
            first
            | (go_at_call 10; refine (num10 _ _).mono ?_; rintro e w' ⟨rfl, hww⟩; obtain rfl := hww.symm; clear hww
               refine Stp.go ?_))
          constructor
          go_wp2_with (
            first
            | (go_at_call 13
               refine (stands13 b g r sg eg _ 0 _ (unhide DV) (unhide RV)).mono ?_
               rintro e W8 ⟨rfl, K8⟩
               replace KK := hide ((unhide KK).trans K8)
               clear K8
               refine Stp.go ?_))
          constructor
          go_wp2_with (
            first
            | (go_at_call 11
               refine (known11 _).mono ?_
               rintro e W9 ⟨rfl, K9⟩
               replace KK := hide ((unhide KK).trans K9)
               clear K9))
          go_ret
          exact ⟨rfl, unhide KK⟩
theorem of4 (ao eo : Option Addr) (m c n ec : Nat) (l eps : List Int) (w : World) (hb : ∀ x ∈ l, 0 ≤ x ∧ x < 256) (hl : Vals w ao m c (u8s l)) (he : Vals w eo n ec (i64s eps)) (hn1 : ao = none → m = 0 ∧ c = 0) (hn2 : eo = none → n = 0 ∧ ec = 0) (hm : m ≤ 140737488355328) (hn : n ≤ 140737488355328) : Calls Try.prog 4 #[.slice ao m c, .slice eo n ec] w fun e w' => e = .returned (.bool true) ∧ Kept [] w w' := by
  by_cases h : 9000 < m ∨ 20 < n
  · exact of_big ao eo m c n ec w hm hn h
  · cases hof : ofB m eps with
    | false => exact ofl_no ao eo m c n ec l eps w hb hl he hn1 hn2 (by omega) (by omega) hof
    | true => exact ofl_yes ao eo m c n ec l eps w hb hl he hn1 hn2 (by omega) (by omega) hof

end Go.Proofs.Ytffflafalffifaa.K
