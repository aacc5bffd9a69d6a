/-
  The walk of the document's Stamp.
-/
import Derived.Test.YtkpkiibahfdomaaDoorRget
namespace Go.Proofs.YtkpkiibahfdomaaDoor
open Go.RowKit

/-- A record without its body. -/
def bareR (r : Rec) : Rec := ⟨r.nd, r.ep, r.ls, r.pg, r.ps, zs 96⟩
theorem Blk.bare {w : World} {q : Nat} {R : Rec} (h : Blk w q 25 (recC R)) (hR : R.bd.length = 96) : Blk (w.setCells q 5 (u8s (zs 96))) q 25 (recC (bareR R)) := by
  have := Blk.part (pre := [.int .i64 R.nd, .int .i64 R.ep, .int .i64 R.ls, .int .i64 R.pg, .int .i64 R.ps]) (mid := u8s R.bd) (post := []) (vs := u8s (zs 96)) (o := 5) (by simpa [recC] using h) rfl (by simp [u8s_len, hR, zs])
  simpa [recC, bareR] using this
theorem Blk.there5 {w : World} {q : Nat} {R : Rec} (h : Blk w q 25 (recC R)) (hR : R.bd.length = 96) : w.there q 5 96 := by
  exact h.there (by rw [recC_len hR]; omega)
theorem Ew.other {w wr : World} {b0 b1 zb q o : Nat} {s t : List Int} {vs : List Value} (h : Ew w wr b0 b1 zb s t) (h0 : b0 ≠ q) (h1 : b1 ≠ q) (h2 : zb ≠ q) (h3 : w.heap.size ≤ q) : Ew w (wr.setCells q o vs) b0 b1 zb s t :=
  ⟨h.s0.other h0, h.s1.other h1, h.res.other h2, h.kept.setCells _ _ (by omega), h.nz⟩
theorem res21 (w : World) (z : Nat) (vs : List Value) (e : Int) (r : Bool) (tmps : Array Value) (h4 : tmps[2]?.getD undef = P0 z) (h5 : tmps[3]?.getD undef = .int .i64 e) (h6 : tmps[4]?.getD undef = .bool r) (hl : vs.length = 101) (hb : Blk w z 25 vs) : (results Tryd.f21 tmps).run Tryd.prog w = .ok (.tuple #[aggV vs, .int .i64 e, .bool r]) w := by
  have := loadV row25 hl hb
  simp [results, Tryd.results21, h4, h5, h6, this, asAddr]

set_option maxHeartbeats 4000000 in
set_option maxRecDepth 100000 in
theorem rst_A (s : List Int) (ls : s.length = 64) (c : Int) (hc : 0 ≤ c ∧ c < 256) (hc0 : (u8s s)[0]? = some (.int .u8 c)) (R : Rec) (hR : R.bd.length = 96) (P39 : ∀ w, Calls Tryd.prog 39 #[aggV (u8s s), aggV (u8s s)] w fun e w' => e = .returned (aggV (recC R)) ∧ Kept [] w w') (h1 : decide (c - 177 < 0) = true) (w : World) : Calls Tryd.prog 21 #[aggV (u8s s)] w fun e w' => e = .returned (.tuple #[aggV (recC zrec), .int .i64 0, .bool false]) ∧ Kept [] w w' := by
  have H39 := hide P39
  clear P39
  have E1 := hide h1
  have HC0 := hide hc0
  clear h1 hc0
  have lR := recC_len hR
  have lz : (recC zrec).length = 101 := recC_len zrec_ok.bd.len
  obtain ⟨hc1, hc2⟩ := hc
  go_enter Tryd.func21, Tryd.ntmps21
  go_wp2_with (
    first
    | (refine wpBoxV rfl (.tmp 0) rfl (u8s s) rfl ?_
       intro W1 b0 e1 B1 K1
       have BR := hide B1
       have KA := hide K1
       clear e1 B1 K1)
    | (refine wpAllocW (recC zrec) zero25 2 rfl rfl rfl ?_
       intro W3 zb e3 B3 K3
       have G : Hid (Ew w W3 b0 b0 zb s s) := ⟨(unhide BR).kept K3 (by simp), (unhide BR).kept K3 (by simp), B3, (unhide KA).trans K3, by have := (unhide KA).size; omega⟩
       clear e3 B3 K3 BR KA)
    | (refine wpLoadA row29 (by rfl) (.tmp 1) (by rfl) b0 0 (by kernel_rfl) (u8s s) (u8l ls) (unhide G).s0.range ?_)
    | (go_at_call 39
       refine (unhide H39 _).mono ?_
       rintro e W4 ⟨rfl, K4⟩
       replace G := hide ((unhide G).step K4)
       clear K4)
    | (refine wpNew row25 (recC zrec) lz zero25 5 (by rfl) (by rfl) (by rfl) (.tmp 9) (by rfl) (by rfl) (by rfl) (recC R) lR (recC_one _) (by kernel_rfl) (by kernel_rfl) ?_
       intro W5 q e5 B5 K5
       have nq : Hid (b0 ≠ q ∧ zb ≠ q ∧ w.heap.size ≤ q) := by
         have y0 := (unhide G).s0.lt
         have y1 := (unhide G).res.lt
         have y2 := (unhide G).kept.size
         refine ⟨?_, ?_, ?_⟩ <;> omega
       replace G := hide ((unhide G).step K5)
       have RR := hide B5
       have c0 := fits_cell (unhide G).s0 0 _ (unhide HC0)
       clear e5 B5 K5))
  clear c0
  refine wp_region_any mixed (wpAny_tq 18 rfl (by kernel_rfl) [some (.int .i64 (c - 177)), some (.bool true), some (.bool true), none, none, some (.bool true), some (.bool true), none, none, none, some (.bool true), some (.bool true), none, none, none, none, none, some (.bool true)] rfl (by kernel_rfl) (by kernel_rfl) ?_ ?_)
  · intro i o' hi hsk ho a' w2 hout hin hk2
    replace hk2 : Kept [] W5 w2 := ⟨hk2.os, hk2.tape, hk2.output, hk2.size, hk2.block⟩
    match i, ho, hsk with
    | 0, ho, hsk =>
      obtain rfl := Option.some.inj ho
      exact wp_move (.tmp 6) rfl _ ((hout 6 (by kernel_rfl)).trans rfl) ⟨_, rfl, tq_is _ _ _ _ rfl, Kept.refl _ _, fun _ _ _ _ _ => trivial⟩
    | 1, ho, hsk =>
      obtain rfl := Option.some.inj ho
      have e0 : a'.eval (.tmp 14) = .int .i64 (c - 177) := is_tq (hin 0 14 (by kernel_rfl) (by kernel_rfl)) rfl
      exact o_lss3 (.tmp 14) (.const (.int .i64 0)) rfl _ _ true (unhide E1) e0 rfl ⟨_, rfl, tq_is _ _ _ _ rfl, Kept.refl _ _, fun _ _ _ _ _ => trivial⟩
    | 2, ho, hsk =>
      obtain rfl := Option.some.inj ho
      have e0 : a'.eval (.tmp 15) = .bool true := is_tq (hin 1 15 (by kernel_rfl) (by kernel_rfl)) rfl
      exact wp_move (.tmp 15) rfl _ e0 ⟨_, rfl, tq_is _ _ _ _ rfl, Kept.refl _ _, fun _ _ _ _ _ => trivial⟩
    | 3, ho, hsk =>
      cases hsk
    | 4, ho, hsk =>
      cases hsk
    | 5, ho, hsk =>
      obtain rfl := Option.some.inj ho
      have e0 : a'.eval (.tmp 16) = .bool true := is_tq (hin 2 16 (by kernel_rfl) (by kernel_rfl)) rfl
      exact o_pickOrT (.tmp 16) (.tmp 18) rfl e0 ⟨_, rfl, tq_is _ _ _ _ rfl, Kept.refl _ _, fun _ _ _ _ _ => trivial⟩
    | 6, ho, hsk =>
      obtain rfl := Option.some.inj ho
      have e0 : a'.eval (.tmp 19) = .bool true := is_tq (hin 5 19 (by kernel_rfl) (by kernel_rfl)) rfl
      exact wp_move (.tmp 19) rfl _ e0 ⟨_, rfl, tq_is _ _ _ _ rfl, Kept.refl _ _, fun _ _ _ _ _ => trivial⟩
    | 7, ho, hsk =>
      cases hsk
    | 8, ho, hsk =>
      cases hsk
    | 9, ho, hsk =>
      cases hsk
    | 10, ho, hsk =>
      obtain rfl := Option.some.inj ho
      have e0 : a'.eval (.tmp 20) = .bool true := is_tq (hin 6 20 (by kernel_rfl) (by kernel_rfl)) rfl
      exact o_pickOrT (.tmp 20) (.tmp 23) rfl e0 ⟨_, rfl, tq_is _ _ _ _ rfl, Kept.refl _ _, fun _ _ _ _ _ => trivial⟩
    | 11, ho, hsk =>
      obtain rfl := Option.some.inj ho
      have e0 : a'.eval (.tmp 24) = .bool true := is_tq (hin 10 24 (by kernel_rfl) (by kernel_rfl)) rfl
      exact wp_move (.tmp 24) rfl _ e0 ⟨_, rfl, tq_is _ _ _ _ rfl, Kept.refl _ _, fun _ _ _ _ _ => trivial⟩
    | 12, ho, hsk =>
      cases hsk
    | 13, ho, hsk =>
      cases hsk
    | 14, ho, hsk =>
      cases hsk
    | 15, ho, hsk =>
      cases hsk
    | 16, ho, hsk =>
      cases hsk
    | 17, ho, hsk =>
      obtain rfl := Option.some.inj ho
      have e0 : a'.eval (.tmp 25) = .bool true := is_tq (hin 11 25 (by kernel_rfl) (by kernel_rfl)) rfl
      exact o_pickOrT (.tmp 25) (.tmp 30) rfl e0 ⟨_, rfl, tq_is _ _ _ _ rfl, Kept.refl _ _, fun _ _ _ _ _ => trivial⟩
  intro w9 hk9
  replace hk9 : Kept [] W5 w9 := ⟨hk9.os, hk9.tape, hk9.output, hk9.size, hk9.block⟩
  simp only [valsQ, List.map_cons, List.map_nil, Option.getD_some, Option.getD_none, List.take_succ_cons, List.take_zero, putAll, Act.put, List.setIfInBounds_toArray, List.set_cons_succ, List.set_cons_zero]
  refine wpAny_done (by kernel_rfl) ?_ _
  replace G := hide ((unhide G).step hk9)
  replace RR := hide ((unhide RR).kept hk9 (by simp))
  clear hk9
  go_wp2_with (
    first
    | (refine wpBuildZ (recC zrec) build25 (by rfl) (by rfl) ?_)
    | (refine wpStoreA row25 (by rfl) (.tmp 2) (.tmp 32) (by rfl) zb 0 (recC zrec) (by kernel_rfl) (by kernel_rfl) lz (recC_one _) ((unhide G).res.there (by rw [lz]; omega)) ?_))
  have g4 := (unhide G).res.put (vs := recC zrec) (by rw [lz])
  have nz := (unhide G).nz
  exact bodyPost_ret (res21 _ _ _ _ _ _ rfl rfl rfl lz g4) rfl ⟨rfl, (unhide G).kept.setCells _ _ (by omega)⟩

set_option maxHeartbeats 4000000 in
set_option maxRecDepth 100000 in
theorem rst_B (s : List Int) (ls : s.length = 64) (c : Int) (hc : 0 ≤ c ∧ c < 256) (hc0 : (u8s s)[0]? = some (.int .u8 c)) (R : Rec) (hR : R.bd.length = 96) (P39 : ∀ w, Calls Tryd.prog 39 #[aggV (u8s s), aggV (u8s s)] w fun e w' => e = .returned (aggV (recC R)) ∧ Kept [] w w') (h1 : decide (c - 177 < 0) = false) (h2 : decide (1 < c - 177) = true) (w : World) : Calls Tryd.prog 21 #[aggV (u8s s)] w fun e w' => e = .returned (.tuple #[aggV (recC zrec), .int .i64 0, .bool false]) ∧ Kept [] w w' := by
  have H39 := hide P39
  clear P39
  have E1 := hide h1
  have HC0 := hide hc0
  clear h1 hc0
  have E2 := hide h2
  clear h2
  have lR := recC_len hR
  have lz : (recC zrec).length = 101 := recC_len zrec_ok.bd.len
  obtain ⟨hc1, hc2⟩ := hc
  go_enter Tryd.func21, Tryd.ntmps21
  go_wp2_with (
    first
    | (refine wpBoxV rfl (.tmp 0) rfl (u8s s) rfl ?_
       intro W1 b0 e1 B1 K1
       have BR := hide B1
       have KA := hide K1
       clear e1 B1 K1)
    | (refine wpAllocW (recC zrec) zero25 2 rfl rfl rfl ?_
       intro W3 zb e3 B3 K3
       have G : Hid (Ew w W3 b0 b0 zb s s) := ⟨(unhide BR).kept K3 (by simp), (unhide BR).kept K3 (by simp), B3, (unhide KA).trans K3, by have := (unhide KA).size; omega⟩
       clear e3 B3 K3 BR KA)
    | (refine wpLoadA row29 (by rfl) (.tmp 1) (by rfl) b0 0 (by kernel_rfl) (u8s s) (u8l ls) (unhide G).s0.range ?_)
    | (go_at_call 39
       refine (unhide H39 _).mono ?_
       rintro e W4 ⟨rfl, K4⟩
       replace G := hide ((unhide G).step K4)
       clear K4)
    | (refine wpNew row25 (recC zrec) lz zero25 5 (by rfl) (by rfl) (by rfl) (.tmp 9) (by rfl) (by rfl) (by rfl) (recC R) lR (recC_one _) (by kernel_rfl) (by kernel_rfl) ?_
       intro W5 q e5 B5 K5
       have nq : Hid (b0 ≠ q ∧ zb ≠ q ∧ w.heap.size ≤ q) := by
         have y0 := (unhide G).s0.lt
         have y1 := (unhide G).res.lt
         have y2 := (unhide G).kept.size
         refine ⟨?_, ?_, ?_⟩ <;> omega
       replace G := hide ((unhide G).step K5)
       have RR := hide B5
       have c0 := fits_cell (unhide G).s0 0 _ (unhide HC0)
       clear e5 B5 K5))
  clear c0
  refine wp_region_any mixed (wpAny_tq 18 rfl (by kernel_rfl) [some (.int .i64 (c - 177)), some (.bool false), some (.bool false), some (.int .i64 (c - 177)), some (.bool true), some (.bool true), some (.bool true), none, none, none, some (.bool true), some (.bool true), none, none, none, none, none, some (.bool true)] rfl (by kernel_rfl) (by kernel_rfl) ?_ ?_)
  · intro i o' hi hsk ho a' w2 hout hin hk2
    replace hk2 : Kept [] W5 w2 := ⟨hk2.os, hk2.tape, hk2.output, hk2.size, hk2.block⟩
    match i, ho, hsk with
    | 0, ho, hsk =>
      obtain rfl := Option.some.inj ho
      exact wp_move (.tmp 6) rfl _ ((hout 6 (by kernel_rfl)).trans rfl) ⟨_, rfl, tq_is _ _ _ _ rfl, Kept.refl _ _, fun _ _ _ _ _ => trivial⟩
    | 1, ho, hsk =>
      obtain rfl := Option.some.inj ho
      have e0 : a'.eval (.tmp 14) = .int .i64 (c - 177) := is_tq (hin 0 14 (by kernel_rfl) (by kernel_rfl)) rfl
      exact o_lss3 (.tmp 14) (.const (.int .i64 0)) rfl _ _ false (unhide E1) e0 rfl ⟨_, rfl, tq_is _ _ _ _ rfl, Kept.refl _ _, fun _ _ _ _ _ => trivial⟩
    | 2, ho, hsk =>
      obtain rfl := Option.some.inj ho
      have e0 : a'.eval (.tmp 15) = .bool false := is_tq (hin 1 15 (by kernel_rfl) (by kernel_rfl)) rfl
      exact wp_move (.tmp 15) rfl _ e0 ⟨_, rfl, tq_is _ _ _ _ rfl, Kept.refl _ _, fun _ _ _ _ _ => trivial⟩
    | 3, ho, hsk =>
      obtain rfl := Option.some.inj ho
      exact wp_move (.tmp 6) rfl _ ((hout 6 (by kernel_rfl)).trans rfl) ⟨_, rfl, tq_is _ _ _ _ rfl, Kept.refl _ _, fun _ _ _ _ _ => trivial⟩
    | 4, ho, hsk =>
      obtain rfl := Option.some.inj ho
      have e0 : a'.eval (.tmp 17) = .int .i64 (c - 177) := is_tq (hin 3 17 (by kernel_rfl) (by kernel_rfl)) rfl
      exact o_gtr3 (.tmp 17) 1 rfl _ true (unhide E2) e0 ⟨_, rfl, tq_is _ _ _ _ rfl, Kept.refl _ _, fun _ _ _ _ _ => trivial⟩
    | 5, ho, hsk =>
      obtain rfl := Option.some.inj ho
      have e0 : a'.eval (.tmp 16) = .bool false := is_tq (hin 2 16 (by kernel_rfl) (by kernel_rfl)) rfl
      have e1 : a'.eval (.tmp 18) = .bool true := is_tq (hin 4 18 (by kernel_rfl) (by kernel_rfl)) rfl
      exact o_pickOr0 (.tmp 16) (.tmp 18) rfl _ e0 e1 ⟨_, rfl, tq_is _ _ _ _ rfl, Kept.refl _ _, fun _ _ _ _ _ => trivial⟩
    | 6, ho, hsk =>
      obtain rfl := Option.some.inj ho
      have e0 : a'.eval (.tmp 19) = .bool true := is_tq (hin 5 19 (by kernel_rfl) (by kernel_rfl)) rfl
      exact wp_move (.tmp 19) rfl _ e0 ⟨_, rfl, tq_is _ _ _ _ rfl, Kept.refl _ _, fun _ _ _ _ _ => trivial⟩
    | 7, ho, hsk =>
      cases hsk
    | 8, ho, hsk =>
      cases hsk
    | 9, ho, hsk =>
      cases hsk
    | 10, ho, hsk =>
      obtain rfl := Option.some.inj ho
      have e0 : a'.eval (.tmp 20) = .bool true := is_tq (hin 6 20 (by kernel_rfl) (by kernel_rfl)) rfl
      exact o_pickOrT (.tmp 20) (.tmp 23) rfl e0 ⟨_, rfl, tq_is _ _ _ _ rfl, Kept.refl _ _, fun _ _ _ _ _ => trivial⟩
    | 11, ho, hsk =>
      obtain rfl := Option.some.inj ho
      have e0 : a'.eval (.tmp 24) = .bool true := is_tq (hin 10 24 (by kernel_rfl) (by kernel_rfl)) rfl
      exact wp_move (.tmp 24) rfl _ e0 ⟨_, rfl, tq_is _ _ _ _ rfl, Kept.refl _ _, fun _ _ _ _ _ => trivial⟩
    | 12, ho, hsk =>
      cases hsk
    | 13, ho, hsk =>
      cases hsk
    | 14, ho, hsk =>
      cases hsk
    | 15, ho, hsk =>
      cases hsk
    | 16, ho, hsk =>
      cases hsk
    | 17, ho, hsk =>
      obtain rfl := Option.some.inj ho
      have e0 : a'.eval (.tmp 25) = .bool true := is_tq (hin 11 25 (by kernel_rfl) (by kernel_rfl)) rfl
      exact o_pickOrT (.tmp 25) (.tmp 30) rfl e0 ⟨_, rfl, tq_is _ _ _ _ rfl, Kept.refl _ _, fun _ _ _ _ _ => trivial⟩
  intro w9 hk9
  replace hk9 : Kept [] W5 w9 := ⟨hk9.os, hk9.tape, hk9.output, hk9.size, hk9.block⟩
  simp only [valsQ, List.map_cons, List.map_nil, Option.getD_some, Option.getD_none, List.take_succ_cons, List.take_zero, putAll, Act.put, List.setIfInBounds_toArray, List.set_cons_succ, List.set_cons_zero]
  refine wpAny_done (by kernel_rfl) ?_ _
  replace G := hide ((unhide G).step hk9)
  replace RR := hide ((unhide RR).kept hk9 (by simp))
  clear hk9
  go_wp2_with (
    first
    | (refine wpBuildZ (recC zrec) build25 (by rfl) (by rfl) ?_)
    | (refine wpStoreA row25 (by rfl) (.tmp 2) (.tmp 32) (by rfl) zb 0 (recC zrec) (by kernel_rfl) (by kernel_rfl) lz (recC_one _) ((unhide G).res.there (by rw [lz]; omega)) ?_))
  have g4 := (unhide G).res.put (vs := recC zrec) (by rw [lz])
  have nz := (unhide G).nz
  exact bodyPost_ret (res21 _ _ _ _ _ _ rfl rfl rfl lz g4) rfl ⟨rfl, (unhide G).kept.setCells _ _ (by omega)⟩

set_option maxHeartbeats 4000000 in
set_option maxRecDepth 100000 in
theorem rst_C (s : List Int) (ls : s.length = 64) (c : Int) (hc : 0 ≤ c ∧ c < 256) (hc0 : (u8s s)[0]? = some (.int .u8 c)) (R : Rec) (hR : R.bd.length = 96) (P39 : ∀ w, Calls Tryd.prog 39 #[aggV (u8s s), aggV (u8s s)] w fun e w' => e = .returned (aggV (recC R)) ∧ Kept [] w w') (h1 : decide (c - 177 < 0) = false) (h2 : decide (1 < c - 177) = false) (P14 : ∀ w, Calls Tryd.prog 14 #[aggV (recC R)] w fun e w' => e = .returned (.bool false) ∧ Kept [] w w') (w : World) : Calls Tryd.prog 21 #[aggV (u8s s)] w fun e w' => e = .returned (.tuple #[aggV (recC zrec), .int .i64 0, .bool false]) ∧ Kept [] w w' := by
  have H39 := hide P39
  have H14 := hide P14
  clear P39 P14
  have E1 := hide h1
  have HC0 := hide hc0
  clear h1 hc0
  have E2 := hide h2
  clear h2
  have lR := recC_len hR
  have lz : (recC zrec).length = 101 := recC_len zrec_ok.bd.len
  obtain ⟨hc1, hc2⟩ := hc
  go_enter Tryd.func21, Tryd.ntmps21
  go_wp2_with (
    first
    | (refine wpBoxV rfl (.tmp 0) rfl (u8s s) rfl ?_
       intro W1 b0 e1 B1 K1
       have BR := hide B1
       have KA := hide K1
       clear e1 B1 K1)
    | (refine wpAllocW (recC zrec) zero25 2 rfl rfl rfl ?_
       intro W3 zb e3 B3 K3
       have G : Hid (Ew w W3 b0 b0 zb s s) := ⟨(unhide BR).kept K3 (by simp), (unhide BR).kept K3 (by simp), B3, (unhide KA).trans K3, by have := (unhide KA).size; omega⟩
       clear e3 B3 K3 BR KA)
    | (refine wpLoadA row29 (by rfl) (.tmp 1) (by rfl) b0 0 (by kernel_rfl) (u8s s) (u8l ls) (unhide G).s0.range ?_)
    | (go_at_call 39
       refine (unhide H39 _).mono ?_
       rintro e W4 ⟨rfl, K4⟩
       replace G := hide ((unhide G).step K4)
       clear K4)
    | (refine wpNew row25 (recC zrec) lz zero25 5 (by rfl) (by rfl) (by rfl) (.tmp 9) (by rfl) (by rfl) (by rfl) (recC R) lR (recC_one _) (by kernel_rfl) (by kernel_rfl) ?_
       intro W5 q e5 B5 K5
       have nq : Hid (b0 ≠ q ∧ zb ≠ q ∧ w.heap.size ≤ q) := by
         have y0 := (unhide G).s0.lt
         have y1 := (unhide G).res.lt
         have y2 := (unhide G).kept.size
         refine ⟨?_, ?_, ?_⟩ <;> omega
       replace G := hide ((unhide G).step K5)
       have RR := hide B5
       have c0 := fits_cell (unhide G).s0 0 _ (unhide HC0)
       clear e5 B5 K5))
  clear c0
  refine wp_region_any mixed (wpAny_tq 18 rfl (by kernel_rfl) [some (.int .i64 (c - 177)), some (.bool false), some (.bool false), some (.int .i64 (c - 177)), some (.bool false), some (.bool false), some (.bool false), some (aggV (recC R)), some (.bool false), some (.bool true), some (.bool true), some (.bool true), none, none, none, none, none, some (.bool true)] rfl (by kernel_rfl) (by kernel_rfl) ?_ ?_)
  · intro i o' hi hsk ho a' w2 hout hin hk2
    replace hk2 : Kept [] W5 w2 := ⟨hk2.os, hk2.tape, hk2.output, hk2.size, hk2.block⟩
    match i, ho, hsk with
    | 0, ho, hsk =>
      obtain rfl := Option.some.inj ho
      exact wp_move (.tmp 6) rfl _ ((hout 6 (by kernel_rfl)).trans rfl) ⟨_, rfl, tq_is _ _ _ _ rfl, Kept.refl _ _, fun _ _ _ _ _ => trivial⟩
    | 1, ho, hsk =>
      obtain rfl := Option.some.inj ho
      have e0 : a'.eval (.tmp 14) = .int .i64 (c - 177) := is_tq (hin 0 14 (by kernel_rfl) (by kernel_rfl)) rfl
      exact o_lss3 (.tmp 14) (.const (.int .i64 0)) rfl _ _ false (unhide E1) e0 rfl ⟨_, rfl, tq_is _ _ _ _ rfl, Kept.refl _ _, fun _ _ _ _ _ => trivial⟩
    | 2, ho, hsk =>
      obtain rfl := Option.some.inj ho
      have e0 : a'.eval (.tmp 15) = .bool false := is_tq (hin 1 15 (by kernel_rfl) (by kernel_rfl)) rfl
      exact wp_move (.tmp 15) rfl _ e0 ⟨_, rfl, tq_is _ _ _ _ rfl, Kept.refl _ _, fun _ _ _ _ _ => trivial⟩
    | 3, ho, hsk =>
      obtain rfl := Option.some.inj ho
      exact wp_move (.tmp 6) rfl _ ((hout 6 (by kernel_rfl)).trans rfl) ⟨_, rfl, tq_is _ _ _ _ rfl, Kept.refl _ _, fun _ _ _ _ _ => trivial⟩
    | 4, ho, hsk =>
      obtain rfl := Option.some.inj ho
      have e0 : a'.eval (.tmp 17) = .int .i64 (c - 177) := is_tq (hin 3 17 (by kernel_rfl) (by kernel_rfl)) rfl
      exact o_gtr3 (.tmp 17) 1 rfl _ false (unhide E2) e0 ⟨_, rfl, tq_is _ _ _ _ rfl, Kept.refl _ _, fun _ _ _ _ _ => trivial⟩
    | 5, ho, hsk =>
      obtain rfl := Option.some.inj ho
      have e0 : a'.eval (.tmp 16) = .bool false := is_tq (hin 2 16 (by kernel_rfl) (by kernel_rfl)) rfl
      have e1 : a'.eval (.tmp 18) = .bool false := is_tq (hin 4 18 (by kernel_rfl) (by kernel_rfl)) rfl
      exact o_pickOr0 (.tmp 16) (.tmp 18) rfl _ e0 e1 ⟨_, rfl, tq_is _ _ _ _ rfl, Kept.refl _ _, fun _ _ _ _ _ => trivial⟩
    | 6, ho, hsk =>
      obtain rfl := Option.some.inj ho
      have e0 : a'.eval (.tmp 19) = .bool false := is_tq (hin 5 19 (by kernel_rfl) (by kernel_rfl)) rfl
      exact wp_move (.tmp 19) rfl _ e0 ⟨_, rfl, tq_is _ _ _ _ rfl, Kept.refl _ _, fun _ _ _ _ _ => trivial⟩
    | 7, ho, hsk =>
      obtain rfl := Option.some.inj ho
      exact wp_loadA row25 (.tmp 5) rfl q 0 ((hout 5 (by kernel_rfl)).trans rfl) (recC R) lR ((unhide RR).kept hk2 (by simp)).range ⟨_, rfl, tq_is _ _ _ _ rfl, Kept.refl _ _, fun _ _ _ _ _ => trivial⟩
    | 8, ho, hsk =>
      obtain rfl := Option.some.inj ho
      have e0 : a'.eval (.tmp 21) = aggV (recC R) := is_tq (hin 7 21 (by kernel_rfl) (by kernel_rfl)) rfl
      refine wp_callF 14 _ _ rfl #[aggV (recC R)] (by simp [e0]) (cf14 _ _) ((unhide H14 w2).mono ?_)
      rintro e w3 ⟨rfl, hk3⟩
      exact ⟨_, rfl, _, rfl, tq_is _ _ _ _ rfl, hk3, fun _ _ _ _ _ => trivial⟩
    | 9, ho, hsk =>
      obtain rfl := Option.some.inj ho
      have e0 : a'.eval (.tmp 22) = .bool false := is_tq (hin 8 22 (by kernel_rfl) (by kernel_rfl)) rfl
      exact o_not (.tmp 22) rfl _ e0 ⟨_, rfl, tq_is _ _ _ _ rfl, Kept.refl _ _, fun _ _ _ _ _ => trivial⟩
    | 10, ho, hsk =>
      obtain rfl := Option.some.inj ho
      have e0 : a'.eval (.tmp 20) = .bool false := is_tq (hin 6 20 (by kernel_rfl) (by kernel_rfl)) rfl
      have e1 : a'.eval (.tmp 23) = .bool true := is_tq (hin 9 23 (by kernel_rfl) (by kernel_rfl)) rfl
      exact o_pickOr0 (.tmp 20) (.tmp 23) rfl _ e0 e1 ⟨_, rfl, tq_is _ _ _ _ rfl, Kept.refl _ _, fun _ _ _ _ _ => trivial⟩
    | 11, ho, hsk =>
      obtain rfl := Option.some.inj ho
      have e0 : a'.eval (.tmp 24) = .bool true := is_tq (hin 10 24 (by kernel_rfl) (by kernel_rfl)) rfl
      exact wp_move (.tmp 24) rfl _ e0 ⟨_, rfl, tq_is _ _ _ _ rfl, Kept.refl _ _, fun _ _ _ _ _ => trivial⟩
    | 12, ho, hsk =>
      cases hsk
    | 13, ho, hsk =>
      cases hsk
    | 14, ho, hsk =>
      cases hsk
    | 15, ho, hsk =>
      cases hsk
    | 16, ho, hsk =>
      cases hsk
    | 17, ho, hsk =>
      obtain rfl := Option.some.inj ho
      have e0 : a'.eval (.tmp 25) = .bool true := is_tq (hin 11 25 (by kernel_rfl) (by kernel_rfl)) rfl
      exact o_pickOrT (.tmp 25) (.tmp 30) rfl e0 ⟨_, rfl, tq_is _ _ _ _ rfl, Kept.refl _ _, fun _ _ _ _ _ => trivial⟩
  intro w9 hk9
  replace hk9 : Kept [] W5 w9 := ⟨hk9.os, hk9.tape, hk9.output, hk9.size, hk9.block⟩
  simp only [valsQ, List.map_cons, List.map_nil, Option.getD_some, Option.getD_none, List.take_succ_cons, List.take_zero, putAll, Act.put, List.setIfInBounds_toArray, List.set_cons_succ, List.set_cons_zero]
  refine wpAny_done (by kernel_rfl) ?_ _
  replace G := hide ((unhide G).step hk9)
  replace RR := hide ((unhide RR).kept hk9 (by simp))
  clear hk9
  go_wp2_with (
    first
    | (refine wpBuildZ (recC zrec) build25 (by rfl) (by rfl) ?_)
    | (refine wpStoreA row25 (by rfl) (.tmp 2) (.tmp 32) (by rfl) zb 0 (recC zrec) (by kernel_rfl) (by kernel_rfl) lz (recC_one _) ((unhide G).res.there (by rw [lz]; omega)) ?_))
  have g4 := (unhide G).res.put (vs := recC zrec) (by rw [lz])
  have nz := (unhide G).nz
  exact bodyPost_ret (res21 _ _ _ _ _ _ rfl rfl rfl lz g4) rfl ⟨rfl, (unhide G).kept.setCells _ _ (by omega)⟩

set_option maxHeartbeats 4000000 in
set_option maxRecDepth 100000 in
theorem rst_D (s : List Int) (ls : s.length = 64) (c : Int) (hc : 0 ≤ c ∧ c < 256) (hc0 : (u8s s)[0]? = some (.int .u8 c)) (R : Rec) (hR : R.bd.length = 96) (P39 : ∀ w, Calls Tryd.prog 39 #[aggV (u8s s), aggV (u8s s)] w fun e w' => e = .returned (aggV (recC R)) ∧ Kept [] w w') (h1 : decide (c - 177 < 0) = false) (h2 : decide (1 < c - 177) = false) (P14 : ∀ w, Calls Tryd.prog 14 #[aggV (recC R)] w fun e w' => e = .returned (.bool true) ∧ Kept [] w w') (L : List Int) (lL : L.length = 64) (P17 : ∀ w, Calls Tryd.prog 17 #[aggV (recC R), .int .i64 (c - 177)] w fun e w' => e = .returned (aggV (u8s L)) ∧ Kept [] w w') (h0 : decide (L = s) = false) (w : World) : Calls Tryd.prog 21 #[aggV (u8s s)] w fun e w' => e = .returned (.tuple #[aggV (recC zrec), .int .i64 0, .bool false]) ∧ Kept [] w w' := by
  have H39 := hide P39
  have H14 := hide P14
  have H17 := hide P17
  clear P39 P14 P17
  have E1 := hide h1
  have HC0 := hide hc0
  clear h1 hc0
  have E2 := hide h2
  clear h2
  have E0 := hide h0
  clear h0
  have lR := recC_len hR
  have lz : (recC zrec).length = 101 := recC_len zrec_ok.bd.len
  obtain ⟨hc1, hc2⟩ := hc
  go_enter Tryd.func21, Tryd.ntmps21
  go_wp2_with (
    first
    | (refine wpBoxV rfl (.tmp 0) rfl (u8s s) rfl ?_
       intro W1 b0 e1 B1 K1
       have BR := hide B1
       have KA := hide K1
       clear e1 B1 K1)
    | (refine wpAllocW (recC zrec) zero25 2 rfl rfl rfl ?_
       intro W3 zb e3 B3 K3
       have G : Hid (Ew w W3 b0 b0 zb s s) := ⟨(unhide BR).kept K3 (by simp), (unhide BR).kept K3 (by simp), B3, (unhide KA).trans K3, by have := (unhide KA).size; omega⟩
       clear e3 B3 K3 BR KA)
    | (refine wpLoadA row29 (by rfl) (.tmp 1) (by rfl) b0 0 (by kernel_rfl) (u8s s) (u8l ls) (unhide G).s0.range ?_)
    | (go_at_call 39
       refine (unhide H39 _).mono ?_
       rintro e W4 ⟨rfl, K4⟩
       replace G := hide ((unhide G).step K4)
       clear K4)
    | (refine wpNew row25 (recC zrec) lz zero25 5 (by rfl) (by rfl) (by rfl) (.tmp 9) (by rfl) (by rfl) (by rfl) (recC R) lR (recC_one _) (by kernel_rfl) (by kernel_rfl) ?_
       intro W5 q e5 B5 K5
       have nq : Hid (b0 ≠ q ∧ zb ≠ q ∧ w.heap.size ≤ q) := by
         have y0 := (unhide G).s0.lt
         have y1 := (unhide G).res.lt
         have y2 := (unhide G).kept.size
         refine ⟨?_, ?_, ?_⟩ <;> omega
       replace G := hide ((unhide G).step K5)
       have RR := hide B5
       have c0 := fits_cell (unhide G).s0 0 _ (unhide HC0)
       clear e5 B5 K5))
  clear c0
  refine wp_region_any mixed (wpAny_tq 18 rfl (by kernel_rfl) [some (.int .i64 (c - 177)), some (.bool false), some (.bool false), some (.int .i64 (c - 177)), some (.bool false), some (.bool false), some (.bool false), some (aggV (recC R)), some (.bool true), some (.bool false), some (.bool false), some (.bool false), some (aggV (recC R)), some (.int .i64 (c - 177)), some (aggV (u8s L)), some (aggV (u8s s)), some (.bool true), some (.bool true)] rfl (by kernel_rfl) (by kernel_rfl) ?_ ?_)
  · intro i o' hi hsk ho a' w2 hout hin hk2
    replace hk2 : Kept [] W5 w2 := ⟨hk2.os, hk2.tape, hk2.output, hk2.size, hk2.block⟩
    match i, ho, hsk with
    | 0, ho, hsk =>
      obtain rfl := Option.some.inj ho
      exact wp_move (.tmp 6) rfl _ ((hout 6 (by kernel_rfl)).trans rfl) ⟨_, rfl, tq_is _ _ _ _ rfl, Kept.refl _ _, fun _ _ _ _ _ => trivial⟩
    | 1, ho, hsk =>
      obtain rfl := Option.some.inj ho
      have e0 : a'.eval (.tmp 14) = .int .i64 (c - 177) := is_tq (hin 0 14 (by kernel_rfl) (by kernel_rfl)) rfl
      exact o_lss3 (.tmp 14) (.const (.int .i64 0)) rfl _ _ false (unhide E1) e0 rfl ⟨_, rfl, tq_is _ _ _ _ rfl, Kept.refl _ _, fun _ _ _ _ _ => trivial⟩
    | 2, ho, hsk =>
      obtain rfl := Option.some.inj ho
      have e0 : a'.eval (.tmp 15) = .bool false := is_tq (hin 1 15 (by kernel_rfl) (by kernel_rfl)) rfl
      exact wp_move (.tmp 15) rfl _ e0 ⟨_, rfl, tq_is _ _ _ _ rfl, Kept.refl _ _, fun _ _ _ _ _ => trivial⟩
    | 3, ho, hsk =>
      obtain rfl := Option.some.inj ho
      exact wp_move (.tmp 6) rfl _ ((hout 6 (by kernel_rfl)).trans rfl) ⟨_, rfl, tq_is _ _ _ _ rfl, Kept.refl _ _, fun _ _ _ _ _ => trivial⟩
    | 4, ho, hsk =>
      obtain rfl := Option.some.inj ho
      have e0 : a'.eval (.tmp 17) = .int .i64 (c - 177) := is_tq (hin 3 17 (by kernel_rfl) (by kernel_rfl)) rfl
      exact o_gtr3 (.tmp 17) 1 rfl _ false (unhide E2) e0 ⟨_, rfl, tq_is _ _ _ _ rfl, Kept.refl _ _, fun _ _ _ _ _ => trivial⟩
    | 5, ho, hsk =>
      obtain rfl := Option.some.inj ho
      have e0 : a'.eval (.tmp 16) = .bool false := is_tq (hin 2 16 (by kernel_rfl) (by kernel_rfl)) rfl
      have e1 : a'.eval (.tmp 18) = .bool false := is_tq (hin 4 18 (by kernel_rfl) (by kernel_rfl)) rfl
      exact o_pickOr0 (.tmp 16) (.tmp 18) rfl _ e0 e1 ⟨_, rfl, tq_is _ _ _ _ rfl, Kept.refl _ _, fun _ _ _ _ _ => trivial⟩
    | 6, ho, hsk =>
      obtain rfl := Option.some.inj ho
      have e0 : a'.eval (.tmp 19) = .bool false := is_tq (hin 5 19 (by kernel_rfl) (by kernel_rfl)) rfl
      exact wp_move (.tmp 19) rfl _ e0 ⟨_, rfl, tq_is _ _ _ _ rfl, Kept.refl _ _, fun _ _ _ _ _ => trivial⟩
    | 7, ho, hsk =>
      obtain rfl := Option.some.inj ho
      exact wp_loadA row25 (.tmp 5) rfl q 0 ((hout 5 (by kernel_rfl)).trans rfl) (recC R) lR ((unhide RR).kept hk2 (by simp)).range ⟨_, rfl, tq_is _ _ _ _ rfl, Kept.refl _ _, fun _ _ _ _ _ => trivial⟩
    | 8, ho, hsk =>
      obtain rfl := Option.some.inj ho
      have e0 : a'.eval (.tmp 21) = aggV (recC R) := is_tq (hin 7 21 (by kernel_rfl) (by kernel_rfl)) rfl
      refine wp_callF 14 _ _ rfl #[aggV (recC R)] (by simp [e0]) (cf14 _ _) ((unhide H14 w2).mono ?_)
      rintro e w3 ⟨rfl, hk3⟩
      exact ⟨_, rfl, _, rfl, tq_is _ _ _ _ rfl, hk3, fun _ _ _ _ _ => trivial⟩
    | 9, ho, hsk =>
      obtain rfl := Option.some.inj ho
      have e0 : a'.eval (.tmp 22) = .bool true := is_tq (hin 8 22 (by kernel_rfl) (by kernel_rfl)) rfl
      exact o_not (.tmp 22) rfl _ e0 ⟨_, rfl, tq_is _ _ _ _ rfl, Kept.refl _ _, fun _ _ _ _ _ => trivial⟩
    | 10, ho, hsk =>
      obtain rfl := Option.some.inj ho
      have e0 : a'.eval (.tmp 20) = .bool false := is_tq (hin 6 20 (by kernel_rfl) (by kernel_rfl)) rfl
      have e1 : a'.eval (.tmp 23) = .bool false := is_tq (hin 9 23 (by kernel_rfl) (by kernel_rfl)) rfl
      exact o_pickOr0 (.tmp 20) (.tmp 23) rfl _ e0 e1 ⟨_, rfl, tq_is _ _ _ _ rfl, Kept.refl _ _, fun _ _ _ _ _ => trivial⟩
    | 11, ho, hsk =>
      obtain rfl := Option.some.inj ho
      have e0 : a'.eval (.tmp 24) = .bool false := is_tq (hin 10 24 (by kernel_rfl) (by kernel_rfl)) rfl
      exact wp_move (.tmp 24) rfl _ e0 ⟨_, rfl, tq_is _ _ _ _ rfl, Kept.refl _ _, fun _ _ _ _ _ => trivial⟩
    | 12, ho, hsk =>
      obtain rfl := Option.some.inj ho
      exact wp_loadA row25 (.tmp 5) rfl q 0 ((hout 5 (by kernel_rfl)).trans rfl) (recC R) lR ((unhide RR).kept hk2 (by simp)).range ⟨_, rfl, tq_is _ _ _ _ rfl, Kept.refl _ _, fun _ _ _ _ _ => trivial⟩
    | 13, ho, hsk =>
      obtain rfl := Option.some.inj ho
      exact wp_move (.tmp 6) rfl _ ((hout 6 (by kernel_rfl)).trans rfl) ⟨_, rfl, tq_is _ _ _ _ rfl, Kept.refl _ _, fun _ _ _ _ _ => trivial⟩
    | 14, ho, hsk =>
      obtain rfl := Option.some.inj ho
      have e0 : a'.eval (.tmp 26) = aggV (recC R) := is_tq (hin 12 26 (by kernel_rfl) (by kernel_rfl)) rfl
      have e1 : a'.eval (.tmp 27) = .int .i64 (c - 177) := is_tq (hin 13 27 (by kernel_rfl) (by kernel_rfl)) rfl
      refine wp_callF 17 _ _ rfl #[aggV (recC R), .int .i64 (c - 177)] (by simp [e0, e1]) (cf17 _ _) ((unhide H17 w2).mono ?_)
      rintro e w3 ⟨rfl, hk3⟩
      exact ⟨_, rfl, _, rfl, tq_is _ _ _ _ rfl, hk3, fun _ _ _ _ _ => trivial⟩
    | 15, ho, hsk =>
      obtain rfl := Option.some.inj ho
      exact wp_loadA row29 (.tmp 1) rfl b0 0 ((hout 1 (by kernel_rfl)).trans rfl) (u8s s) (u8l ls) ((unhide G).step hk2).s0.range ⟨_, rfl, tq_is _ _ _ _ rfl, Kept.refl _ _, fun _ _ _ _ _ => trivial⟩
    | 16, ho, hsk =>
      obtain rfl := Option.some.inj ho
      have e0 : a'.eval (.tmp 28) = aggV (u8s L) := is_tq (hin 14 28 (by kernel_rfl) (by kernel_rfl)) rfl
      have e1 : a'.eval (.tmp 29) = aggV (u8s s) := is_tq (hin 15 29 (by kernel_rfl) (by kernel_rfl)) rfl
      exact o_neqA 29 29 guard29 (.tmp 28) (.tmp 29) rfl (u8s L) (u8s s) e0 e1 false ((equal29 _ L s lL ls).trans (by rw [unhide E0])) ⟨_, rfl, tq_is _ _ _ _ rfl, Kept.refl _ _, fun _ _ _ _ _ => trivial⟩
    | 17, ho, hsk =>
      obtain rfl := Option.some.inj ho
      have e0 : a'.eval (.tmp 25) = .bool false := is_tq (hin 11 25 (by kernel_rfl) (by kernel_rfl)) rfl
      have e1 : a'.eval (.tmp 30) = .bool true := is_tq (hin 16 30 (by kernel_rfl) (by kernel_rfl)) rfl
      exact o_pickOr0 (.tmp 25) (.tmp 30) rfl _ e0 e1 ⟨_, rfl, tq_is _ _ _ _ rfl, Kept.refl _ _, fun _ _ _ _ _ => trivial⟩
  intro w9 hk9
  replace hk9 : Kept [] W5 w9 := ⟨hk9.os, hk9.tape, hk9.output, hk9.size, hk9.block⟩
  simp only [valsQ, List.map_cons, List.map_nil, Option.getD_some, List.take_succ_cons, List.take_zero, putAll, Act.put, List.setIfInBounds_toArray, List.set_cons_succ, List.set_cons_zero]
  refine wpAny_done (by kernel_rfl) ?_ _
  replace G := hide ((unhide G).step hk9)
  replace RR := hide ((unhide RR).kept hk9 (by simp))
  clear hk9
  go_wp2_with (
    first
    | (refine wpBuildZ (recC zrec) build25 (by rfl) (by rfl) ?_)
    | (refine wpStoreA row25 (by rfl) (.tmp 2) (.tmp 32) (by rfl) zb 0 (recC zrec) (by kernel_rfl) (by kernel_rfl) lz (recC_one _) ((unhide G).res.there (by rw [lz]; omega)) ?_))
  have g4 := (unhide G).res.put (vs := recC zrec) (by rw [lz])
  have nz := (unhide G).nz
  exact bodyPost_ret (res21 _ _ _ _ _ _ rfl rfl rfl lz g4) rfl ⟨rfl, (unhide G).kept.setCells _ _ (by omega)⟩

set_option maxHeartbeats 4000000 in
set_option maxRecDepth 100000 in
theorem rst_E (s : List Int) (ls : s.length = 64) (c : Int) (hc : 0 ≤ c ∧ c < 256) (hc0 : (u8s s)[0]? = some (.int .u8 c)) (R : Rec) (hR : R.bd.length = 96) (P39 : ∀ w, Calls Tryd.prog 39 #[aggV (u8s s), aggV (u8s s)] w fun e w' => e = .returned (aggV (recC R)) ∧ Kept [] w w') (h1 : decide (c - 177 < 0) = false) (h2 : decide (1 < c - 177) = false) (P14 : ∀ w, Calls Tryd.prog 14 #[aggV (recC R)] w fun e w' => e = .returned (.bool true) ∧ Kept [] w w') (L : List Int) (lL : L.length = 64) (P17 : ∀ w, Calls Tryd.prog 17 #[aggV (recC R), .int .i64 (c - 177)] w fun e w' => e = .returned (aggV (u8s L)) ∧ Kept [] w w') (h0 : decide (L = s) = true) (w : World) : Calls Tryd.prog 21 #[aggV (u8s s)] w fun e w' => e = .returned (.tuple #[aggV (recC (bareR R)), .int .i64 (c - 177), .bool true]) ∧ Kept [] w w' := by
  have H39 := hide P39
  have H14 := hide P14
  have H17 := hide P17
  clear P39 P14 P17
  have E1 := hide h1
  have HC0 := hide hc0
  clear h1 hc0
  have E2 := hide h2
  clear h2
  have E0 := hide h0
  clear h0
  have lR := recC_len hR
  have lz : (recC zrec).length = 101 := recC_len zrec_ok.bd.len
  obtain ⟨hc1, hc2⟩ := hc
  go_enter Tryd.func21, Tryd.ntmps21
  go_wp2_with (
    first
    | (refine wpBoxV rfl (.tmp 0) rfl (u8s s) rfl ?_
       intro W1 b0 e1 B1 K1
       have BR := hide B1
       have KA := hide K1
       clear e1 B1 K1)
    | (refine wpAllocW (recC zrec) zero25 2 rfl rfl rfl ?_
       intro W3 zb e3 B3 K3
       have G : Hid (Ew w W3 b0 b0 zb s s) := ⟨(unhide BR).kept K3 (by simp), (unhide BR).kept K3 (by simp), B3, (unhide KA).trans K3, by have := (unhide KA).size; omega⟩
       clear e3 B3 K3 BR KA)
    | (refine wpLoadA row29 (by rfl) (.tmp 1) (by rfl) b0 0 (by kernel_rfl) (u8s s) (u8l ls) (unhide G).s0.range ?_)
    | (go_at_call 39
       refine (unhide H39 _).mono ?_
       rintro e W4 ⟨rfl, K4⟩
       replace G := hide ((unhide G).step K4)
       clear K4)
    | (refine wpNew row25 (recC zrec) lz zero25 5 (by rfl) (by rfl) (by rfl) (.tmp 9) (by rfl) (by rfl) (by rfl) (recC R) lR (recC_one _) (by kernel_rfl) (by kernel_rfl) ?_
       intro W5 q e5 B5 K5
       have nq : Hid (b0 ≠ q ∧ zb ≠ q ∧ w.heap.size ≤ q) := by
         have y0 := (unhide G).s0.lt
         have y1 := (unhide G).res.lt
         have y2 := (unhide G).kept.size
         refine ⟨?_, ?_, ?_⟩ <;> omega
       replace G := hide ((unhide G).step K5)
       have RR := hide B5
       have c0 := fits_cell (unhide G).s0 0 _ (unhide HC0)
       clear e5 B5 K5))
  clear c0
  refine wp_region_any mixed (wpAny_tq 18 rfl (by kernel_rfl) [some (.int .i64 (c - 177)), some (.bool false), some (.bool false), some (.int .i64 (c - 177)), some (.bool false), some (.bool false), some (.bool false), some (aggV (recC R)), some (.bool true), some (.bool false), some (.bool false), some (.bool false), some (aggV (recC R)), some (.int .i64 (c - 177)), some (aggV (u8s L)), some (aggV (u8s s)), some (.bool false), some (.bool false)] rfl (by kernel_rfl) (by kernel_rfl) ?_ ?_)
  · intro i o' hi hsk ho a' w2 hout hin hk2
    replace hk2 : Kept [] W5 w2 := ⟨hk2.os, hk2.tape, hk2.output, hk2.size, hk2.block⟩
    match i, ho, hsk with
    | 0, ho, hsk =>
      obtain rfl := Option.some.inj ho
      exact wp_move (.tmp 6) rfl _ ((hout 6 (by kernel_rfl)).trans rfl) ⟨_, rfl, tq_is _ _ _ _ rfl, Kept.refl _ _, fun _ _ _ _ _ => trivial⟩
    | 1, ho, hsk =>
      obtain rfl := Option.some.inj ho
      have e0 : a'.eval (.tmp 14) = .int .i64 (c - 177) := is_tq (hin 0 14 (by kernel_rfl) (by kernel_rfl)) rfl
      exact o_lss3 (.tmp 14) (.const (.int .i64 0)) rfl _ _ false (unhide E1) e0 rfl ⟨_, rfl, tq_is _ _ _ _ rfl, Kept.refl _ _, fun _ _ _ _ _ => trivial⟩
    | 2, ho, hsk =>
      obtain rfl := Option.some.inj ho
      have e0 : a'.eval (.tmp 15) = .bool false := is_tq (hin 1 15 (by kernel_rfl) (by kernel_rfl)) rfl
      exact wp_move (.tmp 15) rfl _ e0 ⟨_, rfl, tq_is _ _ _ _ rfl, Kept.refl _ _, fun _ _ _ _ _ => trivial⟩
    | 3, ho, hsk =>
      obtain rfl := Option.some.inj ho
      exact wp_move (.tmp 6) rfl _ ((hout 6 (by kernel_rfl)).trans rfl) ⟨_, rfl, tq_is _ _ _ _ rfl, Kept.refl _ _, fun _ _ _ _ _ => trivial⟩
    | 4, ho, hsk =>
      obtain rfl := Option.some.inj ho
      have e0 : a'.eval (.tmp 17) = .int .i64 (c - 177) := is_tq (hin 3 17 (by kernel_rfl) (by kernel_rfl)) rfl
      exact o_gtr3 (.tmp 17) 1 rfl _ false (unhide E2) e0 ⟨_, rfl, tq_is _ _ _ _ rfl, Kept.refl _ _, fun _ _ _ _ _ => trivial⟩
    | 5, ho, hsk =>
      obtain rfl := Option.some.inj ho
      have e0 : a'.eval (.tmp 16) = .bool false := is_tq (hin 2 16 (by kernel_rfl) (by kernel_rfl)) rfl
      have e1 : a'.eval (.tmp 18) = .bool false := is_tq (hin 4 18 (by kernel_rfl) (by kernel_rfl)) rfl
      exact o_pickOr0 (.tmp 16) (.tmp 18) rfl _ e0 e1 ⟨_, rfl, tq_is _ _ _ _ rfl, Kept.refl _ _, fun _ _ _ _ _ => trivial⟩
    | 6, ho, hsk =>
      obtain rfl := Option.some.inj ho
      have e0 : a'.eval (.tmp 19) = .bool false := is_tq (hin 5 19 (by kernel_rfl) (by kernel_rfl)) rfl
      exact wp_move (.tmp 19) rfl _ e0 ⟨_, rfl, tq_is _ _ _ _ rfl, Kept.refl _ _, fun _ _ _ _ _ => trivial⟩
    | 7, ho, hsk =>
      obtain rfl := Option.some.inj ho
      exact wp_loadA row25 (.tmp 5) rfl q 0 ((hout 5 (by kernel_rfl)).trans rfl) (recC R) lR ((unhide RR).kept hk2 (by simp)).range ⟨_, rfl, tq_is _ _ _ _ rfl, Kept.refl _ _, fun _ _ _ _ _ => trivial⟩
    | 8, ho, hsk =>
      obtain rfl := Option.some.inj ho
      have e0 : a'.eval (.tmp 21) = aggV (recC R) := is_tq (hin 7 21 (by kernel_rfl) (by kernel_rfl)) rfl
      refine wp_callF 14 _ _ rfl #[aggV (recC R)] (by simp [e0]) (cf14 _ _) ((unhide H14 w2).mono ?_)
      rintro e w3 ⟨rfl, hk3⟩
      exact ⟨_, rfl, _, rfl, tq_is _ _ _ _ rfl, hk3, fun _ _ _ _ _ => trivial⟩
    | 9, ho, hsk =>
      obtain rfl := Option.some.inj ho
      have e0 : a'.eval (.tmp 22) = .bool true := is_tq (hin 8 22 (by kernel_rfl) (by kernel_rfl)) rfl
      exact o_not (.tmp 22) rfl _ e0 ⟨_, rfl, tq_is _ _ _ _ rfl, Kept.refl _ _, fun _ _ _ _ _ => trivial⟩
    | 10, ho, hsk =>
      obtain rfl := Option.some.inj ho
      have e0 : a'.eval (.tmp 20) = .bool false := is_tq (hin 6 20 (by kernel_rfl) (by kernel_rfl)) rfl
      have e1 : a'.eval (.tmp 23) = .bool false := is_tq (hin 9 23 (by kernel_rfl) (by kernel_rfl)) rfl
      exact o_pickOr0 (.tmp 20) (.tmp 23) rfl _ e0 e1 ⟨_, rfl, tq_is _ _ _ _ rfl, Kept.refl _ _, fun _ _ _ _ _ => trivial⟩
    | 11, ho, hsk =>
      obtain rfl := Option.some.inj ho
      have e0 : a'.eval (.tmp 24) = .bool false := is_tq (hin 10 24 (by kernel_rfl) (by kernel_rfl)) rfl
      exact wp_move (.tmp 24) rfl _ e0 ⟨_, rfl, tq_is _ _ _ _ rfl, Kept.refl _ _, fun _ _ _ _ _ => trivial⟩
    | 12, ho, hsk =>
      obtain rfl := Option.some.inj ho
      exact wp_loadA row25 (.tmp 5) rfl q 0 ((hout 5 (by kernel_rfl)).trans rfl) (recC R) lR ((unhide RR).kept hk2 (by simp)).range ⟨_, rfl, tq_is _ _ _ _ rfl, Kept.refl _ _, fun _ _ _ _ _ => trivial⟩
    | 13, ho, hsk =>
      obtain rfl := Option.some.inj ho
      exact wp_move (.tmp 6) rfl _ ((hout 6 (by kernel_rfl)).trans rfl) ⟨_, rfl, tq_is _ _ _ _ rfl, Kept.refl _ _, fun _ _ _ _ _ => trivial⟩
    | 14, ho, hsk =>
      obtain rfl := Option.some.inj ho
      have e0 : a'.eval (.tmp 26) = aggV (recC R) := is_tq (hin 12 26 (by kernel_rfl) (by kernel_rfl)) rfl
      have e1 : a'.eval (.tmp 27) = .int .i64 (c - 177) := is_tq (hin 13 27 (by kernel_rfl) (by kernel_rfl)) rfl
      refine wp_callF 17 _ _ rfl #[aggV (recC R), .int .i64 (c - 177)] (by simp [e0, e1]) (cf17 _ _) ((unhide H17 w2).mono ?_)
      rintro e w3 ⟨rfl, hk3⟩
      exact ⟨_, rfl, _, rfl, tq_is _ _ _ _ rfl, hk3, fun _ _ _ _ _ => trivial⟩
    | 15, ho, hsk =>
      obtain rfl := Option.some.inj ho
      exact wp_loadA row29 (.tmp 1) rfl b0 0 ((hout 1 (by kernel_rfl)).trans rfl) (u8s s) (u8l ls) ((unhide G).step hk2).s0.range ⟨_, rfl, tq_is _ _ _ _ rfl, Kept.refl _ _, fun _ _ _ _ _ => trivial⟩
    | 16, ho, hsk =>
      obtain rfl := Option.some.inj ho
      have e0 : a'.eval (.tmp 28) = aggV (u8s L) := is_tq (hin 14 28 (by kernel_rfl) (by kernel_rfl)) rfl
      have e1 : a'.eval (.tmp 29) = aggV (u8s s) := is_tq (hin 15 29 (by kernel_rfl) (by kernel_rfl)) rfl
      exact o_neqA 29 29 guard29 (.tmp 28) (.tmp 29) rfl (u8s L) (u8s s) e0 e1 true ((equal29 _ L s lL ls).trans (by rw [unhide E0])) ⟨_, rfl, tq_is _ _ _ _ rfl, Kept.refl _ _, fun _ _ _ _ _ => trivial⟩
    | 17, ho, hsk =>
      obtain rfl := Option.some.inj ho
      have e0 : a'.eval (.tmp 25) = .bool false := is_tq (hin 11 25 (by kernel_rfl) (by kernel_rfl)) rfl
      have e1 : a'.eval (.tmp 30) = .bool false := is_tq (hin 16 30 (by kernel_rfl) (by kernel_rfl)) rfl
      exact o_pickOr0 (.tmp 25) (.tmp 30) rfl _ e0 e1 ⟨_, rfl, tq_is _ _ _ _ rfl, Kept.refl _ _, fun _ _ _ _ _ => trivial⟩
  intro w9 hk9
  replace hk9 : Kept [] W5 w9 := ⟨hk9.os, hk9.tape, hk9.output, hk9.size, hk9.block⟩
  simp only [valsQ, List.map_cons, List.map_nil, Option.getD_some, List.take_succ_cons, List.take_zero, putAll, Act.put, List.setIfInBounds_toArray, List.set_cons_succ, List.set_cons_zero]
  refine wpAny_done (by kernel_rfl) ?_ _
  replace G := hide ((unhide G).step hk9)
  replace RR := hide ((unhide RR).kept hk9 (by simp))
  clear hk9
  go_wp2_with (
    first
    | (refine wpBuildZ (u8s (zs 96)) build23 (by rfl) (by rfl) ?_)
    | (refine wpStoreA row23 (by rfl) (.tmp 34) (.tmp 33) (by rfl) q 5 (u8s (zs 96)) (by kernel_rfl) (by kernel_rfl) (u8l (by simp [zs])) (u8s_one _) ((unhide RR).there5 hR) ?_
       replace RR := hide ((unhide RR).bare hR)
       replace G := hide ((unhide G).other (o := 5) (vs := u8s (zs 96)) (unhide nq).1 (unhide nq).1 (unhide nq).2.1 (unhide nq).2.2)
       have lB : (recC (bareR R)).length = 101 := recC_len (by simp [bareR, zs])
       generalize w9.setCells q 5 (u8s (zs 96)) = W10 at *)
    | (refine wpLoadA row25 (by rfl) (.tmp 5) (by rfl) q 0 (by kernel_rfl) (recC (bareR R)) lB (unhide RR).range ?_)
    | (refine wpStoreA row25 (by rfl) (.tmp 2) (.tmp 35) (by rfl) zb 0 (recC (bareR R)) (by kernel_rfl) (by kernel_rfl) lB (recC_one _) ((unhide G).res.there (by rw [lz]; omega)) ?_))
  have g4 := (unhide G).res.put (vs := recC (bareR R)) (by rw [lz, lB])
  have nz := (unhide G).nz
  exact bodyPost_ret (res21 _ _ _ _ _ _ rfl rfl rfl lB g4) rfl ⟨rfl, (unhide G).kept.setCells _ _ (by omega)⟩

end Go.Proofs.YtkpkiibahfdomaaDoor
