/-
  The walk of the document's Get.
-/
import Derived.Test.YtkpkiibahfdomaaDoorRsaid
import Derived.Test.YtkpkiibahfdomaaDoorPuts
namespace Go.Proofs.YtkpkiibahfdomaaDoor
open Go.RowKit

section
variable {o : Oper} {a : Act} {w : World} {K : Act → World → Prop} {Q : Exit → Act → World → Prop}
theorem o_pickOrT (c x : Operand) (ho : o.op = .pick c (.const (.bool true)) x) (hc : a.eval c = .bool true) (h : K (a.put o.dst (.bool true)) w) : o.wp Tryd.prog a w K Q := by
  unfold Oper.wp execOp
  simp only [ho, hc]
  simp [go_sem]
  exact h
theorem o_pickOr0 (c x : Operand) (ho : o.op = .pick c (.const (.bool true)) x) (r : Bool) (hc : a.eval c = .bool false) (hx : a.eval x = .bool r) (h : K (a.put o.dst (.bool r)) w) : o.wp Tryd.prog a w K Q := by
  unfold Oper.wp execOp
  simp only [ho, hc, hx]
  simp [go_sem]
  exact h
end
theorem cf14 (vs : Array Value) (w : World) : (callFunc 14 vs).run Tryd.prog w = .ok (.enter 14 vs) w := by kernel_rfl
theorem res19 (w : World) (z : Nat) (vs : List Value) (e : Int) (tmps : Array Value) (h4 : tmps[4]?.getD undef = P0 z) (h5 : tmps[5]?.getD undef = .int .i64 e) (hl : vs.length = 101) (hb : Blk w z 25 vs) : (results Tryd.f19 tmps).run Tryd.prog w = .ok (.tuple #[aggV vs, .int .i64 e]) w := by
  have := loadV row25 hl hb
  simp [results, Tryd.results19, h4, h5, this, asAddr]
/-- What Get keeps while it goes. -/
structure Ew (w wr : World) (b0 b1 zb : Nat) (s t : List Int) : Prop where
  s0 : Blk wr b0 29 (u8s s)
  s1 : Blk wr b1 29 (u8s t)
  res : Blk wr zb 25 (recC zrec)
  kept : Kept [] w wr
  nz : w.heap.size ≤ zb
theorem Ew.step {w wr wn : World} {b0 b1 zb : Nat} {s t : List Int} (h : Ew w wr b0 b1 zb s t) (hk : Kept [] wr wn) : Ew w wn b0 b1 zb s t :=
  ⟨h.s0.kept hk (by simp), h.s1.kept hk (by simp), h.res.kept hk (by simp), h.kept.trans hk, h.nz⟩

set_option maxHeartbeats 4000000 in
set_option maxRecDepth 100000 in
theorem rget_A (a b : List Int) (la : a.length = 64) (lb : b.length = 64) (R : Rec) (hR : R.bd.length = 96) (P39 : ∀ w, Calls Tryd.prog 39 #[aggV (u8s a), aggV (u8s b)] w fun e w' => e = .returned (aggV (recC R)) ∧ Kept [] w w') (P14 : ∀ w, Calls Tryd.prog 14 #[aggV (recC R)] w fun e w' => e = .returned (.bool false) ∧ Kept [] w w') (w : World) : Calls Tryd.prog 19 #[aggV (u8s a), aggV (u8s b)] w fun e w' => e = .returned (.tuple #[aggV (recC zrec), .int .i64 12]) ∧ Kept [] w w' := by
  have H39 := hide P39
  have H14 := hide P14
  clear P39 P14
  have lR := recC_len hR
  have lz : (recC zrec).length = 101 := recC_len zrec_ok.bd.len
  go_enter Tryd.func19, Tryd.ntmps19
  go_wp2_with (
    first
    | (refine wpBoxV rfl (.tmp 0) rfl (u8s a) rfl ?_
       intro W1 b0 e1 B1 K1
       have BR := hide B1
       have KA := hide K1
       clear e1 B1 K1)
    | (refine wpBoxV rfl (.tmp 1) rfl (u8s b) rfl ?_
       intro W2 b1 e2 B2 K2
       have BS := hide B2
       replace BR := hide ((unhide BR).kept K2 (by simp))
       replace KA := hide ((unhide KA).trans K2)
       clear e2 B2 K2)
    | (refine wpAllocW (recC zrec) zero25 4 rfl rfl rfl ?_
       intro W3 zb e3 B3 K3
       have G : Hid (Ew w W3 b0 b1 zb a b) := ⟨(unhide BR).kept K3 (by simp), (unhide BS).kept K3 (by simp), B3, (unhide KA).trans K3, by have := (unhide KA).size; omega⟩
       clear e3 B3 K3 BR BS KA)
    | (refine wpLoadA row29 (by rfl) (.tmp 2) (by rfl) b0 0 (by kernel_rfl) (u8s a) (u8l la) (unhide G).s0.range ?_)
    | (refine wpLoadA row29 (by rfl) (.tmp 3) (by rfl) b1 0 (by kernel_rfl) (u8s b) (u8l lb) (unhide G).s1.range ?_)
    | (go_at_call 39
       refine (unhide H39 _).mono ?_
       rintro e W4 ⟨rfl, K4⟩
       replace G := hide ((unhide G).step K4)
       clear K4)
    | (refine wpNew row25 (recC zrec) lz zero25 6 (by rfl) (by rfl) (by rfl) (.tmp 9) (by rfl) (by rfl) (by rfl) (recC R) lR (recC_one _) (by kernel_rfl) (by kernel_rfl) ?_
       intro W5 q e5 B5 K5
       replace G := hide ((unhide G).step K5)
       have RR := hide B5
       clear e5 B5 K5))
  refine wp_region_any mixed (wpAny_tq 15 rfl (by kernel_rfl) [some (aggV (recC R)), some (.bool false), some (.bool true), some (.bool true), none, none, none, none, some (.bool true), some (.bool true), none, none, none, none, some (.bool true)] rfl (by kernel_rfl) (by kernel_rfl) ?_ ?_)
  · intro i o' hi hsk ho a' w2 hout hin hk2
    replace hk2 : Kept [] W5 w2 := ⟨hk2.os, hk2.tape, hk2.output, hk2.size, hk2.block⟩
    match i, ho, hsk with
    | 0, ho, hsk =>
      obtain rfl := Option.some.inj ho
      exact wp_loadA row25 (.tmp 6) rfl q 0 ((hout 6 (by kernel_rfl)).trans rfl) (recC R) lR ((unhide RR).kept hk2 (by simp)).range ⟨_, rfl, tq_is _ _ _ _ rfl, Kept.refl _ _, fun _ _ _ _ _ => trivial⟩
    | 1, ho, hsk =>
      obtain rfl := Option.some.inj ho
      have e0 : a'.eval (.tmp 10) = aggV (recC R) := is_tq (hin 0 10 (by kernel_rfl) (by kernel_rfl)) rfl
      refine wp_callF 14 _ _ rfl #[aggV (recC R)] (by simp [e0]) (cf14 _ _) ((unhide H14 w2).mono ?_)
      rintro e w3 ⟨rfl, hk3⟩
      exact ⟨_, rfl, _, rfl, tq_is _ _ _ _ rfl, hk3, fun _ _ _ _ _ => trivial⟩
    | 2, ho, hsk =>
      obtain rfl := Option.some.inj ho
      have e0 : a'.eval (.tmp 11) = .bool false := is_tq (hin 1 11 (by kernel_rfl) (by kernel_rfl)) rfl
      exact o_not (.tmp 11) rfl _ e0 ⟨_, rfl, tq_is _ _ _ _ rfl, Kept.refl _ _, fun _ _ _ _ _ => trivial⟩
    | 3, ho, hsk =>
      obtain rfl := Option.some.inj ho
      have e0 : a'.eval (.tmp 12) = .bool true := is_tq (hin 2 12 (by kernel_rfl) (by kernel_rfl)) rfl
      exact wp_move (.tmp 12) rfl _ e0 ⟨_, rfl, tq_is _ _ _ _ rfl, Kept.refl _ _, fun _ _ _ _ _ => trivial⟩
    | 4, ho, hsk =>
      cases hsk
    | 5, ho, hsk =>
      cases hsk
    | 6, ho, hsk =>
      cases hsk
    | 7, ho, hsk =>
      cases hsk
    | 8, ho, hsk =>
      obtain rfl := Option.some.inj ho
      have e0 : a'.eval (.tmp 13) = .bool true := is_tq (hin 3 13 (by kernel_rfl) (by kernel_rfl)) rfl
      exact o_pickOrT (.tmp 13) (.tmp 17) rfl e0 ⟨_, rfl, tq_is _ _ _ _ rfl, Kept.refl _ _, fun _ _ _ _ _ => trivial⟩
    | 9, ho, hsk =>
      obtain rfl := Option.some.inj ho
      have e0 : a'.eval (.tmp 18) = .bool true := is_tq (hin 8 18 (by kernel_rfl) (by kernel_rfl)) rfl
      exact wp_move (.tmp 18) rfl _ e0 ⟨_, rfl, tq_is _ _ _ _ rfl, Kept.refl _ _, fun _ _ _ _ _ => trivial⟩
    | 10, ho, hsk =>
      cases hsk
    | 11, ho, hsk =>
      cases hsk
    | 12, ho, hsk =>
      cases hsk
    | 13, ho, hsk =>
      cases hsk
    | 14, ho, hsk =>
      obtain rfl := Option.some.inj ho
      have e0 : a'.eval (.tmp 19) = .bool true := is_tq (hin 9 19 (by kernel_rfl) (by kernel_rfl)) rfl
      exact o_pickOrT (.tmp 19) (.tmp 23) rfl e0 ⟨_, rfl, tq_is _ _ _ _ rfl, Kept.refl _ _, fun _ _ _ _ _ => trivial⟩
  intro w9 hk9
  replace hk9 : Kept [] W5 w9 := ⟨hk9.os, hk9.tape, hk9.output, hk9.size, hk9.block⟩
  simp only [valsQ, List.map_cons, List.map_nil, Option.getD_some, Option.getD_none, List.take_succ_cons, List.take_zero, putAll, Act.put, List.setIfInBounds_toArray, List.set_cons_succ, List.set_cons_zero]
  refine wpAny_done (by kernel_rfl) ?_ _
  replace G := hide ((unhide G).step hk9)
  replace RR := hide ((unhide RR).kept hk9 (by simp))
  clear hk9
  go_wp2_with (
    first
    | (refine wpBuildZ (recC zrec) build25 (by rfl) (by rfl) ?_)
    | (refine wpStoreA row25 (by rfl) (.tmp 4) (.tmp 25) (by rfl) zb 0 (recC zrec) (by rfl) (by rfl) lz (recC_one _) ((unhide G).res.there (by rw [lz]; omega)) ?_))
  have g4 := (unhide G).res.put (vs := recC zrec) (by rw [lz])
  have nz := (unhide G).nz
  exact bodyPost_ret (res19 _ _ _ _ _ rfl rfl lz g4) rfl ⟨rfl, (unhide G).kept.setCells _ _ (by omega)⟩

set_option maxHeartbeats 4000000 in
set_option maxRecDepth 100000 in
theorem rget_B (a b : List Int) (la : a.length = 64) (lb : b.length = 64) (R : Rec) (hR : R.bd.length = 96) (P39 : ∀ w, Calls Tryd.prog 39 #[aggV (u8s a), aggV (u8s b)] w fun e w' => e = .returned (aggV (recC R)) ∧ Kept [] w w') (P14 : ∀ w, Calls Tryd.prog 14 #[aggV (recC R)] w fun e w' => e = .returned (.bool true) ∧ Kept [] w w') (A : List Int) (lA : A.length = 64) (P17 : ∀ w, Calls Tryd.prog 17 #[aggV (recC R), .int .i64 0] w fun e w' => e = .returned (aggV (u8s A)) ∧ Kept [] w w') (h0 : decide (A = a) = false) (w : World) : Calls Tryd.prog 19 #[aggV (u8s a), aggV (u8s b)] w fun e w' => e = .returned (.tuple #[aggV (recC zrec), .int .i64 12]) ∧ Kept [] w w' := by
  have H39 := hide P39
  have H14 := hide P14
  have H17 := hide P17
  clear P39 P14 P17
  have E0 := hide h0
  clear h0
  have lR := recC_len hR
  have lz : (recC zrec).length = 101 := recC_len zrec_ok.bd.len
  go_enter Tryd.func19, Tryd.ntmps19
  go_wp2_with (
    first
    | (refine wpBoxV rfl (.tmp 0) rfl (u8s a) rfl ?_
       intro W1 b0 e1 B1 K1
       have BR := hide B1
       have KA := hide K1
       clear e1 B1 K1)
    | (refine wpBoxV rfl (.tmp 1) rfl (u8s b) rfl ?_
       intro W2 b1 e2 B2 K2
       have BS := hide B2
       replace BR := hide ((unhide BR).kept K2 (by simp))
       replace KA := hide ((unhide KA).trans K2)
       clear e2 B2 K2)
    | (refine wpAllocW (recC zrec) zero25 4 rfl rfl rfl ?_
       intro W3 zb e3 B3 K3
       have G : Hid (Ew w W3 b0 b1 zb a b) := ⟨(unhide BR).kept K3 (by simp), (unhide BS).kept K3 (by simp), B3, (unhide KA).trans K3, by have := (unhide KA).size; omega⟩
       clear e3 B3 K3 BR BS KA)
    | (refine wpLoadA row29 (by rfl) (.tmp 2) (by rfl) b0 0 (by kernel_rfl) (u8s a) (u8l la) (unhide G).s0.range ?_)
    | (refine wpLoadA row29 (by rfl) (.tmp 3) (by rfl) b1 0 (by kernel_rfl) (u8s b) (u8l lb) (unhide G).s1.range ?_)
    | (go_at_call 39
       refine (unhide H39 _).mono ?_
       rintro e W4 ⟨rfl, K4⟩
       replace G := hide ((unhide G).step K4)
       clear K4)
    | (refine wpNew row25 (recC zrec) lz zero25 6 (by rfl) (by rfl) (by rfl) (.tmp 9) (by rfl) (by rfl) (by rfl) (recC R) lR (recC_one _) (by kernel_rfl) (by kernel_rfl) ?_
       intro W5 q e5 B5 K5
       replace G := hide ((unhide G).step K5)
       have RR := hide B5
       clear e5 B5 K5))
  refine wp_region_any mixed (wpAny_tq 15 rfl (by kernel_rfl) [some (aggV (recC R)), some (.bool true), some (.bool false), some (.bool false), some (aggV (recC R)), some (aggV (u8s A)), some (aggV (u8s a)), some (.bool true), some (.bool true), some (.bool true), none, none, none, none, some (.bool true)] rfl (by kernel_rfl) (by kernel_rfl) ?_ ?_)
  · intro i o' hi hsk ho a' w2 hout hin hk2
    replace hk2 : Kept [] W5 w2 := ⟨hk2.os, hk2.tape, hk2.output, hk2.size, hk2.block⟩
    match i, ho, hsk with
    | 0, ho, hsk =>
      obtain rfl := Option.some.inj ho
      exact wp_loadA row25 (.tmp 6) rfl q 0 ((hout 6 (by kernel_rfl)).trans rfl) (recC R) lR ((unhide RR).kept hk2 (by simp)).range ⟨_, rfl, tq_is _ _ _ _ rfl, Kept.refl _ _, fun _ _ _ _ _ => trivial⟩
    | 1, ho, hsk =>
      obtain rfl := Option.some.inj ho
      have e0 : a'.eval (.tmp 10) = aggV (recC R) := is_tq (hin 0 10 (by kernel_rfl) (by kernel_rfl)) rfl
      refine wp_callF 14 _ _ rfl #[aggV (recC R)] (by simp [e0]) (cf14 _ _) ((unhide H14 w2).mono ?_)
      rintro e w3 ⟨rfl, hk3⟩
      exact ⟨_, rfl, _, rfl, tq_is _ _ _ _ rfl, hk3, fun _ _ _ _ _ => trivial⟩
    | 2, ho, hsk =>
      obtain rfl := Option.some.inj ho
      have e0 : a'.eval (.tmp 11) = .bool true := is_tq (hin 1 11 (by kernel_rfl) (by kernel_rfl)) rfl
      exact o_not (.tmp 11) rfl _ e0 ⟨_, rfl, tq_is _ _ _ _ rfl, Kept.refl _ _, fun _ _ _ _ _ => trivial⟩
    | 3, ho, hsk =>
      obtain rfl := Option.some.inj ho
      have e0 : a'.eval (.tmp 12) = .bool false := is_tq (hin 2 12 (by kernel_rfl) (by kernel_rfl)) rfl
      exact wp_move (.tmp 12) rfl _ e0 ⟨_, rfl, tq_is _ _ _ _ rfl, Kept.refl _ _, fun _ _ _ _ _ => trivial⟩
    | 4, ho, hsk =>
      obtain rfl := Option.some.inj ho
      exact wp_loadA row25 (.tmp 6) rfl q 0 ((hout 6 (by kernel_rfl)).trans rfl) (recC R) lR ((unhide RR).kept hk2 (by simp)).range ⟨_, rfl, tq_is _ _ _ _ rfl, Kept.refl _ _, fun _ _ _ _ _ => trivial⟩
    | 5, ho, hsk =>
      obtain rfl := Option.some.inj ho
      have e0 : a'.eval (.tmp 14) = aggV (recC R) := is_tq (hin 4 14 (by kernel_rfl) (by kernel_rfl)) rfl
      refine wp_callF 17 _ _ rfl #[aggV (recC R), .int .i64 0] (by simp [e0]; rfl) (cf17 _ _) ((unhide H17 w2).mono ?_)
      rintro e w3 ⟨rfl, hk3⟩
      exact ⟨_, rfl, _, rfl, tq_is _ _ _ _ rfl, hk3, fun _ _ _ _ _ => trivial⟩
    | 6, ho, hsk =>
      obtain rfl := Option.some.inj ho
      exact wp_loadA row29 (.tmp 2) rfl b0 0 ((hout 2 (by kernel_rfl)).trans rfl) (u8s a) (u8l la) ((unhide G).step hk2).s0.range ⟨_, rfl, tq_is _ _ _ _ rfl, Kept.refl _ _, fun _ _ _ _ _ => trivial⟩
    | 7, ho, hsk =>
      obtain rfl := Option.some.inj ho
      have e0 : a'.eval (.tmp 15) = aggV (u8s A) := is_tq (hin 5 15 (by kernel_rfl) (by kernel_rfl)) rfl
      have e1 : a'.eval (.tmp 16) = aggV (u8s a) := is_tq (hin 6 16 (by kernel_rfl) (by kernel_rfl)) rfl
      exact o_neqA 29 29 guard29 (.tmp 15) (.tmp 16) rfl (u8s A) (u8s a) e0 e1 false ((equal29 _ A a lA la).trans (by rw [unhide E0])) ⟨_, rfl, tq_is _ _ _ _ rfl, Kept.refl _ _, fun _ _ _ _ _ => trivial⟩
    | 8, ho, hsk =>
      obtain rfl := Option.some.inj ho
      have e0 : a'.eval (.tmp 13) = .bool false := is_tq (hin 3 13 (by kernel_rfl) (by kernel_rfl)) rfl
      have e1 : a'.eval (.tmp 17) = .bool true := is_tq (hin 7 17 (by kernel_rfl) (by kernel_rfl)) rfl
      exact o_pickOr0 (.tmp 13) (.tmp 17) rfl _ e0 e1 ⟨_, rfl, tq_is _ _ _ _ rfl, Kept.refl _ _, fun _ _ _ _ _ => trivial⟩
    | 9, ho, hsk =>
      obtain rfl := Option.some.inj ho
      have e0 : a'.eval (.tmp 18) = .bool true := is_tq (hin 8 18 (by kernel_rfl) (by kernel_rfl)) rfl
      exact wp_move (.tmp 18) rfl _ e0 ⟨_, rfl, tq_is _ _ _ _ rfl, Kept.refl _ _, fun _ _ _ _ _ => trivial⟩
    | 10, ho, hsk =>
      cases hsk
    | 11, ho, hsk =>
      cases hsk
    | 12, ho, hsk =>
      cases hsk
    | 13, ho, hsk =>
      cases hsk
    | 14, ho, hsk =>
      obtain rfl := Option.some.inj ho
      have e0 : a'.eval (.tmp 19) = .bool true := is_tq (hin 9 19 (by kernel_rfl) (by kernel_rfl)) rfl
      exact o_pickOrT (.tmp 19) (.tmp 23) rfl e0 ⟨_, rfl, tq_is _ _ _ _ rfl, Kept.refl _ _, fun _ _ _ _ _ => trivial⟩
  intro w9 hk9
  replace hk9 : Kept [] W5 w9 := ⟨hk9.os, hk9.tape, hk9.output, hk9.size, hk9.block⟩
  simp only [valsQ, List.map_cons, List.map_nil, Option.getD_some, Option.getD_none, List.take_succ_cons, List.take_zero, putAll, Act.put, List.setIfInBounds_toArray, List.set_cons_succ, List.set_cons_zero]
  refine wpAny_done (by kernel_rfl) ?_ _
  replace G := hide ((unhide G).step hk9)
  replace RR := hide ((unhide RR).kept hk9 (by simp))
  clear hk9
  go_wp2_with (
    first
    | (refine wpBuildZ (recC zrec) build25 (by rfl) (by rfl) ?_)
    | (refine wpStoreA row25 (by rfl) (.tmp 4) (.tmp 25) (by rfl) zb 0 (recC zrec) (by rfl) (by rfl) lz (recC_one _) ((unhide G).res.there (by rw [lz]; omega)) ?_))
  have g4 := (unhide G).res.put (vs := recC zrec) (by rw [lz])
  have nz := (unhide G).nz
  exact bodyPost_ret (res19 _ _ _ _ _ rfl rfl lz g4) rfl ⟨rfl, (unhide G).kept.setCells _ _ (by omega)⟩

set_option maxHeartbeats 4000000 in
set_option maxRecDepth 100000 in
theorem rget_C (a b : List Int) (la : a.length = 64) (lb : b.length = 64) (R : Rec) (hR : R.bd.length = 96) (P39 : ∀ w, Calls Tryd.prog 39 #[aggV (u8s a), aggV (u8s b)] w fun e w' => e = .returned (aggV (recC R)) ∧ Kept [] w w') (P14 : ∀ w, Calls Tryd.prog 14 #[aggV (recC R)] w fun e w' => e = .returned (.bool true) ∧ Kept [] w w') (A : List Int) (lA : A.length = 64) (P17 : ∀ w, Calls Tryd.prog 17 #[aggV (recC R), .int .i64 0] w fun e w' => e = .returned (aggV (u8s A)) ∧ Kept [] w w') (h0 : decide (A = a) = true) (B : List Int) (lB : B.length = 64) (Q17 : ∀ w, Calls Tryd.prog 17 #[aggV (recC R), .int .i64 1] w fun e w' => e = .returned (aggV (u8s B)) ∧ Kept [] w w') (h1 : decide (B = b) = false) (w : World) : Calls Tryd.prog 19 #[aggV (u8s a), aggV (u8s b)] w fun e w' => e = .returned (.tuple #[aggV (recC zrec), .int .i64 12]) ∧ Kept [] w w' := by
  have H39 := hide P39
  have H14 := hide P14
  have H17 := hide P17
  clear P39 P14 P17
  have E0 := hide h0
  clear h0
  have I17 := hide Q17
  have E1 := hide h1
  clear Q17 h1
  have lR := recC_len hR
  have lz : (recC zrec).length = 101 := recC_len zrec_ok.bd.len
  go_enter Tryd.func19, Tryd.ntmps19
  go_wp2_with (
    first
    | (refine wpBoxV rfl (.tmp 0) rfl (u8s a) rfl ?_
       intro W1 b0 e1 B1 K1
       have BR := hide B1
       have KA := hide K1
       clear e1 B1 K1)
    | (refine wpBoxV rfl (.tmp 1) rfl (u8s b) rfl ?_
       intro W2 b1 e2 B2 K2
       have BS := hide B2
       replace BR := hide ((unhide BR).kept K2 (by simp))
       replace KA := hide ((unhide KA).trans K2)
       clear e2 B2 K2)
    | (refine wpAllocW (recC zrec) zero25 4 rfl rfl rfl ?_
       intro W3 zb e3 B3 K3
       have G : Hid (Ew w W3 b0 b1 zb a b) := ⟨(unhide BR).kept K3 (by simp), (unhide BS).kept K3 (by simp), B3, (unhide KA).trans K3, by have := (unhide KA).size; omega⟩
       clear e3 B3 K3 BR BS KA)
    | (refine wpLoadA row29 (by rfl) (.tmp 2) (by rfl) b0 0 (by kernel_rfl) (u8s a) (u8l la) (unhide G).s0.range ?_)
    | (refine wpLoadA row29 (by rfl) (.tmp 3) (by rfl) b1 0 (by kernel_rfl) (u8s b) (u8l lb) (unhide G).s1.range ?_)
    | (go_at_call 39
       refine (unhide H39 _).mono ?_
       rintro e W4 ⟨rfl, K4⟩
       replace G := hide ((unhide G).step K4)
       clear K4)
    | (refine wpNew row25 (recC zrec) lz zero25 6 (by rfl) (by rfl) (by rfl) (.tmp 9) (by rfl) (by rfl) (by rfl) (recC R) lR (recC_one _) (by kernel_rfl) (by kernel_rfl) ?_
       intro W5 q e5 B5 K5
       replace G := hide ((unhide G).step K5)
       have RR := hide B5
       clear e5 B5 K5))
  refine wp_region_any mixed (wpAny_tq 15 rfl (by kernel_rfl) [some (aggV (recC R)), some (.bool true), some (.bool false), some (.bool false), some (aggV (recC R)), some (aggV (u8s A)), some (aggV (u8s a)), some (.bool false), some (.bool false), some (.bool false), some (aggV (recC R)), some (aggV (u8s B)), some (aggV (u8s b)), some (.bool true), some (.bool true)] rfl (by kernel_rfl) (by kernel_rfl) ?_ ?_)
  · intro i o' hi hsk ho a' w2 hout hin hk2
    replace hk2 : Kept [] W5 w2 := ⟨hk2.os, hk2.tape, hk2.output, hk2.size, hk2.block⟩
    match i, ho, hsk with
    | 0, ho, hsk =>
      obtain rfl := Option.some.inj ho
      exact wp_loadA row25 (.tmp 6) rfl q 0 ((hout 6 (by kernel_rfl)).trans rfl) (recC R) lR ((unhide RR).kept hk2 (by simp)).range ⟨_, rfl, tq_is _ _ _ _ rfl, Kept.refl _ _, fun _ _ _ _ _ => trivial⟩
    | 1, ho, hsk =>
      obtain rfl := Option.some.inj ho
      have e0 : a'.eval (.tmp 10) = aggV (recC R) := is_tq (hin 0 10 (by kernel_rfl) (by kernel_rfl)) rfl
      refine wp_callF 14 _ _ rfl #[aggV (recC R)] (by simp [e0]) (cf14 _ _) ((unhide H14 w2).mono ?_)
      rintro e w3 ⟨rfl, hk3⟩
      exact ⟨_, rfl, _, rfl, tq_is _ _ _ _ rfl, hk3, fun _ _ _ _ _ => trivial⟩
    | 2, ho, hsk =>
      obtain rfl := Option.some.inj ho
      have e0 : a'.eval (.tmp 11) = .bool true := is_tq (hin 1 11 (by kernel_rfl) (by kernel_rfl)) rfl
      exact o_not (.tmp 11) rfl _ e0 ⟨_, rfl, tq_is _ _ _ _ rfl, Kept.refl _ _, fun _ _ _ _ _ => trivial⟩
    | 3, ho, hsk =>
      obtain rfl := Option.some.inj ho
      have e0 : a'.eval (.tmp 12) = .bool false := is_tq (hin 2 12 (by kernel_rfl) (by kernel_rfl)) rfl
      exact wp_move (.tmp 12) rfl _ e0 ⟨_, rfl, tq_is _ _ _ _ rfl, Kept.refl _ _, fun _ _ _ _ _ => trivial⟩
    | 4, ho, hsk =>
      obtain rfl := Option.some.inj ho
      exact wp_loadA row25 (.tmp 6) rfl q 0 ((hout 6 (by kernel_rfl)).trans rfl) (recC R) lR ((unhide RR).kept hk2 (by simp)).range ⟨_, rfl, tq_is _ _ _ _ rfl, Kept.refl _ _, fun _ _ _ _ _ => trivial⟩
    | 5, ho, hsk =>
      obtain rfl := Option.some.inj ho
      have e0 : a'.eval (.tmp 14) = aggV (recC R) := is_tq (hin 4 14 (by kernel_rfl) (by kernel_rfl)) rfl
      refine wp_callF 17 _ _ rfl #[aggV (recC R), .int .i64 0] (by simp [e0]; rfl) (cf17 _ _) ((unhide H17 w2).mono ?_)
      rintro e w3 ⟨rfl, hk3⟩
      exact ⟨_, rfl, _, rfl, tq_is _ _ _ _ rfl, hk3, fun _ _ _ _ _ => trivial⟩
    | 6, ho, hsk =>
      obtain rfl := Option.some.inj ho
      exact wp_loadA row29 (.tmp 2) rfl b0 0 ((hout 2 (by kernel_rfl)).trans rfl) (u8s a) (u8l la) ((unhide G).step hk2).s0.range ⟨_, rfl, tq_is _ _ _ _ rfl, Kept.refl _ _, fun _ _ _ _ _ => trivial⟩
    | 7, ho, hsk =>
      obtain rfl := Option.some.inj ho
      have e0 : a'.eval (.tmp 15) = aggV (u8s A) := is_tq (hin 5 15 (by kernel_rfl) (by kernel_rfl)) rfl
      have e1 : a'.eval (.tmp 16) = aggV (u8s a) := is_tq (hin 6 16 (by kernel_rfl) (by kernel_rfl)) rfl
      exact o_neqA 29 29 guard29 (.tmp 15) (.tmp 16) rfl (u8s A) (u8s a) e0 e1 true ((equal29 _ A a lA la).trans (by rw [unhide E0])) ⟨_, rfl, tq_is _ _ _ _ rfl, Kept.refl _ _, fun _ _ _ _ _ => trivial⟩
    | 8, ho, hsk =>
      obtain rfl := Option.some.inj ho
      have e0 : a'.eval (.tmp 13) = .bool false := is_tq (hin 3 13 (by kernel_rfl) (by kernel_rfl)) rfl
      have e1 : a'.eval (.tmp 17) = .bool false := is_tq (hin 7 17 (by kernel_rfl) (by kernel_rfl)) rfl
      exact o_pickOr0 (.tmp 13) (.tmp 17) rfl _ e0 e1 ⟨_, rfl, tq_is _ _ _ _ rfl, Kept.refl _ _, fun _ _ _ _ _ => trivial⟩
    | 9, ho, hsk =>
      obtain rfl := Option.some.inj ho
      have e0 : a'.eval (.tmp 18) = .bool false := is_tq (hin 8 18 (by kernel_rfl) (by kernel_rfl)) rfl
      exact wp_move (.tmp 18) rfl _ e0 ⟨_, rfl, tq_is _ _ _ _ rfl, Kept.refl _ _, fun _ _ _ _ _ => trivial⟩
    | 10, ho, hsk =>
      obtain rfl := Option.some.inj ho
      exact wp_loadA row25 (.tmp 6) rfl q 0 ((hout 6 (by kernel_rfl)).trans rfl) (recC R) lR ((unhide RR).kept hk2 (by simp)).range ⟨_, rfl, tq_is _ _ _ _ rfl, Kept.refl _ _, fun _ _ _ _ _ => trivial⟩
    | 11, ho, hsk =>
      obtain rfl := Option.some.inj ho
      have e0 : a'.eval (.tmp 20) = aggV (recC R) := is_tq (hin 10 20 (by kernel_rfl) (by kernel_rfl)) rfl
      refine wp_callF 17 _ _ rfl #[aggV (recC R), .int .i64 1] (by simp [e0]; rfl) (cf17 _ _) ((unhide I17 w2).mono ?_)
      rintro e w3 ⟨rfl, hk3⟩
      exact ⟨_, rfl, _, rfl, tq_is _ _ _ _ rfl, hk3, fun _ _ _ _ _ => trivial⟩
    | 12, ho, hsk =>
      obtain rfl := Option.some.inj ho
      exact wp_loadA row29 (.tmp 3) rfl b1 0 ((hout 3 (by kernel_rfl)).trans rfl) (u8s b) (u8l lb) ((unhide G).step hk2).s1.range ⟨_, rfl, tq_is _ _ _ _ rfl, Kept.refl _ _, fun _ _ _ _ _ => trivial⟩
    | 13, ho, hsk =>
      obtain rfl := Option.some.inj ho
      have e0 : a'.eval (.tmp 21) = aggV (u8s B) := is_tq (hin 11 21 (by kernel_rfl) (by kernel_rfl)) rfl
      have e1 : a'.eval (.tmp 22) = aggV (u8s b) := is_tq (hin 12 22 (by kernel_rfl) (by kernel_rfl)) rfl
      exact o_neqA 29 29 guard29 (.tmp 21) (.tmp 22) rfl (u8s B) (u8s b) e0 e1 false ((equal29 _ B b lB lb).trans (by rw [unhide E1])) ⟨_, rfl, tq_is _ _ _ _ rfl, Kept.refl _ _, fun _ _ _ _ _ => trivial⟩
    | 14, ho, hsk =>
      obtain rfl := Option.some.inj ho
      have e0 : a'.eval (.tmp 19) = .bool false := is_tq (hin 9 19 (by kernel_rfl) (by kernel_rfl)) rfl
      have e1 : a'.eval (.tmp 23) = .bool true := is_tq (hin 13 23 (by kernel_rfl) (by kernel_rfl)) rfl
      exact o_pickOr0 (.tmp 19) (.tmp 23) rfl _ e0 e1 ⟨_, rfl, tq_is _ _ _ _ rfl, Kept.refl _ _, fun _ _ _ _ _ => trivial⟩
  intro w9 hk9
  replace hk9 : Kept [] W5 w9 := ⟨hk9.os, hk9.tape, hk9.output, hk9.size, hk9.block⟩
  simp only [valsQ, List.map_cons, List.map_nil, Option.getD_some, List.take_succ_cons, List.take_zero, putAll, Act.put, List.setIfInBounds_toArray, List.set_cons_succ, List.set_cons_zero]
  refine wpAny_done (by kernel_rfl) ?_ _
  replace G := hide ((unhide G).step hk9)
  replace RR := hide ((unhide RR).kept hk9 (by simp))
  clear hk9
  go_wp2_with (
    first
    | (refine wpBuildZ (recC zrec) build25 (by rfl) (by rfl) ?_)
    | (refine wpStoreA row25 (by rfl) (.tmp 4) (.tmp 25) (by rfl) zb 0 (recC zrec) (by rfl) (by rfl) lz (recC_one _) ((unhide G).res.there (by rw [lz]; omega)) ?_))
  have g4 := (unhide G).res.put (vs := recC zrec) (by rw [lz])
  have nz := (unhide G).nz
  exact bodyPost_ret (res19 _ _ _ _ _ rfl rfl lz g4) rfl ⟨rfl, (unhide G).kept.setCells _ _ (by omega)⟩

set_option maxHeartbeats 4000000 in
set_option maxRecDepth 100000 in
theorem rget_D (a b : List Int) (la : a.length = 64) (lb : b.length = 64) (R : Rec) (hR : R.bd.length = 96) (P39 : ∀ w, Calls Tryd.prog 39 #[aggV (u8s a), aggV (u8s b)] w fun e w' => e = .returned (aggV (recC R)) ∧ Kept [] w w') (P14 : ∀ w, Calls Tryd.prog 14 #[aggV (recC R)] w fun e w' => e = .returned (.bool true) ∧ Kept [] w w') (A : List Int) (lA : A.length = 64) (P17 : ∀ w, Calls Tryd.prog 17 #[aggV (recC R), .int .i64 0] w fun e w' => e = .returned (aggV (u8s A)) ∧ Kept [] w w') (h0 : decide (A = a) = true) (B : List Int) (lB : B.length = 64) (Q17 : ∀ w, Calls Tryd.prog 17 #[aggV (recC R), .int .i64 1] w fun e w' => e = .returned (aggV (u8s B)) ∧ Kept [] w w') (h1 : decide (B = b) = true) (w : World) : Calls Tryd.prog 19 #[aggV (u8s a), aggV (u8s b)] w fun e w' => e = .returned (.tuple #[aggV (recC R), .int .i64 0]) ∧ Kept [] w w' := by
  have H39 := hide P39
  have H14 := hide P14
  have H17 := hide P17
  clear P39 P14 P17
  have E0 := hide h0
  clear h0
  have I17 := hide Q17
  have E1 := hide h1
  clear Q17 h1
  have lR := recC_len hR
  have lz : (recC zrec).length = 101 := recC_len zrec_ok.bd.len
  go_enter Tryd.func19, Tryd.ntmps19
  go_wp2_with (
    first
    | (refine wpBoxV rfl (.tmp 0) rfl (u8s a) rfl ?_
       intro W1 b0 e1 B1 K1
       have BR := hide B1
       have KA := hide K1
       clear e1 B1 K1)
    | (refine wpBoxV rfl (.tmp 1) rfl (u8s b) rfl ?_
       intro W2 b1 e2 B2 K2
       have BS := hide B2
       replace BR := hide ((unhide BR).kept K2 (by simp))
       replace KA := hide ((unhide KA).trans K2)
       clear e2 B2 K2)
    | (refine wpAllocW (recC zrec) zero25 4 rfl rfl rfl ?_
       intro W3 zb e3 B3 K3
       have G : Hid (Ew w W3 b0 b1 zb a b) := ⟨(unhide BR).kept K3 (by simp), (unhide BS).kept K3 (by simp), B3, (unhide KA).trans K3, by have := (unhide KA).size; omega⟩
       clear e3 B3 K3 BR BS KA)
    | (refine wpLoadA row29 (by rfl) (.tmp 2) (by rfl) b0 0 (by kernel_rfl) (u8s a) (u8l la) (unhide G).s0.range ?_)
    | (refine wpLoadA row29 (by rfl) (.tmp 3) (by rfl) b1 0 (by kernel_rfl) (u8s b) (u8l lb) (unhide G).s1.range ?_)
    | (go_at_call 39
       refine (unhide H39 _).mono ?_
       rintro e W4 ⟨rfl, K4⟩
       replace G := hide ((unhide G).step K4)
       clear K4)
    | (refine wpNew row25 (recC zrec) lz zero25 6 (by rfl) (by rfl) (by rfl) (.tmp 9) (by rfl) (by rfl) (by rfl) (recC R) lR (recC_one _) (by kernel_rfl) (by kernel_rfl) ?_
       intro W5 q e5 B5 K5
       replace G := hide ((unhide G).step K5)
       have RR := hide B5
       clear e5 B5 K5))
  refine wp_region_any mixed (wpAny_tq 15 rfl (by kernel_rfl) [some (aggV (recC R)), some (.bool true), some (.bool false), some (.bool false), some (aggV (recC R)), some (aggV (u8s A)), some (aggV (u8s a)), some (.bool false), some (.bool false), some (.bool false), some (aggV (recC R)), some (aggV (u8s B)), some (aggV (u8s b)), some (.bool false), some (.bool false)] rfl (by kernel_rfl) (by kernel_rfl) ?_ ?_)
  · intro i o' hi hsk ho a' w2 hout hin hk2
    replace hk2 : Kept [] W5 w2 := ⟨hk2.os, hk2.tape, hk2.output, hk2.size, hk2.block⟩
    match i, ho, hsk with
    | 0, ho, hsk =>
      obtain rfl := Option.some.inj ho
      exact wp_loadA row25 (.tmp 6) rfl q 0 ((hout 6 (by kernel_rfl)).trans rfl) (recC R) lR ((unhide RR).kept hk2 (by simp)).range ⟨_, rfl, tq_is _ _ _ _ rfl, Kept.refl _ _, fun _ _ _ _ _ => trivial⟩
    | 1, ho, hsk =>
      obtain rfl := Option.some.inj ho
      have e0 : a'.eval (.tmp 10) = aggV (recC R) := is_tq (hin 0 10 (by kernel_rfl) (by kernel_rfl)) rfl
      refine wp_callF 14 _ _ rfl #[aggV (recC R)] (by simp [e0]) (cf14 _ _) ((unhide H14 w2).mono ?_)
      rintro e w3 ⟨rfl, hk3⟩
      exact ⟨_, rfl, _, rfl, tq_is _ _ _ _ rfl, hk3, fun _ _ _ _ _ => trivial⟩
    | 2, ho, hsk =>
      obtain rfl := Option.some.inj ho
      have e0 : a'.eval (.tmp 11) = .bool true := is_tq (hin 1 11 (by kernel_rfl) (by kernel_rfl)) rfl
      exact o_not (.tmp 11) rfl _ e0 ⟨_, rfl, tq_is _ _ _ _ rfl, Kept.refl _ _, fun _ _ _ _ _ => trivial⟩
    | 3, ho, hsk =>
      obtain rfl := Option.some.inj ho
      have e0 : a'.eval (.tmp 12) = .bool false := is_tq (hin 2 12 (by kernel_rfl) (by kernel_rfl)) rfl
      exact wp_move (.tmp 12) rfl _ e0 ⟨_, rfl, tq_is _ _ _ _ rfl, Kept.refl _ _, fun _ _ _ _ _ => trivial⟩
    | 4, ho, hsk =>
      obtain rfl := Option.some.inj ho
      exact wp_loadA row25 (.tmp 6) rfl q 0 ((hout 6 (by kernel_rfl)).trans rfl) (recC R) lR ((unhide RR).kept hk2 (by simp)).range ⟨_, rfl, tq_is _ _ _ _ rfl, Kept.refl _ _, fun _ _ _ _ _ => trivial⟩
    | 5, ho, hsk =>
      obtain rfl := Option.some.inj ho
      have e0 : a'.eval (.tmp 14) = aggV (recC R) := is_tq (hin 4 14 (by kernel_rfl) (by kernel_rfl)) rfl
      refine wp_callF 17 _ _ rfl #[aggV (recC R), .int .i64 0] (by simp [e0]; rfl) (cf17 _ _) ((unhide H17 w2).mono ?_)
      rintro e w3 ⟨rfl, hk3⟩
      exact ⟨_, rfl, _, rfl, tq_is _ _ _ _ rfl, hk3, fun _ _ _ _ _ => trivial⟩
    | 6, ho, hsk =>
      obtain rfl := Option.some.inj ho
      exact wp_loadA row29 (.tmp 2) rfl b0 0 ((hout 2 (by kernel_rfl)).trans rfl) (u8s a) (u8l la) ((unhide G).step hk2).s0.range ⟨_, rfl, tq_is _ _ _ _ rfl, Kept.refl _ _, fun _ _ _ _ _ => trivial⟩
    | 7, ho, hsk =>
      obtain rfl := Option.some.inj ho
      have e0 : a'.eval (.tmp 15) = aggV (u8s A) := is_tq (hin 5 15 (by kernel_rfl) (by kernel_rfl)) rfl
      have e1 : a'.eval (.tmp 16) = aggV (u8s a) := is_tq (hin 6 16 (by kernel_rfl) (by kernel_rfl)) rfl
      exact o_neqA 29 29 guard29 (.tmp 15) (.tmp 16) rfl (u8s A) (u8s a) e0 e1 true ((equal29 _ A a lA la).trans (by rw [unhide E0])) ⟨_, rfl, tq_is _ _ _ _ rfl, Kept.refl _ _, fun _ _ _ _ _ => trivial⟩
    | 8, ho, hsk =>
      obtain rfl := Option.some.inj ho
      have e0 : a'.eval (.tmp 13) = .bool false := is_tq (hin 3 13 (by kernel_rfl) (by kernel_rfl)) rfl
      have e1 : a'.eval (.tmp 17) = .bool false := is_tq (hin 7 17 (by kernel_rfl) (by kernel_rfl)) rfl
      exact o_pickOr0 (.tmp 13) (.tmp 17) rfl _ e0 e1 ⟨_, rfl, tq_is _ _ _ _ rfl, Kept.refl _ _, fun _ _ _ _ _ => trivial⟩
    | 9, ho, hsk =>
      obtain rfl := Option.some.inj ho
      have e0 : a'.eval (.tmp 18) = .bool false := is_tq (hin 8 18 (by kernel_rfl) (by kernel_rfl)) rfl
      exact wp_move (.tmp 18) rfl _ e0 ⟨_, rfl, tq_is _ _ _ _ rfl, Kept.refl _ _, fun _ _ _ _ _ => trivial⟩
    | 10, ho, hsk =>
      obtain rfl := Option.some.inj ho
      exact wp_loadA row25 (.tmp 6) rfl q 0 ((hout 6 (by kernel_rfl)).trans rfl) (recC R) lR ((unhide RR).kept hk2 (by simp)).range ⟨_, rfl, tq_is _ _ _ _ rfl, Kept.refl _ _, fun _ _ _ _ _ => trivial⟩
    | 11, ho, hsk =>
      obtain rfl := Option.some.inj ho
      have e0 : a'.eval (.tmp 20) = aggV (recC R) := is_tq (hin 10 20 (by kernel_rfl) (by kernel_rfl)) rfl
      refine wp_callF 17 _ _ rfl #[aggV (recC R), .int .i64 1] (by simp [e0]; rfl) (cf17 _ _) ((unhide I17 w2).mono ?_)
      rintro e w3 ⟨rfl, hk3⟩
      exact ⟨_, rfl, _, rfl, tq_is _ _ _ _ rfl, hk3, fun _ _ _ _ _ => trivial⟩
    | 12, ho, hsk =>
      obtain rfl := Option.some.inj ho
      exact wp_loadA row29 (.tmp 3) rfl b1 0 ((hout 3 (by kernel_rfl)).trans rfl) (u8s b) (u8l lb) ((unhide G).step hk2).s1.range ⟨_, rfl, tq_is _ _ _ _ rfl, Kept.refl _ _, fun _ _ _ _ _ => trivial⟩
    | 13, ho, hsk =>
      obtain rfl := Option.some.inj ho
      have e0 : a'.eval (.tmp 21) = aggV (u8s B) := is_tq (hin 11 21 (by kernel_rfl) (by kernel_rfl)) rfl
      have e1 : a'.eval (.tmp 22) = aggV (u8s b) := is_tq (hin 12 22 (by kernel_rfl) (by kernel_rfl)) rfl
      exact o_neqA 29 29 guard29 (.tmp 21) (.tmp 22) rfl (u8s B) (u8s b) e0 e1 true ((equal29 _ B b lB lb).trans (by rw [unhide E1])) ⟨_, rfl, tq_is _ _ _ _ rfl, Kept.refl _ _, fun _ _ _ _ _ => trivial⟩
    | 14, ho, hsk =>
      obtain rfl := Option.some.inj ho
      have e0 : a'.eval (.tmp 19) = .bool false := is_tq (hin 9 19 (by kernel_rfl) (by kernel_rfl)) rfl
      have e1 : a'.eval (.tmp 23) = .bool false := is_tq (hin 13 23 (by kernel_rfl) (by kernel_rfl)) rfl
      exact o_pickOr0 (.tmp 19) (.tmp 23) rfl _ e0 e1 ⟨_, rfl, tq_is _ _ _ _ rfl, Kept.refl _ _, fun _ _ _ _ _ => trivial⟩
  intro w9 hk9
  replace hk9 : Kept [] W5 w9 := ⟨hk9.os, hk9.tape, hk9.output, hk9.size, hk9.block⟩
  simp only [valsQ, List.map_cons, List.map_nil, Option.getD_some, List.take_succ_cons, List.take_zero, putAll, Act.put, List.setIfInBounds_toArray, List.set_cons_succ, List.set_cons_zero]
  refine wpAny_done (by kernel_rfl) ?_ _
  replace G := hide ((unhide G).step hk9)
  replace RR := hide ((unhide RR).kept hk9 (by simp))
  clear hk9
  go_wp2_with (
    first
    | (refine wpLoadA row25 (by rfl) (.tmp 6) (by rfl) q 0 (by kernel_rfl) (recC R) lR (unhide RR).range ?_)
    | (refine wpStoreA row25 (by rfl) (.tmp 4) (.tmp 26) (by rfl) zb 0 (recC R) (by rfl) (by rfl) lR (recC_one _) ((unhide G).res.there (by rw [lz]; omega)) ?_))
  have g4 := (unhide G).res.put (vs := recC R) (by rw [lz, lR])
  have nz := (unhide G).nz
  exact bodyPost_ret (res19 _ _ _ _ _ rfl rfl lR g4) rfl ⟨rfl, (unhide G).kept.setCells _ _ (by omega)⟩

theorem rget19 (a b : List Int) (ha : Byts 64 a) (hb : Byts 64 b) (w : World) : Calls Tryd.prog 19 #[aggV (u8s a), aggV (u8s b)] w fun e w' => e = .returned (.tuple #[aggV (recC (getR a b).1), .int .i64 (getR a b).2]) ∧ Kept [] w w' := by
  have hR := (betR_ok ha hb).bd
  have P39 := fun w => said39 a b ha hb w
  have P14 := fun w => may14 (betR a b) w
  cases hI : isRec (betR a b) with
  | false =>
    have e : getR a b = (zrec, 12) := by simp [getR, hI]
    rw [hI] at P14
    rw [e]
    exact rget_A a b ha.len hb.len _ hR.len P39 P14 w
  | true =>
    rw [hI] at P14
    have hA := laidR_byts (r := betR a b) (h := 0) (by omega) hR
    have hB := laidR_byts (r := betR a b) (h := 1) (by omega) hR
    have P17 := fun w => half17 (betR a b) hI hR 0 (by omega) w
    have Q17 := fun w => half17 (betR a b) hI hR 1 (by omega) w
    by_cases h0 : laidR (betR a b) 0 = a
    · by_cases h1 : laidR (betR a b) 1 = b
      · have e : getR a b = (betR a b, 0) := by simp [getR, hI, h0, h1]
        rw [e]
        exact rget_D a b ha.len hb.len _ hR.len P39 P14 _ hA.len P17 (by simpa using h0) _ hB.len Q17 (by simpa using h1) w
      · have e : getR a b = (zrec, 12) := by
          unfold getR
          rw [if_neg]
          rintro ⟨_, h⟩
          exact h1 (List.append_inj h (by rw [hA.len, ha.len])).2
        rw [e]
        exact rget_C a b ha.len hb.len _ hR.len P39 P14 _ hA.len P17 (by simpa using h0) _ hB.len Q17 (by simpa using h1) w
    · have e : getR a b = (zrec, 12) := by
        unfold getR
        rw [if_neg]
        rintro ⟨_, h⟩
        exact h0 (List.append_inj h (by rw [hA.len, ha.len])).1
      rw [e]
      exact rget_B a b ha.len hb.len _ hR.len P39 P14 _ hA.len P17 (by simpa using h0) w

end Go.Proofs.YtkpkiibahfdomaaDoor
