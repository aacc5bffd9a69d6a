/-
  The walk of the document's TakeHead.
-/
import Derived.Test.YtkpkiibahfdomaaDoorRget
namespace Go.Proofs.YtkpkiibahfdomaaDoor
open Go.RowKit

theorem cf10 (vs : Array Value) (w : World) : (callFunc 10 vs).run Tryd.prog w = .ok (.enter 10 vs) w := by kernel_rfl
theorem res22 (w : World) (z : Nat) (vs : List Value) (e : Int) (tmps : Array Value) (h4 : tmps[2]?.getD undef = P0 z) (h5 : tmps[3]?.getD undef = .int .i64 e) (hl : vs.length = 2) (hb : Blk w z 27 vs) : (results Tryd.f22 tmps).run Tryd.prog w = .ok (.tuple #[aggV vs, .int .i64 e]) w := by
  have := loadV row27 hl hb
  simp [results, Tryd.results22, h4, h5, this, asAddr]
/-- What TakeHead keeps while it goes. -/
structure Fw (w wr : World) (b0 zb q : Nat) (s : List Int) (st ep : Int) : Prop where
  s0 : Blk wr b0 29 (u8s s)
  res : Blk wr zb 27 (hdC 0 0)
  hd : Blk wr q 27 (hdC st ep)
  kept : Kept [] w wr
  nz : w.heap.size ≤ zb
  nq : w.heap.size ≤ q
  n0 : b0 ≠ q
  n2 : zb ≠ q
theorem Fw.step {w wr wn : World} {b0 zb q : Nat} {s : List Int} {st ep : Int} (h : Fw w wr b0 zb q s st ep) (hk : Kept [] wr wn) : Fw w wn b0 zb q s st ep :=
  ⟨h.s0.kept hk (by simp), h.res.kept hk (by simp), h.hd.kept hk (by simp), h.kept.trans hk, h.nz, h.nq, h.n0, h.n2⟩
theorem Fw.set {w wr wn : World} {b0 zb q : Nat} {s : List Int} {st ep x : Int} (h : Fw w wr b0 zb q s st ep) (hb : Blk wn q 27 ((hdC st ep).set 0 (.int .i64 x))) (hk : Kept [q] wr wn) : Fw w wn b0 zb q s x ep :=
  ⟨h.s0.kept hk (by simp [h.n0]), h.res.kept hk (by simp [h.n2]), hb, h.kept.fresh hk (fun i hi hl => by have := h.nq; simp at hi; omega), h.nz, h.nq, h.n0, h.n2⟩

set_option maxHeartbeats 4000000 in
set_option maxRecDepth 100000 in
theorem rtake_nA (s : List Int) (ls : s.length = 64) (st ep : Int) (P5 : ∀ w, Calls Tryd.prog 41 #[aggV (u8s s), .int .i64 (5 : Nat)] w fun e w' => e = .returned (.int .i64 st) ∧ Kept [] w w') (P1 : ∀ w, Calls Tryd.prog 41 #[aggV (u8s s), .int .i64 (1 : Nat)] w fun e w' => e = .returned (.int .i64 ep) ∧ Kept [] w w') (hz : decide (s = zs 64) = false) (P10 : ∀ w, Calls Tryd.prog 10 #[aggV (hdC st ep)] w fun e w' => e = .returned (.bool false) ∧ Kept [] w w') (w : World) : Calls Tryd.prog 22 #[aggV (u8s s)] w fun e w' => e = .returned (.tuple #[aggV (hdC 0 0), .int .i64 12]) ∧ Kept [] w w' := by
  have N5 := hide P5
  have N1 := hide P1
  have HZ := hide hz
  have H10 := hide P10
  clear P5 P1 hz P10
  go_enter Tryd.func22, Tryd.ntmps22
  go_wp2_with (
    first
    | (refine wpBoxV rfl (.tmp 0) rfl (u8s s) rfl ?_
       intro W1 b0 e1 B1 K1
       have A0 := hide B1
       have KA := hide K1
       clear e1 B1 K1)
    | (refine wpAllocW (hdC 0 0) zero27 2 rfl rfl rfl ?_
       intro W2 zb ez BZ1 K2
       have d0 := hide ((unhide A0).kept K2 (by simp))
       have dz := hide BZ1
       have nz : Hid (w.heap.size ≤ zb) := by have := (unhide KA).size; show _ ≤ _; omega
       have dk := hide ((unhide KA).trans K2)
       clear ez BZ1 K2 A0 KA))
  refine wp_region_prefix mixed 6 1 rfl (by kernel_rfl) (tab [.is (aggV (u8s s)), .is (.int .i64 st), .is (aggV (u8s s)), .is (.int .i64 ep), .is (aggV (hdC st ep)), .new 27 (hdC 0 0) W2.heap.size]) (apartE [5]) (tab_kept _) (by kernel_rfl) ?_ ?_
  · intro j o hj ho a w2 hout hin hk
    match j, ho with
    | 0, ho =>
      obtain rfl := Option.some.inj ho
      exact wp_loadA row29 (.tmp 1) rfl b0 0 ((hout 1 (by kernel_rfl)).trans rfl) (u8s s) (u8l ls) ((unhide d0).kept hk (by simp)).range ⟨_, rfl, rfl, Kept.refl _ _, fun i u _ _ _ => apart_no (by decide) i u _⟩
    | 2, ho =>
      obtain rfl := Option.some.inj ho
      exact wp_loadA row29 (.tmp 1) rfl b0 0 ((hout 1 (by kernel_rfl)).trans rfl) (u8s s) (u8l ls) ((unhide d0).kept hk (by simp)).range ⟨_, rfl, rfl, Kept.refl _ _, fun i u _ _ _ => apart_no (by decide) i u _⟩
    | 1, ho =>
      obtain rfl := Option.some.inj ho
      have e0 : a.eval (.tmp 5) = aggV (u8s s) := hin 0 5 (by kernel_rfl) (by kernel_rfl)
      refine wp_callF 41 _ _ rfl #[aggV (u8s s), .int .i64 (5 : Nat)] (by simp [e0]; rfl) (cf41 _ _) ((unhide N5 w2).mono ?_)
      rintro e w3 ⟨rfl, hk3⟩
      exact ⟨_, rfl, _, rfl, rfl, hk3, fun i u _ _ _ => apart_no (by decide) i u _⟩
    | 3, ho =>
      obtain rfl := Option.some.inj ho
      have e0 : a.eval (.tmp 7) = aggV (u8s s) := hin 2 7 (by kernel_rfl) (by kernel_rfl)
      refine wp_callF 41 _ _ rfl #[aggV (u8s s), .int .i64 (1 : Nat)] (by simp [e0]; rfl) (cf41 _ _) ((unhide N1 w2).mono ?_)
      rintro e w3 ⟨rfl, hk3⟩
      exact ⟨_, rfl, _, rfl, rfl, hk3, fun i u _ _ _ => apart_no (by decide) i u _⟩
    | 4, ho =>
      obtain rfl := Option.some.inj ho
      have e0 : a.eval (.tmp 6) = .int .i64 st := hin 1 6 (by kernel_rfl) (by kernel_rfl)
      have e1 : a.eval (.tmp 8) = .int .i64 ep := hin 3 8 (by kernel_rfl) (by kernel_rfl)
      exact o_buildP _ rfl #[(0, .int .i64 st), (1, .int .i64 ep)] (by simp [e0, e1]) _ (build27p _ _ _) ⟨_, rfl, rfl, Kept.refl _ _, fun i u _ _ _ => apart_no (by decide) i u _⟩
    | 5, ho =>
      obtain rfl := Option.some.inj ho
      exact wp_allocA (hdC 0 0) zero27 rfl ⟨_, rfl, ⟨_, rfl, hk.size, Blk.new' rfl⟩, (Kept.refl _ _).alloc _, fun i u _ _ h => apart_new (by simp) i 5 u h⟩
    | n + 6, ho => exact absurd hj (by omega)
  intro vs w3 hlen hF hE hk
  obtain ⟨x0, x1, x2, x3, x4, x5, rfl⟩ := vs6 hlen
  obtain rfl : x0 = aggV (u8s s) := hF 0 _ rfl
  obtain rfl : x1 = .int .i64 st := hF 1 _ rfl
  obtain rfl : x2 = aggV (u8s s) := hF 2 _ rfl
  obtain rfl : x3 = .int .i64 ep := hF 3 _ rfl
  obtain rfl : x4 = aggV (hdC st ep) := hF 4 _ rfl
  obtain ⟨q, rfl, hq, hbq⟩ : ∃ q, x5 = P0 q ∧ W2.heap.size ≤ q ∧ Blk w3 q 27 (hdC 0 0) := hF 5 _ rfl
  simp only [List.take_succ_cons, List.take_zero, putAll, Act.put, List.setIfInBounds_toArray, List.set_cons_succ, List.set_cons_zero]
  refine wpAny_all (rs := [6]) (by kernel_rfl) (by simp) ?_
  intro i hi
  obtain rfl : i = 6 := by simpa using hi
  refine wpOp_of rfl rfl (wp_storeN row27 (.tmp 4) (.tmp 9) rfl rfl q 0 (hdC st ep) rfl rfl rfl (hdC_one _ _) (hbq.there (by simp [hdC])) ?_)
  refine wpAny_done (by kernel_rfl) ?_ _
  have G : Hid (Fw w (w3.setCells q 0 (hdC st ep)) b0 zb q s st ep) := by
    have y0 := (unhide d0).lt
    have y2 := (unhide dz).lt
    have y3 := unhide nz
    have y4 := (unhide dk).size
    exact ⟨((unhide d0).kept hk (by simp)).other (by omega), ((unhide dz).kept hk (by simp)).other (by omega), hbq.put rfl, ((unhide dk).trans hk).setCells _ _ (by omega), y3, by omega, by omega, by omega⟩
  clear hF hE hk hbq hq d0 dz dk nz
  generalize (w3.setCells q 0 (hdC st ep)) = W4 at *
  clear hlen
  go_wp2_with (
    first
    | (refine wpLoadA row29 (by rfl) (.tmp 1) (by rfl) b0 0 (by kernel_rfl) (u8s s) (u8l ls) (unhide G).s0.range ?_)
    | (refine wpBuildZ (u8s (zs 64)) build29 (by rfl) (by rfl) ?_)
    | (refine wpEqlA 29 29 guard29 (.tmp 10) (.tmp 11) (by rfl) (by rfl) (u8s s) (u8s (zs 64)) (by kernel_rfl) (by kernel_rfl) false ((equal29 _ s (zs 64) ls (by simp [zs])).trans (by rw [unhide HZ])) ?_))
  refine wp_region_any mixed (wpAny_tq 9 rfl (by kernel_rfl) [some (aggV (hdC st ep)), some (.bool false), some (.bool true), some (.bool true), none, none, none, none, some (.bool true)] rfl (by kernel_rfl) (by kernel_rfl) ?_ ?_)
  · intro i o' hi hsk ho a' w2 hout hin hk2
    replace hk2 : Kept [] W4 w2 := ⟨hk2.os, hk2.tape, hk2.output, hk2.size, hk2.block⟩
    match i, ho, hsk with
    | 0, ho, hsk =>
      obtain rfl := Option.some.inj ho
      exact wp_loadA row27 (.tmp 4) rfl q 0 ((hout 4 (by kernel_rfl)).trans rfl) (hdC st ep) rfl ((unhide G).step hk2).hd.range ⟨_, rfl, tq_is _ _ _ _ rfl, Kept.refl _ _, fun _ _ _ _ _ => trivial⟩
    | 1, ho, hsk =>
      obtain rfl := Option.some.inj ho
      have e0 : a'.eval (.tmp 14) = aggV (hdC st ep) := is_tq (hin 0 14 (by kernel_rfl) (by kernel_rfl)) rfl
      refine wp_callF 10 _ _ rfl #[aggV (hdC st ep)] (by simp [e0]) (cf10 _ _) ((unhide H10 w2).mono ?_)
      rintro e w3 ⟨rfl, hk3⟩
      exact ⟨_, rfl, _, rfl, tq_is _ _ _ _ rfl, hk3, fun _ _ _ _ _ => trivial⟩
    | 2, ho, hsk =>
      obtain rfl := Option.some.inj ho
      have e0 : a'.eval (.tmp 15) = .bool false := is_tq (hin 1 15 (by kernel_rfl) (by kernel_rfl)) rfl
      exact o_not (.tmp 15) rfl _ e0 ⟨_, rfl, tq_is _ _ _ _ rfl, Kept.refl _ _, fun _ _ _ _ _ => trivial⟩
    | 3, ho, hsk =>
      obtain rfl := Option.some.inj ho
      have e0 : a'.eval (.tmp 16) = .bool true := is_tq (hin 2 16 (by kernel_rfl) (by kernel_rfl)) rfl
      exact wp_move (.tmp 16) rfl _ e0 ⟨_, rfl, tq_is _ _ _ _ rfl, Kept.refl _ _, fun _ _ _ _ _ => trivial⟩
    | 4, ho, hsk =>
      cases hsk
    | 5, ho, hsk =>
      cases hsk
    | 6, ho, hsk =>
      cases hsk
    | 7, ho, hsk =>
      cases hsk
    | 8, ho, hsk =>
      obtain rfl := Option.some.inj ho
      have e0 : a'.eval (.tmp 17) = .bool true := is_tq (hin 3 17 (by kernel_rfl) (by kernel_rfl)) rfl
      exact o_pickOrT (.tmp 17) (.tmp 21) rfl e0 ⟨_, rfl, tq_is _ _ _ _ rfl, Kept.refl _ _, fun _ _ _ _ _ => trivial⟩
  intro w9 hk9
  replace hk9 : Kept [] W4 w9 := ⟨hk9.os, hk9.tape, hk9.output, hk9.size, hk9.block⟩
  simp only [valsQ, List.map_cons, List.map_nil, Option.getD_some, Option.getD_none, List.take_succ_cons, List.take_zero, putAll, Act.put, List.setIfInBounds_toArray, List.set_cons_succ, List.set_cons_zero]
  refine wpAny_done (by kernel_rfl) ?_ _
  replace G := hide ((unhide G).step hk9)
  clear hk9
  go_wp2_with (
    first
    | (refine wpBuildZ (hdC 0 0) build27 (by rfl) (by rfl) ?_)
    | (refine wpStoreA row27 (by rfl) (.tmp 2) (.tmp 23) (by rfl) zb 0 (hdC 0 0) (by rfl) (by rfl) rfl (hdC_one _ _) ((unhide G).res.there (by simp [hdC])) ?_))
  have g4 := (unhide G).res.put (vs := (hdC 0 0)) rfl
  have nz := (unhide G).nz
  exact bodyPost_ret (res22 _ _ _ _ _ rfl rfl rfl g4) rfl ⟨rfl, (unhide G).kept.setCells _ _ (by omega)⟩

set_option maxHeartbeats 4000000 in
set_option maxRecDepth 100000 in
theorem rtake_nB (s : List Int) (ls : s.length = 64) (st ep : Int) (P5 : ∀ w, Calls Tryd.prog 41 #[aggV (u8s s), .int .i64 (5 : Nat)] w fun e w' => e = .returned (.int .i64 st) ∧ Kept [] w w') (P1 : ∀ w, Calls Tryd.prog 41 #[aggV (u8s s), .int .i64 (1 : Nat)] w fun e w' => e = .returned (.int .i64 ep) ∧ Kept [] w w') (hz : decide (s = zs 64) = false) (P10 : ∀ w, Calls Tryd.prog 10 #[aggV (hdC st ep)] w fun e w' => e = .returned (.bool true) ∧ Kept [] w w') (X : List Int) (lX : X.length = 64) (P13 : ∀ w, Calls Tryd.prog 13 #[aggV (hdC st ep)] w fun e w' => e = .returned (aggV (u8s X)) ∧ Kept [] w w') (h0 : decide (X = s) = false) (w : World) : Calls Tryd.prog 22 #[aggV (u8s s)] w fun e w' => e = .returned (.tuple #[aggV (hdC 0 0), .int .i64 12]) ∧ Kept [] w w' := by
  have N5 := hide P5
  have N1 := hide P1
  have HZ := hide hz
  have H10 := hide P10
  clear P5 P1 hz P10
  have H13 := hide P13
  have E0 := hide h0
  clear P13 h0
  go_enter Tryd.func22, Tryd.ntmps22
  go_wp2_with (
    first
    | (refine wpBoxV rfl (.tmp 0) rfl (u8s s) rfl ?_
       intro W1 b0 e1 B1 K1
       have A0 := hide B1
       have KA := hide K1
       clear e1 B1 K1)
    | (refine wpAllocW (hdC 0 0) zero27 2 rfl rfl rfl ?_
       intro W2 zb ez BZ1 K2
       have d0 := hide ((unhide A0).kept K2 (by simp))
       have dz := hide BZ1
       have nz : Hid (w.heap.size ≤ zb) := by have := (unhide KA).size; show _ ≤ _; omega
       have dk := hide ((unhide KA).trans K2)
       clear ez BZ1 K2 A0 KA))
  refine wp_region_prefix mixed 6 1 rfl (by kernel_rfl) (tab [.is (aggV (u8s s)), .is (.int .i64 st), .is (aggV (u8s s)), .is (.int .i64 ep), .is (aggV (hdC st ep)), .new 27 (hdC 0 0) W2.heap.size]) (apartE [5]) (tab_kept _) (by kernel_rfl) ?_ ?_
  · intro j o hj ho a w2 hout hin hk
    match j, ho with
    | 0, ho =>
      obtain rfl := Option.some.inj ho
      exact wp_loadA row29 (.tmp 1) rfl b0 0 ((hout 1 (by kernel_rfl)).trans rfl) (u8s s) (u8l ls) ((unhide d0).kept hk (by simp)).range ⟨_, rfl, rfl, Kept.refl _ _, fun i u _ _ _ => apart_no (by decide) i u _⟩
    | 2, ho =>
      obtain rfl := Option.some.inj ho
      exact wp_loadA row29 (.tmp 1) rfl b0 0 ((hout 1 (by kernel_rfl)).trans rfl) (u8s s) (u8l ls) ((unhide d0).kept hk (by simp)).range ⟨_, rfl, rfl, Kept.refl _ _, fun i u _ _ _ => apart_no (by decide) i u _⟩
    | 1, ho =>
      obtain rfl := Option.some.inj ho
      have e0 : a.eval (.tmp 5) = aggV (u8s s) := hin 0 5 (by kernel_rfl) (by kernel_rfl)
      refine wp_callF 41 _ _ rfl #[aggV (u8s s), .int .i64 (5 : Nat)] (by simp [e0]; rfl) (cf41 _ _) ((unhide N5 w2).mono ?_)
      rintro e w3 ⟨rfl, hk3⟩
      exact ⟨_, rfl, _, rfl, rfl, hk3, fun i u _ _ _ => apart_no (by decide) i u _⟩
    | 3, ho =>
      obtain rfl := Option.some.inj ho
      have e0 : a.eval (.tmp 7) = aggV (u8s s) := hin 2 7 (by kernel_rfl) (by kernel_rfl)
      refine wp_callF 41 _ _ rfl #[aggV (u8s s), .int .i64 (1 : Nat)] (by simp [e0]; rfl) (cf41 _ _) ((unhide N1 w2).mono ?_)
      rintro e w3 ⟨rfl, hk3⟩
      exact ⟨_, rfl, _, rfl, rfl, hk3, fun i u _ _ _ => apart_no (by decide) i u _⟩
    | 4, ho =>
      obtain rfl := Option.some.inj ho
      have e0 : a.eval (.tmp 6) = .int .i64 st := hin 1 6 (by kernel_rfl) (by kernel_rfl)
      have e1 : a.eval (.tmp 8) = .int .i64 ep := hin 3 8 (by kernel_rfl) (by kernel_rfl)
      exact o_buildP _ rfl #[(0, .int .i64 st), (1, .int .i64 ep)] (by simp [e0, e1]) _ (build27p _ _ _) ⟨_, rfl, rfl, Kept.refl _ _, fun i u _ _ _ => apart_no (by decide) i u _⟩
    | 5, ho =>
      obtain rfl := Option.some.inj ho
      exact wp_allocA (hdC 0 0) zero27 rfl ⟨_, rfl, ⟨_, rfl, hk.size, Blk.new' rfl⟩, (Kept.refl _ _).alloc _, fun i u _ _ h => apart_new (by simp) i 5 u h⟩
    | n + 6, ho => exact absurd hj (by omega)
  intro vs w3 hlen hF hE hk
  obtain ⟨x0, x1, x2, x3, x4, x5, rfl⟩ := vs6 hlen
  obtain rfl : x0 = aggV (u8s s) := hF 0 _ rfl
  obtain rfl : x1 = .int .i64 st := hF 1 _ rfl
  obtain rfl : x2 = aggV (u8s s) := hF 2 _ rfl
  obtain rfl : x3 = .int .i64 ep := hF 3 _ rfl
  obtain rfl : x4 = aggV (hdC st ep) := hF 4 _ rfl
  obtain ⟨q, rfl, hq, hbq⟩ : ∃ q, x5 = P0 q ∧ W2.heap.size ≤ q ∧ Blk w3 q 27 (hdC 0 0) := hF 5 _ rfl
  simp only [List.take_succ_cons, List.take_zero, putAll, Act.put, List.setIfInBounds_toArray, List.set_cons_succ, List.set_cons_zero]
  refine wpAny_all (rs := [6]) (by kernel_rfl) (by simp) ?_
  intro i hi
  obtain rfl : i = 6 := by simpa using hi
  refine wpOp_of rfl rfl (wp_storeN row27 (.tmp 4) (.tmp 9) rfl rfl q 0 (hdC st ep) rfl rfl rfl (hdC_one _ _) (hbq.there (by simp [hdC])) ?_)
  refine wpAny_done (by kernel_rfl) ?_ _
  have G : Hid (Fw w (w3.setCells q 0 (hdC st ep)) b0 zb q s st ep) := by
    have y0 := (unhide d0).lt
    have y2 := (unhide dz).lt
    have y3 := unhide nz
    have y4 := (unhide dk).size
    exact ⟨((unhide d0).kept hk (by simp)).other (by omega), ((unhide dz).kept hk (by simp)).other (by omega), hbq.put rfl, ((unhide dk).trans hk).setCells _ _ (by omega), y3, by omega, by omega, by omega⟩
  clear hF hE hk hbq hq d0 dz dk nz
  generalize (w3.setCells q 0 (hdC st ep)) = W4 at *
  clear hlen
  go_wp2_with (
    first
    | (refine wpLoadA row29 (by rfl) (.tmp 1) (by rfl) b0 0 (by kernel_rfl) (u8s s) (u8l ls) (unhide G).s0.range ?_)
    | (refine wpBuildZ (u8s (zs 64)) build29 (by rfl) (by rfl) ?_)
    | (refine wpEqlA 29 29 guard29 (.tmp 10) (.tmp 11) (by rfl) (by rfl) (u8s s) (u8s (zs 64)) (by kernel_rfl) (by kernel_rfl) false ((equal29 _ s (zs 64) ls (by simp [zs])).trans (by rw [unhide HZ])) ?_))
  refine wp_region_any mixed (wpAny_tq 9 rfl (by kernel_rfl) [some (aggV (hdC st ep)), some (.bool true), some (.bool false), some (.bool false), some (aggV (hdC st ep)), some (aggV (u8s X)), some (aggV (u8s s)), some (.bool true), some (.bool true)] rfl (by kernel_rfl) (by kernel_rfl) ?_ ?_)
  · intro i o' hi hsk ho a' w2 hout hin hk2
    replace hk2 : Kept [] W4 w2 := ⟨hk2.os, hk2.tape, hk2.output, hk2.size, hk2.block⟩
    match i, ho, hsk with
    | 0, ho, hsk =>
      obtain rfl := Option.some.inj ho
      exact wp_loadA row27 (.tmp 4) rfl q 0 ((hout 4 (by kernel_rfl)).trans rfl) (hdC st ep) rfl ((unhide G).step hk2).hd.range ⟨_, rfl, tq_is _ _ _ _ rfl, Kept.refl _ _, fun _ _ _ _ _ => trivial⟩
    | 1, ho, hsk =>
      obtain rfl := Option.some.inj ho
      have e0 : a'.eval (.tmp 14) = aggV (hdC st ep) := is_tq (hin 0 14 (by kernel_rfl) (by kernel_rfl)) rfl
      refine wp_callF 10 _ _ rfl #[aggV (hdC st ep)] (by simp [e0]) (cf10 _ _) ((unhide H10 w2).mono ?_)
      rintro e w3 ⟨rfl, hk3⟩
      exact ⟨_, rfl, _, rfl, tq_is _ _ _ _ rfl, hk3, fun _ _ _ _ _ => trivial⟩
    | 2, ho, hsk =>
      obtain rfl := Option.some.inj ho
      have e0 : a'.eval (.tmp 15) = .bool true := is_tq (hin 1 15 (by kernel_rfl) (by kernel_rfl)) rfl
      exact o_not (.tmp 15) rfl _ e0 ⟨_, rfl, tq_is _ _ _ _ rfl, Kept.refl _ _, fun _ _ _ _ _ => trivial⟩
    | 3, ho, hsk =>
      obtain rfl := Option.some.inj ho
      have e0 : a'.eval (.tmp 16) = .bool false := is_tq (hin 2 16 (by kernel_rfl) (by kernel_rfl)) rfl
      exact wp_move (.tmp 16) rfl _ e0 ⟨_, rfl, tq_is _ _ _ _ rfl, Kept.refl _ _, fun _ _ _ _ _ => trivial⟩
    | 4, ho, hsk =>
      obtain rfl := Option.some.inj ho
      exact wp_loadA row27 (.tmp 4) rfl q 0 ((hout 4 (by kernel_rfl)).trans rfl) (hdC st ep) rfl ((unhide G).step hk2).hd.range ⟨_, rfl, tq_is _ _ _ _ rfl, Kept.refl _ _, fun _ _ _ _ _ => trivial⟩
    | 5, ho, hsk =>
      obtain rfl := Option.some.inj ho
      have e0 : a'.eval (.tmp 18) = aggV (hdC st ep) := is_tq (hin 4 18 (by kernel_rfl) (by kernel_rfl)) rfl
      refine wp_callF 13 _ _ rfl #[aggV (hdC st ep)] (by simp [e0]) (cf13 _ _) ((unhide H13 w2).mono ?_)
      rintro e w3 ⟨rfl, hk3⟩
      exact ⟨_, rfl, _, rfl, tq_is _ _ _ _ rfl, hk3, fun _ _ _ _ _ => trivial⟩
    | 6, ho, hsk =>
      obtain rfl := Option.some.inj ho
      exact wp_loadA row29 (.tmp 1) rfl b0 0 ((hout 1 (by kernel_rfl)).trans rfl) (u8s s) (u8l ls) ((unhide G).step hk2).s0.range ⟨_, rfl, tq_is _ _ _ _ rfl, Kept.refl _ _, fun _ _ _ _ _ => trivial⟩
    | 7, ho, hsk =>
      obtain rfl := Option.some.inj ho
      have e0 : a'.eval (.tmp 19) = aggV (u8s X) := is_tq (hin 5 19 (by kernel_rfl) (by kernel_rfl)) rfl
      have e1 : a'.eval (.tmp 20) = aggV (u8s s) := is_tq (hin 6 20 (by kernel_rfl) (by kernel_rfl)) rfl
      exact o_neqA 29 29 guard29 (.tmp 19) (.tmp 20) rfl (u8s X) (u8s s) e0 e1 false ((equal29 _ X s lX ls).trans (by rw [unhide E0])) ⟨_, rfl, tq_is _ _ _ _ rfl, Kept.refl _ _, fun _ _ _ _ _ => trivial⟩
    | 8, ho, hsk =>
      obtain rfl := Option.some.inj ho
      have e0 : a'.eval (.tmp 17) = .bool false := is_tq (hin 3 17 (by kernel_rfl) (by kernel_rfl)) rfl
      have e1 : a'.eval (.tmp 21) = .bool true := is_tq (hin 7 21 (by kernel_rfl) (by kernel_rfl)) rfl
      exact o_pickOr0 (.tmp 17) (.tmp 21) rfl _ e0 e1 ⟨_, rfl, tq_is _ _ _ _ rfl, Kept.refl _ _, fun _ _ _ _ _ => trivial⟩
  intro w9 hk9
  replace hk9 : Kept [] W4 w9 := ⟨hk9.os, hk9.tape, hk9.output, hk9.size, hk9.block⟩
  simp only [valsQ, List.map_cons, List.map_nil, Option.getD_some, List.take_succ_cons, List.take_zero, putAll, Act.put, List.setIfInBounds_toArray, List.set_cons_succ, List.set_cons_zero]
  refine wpAny_done (by kernel_rfl) ?_ _
  replace G := hide ((unhide G).step hk9)
  clear hk9
  go_wp2_with (
    first
    | (refine wpBuildZ (hdC 0 0) build27 (by rfl) (by rfl) ?_)
    | (refine wpStoreA row27 (by rfl) (.tmp 2) (.tmp 23) (by rfl) zb 0 (hdC 0 0) (by rfl) (by rfl) rfl (hdC_one _ _) ((unhide G).res.there (by simp [hdC])) ?_))
  have g4 := (unhide G).res.put (vs := (hdC 0 0)) rfl
  have nz := (unhide G).nz
  exact bodyPost_ret (res22 _ _ _ _ _ rfl rfl rfl g4) rfl ⟨rfl, (unhide G).kept.setCells _ _ (by omega)⟩

set_option maxHeartbeats 4000000 in
set_option maxRecDepth 100000 in
theorem rtake_nC (s : List Int) (ls : s.length = 64) (st ep : Int) (P5 : ∀ w, Calls Tryd.prog 41 #[aggV (u8s s), .int .i64 (5 : Nat)] w fun e w' => e = .returned (.int .i64 st) ∧ Kept [] w w') (P1 : ∀ w, Calls Tryd.prog 41 #[aggV (u8s s), .int .i64 (1 : Nat)] w fun e w' => e = .returned (.int .i64 ep) ∧ Kept [] w w') (hz : decide (s = zs 64) = false) (P10 : ∀ w, Calls Tryd.prog 10 #[aggV (hdC st ep)] w fun e w' => e = .returned (.bool true) ∧ Kept [] w w') (X : List Int) (lX : X.length = 64) (P13 : ∀ w, Calls Tryd.prog 13 #[aggV (hdC st ep)] w fun e w' => e = .returned (aggV (u8s X)) ∧ Kept [] w w') (h0 : decide (X = s) = true) (w : World) : Calls Tryd.prog 22 #[aggV (u8s s)] w fun e w' => e = .returned (.tuple #[aggV (hdC st ep), .int .i64 0]) ∧ Kept [] w w' := by
  have N5 := hide P5
  have N1 := hide P1
  have HZ := hide hz
  have H10 := hide P10
  clear P5 P1 hz P10
  have H13 := hide P13
  have E0 := hide h0
  clear P13 h0
  go_enter Tryd.func22, Tryd.ntmps22
  go_wp2_with (
    first
    | (refine wpBoxV rfl (.tmp 0) rfl (u8s s) rfl ?_
       intro W1 b0 e1 B1 K1
       have A0 := hide B1
       have KA := hide K1
       clear e1 B1 K1)
    | (refine wpAllocW (hdC 0 0) zero27 2 rfl rfl rfl ?_
       intro W2 zb ez BZ1 K2
       have d0 := hide ((unhide A0).kept K2 (by simp))
       have dz := hide BZ1
       have nz : Hid (w.heap.size ≤ zb) := by have := (unhide KA).size; show _ ≤ _; omega
       have dk := hide ((unhide KA).trans K2)
       clear ez BZ1 K2 A0 KA))
  refine wp_region_prefix mixed 6 1 rfl (by kernel_rfl) (tab [.is (aggV (u8s s)), .is (.int .i64 st), .is (aggV (u8s s)), .is (.int .i64 ep), .is (aggV (hdC st ep)), .new 27 (hdC 0 0) W2.heap.size]) (apartE [5]) (tab_kept _) (by kernel_rfl) ?_ ?_
  · intro j o hj ho a w2 hout hin hk
    match j, ho with
    | 0, ho =>
      obtain rfl := Option.some.inj ho
      exact wp_loadA row29 (.tmp 1) rfl b0 0 ((hout 1 (by kernel_rfl)).trans rfl) (u8s s) (u8l ls) ((unhide d0).kept hk (by simp)).range ⟨_, rfl, rfl, Kept.refl _ _, fun i u _ _ _ => apart_no (by decide) i u _⟩
    | 2, ho =>
      obtain rfl := Option.some.inj ho
      exact wp_loadA row29 (.tmp 1) rfl b0 0 ((hout 1 (by kernel_rfl)).trans rfl) (u8s s) (u8l ls) ((unhide d0).kept hk (by simp)).range ⟨_, rfl, rfl, Kept.refl _ _, fun i u _ _ _ => apart_no (by decide) i u _⟩
    | 1, ho =>
      obtain rfl := Option.some.inj ho
      have e0 : a.eval (.tmp 5) = aggV (u8s s) := hin 0 5 (by kernel_rfl) (by kernel_rfl)
      refine wp_callF 41 _ _ rfl #[aggV (u8s s), .int .i64 (5 : Nat)] (by simp [e0]; rfl) (cf41 _ _) ((unhide N5 w2).mono ?_)
      rintro e w3 ⟨rfl, hk3⟩
      exact ⟨_, rfl, _, rfl, rfl, hk3, fun i u _ _ _ => apart_no (by decide) i u _⟩
    | 3, ho =>
      obtain rfl := Option.some.inj ho
      have e0 : a.eval (.tmp 7) = aggV (u8s s) := hin 2 7 (by kernel_rfl) (by kernel_rfl)
      refine wp_callF 41 _ _ rfl #[aggV (u8s s), .int .i64 (1 : Nat)] (by simp [e0]; rfl) (cf41 _ _) ((unhide N1 w2).mono ?_)
      rintro e w3 ⟨rfl, hk3⟩
      exact ⟨_, rfl, _, rfl, rfl, hk3, fun i u _ _ _ => apart_no (by decide) i u _⟩
    | 4, ho =>
      obtain rfl := Option.some.inj ho
      have e0 : a.eval (.tmp 6) = .int .i64 st := hin 1 6 (by kernel_rfl) (by kernel_rfl)
      have e1 : a.eval (.tmp 8) = .int .i64 ep := hin 3 8 (by kernel_rfl) (by kernel_rfl)
      exact o_buildP _ rfl #[(0, .int .i64 st), (1, .int .i64 ep)] (by simp [e0, e1]) _ (build27p _ _ _) ⟨_, rfl, rfl, Kept.refl _ _, fun i u _ _ _ => apart_no (by decide) i u _⟩
    | 5, ho =>
      obtain rfl := Option.some.inj ho
      exact wp_allocA (hdC 0 0) zero27 rfl ⟨_, rfl, ⟨_, rfl, hk.size, Blk.new' rfl⟩, (Kept.refl _ _).alloc _, fun i u _ _ h => apart_new (by simp) i 5 u h⟩
    | n + 6, ho => exact absurd hj (by omega)
  intro vs w3 hlen hF hE hk
  obtain ⟨x0, x1, x2, x3, x4, x5, rfl⟩ := vs6 hlen
  obtain rfl : x0 = aggV (u8s s) := hF 0 _ rfl
  obtain rfl : x1 = .int .i64 st := hF 1 _ rfl
  obtain rfl : x2 = aggV (u8s s) := hF 2 _ rfl
  obtain rfl : x3 = .int .i64 ep := hF 3 _ rfl
  obtain rfl : x4 = aggV (hdC st ep) := hF 4 _ rfl
  obtain ⟨q, rfl, hq, hbq⟩ : ∃ q, x5 = P0 q ∧ W2.heap.size ≤ q ∧ Blk w3 q 27 (hdC 0 0) := hF 5 _ rfl
  simp only [List.take_succ_cons, List.take_zero, putAll, Act.put, List.setIfInBounds_toArray, List.set_cons_succ, List.set_cons_zero]
  refine wpAny_all (rs := [6]) (by kernel_rfl) (by simp) ?_
  intro i hi
  obtain rfl : i = 6 := by simpa using hi
  refine wpOp_of rfl rfl (wp_storeN row27 (.tmp 4) (.tmp 9) rfl rfl q 0 (hdC st ep) rfl rfl rfl (hdC_one _ _) (hbq.there (by simp [hdC])) ?_)
  refine wpAny_done (by kernel_rfl) ?_ _
  have G : Hid (Fw w (w3.setCells q 0 (hdC st ep)) b0 zb q s st ep) := by
    have y0 := (unhide d0).lt
    have y2 := (unhide dz).lt
    have y3 := unhide nz
    have y4 := (unhide dk).size
    exact ⟨((unhide d0).kept hk (by simp)).other (by omega), ((unhide dz).kept hk (by simp)).other (by omega), hbq.put rfl, ((unhide dk).trans hk).setCells _ _ (by omega), y3, by omega, by omega, by omega⟩
  clear hF hE hk hbq hq d0 dz dk nz
  generalize (w3.setCells q 0 (hdC st ep)) = W4 at *
  clear hlen
  go_wp2_with (
    first
    | (refine wpLoadA row29 (by rfl) (.tmp 1) (by rfl) b0 0 (by kernel_rfl) (u8s s) (u8l ls) (unhide G).s0.range ?_)
    | (refine wpBuildZ (u8s (zs 64)) build29 (by rfl) (by rfl) ?_)
    | (refine wpEqlA 29 29 guard29 (.tmp 10) (.tmp 11) (by rfl) (by rfl) (u8s s) (u8s (zs 64)) (by kernel_rfl) (by kernel_rfl) false ((equal29 _ s (zs 64) ls (by simp [zs])).trans (by rw [unhide HZ])) ?_))
  refine wp_region_any mixed (wpAny_tq 9 rfl (by kernel_rfl) [some (aggV (hdC st ep)), some (.bool true), some (.bool false), some (.bool false), some (aggV (hdC st ep)), some (aggV (u8s X)), some (aggV (u8s s)), some (.bool false), some (.bool false)] rfl (by kernel_rfl) (by kernel_rfl) ?_ ?_)
  · intro i o' hi hsk ho a' w2 hout hin hk2
    replace hk2 : Kept [] W4 w2 := ⟨hk2.os, hk2.tape, hk2.output, hk2.size, hk2.block⟩
    match i, ho, hsk with
    | 0, ho, hsk =>
      obtain rfl := Option.some.inj ho
      exact wp_loadA row27 (.tmp 4) rfl q 0 ((hout 4 (by kernel_rfl)).trans rfl) (hdC st ep) rfl ((unhide G).step hk2).hd.range ⟨_, rfl, tq_is _ _ _ _ rfl, Kept.refl _ _, fun _ _ _ _ _ => trivial⟩
    | 1, ho, hsk =>
      obtain rfl := Option.some.inj ho
      have e0 : a'.eval (.tmp 14) = aggV (hdC st ep) := is_tq (hin 0 14 (by kernel_rfl) (by kernel_rfl)) rfl
      refine wp_callF 10 _ _ rfl #[aggV (hdC st ep)] (by simp [e0]) (cf10 _ _) ((unhide H10 w2).mono ?_)
      rintro e w3 ⟨rfl, hk3⟩
      exact ⟨_, rfl, _, rfl, tq_is _ _ _ _ rfl, hk3, fun _ _ _ _ _ => trivial⟩
    | 2, ho, hsk =>
      obtain rfl := Option.some.inj ho
      have e0 : a'.eval (.tmp 15) = .bool true := is_tq (hin 1 15 (by kernel_rfl) (by kernel_rfl)) rfl
      exact o_not (.tmp 15) rfl _ e0 ⟨_, rfl, tq_is _ _ _ _ rfl, Kept.refl _ _, fun _ _ _ _ _ => trivial⟩
    | 3, ho, hsk =>
      obtain rfl := Option.some.inj ho
      have e0 : a'.eval (.tmp 16) = .bool false := is_tq (hin 2 16 (by kernel_rfl) (by kernel_rfl)) rfl
      exact wp_move (.tmp 16) rfl _ e0 ⟨_, rfl, tq_is _ _ _ _ rfl, Kept.refl _ _, fun _ _ _ _ _ => trivial⟩
    | 4, ho, hsk =>
      obtain rfl := Option.some.inj ho
      exact wp_loadA row27 (.tmp 4) rfl q 0 ((hout 4 (by kernel_rfl)).trans rfl) (hdC st ep) rfl ((unhide G).step hk2).hd.range ⟨_, rfl, tq_is _ _ _ _ rfl, Kept.refl _ _, fun _ _ _ _ _ => trivial⟩
    | 5, ho, hsk =>
      obtain rfl := Option.some.inj ho
      have e0 : a'.eval (.tmp 18) = aggV (hdC st ep) := is_tq (hin 4 18 (by kernel_rfl) (by kernel_rfl)) rfl
      refine wp_callF 13 _ _ rfl #[aggV (hdC st ep)] (by simp [e0]) (cf13 _ _) ((unhide H13 w2).mono ?_)
      rintro e w3 ⟨rfl, hk3⟩
      exact ⟨_, rfl, _, rfl, tq_is _ _ _ _ rfl, hk3, fun _ _ _ _ _ => trivial⟩
    | 6, ho, hsk =>
      obtain rfl := Option.some.inj ho
      exact wp_loadA row29 (.tmp 1) rfl b0 0 ((hout 1 (by kernel_rfl)).trans rfl) (u8s s) (u8l ls) ((unhide G).step hk2).s0.range ⟨_, rfl, tq_is _ _ _ _ rfl, Kept.refl _ _, fun _ _ _ _ _ => trivial⟩
    | 7, ho, hsk =>
      obtain rfl := Option.some.inj ho
      have e0 : a'.eval (.tmp 19) = aggV (u8s X) := is_tq (hin 5 19 (by kernel_rfl) (by kernel_rfl)) rfl
      have e1 : a'.eval (.tmp 20) = aggV (u8s s) := is_tq (hin 6 20 (by kernel_rfl) (by kernel_rfl)) rfl
      exact o_neqA 29 29 guard29 (.tmp 19) (.tmp 20) rfl (u8s X) (u8s s) e0 e1 true ((equal29 _ X s lX ls).trans (by rw [unhide E0])) ⟨_, rfl, tq_is _ _ _ _ rfl, Kept.refl _ _, fun _ _ _ _ _ => trivial⟩
    | 8, ho, hsk =>
      obtain rfl := Option.some.inj ho
      have e0 : a'.eval (.tmp 17) = .bool false := is_tq (hin 3 17 (by kernel_rfl) (by kernel_rfl)) rfl
      have e1 : a'.eval (.tmp 21) = .bool false := is_tq (hin 7 21 (by kernel_rfl) (by kernel_rfl)) rfl
      exact o_pickOr0 (.tmp 17) (.tmp 21) rfl _ e0 e1 ⟨_, rfl, tq_is _ _ _ _ rfl, Kept.refl _ _, fun _ _ _ _ _ => trivial⟩
  intro w9 hk9
  replace hk9 : Kept [] W4 w9 := ⟨hk9.os, hk9.tape, hk9.output, hk9.size, hk9.block⟩
  simp only [valsQ, List.map_cons, List.map_nil, Option.getD_some, List.take_succ_cons, List.take_zero, putAll, Act.put, List.setIfInBounds_toArray, List.set_cons_succ, List.set_cons_zero]
  refine wpAny_done (by kernel_rfl) ?_ _
  replace G := hide ((unhide G).step hk9)
  clear hk9
  go_wp2_with (
    first
    | (refine wpLoadA row27 (by rfl) (.tmp 4) (by rfl) q 0 (by kernel_rfl) (hdC st ep) rfl (unhide G).hd.range ?_)
    | (refine wpStoreA row27 (by rfl) (.tmp 2) (.tmp 24) (by rfl) zb 0 (hdC st ep) (by rfl) (by rfl) rfl (hdC_one _ _) ((unhide G).res.there (by simp [hdC])) ?_))
  have g4 := (unhide G).res.put (vs := (hdC st ep)) rfl
  have nz := (unhide G).nz
  exact bodyPost_ret (res22 _ _ _ _ _ rfl rfl rfl g4) rfl ⟨rfl, (unhide G).kept.setCells _ _ (by omega)⟩

set_option maxHeartbeats 4000000 in
set_option maxRecDepth 100000 in
theorem rtake_zC (s : List Int) (ls : s.length = 64) (st ep : Int) (P5 : ∀ w, Calls Tryd.prog 41 #[aggV (u8s s), .int .i64 (5 : Nat)] w fun e w' => e = .returned (.int .i64 st) ∧ Kept [] w w') (P1 : ∀ w, Calls Tryd.prog 41 #[aggV (u8s s), .int .i64 (1 : Nat)] w fun e w' => e = .returned (.int .i64 ep) ∧ Kept [] w w') (hz : decide (s = zs 64) = true) (P10 : ∀ w, Calls Tryd.prog 10 #[aggV (hdC 1 ep)] w fun e w' => e = .returned (.bool true) ∧ Kept [] w w') (X : List Int) (lX : X.length = 64) (P13 : ∀ w, Calls Tryd.prog 13 #[aggV (hdC 1 ep)] w fun e w' => e = .returned (aggV (u8s X)) ∧ Kept [] w w') (h0 : decide (X = s) = true) (w : World) : Calls Tryd.prog 22 #[aggV (u8s s)] w fun e w' => e = .returned (.tuple #[aggV (hdC 1 ep), .int .i64 0]) ∧ Kept [] w w' := by
  have N5 := hide P5
  have N1 := hide P1
  have HZ := hide hz
  have H10 := hide P10
  clear P5 P1 hz P10
  have H13 := hide P13
  have E0 := hide h0
  clear P13 h0
  go_enter Tryd.func22, Tryd.ntmps22
  go_wp2_with (
    first
    | (refine wpBoxV rfl (.tmp 0) rfl (u8s s) rfl ?_
       intro W1 b0 e1 B1 K1
       have A0 := hide B1
       have KA := hide K1
       clear e1 B1 K1)
    | (refine wpAllocW (hdC 0 0) zero27 2 rfl rfl rfl ?_
       intro W2 zb ez BZ1 K2
       have d0 := hide ((unhide A0).kept K2 (by simp))
       have dz := hide BZ1
       have nz : Hid (w.heap.size ≤ zb) := by have := (unhide KA).size; show _ ≤ _; omega
       have dk := hide ((unhide KA).trans K2)
       clear ez BZ1 K2 A0 KA))
  refine wp_region_prefix mixed 6 1 rfl (by kernel_rfl) (tab [.is (aggV (u8s s)), .is (.int .i64 st), .is (aggV (u8s s)), .is (.int .i64 ep), .is (aggV (hdC st ep)), .new 27 (hdC 0 0) W2.heap.size]) (apartE [5]) (tab_kept _) (by kernel_rfl) ?_ ?_
  · intro j o hj ho a w2 hout hin hk
    match j, ho with
    | 0, ho =>
      obtain rfl := Option.some.inj ho
      exact wp_loadA row29 (.tmp 1) rfl b0 0 ((hout 1 (by kernel_rfl)).trans rfl) (u8s s) (u8l ls) ((unhide d0).kept hk (by simp)).range ⟨_, rfl, rfl, Kept.refl _ _, fun i u _ _ _ => apart_no (by decide) i u _⟩
    | 2, ho =>
      obtain rfl := Option.some.inj ho
      exact wp_loadA row29 (.tmp 1) rfl b0 0 ((hout 1 (by kernel_rfl)).trans rfl) (u8s s) (u8l ls) ((unhide d0).kept hk (by simp)).range ⟨_, rfl, rfl, Kept.refl _ _, fun i u _ _ _ => apart_no (by decide) i u _⟩
    | 1, ho =>
      obtain rfl := Option.some.inj ho
      have e0 : a.eval (.tmp 5) = aggV (u8s s) := hin 0 5 (by kernel_rfl) (by kernel_rfl)
      refine wp_callF 41 _ _ rfl #[aggV (u8s s), .int .i64 (5 : Nat)] (by simp [e0]; rfl) (cf41 _ _) ((unhide N5 w2).mono ?_)
      rintro e w3 ⟨rfl, hk3⟩
      exact ⟨_, rfl, _, rfl, rfl, hk3, fun i u _ _ _ => apart_no (by decide) i u _⟩
    | 3, ho =>
      obtain rfl := Option.some.inj ho
      have e0 : a.eval (.tmp 7) = aggV (u8s s) := hin 2 7 (by kernel_rfl) (by kernel_rfl)
      refine wp_callF 41 _ _ rfl #[aggV (u8s s), .int .i64 (1 : Nat)] (by simp [e0]; rfl) (cf41 _ _) ((unhide N1 w2).mono ?_)
      rintro e w3 ⟨rfl, hk3⟩
      exact ⟨_, rfl, _, rfl, rfl, hk3, fun i u _ _ _ => apart_no (by decide) i u _⟩
    | 4, ho =>
      obtain rfl := Option.some.inj ho
      have e0 : a.eval (.tmp 6) = .int .i64 st := hin 1 6 (by kernel_rfl) (by kernel_rfl)
      have e1 : a.eval (.tmp 8) = .int .i64 ep := hin 3 8 (by kernel_rfl) (by kernel_rfl)
      exact o_buildP _ rfl #[(0, .int .i64 st), (1, .int .i64 ep)] (by simp [e0, e1]) _ (build27p _ _ _) ⟨_, rfl, rfl, Kept.refl _ _, fun i u _ _ _ => apart_no (by decide) i u _⟩
    | 5, ho =>
      obtain rfl := Option.some.inj ho
      exact wp_allocA (hdC 0 0) zero27 rfl ⟨_, rfl, ⟨_, rfl, hk.size, Blk.new' rfl⟩, (Kept.refl _ _).alloc _, fun i u _ _ h => apart_new (by simp) i 5 u h⟩
    | n + 6, ho => exact absurd hj (by omega)
  intro vs w3 hlen hF hE hk
  obtain ⟨x0, x1, x2, x3, x4, x5, rfl⟩ := vs6 hlen
  obtain rfl : x0 = aggV (u8s s) := hF 0 _ rfl
  obtain rfl : x1 = .int .i64 st := hF 1 _ rfl
  obtain rfl : x2 = aggV (u8s s) := hF 2 _ rfl
  obtain rfl : x3 = .int .i64 ep := hF 3 _ rfl
  obtain rfl : x4 = aggV (hdC st ep) := hF 4 _ rfl
  obtain ⟨q, rfl, hq, hbq⟩ : ∃ q, x5 = P0 q ∧ W2.heap.size ≤ q ∧ Blk w3 q 27 (hdC 0 0) := hF 5 _ rfl
  simp only [List.take_succ_cons, List.take_zero, putAll, Act.put, List.setIfInBounds_toArray, List.set_cons_succ, List.set_cons_zero]
  refine wpAny_all (rs := [6]) (by kernel_rfl) (by simp) ?_
  intro i hi
  obtain rfl : i = 6 := by simpa using hi
  refine wpOp_of rfl rfl (wp_storeN row27 (.tmp 4) (.tmp 9) rfl rfl q 0 (hdC st ep) rfl rfl rfl (hdC_one _ _) (hbq.there (by simp [hdC])) ?_)
  refine wpAny_done (by kernel_rfl) ?_ _
  have G : Hid (Fw w (w3.setCells q 0 (hdC st ep)) b0 zb q s st ep) := by
    have y0 := (unhide d0).lt
    have y2 := (unhide dz).lt
    have y3 := unhide nz
    have y4 := (unhide dk).size
    exact ⟨((unhide d0).kept hk (by simp)).other (by omega), ((unhide dz).kept hk (by simp)).other (by omega), hbq.put rfl, ((unhide dk).trans hk).setCells _ _ (by omega), y3, by omega, by omega, by omega⟩
  clear hF hE hk hbq hq d0 dz dk nz
  generalize (w3.setCells q 0 (hdC st ep)) = W4 at *
  clear hlen
  go_wp2_with (
    first
    | (refine wpLoadA row29 (by rfl) (.tmp 1) (by rfl) b0 0 (by kernel_rfl) (u8s s) (u8l ls) (unhide G).s0.range ?_)
    | (refine wpBuildZ (u8s (zs 64)) build29 (by rfl) (by rfl) ?_)
    | (refine wpEqlA 29 29 guard29 (.tmp 10) (.tmp 11) (by rfl) (by rfl) (u8s s) (u8s (zs 64)) (by kernel_rfl) (by kernel_rfl) true ((equal29 _ s (zs 64) ls (by simp [zs])).trans (by rw [unhide HZ])) ?_)
    | (refine wpStore1 size2 (by rfl) (.tmp 13) (.const (.int .i64 1)) (by rfl) (by rfl) q 0 .i64 1 27 (hdC st ep) (by kernel_rfl) (by kernel_rfl) (unhide G).hd (by kernel_rfl) ?_
       intro W5 B5 K5
       have G5 : Hid (Fw w W5 b0 zb q s 1 ep) := (unhide G).set B5 K5
       clear B5 K5 G))
  have G := G5
  clear G5
  refine wp_region_any mixed (wpAny_tq 9 rfl (by kernel_rfl) [some (aggV (hdC 1 ep)), some (.bool true), some (.bool false), some (.bool false), some (aggV (hdC 1 ep)), some (aggV (u8s X)), some (aggV (u8s s)), some (.bool false), some (.bool false)] rfl (by kernel_rfl) (by kernel_rfl) ?_ ?_)
  · intro i o' hi hsk ho a' w2 hout hin hk2
    replace hk2 : Kept [] W5 w2 := ⟨hk2.os, hk2.tape, hk2.output, hk2.size, hk2.block⟩
    match i, ho, hsk with
    | 0, ho, hsk =>
      obtain rfl := Option.some.inj ho
      exact wp_loadA row27 (.tmp 4) rfl q 0 ((hout 4 (by kernel_rfl)).trans rfl) (hdC 1 ep) rfl ((unhide G).step hk2).hd.range ⟨_, rfl, tq_is _ _ _ _ rfl, Kept.refl _ _, fun _ _ _ _ _ => trivial⟩
    | 1, ho, hsk =>
      obtain rfl := Option.some.inj ho
      have e0 : a'.eval (.tmp 14) = aggV (hdC 1 ep) := is_tq (hin 0 14 (by kernel_rfl) (by kernel_rfl)) rfl
      refine wp_callF 10 _ _ rfl #[aggV (hdC 1 ep)] (by simp [e0]) (cf10 _ _) ((unhide H10 w2).mono ?_)
      rintro e w3 ⟨rfl, hk3⟩
      exact ⟨_, rfl, _, rfl, tq_is _ _ _ _ rfl, hk3, fun _ _ _ _ _ => trivial⟩
    | 2, ho, hsk =>
      obtain rfl := Option.some.inj ho
      have e0 : a'.eval (.tmp 15) = .bool true := is_tq (hin 1 15 (by kernel_rfl) (by kernel_rfl)) rfl
      exact o_not (.tmp 15) rfl _ e0 ⟨_, rfl, tq_is _ _ _ _ rfl, Kept.refl _ _, fun _ _ _ _ _ => trivial⟩
    | 3, ho, hsk =>
      obtain rfl := Option.some.inj ho
      have e0 : a'.eval (.tmp 16) = .bool false := is_tq (hin 2 16 (by kernel_rfl) (by kernel_rfl)) rfl
      exact wp_move (.tmp 16) rfl _ e0 ⟨_, rfl, tq_is _ _ _ _ rfl, Kept.refl _ _, fun _ _ _ _ _ => trivial⟩
    | 4, ho, hsk =>
      obtain rfl := Option.some.inj ho
      exact wp_loadA row27 (.tmp 4) rfl q 0 ((hout 4 (by kernel_rfl)).trans rfl) (hdC 1 ep) rfl ((unhide G).step hk2).hd.range ⟨_, rfl, tq_is _ _ _ _ rfl, Kept.refl _ _, fun _ _ _ _ _ => trivial⟩
    | 5, ho, hsk =>
      obtain rfl := Option.some.inj ho
      have e0 : a'.eval (.tmp 18) = aggV (hdC 1 ep) := is_tq (hin 4 18 (by kernel_rfl) (by kernel_rfl)) rfl
      refine wp_callF 13 _ _ rfl #[aggV (hdC 1 ep)] (by simp [e0]) (cf13 _ _) ((unhide H13 w2).mono ?_)
      rintro e w3 ⟨rfl, hk3⟩
      exact ⟨_, rfl, _, rfl, tq_is _ _ _ _ rfl, hk3, fun _ _ _ _ _ => trivial⟩
    | 6, ho, hsk =>
      obtain rfl := Option.some.inj ho
      exact wp_loadA row29 (.tmp 1) rfl b0 0 ((hout 1 (by kernel_rfl)).trans rfl) (u8s s) (u8l ls) ((unhide G).step hk2).s0.range ⟨_, rfl, tq_is _ _ _ _ rfl, Kept.refl _ _, fun _ _ _ _ _ => trivial⟩
    | 7, ho, hsk =>
      obtain rfl := Option.some.inj ho
      have e0 : a'.eval (.tmp 19) = aggV (u8s X) := is_tq (hin 5 19 (by kernel_rfl) (by kernel_rfl)) rfl
      have e1 : a'.eval (.tmp 20) = aggV (u8s s) := is_tq (hin 6 20 (by kernel_rfl) (by kernel_rfl)) rfl
      exact o_neqA 29 29 guard29 (.tmp 19) (.tmp 20) rfl (u8s X) (u8s s) e0 e1 true ((equal29 _ X s lX ls).trans (by rw [unhide E0])) ⟨_, rfl, tq_is _ _ _ _ rfl, Kept.refl _ _, fun _ _ _ _ _ => trivial⟩
    | 8, ho, hsk =>
      obtain rfl := Option.some.inj ho
      have e0 : a'.eval (.tmp 17) = .bool false := is_tq (hin 3 17 (by kernel_rfl) (by kernel_rfl)) rfl
      have e1 : a'.eval (.tmp 21) = .bool false := is_tq (hin 7 21 (by kernel_rfl) (by kernel_rfl)) rfl
      exact o_pickOr0 (.tmp 17) (.tmp 21) rfl _ e0 e1 ⟨_, rfl, tq_is _ _ _ _ rfl, Kept.refl _ _, fun _ _ _ _ _ => trivial⟩
  intro w9 hk9
  replace hk9 : Kept [] W5 w9 := ⟨hk9.os, hk9.tape, hk9.output, hk9.size, hk9.block⟩
  simp only [valsQ, List.map_cons, List.map_nil, Option.getD_some, List.take_succ_cons, List.take_zero, putAll, Act.put, List.setIfInBounds_toArray, List.set_cons_succ, List.set_cons_zero]
  refine wpAny_done (by kernel_rfl) ?_ _
  replace G := hide ((unhide G).step hk9)
  clear hk9
  go_wp2_with (
    first
    | (refine wpLoadA row27 (by rfl) (.tmp 4) (by rfl) q 0 (by kernel_rfl) (hdC 1 ep) rfl (unhide G).hd.range ?_)
    | (refine wpStoreA row27 (by rfl) (.tmp 2) (.tmp 24) (by rfl) zb 0 (hdC 1 ep) (by rfl) (by rfl) rfl (hdC_one _ _) ((unhide G).res.there (by simp [hdC])) ?_))
  have g4 := (unhide G).res.put (vs := (hdC 1 ep)) rfl
  have nz := (unhide G).nz
  exact bodyPost_ret (res22 _ _ _ _ _ rfl rfl rfl g4) rfl ⟨rfl, (unhide G).kept.setCells _ _ (by omega)⟩

theorem rtake22 (s : List Int) (hs : Byts 64 s) (w : World) : Calls Tryd.prog 22 #[aggV (u8s s)] w fun e w' => e = .returned (.tuple #[aggV (hdC (takeR s).1.1 (takeR s).1.2), .int .i64 (takeR s).2]) ∧ Kept [] w w' := by
  have P5 := fun w => number41 s hs 5 (by omega) w
  have P1 := fun w => number41 s hs 1 (by omega) w
  by_cases hz : s = zs 64
  · have e1 : numL s 1 4 = 0 := by rw [hz]; rfl
    have et : takeR s = ((1, 0), 0) := by rw [hz]; exact take_first
    rw [et]
    rw [e1] at P1
    have P10 := fun w => mayhead10 1 0 w
    have hm : mayH 1 0 = true := rfl
    rw [hm] at P10
    have P13 := fun w => rputh13 1 0 hm w
    have e3 : (puthR 1 0).1 = zs 64 := rfl
    rw [e3] at P13
    exact rtake_zC s hs.len _ 0 P5 P1 (by simpa using hz) P10 (zs 64) (by simp [zs]) P13 (by simpa using hz.symm) w
  · have eh : hdR s = (numL s 5 4, numL s 1 4) := by rw [hdR, if_neg hz]
    have P10 := fun w => mayhead10 (numL s 5 4) (numL s 1 4) w
    cases hm : mayH (numL s 5 4) (numL s 1 4) with
    | false =>
      rw [hm] at P10
      have h2 := hm
      simp only [mayH, Bool.or_eq_false_iff] at h2
      have e9 : puthR (numL s 5 4) (numL s 1 4) = (zs 64, 2) := by simp [puthR, h2.1, h2.2]
      have et : takeR s = ((0, 0), 12) := by simp [takeR, eh, e9]
      rw [et]
      exact rtake_nA s hs.len _ _ P5 P1 (by simpa using hz) P10 w
    | true =>
      rw [hm] at P10
      have ht := (take_laid (numL s 5 4) (numL s 1 4) (by simpa [mayH] using hm)).2
      have P13 := fun w => rputh13 _ _ hm w
      have hX := (puthR_byts (numL s 5 4) (numL s 1 4)).len
      by_cases h0 : (puthR (numL s 5 4) (numL s 1 4)).1 = s
      · have et : takeR s = ((numL s 5 4, numL s 1 4), 0) := by simp [takeR, eh, ht, h0]
        rw [et]
        exact rtake_nC s hs.len _ _ P5 P1 (by simpa using hz) P10 _ hX P13 (by simpa using h0) w
      · have et : takeR s = ((0, 0), 12) := by
          have h1 : ¬ s = (puthR (numL s 5 4) (numL s 1 4)).1 := fun h => h0 h.symm
          simp [takeR, eh, h1]
        rw [et]
        exact rtake_nB s hs.len _ _ P5 P1 (by simpa using hz) P10 _ hX P13 (by simpa using h0) w

end Go.Proofs.YtkpkiibahfdomaaDoor
