/-
  The walk of known: whatever the world, it returns true, and all that was there stays.
-/
import Derived.Test.YtffflafalffifaaKnown
namespace Go.Proofs.Ytffflafalffifaa
open Go.RowKit Go.BigFrame

/-- Where known stands: the device, sectors in boxes of its own, and what was there. -/
structure KS (w0 w : World) (b g : Nat) (Bs : List (Nat × List Int)) (D : Dev) : Prop where
  d : Dv w b g D
  k : Kept [] w0 w
  nb : w0.heap.size ≤ b
  ng : w0.heap.size ≤ g
  bx : ∀ x ∈ Bs, Box w x.1 x.2 ∧ x.1 ∉ [b, g]
theorem KS.step {w0 w w' : World} {b g : Nat} {Bs : List (Nat × List Int)} {D D' : Dev} (h : KS w0 w b g Bs D) (hd : Dv w' b g D') (hk : Kept [b, g] w w') : KS w0 w' b g Bs D' :=
  ⟨hd, h.k.fresh hk (by have := h.nb; have := h.ng; intro i hi; simp at hi; omega), h.nb, h.ng, fun x hx => ⟨(h.bx x hx).1.kept hk (h.bx x hx).2, (h.bx x hx).2⟩⟩
theorem KS.quiet {w0 w w' : World} {b g : Nat} {Bs : List (Nat × List Int)} {D : Dev} (h : KS w0 w b g Bs D) (hk : Kept [] w w') : KS w0 w' b g Bs D :=
  ⟨h.d.kept hk (by simp) (by simp), h.k.trans hk, h.nb, h.ng, fun x hx => ⟨(h.bx x hx).1.kept hk (by simp), (h.bx x hx).2⟩⟩
theorem KS.at {w0 w w2 : World} {b g : Nat} {Bs : List (Nat × List Int)} {D : Dev} (h : KS w0 w b g Bs D) (x : Nat × List Int) (hx : x ∈ Bs) (hk : Kept [b, g] w w2) : At w2 x.1 0 x.2 := ((h.bx x hx).1.kept hk (h.bx x hx).2).at
theorem KS.at0 {w0 w : World} {b g : Nat} {Bs : List (Nat × List Int)} {D : Dev} (h : KS w0 w b g Bs D) (x : Nat × List Int) (hx : x ∈ Bs) : At w x.1 0 x.2 := (h.bx x hx).1.at
theorem KS.mk0 {w w3 w7 : World} {b g p1 p2 : Nat} {D : Dev} (h1 : Box w3 p1 sS) (h2 : Box w3 p2 sT) (hk : Kept [] w w3) (hb : w3.heap.size ≤ b) (hg : w3.heap.size ≤ g) (hd : Dv w7 b g D) (k7 : Kept [] w3 w7) : KS w w7 b g [(p1, sS), (p2, sT)] D := by
  have := hk.size
  have := lt_of_block h1.2
  have := lt_of_block h2.2
  refine ⟨hd, hk.trans k7, by omega, by omega, ?_⟩
  intro x hx
  rcases List.mem_cons.1 hx with rfl | hx
  · exact ⟨h1.kept k7 (by simp), by simp; omega⟩
  · rw [List.mem_singleton.1 hx]
    exact ⟨h2.kept k7 (by simp), by simp; omega⟩
theorem KS.add {w0 w : World} {b g : Nat} {Bs : List (Nat × List Int)} {D : Dev} (h : KS w0 w b g Bs D) (s : List Int) (hs : Sec s) : KS w0 ((w.alloc (.cells (u8s nought).toArray 38)).setCells w.heap.size 0 (u8s s)) b g ((w.heap.size, s) :: Bs) D := by
  have hk : Kept [] w ((w.alloc (.cells (u8s nought).toArray 38)).setCells w.heap.size 0 (u8s s)) := ((Kept.refl _ _).alloc _).setCells _ _ (by omega)
  have hq := h.quiet hk
  have hl := h.d.lt
  refine ⟨hq.d, hq.k, hq.nb, hq.ng, ?_⟩
  intro x hx
  rcases List.mem_cons.1 hx with rfl | hx
  · exact ⟨(Box.new w).put hs, by simp; omega⟩
  · exact hq.bx x hx
theorem c_fullS (w : World) : Calls Try.prog 23 #[.int .u8 115] w fun e w' => e = .returned (secV sS) ∧ Kept [] w w' := full23 115 w (by omega)
theorem c_fullT (w : World) : Calls Try.prog 23 #[.int .u8 116] w fun e w' => e = .returned (secV sT) ∧ Kept [] w w' := full23 116 w (by omega)

set_option maxHeartbeats 4000000 in
set_option maxRecDepth 100000 in
theorem known11 (w : World) : Calls Try.prog 11 #[] w fun e w' => e = .returned (.bool true) ∧ Kept [] w w' := by
  go_enter Try.func11, Try.ntmps11
  go_wp2_with fail
  refine (c_fullS w).mono ?_
  rintro e w1 ⟨rfl, kw1⟩
  go_wp2_with fail
  refine (c_fullT w1).mono ?_
  rintro e w2 ⟨rfl, kw2⟩
  have kw := kw1.trans kw2
  have tN : Hid (((w2.alloc (.cells (u8s nought).toArray 38)).alloc (.cells (u8s nought).toArray 38)).there w2.heap.size 0 64) := (Box.at (s := nought) ⟨nought_sec, heap_alloc_old (heap_new rfl)⟩).2.2
  have bN : Hid (Box (((w2.alloc (.cells (u8s nought).toArray 38)).alloc (.cells (u8s nought).toArray 38)).setCells w2.heap.size 0 (u8s sS)) (w2.heap.size + 1) nought) := ⟨nought_sec, by rw [sets_ne _ _ _ _ (by omega)]; exact heap_new (by simp)⟩
  have hs0 : Hid (Box ((((w2.alloc (.cells (u8s nought).toArray 38)).alloc (.cells (u8s nought).toArray 38)).setCells w2.heap.size 0 (u8s sS)).setCells (w2.heap.size + 1) 0 (u8s sT)) w2.heap.size sS) := (Box.put (s := nought) ⟨nought_sec, heap_alloc_old (heap_new rfl)⟩ sS_sec).kept (X := [w2.heap.size + 1]) ((Kept.refl _ _).setCells _ _ (by simp)) (by simp)
  have ht0 : Hid (Box ((((w2.alloc (.cells (u8s nought).toArray 38)).alloc (.cells (u8s nought).toArray 38)).setCells w2.heap.size 0 (u8s sS)).setCells (w2.heap.size + 1) 0 (u8s sT)) (w2.heap.size + 1) sT) := (unhide bN).put sT_sec
  have hk0 : Hid (Kept [] w ((((w2.alloc (.cells (u8s nought).toArray 38)).alloc (.cells (u8s nought).toArray 38)).setCells w2.heap.size 0 (u8s sS)).setCells (w2.heap.size + 1) 0 (u8s sT))) := (((kw.alloc _).alloc _).setCells _ _ (by have := kw.size; omega)).setCells _ _ (by have := kw.size; omega)
  clear kw kw1 kw2
  go_wp2_with (first | (refine wpAllocN (by rfl) (by rfl) w2.heap.size (by rfl) ?_) | (refine wpAllocN (by rfl) (by rfl) (w2.heap.size + 1) (by simp) ?_) | (refine wpStoreS (by rfl) (.tmp 1) (.tmp 45) (by rfl) w2.heap.size 0 sS (by kernel_rfl) (by kernel_rfl) sS_sec ?_ ?_; · exact unhide tN) | (refine wpStoreS (by rfl) (.tmp 2) (.tmp 46) (by rfl) (w2.heap.size + 1) 0 sT (by kernel_rfl) (by kernel_rfl) sT_sec ?_ ?_; · exact (unhide bN).at.2.2))
  clear tN bN
  generalize w2.heap.size + 1 = p2 at *
  generalize w2.heap.size = p1 at *
  generalize ((((w2.alloc (.cells (u8s nought).toArray 38)).alloc (.cells (u8s nought).toArray 38)).setCells p1 0 (u8s sS)).setCells p2 0 (u8s sT)) = w3 at *
  refine (new_no 0 1 w3 rfl).mono ?_
  rintro e w4 ⟨rfl, rfl⟩
  go_wp2_with fail
  refine (new_no 4097 1 _ rfl).mono ?_
  rintro e w5 ⟨rfl, rfl⟩
  go_wp2_with fail
  refine (new_no 4 9 _ rfl).mono ?_
  rintro e w6 ⟨rfl, rfl⟩
  go_wp2_with fail
  refine (new_yes 4 2 _ rfl).mono ?_
  rintro e w7 ⟨b, g, rfl, hb, hg, hd7, kk7⟩
  have hK : Hid (KS w w7 b g [(p1, sS), (p2, sT)] k0) := KS.mk0 (unhide hs0) (unhide ht0) (unhide hk0) hb hg hd7 kk7
  clear hs0 ht0 hk0 hb hg hd7 kk7
  go_wp2_with fail
  refine (c_up0 b g _ (unhide hK).d).mono ?_
  rintro e w8 ⟨rfl, hd, hk⟩
  replace hK := hide ((unhide hK).step hd hk)
  clear hd hk
  go_wp2_with fail
  refine (c_up1 b g _ (unhide hK).d).mono ?_
  rintro e w9 ⟨rfl, hd, hk⟩
  replace hK := hide ((unhide hK).step hd hk)
  clear hd hk
  go_wp2_with fail
  refine wp_region_floatB (by kernel_rfl) [3, 7, 12, 17] (by kernel_rfl) [b, g] (tabF b g [.is (P0 b), .is (secV sS), .secs [sS], .is (.int .i64 8), .is (P0 b), .is (secV sS), .secs [sS], .is (.int .i64 2), .is (P0 b), .is (secV sS), .is (secV sT), .secs [sS, sT], .is (.int .i64 2), .is (P0 b), .is (secV sS), .is (secV sT), .secs [sS, sT], .is (.int .i64 0), .is (.int .i64 8), .is (.int .i64 2), .is (.int .i64 2), .is (.int .i64 0)]) (tabD b g [k2, k2, k2, k2, k3]) (tabF_kept b g _) (tabD_kept b g _) ⟨_, rfl, (unhide hK).d⟩ (by kernel_rfl) ?_ ?_
  · intro j o ho a w2 hout hin hk hst
    have hk2 := hk.size
    match j, ho with
    | 0, ho =>
      obtain rfl := Option.some.inj ho
      exact wp_move _ rfl ⟨_, rfl, (hout 9 (by kernel_rfl)).trans (by kernel_rfl), .inr ⟨by decide, Kept.refl _ _⟩⟩
    | 1, ho =>
      obtain rfl := Option.some.inj ho
      exact wp_loadS (.tmp 1) rfl p1 0 ((hout 1 (by kernel_rfl)).trans (by kernel_rfl)) sS sS_sec ((unhide hK).at (p1, sS) (by simp) hk).2.1 ⟨_, rfl, rfl, .inr ⟨by decide, Kept.refl _ _⟩⟩
    | 2, ho =>
      obtain rfl := Option.some.inj ho
      have e0 : a.eval (.tmp 74) = secV sS := hin 1 74 (by kernel_rfl) (by kernel_rfl)
      refine wp_secs 1 _ rfl [sS] (by simp; first | exact ⟨sS_sec⟩ | exact sS_sec) rfl (by omega) (by omega) ?_ ⟨_, rfl, ⟨_, _, rfl, secs_new w2 [sS] (by simp; first | exact ⟨sS_sec⟩ | exact sS_sec), away_new (unhide hK).d.lt hk2 0⟩, .inr ⟨by decide, (Kept.refl _ _).alloc _⟩⟩
      simp [e0]
    | 3, ho =>
      obtain rfl := Option.some.inj ho
      have e0 : a.eval (.tmp 73) = P0 b := hin 0 73 (by kernel_rfl) (by kernel_rfl)
      obtain ⟨ao, c, e1, hs, ha⟩ : ∃ ao c, a.eval (.tmp 75) = .slice ao 1 c ∧ Secs w2 ao 1 c [sS] ∧ Away ao [b, g] := hin 2 75 (by kernel_rfl) (by kernel_rfl)
      obtain ⟨D, eD, hd⟩ := hst 0 rfl
      obtain rfl := Option.some.inj eD
      refine wp_callF 22 _ _ rfl #[P0 b, .int .i64 0, .int .i64 1, .int .i64 0, .slice ao 1 c] ?_ (cf22 _ _) ((c_w1 b g ao c w2 hd hs ha).mono ?_)
      · simp [e0, e1, eval_const]
      · rintro e w3 ⟨rfl, hd3, hk3⟩
        exact ⟨_, rfl, _, rfl, rfl, .inl ⟨0, rfl, ⟨_, rfl, hd3⟩, hk3⟩⟩
    | 4, ho =>
      obtain rfl := Option.some.inj ho
      exact wp_move _ rfl ⟨_, rfl, (hout 9 (by kernel_rfl)).trans (by kernel_rfl), .inr ⟨by decide, Kept.refl _ _⟩⟩
    | 5, ho =>
      obtain rfl := Option.some.inj ho
      exact wp_loadS (.tmp 1) rfl p1 0 ((hout 1 (by kernel_rfl)).trans (by kernel_rfl)) sS sS_sec ((unhide hK).at (p1, sS) (by simp) hk).2.1 ⟨_, rfl, rfl, .inr ⟨by decide, Kept.refl _ _⟩⟩
    | 6, ho =>
      obtain rfl := Option.some.inj ho
      have e0 : a.eval (.tmp 78) = secV sS := hin 5 78 (by kernel_rfl) (by kernel_rfl)
      refine wp_secs 1 _ rfl [sS] (by simp; first | exact ⟨sS_sec⟩ | exact sS_sec) rfl (by omega) (by omega) ?_ ⟨_, rfl, ⟨_, _, rfl, secs_new w2 [sS] (by simp; first | exact ⟨sS_sec⟩ | exact sS_sec), away_new (unhide hK).d.lt hk2 0⟩, .inr ⟨by decide, (Kept.refl _ _).alloc _⟩⟩
      simp [e0]
    | 7, ho =>
      obtain rfl := Option.some.inj ho
      have e0 : a.eval (.tmp 77) = P0 b := hin 4 77 (by kernel_rfl) (by kernel_rfl)
      obtain ⟨ao, c, e1, hs, ha⟩ : ∃ ao c, a.eval (.tmp 79) = .slice ao 1 c ∧ Secs w2 ao 1 c [sS] ∧ Away ao [b, g] := hin 6 79 (by kernel_rfl) (by kernel_rfl)
      obtain ⟨D, eD, hd⟩ := hst 1 rfl
      obtain rfl := Option.some.inj eD
      refine wp_callF 22 _ _ rfl #[P0 b, .int .i64 0, .int .i64 3, .int .i64 0, .slice ao 1 c] ?_ (cf22 _ _) ((c_w2 b g ao c w2 hd hs ha).mono ?_)
      · simp [e0, e1, eval_const]
      · rintro e w3 ⟨rfl, hd3, hk3⟩
        exact ⟨_, rfl, _, rfl, rfl, .inl ⟨1, rfl, ⟨_, rfl, hd3⟩, hk3⟩⟩
    | 8, ho =>
      obtain rfl := Option.some.inj ho
      exact wp_move _ rfl ⟨_, rfl, (hout 9 (by kernel_rfl)).trans (by kernel_rfl), .inr ⟨by decide, Kept.refl _ _⟩⟩
    | 9, ho =>
      obtain rfl := Option.some.inj ho
      exact wp_loadS (.tmp 1) rfl p1 0 ((hout 1 (by kernel_rfl)).trans (by kernel_rfl)) sS sS_sec ((unhide hK).at (p1, sS) (by simp) hk).2.1 ⟨_, rfl, rfl, .inr ⟨by decide, Kept.refl _ _⟩⟩
    | 10, ho =>
      obtain rfl := Option.some.inj ho
      exact wp_loadS (.tmp 2) rfl p2 0 ((hout 2 (by kernel_rfl)).trans (by kernel_rfl)) sT sT_sec ((unhide hK).at (p2, sT) (by simp) hk).2.1 ⟨_, rfl, rfl, .inr ⟨by decide, Kept.refl _ _⟩⟩
    | 11, ho =>
      obtain rfl := Option.some.inj ho
      have e0 : a.eval (.tmp 82) = secV sS := hin 9 82 (by kernel_rfl) (by kernel_rfl)
      have e1 : a.eval (.tmp 83) = secV sT := hin 10 83 (by kernel_rfl) (by kernel_rfl)
      refine wp_secs 2 _ rfl [sS, sT] (by simp; first | exact ⟨sS_sec, sT_sec⟩ | exact sS_sec) rfl (by omega) (by omega) ?_ ⟨_, rfl, ⟨_, _, rfl, secs_new w2 [sS, sT] (by simp; first | exact ⟨sS_sec, sT_sec⟩ | exact sS_sec), away_new (unhide hK).d.lt hk2 0⟩, .inr ⟨by decide, (Kept.refl _ _).alloc _⟩⟩
      simp [e0, e1]
    | 12, ho =>
      obtain rfl := Option.some.inj ho
      have e0 : a.eval (.tmp 81) = P0 b := hin 8 81 (by kernel_rfl) (by kernel_rfl)
      obtain ⟨ao, c, e1, hs, ha⟩ : ∃ ao c, a.eval (.tmp 84) = .slice ao 2 c ∧ Secs w2 ao 2 c [sS, sT] ∧ Away ao [b, g] := hin 11 84 (by kernel_rfl) (by kernel_rfl)
      obtain ⟨D, eD, hd⟩ := hst 2 rfl
      obtain rfl := Option.some.inj eD
      refine wp_callF 22 _ _ rfl #[P0 b, .int .i64 0, .int .i64 2, .int .i64 3, .slice ao 2 c] ?_ (cf22 _ _) ((c_w3 b g ao c w2 hd hs ha).mono ?_)
      · simp [e0, e1, eval_const]
      · rintro e w3 ⟨rfl, hd3, hk3⟩
        exact ⟨_, rfl, _, rfl, rfl, .inl ⟨2, rfl, ⟨_, rfl, hd3⟩, hk3⟩⟩
    | 13, ho =>
      obtain rfl := Option.some.inj ho
      exact wp_move _ rfl ⟨_, rfl, (hout 9 (by kernel_rfl)).trans (by kernel_rfl), .inr ⟨by decide, Kept.refl _ _⟩⟩
    | 14, ho =>
      obtain rfl := Option.some.inj ho
      exact wp_loadS (.tmp 1) rfl p1 0 ((hout 1 (by kernel_rfl)).trans (by kernel_rfl)) sS sS_sec ((unhide hK).at (p1, sS) (by simp) hk).2.1 ⟨_, rfl, rfl, .inr ⟨by decide, Kept.refl _ _⟩⟩
    | 15, ho =>
      obtain rfl := Option.some.inj ho
      exact wp_loadS (.tmp 2) rfl p2 0 ((hout 2 (by kernel_rfl)).trans (by kernel_rfl)) sT sT_sec ((unhide hK).at (p2, sT) (by simp) hk).2.1 ⟨_, rfl, rfl, .inr ⟨by decide, Kept.refl _ _⟩⟩
    | 16, ho =>
      obtain rfl := Option.some.inj ho
      have e0 : a.eval (.tmp 87) = secV sS := hin 14 87 (by kernel_rfl) (by kernel_rfl)
      have e1 : a.eval (.tmp 88) = secV sT := hin 15 88 (by kernel_rfl) (by kernel_rfl)
      refine wp_secs 2 _ rfl [sS, sT] (by simp; first | exact ⟨sS_sec, sT_sec⟩ | exact sS_sec) rfl (by omega) (by omega) ?_ ⟨_, rfl, ⟨_, _, rfl, secs_new w2 [sS, sT] (by simp; first | exact ⟨sS_sec, sT_sec⟩ | exact sS_sec), away_new (unhide hK).d.lt hk2 0⟩, .inr ⟨by decide, (Kept.refl _ _).alloc _⟩⟩
      simp [e0, e1]
    | 17, ho =>
      obtain rfl := Option.some.inj ho
      have e0 : a.eval (.tmp 86) = P0 b := hin 13 86 (by kernel_rfl) (by kernel_rfl)
      obtain ⟨ao, c, e1, hs, ha⟩ : ∃ ao c, a.eval (.tmp 89) = .slice ao 2 c ∧ Secs w2 ao 2 c [sS, sT] ∧ Away ao [b, g] := hin 16 89 (by kernel_rfl) (by kernel_rfl)
      obtain ⟨D, eD, hd⟩ := hst 3 rfl
      obtain rfl := Option.some.inj eD
      refine wp_callF 22 _ _ rfl #[P0 b, .int .i64 0, .int .i64 2, .int .i64 2, .slice ao 2 c] ?_ (cf22 _ _) ((c_w4 b g ao c w2 hd hs ha).mono ?_)
      · simp [e0, e1, eval_const]
      · rintro e w3 ⟨rfl, hd3, hk3⟩
        exact ⟨_, rfl, _, rfl, rfl, .inl ⟨3, rfl, ⟨_, rfl, hd3⟩, hk3⟩⟩
    | 18, ho =>
      obtain rfl := Option.some.inj ho
      exact wp_assign _ rfl ⟨_, rfl, hin 3 76 (by kernel_rfl) (by kernel_rfl), .inr ⟨by decide, Kept.refl _ _⟩⟩
    | 19, ho =>
      obtain rfl := Option.some.inj ho
      exact wp_assign _ rfl ⟨_, rfl, hin 7 80 (by kernel_rfl) (by kernel_rfl), .inr ⟨by decide, Kept.refl _ _⟩⟩
    | 20, ho =>
      obtain rfl := Option.some.inj ho
      exact wp_assign _ rfl ⟨_, rfl, hin 12 85 (by kernel_rfl) (by kernel_rfl), .inr ⟨by decide, Kept.refl _ _⟩⟩
    | 21, ho =>
      obtain rfl := Option.some.inj ho
      exact wp_assign _ rfl ⟨_, rfl, hin 17 90 (by kernel_rfl) (by kernel_rfl), .inr ⟨by decide, Kept.refl _ _⟩⟩
    | n + 22, ho => exact absurd (Array.getElem?_eq_some_iff.1 ho).1 (by show ¬ n + 22 < 22; omega)
  · intro vs w2 hl hF hst hk
    match vs, hl with
    | [v0, v1, v2, v3, v4, v5, v6, v7, v8, v9, v10, v11, v12, v13, v14, v15, v16, v17, v18, v19, v20, v21], _ =>
      obtain rfl : v0 = _ := hF 0 _ rfl
      obtain rfl : v1 = _ := hF 1 _ rfl
      obtain rfl : v3 = _ := hF 3 _ rfl
      obtain rfl : v4 = _ := hF 4 _ rfl
      obtain rfl : v5 = _ := hF 5 _ rfl
      obtain rfl : v7 = _ := hF 7 _ rfl
      obtain rfl : v8 = _ := hF 8 _ rfl
      obtain rfl : v9 = _ := hF 9 _ rfl
      obtain rfl : v10 = _ := hF 10 _ rfl
      obtain rfl : v12 = _ := hF 12 _ rfl
      obtain rfl : v13 = _ := hF 13 _ rfl
      obtain rfl : v14 = _ := hF 14 _ rfl
      obtain rfl : v15 = _ := hF 15 _ rfl
      obtain rfl : v17 = _ := hF 17 _ rfl
      obtain rfl : v18 = _ := hF 18 _ rfl
      obtain rfl : v19 = _ := hF 19 _ rfl
      obtain rfl : v20 = _ := hF 20 _ rfl
      obtain rfl : v21 = _ := hF 21 _ rfl
      obtain ⟨D, eD, hd⟩ := hst
      obtain rfl := Option.some.inj eD
      replace hK := hide ((unhide hK).step hd hk)
      clear hd hk hF
      simp only [putAll]
      go_wp2_with fail
      refine wp_region_floatB (by kernel_rfl) [1, 6] (by kernel_rfl) [b, g] (tabF b g [.is (P0 b), .is (.int .i64 0), .is (P0 b), .is (secV sT), .is (secV sT), .secs [sT, sT], .is (.int .i64 0), .is (.int .i64 0), .is (.int .i64 0)]) (tabD b g [k3, k4, k5]) (tabF_kept b g _) (tabD_kept b g _) ⟨_, rfl, (unhide hK).d⟩ (by kernel_rfl) ?_ ?_
      · intro j o ho a w2 hout hin hk hst
        have hk2 := hk.size
        match j, ho with
        | 0, ho =>
          obtain rfl := Option.some.inj ho
          exact wp_move _ rfl ⟨_, rfl, (hout 9 (by kernel_rfl)).trans (by kernel_rfl), .inr ⟨by decide, Kept.refl _ _⟩⟩
        | 1, ho =>
          obtain rfl := Option.some.inj ho
          have e0 : a.eval (.tmp 91) = P0 b := hin 0 91 (by kernel_rfl) (by kernel_rfl)
          obtain ⟨D, eD, hd⟩ := hst 0 rfl
          obtain rfl := Option.some.inj eD
          refine wp_callF 25 _ _ rfl #[P0 b, .int .i64 1] ?_ (cf25 _ _) ((c_cut b g w2 hd).mono ?_)
          · simp [e0, eval_const]
          · rintro e w3 ⟨rfl, hd3, hk3⟩
            exact ⟨_, rfl, _, rfl, rfl, .inl ⟨0, rfl, ⟨_, rfl, hd3⟩, hk3⟩⟩
        | 2, ho =>
          obtain rfl := Option.some.inj ho
          exact wp_move _ rfl ⟨_, rfl, (hout 9 (by kernel_rfl)).trans (by kernel_rfl), .inr ⟨by decide, Kept.refl _ _⟩⟩
        | 3, ho =>
          obtain rfl := Option.some.inj ho
          exact wp_loadS (.tmp 2) rfl p2 0 ((hout 2 (by kernel_rfl)).trans (by kernel_rfl)) sT sT_sec ((unhide hK).at (p2, sT) (by simp) hk).2.1 ⟨_, rfl, rfl, .inr ⟨by decide, Kept.refl _ _⟩⟩
        | 4, ho =>
          obtain rfl := Option.some.inj ho
          exact wp_loadS (.tmp 2) rfl p2 0 ((hout 2 (by kernel_rfl)).trans (by kernel_rfl)) sT sT_sec ((unhide hK).at (p2, sT) (by simp) hk).2.1 ⟨_, rfl, rfl, .inr ⟨by decide, Kept.refl _ _⟩⟩
        | 5, ho =>
          obtain rfl := Option.some.inj ho
          have e0 : a.eval (.tmp 94) = secV sT := hin 3 94 (by kernel_rfl) (by kernel_rfl)
          have e1 : a.eval (.tmp 95) = secV sT := hin 4 95 (by kernel_rfl) (by kernel_rfl)
          refine wp_secs 2 _ rfl [sT, sT] (by simp; first | exact ⟨sT_sec, sT_sec⟩ | exact sT_sec) rfl (by omega) (by omega) ?_ ⟨_, rfl, ⟨_, _, rfl, secs_new w2 [sT, sT] (by simp; first | exact ⟨sT_sec, sT_sec⟩ | exact sT_sec), away_new (unhide hK).d.lt hk2 0⟩, .inr ⟨by decide, (Kept.refl _ _).alloc _⟩⟩
          simp [e0, e1]
        | 6, ho =>
          obtain rfl := Option.some.inj ho
          have e0 : a.eval (.tmp 93) = P0 b := hin 2 93 (by kernel_rfl) (by kernel_rfl)
          obtain ⟨ao, c, e1, hs, ha⟩ : ∃ ao c, a.eval (.tmp 96) = .slice ao 2 c ∧ Secs w2 ao 2 c [sT, sT] ∧ Away ao [b, g] := hin 5 96 (by kernel_rfl) (by kernel_rfl)
          obtain ⟨D, eD, hd⟩ := hst 1 rfl
          obtain rfl := Option.some.inj eD
          refine wp_callF 22 _ _ rfl #[P0 b, .int .i64 0, .int .i64 2, .int .i64 0, .slice ao 2 c] ?_ (cf22 _ _) ((c_w5 b g ao c w2 hd hs ha).mono ?_)
          · simp [e0, e1, eval_const]
          · rintro e w3 ⟨rfl, hd3, hk3⟩
            exact ⟨_, rfl, _, rfl, rfl, .inl ⟨1, rfl, ⟨_, rfl, hd3⟩, hk3⟩⟩
        | 7, ho =>
          obtain rfl := Option.some.inj ho
          exact wp_assign _ rfl ⟨_, rfl, hin 1 92 (by kernel_rfl) (by kernel_rfl), .inr ⟨by decide, Kept.refl _ _⟩⟩
        | 8, ho =>
          obtain rfl := Option.some.inj ho
          exact wp_assign _ rfl ⟨_, rfl, hin 6 97 (by kernel_rfl) (by kernel_rfl), .inr ⟨by decide, Kept.refl _ _⟩⟩
        | n + 9, ho => exact absurd (Array.getElem?_eq_some_iff.1 ho).1 (by show ¬ n + 9 < 9; omega)
      · intro vs w2 hl hF hst hk
        match vs, hl with
        | [v0, v1, v2, v3, v4, v5, v6, v7, v8], _ =>
          obtain rfl : v0 = _ := hF 0 _ rfl
          obtain rfl : v1 = _ := hF 1 _ rfl
          obtain rfl : v2 = _ := hF 2 _ rfl
          obtain rfl : v3 = _ := hF 3 _ rfl
          obtain rfl : v4 = _ := hF 4 _ rfl
          obtain rfl : v6 = _ := hF 6 _ rfl
          obtain rfl : v7 = _ := hF 7 _ rfl
          obtain rfl : v8 = _ := hF 8 _ rfl
          obtain ⟨D, eD, hd⟩ := hst
          obtain rfl := Option.some.inj eD
          replace hK := hide ((unhide hK).step hd hk)
          clear hd hk hF
          simp only [putAll]
          go_wp2_with (first | (refine wpLoadS (by rfl) (.tmp 1) (by rfl) p1 0 (by kernel_rfl) sS ?_ ?_; · exact (unhide hK).at0 (p1, sS) (by simp)) | (refine wpList_secs (by rfl) 1 _ (by rfl) [sS] (by simp [sS_sec]) (by rfl) (by omega) (by omega) (by kernel_rfl) ?_))
          refine (c_w6 b g _ _ _ ((unhide hK).d.alloc _) (secs_new _ [sS] (by simp [sS_sec])) (away_new (unhide hK).d.lt (Nat.le_refl _) 0)).mono ?_
          rintro e wa ⟨rfl, hd, hk⟩
          replace hK := hide ((unhide hK).quiet ((Kept.refl _ _).alloc (.cells (u8s [sS].flatten).toArray 38)))
          replace hK := hide ((unhide hK).step hd hk)
          clear hd hk
          go_wp2_with (first | (refine wpLoadS (by rfl) (.tmp 1) (by rfl) p1 0 (by kernel_rfl) sS ?_ ?_; · exact (unhide hK).at0 (p1, sS) (by simp)) | (refine wpLoadS (by rfl) (.tmp 2) (by rfl) p2 0 (by kernel_rfl) sT ?_ ?_; · exact (unhide hK).at0 (p2, sT) (by simp)))
          refine (c_s1 b g _ (unhide hK).d).mono ?_
          rintro e wb ⟨rfl, hd, hk⟩
          replace hK := hide ((unhide hK).step hd hk)
          clear hd hk
          go_wp2_with fail
          refine (c_up2 b g _ (unhide hK).d).mono ?_
          rintro e wc ⟨rfl, hd, hk⟩
          replace hK := hide ((unhide hK).step hd hk)
          clear hd hk
          go_wp2_with fail
          refine (c_wh1 b g _ (unhide hK).d).mono ?_
          rintro e wd ⟨rfl, hd, hk⟩
          replace hK := hide ((unhide hK).step hd hk)
          clear hd hk
          go_wp2_with fail
          refine (c_ep1 b g _ (unhide hK).d).mono ?_
          rintro e we ⟨rfl, rfl⟩
          go_wp2_with (go_at_call 10; refine (num10 _ _).mono ?_; rintro e w' ⟨rfl, rfl⟩)
          refine (c_wh2 b g _ (unhide hK).d).mono ?_
          rintro e wf ⟨rfl, hd, hk⟩
          replace hK := hide ((unhide hK).step hd hk)
          clear hd hk
          go_wp2_with fail
          refine (c_r0 b g _ (unhide hK).d).mono ?_
          rintro e wg ⟨rfl, hk⟩
          replace hK := hide ((unhide hK).quiet hk)
          clear hk
          have hK2 := hide ((unhide hK).add sT sT_sec)
          go_wp2_with (first | (refine wpAllocN (by rfl) (by rfl) wg.heap.size (by rfl) ?_) | (refine wpStoreS (by rfl) (.tmp 29) (.tmp 144) (by rfl) wg.heap.size 0 sT (by kernel_rfl) (by kernel_rfl) sT_sec ?_ ?_; · exact (Box.new wg).at.2.2))
          clear hK
          generalize (wg.alloc (.cells (u8s nought).toArray 38)).setCells wg.heap.size 0 (u8s sT) = wh at *
          generalize wg.heap.size = p3 at *
          refine (c_r1 b g _ (unhide hK2).d).mono ?_
          rintro e wi ⟨rfl, hk⟩
          replace hK2 := hide ((unhide hK2).quiet hk)
          clear hk
          have hK := hide ((unhide hK2).add nought nought_sec)
          go_wp2_with (first | (refine wpAllocN (by rfl) (by rfl) wi.heap.size (by rfl) ?_) | (refine wpStoreS (by rfl) (.tmp 31) (.tmp 149) (by rfl) wi.heap.size 0 nought (by kernel_rfl) (by kernel_rfl) nought_sec ?_ ?_; · exact (Box.new wi).at.2.2) | (refine wpLoadS (by rfl) (.tmp 1) (by rfl) p1 0 (by kernel_rfl) sS ?_ ?_; · exact (unhide hK).at0 (p1, sS) (by simp)) | (refine wpLoadS (by rfl) (.tmp 2) (by rfl) p2 0 (by kernel_rfl) sT ?_ ?_; · exact (unhide hK).at0 (p2, sT) (by simp)))
          clear hK2
          generalize (wi.alloc (.cells (u8s nought).toArray 38)).setCells wi.heap.size 0 (u8s nought) = wj at *
          generalize wi.heap.size = p4 at *
          refine (c_s2 b g _ (unhide hK).d).mono ?_
          rintro e wk ⟨rfl, hd, hk⟩
          replace hK := hide ((unhide hK).step hd hk)
          clear hd hk
          go_wp2_with (first | (refine wpLoadS (by rfl) (.tmp 1) (by rfl) p1 0 (by kernel_rfl) sS ?_ ?_; · exact (unhide hK).at0 (p1, sS) (by simp)) | (refine wpLoadS (by rfl) (.tmp 2) (by rfl) p2 0 (by kernel_rfl) sT ?_ ?_; · exact (unhide hK).at0 (p2, sT) (by simp)))
          refine (c_s3 b g _ (unhide hK).d).mono ?_
          rintro e wl ⟨rfl, hd, hk⟩
          replace hK := hide ((unhide hK).step hd hk)
          clear hd hk
          go_wp2_with fail
          refine (c_r2 b g _ (unhide hK).d).mono ?_
          rintro e wm ⟨rfl, hk⟩
          replace hK := hide ((unhide hK).quiet hk)
          clear hk
          have hK2 := hide ((unhide hK).add sS sS_sec)
          go_wp2_with (first | (refine wpAllocN (by rfl) (by rfl) wm.heap.size (by rfl) ?_) | (refine wpStoreS (by rfl) (.tmp 37) (.tmp 168) (by rfl) wm.heap.size 0 sS (by kernel_rfl) (by kernel_rfl) sS_sec ?_ ?_; · exact (Box.new wm).at.2.2))
          clear hK
          generalize (wm.alloc (.cells (u8s nought).toArray 38)).setCells wm.heap.size 0 (u8s sS) = wn at *
          generalize wm.heap.size = p5 at *
          have hK := hK2
          clear hK2
          refine wp_region_floatB (by kernel_rfl) [1, 5, 7, 9] (by kernel_rfl) [b, g] (tabF b g [.is (P0 b), .is (.int .i64 0), .is (P0 b), .is (secV sT), .secs [sT], .is (.int .i64 8), .is (P0 b), .is (.int .i64 8), .is (P0 b), .is (.int .i64 0), .is (.int .i64 0), .is (.int .i64 8), .is (.int .i64 8), .is (.int .i64 0)]) (tabD b g [k12, k13, k14, k15, k16]) (tabF_kept b g _) (tabD_kept b g _) ⟨_, rfl, (unhide hK).d⟩ (by kernel_rfl) ?_ ?_
          · intro j o ho a w2 hout hin hk hst
            have hk2 := hk.size
            match j, ho with
            | 0, ho =>
              obtain rfl := Option.some.inj ho
              exact wp_move _ rfl ⟨_, rfl, (hout 9 (by kernel_rfl)).trans (by kernel_rfl), .inr ⟨by decide, Kept.refl _ _⟩⟩
            | 1, ho =>
              obtain rfl := Option.some.inj ho
              have e0 : a.eval (.tmp 170) = P0 b := hin 0 170 (by kernel_rfl) (by kernel_rfl)
              obtain ⟨D, eD, hd⟩ := hst 0 rfl
              obtain rfl := Option.some.inj eD
              refine wp_callF 24 _ _ rfl #[P0 b, .int .i64 1, .int .i64 0, .int .i64 0, .int .i64 2] ?_ (cf24 _ _) ((c_f1 b g w2 hd).mono ?_)
              · simp [e0, eval_const]
              · rintro e w3 ⟨rfl, hd3, hk3⟩
                exact ⟨_, rfl, _, rfl, rfl, .inl ⟨0, rfl, ⟨_, rfl, hd3⟩, hk3⟩⟩
            | 2, ho =>
              obtain rfl := Option.some.inj ho
              exact wp_move _ rfl ⟨_, rfl, (hout 9 (by kernel_rfl)).trans (by kernel_rfl), .inr ⟨by decide, Kept.refl _ _⟩⟩
            | 3, ho =>
              obtain rfl := Option.some.inj ho
              exact wp_loadS (.tmp 2) rfl p2 0 ((hout 2 (by kernel_rfl)).trans (by kernel_rfl)) sT sT_sec ((unhide hK).at (p2, sT) (by simp) hk).2.1 ⟨_, rfl, rfl, .inr ⟨by decide, Kept.refl _ _⟩⟩
            | 4, ho =>
              obtain rfl := Option.some.inj ho
              have e0 : a.eval (.tmp 173) = secV sT := hin 3 173 (by kernel_rfl) (by kernel_rfl)
              refine wp_secs 1 _ rfl [sT] (by simp; first | exact ⟨sT_sec⟩ | exact sT_sec) rfl (by omega) (by omega) ?_ ⟨_, rfl, ⟨_, _, rfl, secs_new w2 [sT] (by simp; first | exact ⟨sT_sec⟩ | exact sT_sec), away_new (unhide hK).d.lt hk2 0⟩, .inr ⟨by decide, (Kept.refl _ _).alloc _⟩⟩
              simp [e0]
            | 5, ho =>
              obtain rfl := Option.some.inj ho
              have e0 : a.eval (.tmp 172) = P0 b := hin 2 172 (by kernel_rfl) (by kernel_rfl)
              obtain ⟨ao, c, e1, hs, ha⟩ : ∃ ao c, a.eval (.tmp 174) = .slice ao 1 c ∧ Secs w2 ao 1 c [sT] ∧ Away ao [b, g] := hin 4 174 (by kernel_rfl) (by kernel_rfl)
              obtain ⟨D, eD, hd⟩ := hst 1 rfl
              obtain rfl := Option.some.inj eD
              refine wp_callF 22 _ _ rfl #[P0 b, .int .i64 0, .int .i64 2, .int .i64 0, .slice ao 1 c] ?_ (cf22 _ _) ((c_w7 b g ao c w2 hd hs ha).mono ?_)
              · simp [e0, e1, eval_const]
              · rintro e w3 ⟨rfl, hd3, hk3⟩
                exact ⟨_, rfl, _, rfl, rfl, .inl ⟨1, rfl, ⟨_, rfl, hd3⟩, hk3⟩⟩
            | 6, ho =>
              obtain rfl := Option.some.inj ho
              exact wp_move _ rfl ⟨_, rfl, (hout 9 (by kernel_rfl)).trans (by kernel_rfl), .inr ⟨by decide, Kept.refl _ _⟩⟩
            | 7, ho =>
              obtain rfl := Option.some.inj ho
              have e0 : a.eval (.tmp 176) = P0 b := hin 6 176 (by kernel_rfl) (by kernel_rfl)
              obtain ⟨D, eD, hd⟩ := hst 2 rfl
              obtain rfl := Option.some.inj eD
              refine wp_callF 24 _ _ rfl #[P0 b, .int .i64 0, .int .i64 2, .int .i64 1, .int .i64 9] ?_ (cf24 _ _) ((c_f2 b g w2 hd).mono ?_)
              · simp [e0, eval_const]
              · rintro e w3 ⟨rfl, hd3, hk3⟩
                exact ⟨_, rfl, _, rfl, rfl, .inl ⟨2, rfl, ⟨_, rfl, hd3⟩, hk3⟩⟩
            | 8, ho =>
              obtain rfl := Option.some.inj ho
              exact wp_move _ rfl ⟨_, rfl, (hout 9 (by kernel_rfl)).trans (by kernel_rfl), .inr ⟨by decide, Kept.refl _ _⟩⟩
            | 9, ho =>
              obtain rfl := Option.some.inj ho
              have e0 : a.eval (.tmp 178) = P0 b := hin 8 178 (by kernel_rfl) (by kernel_rfl)
              obtain ⟨D, eD, hd⟩ := hst 3 rfl
              obtain rfl := Option.some.inj eD
              refine wp_callF 24 _ _ rfl #[P0 b, .int .i64 1, .int .i64 0, .int .i64 0, .int .i64 1] ?_ (cf24 _ _) ((c_f3 b g w2 hd).mono ?_)
              · simp [e0, eval_const]
              · rintro e w3 ⟨rfl, hd3, hk3⟩
                exact ⟨_, rfl, _, rfl, rfl, .inl ⟨3, rfl, ⟨_, rfl, hd3⟩, hk3⟩⟩
            | 10, ho =>
              obtain rfl := Option.some.inj ho
              exact wp_assign _ rfl ⟨_, rfl, hin 1 171 (by kernel_rfl) (by kernel_rfl), .inr ⟨by decide, Kept.refl _ _⟩⟩
            | 11, ho =>
              obtain rfl := Option.some.inj ho
              exact wp_assign _ rfl ⟨_, rfl, hin 5 175 (by kernel_rfl) (by kernel_rfl), .inr ⟨by decide, Kept.refl _ _⟩⟩
            | 12, ho =>
              obtain rfl := Option.some.inj ho
              exact wp_assign _ rfl ⟨_, rfl, hin 7 177 (by kernel_rfl) (by kernel_rfl), .inr ⟨by decide, Kept.refl _ _⟩⟩
            | 13, ho =>
              obtain rfl := Option.some.inj ho
              exact wp_assign _ rfl ⟨_, rfl, hin 9 179 (by kernel_rfl) (by kernel_rfl), .inr ⟨by decide, Kept.refl _ _⟩⟩
            | n + 14, ho => exact absurd (Array.getElem?_eq_some_iff.1 ho).1 (by show ¬ n + 14 < 14; omega)
          · intro vs w2 hl hF hst hk
            match vs, hl with
            | [v0, v1, v2, v3, v4, v5, v6, v7, v8, v9, v10, v11, v12, v13], _ =>
              obtain rfl : v0 = _ := hF 0 _ rfl
              obtain rfl : v1 = _ := hF 1 _ rfl
              obtain rfl : v2 = _ := hF 2 _ rfl
              obtain rfl : v3 = _ := hF 3 _ rfl
              obtain rfl : v5 = _ := hF 5 _ rfl
              obtain rfl : v6 = _ := hF 6 _ rfl
              obtain rfl : v7 = _ := hF 7 _ rfl
              obtain rfl : v8 = _ := hF 8 _ rfl
              obtain rfl : v9 = _ := hF 9 _ rfl
              obtain rfl : v10 = _ := hF 10 _ rfl
              obtain rfl : v11 = _ := hF 11 _ rfl
              obtain rfl : v12 = _ := hF 12 _ rfl
              obtain rfl : v13 = _ := hF 13 _ rfl
              obtain ⟨D, eD, hd⟩ := hst
              obtain rfl := Option.some.inj eD
              replace hK := hide ((unhide hK).step hd hk)
              clear hd hk hF
              simp only [putAll]
              go_wp2_with fail
              refine (c_ep2 b g _ (unhide hK).d).mono ?_
              rintro e wo ⟨rfl, rfl⟩
              go_wp2_with (first | (go_at_call 10; refine (num10 _ _).mono ?_; rintro e w' ⟨rfl, rfl⟩) | (refine wpLoadG (.tmp 29) (by rfl) (by kernel_rfl) p3 0 (by kernel_rfl) sT ?_ ?_; · exact (unhide hK).at0 (p3, sT) (by simp)) | (refine wpLoadG (.tmp 2) (by rfl) (by kernel_rfl) p2 0 (by kernel_rfl) sT ?_ ?_; · exact (unhide hK).at0 (p2, sT) (by simp)) | (refine wpLoadG (.tmp 31) (by rfl) (by kernel_rfl) p4 0 (by kernel_rfl) nought ?_ ?_; · exact (unhide hK).at0 (p4, nought) (by simp)) | (refine wpLoadG (.tmp 37) (by rfl) (by kernel_rfl) p5 0 (by kernel_rfl) sS ?_ ?_; · exact (unhide hK).at0 (p5, sS) (by simp)) | (refine wpLoadG (.tmp 1) (by rfl) (by kernel_rfl) p1 0 (by kernel_rfl) sS ?_ ?_; · exact (unhide hK).at0 (p1, sS) (by simp)) | (refine wpBuildG (by rfl) (by kernel_rfl) ?_) | (refine wpEqlG (.tmp 248) (.tmp 249) 38 (by rfl) (by kernel_rfl) sT sT (by kernel_rfl) (by kernel_rfl) sT_sec sT_sec true (by simp) ?_) | (refine wpEqlG (.tmp 253) (.tmp 254) 38 (by rfl) (by kernel_rfl) nought nought (by kernel_rfl) (by kernel_rfl) nought_sec nought_sec true (by simp) ?_) | (refine wpEqlG (.tmp 265) (.tmp 266) 38 (by rfl) (by kernel_rfl) sS sS (by kernel_rfl) (by kernel_rfl) sS_sec sS_sec true (by simp) ?_))
              go_ret
              exact ⟨rfl, (unhide hK).k⟩

end Go.Proofs.Ytffflafalffifaa
