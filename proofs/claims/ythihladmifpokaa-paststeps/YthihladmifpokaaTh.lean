/-
  One step of both: do.
-/
import Derived.Test.YthihladmifpokaaTg
namespace Go.Proofs.Ythihladmifpokaa
set_option maxRecDepth 100000
set_option linter.unusedSimpArgs false
open Go.RowKit


theorem cg21 (vs : Array Value) (w : World) : (callFunc 21 vs).run Try.prog w = .ok (.enter 21 vs) w := by kernel_rfl
/-- The program's marks and the document's, beside each other. -/
structure Tw (W : World) (b mb r : Nat) (v : Value) (M L : List Mk) : Prop where
  pg : Pg W b mb M
  rp : Rp W r v L
  perm : L.Perm M
  srt : Srt L
variable {w W W' : World} {b mb r : Nat} {v : Value} {M L : List Mk} {X : List Nat} {x : Se} {y : Nat} {d : Nat → Bool} {vs : Nat → Value}
theorem Tw.step (h : Tw W b mb r v M L) (hk : Kept X W W') (h1 : b ∉ X) (h2 : mb ∉ X) (h3 : r ∉ X) (h4 : ∀ k, v.ownBlock = some k → k ∉ X) : Tw W' b mb r v M L := ⟨h.pg.step hk h1 h2, h.rp.step hk h3 h4, h.perm, h.srt⟩
theorem Tw.step0 (h : Tw W b mb r v M L) (hk : Kept [] W W') : Tw W' b mb r v M L := h.step hk (by simp) (by simp) (by simp) (fun k _ => by simp)
theorem Pg.lt (h : Pg W b mb M) : b < W.heap.size ∧ mb < W.heap.size := ⟨h.blk.lt, by obtain ⟨_, _, h9, _⟩ := h.map; exact (Array.getElem?_eq_some_iff.1 h9).1⟩
/-- The map lies apart from the document's blocks. -/
theorem Tw.apart (h1 : Pg W b mb M) (h2 : Rp W r v L) : mb ≠ r ∧ b ≠ r ∧ (∀ k, v.ownBlock = some k → k ≠ mb ∧ k ≠ b ∧ k ≠ r) := by
  have e1 : mb ≠ r := fun e => (map_not_cells h1.map (e ▸ h2.blk)) (by rw [e])
  refine ⟨e1, fun e => ?_, fun k hk => ⟨fun e => ?_, fun e => ?_, fun e => h2.ne (e ▸ hk)⟩⟩
  · have h3 := h1.blk
    have h4 := h2.blk
    unfold Blk at h3 h4
    rw [e, h4] at h3
    injection h3 with h3
    injection h3 with _ h3
    cases h3
  · obtain ⟨cs, hc⟩ := h2.row.block k hk
    obtain ⟨es, c, h9, _⟩ := h1.map
    rw [e, h9] at hc
    cases hc
  · have h3 := h2.row.ne h1.blk (by decide) k hk
    simp at h3
    exact h3 e
/-- Both marks of one region. -/
structure S9 (w : World) (b mb r : Nat) (v : Value) (M L : List Mk) (x : Se) (y : Nat) (d : Nat → Bool) (_ : Nat → Value) (W : World) : Prop where
  y0 : Blk W y 34 x.C
  pg : Pg W b mb (cond (d 9) (markP x.p x.a x.b M).2 M)
  rp : d 18 = false → Rp W r v L
  ru : d 18 = true → ∃ u, Rp W r u (rmarkP x.p x.a x.b L).2 ∧ ∀ i, u.ownBlock = some i → v.ownBlock = some i ∨ w.heap.size ≤ i
  k : Kept (mb :: r :: v.ownBlock.toList) w W
theorem S9.loc : ∀ d d' vs vs' W, (∀ i ∈ [9, 18], d i = d' i ∧ vs i = vs' i) → S9 w b mb r v M L x y d vs W → S9 w b mb r v M L x y d' vs' W := by
  intro d d' vs vs' W H h
  have a0 := (H 9 (by simp)).1
  have b0 := (H 18 (by simp)).1
  exact ⟨h.y0, by rw [← a0]; exact h.pg, by rw [← b0]; exact h.rp, by rw [← b0]; exact h.ru, h.k⟩
theorem S9.start (h : Tw w b mb r v M L) (hy : Blk w y 34 x.C) : S9 w b mb r v M L x y (fun i => (Array.replicate 23 false).getD i false) (fun _ => undef) w.drew := by
  have h0 : ∀ i, (Array.replicate 23 false).getD i false = false := fun i => by simp [Array.getD]
  have k : Kept [] w w.drew := (Kept.refl _ _).drew
  exact ⟨hy.kept k (by simp), by rw [h0]; exact h.pg.step k (by simp) (by simp), fun _ => h.rp.step0 k, (fun e => by rw [h0] at e; cases e), k.mono (by simp)⟩
theorem S9.m9 (h : S9 w b mb r v M L x y d vs W) (hp : Pg W' b mb (markP x.p x.a x.b M).2) (hk : Kept [mb] W W') {u : Value} : S9 w b mb r v M L x y (fun i => if i = 9 then true else d i) (fun i => if i = 9 then u else vs i) W' := by
  refine ⟨h.y0.kept hk (by simpa using map_not_cells h.pg.map h.y0), hp, fun h1 => ?_, fun h1 => ?_, h.k.trans (hk.mono (by simp))⟩
  · have h2 := h.rp h1
    have h3 := Tw.apart h.pg h2
    exact h2.step hk (by simpa using Ne.symm h3.1) (fun k hk => by simpa using (h3.2.2 k hk).1)
  · obtain ⟨u, h2, h4⟩ := h.ru h1
    have h3 := Tw.apart h.pg h2
    exact ⟨u, h2.step hk (by simpa using Ne.symm h3.1) (fun k hk => by simpa using (h3.2.2 k hk).1), h4⟩
theorem S9.m18 (h : S9 w b mb r v M L x y d vs W) (h18 : d 18 = false) {u' : Value} (hu : Rp W' r u' (rmarkP x.p x.a x.b L).2) (ho : ∀ i, u'.ownBlock = some i → v.ownBlock = some i ∨ W.heap.size ≤ i) (hk : Kept (r :: v.ownBlock.toList) W W') {u : Value} : S9 w b mb r v M L x y (fun i => if i = 18 then true else d i) (fun i => if i = 18 then u else vs i) W' := by
  have h2 := h.rp h18
  have h3 := Tw.apart h.pg h2
  refine ⟨h.y0.kept hk ?_, h.pg.step hk ?_ ?_, fun h1 => (by cases h1), fun _ => ⟨u', hu, fun i hi => ?_⟩, h.k.trans (hk.mono (by intro i hi; exact List.mem_cons_of_mem _ hi))⟩
  · intro e
    rcases List.mem_cons.1 e with e | e
    · have h4 := h.y0
      have h5 := h2.blk
      unfold Blk at h4 h5
      rw [e, h5] at h4
      injection h4 with h4
      injection h4 with _ h4
      cases h4
    · have h4 := h2.row.ne h.y0 (by decide) y (by simpa using e)
      simp at h4
  · intro e
    rcases List.mem_cons.1 e with e | e
    · exact h3.2.1 e
    · exact (h3.2.2 b (by simpa using e)).2.1 rfl
  · intro e
    rcases List.mem_cons.1 e with e | e
    · exact h3.1 e
    · exact (h3.2.2 mb (by simpa using e)).1 rfl
  · rcases ho i hi with h4 | h4
    · exact .inl h4
    · exact .inr (Nat.le_trans h.k.size h4)
theorem sameL_refl (h : MapAt w mb M) : sameL M M = true := by
  unfold sameL
  rw [Bool.and_eq_true, List.all_eq_true]
  refine ⟨by simp, fun l hl => ?_⟩
  unfold inL
  cases hq : placeOf l.p l.s M 0 with
  | none => exact absurd ⟨rfl, rfl⟩ (placeOf_none hq l hl)
  | some q =>
    obtain ⟨q, z⟩ := q
    obtain ⟨_, h1, h2, h3⟩ := placeOf_some hq
    rw [Nat.sub_zero] at h1
    obtain ⟨es, c, _, h4, h5⟩ := h
    have : z = l := mk_uniq h4 h5 (List.mem_of_getElem? h1) hl (by simp [Mk.K, h2, h3])
    subst this
    simp
theorem s9_pg (h : S9 w b mb r v M L x y d vs W) (h9 : d 9 = false) : Pg W b mb M := by have := h.pg; rw [h9] at this; exact this
/-- What a step leaves. -/
structure Dn (w W : World) (b mb r : Nat) (v : Value) (b' mb' : Nat) (v' : Value) (M' L' : List Mk) : Prop where
  tw : Tw W b' mb' r v' M' L'
  nb : b' = b ∨ w.heap.size ≤ b'
  nm : mb' = mb ∨ w.heap.size ≤ mb'
  nv : ∀ i, v'.ownBlock = some i → v.ownBlock = some i ∨ w.heap.size ≤ i
  k : Kept (mb :: r :: v.ownBlock.toList) w W
theorem Dn.since {w0 : World} {b' mb' : Nat} {v' : Value} {M' L' : List Mk} (h : Dn w W b mb r v b' mb' v' M' L') (hk : Kept [] w0 w) : Dn w0 W b mb r v b' mb' v' M' L' :=
  ⟨h.tw, h.nb.imp id (Nat.le_trans hk.size), h.nm.imp id (Nat.le_trans hk.size), fun i hi => (h.nv i hi).imp id (Nat.le_trans hk.size), (hk.mono (by simp)).trans h.k⟩
set_option maxHeartbeats 16000000 in
theorem do9 (h : Tw w b mb r v M L) (x : Se) : Calls Try.prog 9 #[P0 b, P0 r, aggV x.C] w fun e W => ∃ b' mb' v' M' L', e = .returned (.tuple #[P0 b', P0 r, .bool true]) ∧ Dn w W b mb r v b' mb' v' M' L' := by
  have HTW := hide h
  have hnd := h.pg.map.nodup
  clear h
  by_cases e1 : x.k = 1
  · have q1a : decide (x.k = 1) = true := by simpa using e1
    have q1b : (x.k == 1) = true := by simpa using e1
    have hr := mark_rel hnd (unhide HTW).perm (unhide HTW).srt x.p x.a x.b
    obtain ⟨r1, hr1⟩ : ∃ v, (markP x.p x.a x.b M).1 = v := ⟨_, rfl⟩
    have HR1 := hide hr1
    have HR2 : Hid ((rmarkP x.p x.a x.b L).1 = r1) := hr.1.trans hr1
    have HRR := hide hr.2
    clear e1 hr hr1 hnd
    go_enter Try.func9, Try.ntmps9
    go_wp2_with (
      first
      | (refine wpBoxV rfl (.tmp 2) rfl x.C rfl ?_
         intro W0 y e2 B2 h3
         have HY := hide B2
         have HT := hide ((unhide HTW).step0 h3)
         have HK : Hid (Kept [] w W0) := hide h3
         have c0 := fits_cell B2 0 _ rfl
         have c1 := fits_cell B2 1 _ rfl
         have c2 := fits_cell B2 2 _ rfl
         have c3 := fits_cell B2 3 _ rfl
         clear e2 B2 h3 HTW
         refine Stp.go ?_))
    constructor
    go_upto_region 3 with fail
    clear c0 c1 c2 c3
    refine wp_region_any mixed (wpAny_gx 23 rfl (by kernel_rfl) [some (P0 b), some (P0 r), some (P0 b), some (.pointer (some ⟨y, 1, none⟩)), some (.int .i64 x.p), some (.pointer (some ⟨y, 2, none⟩)), some (.int .i64 x.a), some (.pointer (some ⟨y, 3, none⟩)), some (.int .i64 x.b), some (.int .i64 r1), some (.int .i64 r1), some (P0 r), some (.pointer (some ⟨y, 1, none⟩)), some (.int .i64 x.p), some (.pointer (some ⟨y, 2, none⟩)), some (.int .i64 x.a), some (.pointer (some ⟨y, 3, none⟩)), some (.int .i64 x.b), some (.int .i64 r1), some (.bool true), some (P0 b), some (P0 r), some (.bool true)] rfl (by kernel_rfl) (fun l vs W => (S9 W0 b mb r v M L x y) (fun i => l.getD i false) vs W) (S9.start (unhide HT) (unhide HY)) ?_ ?_)
    · intro ix o' hi ho a' w2 l vs hls hlf hJ hout hin hdep hnot
      match ix, ho with
      | 0, ho =>
        obtain rfl := Option.some.inj ho
        have e0 := hout 0 (by kernel_rfl)
        replace e0 : a'.eval (.tmp 0) = _ := e0.trans rfl
        exact wp_move (.tmp 0) rfl _ e0 ⟨_, rfl, told_of rfl, keepG (St := (S9 W0 b mb r v M L x y)) [9, 18] S9.loc (by omega) (by decide) hJ⟩
      | 1, ho =>
        obtain rfl := Option.some.inj ho
        have e0 := hout 1 (by kernel_rfl)
        replace e0 : a'.eval (.tmp 1) = _ := e0.trans rfl
        exact wp_move (.tmp 1) rfl _ e0 ⟨_, rfl, told_of rfl, keepG (St := (S9 W0 b mb r v M L x y)) [9, 18] S9.loc (by omega) (by decide) hJ⟩
      | 2, ho =>
        obtain rfl := Option.some.inj ho
        have e0 := hout 0 (by kernel_rfl)
        replace e0 : a'.eval (.tmp 0) = _ := e0.trans rfl
        exact wp_move (.tmp 0) rfl _ e0 ⟨_, rfl, told_of rfl, keepG (St := (S9 W0 b mb r v M L x y)) [9, 18] S9.loc (by omega) (by decide) hJ⟩
      | 3, ho =>
        obtain rfl := Option.some.inj ho
        have e0 := hout 5 (by kernel_rfl)
        replace e0 : a'.eval (.tmp 5) = _ := e0.trans rfl
        exact o_fld34_1 (.tmp 5) rfl y (0) (1) rfl e0 ⟨_, rfl, told_of rfl, keepG (St := (S9 W0 b mb r v M L x y)) [9, 18] S9.loc (by omega) (by decide) hJ⟩
      | 4, ho =>
        obtain rfl := Option.some.inj ho
        have e0 : a'.eval (.tmp 22) = .pointer (some ⟨y, 1, none⟩) := by have h9 := hin 3 22 (by kernel_rfl) (by kernel_rfl); exact h9.1.trans (told_is _ h9.2 rfl)
        exact o_load3 (.tmp 22) rfl _ _ e0 (fits_cell hJ.y0 1 _ rfl) ⟨_, rfl, told_of rfl, keepG (St := (S9 W0 b mb r v M L x y)) [9, 18] S9.loc (by omega) (by decide) hJ⟩
      | 5, ho =>
        obtain rfl := Option.some.inj ho
        have e0 := hout 5 (by kernel_rfl)
        replace e0 : a'.eval (.tmp 5) = _ := e0.trans rfl
        exact o_fld34_2 (.tmp 5) rfl y (0) (2) rfl e0 ⟨_, rfl, told_of rfl, keepG (St := (S9 W0 b mb r v M L x y)) [9, 18] S9.loc (by omega) (by decide) hJ⟩
      | 6, ho =>
        obtain rfl := Option.some.inj ho
        have e0 : a'.eval (.tmp 24) = .pointer (some ⟨y, 2, none⟩) := by have h9 := hin 5 24 (by kernel_rfl) (by kernel_rfl); exact h9.1.trans (told_is _ h9.2 rfl)
        exact o_load2 (.tmp 24) rfl _ _ e0 (fits_cell hJ.y0 2 _ rfl) ⟨_, rfl, told_of rfl, keepG (St := (S9 W0 b mb r v M L x y)) [9, 18] S9.loc (by omega) (by decide) hJ⟩
      | 7, ho =>
        obtain rfl := Option.some.inj ho
        have e0 := hout 5 (by kernel_rfl)
        replace e0 : a'.eval (.tmp 5) = _ := e0.trans rfl
        exact o_fld34_3 (.tmp 5) rfl y (0) (3) rfl e0 ⟨_, rfl, told_of rfl, keepG (St := (S9 W0 b mb r v M L x y)) [9, 18] S9.loc (by omega) (by decide) hJ⟩
      | 8, ho =>
        obtain rfl := Option.some.inj ho
        have e0 : a'.eval (.tmp 26) = .pointer (some ⟨y, 3, none⟩) := by have h9 := hin 7 26 (by kernel_rfl) (by kernel_rfl); exact h9.1.trans (told_is _ h9.2 rfl)
        exact o_load2 (.tmp 26) rfl _ _ e0 (fits_cell hJ.y0 3 _ rfl) ⟨_, rfl, told_of rfl, keepG (St := (S9 W0 b mb r v M L x y)) [9, 18] S9.loc (by omega) (by decide) hJ⟩
      | 9, ho =>
        obtain rfl := Option.some.inj ho
        have e0 : a'.eval (.tmp 21) = P0 b := by have h9 := hin 2 21 (by kernel_rfl) (by kernel_rfl); exact h9.1.trans (told_is _ h9.2 rfl)
        have e1 : a'.eval (.tmp 23) = .int .i64 x.p := by have h9 := hin 4 23 (by kernel_rfl) (by kernel_rfl); exact h9.1.trans (told_is _ h9.2 rfl)
        have e2 : a'.eval (.tmp 25) = .int .i64 x.a := by have h9 := hin 6 25 (by kernel_rfl) (by kernel_rfl); exact h9.1.trans (told_is _ h9.2 rfl)
        have e3 : a'.eval (.tmp 27) = .int .i64 x.b := by have h9 := hin 8 27 (by kernel_rfl) (by kernel_rfl); exact h9.1.trans (told_is _ h9.2 rfl)
        refine wp_callF 13 _ _ rfl #[P0 b, .int .i64 x.p, .int .i64 x.a, .int .i64 x.b] (by simp [e0, e1, e2, e3]) (cg13 _ _) ((mark13 (s9_pg hJ hlf)).mono ?_)
        rw [show (markP x.p x.a x.b M).1 = r1 from unhide HR1]
        rintro e w3 ⟨rfl, q2, q3⟩
        exact ⟨_, rfl, _, rfl, told_of rfl, nextG (St := (S9 W0 b mb r v M L x y)) (by omega) (S9.m9 hJ q2 q3)⟩
      | 10, ho =>
        obtain rfl := Option.some.inj ho
        have e0 : a'.eval (.tmp 28) = .int .i64 r1 := by have h9 := hin 9 28 (by kernel_rfl) (by kernel_rfl); exact h9.1.trans (told_is _ h9.2 rfl)
        refine wp_callF 14 _ _ rfl #[.int .i64 r1] (by simp [e0]) (cg14 _ _) ((num14 _ _).mono ?_)
        rintro e w3 ⟨rfl, rfl⟩
        exact ⟨_, rfl, _, rfl, told_of rfl, keepG (St := (S9 W0 b mb r v M L x y)) [9, 18] S9.loc (by omega) (by decide) hJ⟩
      | 11, ho =>
        obtain rfl := Option.some.inj ho
        have e0 := hout 1 (by kernel_rfl)
        replace e0 : a'.eval (.tmp 1) = _ := e0.trans rfl
        exact wp_move (.tmp 1) rfl _ e0 ⟨_, rfl, told_of rfl, keepG (St := (S9 W0 b mb r v M L x y)) [9, 18] S9.loc (by omega) (by decide) hJ⟩
      | 12, ho =>
        obtain rfl := Option.some.inj ho
        have e0 := hout 5 (by kernel_rfl)
        replace e0 : a'.eval (.tmp 5) = _ := e0.trans rfl
        exact o_fld34_1 (.tmp 5) rfl y (0) (1) rfl e0 ⟨_, rfl, told_of rfl, keepG (St := (S9 W0 b mb r v M L x y)) [9, 18] S9.loc (by omega) (by decide) hJ⟩
      | 13, ho =>
        obtain rfl := Option.some.inj ho
        have e0 : a'.eval (.tmp 31) = .pointer (some ⟨y, 1, none⟩) := by have h9 := hin 12 31 (by kernel_rfl) (by kernel_rfl); exact h9.1.trans (told_is _ h9.2 rfl)
        exact o_load3 (.tmp 31) rfl _ _ e0 (fits_cell hJ.y0 1 _ rfl) ⟨_, rfl, told_of rfl, keepG (St := (S9 W0 b mb r v M L x y)) [9, 18] S9.loc (by omega) (by decide) hJ⟩
      | 14, ho =>
        obtain rfl := Option.some.inj ho
        have e0 := hout 5 (by kernel_rfl)
        replace e0 : a'.eval (.tmp 5) = _ := e0.trans rfl
        exact o_fld34_2 (.tmp 5) rfl y (0) (2) rfl e0 ⟨_, rfl, told_of rfl, keepG (St := (S9 W0 b mb r v M L x y)) [9, 18] S9.loc (by omega) (by decide) hJ⟩
      | 15, ho =>
        obtain rfl := Option.some.inj ho
        have e0 : a'.eval (.tmp 33) = .pointer (some ⟨y, 2, none⟩) := by have h9 := hin 14 33 (by kernel_rfl) (by kernel_rfl); exact h9.1.trans (told_is _ h9.2 rfl)
        exact o_load2 (.tmp 33) rfl _ _ e0 (fits_cell hJ.y0 2 _ rfl) ⟨_, rfl, told_of rfl, keepG (St := (S9 W0 b mb r v M L x y)) [9, 18] S9.loc (by omega) (by decide) hJ⟩
      | 16, ho =>
        obtain rfl := Option.some.inj ho
        have e0 := hout 5 (by kernel_rfl)
        replace e0 : a'.eval (.tmp 5) = _ := e0.trans rfl
        exact o_fld34_3 (.tmp 5) rfl y (0) (3) rfl e0 ⟨_, rfl, told_of rfl, keepG (St := (S9 W0 b mb r v M L x y)) [9, 18] S9.loc (by omega) (by decide) hJ⟩
      | 17, ho =>
        obtain rfl := Option.some.inj ho
        have e0 : a'.eval (.tmp 35) = .pointer (some ⟨y, 3, none⟩) := by have h9 := hin 16 35 (by kernel_rfl) (by kernel_rfl); exact h9.1.trans (told_is _ h9.2 rfl)
        exact o_load2 (.tmp 35) rfl _ _ e0 (fits_cell hJ.y0 3 _ rfl) ⟨_, rfl, told_of rfl, keepG (St := (S9 W0 b mb r v M L x y)) [9, 18] S9.loc (by omega) (by decide) hJ⟩
      | 18, ho =>
        obtain rfl := Option.some.inj ho
        have e0 : a'.eval (.tmp 30) = P0 r := by have h9 := hin 11 30 (by kernel_rfl) (by kernel_rfl); exact h9.1.trans (told_is _ h9.2 rfl)
        have e1 : a'.eval (.tmp 32) = .int .i64 x.p := by have h9 := hin 13 32 (by kernel_rfl) (by kernel_rfl); exact h9.1.trans (told_is _ h9.2 rfl)
        have e2 : a'.eval (.tmp 34) = .int .i64 x.a := by have h9 := hin 15 34 (by kernel_rfl) (by kernel_rfl); exact h9.1.trans (told_is _ h9.2 rfl)
        have e3 : a'.eval (.tmp 36) = .int .i64 x.b := by have h9 := hin 17 36 (by kernel_rfl) (by kernel_rfl); exact h9.1.trans (told_is _ h9.2 rfl)
        refine wp_callF 21 _ _ rfl #[P0 r, .int .i64 x.p, .int .i64 x.a, .int .i64 x.b] (by simp [e0, e1, e2, e3]) (cg21 _ _) ((rmark21 (hJ.rp hlf)).mono ?_)
        rw [show (rmarkP x.p x.a x.b L).1 = r1 from unhide HR2]
        rintro e w3 ⟨rfl, ⟨u1, q1, q2⟩, q3⟩
        exact ⟨_, rfl, _, rfl, told_of rfl, nextG (St := (S9 W0 b mb r v M L x y)) (by omega) (S9.m18 hJ hlf q1 q2 q3)⟩
      | 19, ho =>
        obtain rfl := Option.some.inj ho
        have e0 : a'.eval (.tmp 29) = .int .i64 r1 := by have h9 := hin 10 29 (by kernel_rfl) (by kernel_rfl); exact h9.1.trans (told_is _ h9.2 rfl)
        have e1 : a'.eval (.tmp 37) = .int .i64 r1 := by have h9 := hin 18 37 (by kernel_rfl) (by kernel_rfl); exact h9.1.trans (told_is _ h9.2 rfl)
        exact c_eql3 (.tmp 29) (.tmp 37) rfl _ _ (true) (by simp) e0 e1 ⟨_, rfl, told_of rfl, keepG (St := (S9 W0 b mb r v M L x y)) [9, 18] S9.loc (by omega) (by decide) hJ⟩
      | 20, ho =>
        obtain rfl := Option.some.inj ho
        have e0 : a'.eval (.tmp 19) = P0 b := by have h9 := hin 0 19 (by kernel_rfl) (by kernel_rfl); exact h9.1.trans (told_is _ h9.2 rfl)
        exact wp_assignV (.tmp 19) rfl _ e0 ⟨_, rfl, told_of rfl, keepG (St := (S9 W0 b mb r v M L x y)) [9, 18] S9.loc (by omega) (by decide) hJ⟩
      | 21, ho =>
        obtain rfl := Option.some.inj ho
        have e0 : a'.eval (.tmp 20) = P0 r := by have h9 := hin 1 20 (by kernel_rfl) (by kernel_rfl); exact h9.1.trans (told_is _ h9.2 rfl)
        exact wp_assignV (.tmp 20) rfl _ e0 ⟨_, rfl, told_of rfl, keepG (St := (S9 W0 b mb r v M L x y)) [9, 18] S9.loc (by omega) (by decide) hJ⟩
      | 22, ho =>
        obtain rfl := Option.some.inj ho
        have e0 : a'.eval (.tmp 38) = .bool true := by have h9 := hin 19 38 (by kernel_rfl) (by kernel_rfl); exact h9.1.trans (told_is _ h9.2 rfl)
        exact wp_assignV (.tmp 38) rfl _ e0 ⟨_, rfl, told_of rfl, keepG (St := (S9 W0 b mb r v M L x y)) [9, 18] S9.loc (by omega) (by decide) hJ⟩
    intro l_ vs4 V4 hl hJ htold
    have t0 : vs4 0 = P0 b := told_is _ (htold 0 (by decide)) rfl
    have t1 : vs4 1 = P0 r := told_is _ (htold 1 (by decide)) rfl
    have t2 : vs4 2 = P0 b := told_is _ (htold 2 (by decide)) rfl
    have t3 : vs4 3 = .pointer (some ⟨y, 1, none⟩) := told_is _ (htold 3 (by decide)) rfl
    have t4 : vs4 4 = .int .i64 x.p := told_is _ (htold 4 (by decide)) rfl
    have t5 : vs4 5 = .pointer (some ⟨y, 2, none⟩) := told_is _ (htold 5 (by decide)) rfl
    have t6 : vs4 6 = .int .i64 x.a := told_is _ (htold 6 (by decide)) rfl
    have t7 : vs4 7 = .pointer (some ⟨y, 3, none⟩) := told_is _ (htold 7 (by decide)) rfl
    have t8 : vs4 8 = .int .i64 x.b := told_is _ (htold 8 (by decide)) rfl
    have t9 : vs4 9 = .int .i64 r1 := told_is _ (htold 9 (by decide)) rfl
    have t10 : vs4 10 = .int .i64 r1 := told_is _ (htold 10 (by decide)) rfl
    have t11 : vs4 11 = P0 r := told_is _ (htold 11 (by decide)) rfl
    have t12 : vs4 12 = .pointer (some ⟨y, 1, none⟩) := told_is _ (htold 12 (by decide)) rfl
    have t13 : vs4 13 = .int .i64 x.p := told_is _ (htold 13 (by decide)) rfl
    have t14 : vs4 14 = .pointer (some ⟨y, 2, none⟩) := told_is _ (htold 14 (by decide)) rfl
    have t15 : vs4 15 = .int .i64 x.a := told_is _ (htold 15 (by decide)) rfl
    have t16 : vs4 16 = .pointer (some ⟨y, 3, none⟩) := told_is _ (htold 16 (by decide)) rfl
    have t17 : vs4 17 = .int .i64 x.b := told_is _ (htold 17 (by decide)) rfl
    have t18 : vs4 18 = .int .i64 r1 := told_is _ (htold 18 (by decide)) rfl
    have t19 : vs4 19 = .bool true := told_is _ (htold 19 (by decide)) rfl
    have t20 : vs4 20 = P0 b := told_is _ (htold 20 (by decide)) rfl
    have t21 : vs4 21 = P0 r := told_is _ (htold 21 (by decide)) rfl
    have t22 : vs4 22 = .bool true := told_is _ (htold 22 (by decide)) rfl
    rw [show (List.range 23).map vs4 = [vs4 0, vs4 1, vs4 2, vs4 3, vs4 4, vs4 5, vs4 6, vs4 7, vs4 8, vs4 9, vs4 10, vs4 11, vs4 12, vs4 13, vs4 14, vs4 15, vs4 16, vs4 17, vs4 18, vs4 19, vs4 20, vs4 21, vs4 22] from rfl]
    simp only [t0, t1, t2, t3, t4, t5, t6, t7, t8, t9, t10, t11, t12, t13, t14, t15, t16, t17, t18, t19, t20, t21, t22, putAll, Act.put, List.setIfInBounds_toArray, List.set_cons_succ, List.set_cons_zero]
    clear t0 t1 t2 t3 t4 t5 t6 t7 t8 t9 t10 t11 t12 t13 t14 t15 t16 t17 t18 t19 t20 t21 t22 htold
    have h18 := hJ.ru (hl 18 (by decide))
    have hpg := hJ.pg
    rw [show l_.getD 9 false = true from hl 9 (by decide)] at hpg
    have HPG : Hid (Pg V4 b mb (markP x.p x.a x.b M).2) := hpg
    have HU := hide h18
    have HKS := hide hJ.k
    clear h18 hpg hJ hl
    go_wp2_with fail
    go_ret3
    obtain ⟨u, hu, ho⟩ := unhide HU
    exact ⟨b, mb, u, _, _, rfl, Dn.since ⟨⟨unhide HPG, hu, (unhide HRR).1, (unhide HRR).2⟩, .inl rfl, .inl rfl, ho, unhide HKS⟩ (unhide HK)⟩
  · have q1a : decide (x.k = 1) = false := by simpa using e1
    have q1b : (x.k == 1) = false := by simpa using e1
    clear e1
    by_cases e2 : x.k = 2
    · have q2a : decide (x.k = 2) = true := by simpa using e2
      have q2b : (x.k == 2) = true := by simpa using e2
      have hr := disc_rel (unhide HTW).perm (unhide HTW).srt x.p x.a
      obtain ⟨r1, hr1⟩ : ∃ v, (discP x.p x.a M).1 = v := ⟨_, rfl⟩
      obtain ⟨r2, hr2⟩ : ∃ v, (discP x.p x.a M).2.1 = v := ⟨_, rfl⟩
      have HR1 := hide hr1
      have HR2 : Hid ((discP x.p x.a L).1 = r1) := hr.1.trans hr1
      have HR3 := hide hr2
      have HR4 : Hid ((discP x.p x.a L).2.1 = r2) := hr.2.1.trans hr2
      have HRR := hide hr.2.2
      have z1 : (r1 == r1) = true := by simp
      have z2 : (r2 == r2) = true := by simp
      clear e2 hr hr1 hr2 hnd
      go_enter Try.func9, Try.ntmps9
      go_wp2_with (
        first
        | (refine wpBoxV rfl (.tmp 2) rfl x.C rfl ?_
           intro W0 y e2 B2 h3
           have HY := hide B2
           have HT := hide ((unhide HTW).step0 h3)
           have HK : Hid (Kept [] w W0) := hide h3
           have c0 := fits_cell B2 0 _ rfl
           have c1 := fits_cell B2 1 _ rfl
           have c2 := fits_cell B2 2 _ rfl
           have c3 := fits_cell B2 3 _ rfl
           clear e2 B2 h3 HTW
           refine Stp.go ?_))
      constructor
      go_wp2_with (
        first
        | (go_at_call 17
           refine (disc17 (unhide HT).pg).mono ?_
           rw [show (discP x.p x.a M).1 = r1 from unhide HR1, show (discP x.p x.a M).2.1 = r2 from unhide HR3]
           rintro e W1 ⟨rfl, h2, h3⟩
           have HP := hide h2
           have HAP := hide (Tw.apart (unhide HT).pg (unhide HT).rp)
           have HR : Hid (Rp W1 r v L) := hide ((unhide HT).rp.step h3 (by simpa using Ne.symm (unhide HAP).1) (fun k hk => by simpa using ((unhide HAP).2.2 k hk).1))
           have HKA := hide h3
           have HY1 := hide ((unhide HY).kept h3 (by simpa using map_not_cells (unhide HT).pg.map (unhide HY)))
           clear h2 h3 c0 c1 c2 c3
           have c0 := fits_cell (unhide HY1) 0 _ rfl
           have c1 := fits_cell (unhide HY1) 1 _ rfl
           have c2 := fits_cell (unhide HY1) 2 _ rfl
           have c3 := fits_cell (unhide HY1) 3 _ rfl
           refine Stp.go ?_))
      constructor
      go_wp2_with (
        first
        | (go_at_call 22
           refine (rdisc22 (unhide HR)).mono ?_
           rw [show (discP x.p x.a L).1 = r1 from unhide HR2, show (discP x.p x.a L).2.1 = r2 from unhide HR4]
           rintro e W2 ⟨rfl, ⟨u1, q1, q2⟩, q3⟩
           have HU := hide q1
           have HUO := hide q2
           have HKB := hide q3
           replace HP := hide ((unhide HP).step q3 (by intro e; rcases List.mem_cons.1 e with e | e; exact (unhide HAP).2.1 e; exact ((unhide HAP).2.2 b (by simpa using e)).2.1 rfl) (by intro e; rcases List.mem_cons.1 e with e | e; exact (unhide HAP).1 e; exact ((unhide HAP).2.2 mb (by simpa using e)).1 rfl))
           clear q1 q2 q3 c0 c1 c2 c3
           refine Stp.go ?_))
      constructor
      go_wp2_with (
        first
        | (go_at_call 14
           refine (num14 _ _).mono ?_
           rintro e W9 ⟨rfl, q9⟩
           replace q9 := q9.symm
           subst q9
           refine Stp.go ?_))
      constructor
      go_wp2_with fail
      go_ret3
      exact ⟨b, mb, u1, _, _, rfl, Dn.since (w := W0) ⟨⟨unhide HP, unhide HU, (unhide HRR).1, (unhide HRR).2⟩, .inl rfl, .inl rfl, fun i hi => (unhide HUO i hi).imp id (Nat.le_trans (unhide HKA).size), ((unhide HKA).mono (by simp)).trans ((unhide HKB).mono (fun i hi => List.mem_cons_of_mem _ hi))⟩ (unhide HK)⟩
    · have q2a : decide (x.k = 2) = false := by simpa using e2
      have q2b : (x.k == 2) = false := by simpa using e2
      clear e2
      by_cases e3 : x.k = 3
      · have q3a : decide (x.k = 3) = true := by simpa using e3
        have q3b : (x.k == 3) = true := by simpa using e3
        have z1 : ((M.length : Int) == (M.length : Int)) = true := by simp
        clear e3 hnd
        go_enter Try.func9, Try.ntmps9
        go_wp2_with (
          first
          | (refine wpBoxV rfl (.tmp 2) rfl x.C rfl ?_
             intro W0 y e2 B2 h3
             have HY := hide B2
             have HT := hide ((unhide HTW).step0 h3)
             have HK : Hid (Kept [] w W0) := hide h3
             have c0 := fits_cell B2 0 _ rfl
             have c1 := fits_cell B2 1 _ rfl
             have c2 := fits_cell B2 2 _ rfl
             have c3 := fits_cell B2 3 _ rfl
             clear e2 B2 h3 HTW
             refine Stp.go ?_))
        constructor
        go_wp2_with (
          first
          | (go_at_call 23
             refine (clear23 (unhide HT).pg).mono ?_
             rintro e W1 ⟨rfl, h2, h3⟩
             have HP := hide h2
             have HAP := hide (Tw.apart (unhide HT).pg (unhide HT).rp)
             have HR : Hid (Rp W1 r v L) := hide ((unhide HT).rp.step h3 (by simpa using Ne.symm (unhide HAP).1) (fun k hk => by simpa using ((unhide HAP).2.2 k hk).1))
             have HKA := hide h3
             clear h2 h3 c0 c1 c2 c3
             refine Stp.go ?_))
        constructor
        go_wp2_with (
          first
          | (go_at_call 24
             refine (rclear24 (unhide HR)).mono ?_
             rw [show (L.length : Int) = (M.length : Int) by rw [(unhide HT).perm.length_eq]]
             rintro e W2 ⟨rfl, q1, q3⟩
             have HU := hide q1
             have HKB := hide q3
             replace HP := hide ((unhide HP).step q3 (by simpa using (unhide HAP).2.1) (by simpa using (unhide HAP).1))
             clear q1 q3
             refine Stp.go ?_))
        constructor
        go_wp2_with fail
        go_ret3
        exact ⟨b, mb, .slice none 0 0, [], [], rfl, Dn.since (w := W0) ⟨⟨unhide HP, unhide HU, List.Perm.refl _, List.Pairwise.nil⟩, .inl rfl, .inl rfl, (fun i hi => by cases hi), ((unhide HKA).mono (by simp)).trans ((unhide HKB).mono (by simp))⟩ (unhide HK)⟩
      · have q3a : decide (x.k = 3) = false := by simpa using e3
        have q3b : (x.k == 3) = false := by simpa using e3
        clear e3
        by_cases e4 : x.k = 4
        · have q4a : decide (x.k = 4) = true := by simpa using e4
          have q4b : (x.k == 4) = true := by simpa using e4
          clear e4 hnd
          go_enter Try.func9, Try.ntmps9
          go_wp2_with (
            first
            | (refine wpBoxV rfl (.tmp 2) rfl x.C rfl ?_
               intro W0 y e2 B2 h3
               have HY := hide B2
               have HT := hide ((unhide HTW).step0 h3)
               have HK : Hid (Kept [] w W0) := hide h3
               have c0 := fits_cell B2 0 _ rfl
               have c1 := fits_cell B2 1 _ rfl
               have c2 := fits_cell B2 2 _ rfl
               have c3 := fits_cell B2 3 _ rfl
               clear e2 B2 h3 HTW
               refine Stp.go ?_))
          constructor
          go_wp2_with (
            first
            | (go_at_call 25
               refine (copy25 (unhide HT).pg).mono ?_
               rintro e W1 ⟨b2, m2, rfl, h2, h3, h4, h5⟩
               have HC := hide h2
               have HG : Hid (w.heap.size ≤ b2 ∧ w.heap.size ≤ m2) := ⟨Nat.le_trans (unhide HK).size h4, Nat.le_trans (unhide HK).size h5⟩
               have HNE : Hid (b2 ≠ mb ∧ m2 ≠ mb) := by have := (unhide HT).pg.lt; show _ ∧ _; omega
               replace HT := hide ((unhide HT).step0 h3)
               replace HK := hide ((unhide HK).trans h3)
               clear h2 h3 h4 h5 c0 c1 c2 c3
               refine Stp.go ?_))
          constructor
          go_wp2_with (
            first
            | (go_at_call 11
               refine (same11 (unhide HC) (unhide HT).pg).mono ?_
               rw [sameL_refl (unhide HC).map]
               rintro e W2 ⟨rfl, h3⟩
               replace HC := hide ((unhide HC).step h3 (by simp) (by simp))
               replace HT := hide ((unhide HT).step0 h3)
               replace HK := hide ((unhide HK).trans h3)
               clear h3
               refine Stp.go ?_))
          constructor
          go_wp2_with (
            first
            | (go_at_call 13
               refine (mark13 (unhide HT).pg).mono ?_
               rintro e W3 ⟨rfl, h2, h3⟩
               have HP := hide h2
               have HAP := hide (Tw.apart (unhide HT).pg (unhide HT).rp)
               have HR : Hid (Rp W3 r v L) := hide ((unhide HT).rp.step h3 (by simpa using Ne.symm (unhide HAP).1) (fun k hk => by simpa using ((unhide HAP).2.2 k hk).1))
               replace HC := hide ((unhide HC).step h3 (by simpa using (unhide HNE).1) (by simpa using (unhide HNE).2))
               have HKA := hide h3
               clear h2 h3
               refine Stp.go ?_))
          constructor
          go_wp2_with (
            first
            | (go_at_call 17
               refine (disc17 (unhide HP)).mono ?_
               rintro e W4 ⟨rfl, h2, h3⟩
               replace HR := hide ((unhide HR).step h3 (by simpa using Ne.symm (unhide HAP).1) (fun k hk => by simpa using ((unhide HAP).2.2 k hk).1))
               replace HC := hide ((unhide HC).step h3 (by simpa using (unhide HNE).1) (by simpa using (unhide HNE).2))
               replace HKA := hide ((unhide HKA).trans h3)
               clear h2 h3
               refine Stp.go ?_))
          constructor
          go_wp2_with fail
          go_ret3
          exact ⟨b2, m2, v, M, L, rfl, ⟨unhide HC, unhide HR, (unhide HT).perm, (unhide HT).srt⟩, .inr (unhide HG).1, .inr (unhide HG).2, fun i hi => .inl hi, ((unhide HK).mono (by simp)).trans ((unhide HKA).mono (by simp))⟩
        · have q4a : decide (x.k = 4) = false := by simpa using e4
          have q4b : (x.k == 4) = false := by simpa using e4
          clear e4 hnd
          go_enter Try.func9, Try.ntmps9
          go_wp2_with (
            first
            | (refine wpBoxV rfl (.tmp 2) rfl x.C rfl ?_
               intro W0 y e2 B2 h3
               have HY := hide B2
               have HT := hide ((unhide HTW).step0 h3)
               have HK : Hid (Kept [] w W0) := hide h3
               have c0 := fits_cell B2 0 _ rfl
               have c1 := fits_cell B2 1 _ rfl
               have c2 := fits_cell B2 2 _ rfl
               have c3 := fits_cell B2 3 _ rfl
               clear e2 B2 h3 HTW
               refine Stp.go ?_))
          constructor
          go_wp2_with fail
          go_ret3
          exact ⟨b, mb, v, M, L, rfl, unhide HT, .inl rfl, .inl rfl, fun i hi => .inl hi, (unhide HK).mono (by simp)⟩

end Go.Proofs.Ythihladmifpokaa
