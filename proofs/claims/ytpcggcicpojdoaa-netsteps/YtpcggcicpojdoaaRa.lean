/-
  The document's net: find, put.
-/
import Derived.Test.YtpcggcicpojdoaaGy
namespace Go.Proofs.Ytpcggcicpojdoaa
open Go.RowKit

/-- Where the document's net finds a number; -1: nowhere. -/
def findI (k : Int) (L : List Ltr) : Int := match placeOf k L 0 with
  | none => -1
  | some x => x.1
theorem Rt.cell {W : World} {r : Nat} {lv : Value} {R : Nn} (h : Rt W r lv R) : W.cell? ⟨r, 0, none⟩ = some (.int .i64 R.nodes) ∧ W.cell? ⟨r, 1, none⟩ = some lv ∧ W.cell? ⟨r, 2, none⟩ = some (.int .i64 R.last) := ⟨fits_cell h.head 0 _ rfl, fits_cell h.head 1 _ rfl, fits_cell h.head 2 _ rfl⟩
set_option maxHeartbeats 1000000 in
theorem find49 (r : Nat) (lv : Value) (R : Nn) (k : Int) (w : World) (h : Rt w r lv R) (hm : R.L.length ≤ 4096) : Calls Try.prog 49 #[P0 r, .int .i64 k] w fun e w' => e = .returned (.int .i64 (findI k R.L)) ∧ w' = w := by
  have HO := hide h.row
  have hc := h.cell.2.1
  obtain ⟨lo, lc, rfl⟩ := owns_slN h.row
  obtain ⟨L, hL⟩ : ∃ L, R.L = L := ⟨_, rfl⟩
  rw [hL] at hc HO hm ⊢
  clear h
  go_enter Try.func49, Try.ntmps49
  go_wp2
  go_loopw [5] (fun i wr => ∃ j : Nat, j ≤ L.length ∧ i = .int .i64 j ∧ wr = w ∧ Hid (placeOf k (L.drop j) j = placeOf k L 0)) (fun i _ => L.length - (intOf i).toNat)
  case atStart => exact ⟨0, by omega, rfl, rfl, rfl⟩
  case round =>
    obtain ⟨j, hj, rfl, rfl, hp⟩ := hrel
    by_cases hlt : j < L.length
    · obtain ⟨l, hl⟩ : ∃ l, L[j]? = some l := ⟨_, List.getElem?_eq_getElem hlt⟩
      obtain ⟨g, hg, hr⟩ := cellsL_at (unhide HO) hl
      subst hg
      have hcell : wr.cell? ⟨g, j * 4, none⟩ = some (.int .i64 l.num) := hr 0 (.int .i64 l.num) rfl
      have hpd := place_drop (k := k) hl
      have hltI : (j : Int) < L.length := by omega
      clear hr
      by_cases hkl : k = l.num
      · have hres : findI k L = j := by
          unfold findI
          rw [← unhide hp, hpd, if_pos hkl]
        have hb : (l.num == k) = true := by simp [hkl]
        have hd : decide (l.num = k) = true := by simp [hkl]
        clear hpd hp hl
        go_wp2
        go_ret
        exact ⟨by rw [hres]; rfl, rfl⟩
      · have hb : (l.num == k) = false := by simp; exact fun e => hkl e.symm
        have hd : decide (l.num = k) = false := by simp; exact fun e => hkl e.symm
        rw [if_neg hkl] at hpd
        have HP2 := hide (hpd.symm.trans (unhide hp))
        clear hpd hp hl
        go_wp2
        go_roundw
        case rel => exact ⟨j + 1, by omega, by go_num, by first | rfl | trivial, HP2⟩
        case measure => simp [intOf]; omega
    · have hres : findI k L = -1 := by
        unfold findI
        rw [← unhide hp, List.drop_eq_nil_of_le (by omega)]
        rfl
      go_wp2
      go_ret
      exact ⟨by rw [hres]; rfl, rfl⟩
/-- A body in a row that was made since. -/
structure Bof (w W : World) (v : Value) (bs : List Int) : Prop extends Bod W v bs where
  fr : ∀ k, v.ownBlock = some k → w.heap.size ≤ k
theorem Bof.kept {w W W' : World} {v : Value} {bs : List Int} {X : List Nat} (h : Bof w W v bs) (hk : Kept X W W') (hX : ∀ k, v.ownBlock = some k → k ∉ X) : Bof w W' v bs := ⟨h.toBod.kept hk hX, h.fr⟩
/-- What put's region keeps. -/
@[reducible] def S48 (w : World) (r : Nat) (hd : List Value) (L : List Ltr) (k fr to : Int) (bs : List Int) (b : Nat → Bool) (vs : Nat → Value) (W : World) : Prop :=
  (b 19 = false → Kept [] w W ∧
    (b 5 = true → b 16 = false → W.ownsRow w.heap.size 47 4 (vs 5) L.length (cellsL L)) ∧
    (b 13 = true → Bof w W (vs 13) bs) ∧
    (b 14 = true → b 13 = true ∧ vs 14 = aggV (Ltr.C ⟨k, fr, to, vs 13, bs⟩)) ∧
    (b 15 = true → b 16 = false → b 13 = true ∧ ∃ p, vs 15 = .slice (some ⟨p, 0, none⟩) 1 1 ∧ Blk W p 47 (Ltr.C ⟨k, fr, to, vs 13, bs⟩)) ∧
    (b 16 = true → b 13 = true ∧ W.ownsRow w.heap.size 47 4 (vs 16) (L.length + 1) (cellsL L ++ Ltr.C ⟨k, fr, to, vs 13, bs⟩))) ∧
  (b 19 = true → ∃ u lv', Bof w W u bs ∧ W.ownsRow 0 47 4 lv' (L.length + 1) (cellsL L ++ Ltr.C ⟨k, fr, to, u, bs⟩) ∧ Blk W r 60 (hd.set 1 lv') ∧ Kept [r] w W)
theorem S48.loc {w : World} {r : Nat} {hd : List Value} {L : List Ltr} {k fr to : Int} {bs : List Int} : ∀ b b' vs vs' W, (∀ i ∈ [5, 13, 14, 15, 16, 19], b i = b' i ∧ vs i = vs' i) → S48 w r hd L k fr to bs b vs W → S48 w r hd L k fr to bs b' vs' W := by
  intro b b' vs vs' W H h
  have e5 := H 5 (by simp)
  have e13 := H 13 (by simp)
  have e14 := H 14 (by simp)
  have e15 := H 15 (by simp)
  have e16 := H 16 (by simp)
  have e19 := H 19 (by simp)
  unfold S48 at h ⊢
  rw [← e5.1, ← e5.2, ← e13.1, ← e13.2, ← e14.1, ← e14.2, ← e15.1, ← e15.2, ← e16.1, ← e16.2, ← e19.1]
  exact h
theorem S48.step {w W W' : World} {r : Nat} {hd : List Value} {L : List Ltr} {k fr to : Int} {bs : List Int} {b : Nat → Bool} {vs : Nat → Value} (h : S48 w r hd L k fr to bs b vs W) (h19 : b 19 = false) (hk : Kept [] W W') : S48 w r hd L k fr to bs b vs W' := by
  refine ⟨fun _ => ⟨(h.1 h19).1.trans hk, fun h5 h16 => owns_keptX ((h.1 h19).2.1 h5 h16) hk (by simp), fun h13 => ((h.1 h19).2.2.1 h13).kept hk (by simp), (h.1 h19).2.2.2.1, fun h15 h16 => ?_, fun h16 => ?_⟩, fun h9 => by rw [h19] at h9; cases h9⟩
  · obtain ⟨g1, p, g2, g3⟩ := (h.1 h19).2.2.2.2.1 h15 h16
    exact ⟨g1, p, g2, g3.kept hk (by simp)⟩
  · obtain ⟨g1, g2⟩ := (h.1 h19).2.2.2.2.2 h16
    exact ⟨g1, owns_keptX g2 hk (by simp)⟩
theorem vals_cell {w : World} {ao : Option Addr} {m c : Nat} {vs : List Value} (h : Vals w ao m c vs) {ad : Addr} (e : ao = some ad) {j : Nat} {u : Value} (hj : vs[j]? = some u) : w.cell? (ad.add j) = some u := by
  obtain ⟨g, off, e2, hr⟩ := h.lies (fun h0 => by rw [h0] at hj; simp at hj)
  rw [e] at e2
  cases e2
  rw [Addr.add_lit]
  exact hr j u hj
set_option maxHeartbeats 4000000 in
set_option maxRecDepth 100000 in
theorem rput48 (r : Nat) (lv : Value) (R : Nn) (fr to : Int) (ao : Option Addr) (m c : Nat) (bs : List Int) (w : World) (h : Rt w r lv R) (hV : Vals w ao m c (u8s bs)) (hnil : ao = none → m = 0 ∧ c = 0) (hby : ∀ x ∈ bs, 0 ≤ x ∧ x < 256) (hA : bs ≠ [] → ∀ h off, ao = some ⟨h, off, none⟩ → h ≠ r) (hm : m ≤ 512) (hla : 0 ≤ R.last ∧ R.last ≤ 1000000000000) (hmany : R.L.length ≤ 4096) :
    Calls Try.prog 48 #[P0 r, .int .i64 fr, .int .i64 to, .slice ao m c] w fun e w' => ∃ lv' u, e = .returned (.int .i64 (R.last + 1)) ∧ Rt w' r lv' ⟨R.nodes, R.last + 1, R.L ++ [⟨R.last + 1, fr, to, u, bs⟩]⟩ ∧ Kept [r] w w' ∧ ∀ k, u.ownBlock = some k → w.heap.size ≤ k := by
  obtain ⟨lo, lc, rfl, hn, _, hcl⟩ := h.sl
  have hc2 := h.cell.2.2
  have hw : IntKind.i64.wrap (R.last + 1) = R.last + 1 := by rw [IntKind.wrap_i64]; omega
  have HH := hide h.head
  have HRT := hide h
  have HNL := hide hn
  have HNI := hide hnil
  have HBY := hide hby
  have HVW := hide (fun W (hk : Kept [r] w W) => (⟨hV.len, hV.cap, fun hne => by
    obtain ⟨g, off, e, hr⟩ := hV.lies hne
    exact ⟨g, off, e, fun j u hj => hk.cell (hr j u hj) (by simp; exact hA (fun e => hne (by rw [e]; rfl)) g off e)⟩⟩ : Vals W ao m c (u8s bs)))
  clear h hV hA hnil hby hn hcl
  go_enter Try.func48, Try.ntmps48
  go_wp2_with (
    first
    | (refine wpStoreV (T := 2) (b := r) (i := 2) (v := .int .i64 (R.last + 1)) (by rfl) (.tmp 15) (.tmp 13) (by rfl) (by rfl) (by kernel_rfl) (by kernel_rfl) 60 _ (unhide HH) (st2 _ _ _ _ _ _ (unhide HH) (by simp)) ?_
       intro W1 B1 K1
       have HB : Hid (Blk W1 r 60 [.int .i64 R.nodes, .slice lo R.L.length lc, .int .i64 (R.last + 1)]) := B1
       have HK := hide K1
       have HR : Hid (Rt W1 r (.slice lo R.L.length lc) ⟨R.nodes, R.last + 1, R.L⟩) := ⟨B1, owns_keptX (unhide HRT).row K1 (fun k e hm => by simp at hm; subst hm; obtain ⟨cs, hc⟩ := owns_block (unhide HRT).row k e; have h1 := (unhide HRT).head; unfold Blk at h1; rw [h1] at hc; cases hc), fun l hl => ((unhide HRT).body l hl).kept K1 (fun k e hm => by simp at hm; subst hm; obtain ⟨cs, hc⟩ := ((unhide HRT).body l hl).block k e; have h1 := (unhide HRT).head; unfold Blk at h1; rw [h1] at hc; cases hc)⟩
       have HBO : Hid (∀ l ∈ R.L, Bod W1 l.v l.bs) := (unhide HR).body
       have HV := hide (fun W (hk : Kept [] W1 W) => (unhide HVW W1 K1).kept hk (fun _ _ _ => by simp))
       have HCL : Hid (∀ W, Kept [] W1 W → ∀ ad, lo = some ad → ∀ j u, (cellsL R.L)[j]? = some u → W.cell? (ad.add j) = some u) := fun W hk ad e j u hj => by
         obtain ⟨lo', lc', e1, _, _, h9⟩ := ((unhide HR).kept0 hk).sl
         cases e1
         exact h9 ad e j u hj
       clear B1 K1 hc2))
  refine wp_region_any mixed (wpAny_gx 20 rfl (by kernel_rfl) [some (P0 r), some (P0 r), some (P0 r), some (.pointer (some ⟨r, 1, none⟩)), some (.slice lo R.L.length lc), none, some (P0 r), some (P0 r), some (.pointer (some ⟨r, 2, none⟩)), some (.int .i64 (R.last + 1)), some (.int .i64 fr), some (.int .i64 to), some (.slice ao m c), none, none, none, none, some (P0 r), some (.pointer (some ⟨r, 1, none⟩)), none] rfl (by kernel_rfl) (fun l vs W => (S48 W1 r [.int .i64 R.nodes, .slice lo R.L.length lc, .int .i64 (R.last + 1)] R.L (R.last + 1) fr to bs) (fun i => l.getD i false) vs W) (⟨fun _ => ⟨⟨rfl, rfl, rfl, Nat.le_refl _, fun _ _ _ => rfl⟩, (fun h => by cases h), (fun h => by cases h), (fun h => by cases h), (fun h => by cases h), fun h => by cases h⟩, fun h => by cases h⟩) ?_ ?_)
  · intro ix o' hi ho a' w2 l vs hls hlf hJ hout hin hdep hnot
    match ix, ho with
    | 0, ho =>
      obtain rfl := Option.some.inj ho
      have e0 := hout 0 (by kernel_rfl)
      replace e0 : a'.eval (.tmp 0) = _ := e0.trans rfl
      exact wp_move (.tmp 0) rfl _ e0 ⟨_, rfl, told_of rfl, keepG (St := (S48 W1 r [.int .i64 R.nodes, .slice lo R.L.length lc, .int .i64 (R.last + 1)] R.L (R.last + 1) fr to bs)) [5, 13, 14, 15, 16, 19] S48.loc (by omega) (by decide) hJ⟩
    | 1, ho =>
      obtain rfl := Option.some.inj ho
      have e0 := hout 0 (by kernel_rfl)
      replace e0 : a'.eval (.tmp 0) = _ := e0.trans rfl
      exact wp_move (.tmp 0) rfl _ e0 ⟨_, rfl, told_of rfl, keepG (St := (S48 W1 r [.int .i64 R.nodes, .slice lo R.L.length lc, .int .i64 (R.last + 1)] R.L (R.last + 1) fr to bs)) [5, 13, 14, 15, 16, 19] S48.loc (by omega) (by decide) hJ⟩
    | 2, ho =>
      obtain rfl := Option.some.inj ho
      have e0 : a'.eval (.tmp 17) = P0 r := by have h9 := hin 1 17 (by kernel_rfl) (by kernel_rfl); exact h9.1.trans (told_is _ h9.2 rfl)
      exact o_nil (.tmp 17) rfl _ e0 ⟨_, rfl, told_of rfl, keepG (St := (S48 W1 r [.int .i64 R.nodes, .slice lo R.L.length lc, .int .i64 (R.last + 1)] R.L (R.last + 1) fr to bs)) [5, 13, 14, 15, 16, 19] S48.loc (by omega) (by decide) hJ⟩
    | 3, ho =>
      obtain rfl := Option.some.inj ho
      have e0 : a'.eval (.tmp 18) = P0 r := by have h9 := hin 2 18 (by kernel_rfl) (by kernel_rfl); exact h9.1.trans (told_is _ h9.2 rfl)
      exact o_fld60_1 (.tmp 18) rfl _ e0 ⟨_, rfl, told_of rfl, keepG (St := (S48 W1 r [.int .i64 R.nodes, .slice lo R.L.length lc, .int .i64 (R.last + 1)] R.L (R.last + 1) fr to bs)) [5, 13, 14, 15, 16, 19] S48.loc (by omega) (by decide) hJ⟩
    | 4, ho =>
      obtain rfl := Option.some.inj ho
      have e0 : a'.eval (.tmp 19) = .pointer (some ⟨r, 1, none⟩) := by have h9 := hin 3 19 (by kernel_rfl) (by kernel_rfl); exact h9.1.trans (told_is _ h9.2 rfl)
      exact o_load43 (.tmp 19) rfl _ _ e0 (fits_cell ((unhide HB).kept (hJ.1 (hnot 19 (by kernel_rfl))).1 (by simp)) 1 _ rfl) ⟨_, rfl, told_of rfl, keepG (St := (S48 W1 r [.int .i64 R.nodes, .slice lo R.L.length lc, .int .i64 (R.last + 1)] R.L (R.last + 1) fr to bs)) [5, 13, 14, 15, 16, 19] S48.loc (by omega) (by decide) hJ⟩
    | 5, ho =>
      obtain rfl := Option.some.inj ho
      have e0 : a'.eval (.tmp 20) = .slice lo R.L.length lc := by have h9 := hin 4 20 (by kernel_rfl) (by kernel_rfl); exact h9.1.trans (told_is _ h9.2 rfl)
      have hrt := (unhide HR).kept0 (hJ.1 (hnot 19 (by kernel_rfl))).1
      exact o_appG (T := 43) (e := 47) (size := 4) (by8 := 48) (z := aggV zL) Try.sl43 Try.info47 rfl (by decide) (by decide) (.const (.slice none 0 0)) (.tmp 20) rfl W1.heap.size (.slice none 0 0) 0 [] (cellsL R.L) rfl (World.ownsRow_nil _ _ _ _) lo R.L.length lc e0 (unhide HNL) (cellsL_len _) (unhide HCL w2 (hJ.1 (hnot 19 (by kernel_rfl))).1) (cellsL_ones (unhide HBO)) (by omega) ((hJ.1 (hnot 19 (by kernel_rfl))).1).size fun v' w' h2 h3 h5 => by
        have hk3 : Kept [] w2 w' := kept_grow (Kept.refl _ _) h3 (fun k hk => by cases hk)
        have h' := S48.step hJ (hnot 19 (by kernel_rfl)) hk3
        exact ⟨_, rfl, told_no rfl, nextG (St := (S48 W1 r [.int .i64 R.nodes, .slice lo R.L.length lc, .int .i64 (R.last + 1)] R.L (R.last + 1) fr to bs)) (by omega) ⟨fun _ => ⟨(h'.1 (hnot 19 (by kernel_rfl))).1, fun _ _ => (by rw [Nat.zero_add, List.nil_append] at h2; exact h2), (h'.1 (hnot 19 (by kernel_rfl))).2.2.1, (h'.1 (hnot 19 (by kernel_rfl))).2.2.2.1, (h'.1 (hnot 19 (by kernel_rfl))).2.2.2.2.1, fun h16 => by have h9 : l.getD 16 false = true := h16; rw [hnot 16 (by kernel_rfl)] at h9; cases h9⟩, fun h9 => by have h8 : l.getD 19 false = true := h9; rw [hnot 19 (by kernel_rfl)] at h8; cases h8⟩⟩
    | 6, ho =>
      obtain rfl := Option.some.inj ho
      have e0 := hout 0 (by kernel_rfl)
      replace e0 : a'.eval (.tmp 0) = _ := e0.trans rfl
      exact wp_move (.tmp 0) rfl _ e0 ⟨_, rfl, told_of rfl, keepG (St := (S48 W1 r [.int .i64 R.nodes, .slice lo R.L.length lc, .int .i64 (R.last + 1)] R.L (R.last + 1) fr to bs)) [5, 13, 14, 15, 16, 19] S48.loc (by omega) (by decide) hJ⟩
    | 7, ho =>
      obtain rfl := Option.some.inj ho
      have e0 : a'.eval (.tmp 22) = P0 r := by have h9 := hin 6 22 (by kernel_rfl) (by kernel_rfl); exact h9.1.trans (told_is _ h9.2 rfl)
      exact o_nil (.tmp 22) rfl _ e0 ⟨_, rfl, told_of rfl, keepG (St := (S48 W1 r [.int .i64 R.nodes, .slice lo R.L.length lc, .int .i64 (R.last + 1)] R.L (R.last + 1) fr to bs)) [5, 13, 14, 15, 16, 19] S48.loc (by omega) (by decide) hJ⟩
    | 8, ho =>
      obtain rfl := Option.some.inj ho
      have e0 : a'.eval (.tmp 23) = P0 r := by have h9 := hin 7 23 (by kernel_rfl) (by kernel_rfl); exact h9.1.trans (told_is _ h9.2 rfl)
      exact o_fld60_2 (.tmp 23) rfl _ e0 ⟨_, rfl, told_of rfl, keepG (St := (S48 W1 r [.int .i64 R.nodes, .slice lo R.L.length lc, .int .i64 (R.last + 1)] R.L (R.last + 1) fr to bs)) [5, 13, 14, 15, 16, 19] S48.loc (by omega) (by decide) hJ⟩
    | 9, ho =>
      obtain rfl := Option.some.inj ho
      have e0 : a'.eval (.tmp 24) = .pointer (some ⟨r, 2, none⟩) := by have h9 := hin 8 24 (by kernel_rfl) (by kernel_rfl); exact h9.1.trans (told_is _ h9.2 rfl)
      exact o_load2 (.tmp 24) rfl _ _ e0 (fits_cell ((unhide HB).kept (hJ.1 (hnot 19 (by kernel_rfl))).1 (by simp)) 2 _ rfl) ⟨_, rfl, told_of rfl, keepG (St := (S48 W1 r [.int .i64 R.nodes, .slice lo R.L.length lc, .int .i64 (R.last + 1)] R.L (R.last + 1) fr to bs)) [5, 13, 14, 15, 16, 19] S48.loc (by omega) (by decide) hJ⟩
    | 10, ho =>
      obtain rfl := Option.some.inj ho
      have e0 := hout 1 (by kernel_rfl)
      replace e0 : a'.eval (.tmp 1) = _ := e0.trans rfl
      exact wp_move (.tmp 1) rfl _ e0 ⟨_, rfl, told_of rfl, keepG (St := (S48 W1 r [.int .i64 R.nodes, .slice lo R.L.length lc, .int .i64 (R.last + 1)] R.L (R.last + 1) fr to bs)) [5, 13, 14, 15, 16, 19] S48.loc (by omega) (by decide) hJ⟩
    | 11, ho =>
      obtain rfl := Option.some.inj ho
      have e0 := hout 2 (by kernel_rfl)
      replace e0 : a'.eval (.tmp 2) = _ := e0.trans rfl
      exact wp_move (.tmp 2) rfl _ e0 ⟨_, rfl, told_of rfl, keepG (St := (S48 W1 r [.int .i64 R.nodes, .slice lo R.L.length lc, .int .i64 (R.last + 1)] R.L (R.last + 1) fr to bs)) [5, 13, 14, 15, 16, 19] S48.loc (by omega) (by decide) hJ⟩
    | 12, ho =>
      obtain rfl := Option.some.inj ho
      have e0 := hout 3 (by kernel_rfl)
      replace e0 : a'.eval (.tmp 3) = _ := e0.trans rfl
      exact wp_move (.tmp 3) rfl _ e0 ⟨_, rfl, told_of rfl, keepG (St := (S48 W1 r [.int .i64 R.nodes, .slice lo R.L.length lc, .int .i64 (R.last + 1)] R.L (R.last + 1) fr to bs)) [5, 13, 14, 15, 16, 19] S48.loc (by omega) (by decide) hJ⟩
    | 13, ho =>
      obtain rfl := Option.some.inj ho
      have e0 : a'.eval (.tmp 28) = .slice ao m c := by have h9 := hin 12 28 (by kernel_rfl) (by kernel_rfl); exact h9.1.trans (told_is _ h9.2 rfl)
      exact o_appG (T := 34) (e := 5) (size := 1) (by8 := 1) (z := .int .u8 0) Try.sl34 Try.info5 rfl (by decide) (by decide) (.const (.slice none 0 0)) (.tmp 28) rfl W1.heap.size (.slice none 0 0) 0 [] (u8s bs) rfl (World.ownsRow_nil _ _ _ _) ao m c e0 (unhide HNI) (by rw [(unhide HV w2 (hJ.1 (hnot 19 (by kernel_rfl))).1).len]; omega) (fun ad e j u hj => vals_cell (unhide HV w2 (hJ.1 (hnot 19 (by kernel_rfl))).1) e hj) (u8s_one _) (by omega) ((hJ.1 (hnot 19 (by kernel_rfl))).1).size fun v' w' h2 h3 h5 => by
        have hk3 : Kept [] w2 w' := kept_grow (Kept.refl _ _) h3 (fun k hk => by cases hk)
        have h' := S48.step hJ (hnot 19 (by kernel_rfl)) hk3
        have hbn : Bof W1 w' v' bs := ⟨⟨by rw [Nat.zero_add, List.nil_append, ← (unhide HV w2 (hJ.1 (hnot 19 (by kernel_rfl))).1).len, u8s_len] at h2; exact owns_base h2 (Nat.zero_le _), unhide HBY⟩, fun k hk => (h2.lt k hk).1⟩
        exact ⟨_, rfl, told_no rfl, nextG (St := (S48 W1 r [.int .i64 R.nodes, .slice lo R.L.length lc, .int .i64 (R.last + 1)] R.L (R.last + 1) fr to bs)) (by omega) ⟨fun _ => ⟨(h'.1 (hnot 19 (by kernel_rfl))).1, (h'.1 (hnot 19 (by kernel_rfl))).2.1, fun _ => hbn, (fun h14 => by have h9 : l.getD 14 false = true := h14; rw [hnot 14 (by kernel_rfl)] at h9; cases h9), (fun h15 => by have h9 : l.getD 15 false = true := h15; rw [hnot 15 (by kernel_rfl)] at h9; cases h9), fun h16 => by have h9 : l.getD 16 false = true := h16; rw [hnot 16 (by kernel_rfl)] at h9; cases h9⟩, fun h9 => by have h8 : l.getD 19 false = true := h9; rw [hnot 19 (by kernel_rfl)] at h8; cases h8⟩⟩
    | 14, ho =>
      obtain rfl := Option.some.inj ho
      have e0 : a'.eval (.tmp 25) = .int .i64 (R.last + 1) := by have h9 := hin 9 25 (by kernel_rfl) (by kernel_rfl); exact h9.1.trans (told_is _ h9.2 rfl)
      have e1 : a'.eval (.tmp 26) = .int .i64 fr := by have h9 := hin 10 26 (by kernel_rfl) (by kernel_rfl); exact h9.1.trans (told_is _ h9.2 rfl)
      have e2 : a'.eval (.tmp 27) = .int .i64 to := by have h9 := hin 11 27 (by kernel_rfl) (by kernel_rfl); exact h9.1.trans (told_is _ h9.2 rfl)
      have e3 : a'.eval (.tmp 29) = vs 13 := (hin 13 29 (by kernel_rfl) (by kernel_rfl)).1
      have hj13 := (hJ.1 (hnot 19 (by kernel_rfl))).2.2.1 (hdep 13 (by kernel_rfl))
      obtain ⟨a13, c13, hv13, _⟩ := hj13.sl
      exact wp_buildP #[(0, .tmp 25), (1, .tmp 26), (2, .tmp 27), (3, .tmp 29)] rfl #[(0, .int .i64 (R.last + 1)), (1, .int .i64 fr), (2, .int .i64 to), (3, vs 13)] (by simp [e0, e1, e2, e3]) (Ltr.C ⟨R.last + 1, fr, to, vs 13, bs⟩) (by rw [hv13]; unfold Ltr.C; kernel_rfl) ⟨_, rfl, told_no rfl, nextG (St := (S48 W1 r [.int .i64 R.nodes, .slice lo R.L.length lc, .int .i64 (R.last + 1)] R.L (R.last + 1) fr to bs)) (by omega) ⟨fun h9 => ⟨(hJ.1 h9).1, (hJ.1 h9).2.1, (hJ.1 h9).2.2.1, fun _ => ⟨hdep 13 (by kernel_rfl), rfl⟩, (hJ.1 h9).2.2.2.2.1, (hJ.1 h9).2.2.2.2.2⟩, hJ.2⟩⟩
    | 15, ho =>
      obtain rfl := Option.some.inj ho
      have e0 : a'.eval (.tmp 30) = vs 14 := (hin 14 30 (by kernel_rfl) (by kernel_rfl)).1
      have hj14 := (hJ.1 (hnot 19 (by kernel_rfl))).2.2.2.1 (hdep 14 (by kernel_rfl))
      refine o_bsL (.tmp 30) rfl (.int .i64 (R.last + 1)) (.int .i64 fr) (.int .i64 to) (vs 13) (e0.trans hj14.2) ?_
      have h' := S48.step hJ (hnot 19 (by kernel_rfl)) ((Kept.refl [] w2).alloc (.cells [Value.int .i64 (R.last + 1), .int .i64 fr, .int .i64 to, vs 13].toArray 47))
      exact ⟨_, rfl, told_no rfl, nextG (St := (S48 W1 r [.int .i64 R.nodes, .slice lo R.L.length lc, .int .i64 (R.last + 1)] R.L (R.last + 1) fr to bs)) (by omega) ⟨fun _ => ⟨(h'.1 (hnot 19 (by kernel_rfl))).1, (h'.1 (hnot 19 (by kernel_rfl))).2.1, (h'.1 (hnot 19 (by kernel_rfl))).2.2.1, (h'.1 (hnot 19 (by kernel_rfl))).2.2.2.1, fun _ _ => ⟨hj14.1, w2.heap.size, rfl, Blk.new w2 47 _⟩, fun h16 => by have h9 : l.getD 16 false = true := h16; rw [hnot 16 (by kernel_rfl)] at h9; cases h9⟩, fun h9 => by have h8 : l.getD 19 false = true := h9; rw [hnot 19 (by kernel_rfl)] at h8; cases h8⟩⟩
    | 16, ho =>
      obtain rfl := Option.some.inj ho
      have e0 : a'.eval (.tmp 21) = vs 5 := (hin 5 21 (by kernel_rfl) (by kernel_rfl)).1
      have e1 : a'.eval (.tmp 31) = vs 15 := (hin 15 31 (by kernel_rfl) (by kernel_rfl)).1
      have h5 := (hJ.1 (hnot 19 (by kernel_rfl))).2.1 (hdep 5 (by kernel_rfl)) hlf
      obtain ⟨g13, p, hv15, hB15⟩ := (hJ.1 (hnot 19 (by kernel_rfl))).2.2.2.2.1 (hdep 15 (by kernel_rfl)) hlf
      have hb13 := (hJ.1 (hnot 19 (by kernel_rfl))).2.2.1 g13
      exact o_appG (T := 43) (e := 47) (size := 4) (by8 := 48) (z := aggV zL) Try.sl43 Try.info47 rfl (by decide) (by decide) (.tmp 21) (.tmp 31) rfl W1.heap.size (vs 5) R.L.length (cellsL R.L) (Ltr.C ⟨R.last + 1, fr, to, vs 13, bs⟩) e0 h5 (some ⟨p, 0, none⟩) 1 1 (e1.trans hv15) (fun e => by cases e) rfl (fun ad e j u hj => by cases e; rw [Addr.add_lit, Nat.zero_add, hB15.cell]; exact hj) (D_one (l := ⟨R.last + 1, fr, to, vs 13, bs⟩) hb13.one) (by omega) ((hJ.1 (hnot 19 (by kernel_rfl))).1).size fun v' w' h2 h3 _ => by
        have hk3 : Kept (vs 5).ownBlock.toList w2 w' := kept_grow (Kept.refl _ _) h3 (fun k hk => by rw [hk]; simp)
        have hb' : Bof W1 w' (vs 13) bs := hb13.kept hk3 (fun k hk hm => by rw [Option.mem_toList] at hm; obtain ⟨cs, hc⟩ := hb13.block k hk; obtain ⟨cs', hc'⟩ := owns_block h5 k hm; rw [hc'] at hc; cases hc)
        exact ⟨_, rfl, told_no rfl, nextG (St := (S48 W1 r [.int .i64 R.nodes, .slice lo R.L.length lc, .int .i64 (R.last + 1)] R.L (R.last + 1) fr to bs)) (by omega) ⟨fun _ => ⟨(hJ.1 (hnot 19 (by kernel_rfl))).1.fresh hk3 (fun i hi hl => by rw [Option.mem_toList] at hi; have := (h5.lt i hi).1; omega), (fun _ h => by cases h), fun _ => hb', (hJ.1 (hnot 19 (by kernel_rfl))).2.2.2.1, (fun _ h => by cases h), fun _ => ⟨g13, h2⟩⟩, fun h9 => by have h8 : l.getD 19 false = true := h9; rw [hnot 19 (by kernel_rfl)] at h8; cases h8⟩⟩
    | 17, ho =>
      obtain rfl := Option.some.inj ho
      have e0 : a'.eval (.tmp 16) = P0 r := by have h9 := hin 0 16 (by kernel_rfl) (by kernel_rfl); exact h9.1.trans (told_is _ h9.2 rfl)
      exact o_nil (.tmp 16) rfl _ e0 ⟨_, rfl, told_of rfl, keepG (St := (S48 W1 r [.int .i64 R.nodes, .slice lo R.L.length lc, .int .i64 (R.last + 1)] R.L (R.last + 1) fr to bs)) [5, 13, 14, 15, 16, 19] S48.loc (by omega) (by decide) hJ⟩
    | 18, ho =>
      obtain rfl := Option.some.inj ho
      have e0 : a'.eval (.tmp 33) = P0 r := by have h9 := hin 17 33 (by kernel_rfl) (by kernel_rfl); exact h9.1.trans (told_is _ h9.2 rfl)
      exact o_fld60_1 (.tmp 33) rfl _ e0 ⟨_, rfl, told_of rfl, keepG (St := (S48 W1 r [.int .i64 R.nodes, .slice lo R.L.length lc, .int .i64 (R.last + 1)] R.L (R.last + 1) fr to bs)) [5, 13, 14, 15, 16, 19] S48.loc (by omega) (by decide) hJ⟩
    | 19, ho =>
      obtain rfl := Option.some.inj ho
      have e0 : a'.eval (.tmp 34) = .pointer (some ⟨r, 1, none⟩) := by have h9 := hin 18 34 (by kernel_rfl) (by kernel_rfl); exact h9.1.trans (told_is _ h9.2 rfl)
      have e1 : a'.eval (.tmp 32) = vs 16 := (hin 16 32 (by kernel_rfl) (by kernel_rfl)).1
      obtain ⟨g13, hO⟩ := (hJ.1 hlf).2.2.2.2.2 (hdep 16 (by kernel_rfl))
      have hb13 := (hJ.1 hlf).2.2.1 g13
      have hB9 := (unhide HB).kept (hJ.1 hlf).1 (by simp)
      exact o_st43 (.tmp 34) (.tmp 32) rfl rfl r 1 60 _ (vs 16) e0 e1 (owns_slN' hO) hB9 (by simp) fun W hBW hkW => ⟨_, rfl, told_no rfl, nextG (St := (S48 W1 r [.int .i64 R.nodes, .slice lo R.L.length lc, .int .i64 (R.last + 1)] R.L (R.last + 1) fr to bs)) (by omega) ⟨(fun h => by cases h), fun _ => ⟨vs 13, vs 16, hb13.kept hkW (fun k hk hm => by simp at hm; subst hm; obtain ⟨cs, hc⟩ := hb13.block k hk; unfold Blk at hB9; rw [hB9] at hc; cases hc), owns_base (owns_keptX hO hkW (fun k hk hm => by simp at hm; subst hm; obtain ⟨cs, hc⟩ := owns_block hO k hk; unfold Blk at hB9; rw [hB9] at hc; cases hc)) (Nat.zero_le _), hBW, ((hJ.1 hlf).1.mono (by simp)).trans hkW⟩⟩⟩
  intro l vs w9 hl hJ htold
  have t0 : vs 0 = P0 r := told_is _ (htold 0 (by decide)) rfl
  have t1 : vs 1 = P0 r := told_is _ (htold 1 (by decide)) rfl
  have t2 : vs 2 = P0 r := told_is _ (htold 2 (by decide)) rfl
  have t3 : vs 3 = .pointer (some ⟨r, 1, none⟩) := told_is _ (htold 3 (by decide)) rfl
  have t4 : vs 4 = .slice lo R.L.length lc := told_is _ (htold 4 (by decide)) rfl
  have t6 : vs 6 = P0 r := told_is _ (htold 6 (by decide)) rfl
  have t7 : vs 7 = P0 r := told_is _ (htold 7 (by decide)) rfl
  have t8 : vs 8 = .pointer (some ⟨r, 2, none⟩) := told_is _ (htold 8 (by decide)) rfl
  have t9 : vs 9 = .int .i64 (R.last + 1) := told_is _ (htold 9 (by decide)) rfl
  have t10 : vs 10 = .int .i64 fr := told_is _ (htold 10 (by decide)) rfl
  have t11 : vs 11 = .int .i64 to := told_is _ (htold 11 (by decide)) rfl
  have t12 : vs 12 = .slice ao m c := told_is _ (htold 12 (by decide)) rfl
  have t17 : vs 17 = P0 r := told_is _ (htold 17 (by decide)) rfl
  have t18 : vs 18 = .pointer (some ⟨r, 1, none⟩) := told_is _ (htold 18 (by decide)) rfl
  rw [show (List.range 20).map vs = [vs 0, vs 1, vs 2, vs 3, vs 4, vs 5, vs 6, vs 7, vs 8, vs 9, vs 10, vs 11, vs 12, vs 13, vs 14, vs 15, vs 16, vs 17, vs 18, vs 19] from rfl]
  simp only [t0, t1, t2, t3, t4, t6, t7, t8, t9, t10, t11, t12, t17, t18, putAll, Act.put, List.setIfInBounds_toArray, List.set_cons_succ, List.set_cons_zero]
  clear t0 t1 t2 t3 t4 t6 t7 t8 t9 t10 t11 t12 t17 t18 htold
  obtain ⟨u, lv', hBu, hO, hB9, hK9⟩ := hJ.2 (hl 19 (by decide))
  have hB9' : Blk w9 r 60 [.int .i64 R.nodes, lv', .int .i64 (R.last + 1)] := hB9
  have hc9 := fits_cell hB9' 2 _ rfl
  have HBU := hide hBu
  have HO9 := hide hO
  have HB9 := hide hB9'
  have HK9 := hide hK9
  clear hJ hl hBu hO hB9 hB9' hK9
  go_wp2_with fail
  go_ret
  refine ⟨lv', u, rfl, ⟨unhide HB9, ?_, fun l hl => ?_⟩, (unhide HK).trans (unhide HK9), fun k hk => by have h1 := (unhide HK).size; have h2 := (unhide HBU).fr k hk; omega⟩
  · show w9.ownsRow 0 47 4 lv' (R.L ++ [(⟨R.last + 1, fr, to, u, bs⟩ : Ltr)]).length (cellsL (R.L ++ [(⟨R.last + 1, fr, to, u, bs⟩ : Ltr)]))
    rw [List.length_append, cellsL_app, cellsL_one]
    exact unhide HO9
  · rcases List.mem_append.1 hl with hl | hl
    · exact (unhide HBO l hl).kept (unhide HK9) (fun k e hm => by simp at hm; subst hm; obtain ⟨cs, hc⟩ := (unhide HBO l hl).block k e; have h1 := unhide HB; unfold Blk at h1; rw [h1] at hc; cases hc)
    · simp at hl
      subst hl
      exact (unhide HBU).toBod

end Go.Proofs.Ytpcggcicpojdoaa
