/-
  The walk of the law WireLists.
-/
import Derived.Test.YtaljkpndfjfgdaaForm
import Derived.Test.YtaljkpndfjfgdaaTakep
import Derived.Test.YtaljkpndfjfgdaaSlab
import Derived.Deep.QuietTactic
import Derived.BigQuiet
import Derived.ChangeKeysEq
namespace Go.Proofs.Ytaljkpndfjfgdaa
open Go.RowKit
attribute [local go_sem ↓] Go.wp_at_zero Go.wp_at_succ

theorem Try.under59 : Try.prog.underlying 59 = some (.array 2 22) := by kernel_rfl
theorem Try.under22 : Try.prog.underlying 22 = some (.int .u64) := by kernel_rfl
theorem Try.cells22 : Try.prog.cellsOf 22 = 1 := by kernel_rfl
theorem eq22 (W : World) (d : Nat) (x : Int) : (Op.equalIn (d + 1) 22 (.int .u64 x) (.int .u64 x)).run Try.prog W = .ok true W := by simp [Op.equalIn]
theorem eq59 (W : World) (a b : Int) : (Op.equalIn 10000 59 (.agg #[.int .u64 a, .int .u64 b]) (.agg #[.int .u64 a, .int .u64 b])).run Try.prog W = .ok true W := by
  obtain ⟨i0, hi, hz0, hz1, hz2⟩ := info_parts Try.info22
  rw [run_equalIn_array W 9999 _ _ Try.under59 hi, Try.cells22]
  have h1 : ∀ x : Int, (Op.equalIn 9999 22 (.int .u64 x) (.int .u64 x)).run Try.prog W = .ok true W := fun x => eq22 W 9998 x
  have h2 : ∀ (xs : Array Value) (j : Nat) (v : Value), xs[j]? = some v → (part 22 xs j).run Try.prog W = .ok v W := by
    intro xs j v hj
    simp [part, isAgg, run_underlying Try.under22, hj]
  rw [show List.range 2 = [0, 1] from rfl]
  simp only [Op.eqItems, Sem.run_bind]
  rw [h2 _ _ (.int .u64 a) (by simp)]
  simp only [Result.andThen_ok]
  rw [h2 _ _ (.int .u64 a) (by simp)]
  simp only [Result.andThen_ok]
  rw [h1 a]
  simp only [Result.andThen_ok, Bool.not_true, Bool.false_eq_true, if_false, Sem.run_bind]
  rw [h2 _ _ (.int .u64 b) (by simp)]
  simp only [Result.andThen_ok]
  rw [h2 _ _ (.int .u64 b) (by simp)]
  simp only [Result.andThen_ok]
  rw [h1 b]
  simp

/-- The first of some pairs. -/
theorem H2.front {w : World} {ao : Option Addr} {m c : Nat} {l r : List (Nat × Nat)} (h : H2 w ao m c (l ++ r)) (ha : ao ≠ none) : H2 w ao l.length c l := by
  refine ⟨rfl, ?_, fun e => absurd e ha, ?_⟩
  · have h1 := h.1; have h2 := h.2.1; rw [List.length_append] at h1; omega
  · intro ad had j u hj
    refine h.2.2.2 ad had j u ?_
    rw [p2s_app, List.getElem?_append_left (List.getElem?_eq_some_iff.1 hj).1]
    exact hj

theorem h2_seven (w : World) : H2 (w.alloc (.cells #[.int .u64 7, .int .u64 71] 59)) (some ⟨w.heap.size, 0, none⟩) 1 1 [(7, 71)] := h2_built w 7 71 59

theorem H2.pair0 {w : World} {g m c : Nat} {l : List (Nat × Nat)} (h : H2 w (some ⟨g, 0, none⟩) m c l) (i : Nat) (p : Nat × Nat) (hi : l[i]? = some p) :
    w.cell? ⟨g, i * 2, none⟩ = some (.int .u64 (p.1 : Int)) ∧ w.cell? ⟨g, i * 2 + 1, none⟩ = some (.int .u64 (p.2 : Int)) := by
  have h1 := h.pair i p hi
  rwa [Nat.zero_add] at h1

theorem Holds.keep1 {w w' : World} {gb m c b : Nat} {l : List Int} (h : Holds w (some ⟨gb, 0, none⟩) m c l) (hg : w.grownBy w' (some b)) (hne : gb < b) : Holds w' (some ⟨gb, 0, none⟩) m c l := by
  refine ⟨h.1, h.2.1, h.2.2.1, ?_⟩
  intro ad had j u hj
  refine hg.cell (h.2.2.2 ad had j u hj) ?_
  cases had
  rw [Addr.add_lit]
  intro e
  have := Option.some.inj e
  simp only at this
  omega

set_option maxHeartbeats 4000000 in
set_option maxRecDepth 100000 in
theorem lists6 (lo : Option Addr) (lm lc : Nat) (l : List (Nat × Nat)) (cut : Int) (w : World) (h : H2 w lo lm lc l) (hs : Small l) (hl : lm ≤ 1048576) (hc1 : -9223372036854775808 ≤ cut) (hc2 : cut ≤ 9223372036854775807) :
    Calls Try.prog 6 #[.slice lo lm lc, .int .i64 cut] w fun e w' => e = .returned (.bool true) ∧ Below w.heap.size w w' := by
  have hlm := hide h.1
  have hll : l.length ≤ 1048576 := by have := hlm.out; omega
  have hfl : (forms l).length ≤ 20971520 := by have := forms_len l hs; omega
  have hL1 := num_len (n := lm) (by omega)
  have hP1 := num_pos lm
  go_enter Try.func6, Try.ntmps6
  go_wp2_with (at_builtin; go_must (refine wpApp58 rfl _ _ rfl w.heap.size _ [] rfl _ _ _ rfl l (World.ownsRow_nil _ _ _ _) h ?_ ?_ ?_))
  · simp; omega
  · simp
  intro v1 w1 hown1 hg1
  have hW1 : Below w.heap.size w w1 := (Below.refl w.heap.size w).grown hg1 (by simp) (by intro k hk; cases hk)
  have hs11 := hg1.size
  clear hg1
  go_wp2_with (at_builtin; go_must (refine wpApp58 rfl _ _ rfl w.heap.size _ l rfl _ _ _ rfl [(7, 71)] (hown1.alloc _) (h2_seven _) ?_ ?_ ?_))
  · simp; omega
  · simp; omega
  intro v2 w2 hown2 hg2
  have hW2 : Below w.heap.size w w2 := (hW1.alloc (by omega) _).grown hg2 (by simp; omega) (by intro k hk; have := (hown1.lt k hk).1; omega)
  obtain ⟨mo, mc, hv, hm2, hml⟩ := Own2.form hown2
  obtain ⟨g, hmo, hg3, hg4⟩ := hml.resolve_left (by simp)
  subst hmo
  have hlen2 : (l ++ [(7, 71)]).length = lm + 1 := by have := hlm.out; simp; omega
  rw [hlen2] at hv hm2
  subst hv
  have hmc : lm + 1 ≤ mc := hm2.2.1
  have hfr := hm2.front (by simp)
  rw [hlm.out] at hfr
  clear hg2 hown1 hW1 hs11 hown2 hml hlen2
  have hi1 : (lm : Int) ≤ (mc : Int) := by omega
  go_wp2_with fail
  refine (put29 _ lm mc l w2 hfr hs (by omega)).mono ?_
  rintro e w3 ⟨bo, bm, bc, rfl, hb3, hB3⟩
  have hW3 := hW2.trans (hB3.mono hW2.size)
  have hm3 := hm2.below hB3
  have hl3 := h.below hW3
  have hbm := hide hb3.1
  obtain ⟨gb, rfl⟩ : ∃ gb, bo = some ⟨gb, 0, none⟩ := by
    rcases Owns.shape hb3.2 with ⟨_, hz⟩ | ⟨gb, cap, hv, _⟩
    · have hz2 := congrArg List.length hz; rw [List.length_append, List.length_nil] at hz2; omega
    · cases hv; exact ⟨gb, rfl⟩
  have hgb3 : gb < w3.heap.size := hb3.lt gb rfl
  have hbl : bm ≤ 20971530 := by have := hbm.out; simp at this; omega
  have hyF : Byt (num lm ++ forms l) := byt_app (byt_num _) (byt_forms _)
  have hlast := hm3.pair0 lm (7, 71) (by have := hlm.out; rw [List.getElem?_append_right (by omega), this, Nat.sub_self]; rfl)
  obtain ⟨c0, c1⟩ : w3.cell? ⟨g, lm * 2, none⟩ = some (.int .u64 7) ∧ w3.cell? ⟨g, lm * 2 + 1, none⟩ = some (.int .u64 71) := hlast
  have hq := eq59
  clear hm2 hfr hB3 hW2
  go_wp2_with (first | (go_at_call 23; refine (num_err _ _).mono ?_; rintro e w' ⟨rfl, hw⟩; obtain rfl : _ = w' := hw.symm; clear hw))
  clear c0 c1
  refine (refNumber_any lm _ (by omega)).mono ?_
  rintro e w4 ⟨no, nm, nc, rfl, hn4, hB4⟩
  have hO4 := hn4.2
  clear hn4
  go_wp2
  go_loopw [8, 9] (fun v i wr => ∃ k : Nat, k ≤ lm ∧ i = .int .i64 k ∧ Owns wr w3.heap.size v (num lm ++ forms (l.take k)) ∧ Below w3.heap.size w3 wr) (fun _ i _ => lm - (intOf i).toNat)
  case atStart => exact ⟨0, by omega, rfl, by simpa [forms] using hO4, hB4⟩
  case round =>
    obtain ⟨k, hk, rfl, hown, hb⟩ := hrel
    have hsz := hb.size
    by_cases hlt : k < lm
    · obtain ⟨p, hp⟩ : ∃ p, l[k]? = some p := ⟨_, List.getElem?_eq_getElem (by rw [hlm.out]; exact hlt)⟩
      obtain ⟨gl, off, rfl⟩ := h.lit.resolve_left (by intro e; rw [e] at hp; simp at hp)
      obtain ⟨c0, c1⟩ := (hl3.below hb).pair k p hp
      obtain ⟨d0, d1⟩ := (hm3.below hb).pair0 k p (by rw [List.getElem?_append_left (by have := hlm.out; omega)]; exact hp)
      have hft := hide (forms_take l k p hp)
      have hfl3 := forms_take_le l (k + 1)
      rw [hft.out] at hfl3
      have hps := hs p (List.mem_of_getElem? hp)
      have hpp := hide hp
      clear hp
      revert hown hft hfl3
      generalize forms (l.take k) = F
      intro hown hft hfl3
      obtain ⟨a, b⟩ := p
      simp only at c0 c1 d0 d1 hft hfl3 hps
      have hi2 : (k : Int) < (lm : Int) := by omega
      have hi3 : (k : Int) < ((lm + 1 : Nat) : Int) := by omega
      go_wp2
      go_quiet (fail)
      have u0 : (wr.drewN nq).drew.cell? ⟨gl, off + k * 2, none⟩ = some (.int .u64 (a : Int)) := c0
      have u1 : (wr.drewN nq).drew.cell? ⟨gl, off + k * 2 + 1, none⟩ = some (.int .u64 (b : Int)) := c1
      have o0 : Owns (wr.drewN nq).drew w3.heap.size u8 (num lm ++ F) := hown
      have hB0 : Below w3.heap.size w3 (wr.drewN nq).drew := ⟨hb.os, hb.tape, hb.output, hb.size, hb.block⟩
      have hgl : gl < w3.heap.size := World.block_lt_of_cell? _ _ (hl3.pair k (a, b) hpp.out).1
      have ha := hps.1
      have hb' := hps.2
      have hpa := num_pos a
      have hpb := num_pos b
      have hlx : (num lm ++ F).length + (num a).length ≤ 140737488355328 ∧ ((num lm ++ F) ++ num a).length + (num b).length ≤ 140737488355328 := by simp at hfl3 ⊢; omega
      have t0 : (wr.drewN nq).cell? ⟨gl, off + k * 2, none⟩ = some (.int .u64 (a : Int)) := c0
      have t1 : (wr.drewN nq).cell? ⟨gl, off + k * 2 + 1, none⟩ = some (.int .u64 (b : Int)) := c1
      clear d0 d1 hown hb
      go_wp2
      have mark : True := trivial
      go_region_held3 (fun w' => w'.cell? ⟨gl, off + k * 2, none⟩ = some (.int .u64 (a : Int)) ∧ w'.cell? ⟨gl, off + k * 2 + 1, none⟩ = some (.int .u64 (b : Int))) (go_keep)
        (first
          | (go_at_call 12; clear mark; refine (refNumber_any a _ ha).mono ?_; rintro e x1 ⟨ao1, m1, c1, rfl, hown1, hb1⟩; have k0 := Below.keeps hb1 _ _ u0; have k1 := Below.keeps hb1 _ _ u1; have o1 : Owns x1 w3.heap.size u8 (num lm ++ F) := World.ownsRow.kept o0 (below_grown hb1) (by cases u8.ownBlock with | none => exact .inl rfl | some k => exact .inr (by simp)); have s1 := hown1.held; have hB1 := hB0.trans (hb1.mono hB0.size))
          | (refine opAppOn _ _ (by rfl) _ _ _ (by rfl) _ _ _ (by rfl) _ o1 s1 hpa hlx.1 hB1.size ?_; intro v2 x2 o2 g2; have z0 := g2.cell k0 (by intro e; have := (o1.lt _ e.symm).1; simp at this; omega); have z1 := g2.cell k1 (by intro e; have := (o1.lt _ e.symm).1; simp at this; omega); have hB2 := rel_app o1 hB1 (Nat.le_refl _) g2)
          | (go_at_call 12; refine (refNumber_any b _ hb').mono ?_; rintro e x3 ⟨ao3, m3, c3, rfl, hown3, hb3'⟩; have n0 := Below.keeps hb3' _ _ z0; have n1 := Below.keeps hb3' _ _ z1; have o3 : Owns x3 w3.heap.size v2 ((num lm ++ F) ++ num a) := World.ownsRow.kept o2 (below_grown hb3') (by cases v2.ownBlock with | none => exact .inl rfl | some k => exact .inr (by simp)); have s3 := hown3.held; have hB3 := hB2.trans (hb3'.mono hB2.size))
          | (refine opAppOn _ _ (by rfl) _ _ _ (by rfl) _ _ _ (by rfl) _ o3 s3 hpb hlx.2 hB3.size ?_; intro v4 x4 o4 g4; have y0 := g4.cell n0 (by intro e; have := (o3.lt _ e.symm).1; simp at this; omega); have y1 := g4.cell n1 (by intro e; have := (o3.lt _ e.symm).1; simp at this; omega); have hB4' := rel_app o3 hB3 (Nat.le_refl _) g4))
      have ho4 : Owns x4 w3.heap.size v4 (num lm ++ forms (l.take (k + 1))) := by
        rw [hft.out]
        have := owns_of o4
        rwa [List.append_assoc, List.append_assoc] at this
      have HB := hide hB4'
      clear y0 y1 n0 n1 z0 z1 k0 k1 u0 u1 t0 t1 c0 o0 o1 o2 o3 o4 s1 s3 hB1 hB2 hB3 hB4' g2 g4 hb1 hb3' hown1 hown3 hB0
      go_wp2
      go_roundw
      case rel => exact ⟨k + 1, by omega, by go_num, ho4, HB.out⟩
      case measure => simp [intOf]; omega
    · obtain rfl : lm = k := by omega
      rw [List.take_of_length_le (by have := hlm.out; omega)] at hown
      obtain ⟨vo, vc, hv, hvh⟩ := Owns.holds hown
      rw [← hbm.out] at hv hvh
      subst hv
      have hWr := hW3.trans (hb.mono hW3.size)
      have hbr := (hb3.held).below hb
      clear hq hm3 hB4 hO4 hown
      go_wp2_with fail
      refine (open_any _ bm bc _ wr hbr (by omega) hyF).mono ?_
      rintro e w5 ⟨b, g5, rfl, hb5, hg5, hr5, hB5⟩
      have hW5 := hide (hWr.trans (hB5.mono hWr.size))
      have cb := conv_all (hbr.below hB5)
      have cv := conv_all (hvh.below hB5)
      have hb5' := hide (hbr.below hB5)
      have hl5 := hide (h.below hW5.out)
      have hgb : gb < b := by omega
      have hwb : w.heap.size ≤ b := Nat.le_trans hWr.size hb5
      clear hvh hbr hb5 hB5 hg5 hWr hb hl3 hb3 hW3
      by_cases h0 : 0 < lm
      · have hT := take31 b g5 _ w5 hr5 ((lm : Int) - 1) (by omega) (by have := hbm.out; omega)
        rw [show rdTake2 ((lm : Int) - 1) (num lm ++ forms l) = ([], 3, num lm ++ forms l) by have := rdTake2_long l (forms l) hll (by have := hlm.out; omega); rw [hlm.out] at this; exact this] at hT
        have HT := hide hT
        clear hT
        go_wp2_with fail
        refine (unhide HT).mono ?_
        rintro e w6 ⟨eo, em, ec, rfl, he6, hx6, hr6, hg6⟩
        obtain rfl : 0 = em := he6.symm
        have hL6 := left_rd b g5 _ w6 hr6
        rw [← hbm.out] at hL6
        have HL6 := hide hL6
        have hR6 := hide hr6
        have hW6 := hide (hW5.out.grown hg6 hW5.out.size (by intro k hk; cases hk; exact hwb))
        have hb6 := hide (hb5'.out.keep1 hg6 hgb)
        clear he6 HT hx6 hg6 hL6 cb cv hW5 hb5' hl5 hr5 hr6
        go_wp2_with (first
          | (go_at_call 23; refine (num_err _ _).mono ?_; rintro e w' ⟨rfl, hw⟩; obtain rfl : _ = w' := hw.symm; clear hw)
          | (go_at_call 21; refine (unhide HL6).mono ?_; rintro e w' ⟨rfl, hw⟩; obtain rfl : _ = w' := hw.symm; clear hw))
        clear HL6
        have hT := take31 b g5 _ w6 hR6.out (lm : Int) (by omega) (by have := hbm.out; omega)
        rw [show rdTake2 (lm : Int) (num lm ++ forms l) = (l, 0, []) by have := rdTake2_ok l hs hll; rw [hlm.out] at this; exact this] at hT
        have HT := hide hT
        clear hT
        refine (unhide HT).mono ?_
        rintro e w7 ⟨xo, xm, xc, rfl, hx7, hy7, hr7, hg7⟩
        rw [hlm.out] at hx7
        obtain rfl : lm = xm := hx7.symm
        obtain ⟨xo', xc', hv, hy8, _⟩ := Own2.form hy7
        rw [hlm.out] at hv hy8
        cases hv
        have hL7 := hide (left_rd b g5 _ w7 hr7)
        have hW7 := hide (hW6.out.grown hg7 hW6.out.size (by intro k hk; cases hk; exact hwb))
        have hb7 := hide (hb6.out.keep1 hg7 hgb)
        have hl7 := hide (h.below hW7.out)
        have hx8 := hide hy8
        clear HT hg7 hy7 hr7 hW6 hb6 hR6 hy8
        go_wp2_with (first
          | (go_at_call 23; refine (num_err _ _).mono ?_; rintro e w' ⟨rfl, hw⟩; obtain rfl : _ = w' := hw.symm; clear hw)
          | (go_at_call 21; refine (unhide hL7).mono ?_; rintro e w' ⟨rfl, hw⟩; obtain rfl : _ = w' := hw.symm; clear hw))
        clear hL7
        have hq := eq59
        go_loopw [15] (fun i wr => ∃ k : Nat, k ≤ lm ∧ i = .int .i64 k ∧ Hid (Below w.heap.size w wr) ∧ Hid (Holds wr (some ⟨gb, 0, none⟩) bm bc (num lm ++ forms l)) ∧ Hid (H2 wr lo lm lc l) ∧ Hid (H2 wr xo lm xc l)) (fun i _ => lm - (intOf i).toNat)
        case atStart => exact ⟨0, by omega, rfl, hW7, hb7, hl7, hx8⟩
        case round =>
          clear hW7 hb7 hl7 hx8
          obtain ⟨k, hk2, rfl, hWk, hbk, hlk, hxk⟩ := hrel
          by_cases hlt2 : k < lm
          · obtain ⟨p, hp⟩ : ∃ p, l[k]? = some p := ⟨_, List.getElem?_eq_getElem (by rw [hlm.out]; exact hlt2)⟩
            obtain ⟨gl, off, rfl⟩ := h.lit.resolve_left (by intro e; rw [e] at hp; simp at hp)
            obtain ⟨gx, ox, rfl⟩ := hxk.out.lit.resolve_left (by intro e; rw [e] at hp; simp at hp)
            obtain ⟨c0, c1⟩ := hlk.out.pair k p hp
            obtain ⟨d0, d1⟩ := hxk.out.pair k p hp
            obtain ⟨a, b⟩ := p
            simp only at c0 c1 d0 d1
            clear hp
            have hi2 : (k : Int) < (lm : Int) := by omega
            go_wp2
            go_quiet (fail)
            clear c0 c1 d0 d1
            go_wp2
            go_roundw
            case rel => exact ⟨k + 1, by omega, by go_num, ⟨hWk.out.os, hWk.out.tape, hWk.out.output, hWk.out.size, hWk.out.block⟩, hbk.out, hlk.out, hxk.out⟩
            case measure => simp [intOf]; omega
          · obtain rfl : lm = k := by omega
            rcases (by omega : cut < 0 ∨ (bm : Int) ≤ cut ∨ (0 ≤ cut ∧ cut < (bm : Int))) with hcc | hcc | hcc
            · go_wp2_with (go_at_call 18; refine (known18 _).mono ?_; rintro e w9 ⟨rfl, hb9⟩)
              have hfin := hide (hWk.out.trans (hb9.mono hWk.out.size))
              clear hb9
              go_wp2
              go_ret
              exact ⟨rfl, unhide hfin⟩
            · have hcn : 0 ≤ cut := by omega
              go_wp2_with (go_at_call 18; refine (known18 _).mono ?_; rintro e w9 ⟨rfl, hb9⟩)
              have hfin := hide (hWk.out.trans (hb9.mono hWk.out.size))
              clear hb9
              go_wp2
              go_ret
              exact ⟨rfl, unhide hfin⟩
            · obtain ⟨cn, rfl⟩ : ∃ cn : Nat, cut = cn := ⟨cut.toNat, by omega⟩
              have hcb : cn < bm := by omega
              have hbc : bm ≤ bc := hbk.out.2.1
              have hi5 : (cn : Int) ≤ (bc : Int) := by omega
              have hi6 : ¬ ((bm : Int) ≤ (cn : Int)) := by omega
              have hop := hide (open_any _ cn bc _ wr (hbk.out.take cn (by omega)) (by omega) (byt_take hyF cn))
              go_wp2_with fail
              refine (unhide hop).mono ?_
              rintro e w9 ⟨b9, g9, rfl, hb9, _, hr9, hB9⟩
              have hW9 := hWk.out.trans (hB9.mono hWk.out.size)
              have hT := take31 b9 g9 _ w9 hr9 (lm : Int) (by omega) (by rw [List.length_take]; omega)
              rw [show rdTake2 (lm : Int) ((num lm ++ forms l).take cn) = ([], 4, (num lm ++ forms l).take cn) by have := rdTake2_short l hs hll cn (by have h1 := hbm.out; have h2 := hlm.out; rw [h2]; omega); rw [hlm.out] at this; exact this] at hT
              have HT := hide hT
              have hwb9 : w.heap.size ≤ b9 := Nat.le_trans hWk.out.size hb9
              clear hT hop hB9 hr9
              go_wp2_with fail
              refine (unhide HT).mono ?_
              rintro e wa ⟨eo9, em9, ec9, rfl, he9, hx9, hra, hga⟩
              obtain rfl : 0 = em9 := he9.symm
              have hLa := left_rd b9 g9 _ wa hra
              rw [show ((num lm ++ forms l).take cn).length = cn by have := hbm.out; rw [List.length_take]; omega] at hLa
              have HLa := hide hLa
              have hWa := hide (hW9.grown hga hW9.size (by intro k hk; cases hk; exact hwb9))
              clear he9 HT hx9 hga hLa hra hW9
              go_wp2_with (first
                | (go_at_call 23; refine (num_err _ _).mono ?_; rintro e w' ⟨rfl, hw⟩; obtain rfl : _ = w' := hw.symm; clear hw)
                | (go_at_call 21; refine (unhide HLa).mono ?_; rintro e w' ⟨rfl, hw⟩; obtain rfl : _ = w' := hw.symm; clear hw)
                | (go_at_call 18; refine (known18 _).mono ?_; rintro e wb ⟨rfl, hbb⟩))
              have hfin := hide (hWa.out.trans (hbb.mono hWa.out.size))
              clear hbb
              go_wp2
              go_ret
              exact ⟨rfl, unhide hfin⟩
      · have hR6 := hide hr5
        have hW6 := hW5
        have hb6 := hb5'
        have hT := take31 b g5 _ w5 hR6.out (lm : Int) (by omega) (by have := hbm.out; omega)
        rw [show rdTake2 (lm : Int) (num lm ++ forms l) = (l, 0, []) by have := rdTake2_ok l hs hll; rw [hlm.out] at this; exact this] at hT
        have HT := hide hT
        clear hT
        clear hb5' hW5 hl5 hr5
        go_wp2_with fail
        clear cb cv
        refine (unhide HT).mono ?_
        rintro e w7 ⟨xo, xm, xc, rfl, hx7, hy7, hr7, hg7⟩
        rw [hlm.out] at hx7
        obtain rfl : lm = xm := hx7.symm
        obtain ⟨xo', xc', hv, hy8, _⟩ := Own2.form hy7
        rw [hlm.out] at hv hy8
        cases hv
        have hL7 := hide (left_rd b g5 _ w7 hr7)
        have hW7 := hide (hW6.out.grown hg7 hW6.out.size (by intro k hk; cases hk; exact hwb))
        have hb7 := hide (hb6.out.keep1 hg7 hgb)
        have hl7 := hide (h.below hW7.out)
        have hx8 := hide hy8
        clear HT hg7 hy7 hr7 hW6 hb6 hR6 hy8
        go_wp2_with (first
          | (go_at_call 23; refine (num_err _ _).mono ?_; rintro e w' ⟨rfl, hw⟩; obtain rfl : _ = w' := hw.symm; clear hw)
          | (go_at_call 21; refine (unhide hL7).mono ?_; rintro e w' ⟨rfl, hw⟩; obtain rfl : _ = w' := hw.symm; clear hw))
        clear hL7
        have hq := eq59
        go_loopw [15] (fun i wr => ∃ k : Nat, k ≤ lm ∧ i = .int .i64 k ∧ Hid (Below w.heap.size w wr) ∧ Hid (Holds wr (some ⟨gb, 0, none⟩) bm bc (num lm ++ forms l)) ∧ Hid (H2 wr lo lm lc l) ∧ Hid (H2 wr xo lm xc l)) (fun i _ => lm - (intOf i).toNat)
        case atStart => exact ⟨0, by omega, rfl, hW7, hb7, hl7, hx8⟩
        case round =>
          clear hW7 hb7 hl7 hx8
          obtain ⟨k, hk2, rfl, hWk, hbk, hlk, hxk⟩ := hrel
          by_cases hlt2 : k < lm
          · obtain ⟨p, hp⟩ : ∃ p, l[k]? = some p := ⟨_, List.getElem?_eq_getElem (by rw [hlm.out]; exact hlt2)⟩
            obtain ⟨gl, off, rfl⟩ := h.lit.resolve_left (by intro e; rw [e] at hp; simp at hp)
            obtain ⟨gx, ox, rfl⟩ := hxk.out.lit.resolve_left (by intro e; rw [e] at hp; simp at hp)
            obtain ⟨c0, c1⟩ := hlk.out.pair k p hp
            obtain ⟨d0, d1⟩ := hxk.out.pair k p hp
            obtain ⟨a, b⟩ := p
            simp only at c0 c1 d0 d1
            clear hp
            have hi2 : (k : Int) < (lm : Int) := by omega
            go_wp2
            go_quiet (fail)
            clear c0 c1 d0 d1
            go_wp2
            go_roundw
            case rel => exact ⟨k + 1, by omega, by go_num, ⟨hWk.out.os, hWk.out.tape, hWk.out.output, hWk.out.size, hWk.out.block⟩, hbk.out, hlk.out, hxk.out⟩
            case measure => simp [intOf]; omega
          · obtain rfl : lm = k := by omega
            rcases (by omega : cut < 0 ∨ (bm : Int) ≤ cut ∨ (0 ≤ cut ∧ cut < (bm : Int))) with hcc | hcc | hcc
            · go_wp2_with (go_at_call 18; refine (known18 _).mono ?_; rintro e w9 ⟨rfl, hb9⟩)
              have hfin := hide (hWk.out.trans (hb9.mono hWk.out.size))
              clear hb9
              go_wp2
              go_ret
              exact ⟨rfl, unhide hfin⟩
            · have hcn : 0 ≤ cut := by omega
              go_wp2_with (go_at_call 18; refine (known18 _).mono ?_; rintro e w9 ⟨rfl, hb9⟩)
              have hfin := hide (hWk.out.trans (hb9.mono hWk.out.size))
              clear hb9
              go_wp2
              go_ret
              exact ⟨rfl, unhide hfin⟩
            · obtain ⟨cn, rfl⟩ : ∃ cn : Nat, cut = cn := ⟨cut.toNat, by omega⟩
              have hcb : cn < bm := by omega
              have hbc : bm ≤ bc := hbk.out.2.1
              have hi5 : (cn : Int) ≤ (bc : Int) := by omega
              have hi6 : ¬ ((bm : Int) ≤ (cn : Int)) := by omega
              have hop := hide (open_any _ cn bc _ wr (hbk.out.take cn (by omega)) (by omega) (byt_take hyF cn))
              go_wp2_with fail
              refine (unhide hop).mono ?_
              rintro e w9 ⟨b9, g9, rfl, hb9, _, hr9, hB9⟩
              have hW9 := hWk.out.trans (hB9.mono hWk.out.size)
              have hT := take31 b9 g9 _ w9 hr9 (lm : Int) (by omega) (by rw [List.length_take]; omega)
              rw [show rdTake2 (lm : Int) ((num lm ++ forms l).take cn) = ([], 4, (num lm ++ forms l).take cn) by have := rdTake2_short l hs hll cn (by have h1 := hbm.out; have h2 := hlm.out; rw [h2]; omega); rw [hlm.out] at this; exact this] at hT
              have HT := hide hT
              have hwb9 : w.heap.size ≤ b9 := Nat.le_trans hWk.out.size hb9
              clear hT hop hB9 hr9
              go_wp2_with fail
              refine (unhide HT).mono ?_
              rintro e wa ⟨eo9, em9, ec9, rfl, he9, hx9, hra, hga⟩
              obtain rfl : 0 = em9 := he9.symm
              have hLa := left_rd b9 g9 _ wa hra
              rw [show ((num lm ++ forms l).take cn).length = cn by have := hbm.out; rw [List.length_take]; omega] at hLa
              have HLa := hide hLa
              have hWa := hide (hW9.grown hga hW9.size (by intro k hk; cases hk; exact hwb9))
              clear he9 HT hx9 hga hLa hra hW9
              go_wp2_with (first
                | (go_at_call 23; refine (num_err _ _).mono ?_; rintro e w' ⟨rfl, hw⟩; obtain rfl : _ = w' := hw.symm; clear hw)
                | (go_at_call 21; refine (unhide HLa).mono ?_; rintro e w' ⟨rfl, hw⟩; obtain rfl : _ = w' := hw.symm; clear hw)
                | (go_at_call 18; refine (known18 _).mono ?_; rintro e wb ⟨rfl, hbb⟩))
              have hfin := hide (hWa.out.trans (hbb.mono hWa.out.size))
              clear hbb
              go_wp2
              go_ret
              exact ⟨rfl, unhide hfin⟩
end Go.Proofs.Ytaljkpndfjfgdaa
