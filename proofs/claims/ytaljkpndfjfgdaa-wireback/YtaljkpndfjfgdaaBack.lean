/-
  The walk of the law WireBack.
-/
import Derived.Test.YtaljkpndfjfgdaaKnown
import Derived.Test.YtaljkpndfjfgdaaThere
import Derived.Deep.QuietTactic
import Derived.BigQuiet
import Derived.Deep.RegionHeld3
import Derived.Deep.DrawnRows
namespace Go.Proofs.Ytaljkpndfjfgdaa
open Go.RowKit
attribute [local go_sem ↓] Go.wp_at_zero Go.wp_at_succ

/-- string(b), whatever slice of bytes it is. -/
theorem conv_any {w : World} {ao : Option Addr} {m c : Nat} {l : List Int} (h : Holds w ao m c l) : (convert 23 9 (.slice ao m c)).run Try.prog w = .ok (.string (strOfNums l)) w := by
  by_cases h0 : m = 0
  · subst h0
    obtain rfl : l = [] := List.eq_nil_of_length_eq_zero h.1
    cases ao with
    | none => exact run_convert_bytes_nil (P := Try.prog) w 23 5 Try.underlying23 Try.underlying5 0 c 9 Try.underlying9
    | some a =>
      have hl := run_loadCells_list (P := Try.prog) w a [] (fun j v hj => by simp at hj)
      rw [run_convert_bytes_string w 23 9 5 _ 0 c Try.underlying23 Try.underlying5 Try.underlying9, run_bytesToString w a 0 c [] (by simpa using hl)]
      rfl
  · refine conv_holds h ?_ (fun _ => .inr trivial)
    intro a ha
    obtain ⟨x, hx⟩ : ∃ x, (u8s l)[0]? = some x := ⟨_, List.getElem?_eq_getElem (by rw [u8s_len, h.1]; omega)⟩
    have hc := h.2.2.2 a ha 0 x hx
    obtain ⟨b, off, spot⟩ := a
    have hsp : spot = none := by simpa [Addr.add] using World.cell?_spot hc
    subst hsp
    exact ⟨b, off, rfl⟩

theorem grown_over {w5 w6 w7 : World} {b : Nat} (h : w5.grownBy w6 none) (k : w6.grownBy w7 (some b)) (hb : w5.heap.size ≤ b) : w5.grownBy w7 none :=
  ⟨k.os.trans h.os, k.tape.trans h.tape, k.output.trans h.output, Nat.le_trans h.size k.size, fun i hi hr => (k.block i (Nat.lt_of_lt_of_le hi h.size) (by simp; omega)).trans (h.block i hi hr)⟩

theorem grown_keep4 {W w1 : World} (hb : W.grownBy w1 none) {a0 a1 a2 a3 : Addr} {v0 v1 v2 v3 : Value} (h : W.cell? a0 = some v0 ∧ W.cell? a1 = some v1 ∧ W.cell? a2 = some v2 ∧ W.cell? a3 = some v3) :
    w1.cell? a0 = some v0 ∧ w1.cell? a1 = some v1 ∧ w1.cell? a2 = some v2 ∧ w1.cell? a3 = some v3 :=
  ⟨hb.cell h.1 (by simp), hb.cell h.2.1 (by simp), hb.cell h.2.2.1 (by simp), hb.cell h.2.2.2 (by simp)⟩

theorem Holds.grown {w w' : World} {ao : Option Addr} {m c : Nat} {l : List Int} (h : Holds w ao m c l) (hg : w.grownBy w' none) : Holds w' ao m c l := h.kept (fun _ _ hv => hg.cell hv (by simp))

theorem keep4 {W w1 : World} (hb : Below W.heap.size W w1) {a0 a1 a2 a3 : Addr} {v0 v1 v2 v3 : Value} (h : W.cell? a0 = some v0 ∧ W.cell? a1 = some v1 ∧ W.cell? a2 = some v2 ∧ W.cell? a3 = some v3) :
    w1.cell? a0 = some v0 ∧ w1.cell? a1 = some v1 ∧ w1.cell? a2 = some v2 ∧ w1.cell? a3 = some v3 :=
  ⟨Below.keeps hb _ _ h.1, Below.keeps hb _ _ h.2.1, Below.keeps hb _ _ h.2.2.1, Below.keeps hb _ _ h.2.2.2⟩

theorem OwnS.below {w w' : World} {B : Nat} {ao : Option Addr} {m c : Nat} {l : List Int} (h : OwnS w B ao m c l) (hb : Below w.heap.size w w') : OwnS w' B ao m c l := h.kept (below_grown hb) (by intro k hk; cases hk)

theorem join_four (w : World) (s t u v : Sl) (e : TypeId) (hs : s.ok w) (ht : t.ok w) (hu : u.ok w) (hv : v.ok w) (hlen : s.l.length + (t.l.length + (u.l.length + v.l.length)) ≤ 140737488355328) :
    Calls Try.prog 10 #[.slice (some ⟨w.heap.size, 0, none⟩) 4 4] (w.alloc (.cells #[s.val, t.val, u.val, v.val] e)) fun e w' => Gives w (w.heap.size + 1) (s.l ++ (t.l ++ (u.l ++ v.l))) e w' := by
  have h := join_some w.heap.size 0 4 [s, t, u, v] (w.alloc (.cells #[s.val, t.val, u.val, v.val] e)) (by simp)
    (by intro i hi; match i, hi with | 0, _ => simp | 1, _ => simp | 2, _ => simp | 3, _ => simp)
    (by intro i hi; match i, hi with | 0, _ => exact hs.alloc _ | 1, _ => exact ht.alloc _ | 2, _ => exact hu.alloc _ | 3, _ => exact hv.alloc _) (by simpa [flat] using hlen)
  refine h.mono ?_
  rintro e w' ⟨ao, m, c, rfl, h1, h2⟩
  exact gives_of (by simpa [flat] using h1.2) (((Below.refl _ _).alloc (Nat.le_refl _) _).trans (h2.mono (by simp)))

set_option maxHeartbeats 4000000 in
set_option maxRecDepth 100000 in
theorem back5 (n : Nat) (s : Int) (f : Bool) (bo : Option Addr) (bm bc : Nat) (bl : List Int) (ao : Option Addr) (m c : Nat) (l : List Int) (w : World)
    (hn : n < 18446744073709551616) (hs1 : -9223372036854775808 ≤ s) (hs2 : s ≤ 9223372036854775807) (hB : Holds w bo bm bc bl) (hA : Holds w ao m c l)
    (hbm : bm ≤ 140737488351232) (hm : m ≤ 140737488351232) (hyB : Byt bl) (hyA : Byt l) :
    Calls Try.prog 5 #[.agg #[.int .u64 n, .int .i64 s, .bool f, .slice bo bm bc], .slice ao m c] w fun e w' => e = .returned (.bool true) ∧ Below w.heap.size w w' := by
  have hL1 := num_len hn
  have hfl := fold_lt s hs1 hs2
  have hL2 := num_len hfl
  have hbl := hB.1
  have hL3 := num_len (n := bm) (by omega)
  have hlen : (num n).length + ((num (fold s)).length + ((num bm ++ bl).length + [if f then (1 : Int) else 0].length)) ≤ 140737488355328 := by simp; omega
  go_enter Try.func5, Try.ntmps5
  go_wp2
  go_region_held3 (fun w' => w'.cell? ⟨w.heap.size, 0, none⟩ = some (.int .u64 n) ∧ w'.cell? ⟨w.heap.size, 1, none⟩ = some (.int .i64 s) ∧ w'.cell? ⟨w.heap.size, 2, none⟩ = some (.bool f) ∧ w'.cell? ⟨w.heap.size, 3, none⟩ = some (.slice bo bm bc)) (go_keep)
    (first
      | (go_at_call 9; refine (number_any n _ hn).mono ?_; rintro e w1 ⟨ao1, m1, c1, rfl, hown1, hb1⟩; obtain ⟨ka0, ka1, ka2, ka3⟩ := keep4 hb1 (a0 := ⟨w.heap.size, 0, none⟩) (a1 := ⟨w.heap.size, 1, none⟩) (a2 := ⟨w.heap.size, 2, none⟩) (a3 := ⟨w.heap.size, 3, none⟩) ⟨by simp; rfl, by simp; rfl, by simp; rfl, by simp; rfl⟩)
      | (go_at_call 13; refine (signed_any s _ hs1 hs2).mono ?_; rintro e w2 ⟨ao2, m2, c2, rfl, hown2, hb2⟩; obtain ⟨kb0, kb1, kb2, kb3⟩ := keep4 hb2 ⟨ka0, ka1, ka2, ka3⟩; have hB2 : Holds w2 bo bm bc bl := Holds.below (Holds.below (w := (w.alloc _).drew) (hB.alloc _) hb1) hb2)
      | (go_at_call 8; refine (bytes_any bo bm bc bl _ hB2 hbm).mono ?_; rintro e w3 ⟨ao3, m3, c3, rfl, hown3, hb3⟩; obtain ⟨kc0, kc1, kc2, kc3⟩ := keep4 hb3 ⟨kb0, kb1, kb2, kb3⟩)
      | (go_at_call 15; refine (flag_any f _).mono ?_; rintro e w4 ⟨ao4, m4, c4, rfl, hown4, hb4⟩; obtain ⟨kd0, kd1, kd2, kd3⟩ := keep4 hb4 ⟨kc0, kc1, kc2, kc3⟩)
      | (go_at_call 10; refine (join_four w4 ⟨ao1, m1, c1, num n⟩ ⟨ao2, m2, c2, num (fold s)⟩ ⟨ao3, m3, c3, num bm ++ bl⟩ ⟨ao4, m4, c4, [if f then 1 else 0]⟩ 23 (((hown1.below hb2).below hb3).below hb4).held ((hown2.below hb3).below hb4).held (hown3.below hb4).held hown4.held hlen).mono ?_; rintro e w5 ⟨ao5, m5, c5, rfl, hown5, hb5⟩; obtain ⟨ke0, ke1, ke2, ke3⟩ := keep4 hb5 ⟨kd0, kd1, kd2, kd3⟩))
  have hW1 : Below w.heap.size w w1 := ((Below.refl w.heap.size w).alloc (Nat.le_refl _) _).drew.trans (hb1.mono (by simp))
  have hW2 := hW1.trans (hb2.mono hW1.size)
  have hW3 := hW2.trans (hb3.mono hW2.size)
  have hW4 := hW3.trans (hb4.mono hW3.size)
  have hW5 := hW4.trans (hb5.mono hW4.size)
  have hm5 : m5 ≤ 140737488355328 := by have := hown5.1; simp at this; rw [this]; simp at hlen; omega
  have hheld := hown5.held
  have hA5 := hA.below hW5
  have hB5 := hB.below hW5
  have hyF : Byt (num n ++ (num (fold s) ++ (num bm ++ bl ++ [if f then 1 else 0]))) := byt_app (byt_num _) (byt_app (byt_num _) (byt_app (byt_app (byt_num _) hyB) (byt_flag f)))
  clear hW1 hW2 hW3 hW4 hb1 hb2 hb3 hb4 hb5 hown1 hown2 hown3 hown4 hown5 ka0 ka1 ka2 ka3 kb0 kb1 kb2 kb3 kc0 kc1 kc2 kc3 kd0 kd1 kd2 kd3 hB2 hlen hB
  go_wp2_with fail
  refine (open_any ao5 m5 c5 _ w5 hheld hm5 hyF).mono ?_
  rintro e w6 ⟨b, g, rfl, hb6, hg6, hr6, hB6⟩
  have hG6 : w5.grownBy w6 none := below_grown hB6
  clear hB6 hheld hyF
  go_wp2_with fail
  have hN := Number25 b g _ w6 hr6
  rw [rdNum_num n _ hn] at hN
  refine hN.mono ?_
  rintro e w7 ⟨rfl, hr7, hg7⟩
  have hG7 := grown_over hG6 hg7 hb6
  clear hN hr6 hg7 hG6
  go_wp2_with fail
  have hN := Signed26 b g _ w7 hr7
  rw [rdNum_num (fold s) _ hfl] at hN
  simp only [unf_fold] at hN
  refine hN.mono ?_
  rintro e w8 ⟨rfl, hr8, hg8⟩
  have hG8 := grown_over hG7 hg8 hb6
  obtain ⟨kf0, kf1, kf2, kf3⟩ := grown_keep4 hG8 ⟨ke0, ke1, ke2, ke3⟩
  clear hN hr7 hg8 hG7
  go_wp2_with fail
  have hN := Bytes27 b g _ w8 hr8 (bm : Int) (by omega) (by simp; omega)
  rw [show rdBytes (bm : Int) (num bm ++ bl ++ [if f then 1 else 0]) = (bl, 0, [if f then 1 else 0]) by
    have := rdBytes_num bl [if f then 1 else 0] (bm : Int) (by omega) (by omega)
    rw [hbl] at this; rw [List.append_assoc]; exact this] at hN
  refine hN.mono ?_
  rintro e w9 ⟨xo, xm, xc, rfl, hx9, hr9, hg9⟩
  have hG9 := grown_over hG8 hg9 hb6
  have hb8 : b < w8.heap.size := hr8.lt
  clear hN hr8 hg9 hG8 kf0 kf1 kf2 kf3
  go_wp2_with fail
  have hN := Flag28 b g _ w9 hr9
  rw [rdFlag_flag] at hN
  refine hN.mono ?_
  rintro e w10 ⟨rfl, hr10, hg10⟩
  have hG10 := grown_over hG9 hg10 hb6
  have hx10 := hx9.kept hg10 (by intro k hk; cases hk; exact hb8)
  obtain ⟨kf0, kf1, kf2, kf3⟩ := grown_keep4 hG10 ⟨ke0, ke1, ke2, ke3⟩
  have hcx := hx10.conv
  have hcb := conv_any (hB5.grown hG10)
  have hA10 := hA5.grown hG10
  have hW10 : Below w.heap.size w w10 := hW5.grown hG10 hW5.size (by intro k hk; cases hk)
  have hE := end_rd b g _ w10 hr10
  rw [show endE [] = 0 by decide] at hE
  have HE := hide hE
  clear hN hE hr9 hg10 hG9 hG10 ke0 ke1 ke2 ke3 hx9 hx10 hA5 hB5 hW5 hb6 hb8 hg6 hr10
  go_wp2_with (first | (go_at_call 23; refine (num_err _ _).mono ?_; rintro e w' ⟨rfl, rfl⟩) | (go_at_call 24; refine (unhide HE).mono ?_; rintro e w' ⟨rfl, rfl⟩))
  clear hcx hcb kf0 kf1 kf2 kf3 HE
  refine (open_any ao m c l _ hA10 (by omega) hyA).mono ?_
  rintro e w11 ⟨b2, g2, rfl, hb11, hg11, hr11, hB11⟩
  have hW11 := hW10.trans (hB11.mono hW10.size)
  have hA11 := hA10.below hB11
  have hlm := hA11.1
  have hwb2 : w.heap.size ≤ b2 := Nat.le_trans hW10.size hb11
  clear hA10 hB11 hg11 hb11
  go_wp2_with fail
  have hN := Bytes27 b2 g2 _ w11 hr11 (m : Int) (by omega) (by omega)
  by_cases her : (rdBytes (m : Int) l).2.1 = 0
  · obtain ⟨k, hk1, hk2, hk3⟩ := rdBytes_inv l (m : Int) hyA her
    rw [her] at hN
    revert hN hk1 hk2
    generalize (rdBytes (m : Int) l).1 = y
    generalize (rdBytes (m : Int) l).2.2 = rest
    intro hN hk1 hk2
    refine hN.mono ?_
    rintro e w12 ⟨yo, ym, yc, rfl, hy12, hr12, hg12⟩
    clear hN her
    go_wp2_with (first | (go_at_call 23; refine (num_err _ _).mono ?_; rintro e w' ⟨rfl, rfl⟩))
    have hym := hide hy12.1
    have hml : Hid (m = (num ym).length + (y.length + rest.length)) := by
      show m = _
      rw [← hlm, hym.out]; rw [← hk1] at hk2; exact (congrArg List.length hk2).trans (by simp)
    have Hk2 : Hid (l = num ym ++ (y ++ rest)) := by show l = _; rw [hym.out, hk1]; exact hk2
    have hym1 : ym ≤ m := by have := hml.out; have := hym.out; omega
    clear hk1 hk2 hk3 hlm
    refine (bytes_any yo ym yc y _ hy12.held (by omega)).mono ?_
    rintro e w13 ⟨so, sm, sc, rfl, hs13, hB13⟩
    have hr13 := hr12.keep (below_grown hB13) (by simp) (by simp)
    have hW12 := hW11.grown hg12 hW11.size (by intro k hk; cases hk; exact hwb2)
    have hW13 := hW12.trans (hB13.mono hW12.size)
    have hA13 := hA.below hW13
    have hsm : Hid (sm = (num ym).length + y.length) := by show sm = _; rw [hs13.1]; simp
    obtain ⟨g, rfl⟩ : ∃ g, so = some ⟨g, 0, none⟩ := by
      rcases Owns.shape hs13.2 with ⟨hv, hz⟩ | ⟨g, cap, hv, _⟩
      · have := num_pos ym; simp at hz; rw [hz.1] at this; simp at this
      · cases hv; exact ⟨g, rfl⟩
    have hL13 : Hid (∀ q, Calls Try.prog 21 #[.pointer (some ⟨b2, 0, none⟩)] (w13.drewN q) fun e w' => e = .returned (.int .i64 (rest.length : Int)) ∧ w' = w13.drewN q) := fun q => left_rd b2 g2 rest (w13.drewN q) hr13
    have hsp : 0 < sm := by have := num_pos ym; have := hsm.out; omega
    have hsmm : sm ≤ m := by have := hml.out; have := hsm.out; omega
    have hrm : rest.length ≤ m := by have := hml.out; omega
    have hmc := hA13.2.1
    have hsc := hs13.held.2.1
    have hq1 : ((sm : Int) != (m : Int) - (rest.length : Int)) = false := by rw [bne_eq_false_iff_eq]; have := hml.out; have := hsm.out; omega
    have htk : l.take sm = num ym ++ y := by
      rw [Hk2.out, ← List.append_assoc, List.take_left' (by rw [hsm.out]; simp)]
    have hcs : ∀ q, (convert 23 9 (.slice (some ⟨g, 0, none⟩) sm sc)).run Try.prog (w13.drewN q) = .ok (.string (strOfNums (num ym ++ y))) (w13.drewN q) := fun q => conv_any (w := w13.drewN q) hs13.held
    have hct : ∀ q, (convert 23 9 (.slice ao sm c)).run Try.prog (w13.drewN q) = .ok (.string (strOfNums (num ym ++ y))) (w13.drewN q) := by
      intro q; rw [← htk]; exact conv_any (w := w13.drewN q) (hA13.take sm hsmm)
    clear hy12 hr12 hg12 hW11 hW12 hB13 hA11 htk
    go_wp2
    cases ao with
    | none => have := (hA13.2.2.1 rfl).1; omega
    | some aa =>
      go_quiet ((go_at_call 21; exact Calls.quiet_of_same (hL13.out _)))
      clear hq1 hcs hct hL13
      go_wp2_with fail
      have hheld : Holds (w13.drewN nq) (some ⟨g, 0, none⟩) (sm - 1) sc ((num ym ++ y).take (sm - 1)) := hs13.held.take (sm - 1) (by omega)
      refine (open_any (some ⟨g, 0, none⟩) (sm - 1) sc _ _ hheld (by omega) (byt_take (byt_app (byt_num _) (fun x hx => hyA x (by rw [Hk2.out]; simp [hx]))) _)).mono ?_
      rintro e w14 ⟨b3, g3, rfl, hb14, hg14, hr14, hB14⟩
      have hWd : Below w.heap.size w (w13.drewN nq) := ⟨hW13.os, hW13.tape, hW13.output, hW13.size, hW13.block⟩
      have hW14 : Below w.heap.size w w14 := hWd.trans (hB14.mono hW13.size)
      clear hheld hB14 hg14 hWd
      go_wp2_with fail
      have hN := Bytes27 b3 g3 _ w14 hr14 (m : Int) (by omega) (by simp; omega)
      rw [show sm - 1 = (num y.length ++ y).length - 1 by rw [hsm.out, List.length_append, hym.out], hym.out, rdBytes_short y (m : Int) (by have := hym.out; omega) (by have := hym.out; omega)] at hN
      refine hN.mono ?_
      rintro e w15 ⟨zo, zm, zc, rfl, hz15, hr15, hg15⟩
      have hW15 : Hid (Below w.heap.size w w15) := hide (hW14.grown hg15 hW14.size (by intro k hk; cases hk; exact Nat.le_trans hW13.size hb14))
      clear hN hz15 hr15 hg15 hW14 hr14
      go_wp2_with (first | (go_at_call 23; refine (num_err _ _).mono ?_; rintro e w' ⟨rfl, rfl⟩) | (go_at_call 18; refine (known18 _).mono ?_; rintro e w16 ⟨rfl, hB16⟩))
      go_ret
      exact ⟨rfl, hW15.out.trans (hB16.mono hW15.out.size)⟩
  · obtain ⟨he1, he2⟩ := rdBytes_err l (m : Int) (by omega) her
    rw [he2] at hN
    revert hN her he1
    generalize (rdBytes (m : Int) l).1 = y
    generalize (rdBytes (m : Int) l).2.1 = er
    intro hN her he1
    refine hN.mono ?_
    rintro e w12 ⟨yo, ym, yc, rfl, hy12, hr12, hg12⟩
    have hne : (er != 0) = true := by rw [bne_iff_ne]; exact her
    have hgt : 2 < er := by omega
    have hL := hide (left_rd b2 g2 l w12 hr12)
    have hW12 : Hid (Below w.heap.size w w12) := hide (hW11.grown hg12 hW11.size (by intro k hk; cases hk; exact hwb2))
    clear hN her he1 hy12 hr12 hg12 he2
    go_wp2_with (first | (go_at_call 23; refine (num_err _ _).mono ?_; rintro e w' ⟨rfl, rfl⟩) | (go_at_call 21; refine (unhide hL).mono ?_; rintro e w' ⟨rfl, rfl⟩) | (go_at_call 18; refine (known18 _).mono ?_; rintro e w13 ⟨rfl, hB13⟩))
    go_ret
    exact ⟨rfl, hW12.out.trans (hB13.mono hW12.out.size)⟩

end Go.Proofs.Ytaljkpndfjfgdaa
