/-
  The walks of the document's reader: Bytes and Numbers.
-/
import Derived.Test.YtaljkpndfjfgdaaRef
import Derived.Test.YtaljkpndfjfgdaaTake
import Derived.Deep.RegionHeld3
import Derived.Deep.DrawnRows
namespace Go.Proofs.Ytaljkpndfjfgdaa
open Go.RowKit
attribute [local go_sem ↓] Go.wp_at_zero Go.wp_at_succ

/-- 'append(nil, src...)' as one operation. -/
theorem opApp {w : World} {o : Oper} {a : Act} {K : Act → World → Prop} {Q : Exit → Act → World → Prop} (s x : Operand)
    (ho : o.op = .call { callee := .builtin .append, args := #[s, x], argTypes := #[23, 23] })
    (hs : a.eval s = .slice none 0 0) (ad : Addr) (m c : Nat) (hx : a.eval x = .slice (some ad) m c) (ls : List Int) (hsrc : Holds w (some ad) m c ls) (hlen : ls.length ≤ 1048576)
    (h : ∀ v' w', Owns w' w.heap.size v' ls → w.grownBy w' none → K (a.put o.dst v') w') : o.wp Try.prog a w K Q := by
  obtain ⟨i0, hi, hz0, hz1, hz2⟩ := info_parts Try.info5
  obtain ⟨h1, _, _, h3⟩ := hsrc
  subst h1
  refine wp_append_own w s x 23 ho w.heap.size 5 i0 (.int .u8 0) 1 1 Try.underlying23 hi hz0 hz1 hz2 rfl (by decide) (.slice none 0 0) 0 [] hs (World.ownsRow_nil _ _ _ _) ad _ c (u8s ls) hx (by simp [u8s]) (h3 ad rfl) (u8s_one ls) (by unfold maxLen; omega) (by omega) (Nat.le_refl _) ?_
  intro v' w' g1 g2 _
  exact h v' w' (owns_of (by simpa using g1)) g2

/-- How a reading of bytes by the document's reader ends. -/
def RBTells (w : World) (d : Nat) (bo : Option Addr) (bm bc : Nat) (L : List Int) (x : List Int) (er : Int) (l : List Int) (e : Ending) (w' : World) : Prop :=
  ∃ ao m c, e = .returned (.tuple #[.slice ao m c, .int .i64 er]) ∧ OwnS w' w.heap.size ao m c x ∧ (∃ pos, RR w' d bo bm bc L pos ∧ l = L.drop pos) ∧ w.grownBy w' (some d)

set_option maxHeartbeats 1000000 in
set_option maxRecDepth 100000 in
theorem refBytes41_err (d : Nat) (bo : Option Addr) (bm bc : Nat) (L : List Int) (pos : Nat) (w : World) (h : RR w d bo bm bc L pos) (most : Int) (hm0 : 0 ≤ most) (hm : most ≤ 9223372036854775807) (her : (rdBytes most (L.drop pos)).2.1 ≠ 0) :
    Calls Try.prog 41 #[.pointer (some ⟨d, 0, none⟩), .int .i64 most] w fun e w' => RBTells w d bo bm bc L [] (rdBytes most (L.drop pos)).2.1 (L.drop pos) e w' := by
  have hN := hide (refNumber38 d bo bm bc L pos w h)
  have hbyL := byt_drop h.2.2.1 pos
  have c1 : w.cell? ⟨d, 1, none⟩ = some (.int .i64 pos) := by rw [cell_of_block h.1]; rfl
  have hlt := rdNum_lt hbyL
  have hpos := h.2.2.2.1
  -- what each way back lays
  have hback : ∀ (w1 : World) (p1 : Nat) (q : Nat), RR w1 d bo bm bc L p1 → w.grownBy w1 (some d) → RR ((w1.drewN q).setCell ⟨d, 1, none⟩ (.int .i64 pos)) d bo bm bc L pos ∧ w.grownBy ((w1.drewN q).setCell ⟨d, 1, none⟩ (.int .i64 pos)) (some d) :=
    fun w1 p1 q h1 h2 => ⟨(h1.drewN q).set hpos, grownBy_trans h2 (grownBy_trans (grown_drewN _ _ _) (grownBy_set _ _ _ _))⟩
  cases hd : dec 0 0 (L.drop pos) with
  | none =>
    have e1 : (rdBytes most (L.drop pos)).2.1 = 4 := by unfold rdBytes rdCount; rw [if_neg (by omega : ¬ most < 0), hd]; simp
    rw [e1]
    rw [rdNum_none hd] at hN
    clear her e1 hd hlt
    go_enter Try.func41, Try.ntmps41
    go_wp2_with fail
    refine (unhide hN).mono ?_
    rintro e w1 ⟨rfl, ⟨p1, h1, _⟩, hg1⟩
    have k1 : w1.cell? ⟨d, 1, none⟩ = some (.int .i64 p1) := by rw [cell_of_block h1.1]; rfl
    have f1 : w1.frozen? ⟨d, 1, none⟩ = false := frozen_of_block h1.1 1
    have hb := hide (hback w1 p1 0 h1 hg1)
    clear hN hback
    go_wp2
    go_ret2
    exact ⟨_, _, _, rfl, owns_nil _ _, ⟨pos, (unhide hb).1, rfl⟩, (unhide hb).2⟩
  | some pr =>
    obtain ⟨n, k⟩ := pr
    rw [rdNum_some hd] at hN hlt
    simp only at hlt
    by_cases hc : most < (n : Int)
    · have e1 : (rdBytes most (L.drop pos)).2.1 = 3 := by unfold rdBytes rdCount; rw [if_neg (by omega : ¬ most < 0), hd]; simp [hc]
      rw [e1]
      clear her e1 hd
      go_enter Try.func41, Try.ntmps41
      go_wp2_with fail
      refine (unhide hN).mono ?_
      rintro e w1 ⟨rfl, ⟨p1, h1, _⟩, hg1⟩
      have k1 : w1.cell? ⟨d, 1, none⟩ = some (.int .i64 p1) := by rw [cell_of_block h1.1]; rfl
      have f1 : w1.frozen? ⟨d, 1, none⟩ = false := frozen_of_block h1.1 1
      have hb := hide (hback w1 p1 0 h1 hg1)
      clear hN hback
      go_wp2
      go_ret2
      exact ⟨_, _, _, rfl, owns_nil _ _, ⟨pos, (unhide hb).1, rfl⟩, (unhide hb).2⟩
    · have hcnt : rdCount most (L.drop pos) = (n, 0, (L.drop pos).drop k) := by unfold rdCount; rw [if_neg (by omega : ¬ most < 0), hd]; simp [hc]
      have hs : ((L.drop pos).drop k).length < n := by
        apply Decidable.byContradiction
        intro hns
        apply her
        unfold rdBytes; rw [hcnt]; simp only; rw [if_neg (by simp), if_neg hns]
      have e1 : (rdBytes most (L.drop pos)).2.1 = 4 := by unfold rdBytes; rw [hcnt]; simp only; rw [if_neg (by simp), if_pos hs]
      rw [e1]
      clear her e1 hd hcnt
      go_enter Try.func41, Try.ntmps41
      go_wp2_with fail
      refine (unhide hN).mono ?_
      rintro e w1 ⟨rfl, ⟨p1, h1, hp1⟩, hg1⟩
      have k1 : ∀ q, (w1.drewN q).cell? ⟨d, 1, none⟩ = some (.int .i64 p1) := fun q => by show w1.cell? _ = _; rw [cell_of_block h1.1]; rfl
      have f1 : ∀ q, (w1.drewN q).frozen? ⟨d, 1, none⟩ = false := fun q => frozen_of_block (w := w1) h1.1 1
      have hb := hide (fun q => hback w1 p1 q h1 hg1)
      obtain ⟨N, hNl⟩ : ∃ N : Nat, (L.drop p1).length = N := ⟨_, rfl⟩
      have hL22 := left22 d bo bm bc L p1 w1 h1
      rw [hNl] at hL22
      have HL := hide hL22
      have hNn : N < n := by rw [← hp1] at hNl; omega
      have hNb : N ≤ 1048576 := by rw [← hNl, List.length_drop, h1.2.1.1]; have := h1.2.2.2.2.1; omega
      clear hN hback hL22 hs hp1 hNl
      go_wp2_with (go_at_call 22; refine (unhide HL).mono ?_; rintro e w2 ⟨rfl, q, rfl⟩)
      go_ret2
      exact ⟨_, _, _, rfl, owns_nil _ _, ⟨pos, (unhide hb q).1, rfl⟩, (unhide hb q).2⟩

theorem Holds.piece {w : World} {g off m c K n : Nat} {l : List Int} {ao' : Option Addr} (h : Holds w (some ⟨g, off, none⟩) m c l) (hK : K + n ≤ m) (hao : (c = K ∧ ao' = some ⟨g, off, none⟩) ∨ ao' = some ⟨g, off + K, none⟩) :
    Holds w ao' n (c - K) ((l.drop K).take n) := by
  obtain ⟨h1, h2, h3, h4⟩ := h
  refine ⟨by rw [List.length_take, List.length_drop]; omega, by omega, ?_, ?_⟩
  · intro hn; rcases hao with ⟨_, e⟩ | e <;> rw [e] at hn <;> cases hn
  · intro ad had j u hj
    have hjn : j < n := by
      have := (List.getElem?_eq_some_iff.1 hj).1
      simp [u8s] at this; omega
    rcases hao with ⟨e1, _⟩ | e
    · omega
    · rw [e] at had
      cases had
      have hju : (u8s l)[K + j]? = some u := by rw [← hj]; simp [u8s, hjn]
      have := h4 _ rfl (K + j) u hju
      rw [Addr.add_lit] at this ⊢
      rw [Nat.add_assoc]; exact this

theorem slice_piece (g off bm bc p1 P n : Nat) (e7 : P - p1 = n) (h1 : p1 ≤ P) (h2 : P ≤ bc) (hbp : ¬ bc = p1) (W2 : World) :
    (Instr.slice 23 (.slice (some ⟨g, off, none⟩) bm bc) (some (.int .i64 (p1 : Int))) (some (.int .i64 (P : Int))) none).run Try.prog W2 = .ok (.slice (some ⟨g, off + p1, none⟩) n (bc - p1)) W2 := by
  have hi0 : (0 : Int) ≤ (p1 : Int) := by omega
  have hi1 : (p1 : Int) ≤ (P : Int) := by omega
  have hi2 : (P : Int) ≤ (bc : Int) := by omega
  go_simp

set_option maxHeartbeats 2000000 in
set_option maxRecDepth 100000 in
theorem refBytes41_ok (d : Nat) (bo : Option Addr) (bm bc : Nat) (L : List Int) (pos : Nat) (w : World) (h : RR w d bo bm bc L pos) (most : Int) (hm0 : 0 ≤ most) (hm : most ≤ 9223372036854775807) (her : (rdBytes most (L.drop pos)).2.1 = 0) :
    Calls Try.prog 41 #[.pointer (some ⟨d, 0, none⟩), .int .i64 most] w fun e w' => RBTells w d bo bm bc L (rdBytes most (L.drop pos)).1 0 (rdBytes most (L.drop pos)).2.2 e w' := by
  have hN := hide (refNumber38 d bo bm bc L pos w h)
  have hbyL := byt_drop h.2.2.1 pos
  have hlt := rdNum_lt hbyL
  have c1 : w.cell? ⟨d, 1, none⟩ = some (.int .i64 pos) := by rw [cell_of_block h.1]; rfl
  have hdw : d < w.heap.size := (Array.getElem?_eq_some_iff.1 h.1).1
  cases hd : dec 0 0 (L.drop pos) with
  | none => exfalso; unfold rdBytes rdCount at her; rw [if_neg (by omega : ¬ most < 0), hd] at her; simp at her
  | some pr =>
    obtain ⟨n, k⟩ := pr
    rw [rdNum_some hd] at hN hlt
    simp only at hlt
    by_cases hc : most < (n : Int)
    · exfalso; unfold rdBytes rdCount at her; rw [if_neg (by omega : ¬ most < 0), hd] at her; simp [hc] at her
    · have hcnt : rdCount most (L.drop pos) = (n, 0, (L.drop pos).drop k) := by unfold rdCount; rw [if_neg (by omega : ¬ most < 0), hd]; simp [hc]
      have hs : ¬ ((L.drop pos).drop k).length < n := by
        intro hns
        unfold rdBytes at her; rw [hcnt] at her; simp only at her; rw [if_neg (by simp), if_pos hns] at her; simp at her
      have e1 : rdBytes most (L.drop pos) = (((L.drop pos).drop k).take n, 0, ((L.drop pos).drop k).drop n) := by unfold rdBytes; rw [hcnt]; simp only; rw [if_neg (by simp), if_neg hs]
      rw [e1]
      have hb0 : 0 < bm := by
        cases hl : L.drop pos with
        | nil => rw [hl] at hd; simp [dec] at hd
        | cons x r => have h7 := congrArg List.length hl; rw [List.length_drop, h.2.1.1] at h7; simp at h7; omega
      clear her e1 hd hcnt
      revert hN hs
      generalize (L.drop pos).drop k = l1
      intro hN hs
      go_enter Try.func41, Try.ntmps41
      go_wp2_with fail
      refine (unhide hN).mono ?_
      rintro e w1 ⟨rfl, ⟨p1, h1, hp1⟩, hg1⟩
      subst hp1
      have k1 : ∀ q, (w1.drewN q).cell? ⟨d, 1, none⟩ = some (.int .i64 p1) := fun q => by show w1.cell? _ = _; rw [cell_of_block h1.1]; rfl
      have f1 : ∀ q, (w1.drewN q).frozen? ⟨d, 1, none⟩ = false := fun q => frozen_of_block (w := w1) h1.1 1
      obtain ⟨N, hNl⟩ : ∃ N : Nat, (L.drop p1).length = N := ⟨_, rfl⟩
      have hL22 := left22 d bo bm bc L p1 w1 h1
      rw [hNl] at hs hL22
      have HL := hide hL22
      have hNb : N = bm - p1 := by rw [← hNl, List.length_drop, h1.2.1.1]
      have hNb2 : p1 + n ≤ bm := by have := h1.2.2.2.1; omega
      have hbm2 := h1.2.2.2.2.1
      have hN3 : N ≤ 1048576 := by omega
      have HNb := hide hNb
      clear hN hL22 hNl hNb
      go_wp2_with (go_at_call 22; refine (unhide HL).mono ?_; rintro e w2 ⟨rfl, q, rfl⟩)
      have hRR : RR ((w1.drewN q).setCell ⟨d, 1, none⟩ (.int .i64 ((p1 : Int) + (n : Int)))) d bo bm bc L (p1 + n) := by
        have h7 := (h1.drewN q).set (k := p1 + n) hNb2; simpa using h7
      have hG : w.grownBy ((w1.drewN q).setCell ⟨d, 1, none⟩ (.int .i64 ((p1 : Int) + (n : Int)))) (some d) := grownBy_trans hg1 (grownBy_trans (grown_drewN _ _ _) (grownBy_set _ _ _ _))
      generalize (w1.drewN q).setCell ⟨d, 1, none⟩ (.int .i64 ((p1 : Int) + (n : Int))) = W at hRR hG ⊢
      have u0 : W.cell? ⟨d, 0, none⟩ = some (.slice bo bm bc) := by rw [cell_of_block hRR.1]; rfl
      obtain ⟨P, hP⟩ : ∃ P, P = p1 + n := ⟨_, rfl⟩
      have u1 : W.cell? ⟨d, 1, none⟩ = some (.int .i64 (P : Int)) := by rw [cell_of_block hRR.1, hP]; rfl
      have hbc := hRR.2.1.2.1
      have i0 : (0 : Int) ≤ (p1 : Int) := by omega
      have i1 : (p1 : Int) ≤ (P : Int) := by omega
      have i2 : (P : Int) ≤ (bc : Int) := by omega
      have e5 : (P : Int) - (n : Int) = (p1 : Int) := by omega
      have e6 : IntKind.i64.wrap ((P : Int) - (n : Int)) = (p1 : Int) := by rw [IntKind.wrap_i64]; omega
      have e7 : P - p1 = n := by omega
      have e8 : IntKind.i64.wrap (n : Int) = (n : Int) := by rw [IntKind.wrap_i64]; omega
      have e9 : IntKind.i64.wrap (p1 : Int) = (p1 : Int) := by rw [IntKind.wrap_i64]; omega
      clear hP
      have hll : ((L.drop p1).take n).length ≤ 1048576 := by rw [List.length_take, List.length_drop]; omega
      clear h1 hg1 k1 f1 HL c1
      cases bo with
      | none => have := (hRR.2.1.2.2.1 rfl).1; omega
      | some a =>
        obtain ⟨g, off, spot⟩ := a
        have hsp : spot = none := by
          obtain ⟨y, hy⟩ : ∃ y, (u8s L)[0]? = some y := ⟨_, List.getElem?_eq_getElem (by rw [u8s_len, hRR.2.1.1]; omega)⟩
          simpa [Addr.add] using World.cell?_spot (hRR.2.1.2.2.2 _ rfl 0 y hy)
        subst hsp
        have hfin : Hid (∀ v' w', Owns w' W.drew.heap.size v' ((L.drop p1).take n) → W.drew.grownBy w' none → ∃ ao m c, v' = .slice ao m c ∧ RBTells w d (some ⟨g, off, none⟩) bm bc L ((L.drop p1).take n) 0 ((L.drop p1).drop n) (.returned (.tuple #[.slice ao m c, .int .i64 0])) w') := by
          intro v' w' o1 o2
          obtain ⟨ao, c, rfl, _⟩ := Owns.holds o1
          have hne : some d ≠ none := by simp
          have o2' : W.grownBy w' none := ⟨o2.os, o2.tape, o2.output, o2.size, o2.block⟩
          refine ⟨ao, _, c, rfl, ao, _, c, rfl, ⟨rfl, Owns.lower o1 hG.size⟩, ⟨p1 + n, ⟨?_, hRR.2.1.kept (fun _ _ hv => o2'.cell hv (by simp)), hRR.2.2⟩, by simp⟩, grownBy_trans hG (grownBy_none o2')⟩
          rw [o2'.block d (Array.getElem?_eq_some_iff.1 hRR.1).1 hne]; exact hRR.1
        by_cases hbp : bc = p1
        · obtain rfl : n = 0 := by omega
          subst hbp
          have hsrc : Holds W.drew (some ⟨g, off, none⟩) 0 0 ((L.drop bc).take 0) := by
            have h7 := Holds.piece (K := bc) (n := 0) hRR.2.1 (by omega) (.inl ⟨rfl, rfl⟩)
            rw [Nat.sub_self] at h7; exact h7
          obtain rfl : P = bc := by omega
          have hslc : ∀ W2 : World, (Instr.slice 23 (.slice (some ⟨g, off, none⟩) bm P) (some (.int .i64 (P : Int))) (some (.int .i64 (P : Int))) none).run Try.prog W2 = .ok (.slice (some ⟨g, off, none⟩) 0 0) W2 := by
            intro W2
            clear e5 e6 e7 e8 e9
            go_simp
          clear e5 e6 e7 e8
          have e10 : IntKind.i64.wrap ((P : Int) - 0) = (P : Int) := by rw [IntKind.wrap_i64]; omega
          have e11 : IntKind.i64.wrap 0 = 0 := by decide
          have e12 : (P : Int) - 0 = (P : Int) := by omega
          clear hRR hG
          go_region_held3 (fun w' => w'.cell? ⟨d, 0, none⟩ = some (.slice (some ⟨g, off, none⟩) bm P) ∧ w'.cell? ⟨d, 1, none⟩ = some (.int .i64 (P : Int))) (go_keep)
            ((refine opApp _ _ (by rfl) (by rfl) _ _ _ (by rfl) _ hsrc hll ?_; intro v' w' o1 o2; have z0 := o2.cell (show W.drew.cell? ⟨d, 0, none⟩ = _ from u0) (by simp); have z1 := o2.cell (show W.drew.cell? ⟨d, 1, none⟩ = _ from u1) (by simp)))
          obtain ⟨ro, rm, rc, hv, hT⟩ := hfin.out v' w' o1 o2
          subst hv
          have HT := hide hT
          clear hT o1 o2 hfin z0 z1 hsrc hslc
          go_wp2
          go_ret2
          exact unhide HT
        · have hsrc : Holds W.drew (some ⟨g, off + p1, none⟩) n (bc - p1) ((L.drop p1).take n) := Holds.piece (K := p1) (n := n) hRR.2.1 (by omega) (.inr rfl)
          have hslc : ∀ W2 : World, (Instr.slice 23 (.slice (some ⟨g, off, none⟩) bm bc) (some (.int .i64 (p1 : Int))) (some (.int .i64 (P : Int))) none).run Try.prog W2 = .ok (.slice (some ⟨g, off + p1, none⟩) n (bc - p1)) W2 := slice_piece g off bm bc p1 P n e7 (by omega) (by omega) hbp
          clear hRR hG
          go_region_held3 (fun w' => w'.cell? ⟨d, 0, none⟩ = some (.slice (some ⟨g, off, none⟩) bm bc) ∧ w'.cell? ⟨d, 1, none⟩ = some (.int .i64 (P : Int))) (go_keep)
            ((refine opApp _ _ (by rfl) (by rfl) _ _ _ (by rfl) _ hsrc hll ?_; intro v' w' o1 o2; have z0 := o2.cell (show W.drew.cell? ⟨d, 0, none⟩ = _ from u0) (by simp); have z1 := o2.cell (show W.drew.cell? ⟨d, 1, none⟩ = _ from u1) (by simp)))
          obtain ⟨ro, rm, rc, hv, hT⟩ := hfin.out v' w' o1 o2
          subst hv
          have HT := hide hT
          clear hT o1 o2 hfin z0 z1 hsrc hslc
          go_wp2
          go_ret2
          exact unhide HT

end Go.Proofs.Ytaljkpndfjfgdaa
