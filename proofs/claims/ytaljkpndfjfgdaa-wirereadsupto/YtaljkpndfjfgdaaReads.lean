/-
  The walk of the law WireReads.
-/
import Derived.Test.YtaljkpndfjfgdaaStepb
namespace Go.Proofs.Ytaljkpndfjfgdaa
open Go.RowKit
attribute [local go_sem ↓] Go.wp_at_zero Go.wp_at_succ

theorem str_add165 (l : List Int) (hl : l.length ≤ 1048576) : ∀ W : World, (Op.stringOp .add (strOfNums l) { data := #[165] }).run Try.prog W = .ok (.string (strOfNums (l ++ [165]))) W := by
  intro W
  rw [run_string_add_sum]
  · have e : strOfNums l ++ { data := #[165] } = strOfNums (l ++ [165]) := by
      apply ByteArray.ext
      simp [strOfNums]
    rw [e]
  · rw [strOfNums_size]
    have : (ByteArray.mk #[165]).size = 1 := rfl
    omega

set_option maxHeartbeats 400000 in
/-- Open, where the bytes may be none. -/
theorem open_two (ao : Option Addr) (m c : Nat) (l : List Int) (w : World) (h : Holds w ao m c l) (hlen : m ≤ 140737488355328) (hby : Byt l) :
    Calls Try.prog 19 #[.slice ao m c] w fun e w' => ∃ b, e = .returned (.pointer (some ⟨b, 0, none⟩)) ∧ w.heap.size ≤ b ∧ b < w'.heap.size ∧ Below w.heap.size w w' ∧
      ((∃ g, w.heap.size ≤ g ∧ g < w'.heap.size ∧ Rd w' b g l) ∨ (l = [] ∧ ∀ g, g ≠ b → Rd w' b g l)) := by
  have hm := h.1
  go_enter Try.func19, Try.ntmps19
  go_wp2_with fail
  refine (join_one w ⟨ao, m, c, l⟩ 23 h (by simp only; omega)).mono ?_
  rintro e w1 ⟨ao1, m1, c1, rfl, hown, hb⟩
  go_wp2
  go_ret
  have hs := hb.size
  have hB : Below w.heap.size w (w1.alloc (Obj.cells #[Value.bool true, Value.slice ao1 m1 c1] 73)) := hb.alloc hs _
  have hh : Holds (w1.alloc (Obj.cells #[Value.bool true, Value.slice ao1 m1 c1] 73)) ao1 m1 c1 l := hown.held.alloc _
  rcases Owns.shape hown.2 with ⟨hv, hz⟩ | ⟨g, cap, hv, hg1, hg2, _⟩
  · cases hv
    obtain rfl : l = [] := List.eq_nil_of_length_eq_zero hown.1.symm
    exact ⟨w1.heap.size, rfl, hs, by simp, hB, .inr ⟨rfl, fun g hg => ⟨hby, by omega, none, 0, 0, heap_alloc_new _ _, hh, fun a ha => by cases ha⟩⟩⟩
  · cases hv
    exact ⟨w1.heap.size, rfl, hs, by simp, hB, .inl ⟨g, by omega, by simp; omega, ⟨hby, by omega, _, _, _, heap_alloc_new _ _, hh, fun a ha => by cases ha; exact ⟨0, rfl⟩⟩⟩⟩

theorem Only2.below {w w1 w2 : World} {B b d : Nat} (h : Only2 w1 w2 b d) (hB : Below B w w1) (hs : B ≤ w1.heap.size) (h1 : B ≤ b) (h2 : B ≤ d) : Below B w w2 :=
  ⟨h.os.trans hB.os, h.tape.trans hB.tape, h.output.trans hB.output, Nat.le_trans hB.size h.size, fun k hk => (h.block k (by omega) (by omega) (by omega)).trans (hB.block k hk)⟩

theorem below_drewN {B : Nat} {w w1 : World} (h : Below B w w1) (q : Nat) : Hid (Below B w (w1.drewN q)) := ⟨h.os, h.tape, h.output, h.size, h.block⟩

theorem Both.drewN {w : World} {b g d : Nat} {bo : Option Addr} {bm bc : Nat} {L : List Int} {pos : Nat} (h : Both w b g d bo bm bc L pos) (q : Nat) : Both (w.drewN q) b g d bo bm bc L pos := h

set_option maxHeartbeats 4000000 in
set_option maxRecDepth 100000 in
theorem reads4 (bo : Option Addr) (bm bc : Nat) (bl : List Int) (so : Option Addr) (sb soff sm sc : Nat) (K M : Nat → Int) (w : World) (hB : Holds w bo bm bc bl) (hby : Byt bl) (hbm : bm ≤ 1048576)
    (hbo : ∀ a, bo = some a → a.block < w.heap.size) (hso : Hid (sm = 0 ∨ so = some ⟨sb, soff, none⟩)) (hsm : sm ≤ 1048576)
    (hc : ∀ i, i < sm → w.cell? ⟨sb, soff + i * 2, none⟩ = some (.int .i64 (K i)) ∧ w.cell? ⟨sb, soff + i * 2 + 1, none⟩ = some (.int .i64 (M i))) (hM : ∀ i, i < sm → M i ≤ 9223372036854775807) :
    Calls Try.prog 4 #[.slice bo bm bc, .slice so sm sc] w fun e w' => e = .returned (.bool true) ∧ Below w.heap.size w w' := by
  have hbl := hide hB.1
  have hbll : bl.length ≤ 1048576 := by have := hbl.out; omega
  go_enter Try.func4, Try.ntmps4
  go_wp2_with (at_builtin; go_must (refine wpApp rfl _ _ 23 5 rfl Try.underlying23 Try.info5 w.heap.size _ [] rfl _ _ _ rfl bl (World.ownsRow_nil _ _ _ _) hB ?_ ?_ ?_))
  · simp; omega
  · simp
  intro v1 w1 hown1 hg1
  have hW1 : Below w.heap.size w w1 := (Below.refl w.heap.size w).grown hg1 (by simp) (by intro k hk; cases hk)
  have hown1' := owns_of hown1
  have hs11 := hg1.size
  clear hg1 hown1
  go_wp2_with (at_builtin; go_must (refine wpApp rfl _ _ 23 5 rfl Try.underlying23 Try.info5 w.heap.size _ bl rfl _ _ _ rfl [165] (hown1'.alloc _) (holds_built _ _ _) ?_ ?_ ?_))
  · simp; omega
  · simp; omega
  intro v2 w2 hown2 hg2
  have hW2 : Below w.heap.size w w2 := (hW1.alloc (by omega) _).grown hg2 (by simp; omega) (by intro k hk; have := (hown1'.lt k hk).1; omega)
  have hs22 : w.heap.size ≤ w2.heap.size := hW2.size
  obtain ⟨g, om, oc, hv, hO⟩ : ∃ g om oc, v2 = .slice (some ⟨g, 0, none⟩) om oc ∧ Slab w2 w.heap.size w2.heap.size ⟨some ⟨g, 0, none⟩, om, oc, bl ++ [165]⟩ := by
    have h := owns_of hown2
    rcases Owns.shape h with ⟨_, hz⟩ | ⟨g, cap, hv, _⟩
    · simp at hz
    · subst hv; exact ⟨g, _, cap, rfl, Slab.of ⟨rfl, h⟩⟩
  subst hv
  have hgO := hO.2 g rfl
  have hom : Hid (om = bm + 1) := by show om = bm + 1; have h1 := hO.1.1; have h2 := hbl.out; simp at h1; omega
  have hom1 : bm + 1 ≤ oc := by have := hom.out; have := hO.1.held.2.1; simp only at this; omega
  have hheld := hO.1.held.take bm (by simp only; have := hom.out; omega)
  simp only at hheld
  rw [List.take_left' hbl.out] at hheld
  have hi0 : (0 : Int) ≤ (bm : Int) := by omega
  have hi1 : (bm : Int) ≤ (oc : Int) := by omega
  clear hg2 hown2 hown1' hW1 hs11
  go_wp2_with fail
  refine (open_two _ bm oc bl w2 hheld (by omega) hby).mono ?_
  rintro e w3 ⟨b, rfl, hb1, hb2, hb3, hrd⟩
  have hO3 := hO.below hb3
  have hW3 := hW2.trans (hb3.mono hW2.size)
  have cO := hO3.conv
  have cB := conv_all (hB.below hW3)
  have hadd := str_add165 bl hbll
  have hsp := hide (spoil17 w.heap.size _ om oc _ w3 hO3.1 (by have := hom.out; omega) hW3.size)
  clear hO hheld
  go_wp2_with fail
  refine (unhide hsp).mono ?_
  rintro e w4 ⟨rfl, hg4⟩
  have hg4' : w3.grownBy w4 (some g) := hg4
  have hs4 := hg4'.size
  have hs3 := hb3.size
  have hW4 : Below w.heap.size w w4 := hW3.grown hg4' hW3.size (by intro k hk; cases hk; exact hgO.1)
  have hBoth : Hid (∃ g, Both (w4.alloc (.cells #[.slice bo bm bc, .int .i64 0] 40)) b g w4.heap.size bo bm bc bl 0) := by
    have hB4 := hB.below hW4
    have hRR : RR (w4.alloc (.cells #[.slice bo bm bc, .int .i64 0] 40)) w4.heap.size bo bm bc bl 0 := ⟨heap_alloc_new _ _, hB4.alloc _, hby, by omega, hbm, fun a ha => by have := hbo a ha; have := hW4.size; omega⟩
    have hbob : ∀ a, bo = some a → a.block ≠ b := fun a ha => by have := hbo a ha; omega
    rcases hrd with ⟨g3, h1, h2, h3⟩ | ⟨rfl, h3⟩
    · exact ⟨g3, rd_alloc (h3.keep hg4' (by simp; omega) (by intro _; simp; omega)) _, hRR, by omega, by omega, hbob, fun _ => by simp; omega⟩
    · exact ⟨b + w4.heap.size + 1, rd_alloc ((h3 (b + w4.heap.size + 1) (by omega)).keep hg4' (by simp; omega) (by intro h; exact absurd rfl h)) _, hRR, by omega, by omega, hbob, fun h => absurd rfl h⟩
  have hW5 := hide (hW4.alloc hW4.size (.cells #[.slice bo bm bc, .int .i64 0] 40))
  have hbw : w.heap.size ≤ b := by omega
  have hdw : w.heap.size ≤ w4.heap.size := hW4.size
  clear hsp hg4 hg4' hO3 cO cB hadd hrd hW3 hW4 hb3
  obtain ⟨g3, hBo⟩ := hBoth.out
  have HBo := hide hBo
  clear hBoth hBo
  go_wp2
  go_loopw [8] (fun i wr => ∃ k pos : Nat, k ≤ sm ∧ k ≤ 300 ∧ i = .int .i64 k ∧ Hid (Both wr b g3 w4.heap.size bo bm bc bl pos) ∧ Hid (Below w.heap.size w wr)) (fun i _ => sm - (intOf i).toNat)
  case atStart => exact ⟨0, 0, by omega, by omega, rfl, HBo, hW5⟩
  case round =>
    obtain ⟨k, pos, hk, hk3, rfl, hbo2, hbel⟩ := hrel
    by_cases hlt : k < sm
    · by_cases hlt3 : k < 300
      · obtain rfl : so = some ⟨sb, soff, none⟩ := hso.out.resolve_left (by omega)
        have c0 := Below.keeps hbel.out _ _ (hc k hlt).1
        have c1 := Below.keeps hbel.out _ _ (hc k hlt).2
        have hstep := hide (step20 b g3 w4.heap.size bo bm bc bl pos (K k) (M k) wr hbo2.out (hM k hlt))
        revert c0 c1 hstep
        generalize K k = kd
        generalize M k = ms
        intro c0 c1 hstep
        go_wp2_with fail
        refine (unhide hstep).mono ?_
        rintro e w6 ⟨rfl, ⟨p, hp⟩, ho⟩
        have hbel6 := hide (ho.below hbel.out hbel.out.size hbw hdw)
        have HP := hide hp
        have hL1 := hide (left_rd b g3 _ w6 hp.1)
        have hL0 := hide (left22 w4.heap.size bo bm bc bl p w6 hp.2.1)
        have hL2 := hide (fun q => left22 w4.heap.size bo bm bc bl p (w6.drewN q) (hp.2.1.drewN q))
        have hE := hide (fun q => end_rd b g3 _ (w6.drewN q) (hp.drewN q).1)
        clear hstep ho hp c0 c1
        have hcs : ((bl.drop p).length = 0 ∧ endE (bl.drop p) = 0) ∨ (0 < (bl.drop p).length ∧ endE (bl.drop p) = 4) := by
          unfold endE
          by_cases h0 : bl.drop p = []
          · left; rw [if_pos h0, h0]; exact ⟨rfl, rfl⟩
          · right; rw [if_neg h0]; exact ⟨List.length_pos_iff.2 h0, rfl⟩
        revert hL1 hL0 hL2 hE hcs
        generalize (bl.drop p).length = N
        generalize endE (bl.drop p) = E
        intro hL1 hL0 hL2 hE hcs
        rcases hcs with ⟨rfl, rfl⟩ | ⟨hN, rfl⟩
        · skip
          have mark : True := trivial
          go_wp2_with (first
            | (go_at_call 21; refine (unhide hL1).mono ?_; rintro e w' ⟨rfl, rfl⟩)
            | (go_at_call 22; clear mark; refine (unhide hL0).mono ?_; rintro e w' ⟨rfl, q1, rfl⟩)
            | (go_at_call 24; refine (unhide hE q1).mono ?_; rintro e w' ⟨rfl, rfl⟩)
            | (go_at_call 23; refine (num_err _ _).mono ?_; rintro e w' ⟨rfl, rfl⟩)
            | (go_at_call 22; refine (unhide hL2 q1).mono ?_; rintro e w' ⟨rfl, q2, rfl⟩))
          go_roundw
          case rel => exact ⟨k + 1, p, by omega, by omega, by go_num, HP, below_drewN hbel6.out _⟩
          case measure => simp [intOf]; omega
        · have hz : ((N : Int) == 0) = false := by rw [beq_eq_false_iff_ne]; omega
          have mark : True := trivial
          go_wp2_with (first
            | (go_at_call 21; refine (unhide hL1).mono ?_; rintro e w' ⟨rfl, rfl⟩)
            | (go_at_call 22; clear mark; refine (unhide hL0).mono ?_; rintro e w' ⟨rfl, q1, rfl⟩)
            | (go_at_call 24; refine (unhide hE q1).mono ?_; rintro e w' ⟨rfl, rfl⟩)
            | (go_at_call 23; refine (num_err _ _).mono ?_; rintro e w' ⟨rfl, rfl⟩)
            | (go_at_call 22; refine (unhide hL2 q1).mono ?_; rintro e w' ⟨rfl, q2, rfl⟩))
          go_roundw
          case rel => exact ⟨k + 1, p, by omega, by omega, by go_num, HP, below_drewN hbel6.out _⟩
          case measure => simp [intOf]; omega
      · go_wp2_with (go_at_call 18; refine (known18 _).mono ?_; rintro e w7 ⟨rfl, hb7⟩)
        have hfin := hide (hbel.out.trans (hb7.mono hbel.out.size))
        clear hb7
        go_wp2
        go_ret
        exact ⟨rfl, unhide hfin⟩
    · go_wp2_with (go_at_call 18; refine (known18 _).mono ?_; rintro e w7 ⟨rfl, hb7⟩)
      have hfin := hide (hbel.out.trans (hb7.mono hbel.out.size))
      clear hb7
      go_wp2
      go_ret
      exact ⟨rfl, unhide hfin⟩
end Go.Proofs.Ytaljkpndfjfgdaa
