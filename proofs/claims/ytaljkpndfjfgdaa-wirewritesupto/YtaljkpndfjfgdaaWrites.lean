/-
  The walk of the law WireWrites.
-/
import Derived.Test.YtaljkpndfjfgdaaSlab
import Derived.Test.YtaljkpndfjfgdaaSpoil
import Derived.Deep.RegionHeld3
import Derived.Deep.CutRange
import Derived.Deep.DrawnRows
import Derived.Deep.QuietTactic
import Derived.BigQuiet
namespace Go.Proofs.Ytaljkpndfjfgdaa
open Go.RowKit
attribute [local go_sem ↓] Go.wp_at_zero Go.wp_at_succ

theorem join_any (lo : Option Addr) (b off cap : Nat) (xs : List Sl) (w : World) (hlo : xs = [] ∨ lo = some ⟨b, off, none⟩) (hx : xs.length ≤ 140737488355328)
    (hc : ∀ i, ∀ h : i < xs.length, w.cell? ⟨b, off + i, none⟩ = some (xs[i].val)) (hs : ∀ i, ∀ h : i < xs.length, (xs[i]).ok w) (hlen : (flat xs).length ≤ 140737488355328) :
    Calls Try.prog 10 #[.slice lo xs.length cap] w fun e w' => Gives w (w.heap.size) (flat xs) e w' := by
  rcases hlo with rfl | rfl
  · exact join_none lo cap w
  · exact join_some b off cap xs w hx hc hs hlen

/-- A flag's byte. -/
def flagB (b : Bool) : Int := if b then 1 else 0
theorem flag_b (b : Bool) (w : World) : Calls Try.prog 15 #[.bool b] w fun e w' => Gives w w.heap.size [flagB b] e w' := flag_any b w
theorem refFlag_b (b : Bool) (w : World) : Calls Try.prog 16 #[.bool b] w fun e w' => Gives w w.heap.size [flagB b] e w' := refFlag_any b w

theorem chain6 {w8 w9 w10 w11 w12 w13 w14 : World} (h9 : Below w8.drew.heap.size w8.drew w9) (h10 : Below w9.heap.size w9 w10) (h11 : Below w10.heap.size w10 w11) (h12 : Below w11.heap.size w11 w12)
    (h13 : Below w12.heap.size w12 w13) (h14 : Below w13.heap.size w13 w14) : Below w8.heap.size w8 w14 := by
  have k9 : Below w8.heap.size w8 w9 := ⟨h9.os, h9.tape, h9.output, h9.size, h9.block⟩
  have k10 := k9.trans (h10.mono k9.size)
  have k11 := k10.trans (h11.mono k10.size)
  have k12 := k11.trans (h12.mono k11.size)
  have k13 := k12.trans (h13.mono k12.size)
  exact k13.trans (h14.mono k13.size)

theorem str_add (l : List Int) (hl : l.length ≤ 1048576) : ∀ W : World, (Op.stringOp .add (strOfNums l) { data := #[119] }).run Try.prog W = .ok (.string (strOfNums (l ++ [119]))) W := by
  intro W
  rw [run_string_add_sum]
  · have e : strOfNums l ++ { data := #[119] } = strOfNums (l ++ [119]) := by
      apply ByteArray.ext
      simp [strOfNums]
    rw [e]
  · rw [strOfNums_size]
    have : (ByteArray.mk #[119]).size = 1 := rfl
    omega

theorem keep4r {W w1 : World} {row : Option Nat} {N : Nat} (hg : W.grownBy w1 row) (hne : some N ≠ row) {v0 v1 v2 v3 : Value} (h : W.cell? ⟨N, 0, none⟩ = some v0 ∧ W.cell? ⟨N, 1, none⟩ = some v1 ∧ W.cell? ⟨N, 2, none⟩ = some v2 ∧ W.cell? ⟨N, 3, none⟩ = some v3) :
    w1.cell? ⟨N, 0, none⟩ = some v0 ∧ w1.cell? ⟨N, 1, none⟩ = some v1 ∧ w1.cell? ⟨N, 2, none⟩ = some v2 ∧ w1.cell? ⟨N, 3, none⟩ = some v3 :=
  ⟨hg.cell h.1 hne, hg.cell h.2.1 hne, hg.cell h.2.2.1 hne, hg.cell h.2.2.2 hne⟩

theorem Holds.sub {w : World} {g off m c K n : Nat} {l : List Int} {ao' : Option Addr} (h : Holds w (some ⟨g, off, none⟩) m c l) (hK : K + n ≤ m) (hao : (c = K ∧ ao' = some ⟨g, off, none⟩) ∨ ao' = some ⟨g, off + K, none⟩) :
    Holds w ao' n (c - K) ((l.drop K).take n) := by
  obtain ⟨h1, h2, h3, h4⟩ := h
  refine ⟨by rw [List.length_take, List.length_drop]; omega, by omega, ?_, ?_⟩
  · intro hn; rcases hao with ⟨_, e⟩ | e <;> rw [e] at hn <;> cases hn
  · intro ad had j u hj
    have hjn : j < n := by
      have := (List.getElem?_eq_some_iff.1 hj).1
      simp [u8s] at this; omega
    rcases hao with ⟨e1, _⟩ | e
    · omega
    · rw [e] at had
      cases had
      have hju : (u8s l)[K + j]? = some u := by rw [← hj]; simp [u8s, hjn]
      have := h4 _ rfl (K + j) u hju
      rw [Addr.add_lit] at this ⊢
      rw [Nat.add_assoc]; exact this

theorem flat_part (xs : List Sl) (i : Nat) (h : i < xs.length) : ((flat xs).drop (flat (xs.take i)).length).take (xs[i].l).length = xs[i].l ∧ (flat (xs.take i)).length + (xs[i].l).length ≤ (flat xs).length := by
  have e1 : flat xs = flat (xs.take (i + 1)) ++ flat (xs.drop (i + 1)) := by unfold flat; rw [← List.flatten_append, ← List.map_append, List.take_append_drop]
  rw [flat_succ xs i h] at e1
  constructor
  · rw [e1, List.append_assoc, List.drop_left, List.take_left]
  · rw [e1]; simp

/-- What the great test reads: the box, and four rows. -/
def Ten (W : World) (N n : Nat) (s : Int) (f : Bool) (bo : Option Addr) (bm bc : Nat) (a d x j : Sl) (i1 k1 i2 k2 i3 k3 i4 k4 : Nat) : Prop :=
  (W.cell? ⟨N, 0, none⟩ = some (.int .u64 n) ∧ W.cell? ⟨N, 1, none⟩ = some (.int .i64 s) ∧ W.cell? ⟨N, 2, none⟩ = some (.bool f) ∧ W.cell? ⟨N, 3, none⟩ = some (.slice bo bm bc)) ∧
  Slab W i1 k1 a ∧ Slab W i2 k2 d ∧ Slab W i3 k3 x ∧ Slab W i4 k4 j

theorem Ten.below {W w1 : World} {N n : Nat} {s : Int} {f : Bool} {bo : Option Addr} {bm bc : Nat} {a d x j : Sl} {i1 k1 i2 k2 i3 k3 i4 k4 : Nat} (h : Ten W N n s f bo bm bc a d x j i1 k1 i2 k2 i3 k3 i4 k4) (hb : Below W.heap.size W w1) :
    Ten w1 N n s f bo bm bc a d x j i1 k1 i2 k2 i3 k3 i4 k4 := ⟨keep4b hb h.1, h.2.1.below hb, h.2.2.1.below hb, h.2.2.2.1.below hb, h.2.2.2.2.below hb⟩

/-- The limbs as the walk reads them. -/
def Limbs (W : World) (N n : Nat) (s : Int) (f : Bool) (bo : Option Addr) (bm bc : Nat) (a d x j : Sl) : Prop :=
  W.cell? ⟨N, 0, none⟩ = some (.int .u64 n) ∧ W.cell? ⟨N, 1, none⟩ = some (.int .i64 s) ∧ W.cell? ⟨N, 2, none⟩ = some (.bool f) ∧ W.cell? ⟨N, 3, none⟩ = some (.slice bo bm bc) ∧
  (convert 23 9 (.slice a.ao a.m a.c)).run Try.prog W = .ok (.string (strOfNums a.l)) W ∧ (convert 23 9 (.slice d.ao d.m d.c)).run Try.prog W = .ok (.string (strOfNums d.l)) W ∧
  (convert 23 9 (.slice x.ao x.m x.c)).run Try.prog W = .ok (.string (strOfNums x.l)) W ∧ (convert 23 9 (.slice j.ao j.m j.c)).run Try.prog W = .ok (.string (strOfNums j.l)) W

theorem Ten.limbs {W : World} {N n : Nat} {s : Int} {f : Bool} {bo : Option Addr} {bm bc : Nat} {a d x j : Sl} {i1 k1 i2 k2 i3 k3 i4 k4 : Nat} (h : Ten W N n s f bo bm bc a d x j i1 k1 i2 k2 i3 k3 i4 k4) :
    Limbs W N n s f bo bm bc a d x j := ⟨h.1.1, h.1.2.1, h.1.2.2.1, h.1.2.2.2, h.2.1.1.conv, h.2.2.1.1.conv, h.2.2.2.1.1.conv, h.2.2.2.2.1.conv⟩

set_option maxHeartbeats 4000000 in
set_option maxRecDepth 100000 in
theorem writes3 (n : Nat) (s : Int) (f : Bool) (bo : Option Addr) (bm bc : Nat) (bl : List Int) (lo : Option Addr) (b off lc : Nat) (xs : List Sl) (w : World)
    (hn : n < 18446744073709551616) (hs1 : -9223372036854775808 ≤ s) (hs2 : s ≤ 9223372036854775807) (hB : Holds w bo bm bc bl)
    (hbm : bm ≤ 1048576) (hx : xs.length ≤ 1048576) (hfl : (flat xs).length ≤ 1048576)
    (hc : ∀ i, ∀ h : i < xs.length, w.cell? ⟨b, off + i, none⟩ = some (xs[i].val)) (hok : ∀ i, ∀ h : i < xs.length, (xs[i]).ok w) (hlo : Hid (xs = [] ∨ lo = some ⟨b, off, none⟩)) :
    Calls Try.prog 3 #[.agg #[.int .u64 n, .int .i64 s, .bool f, .slice bo bm bc], .slice lo xs.length lc] w fun e w' => e = .returned (.bool true) ∧ Below w.heap.size w w' := by
  have hL1 := num_len hn
  have hfl2 := fold_lt s hs1 hs2
  have hbl := hide hB.1
  have hbll : bl.length ≤ 1048576 := by have := hbl.out; omega
  have hL3 := num_len (n := bm) (by omega)
  go_enter Try.func3, Try.ntmps3
  go_wp2_with (at_builtin; go_must (refine wpApp rfl _ _ 23 5 rfl Try.underlying23 Try.info5 (w.heap.size + 1) _ [] rfl _ _ _ rfl bl (World.ownsRow_nil _ _ _ _) (hB.alloc _) ?_ ?_ ?_))
  · simp; omega
  · simp
  intro v1 w1 hown1 hg1
  have hW1 : Below w.heap.size w w1 := ((Below.refl w.heap.size w).alloc (Nat.le_refl _) _).grown hg1 (by simp) (by intro k hk; cases hk)
  have hc1 : w1.cell? ⟨w.heap.size, 0, none⟩ = some (.int .u64 n) ∧ w1.cell? ⟨w.heap.size, 1, none⟩ = some (.int .i64 s) ∧ w1.cell? ⟨w.heap.size, 2, none⟩ = some (.bool f) ∧ w1.cell? ⟨w.heap.size, 3, none⟩ = some (.slice bo bm bc) :=
    ⟨hg1.cell (by simp) (by simp [Value.ownBlock]), hg1.cell (by simp) (by simp [Value.ownBlock]), hg1.cell (by simp) (by simp [Value.ownBlock]), hg1.cell (by simp) (by simp [Value.ownBlock])⟩
  have hs11 : w.heap.size + 1 ≤ w1.heap.size := by have := hg1.size; simp at this; omega
  have hown1' := owns_of hown1
  clear hg1 hown1
  have Hc1 := hide hc1
  go_wp2_with (at_builtin; go_must (refine wpApp rfl _ _ 23 5 rfl Try.underlying23 Try.info5 (w.heap.size + 1) _ bl rfl _ _ _ rfl [119] (hown1'.alloc _) (holds_built _ _ _) ?_ ?_ ?_))
  · simp; omega
  · simp; omega
  intro v2 w2 hown2 hg2
  have hW2 : Below w.heap.size w w2 := (hW1.alloc (by omega) _).grown hg2 (by simp; omega) (by intro k hk; have := (hown1'.lt k hk).1; omega)
  have hc2 : w2.cell? ⟨w.heap.size, 0, none⟩ = some (.int .u64 n) ∧ w2.cell? ⟨w.heap.size, 1, none⟩ = some (.int .i64 s) ∧ w2.cell? ⟨w.heap.size, 2, none⟩ = some (.bool f) ∧ w2.cell? ⟨w.heap.size, 3, none⟩ = some (.slice bo bm bc) := by
    have hne : some w.heap.size ≠ v1.ownBlock := by intro e; have := (hown1'.lt _ e.symm).1; omega
    have hcc := keep4b (W := w1) ((Below.refl _ _).alloc (Nat.le_refl _) (.cells #[.int .u8 119] 5)) Hc1.out
    exact ⟨hg2.cell hcc.1 hne, hg2.cell hcc.2.1 hne, hg2.cell hcc.2.2.1 hne, hg2.cell hcc.2.2.2 hne⟩
  have hs22 : w.heap.size + 1 ≤ w2.heap.size := by have := hg2.size; simp at this; omega
  obtain ⟨g, om, oc, hv, hO⟩ : ∃ g om oc, v2 = .slice (some ⟨g, 0, none⟩) om oc ∧ Slab w2 (w.heap.size + 1) w2.heap.size ⟨some ⟨g, 0, none⟩, om, oc, bl ++ [119]⟩ := by
    have h := owns_of hown2
    rcases Owns.shape h with ⟨_, hz⟩ | ⟨g, cap, hv, _⟩
    · simp at hz
    · subst hv; exact ⟨g, _, cap, rfl, Slab.of ⟨rfl, h⟩⟩
  subst hv
  have hom : Hid (om = bm + 1) := by show om = bm + 1; have h1 := hO.1.1; have h2 := hbl.out; simp at h1; omega
  have hom1 : bm + 1 ≤ oc := by have := hom.out; have := hO.1.held.2.1; simp only at this; omega
  have hheld := hO.1.held.take bm (by simp only; have := hom.out; omega)
  simp only at hheld
  rw [List.take_left' hbl.out] at hheld
  have hheldD : Holds w2.drew (some ⟨g, 0, none⟩) bm oc bl := hheld
  have hi0 : (0 : Int) ≤ (bm : Int) := by omega
  have hi1 : (bm : Int) ≤ (oc : Int) := by omega
  have hc2D : w2.drew.cell? ⟨w.heap.size, 0, none⟩ = some (.int .u64 n) ∧ w2.drew.cell? ⟨w.heap.size, 1, none⟩ = some (.int .i64 s) ∧ w2.drew.cell? ⟨w.heap.size, 2, none⟩ = some (.bool f) ∧ w2.drew.cell? ⟨w.heap.size, 3, none⟩ = some (.slice bo bm bc) := hc2
  clear hg2 hown2 hown1' Hc1 hc1 hW1 hs11
  go_wp2
  have mark : True := trivial
  go_region_held3 (fun w' => w'.cell? ⟨w.heap.size, 0, none⟩ = some (.int .u64 n) ∧ w'.cell? ⟨w.heap.size, 1, none⟩ = some (.int .i64 s) ∧ w'.cell? ⟨w.heap.size, 2, none⟩ = some (.bool f) ∧ w'.cell? ⟨w.heap.size, 3, none⟩ = some (.slice bo bm bc)) (go_keep)
    (first
      | (go_at_call 8; clear mark; refine (bytes_any (some ⟨g, 0, none⟩) bm oc bl _ hheldD (by omega)).mono ?_; rintro e w3 ⟨ao3, m3, c3, rfl, hown3, hb3⟩; obtain ⟨ka0, ka1, ka2, ka3⟩ := keep4b hb3 hc2D)
      | (go_at_call 8; refine (bytes_any (some ⟨g, 0, none⟩) bm oc bl _ (hheldD.below hb3) (by omega)).mono ?_; rintro e w4 ⟨ao4, m4, c4, rfl, hown4, hb4⟩; obtain ⟨kb0, kb1, kb2, kb3⟩ := keep4b hb4 ⟨ka0, ka1, ka2, ka3⟩))
  have hO4 := (Slab.below (w := w2.drew) hO hb3).below hb4
  have hA4 : Slab w4 w2.heap.size w3.heap.size ⟨ao3, m3, c3, num bm ++ bl⟩ := (Slab.of hown3).below hb4
  have hB4 := Slab.of hown4
  have hW3 : Below w.heap.size w w3 := hW2.trans (Below.mono (w := w2) ⟨hb3.os, hb3.tape, hb3.output, hb3.size, hb3.block⟩ hW2.size)
  have hW4 := hW3.trans (hb4.mono hW3.size)
  have hc4D : w4.drew.cell? ⟨w.heap.size, 0, none⟩ = some (.int .u64 n) ∧ w4.drew.cell? ⟨w.heap.size, 1, none⟩ = some (.int .i64 s) ∧ w4.drew.cell? ⟨w.heap.size, 2, none⟩ = some (.bool f) ∧ w4.drew.cell? ⟨w.heap.size, 3, none⟩ = some (.slice bo bm bc) := ⟨kb0, kb1, kb2, kb3⟩
  have hh23 : w2.heap.size ≤ w3.heap.size := hb3.size
  have hh34 := hb4.size
  clear hb3 hb4 hown3 hown4 ka0 ka1 ka2 ka3 hc2 hc2D hheld hheldD hO hW2 hW3
  go_wp2
  have mark : True := trivial
  go_region_held3 (fun w' => w'.cell? ⟨w.heap.size, 0, none⟩ = some (.int .u64 n) ∧ w'.cell? ⟨w.heap.size, 1, none⟩ = some (.int .i64 s) ∧ w'.cell? ⟨w.heap.size, 2, none⟩ = some (.bool f) ∧ w'.cell? ⟨w.heap.size, 3, none⟩ = some (.slice bo bm bc)) (go_keep)
    (first
      | (go_at_call 9; clear mark; refine (number_any n _ hn).mono ?_; rintro e w5 ⟨ao5, m5, c5, rfl, hown5, hb5⟩; obtain ⟨ka0, ka1, ka2, ka3⟩ := keep4b hb5 hc4D)
      | (go_at_call 9; refine (number_any n _ hn).mono ?_; rintro e w6 ⟨ao6, m6, c6, rfl, hown6, hb6⟩; obtain ⟨kc0, kc1, kc2, kc3⟩ := keep4b hb6 ⟨ka0, ka1, ka2, ka3⟩))
  have hO6 := (Slab.below (w := w4.drew) hO4 hb5).below hb6
  have hA6 := (Slab.below (w := w4.drew) hA4 hb5).below hb6
  have hB6 := (Slab.below (w := w4.drew) hB4 hb5).below hb6
  have hN6 : Slab w6 w4.heap.size w5.heap.size ⟨ao5, m5, c5, num n⟩ := (Slab.of hown5).below hb6
  have hM6 := Slab.of hown6
  have hW5 : Below w.heap.size w w5 := hW4.trans (Below.mono (w := w4) ⟨hb5.os, hb5.tape, hb5.output, hb5.size, hb5.block⟩ hW4.size)
  have hW6 := hW5.trans (hb6.mono hW5.size)
  have hc6 := hide (And.intro kc0 (And.intro kc1 (And.intro kc2 kc3)))
  have hh45 : w4.heap.size ≤ w5.heap.size := hb5.size
  have hh56 := hb6.size
  clear hb5 hb6 hown5 hown6 ka0 ka1 ka2 ka3 kb0 kb1 kb2 kb3 kc0 kc1 kc2 kc3 hc4D hO4 hA4 hB4 hW4 hW5
  go_wp2
  go_loopw [10, 11] (fun v i wr => ∃ k : Nat, k ≤ xs.length ∧ i = .int .i64 k ∧ Owns wr w6.heap.size v (flat (xs.take k)) ∧ Below w6.heap.size w6 wr)
    (fun _ i _ => xs.length - (intOf i).toNat)
  case atStart => exact ⟨0, Nat.zero_le _, rfl, World.ownsRow_nil _ _ _ _, Below.refl _ _⟩
  case round =>
    obtain ⟨k, hk, rfl, hown, hb⟩ := hrel
    have hsz := hb.size
    by_cases hlt : k < xs.length
    · obtain rfl : lo = some ⟨b, off, none⟩ := hlo.out.resolve_left (by intro e; rw [e] at hlt; simp at hlt)
      have hWr := hW6.trans (hb.mono hW6.size)
      have hcell := (Below.keeps hWr) _ _ (hc k hlt)
      have hokk := Holds.below (hok k hlt) hWr
      have hfl1 := flat_le xs (k + 1)
      have hfs : Hid (flat (xs.take (k + 1)) = flat (xs.take k) ++ xs[k].l) := flat_succ xs k hlt
      rw [hfs.out] at hfl1
      revert hcell hokk hfl1 hfs
      generalize xs[k] = s1
      generalize hF : flat (xs.take k) = F at hown
      clear hF
      rcases s1 with ⟨ao, m, c, l⟩
      simp only [Sl.val]
      intro hcell hokk hfl1 hfs
      go_wp2_with (at_builtin; go_must (refine wpApp rfl _ _ 23 5 rfl Try.underlying23 Try.info5 w6.heap.size _ _ rfl _ _ _ rfl _ hown hokk ?_ ?_ ?_))
      · simp at hfl1; omega
      try omega
      intro v7 w7 hown7 hg7
      have hb7 : Below w6.heap.size w6 w7 := rel_app hown hb (Nat.le_refl _) hg7
      clear hg7 hown hb hcell hokk hWr
      go_wp2
      go_roundw
      case rel => exact ⟨k + 1, by omega, by go_num, (by rw [hfs.out]; exact owns_of hown7), hb7⟩
      case measure => simp [intOf]; omega
    · rw [flat_all xs k (by omega)] at hown
      go_wp2_with fail
      have hWr := hW6.trans (hb.mono hW6.size)
      obtain ⟨xo, xm, xc, hv, hX⟩ : ∃ xo xm xc, u10 = .slice xo xm xc ∧ Slab wr w6.heap.size wr.heap.size ⟨xo, xm, xc, flat xs⟩ := by
        obtain ⟨xo, xc, hv, _⟩ := Owns.holds hown
        subst hv; exact ⟨xo, _, xc, rfl, Slab.of ⟨rfl, hown⟩⟩
      subst hv
      refine (join_any lo b off lc xs wr hlo.out (by omega) (fun i h => Below.keeps hWr _ _ (hc i h)) (fun i h => Holds.below (hok i h) hWr) (by omega)).mono ?_
      rintro e w8 ⟨jo, jm, jc, rfl, hown8, hb8⟩
      have hW8 := hWr.trans (hb8.mono hWr.size)
      have hO8 := (hO6.below hb).below hb8
      have hA8 := (hA6.below hb).below hb8
      have hB8 := (hB6.below hb).below hb8
      have hN8 := (hN6.below hb).below hb8
      have hM8 := (hM6.below hb).below hb8
      have hX8 := hX.below hb8
      have hJ8 := Slab.of hown8
      have hT8 : Ten w8.drew w.heap.size n s f bo bm bc ⟨ao3, m3, c3, num bm ++ bl⟩ ⟨ao5, m5, c5, num n⟩ ⟨xo, xm, xc, flat xs⟩ ⟨jo, jm, jc, flat xs⟩ w2.heap.size w3.heap.size w4.heap.size w5.heap.size w6.heap.size wr.heap.size wr.heap.size w8.heap.size :=
        ⟨keep4b (w1 := w8) hb8 (keep4b (W := w6) hb hc6.out), hA8, hN8, hX8, hJ8⟩
      have hHB : Holds w8.drew bo bm bc bl := (show Holds w8 bo bm bc bl from hB.below hW8)
      have hszr : w6.heap.size ≤ wr.heap.size := hb.size
      have hsz8 := hb8.size
      have HW8 := hide hW8
      obtain ⟨p0, p1, p2, p3, p4, p5, p6, p7⟩ := hT8.limbs
      simp only at p4 p5 p6 p7
      clear hown hb hown8 hb8 hX hO6 hA6 hB6 hN6 hM6 hWr hW8 hW6 hc6
      go_wp2
      go_cut [96] from 52 to 96 (fun b wc => b = .bool false ∧ Below w8.heap.size w8 wc)
      case first =>
        go_region_held (fun w' => w'.cell? ⟨w.heap.size, 0, none⟩ = some (.int .u64 n) ∧ w'.cell? ⟨w.heap.size, 1, none⟩ = some (.int .i64 s) ∧ w'.cell? ⟨w.heap.size, 2, none⟩ = some (.bool f) ∧ w'.cell? ⟨w.heap.size, 3, none⟩ = some (.slice bo bm bc) ∧ (convert 23 9 (.slice ao3 m3 c3)).run Try.prog w' = .ok (.string (strOfNums (num bm ++ bl))) w' ∧ (convert 23 9 (.slice ao5 m5 c5)).run Try.prog w' = .ok (.string (strOfNums (num n))) w' ∧ (convert 23 9 (.slice xo xm xc)).run Try.prog w' = .ok (.string (strOfNums (flat xs))) w' ∧ (convert 23 9 (.slice jo jm jc)).run Try.prog w' = .ok (.string (strOfNums (flat xs))) w') (go_keep)
          (first
            | (go_at_call 11; refine (refBytes_any bo bm bc bl _ hHB (by omega)).mono ?_; rintro e w9 ⟨yo9, ym9, yc9, rfl, hq9, hb9⟩; have hT9 := hT8.below hb9; obtain ⟨q0, q1, q2, q3, q4, q5, q6, q7⟩ := hT9.limbs; simp only at q4 q5 q6 q7; have r9 := hq9.conv)
            | (go_at_call 12; refine (refNumber_any n _ hn).mono ?_; rintro e w10 ⟨yo10, ym10, yc10, rfl, hq10, hb10⟩; have hT10 := hT9.below hb10; obtain ⟨s0, s1, s2, s3, s4, s5, s6, s7⟩ := hT10.limbs; simp only at s4 s5 s6 s7; have r10 := hq10.conv)
            | (go_at_call 13; refine (signed_any s _ hs1 hs2).mono ?_; rintro e w11 ⟨yo11, ym11, yc11, rfl, hq11, hb11⟩; have hT11 := hT10.below hb11; obtain ⟨t0, t1, t2, t3, t4, t5, t6, t7⟩ := hT11.limbs; simp only at t4 t5 t6 t7; have r11 := hq11.conv)
            | (go_at_call 14; refine (refSigned_any s _ hs1 hs2).mono ?_; rintro e w12 ⟨yo12, ym12, yc12, rfl, hq12, hb12⟩; have hT12 := hT11.below hb12; obtain ⟨v0, v1, v2, v3, v4, v5, v6, v7⟩ := hT12.limbs; simp only at v4 v5 v6 v7; have r12 := hq12.conv; have r12' := (hq11.kept (below_grown hb12) (by intro k hk; cases hk)).conv)
            | (go_at_call 15; refine (flag_b f _).mono ?_; rintro e w13 ⟨yo13, ym13, yc13, rfl, hq13, hb13⟩; have hT13 := hT12.below hb13; obtain ⟨z0, z1, z2, z3, z4, z5, z6, z7⟩ := hT13.limbs; simp only at z4 z5 z6 z7; have r13 := hq13.conv)
            | (go_at_call 16; refine (refFlag_b f _).mono ?_; rintro e w14 ⟨yo14, ym14, yc14, rfl, hq14, hb14⟩; have hT14 := hT13.below hb14; obtain ⟨x0, x1, x2, x3, x4, x5, x6, x7⟩ := hT14.limbs; simp only at x4 x5 x6 x7; have r14 := hq14.conv; have r14' := (hq13.kept (below_grown hb14) (by intro k hk; cases hk)).conv))
        all_goals (go_wp2_with fail; go_meet; exact ⟨rfl, chain6 hb9 hb10 hb11 hb12 hb13 hb14⟩)
      case rest =>
        obtain ⟨rfl, hbc⟩ := hcut
        clear p0 p1 p2 p3 p4 p5 p6 p7 hHB
        have hWc := HW8.out.trans (hbc.mono HW8.out.size)
        have hO := hO8.below hbc
        have hA := hA8.below hbc
        have hBB := hB8.below hbc
        have hN := hN8.below hbc
        have hM := hM8.below hbc
        have hX := hX8.below hbc
        have hJ := hJ8.below hbc
        have hcc : Hid _ := hide (keep4b hbc hT8.1)
        have hszc := hbc.size
        clear hO8 hA8 hB8 hN8 hM8 hX8 hJ8 hT8 hbc HW8
        have hm3 : m3 ≤ 140737488355000 := by have := hA.1.1; simp only at this; rw [this]; simp; omega
        have hm5 : m5 ≤ 140737488355000 := by have := hN.1.1; simp only at this; omega
        have hmj : jm ≤ 140737488355000 := by have := hJ.1.1; simp only at this; omega
        go_wp2_with fail
        refine (spoil17 w2.heap.size ao3 m3 c3 _ wc hA.1 hm3 (by omega)).mono ?_
        rintro e w15 ⟨rfl, hg15⟩
        have hr15 : ∀ k, (Value.slice ao3 m3 c3).ownBlock = some k → w2.heap.size ≤ k ∧ k < w3.heap.size := hA.2
        have hO15 := hO.grown hg15 (by intro k hk; have := hr15 k hk; omega)
        have hB15 := hBB.grown hg15 (by intro k hk; have := hr15 k hk; omega)
        have hN15 := hN.grown hg15 (by intro k hk; have := hr15 k hk; omega)
        have hM15 := hM.grown hg15 (by intro k hk; have := hr15 k hk; omega)
        have hX15 := hX.grown hg15 (by intro k hk; have := hr15 k hk; omega)
        have hJ15 := hJ.grown hg15 (by intro k hk; have := hr15 k hk; omega)
        have hW15 := hWc.grown hg15 hWc.size (by intro k hk; have := hr15 k hk; omega)
        have hcc15 := hide (keep4r hg15 (N := w.heap.size) (by intro e; have := hr15 _ e.symm; omega) hcc.out)
        have hs15 := hg15.size
        clear hg15 hr15 hA hO hBB hN hM hX hJ hWc hcc
        go_wp2_with fail
        refine (spoil17 w4.heap.size ao5 m5 c5 _ w15 hN15.1 hm5 (by omega)).mono ?_
        rintro e w16 ⟨rfl, hg16⟩
        have hr16 : ∀ k, (Value.slice ao5 m5 c5).ownBlock = some k → w4.heap.size ≤ k ∧ k < w5.heap.size := hN15.2
        have hO16 := hO15.grown hg16 (by intro k hk; have := hr16 k hk; omega)
        have hB16 := hB15.grown hg16 (by intro k hk; have := hr16 k hk; omega)
        have hM16 := hM15.grown hg16 (by intro k hk; have := hr16 k hk; omega)
        have hX16 := hX15.grown hg16 (by intro k hk; have := hr16 k hk; omega)
        have hJ16 := hJ15.grown hg16 (by intro k hk; have := hr16 k hk; omega)
        have hW16 := hW15.grown hg16 hW15.size (by intro k hk; have := hr16 k hk; omega)
        have hcc16 := hide (keep4r hg16 (N := w.heap.size) (by intro e; have := hr16 _ e.symm; omega) hcc15.out)
        have hs16 := hg16.size
        clear hg16 hr16 hO15 hB15 hN15 hM15 hX15 hJ15 hW15 hcc15
        go_wp2_with fail
        refine (spoil17 wr.heap.size jo jm jc _ w16 hJ16.1 hmj (by omega)).mono ?_
        rintro e w17 ⟨rfl, hg17⟩
        have hr17 : ∀ k, (Value.slice jo jm jc).ownBlock = some k → wr.heap.size ≤ k ∧ k < w8.heap.size := hJ16.2
        have hO17 := hO16.grown hg17 (by intro k hk; have := hr17 k hk; omega)
        have hB17 := hB16.grown hg17 (by intro k hk; have := hr17 k hk; omega)
        have hM17 := hM16.grown hg17 (by intro k hk; have := hr17 k hk; omega)
        have hX17 := hX16.grown hg17 (by intro k hk; have := hr17 k hk; omega)
        have hW17 := hW16.grown hg17 hW16.size (by intro k hk; have := hr17 k hk; omega)
        have hcc17 := hide (keep4r hg17 (N := w.heap.size) (by intro e; have := hr17 _ e.symm; omega) hcc16.out)
        clear hg17 hr17 hO16 hB16 hM16 hX16 hJ16 hW16 hcc16
        have hXh : Hid (Holds w17 xo xm xc (flat xs)) := hide hX17.1.held
        have hxm : Hid (xm = (flat xs).length) := hide hX17.1.1
        have hXs : Hid ((xo = none ∧ xm = 0 ∧ xc = 0) ∨ ∃ gx, xo = some ⟨gx, 0, none⟩) := by
          rcases Owns.shape hX17.1.2 with ⟨hv, _⟩ | ⟨gx, cap, hv, _⟩
          · exact .inl (by simpa using hv)
          · exact .inr ⟨gx, (by simpa using hv : xo = some ⟨gx, 0, none⟩ ∧ _).1⟩
        have hxm1 : xm ≤ 1048576 := by have := hxm.out; omega
        have hxc1 : xm ≤ xc := hXh.out.2.1
        go_wp2
        go_loopw [13, 14] (fun i k wr2 => ∃ j q : Nat, j ≤ xs.length ∧ i = .int .i64 j ∧ k = .int .i64 ((flat (xs.take j)).length : Int) ∧ wr2 = w17.drewN q)
          (fun i _ _ => xs.length - (intOf i).toNat)
        case atStart => exact ⟨0, 0, by omega, rfl, rfl, rfl⟩
        case round =>
          obtain ⟨j, q, hj, rfl, rfl, rfl⟩ := hrel
          by_cases hlt : j < xs.length
          · obtain rfl : lo = some ⟨b, off, none⟩ := hlo.out.resolve_left (by intro e; rw [e] at hlt; simp at hlt)
            have hcell : ∀ q, (w17.drewN q).cell? ⟨b, off + j, none⟩ = some (xs[j].val) := fun q => Below.keeps hW17 _ _ (hc j hlt)
            have hokk := Holds.below (hok j hlt) hW17
            obtain ⟨hp1, hp2⟩ := flat_part xs j hlt
            have hfs : Hid (flat (xs.take (j + 1)) = flat (xs.take j) ++ xs[j].l) := flat_succ xs j hlt
            revert hcell hokk hp1 hp2 hfs
            generalize xs[j] = s1
            generalize flat (xs.take j) = F
            rcases s1 with ⟨ao, m, c, l⟩
            simp only [Sl.val]
            intro hcell hokk hp1 hp2 hfs
            obtain ⟨K, hK⟩ : ∃ K, K = F.length := ⟨_, rfl⟩
            rw [← hK] at hp1 hp2 ⊢
            have HK := hide hK
            clear hK
            have hlm := hide hokk.1
            have hKm : K + m ≤ xm := by have h1 := hxm.out; have h2 : l.length = m := hlm.out; omega
            have hcv1 : ∀ q, (convert 23 9 (.slice ao m c)).run Try.prog (w17.drewN q) = .ok (.string (strOfNums l)) (w17.drewN q) := fun q => conv_all (w := w17.drewN q) hokk
            have hjI : (j : Int) < (xs.length : Int) := by omega
            have hs0 : (0 : Int) ≤ (K : Int) := by omega
            have hs3 : (K : Int) ≤ (K : Int) + (m : Int) := by omega
            have hs4 : (K : Int) + (m : Int) ≤ (xc : Int) := by omega
            have hp1' : (List.drop K (flat xs)).take m = l := by have h2 : l.length = m := hlm.out; rw [← h2]; exact hp1
            have hnext : Hid (((flat (xs.take (j + 1))).length : Int) = (K : Int) + (m : Int)) := by
              show _ = _
              have h2 : l.length = m := hlm.out
              rw [hfs.out, List.length_append, HK.out, h2]; simp
            clear hp1 hp2
            go_wp2
            rcases hXs.out with ⟨rfl, rfl, rfl⟩ | ⟨gx, rfl⟩
            · obtain rfl : K = 0 := by omega
              obtain rfl : m = 0 := by omega
              obtain rfl : l = [] := List.eq_nil_of_length_eq_zero hlm.out
              have hcv2 : ∀ q, (convert 23 9 (.slice none 0 0)).run Try.prog (w17.drewN q) = .ok (.string (strOfNums [])) (w17.drewN q) := fun q => conv_all (w := w17.drewN q) (holds_nil _)
              clear hp1'
              go_quiet (fail)
              go_wp2
              go_roundw
              case rel => exact ⟨j + 1, _, by omega, by go_num, (by first | (rw [hnext.out]; done) | (rw [hnext.out]; go_num) | (rw [hnext.out]; simp)), rfl⟩
              case measure => simp [intOf]; omega
            · by_cases hxK : xc = K
              · obtain rfl : m = 0 := by omega
                obtain rfl : l = [] := List.eq_nil_of_length_eq_zero hlm.out
                subst hxK
                have hcv2 : ∀ q, (convert 23 9 (.slice (some ⟨gx, 0, none⟩) 0 0)).run Try.prog (w17.drewN q) = .ok (.string (strOfNums [])) (w17.drewN q) := by
                  intro q
                  have := hXh.out.sub (K := xc) (n := 0) (by omega) (.inl ⟨rfl, rfl⟩)
                  rw [Nat.sub_self, List.take_zero] at this
                  exact conv_all (w := w17.drewN q) this
                clear hp1'
                go_quiet (fail)
                go_wp2
                go_roundw
                case rel => exact ⟨j + 1, _, by omega, by go_num, (by first | (rw [hnext.out]; done) | (rw [hnext.out]; go_num) | (rw [hnext.out]; simp)), rfl⟩
                case measure => simp [intOf]; omega
              · have hcv2 : ∀ q, (convert 23 9 (.slice (some ⟨gx, K, none⟩) m (xc - K))).run Try.prog (w17.drewN q) = .ok (.string (strOfNums l)) (w17.drewN q) := by
                  intro q
                  have := hXh.out.sub (K := K) (n := m) (by omega) (.inr rfl)
                  rw [hp1', Nat.zero_add] at this
                  exact conv_all (w := w17.drewN q) this
                clear hp1'
                go_quiet (fail)
                go_wp2
                go_roundw
                case rel => exact ⟨j + 1, _, by omega, by go_num, (by first | (rw [hnext.out]; done) | (rw [hnext.out]; go_num) | (rw [hnext.out]; simp)), rfl⟩
                case measure => simp [intOf]; omega
          · have hq0 : (w17.drewN q).drew.cell? ⟨w.heap.size, 0, none⟩ = some (.int .u64 n) ∧ (w17.drewN q).drew.cell? ⟨w.heap.size, 1, none⟩ = some (.int .i64 s) ∧ (w17.drewN q).drew.cell? ⟨w.heap.size, 2, none⟩ = some (.bool f) ∧ (w17.drewN q).drew.cell? ⟨w.heap.size, 3, none⟩ = some (.slice bo bm bc) := hcc17.out
            have hWq : Below w.heap.size w (w17.drewN q).drew := ⟨hW17.os, hW17.tape, hW17.output, hW17.size, hW17.block⟩
            have hOq : Slab (w17.drewN q).drew _ _ _ := hO17
            have hBq : Slab (w17.drewN q).drew _ _ _ := hB17
            have hMq : Slab (w17.drewN q).drew _ _ _ := hM17
            have hHq := hB.below hWq
            obtain ⟨u0, u1, u2, u3⟩ := hq0
            have cO := hOq.conv
            have cB := hBq.conv
            have cM := hMq.conv
            have cT := conv_all hHq
            have hadd := str_add bl hbll
            have hS0 : Hid ((w17.drewN q).drew.cell? ⟨w.heap.size, 0, none⟩ = some (.int .u64 n) ∧ (w17.drewN q).drew.cell? ⟨w.heap.size, 3, none⟩ = some (.slice bo bm bc) ∧ (convert 23 9 (.slice (some ⟨g, 0, none⟩) om oc)).run Try.prog (w17.drewN q).drew = .ok (.string (strOfNums (bl ++ [119]))) (w17.drewN q).drew ∧ (convert 23 9 (.slice ao4 m4 c4)).run Try.prog (w17.drewN q).drew = .ok (.string (strOfNums (num bm ++ bl))) (w17.drewN q).drew ∧ (convert 23 9 (.slice ao6 m6 c6)).run Try.prog (w17.drewN q).drew = .ok (.string (strOfNums (num n))) (w17.drewN q).drew ∧ (convert 23 9 (.slice bo bm bc)).run Try.prog (w17.drewN q).drew = .ok (.string (strOfNums bl)) (w17.drewN q).drew) := ⟨u0, u3, cO, cB, cM, cT⟩
            clear hXh hxm hXs hX17 hO17 hB17 hM17 hcc17
            go_wp2
            go_region_held (fun w' => w'.cell? ⟨w.heap.size, 0, none⟩ = some (.int .u64 n) ∧ w'.cell? ⟨w.heap.size, 3, none⟩ = some (.slice bo bm bc) ∧ (convert 23 9 (.slice (some ⟨g, 0, none⟩) om oc)).run Try.prog w' = .ok (.string (strOfNums (bl ++ [119]))) w' ∧ (convert 23 9 (.slice ao4 m4 c4)).run Try.prog w' = .ok (.string (strOfNums (num bm ++ bl))) w' ∧ (convert 23 9 (.slice ao6 m6 c6)).run Try.prog w' = .ok (.string (strOfNums (num n))) w' ∧ (convert 23 9 (.slice bo bm bc)).run Try.prog w' = .ok (.string (strOfNums bl)) w') (first | exact hS0.out | go_keep)
              (first
                | (go_at_call 11; refine (refBytes_any bo bm bc bl _ (by exact hHq) (by omega)).mono ?_; rintro e w18 ⟨yo18, ym18, yc18, rfl, hq18, hb18⟩; have e0 := Below.keeps hb18 _ _ u0; have e3 := Below.keeps hb18 _ _ u3; have fO := hOq.below hb18; have fB := hBq.below hb18; have fM := hMq.below hb18; have fT := hHq.below hb18; have gO := fO.conv; have gB := fB.conv; have gM := fM.conv; have gT := conv_all fT; have r18 := hq18.conv)
                | (go_at_call 12; refine (refNumber_any n _ hn).mono ?_; rintro e w19 ⟨yo19, ym19, yc19, rfl, hq19, hb19⟩; have i0 := Below.keeps hb19 _ _ e0; have i3 := Below.keeps hb19 _ _ e3; have kO := fO.below hb19; have kB := fB.below hb19; have kM := fM.below hb19; have kT := fT.below hb19; have lO := kO.conv; have lB := kB.conv; have lM := kM.conv; have lT := conv_all kT; have r19 := hq19.conv)
                | (go_at_call 18; refine (known18 _).mono ?_; rintro e w20 ⟨rfl, hb20⟩; have n0 := Below.keeps hb20 _ _ i0; have n3 := Below.keeps hb20 _ _ i3; have nO := (kO.below hb20).conv; have nB := (kB.below hb20).conv; have nM := (kM.below hb20).conv; have nT := conv_all (kT.below hb20)))
            have hfin : Below w.heap.size w w20 := by
              have k1 := hWq.trans (hb18.mono hWq.size)
              have k2 := k1.trans (hb19.mono k1.size)
              exact k2.trans (hb20.mono k2.size)
            have Hfin := hide hfin
            clear hfin u0 u1 u2 u3 e0 e3 i0 i3 n0 n3 nO nB nM nT lO lB lM lT gO gB gM gT cO cB cM cT r18 r19 hS0 hadd
            go_wp2
            go_ret
            exact ⟨rfl, unhide Hfin⟩

end Go.Proofs.Ytaljkpndfjfgdaa
