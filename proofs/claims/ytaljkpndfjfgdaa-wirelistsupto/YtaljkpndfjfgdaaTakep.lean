/-
  The walks of pair, of list and Take over pairs.
-/
import Derived.Test.YtaljkpndfjfgdaaPair
import Derived.Test.YtaljkpndfjfgdaaTake
namespace Go.Proofs.Ytaljkpndfjfgdaa
open Go.RowKit

/-- How reading a pair ends. -/
def PTells (w : World) (b g : Nat) (p : Nat × Nat) (er : Int) (l : List Int) (e : Ending) (w' : World) : Prop :=
  e = .returned (.tuple #[.agg #[.int .u64 (p.1 : Int), .int .u64 (p.2 : Int)], .int .i64 er]) ∧ Rd w' b g l ∧ w.grownBy w' (some b)

theorem grown_set_new {w w1 : World} {row : Option Nat} {R i : Nat} (v : Value) (h : w.grownBy w1 row) (hR : w.heap.size ≤ R) : w.grownBy (w1.setCell ⟨R, i, none⟩ v) row := by
  have k := grownBy_set w1 R i v
  exact ⟨k.os.trans h.os, k.tape.trans h.tape, k.output.trans h.output, Nat.le_trans h.size k.size, fun j hj hr => (k.block j (Nat.lt_of_lt_of_le hj h.size) (by simp; omega)).trans (h.block j hj hr)⟩

/-- The result's own block is written: the reader stays. -/
theorem pair_done {w w1 : World} {b g : Nat} {l1 : List Int} {R : Nat} (v0 v1 : Value) (hr : Rd w1 b g l1) (hg : w.grownBy w1 (some b)) (hR : w.heap.size ≤ R) (hb : b < w.heap.size) (hgw : l1 ≠ [] → g < w.heap.size)
    (hblk : w1.heap[R]? = some (.cells #[.int .u64 0, .int .u64 0] 59 (0, 0))) :
    Rd ((w1.setCell ⟨R, 0, none⟩ v0).setCell ⟨R, 1, none⟩ v1) b g l1 ∧ w.grownBy ((w1.setCell ⟨R, 0, none⟩ v0).setCell ⟨R, 1, none⟩ v1) (some b) ∧
      ((w1.setCell ⟨R, 0, none⟩ v0).setCell ⟨R, 1, none⟩ v1).cell? ⟨R, 0, none⟩ = some v0 ∧ ((w1.setCell ⟨R, 0, none⟩ v0).setCell ⟨R, 1, none⟩ v1).cell? ⟨R, 1, none⟩ = some v1 := by
  have k1 := heap_set0 (u := v0) hblk
  have k2 := heap_set1 (u := v1) k1
  have hne : ∀ l, l1 = l → l ≠ [] → some g ≠ some R := by intro l e hl h; subst e; have := hgw hl; cases h; omega
  refine ⟨(hr.keep (grownBy_set w1 R 0 v0) (by simp; omega) (hne _ rfl)).keep (grownBy_set _ R 1 v1) (by simp; omega) (hne _ rfl), grown_set_new v1 (grown_set_new v0 hg hR) hR, ?_, ?_⟩
  · rw [cell_of_block k2]; rfl
  · rw [cell_of_block k2]; rfl

theorem rdNum_left (l : List Int) : (rdNum l).2.2.length ≤ l.length := by
  unfold rdNum
  cases dec 0 0 l with
  | none => simp
  | some p => simp

set_option maxHeartbeats 1000000 in
set_option maxRecDepth 100000 in
theorem pair32_bad (b g : Nat) (l : List Int) (w : World) (h : Rd w b g l) (he : (rdNum l).2.1 ≠ 0) :
    Calls Try.prog 32 #[.pointer (some ⟨b, 0, none⟩)] w fun e w' => PTells w b g (0, 0) (rdNum l).2.1 (rdNum l).2.2 e w' := by
  have hbw := h.lt
  have hN := hide (Number25 b g l _ (rd_alloc h (.cells #[.int .u64 0, .int .u64 0] 59)))
  have hne : ((rdNum l).2.1 != 0) = true := by rw [bne_iff_ne]; exact he
  have hgw : (rdNum l).2.2 ≠ [] → g < w.heap.size := fun hl => h.glt (by intro e; have := rdNum_left l; rw [e] at this hl; exact hl (List.eq_nil_of_length_eq_zero (by simpa using this)))
  revert hN hne hgw
  clear he
  generalize (rdNum l).1 = x
  generalize (rdNum l).2.1 = er
  generalize (rdNum l).2.2 = l1
  intro hN hne hgw
  go_enter Try.func32, Try.ntmps32
  go_wp2_with fail
  refine (unhide hN).mono ?_
  rintro e w1 ⟨rfl, hr1, hg1⟩
  have hblk : w1.heap[w.heap.size]? = some (.cells #[.int .u64 0, .int .u64 0] 59 (0, 0)) := by
    rw [hg1.block w.heap.size (by simp) (by simp; omega)]; exact heap_alloc_new _ _
  have f0 := frozen_of_block hblk 0
  have f1 := frozen_of_block hblk 1
  have u0 : w1.cell? ⟨w.heap.size, 0, none⟩ = some (.int .u64 0) := by rw [cell_of_block hblk]; rfl
  have u1 : w1.cell? ⟨w.heap.size, 1, none⟩ = some (.int .u64 0) := by rw [cell_of_block hblk]; rfl
  have hfin := hide (pair_done (.int .u64 0) (.int .u64 0) hr1 (grownBy_trans (World.grownBy_alloc w _ _) hg1) (Nat.le_refl _) hbw hgw hblk)
  clear hN hblk hr1 hg1
  go_wp2
  revert hfin
  generalize ((w1.setCell ⟨w.heap.size, 0, none⟩ (.int .u64 0)).setCell ⟨w.heap.size, 1, none⟩ (.int .u64 0)) = W2
  intro hfin
  obtain ⟨g1, g2, e0, e1⟩ := unhide hfin
  refine bodyPost_ret (v := .tuple #[.agg #[.int .u64 0, .int .u64 0], .int .i64 er]) (by simp [results, go_sem, e0, e1]) rfl ?_
  exact ⟨rfl, g1, g2⟩

set_option maxHeartbeats 1000000 in
set_option maxRecDepth 100000 in
theorem pair32_ok (b g : Nat) (l : List Int) (w : World) (h : Rd w b g l) (he : (rdNum l).2.1 = 0) :
    Calls Try.prog 32 #[.pointer (some ⟨b, 0, none⟩)] w fun e w' => PTells w b g ((rdNum l).1, (rdNum (rdNum l).2.2).1) (rdNum (rdNum l).2.2).2.1 (rdNum (rdNum l).2.2).2.2 e w' := by
  have hbw := h.lt
  have hN := hide (Number25 b g l _ (rd_alloc h (.cells #[.int .u64 0, .int .u64 0] 59)))
  have hgw : (rdNum (rdNum l).2.2).2.2 ≠ [] → g < w.heap.size := fun hl => h.glt (by intro e; have h1 := rdNum_left l; have h2 := rdNum_left (rdNum l).2.2; rw [e] at h1 h2 hl; simp at h1; exact hl (List.eq_nil_of_length_eq_zero (by rw [h1] at h2 ⊢; simpa using h2)))
  rw [he] at hN
  have hN2 := hide (fun w1 hr => Number25 b g (rdNum l).2.2 w1 hr)
  revert hN hN2 hgw
  clear he
  generalize (rdNum l).1 = x
  generalize (rdNum l).2.2 = l1
  generalize (rdNum l1).1 = y
  generalize (rdNum l1).2.1 = er
  generalize (rdNum l1).2.2 = l2
  intro hN hgw hN2
  go_enter Try.func32, Try.ntmps32
  go_wp2_with fail
  refine (unhide hN).mono ?_
  rintro e w1 ⟨rfl, hr1, hg1⟩
  go_wp2_with fail
  refine (unhide hN2 _ hr1).mono ?_
  rintro e w2 ⟨rfl, hr2, hg2⟩
  have hG := grownBy_trans hg1 hg2
  have hblk : w2.heap[w.heap.size]? = some (.cells #[.int .u64 0, .int .u64 0] 59 (0, 0)) := by
    rw [hG.block w.heap.size (by simp) (by simp; omega)]; exact heap_alloc_new _ _
  have f0 := frozen_of_block hblk 0
  have f1 := frozen_of_block hblk 1
  have u0 : w2.cell? ⟨w.heap.size, 0, none⟩ = some (.int .u64 0) := by rw [cell_of_block hblk]; rfl
  have u1 : w2.cell? ⟨w.heap.size, 1, none⟩ = some (.int .u64 0) := by rw [cell_of_block hblk]; rfl
  have hfin := hide (pair_done (.int .u64 (x : Int)) (.int .u64 (y : Int)) hr2 (grownBy_trans (World.grownBy_alloc w _ _) hG) (Nat.le_refl _) hbw hgw hblk)
  clear hN hN2 hblk hr1 hg1 hr2 hg2 hG
  go_wp2
  revert hfin
  generalize ((w2.setCell ⟨w.heap.size, 0, none⟩ (.int .u64 (x : Int))).setCell ⟨w.heap.size, 1, none⟩ (.int .u64 (y : Int))) = W2
  intro hfin
  obtain ⟨g1, g2, e0, e1⟩ := unhide hfin
  refine bodyPost_ret (v := .tuple #[.agg #[.int .u64 (x : Int), .int .u64 (y : Int)], .int .i64 er]) (by simp [results, go_sem, e0, e1]) rfl ?_
  exact ⟨rfl, g1, g2⟩

theorem pair32 (b g : Nat) (l : List Int) (w : World) (h : Rd w b g l) :
    Calls Try.prog 32 #[.pointer (some ⟨b, 0, none⟩)] w fun e w' => PTells w b g (rdPair l).1 (rdPair l).2.1 (rdPair l).2.2 e w' := by
  unfold rdPair
  by_cases he : (rdNum l).2.1 = 0
  · rw [if_pos he]; exact pair32_ok b g l w h he
  · rw [if_neg he]; exact pair32_bad b g l w h he

set_option maxHeartbeats 400000 in
set_option maxRecDepth 100000 in
theorem list56_err (b g : Nat) (l : List Int) (w : World) (h : Rd w b g l) (most : Int) (hm : most ≤ 9223372036854775807) (f : Value) (her : (rdCount most l).2.1 ≠ 0) :
    Calls Try.prog 56 #[.pointer (some ⟨b, 0, none⟩), .int .i64 most, f] w fun e w' => e = .returned (.tuple #[.slice none 0 0, .int .i64 (rdCount most l).2.1]) ∧ (∃ l1, Rd w' b g l1) ∧ w.grownBy w' (some b) := by
  have hN := hide (count64 b g l w h most hm)
  revert hN her
  generalize (rdCount most l).1 = n
  generalize (rdCount most l).2.1 = er
  generalize (rdCount most l).2.2 = l1
  intro her hN
  have hne : (er != 0) = true := by rw [bne_iff_ne]; exact her
  clear her
  go_enter Try.func56, Try.ntmps56
  go_wp2_with fail
  refine (unhide hN).mono ?_
  rintro e w1 ⟨rfl, hr1, hg1⟩
  clear hN
  go_wp2
  go_ret2
  exact ⟨rfl, ⟨l1, hr1⟩, hg1⟩

theorem Own2.kept1 {w w' : World} {B b : Nat} {v : Value} {l : List (Nat × Nat)} (h : Own2 w B v l) (hg : w.grownBy w' (some b)) (hb : b < B) : Own2 w' B v l := by
  refine World.ownsRow.kept h hg ?_
  cases hv : v.ownBlock with
  | none => exact .inl rfl
  | some k =>
    right
    intro e
    have h1 := (h.lt k hv).1
    have h2 : k = b := Option.some.inj e
    omega

set_option maxHeartbeats 1000000 in
set_option maxRecDepth 100000 in
theorem list56_main (b g : Nat) (l : List Int) (w : World) (h : Rd w b g l) (most : Int) (hm : most ≤ 9223372036854775807) (her : (rdCount most l).2.1 = 0) (hn63 : (rdCount most l).1 ≤ 9223372036854775807) (hlen : (rdCount most l).2.2.length ≤ 33554432) :
    Calls Try.prog 56 #[.pointer (some ⟨b, 0, none⟩), .int .i64 most, .func (.func 32) #[] #[]] w fun e w' =>
      ∃ ao m c, e = .returned (.tuple #[.slice ao m c, .int .i64 (pre2 [] (many2 (rdCount most l).1 (rdCount most l).2.2)).2]) ∧ m = (pre2 [] (many2 (rdCount most l).1 (rdCount most l).2.2)).1.length ∧ Own2 w' w.heap.size (.slice ao m c) (pre2 [] (many2 (rdCount most l).1 (rdCount most l).2.2)).1 ∧
        (∃ l2, Rd w' b g l2 ∧ ((pre2 [] (many2 (rdCount most l).1 (rdCount most l).2.2)).2 = 0 → l2 = (many2 (rdCount most l).1 (rdCount most l).2.2).2.2)) ∧ w.grownBy w' (some b) := by
  have hN := hide (count64 b g l w h most hm)
  have hbw := h.lt
  have hgw : 0 < (rdCount most l).2.2.length → g < w.heap.size := fun hp => h.glt (by intro e; have := rdCount_len most l; rw [e] at this hp; simp at this; rw [this] at hp; simp at hp)
  rw [her] at hN
  clear her
  revert hN hn63 hlen hgw
  generalize (rdCount most l).1 = n
  generalize (rdCount most l).2.2 = l1
  intro hn63 hlen hN hgw
  go_enter Try.func56, Try.ntmps56
  go_wp2_with fail
  refine (unhide hN).mono ?_
  rintro e w1 ⟨rfl, hr1, hg1⟩
  clear hN h
  go_wp2
  go_loopw [10, 11, 12, 23] (fun v _ _ i wr => ∃ (k : Nat) (xs : List (Nat × Nat)) (li : List Int), k ≤ n ∧ i = .int .i64 k ∧ Own2 wr w.heap.size v xs ∧ Rd wr b g li ∧ w.grownBy wr (some b) ∧ xs.length + li.length ≤ l1.length ∧
      Hid (pre2 xs (many2 (n - k) li) = pre2 [] (many2 n l1)) ∧ Hid ((many2 (n - k) li).2.1 = 0 → (many2 (n - k) li).2.2 = (many2 n l1).2.2)) (fun _ _ _ i _ => n - (intOf i).toNat)
  case atStart => exact ⟨0, [], l1, by omega, rfl, World.ownsRow_nil _ _ _ _, hr1, hg1, by simp, rfl, fun _ => rfl⟩
  case round =>
    obtain ⟨k, xs, li, hk, rfl, hown, hrd, hg, hxl, hp, hq⟩ := hrel
    have hsz := hg.size
    by_cases hlt : k < n
    · have hN := hide (pair32 b g li wr hrd)
      obtain ⟨j, hj⟩ : ∃ j, n - k = j + 1 := ⟨n - k - 1, by omega⟩
      by_cases he : (rdPair li).2.1 = 0
      · have hgood := many2_good (n := j) he xs
        have hsh := rdPair_shorter li he hrd.1
        have hp1 : Hid (pre2 (xs ++ [(rdPair li).1]) (many2 (n - (k + 1)) (rdPair li).2.2) = pre2 [] (many2 n l1)) := by
          show _ = _; rw [show n - (k + 1) = j by omega, ← hgood.1, ← hj]; exact hp.out
        have hq1 : Hid ((many2 (n - (k + 1)) (rdPair li).2.2).2.1 = 0 → (many2 (n - (k + 1)) (rdPair li).2.2).2.2 = (many2 n l1).2.2) := by
          show _ → _
          rw [show n - (k + 1) = j by omega]; intro h0
          rw [← hgood.2 h0, ← hj]
          refine hq.out ?_
          rw [hj, many2, if_pos he, if_pos h0]
        rw [he] at hN
        clear hgood he hp hq hj
        revert hN hp1 hq1 hsh
        generalize (rdPair li).1 = x
        generalize (rdPair li).2.2 = l2
        intro hN hsh hp1 hq1
        go_wp2_with fail
        refine (unhide hN).mono ?_
        rintro e w2 ⟨rfl, hr2, hg2⟩
        have hownA := ((Own2.kept1 hown hg2 hbw).alloc (.cells #[.int .u64 (x.1 : Int), .int .u64 (x.2 : Int)] 59)).alloc (.cells #[.int .u64 (x.1 : Int), .int .u64 (x.2 : Int)] 59)
        have hGA := grownBy_trans (grownBy_trans (grownBy_trans hg hg2) (World.grownBy_alloc w2 (.cells #[.int .u64 (x.1 : Int), .int .u64 (x.2 : Int)] 59) (some b))) (World.grownBy_alloc _ (.cells #[.int .u64 (x.1 : Int), .int .u64 (x.2 : Int)] 59) (some b))
        have hrA := rd_alloc (rd_alloc hr2 (.cells #[.int .u64 (x.1 : Int), .int .u64 (x.2 : Int)] 59)) (.cells #[.int .u64 (x.1 : Int), .int .u64 (x.2 : Int)] 59)
        have hsA := hGA.size
        have hsrc : H2 ((w2.alloc (.cells #[.int .u64 (x.1 : Int), .int .u64 (x.2 : Int)] 59)).alloc (.cells #[.int .u64 (x.1 : Int), .int .u64 (x.2 : Int)] 59)) (some ⟨w2.heap.size + 1, 0, none⟩) 1 1 [x] := by
          have h7 := h2_built (w2.alloc (.cells #[.int .u64 (x.1 : Int), .int .u64 (x.2 : Int)] 59)) x.1 x.2 59
          rw [show (w2.alloc (.cells #[.int .u64 (x.1 : Int), .int .u64 (x.2 : Int)] 59)).heap.size = w2.heap.size + 1 by simp] at h7
          exact h7
        have hxl3 : (xs.length + [x].length) * 16 ≤ 140737488355328 := by simp only [List.length_singleton]; omega
        clear hN hown hg2 hg hrd hr2
        go_wp2_with (at_builtin; go_must (refine wpApp58 rfl (.tmp 34) (.tmp 36) rfl w.heap.size _ xs rfl _ _ _ rfl [x] hownA hsrc hxl3 hsA ?_))
        intro v3 w3 hown3 hg3
        have hG3 : w.grownBy w3 (some b) := ⟨hg3.os.trans hGA.os, hg3.tape.trans hGA.tape, hg3.output.trans hGA.output, Nat.le_trans hGA.size hg3.size, fun i hi hr => (hg3.block i (by omega) (by intro e; have := (hownA.lt i e.symm).1; omega)).trans (hGA.block i hi hr)⟩
        have hr3 : Rd w3 b g l2 := hrA.keep hg3 (by intro e; have := (hownA.lt b e.symm).1; omega) (by intro hl e; have h1 := (hownA.lt g e.symm).1; have h2 := List.length_pos_iff.2 hl; have h3 := hgw (by omega); omega)
        clear hg3 hownA hGA hrA hsrc
        go_wp2
        go_roundw
        case rel => exact ⟨k + 1, xs ++ [x], l2, by omega, by go_num, hown3, hr3, hG3, by simp; omega, hp1, hq1⟩
        case measure => simp [intOf]; omega
      · have hb1 := many2_bad (n := j) he xs
        rw [← hj, hp.out] at hb1
        have hne : ((rdPair li).2.1 != 0) = true := by rw [bne_iff_ne]; exact he
        have hfin : Hid (∀ w', Rd w' b g (rdPair li).2.2 → w.grownBy w' (some b) → ∃ ao m c, Ending.returned (.tuple #[.slice none 0 0, .int .i64 (rdPair li).2.1]) = .returned (.tuple #[.slice ao m c, .int .i64 (pre2 [] (many2 n l1)).2]) ∧ m = (pre2 [] (many2 n l1)).1.length ∧ Own2 w' w.heap.size (.slice ao m c) (pre2 [] (many2 n l1)).1 ∧
            (∃ l2, Rd w' b g l2 ∧ ((pre2 [] (many2 n l1)).2 = 0 → l2 = (many2 n l1).2.2)) ∧ w.grownBy w' (some b)) := by
          intro w' h1 h2
          rw [hb1]
          exact ⟨none, 0, 0, rfl, rfl, World.ownsRow_nil _ _ _ _, ⟨_, h1, fun h0 => absurd h0 he⟩, h2⟩
        clear hb1 he hp hq hj
        revert hN hne hfin
        generalize (rdPair li).1 = x
        generalize (rdPair li).2.1 = er
        generalize (rdPair li).2.2 = l2
        intro hN hne hfin
        go_wp2_with fail
        refine (unhide hN).mono ?_
        rintro e w2 ⟨rfl, hr2, hg2⟩
        have hG2 := grownBy_trans hg hg2
        clear hN hown hg2 hg hrd
        go_wp2
        go_ret2
        exact hfin.out _ (rd_alloc hr2 _) (grownBy_trans hG2 (World.grownBy_alloc _ _ _))
    · obtain rfl : k = n := by omega
      rw [Nat.sub_self] at hp hq
      have hfin : Hid (pre2 [] (many2 k l1) = (xs, 0) ∧ li = (many2 k l1).2.2) := by
        constructor
        · rw [← hp.out]; simp [pre2, many2]
        · exact hq.out rfl
      go_wp2
      go_ret2
      obtain ⟨ao, c, hv, _⟩ := Own2.form hown
      subst hv
      rw [hfin.out.1]
      exact ⟨_, _, _, rfl, rfl, hown, ⟨li, hrd, fun _ => hfin.out.2⟩, hg⟩

theorem eq64 (W : World) : Sem.run Try.prog (binOp BinOp.eql 64 (.func (.func 32) #[] #[]) .nilFunc) W = .ok (.bool false) W := by kernel_rfl

set_option maxHeartbeats 400000 in
set_option maxRecDepth 100000 in
theorem take55 (b : Nat) (w : World) (q q2 : Nat) (most : Int) (hq : w.cell? ⟨q, 0, none⟩ = some (.int .i64 most)) (hq2 : w.cell? ⟨q2, 0, none⟩ = some (.func (.func 32) #[] #[])) (R : Ending → World → Prop)
    (H : Calls Try.prog 56 #[.pointer (some ⟨b, 0, none⟩), .int .i64 most, .func (.func 32) #[] #[]] w fun e w' => (∃ (o : Option Addr) (n k : Nat) (er : Int), e = .returned (.tuple #[.slice o n k, .int .i64 er])) ∧ R e w') :
    Calls Try.prog 55 #[.pointer (some ⟨b, 0, none⟩), .pointer (some ⟨q, 0, none⟩), .pointer (some ⟨q2, 0, none⟩)] w fun e w' => R e w' := by
  have H1 := hide H
  clear H
  go_enter Try.func55, Try.ntmps55
  go_wp2_with fail
  refine (unhide H1).mono ?_
  rintro e w1 ⟨⟨o, n, k, er, rfl⟩, hR⟩
  have HR := hide hR
  clear H1 hR
  go_wp2
  exact unhide HR

/-- How reading a list of pairs ends. -/
def LTells (w : World) (b g : Nat) (x : List (Nat × Nat)) (er : Int) (l : List Int) (e : Ending) (w' : World) : Prop :=
  ∃ ao m c, e = .returned (.tuple #[.slice ao m c, .int .i64 er]) ∧ m = x.length ∧ Own2 w' w.heap.size (.slice ao m c) x ∧ Rd w' b g l ∧ w.grownBy w' (some b)

theorem Own2.lower {w : World} {B B' : Nat} {v : Value} {l : List (Nat × Nat)} (h : Own2 w B v l) (hB : B' ≤ B) : Own2 w B' v l := by
  refine ⟨h.1, ?_⟩
  rcases h.2 with h1 | ⟨g, cap, cur, h1, h2, h3⟩
  · exact .inl h1
  · exact .inr ⟨g, cap, cur, h1, Nat.le_trans hB h2, h3⟩

set_option maxHeartbeats 400000 in
set_option maxRecDepth 100000 in
/-- Take over pairs -/
theorem take31 (b g : Nat) (l : List Int) (w : World) (h : Rd w b g l) (most : Int) (hm : most ≤ 9223372036854775807) (hlen : l.length ≤ 33554432) :
    Calls Try.prog 31 #[.pointer (some ⟨b, 0, none⟩), .int .i64 most, .func (.func 32) #[] #[]] w fun e w' => LTells w b g (rdTake2 most l).1 (rdTake2 most l).2.1 (rdTake2 most l).2.2 e w' := by
  have hw1 := rd_alloc (rd_alloc h (.cells #[.int .i64 most] 3)) (.cells #[.func (.func 32) #[] #[]] 64)
  obtain ⟨ao, m, c, hat⟩ := hw1.at
  have hq : (((w.alloc (.cells #[.int .i64 most] 3)).alloc (.cells #[.func (.func 32) #[] #[]] 64)).alloc (was ao m c)).cell? ⟨w.heap.size, 0, none⟩ = some (.int .i64 most) :=
    Below.keeps ((Below.refl _ _).alloc (Nat.le_refl _) _) _ _ (Below.keeps ((Below.refl _ _).alloc (Nat.le_refl _) _) _ _ (by simp))
  have hq2 : (((w.alloc (.cells #[.int .i64 most] 3)).alloc (.cells #[.func (.func 32) #[] #[]] 64)).alloc (was ao m c)).cell? ⟨w.heap.size + 1, 0, none⟩ = some (.func (.func 32) #[] #[]) :=
    Below.keeps ((Below.refl _ _).alloc (Nat.le_refl _) _) _ _ (by simp)
  have hr2 := rd_alloc hw1 (was ao m c)
  have hgr : w.grownBy ((w.alloc (.cells #[.int .i64 most] 3)).alloc (.cells #[.func (.func 32) #[] #[]] 64)) (some b) := grownBy_trans (World.grownBy_alloc _ _ _) (World.grownBy_alloc _ _ _)
  have H : Hid (Calls Try.prog 54 #[.pointer (some ⟨b, 0, none⟩), .func (.func 55) #[] #[.pointer (some ⟨w.heap.size, 0, none⟩), .pointer (some ⟨w.heap.size + 1, 0, none⟩)]] ((w.alloc (.cells #[.int .i64 most] 3)).alloc (.cells #[.func (.func 32) #[] #[]] 64)) fun e w' => LTells w b g (rdTake2 most l).1 (rdTake2 most l).2.1 (rdTake2 most l).2.2 e w') := by
    by_cases her : (rdCount most l).2.1 = 0
    · have hlm := list56_main b g l _ hr2 most hm her (by have := rdCount_lt most l her; omega) (by have := rdCount_len most l; omega)
      by_cases hs : (many2 (rdCount most l).1 (rdCount most l).2.2).2.1 = 0
      · have e1 : rdTake2 most l = ((many2 (rdCount most l).1 (rdCount most l).2.2).1, 0, (many2 (rdCount most l).1 (rdCount most l).2.2).2.2) := by unfold rdTake2; rw [if_pos her, if_pos hs]
        rw [e1]
        rw [pre2_nil _ hs] at hlm
        refine whole54_ok b g l ao m c _ hat (.pointer (some ⟨w.heap.size, 0, none⟩)) (.pointer (some ⟨w.heap.size + 1, 0, none⟩)) _ ?_
        refine take55 b _ _ _ most hq hq2 _ (hlm.mono ?_)
        rintro e w1 ⟨o, n, k, h1, h2, h3, ⟨l2, h4, h5⟩, h6⟩
        refine ⟨⟨_, _, _, _, h1⟩, ⟨_, _, _, h1⟩, o, n, k, h1, h2, h3.lower (by simp; omega), by rw [← h5 rfl]; exact h4, grownBy_trans hgr (grownBy_trans (World.grownBy_alloc _ _ _) h6)⟩
      · have e1 : rdTake2 most l = ([], (many2 (rdCount most l).1 (rdCount most l).2.2).2.1, l) := by unfold rdTake2; rw [if_pos her, if_neg hs]
        rw [e1]
        rw [pre2_nil' _ hs] at hlm
        refine Calls.mono (whole54_bad b g l ao m c _ hat (.pointer (some ⟨w.heap.size, 0, none⟩)) (.pointer (some ⟨w.heap.size + 1, 0, none⟩)) _ hs ?_) ?_
        · refine take55 b _ _ _ most hq hq2 _ (hlm.mono ?_)
          rintro e w1 ⟨o, n, k, h1, h2, h3, ⟨l2, h4, h5⟩, h6⟩
          exact ⟨⟨_, _, _, _, h1⟩, ⟨_, _, _, h1⟩, ⟨l2, h4⟩, h6⟩
        · rintro e w1 ⟨h1, h2, h3⟩
          exact ⟨_, _, _, h1, rfl, World.ownsRow_nil _ _ _ _, h2, grownBy_trans hgr h3⟩
    · have e1 : rdTake2 most l = ([], (rdCount most l).2.1, l) := by unfold rdTake2; rw [if_neg her]
      rw [e1]
      refine Calls.mono (whole54_bad b g l ao m c _ hat (.pointer (some ⟨w.heap.size, 0, none⟩)) (.pointer (some ⟨w.heap.size + 1, 0, none⟩)) _ her ?_) ?_
      · refine take55 b _ _ _ most hq hq2 _ ((list56_err b g l _ hr2 most hm _ her).mono ?_)
        rintro e w1 ⟨h1, h2⟩
        exact ⟨⟨_, _, _, _, h1⟩, ⟨_, _, _, h1⟩, h2⟩
      · rintro e w1 ⟨h1, h2, h3⟩
        exact ⟨_, _, _, h1, rfl, World.ownsRow_nil _ _ _ _, h2, grownBy_trans hgr h3⟩
  have hqq := eq64
  clear hq hq2 hr2 hat hw1 hgr
  go_enter Try.func31, Try.ntmps31
  go_wp2_with fail
  refine H.out.mono ?_
  rintro e w1 ⟨o, n, k, rfl, h1, h2⟩
  have H2 := hide (And.intro h1 h2)
  clear H h1 h2
  go_wp2
  go_ret2
  exact ⟨_, _, _, rfl, unhide H2⟩

end Go.Proofs.Ytaljkpndfjfgdaa
