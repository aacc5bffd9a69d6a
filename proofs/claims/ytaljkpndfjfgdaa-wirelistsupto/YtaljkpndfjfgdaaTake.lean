/-
  The walks of list and Take over numbers.
-/
import Derived.Test.YtaljkpndfjfgdaaMany
import Derived.Test.YtaljkpndfjfgdaaWholb
import Derived.Test.YtaljkpndfjfgdaaMetb
namespace Go.Proofs.Ytaljkpndfjfgdaa
open Go.RowKit

set_option maxHeartbeats 400000 in
set_option maxRecDepth 100000 in
theorem list63_err (b g : Nat) (l : List Int) (w : World) (h : Rd w b g l) (most : Int) (hm : most ≤ 9223372036854775807) (f : Value) (her : (rdCount most l).2.1 ≠ 0) :
    Calls Try.prog 63 #[.pointer (some ⟨b, 0, none⟩), .int .i64 most, f] w fun e w' => e = .returned (.tuple #[.slice none 0 0, .int .i64 (rdCount most l).2.1]) ∧ (∃ l1, Rd w' b g l1) ∧ w.grownBy w' (some b) := by
  have hN := hide (count64 b g l w h most hm)
  revert hN her
  generalize (rdCount most l).1 = n
  generalize (rdCount most l).2.1 = er
  generalize (rdCount most l).2.2 = l1
  intro her hN
  have hne : (er != 0) = true := by rw [bne_iff_ne]; exact her
  clear her
  go_enter Try.func63, Try.ntmps63
  go_wp2_with fail
  refine (unhide hN).mono ?_
  rintro e w1 ⟨rfl, hr1, hg1⟩
  clear hN
  go_wp2
  go_ret2
  exact ⟨rfl, ⟨l1, hr1⟩, hg1⟩

theorem Own64.kept1 {w w' : World} {B b : Nat} {v : Value} {l : List Nat} (h : Own64 w B v l) (hg : w.grownBy w' (some b)) (hb : b < B) : Own64 w' B v l := by
  refine World.ownsRow.kept h hg ?_
  cases hv : v.ownBlock with
  | none => exact .inl rfl
  | some k =>
    right
    intro e
    have h1 := (h.lt k hv).1
    have h2 : k = b := Option.some.inj e
    omega

set_option maxHeartbeats 1000000 in
set_option maxRecDepth 100000 in
theorem list63_main (b g : Nat) (l : List Int) (w : World) (h : Rd w b g l) (most : Int) (hm : most ≤ 9223372036854775807) (her : (rdCount most l).2.1 = 0) (hn63 : (rdCount most l).1 ≤ 9223372036854775807) (hlen : (rdCount most l).2.2.length ≤ 1048576) :
    Calls Try.prog 63 #[.pointer (some ⟨b, 0, none⟩), .int .i64 most, .func (.func 25) #[] #[]] w fun e w' =>
      ∃ ao m c, e = .returned (.tuple #[.slice ao m c, .int .i64 (pre [] (many (rdCount most l).1 (rdCount most l).2.2)).2]) ∧ m = (pre [] (many (rdCount most l).1 (rdCount most l).2.2)).1.length ∧ Own64 w' w.heap.size (.slice ao m c) (pre [] (many (rdCount most l).1 (rdCount most l).2.2)).1 ∧
        (∃ l2, Rd w' b g l2 ∧ ((pre [] (many (rdCount most l).1 (rdCount most l).2.2)).2 = 0 → l2 = (many (rdCount most l).1 (rdCount most l).2.2).2.2)) ∧ w.grownBy w' (some b) := by
  have hN := hide (count64 b g l w h most hm)
  have hbw := h.lt
  have hgw : 0 < (rdCount most l).2.2.length → g < w.heap.size := fun hp => h.glt (by intro e; have := rdCount_len most l; rw [e] at this hp; simp at this; rw [this] at hp; simp at hp)
  rw [her] at hN
  clear her
  revert hN hn63 hlen hgw
  generalize (rdCount most l).1 = n
  generalize (rdCount most l).2.2 = l1
  intro hn63 hlen hN hgw
  go_enter Try.func63, Try.ntmps63
  go_wp2_with fail
  refine (unhide hN).mono ?_
  rintro e w1 ⟨rfl, hr1, hg1⟩
  clear hN h
  go_wp2
  go_loopw [10, 11, 12, 23] (fun v _ _ i wr => ∃ (k : Nat) (xs : List Nat) (li : List Int), k ≤ n ∧ i = .int .i64 k ∧ Own64 wr w.heap.size v xs ∧ Rd wr b g li ∧ w.grownBy wr (some b) ∧ xs.length + li.length ≤ l1.length ∧
      Hid (pre xs (many (n - k) li) = pre [] (many n l1)) ∧ Hid ((many (n - k) li).2.1 = 0 → (many (n - k) li).2.2 = (many n l1).2.2)) (fun _ _ _ i _ => n - (intOf i).toNat)
  case atStart => exact ⟨0, [], l1, by omega, rfl, World.ownsRow_nil _ _ _ _, hr1, hg1, by simp, rfl, fun _ => rfl⟩
  case round =>
    obtain ⟨k, xs, li, hk, rfl, hown, hrd, hg, hxl, hp, hq⟩ := hrel
    have hsz := hg.size
    by_cases hlt : k < n
    · have hN := hide (Number25 b g li wr hrd)
      obtain ⟨j, hj⟩ : ∃ j, n - k = j + 1 := ⟨n - k - 1, by omega⟩
      by_cases he : (rdNum li).2.1 = 0
      · have hgood := many_good (n := j) he xs
        obtain ⟨hsh, _⟩ := rdNum_shorter li he hrd.1
        have hp1 : Hid (pre (xs ++ [(rdNum li).1]) (many (n - (k + 1)) (rdNum li).2.2) = pre [] (many n l1)) := by
          show _ = _; rw [show n - (k + 1) = j by omega, ← hgood.1, ← hj]; exact hp.out
        have hq1 : Hid ((many (n - (k + 1)) (rdNum li).2.2).2.1 = 0 → (many (n - (k + 1)) (rdNum li).2.2).2.2 = (many n l1).2.2) := by
          show _ → _
          rw [show n - (k + 1) = j by omega]; intro h0
          rw [← hgood.2 h0, ← hj]
          refine hq.out ?_
          rw [hj, many, if_pos he, if_pos h0]
        rw [he] at hN
        clear hgood he hp hq hj
        revert hN hp1 hq1 hsh
        generalize (rdNum li).1 = x
        generalize (rdNum li).2.2 = l2
        intro hN hsh hp1 hq1
        go_wp2_with fail
        refine (unhide hN).mono ?_
        rintro e w2 ⟨rfl, hr2, hg2⟩
        have hown2 := Own64.kept1 hown hg2 hbw
        have hG2 := grownBy_trans hg hg2
        have hs2 := hG2.size
        clear hN hown hg2 hg hrd
        go_wp2_with (at_builtin; go_must (refine wpApp64 (w := w2) rfl (.tmp 34) (.tmp 36) rfl w.heap.size _ xs rfl x rfl hown2 ?_ ?_ ?_))
        · omega
        · omega
        intro v3 w3 hown3 hg3
        have hG3 : w.grownBy w3 (some b) := ⟨hg3.os.trans hG2.os, hg3.tape.trans hG2.tape, hg3.output.trans hG2.output, Nat.le_trans hG2.size hg3.size, fun i hi hr => (hg3.block i (by omega) (by intro e; have := (hown2.lt i e.symm).1; omega)).trans (hG2.block i hi hr)⟩
        have hr3 : Rd w3 b g l2 := hr2.keep hg3 (by intro e; have := (hown2.lt b e.symm).1; omega) (by intro hl e; have h1 := (hown2.lt g e.symm).1; have h2 := List.length_pos_iff.2 hl; have h3 := hgw (by omega); omega)
        clear hg3 hown2 hG2 hr2
        go_wp2
        go_roundw
        case rel => exact ⟨k + 1, xs ++ [x], l2, by omega, by go_num, hown3, hr3, hG3, by simp; omega, hp1, hq1⟩
        case measure => simp [intOf]; omega
      · have hb1 := many_bad (n := j) he xs
        rw [← hj, hp.out] at hb1
        have hne : ((rdNum li).2.1 != 0) = true := by rw [bne_iff_ne]; exact he
        have hfin : Hid (∀ w', Rd w' b g (rdNum li).2.2 → w.grownBy w' (some b) → ∃ ao m c, Ending.returned (.tuple #[.slice none 0 0, .int .i64 (rdNum li).2.1]) = .returned (.tuple #[.slice ao m c, .int .i64 (pre [] (many n l1)).2]) ∧ m = (pre [] (many n l1)).1.length ∧ Own64 w' w.heap.size (.slice ao m c) (pre [] (many n l1)).1 ∧
            (∃ l2, Rd w' b g l2 ∧ ((pre [] (many n l1)).2 = 0 → l2 = (many n l1).2.2)) ∧ w.grownBy w' (some b)) := by
          intro w' h1 h2
          rw [hb1]
          exact ⟨none, 0, 0, rfl, rfl, World.ownsRow_nil _ _ _ _, ⟨_, h1, fun h0 => absurd h0 he⟩, h2⟩
        clear hb1 he hp hq hj
        revert hN hne hfin
        generalize (rdNum li).1 = x
        generalize (rdNum li).2.1 = er
        generalize (rdNum li).2.2 = l2
        intro hN hne hfin
        go_wp2_with fail
        refine (unhide hN).mono ?_
        rintro e w2 ⟨rfl, hr2, hg2⟩
        have hG2 := grownBy_trans hg hg2
        clear hN hown hg2 hg hrd
        go_wp2
        go_ret2
        exact hfin.out _ hr2 hG2
    · obtain rfl : k = n := by omega
      rw [Nat.sub_self] at hp hq
      have hfin : Hid (pre [] (many k l1) = (xs, 0) ∧ li = (many k l1).2.2) := by
        constructor
        · rw [← hp.out]; simp [pre, many]
        · exact hq.out rfl
      go_wp2
      go_ret2
      obtain ⟨ao, c, hv, _⟩ := Own64.form hown
      subst hv
      rw [hfin.out.1]
      exact ⟨_, _, _, rfl, rfl, hown, ⟨li, hrd, fun _ => hfin.out.2⟩, hg⟩

theorem eq87 (W : World) : Sem.run Try.prog (binOp BinOp.eql 87 (.func (.func 25) #[] #[]) .nilFunc) W = .ok (.bool false) W := by kernel_rfl

set_option maxHeartbeats 400000 in
set_option maxRecDepth 100000 in
theorem take62 (b : Nat) (w : World) (q q2 : Nat) (most : Int) (hq : w.cell? ⟨q, 0, none⟩ = some (.int .i64 most)) (hq2 : w.cell? ⟨q2, 0, none⟩ = some (.func (.func 25) #[] #[])) (R : Ending → World → Prop)
    (H : Calls Try.prog 63 #[.pointer (some ⟨b, 0, none⟩), .int .i64 most, .func (.func 25) #[] #[]] w fun e w' => (∃ (o : Option Addr) (n k : Nat) (er : Int), e = .returned (.tuple #[.slice o n k, .int .i64 er])) ∧ R e w') :
    Calls Try.prog 62 #[.pointer (some ⟨b, 0, none⟩), .pointer (some ⟨q, 0, none⟩), .pointer (some ⟨q2, 0, none⟩)] w fun e w' => R e w' := by
  have H1 := hide H
  clear H
  go_enter Try.func62, Try.ntmps62
  go_wp2_with fail
  refine (unhide H1).mono ?_
  rintro e w1 ⟨⟨o, n, k, er, rfl⟩, hR⟩
  have HR := hide hR
  clear H1 hR
  go_wp2
  exact unhide HR

/-- How reading a list of numbers ends. -/
def NTells (w : World) (b g : Nat) (x : List Nat) (er : Int) (l : List Int) (e : Ending) (w' : World) : Prop :=
  ∃ ao m c, e = .returned (.tuple #[.slice ao m c, .int .i64 er]) ∧ m = x.length ∧ Own64 w' w.heap.size (.slice ao m c) x ∧ Rd w' b g l ∧ w.grownBy w' (some b)

theorem Own64.lower {w : World} {B B' : Nat} {v : Value} {l : List Nat} (h : Own64 w B v l) (hB : B' ≤ B) : Own64 w B' v l := by
  refine ⟨h.1, ?_⟩
  rcases h.2 with h1 | ⟨g, cap, cur, h1, h2, h3⟩
  · exact .inl h1
  · exact .inr ⟨g, cap, cur, h1, Nat.le_trans hB h2, h3⟩

theorem pre_nil (r : List Nat × Int × List Int) (h : r.2.1 = 0) : pre [] r = (r.1, 0) := by unfold pre; rw [if_pos h]; simp
theorem pre_nil' (r : List Nat × Int × List Int) (h : r.2.1 ≠ 0) : pre [] r = ([], r.2.1) := by unfold pre; rw [if_neg h]

theorem rdCount_lt (most : Int) (l : List Int) (h : (rdCount most l).2.1 = 0) : ((rdCount most l).1 : Int) ≤ most := by
  unfold rdCount at h ⊢
  by_cases h0 : most < 0
  · rw [if_pos h0] at h; simp at h
  · rw [if_neg h0] at h ⊢
    cases hd : dec 0 0 l with
    | none => rw [hd] at h; simp at h
    | some p =>
      obtain ⟨n, k⟩ := p
      rw [hd] at h
      simp only at h ⊢
      by_cases h1 : most < (n : Int)
      · rw [if_pos h1] at h; simp at h
      · rw [if_neg h1]; simp only; omega

set_option maxHeartbeats 400000 in
set_option maxRecDepth 100000 in
/-- Take over numbers -/
theorem take42 (b g : Nat) (l : List Int) (w : World) (h : Rd w b g l) (most : Int) (hm : most ≤ 9223372036854775807) (hlen : l.length ≤ 1048576) :
    Calls Try.prog 42 #[.pointer (some ⟨b, 0, none⟩), .int .i64 most, .func (.func 25) #[] #[]] w fun e w' => NTells w b g (rdTake most l).1 (rdTake most l).2.1 (rdTake most l).2.2 e w' := by
  have hw1 := rd_alloc (rd_alloc h (.cells #[.int .i64 most] 3)) (.cells #[.func (.func 25) #[] #[]] 87)
  obtain ⟨ao, m, c, hat⟩ := hw1.at
  have hq : (((w.alloc (.cells #[.int .i64 most] 3)).alloc (.cells #[.func (.func 25) #[] #[]] 87)).alloc (was ao m c)).cell? ⟨w.heap.size, 0, none⟩ = some (.int .i64 most) :=
    Below.keeps ((Below.refl _ _).alloc (Nat.le_refl _) _) _ _ (Below.keeps ((Below.refl _ _).alloc (Nat.le_refl _) _) _ _ (by simp))
  have hq2 : (((w.alloc (.cells #[.int .i64 most] 3)).alloc (.cells #[.func (.func 25) #[] #[]] 87)).alloc (was ao m c)).cell? ⟨w.heap.size + 1, 0, none⟩ = some (.func (.func 25) #[] #[]) :=
    Below.keeps ((Below.refl _ _).alloc (Nat.le_refl _) _) _ _ (by simp)
  have hr2 := rd_alloc hw1 (was ao m c)
  have hgr : w.grownBy ((w.alloc (.cells #[.int .i64 most] 3)).alloc (.cells #[.func (.func 25) #[] #[]] 87)) (some b) := grownBy_trans (World.grownBy_alloc _ _ _) (World.grownBy_alloc _ _ _)
  have H : Hid (Calls Try.prog 61 #[.pointer (some ⟨b, 0, none⟩), .func (.func 62) #[] #[.pointer (some ⟨w.heap.size, 0, none⟩), .pointer (some ⟨w.heap.size + 1, 0, none⟩)]] ((w.alloc (.cells #[.int .i64 most] 3)).alloc (.cells #[.func (.func 25) #[] #[]] 87)) fun e w' => NTells w b g (rdTake most l).1 (rdTake most l).2.1 (rdTake most l).2.2 e w') := by
    by_cases her : (rdCount most l).2.1 = 0
    · have hlm := list63_main b g l _ hr2 most hm her (by have := rdCount_lt most l her; omega) (by have := rdCount_len most l; omega)
      by_cases hs : (many (rdCount most l).1 (rdCount most l).2.2).2.1 = 0
      · have e1 : rdTake most l = ((many (rdCount most l).1 (rdCount most l).2.2).1, 0, (many (rdCount most l).1 (rdCount most l).2.2).2.2) := by unfold rdTake; rw [if_pos her, if_pos hs]
        rw [e1]
        rw [pre_nil _ hs] at hlm
        refine whole61_ok b g l ao m c _ hat (.pointer (some ⟨w.heap.size, 0, none⟩)) (.pointer (some ⟨w.heap.size + 1, 0, none⟩)) _ ?_
        refine take62 b _ _ _ most hq hq2 _ (hlm.mono ?_)
        rintro e w1 ⟨o, n, k, h1, h2, h3, ⟨l2, h4, h5⟩, h6⟩
        refine ⟨⟨_, _, _, _, h1⟩, ⟨_, _, _, h1⟩, o, n, k, h1, h2, h3.lower (by simp; omega), by rw [← h5 rfl]; exact h4, grownBy_trans hgr (grownBy_trans (World.grownBy_alloc _ _ _) h6)⟩
      · have e1 : rdTake most l = ([], (many (rdCount most l).1 (rdCount most l).2.2).2.1, l) := by unfold rdTake; rw [if_pos her, if_neg hs]
        rw [e1]
        rw [pre_nil' _ hs] at hlm
        refine Calls.mono (whole61_bad b g l ao m c _ hat (.pointer (some ⟨w.heap.size, 0, none⟩)) (.pointer (some ⟨w.heap.size + 1, 0, none⟩)) _ hs ?_) ?_
        · refine take62 b _ _ _ most hq hq2 _ (hlm.mono ?_)
          rintro e w1 ⟨o, n, k, h1, h2, h3, ⟨l2, h4, h5⟩, h6⟩
          exact ⟨⟨_, _, _, _, h1⟩, ⟨_, _, _, h1⟩, ⟨l2, h4⟩, h6⟩
        · rintro e w1 ⟨h1, h2, h3⟩
          exact ⟨_, _, _, h1, rfl, World.ownsRow_nil _ _ _ _, h2, grownBy_trans hgr h3⟩
    · have e1 : rdTake most l = ([], (rdCount most l).2.1, l) := by unfold rdTake; rw [if_neg her]
      rw [e1]
      refine Calls.mono (whole61_bad b g l ao m c _ hat (.pointer (some ⟨w.heap.size, 0, none⟩)) (.pointer (some ⟨w.heap.size + 1, 0, none⟩)) _ her ?_) ?_
      · refine take62 b _ _ _ most hq hq2 _ ((list63_err b g l _ hr2 most hm _ her).mono ?_)
        rintro e w1 ⟨h1, h2⟩
        exact ⟨⟨_, _, _, _, h1⟩, ⟨_, _, _, h1⟩, h2⟩
      · rintro e w1 ⟨h1, h2, h3⟩
        exact ⟨_, _, _, h1, rfl, World.ownsRow_nil _ _ _ _, h2, grownBy_trans hgr h3⟩
  have hqq := eq87
  clear hq hq2 hr2 hat hw1 hgr
  go_enter Try.func42, Try.ntmps42
  go_wp2_with fail
  refine H.out.mono ?_
  rintro e w1 ⟨o, n, k, rfl, h1, h2⟩
  have H2 := hide (And.intro h1 h2)
  clear H h1 h2
  go_wp2
  go_ret2
  exact ⟨_, _, _, rfl, unhide H2⟩

end Go.Proofs.Ytaljkpndfjfgdaa
