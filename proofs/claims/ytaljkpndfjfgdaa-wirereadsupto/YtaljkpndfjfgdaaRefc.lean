/-
  The walk of the document's reader: Numbers.
-/
import Derived.Test.YtaljkpndfjfgdaaRefb
namespace Go.Proofs.Ytaljkpndfjfgdaa
open Go.RowKit

/-- How a reading of numbers by the document's reader ends. -/
def RNTells (w : World) (d : Nat) (bo : Option Addr) (bm bc : Nat) (L : List Int) (x : List Nat) (er : Int) (l : List Int) (e : Ending) (w' : World) : Prop :=
  ∃ ao m c, e = .returned (.tuple #[.slice ao m c, .int .i64 er]) ∧ m = x.length ∧ Own64 w' w.heap.size (.slice ao m c) x ∧ (∃ pos, RR w' d bo bm bc L pos ∧ l = L.drop pos) ∧ w.grownBy w' (some d)

/-- Where the reader is behind a list. -/
def leftOf (r : List Nat × Int × List Int) (l0 : List Int) : List Int := if (pre [] r).2 = 0 then r.2.2 else l0

theorem RR.keep {w w' : World} {d : Nat} {bo : Option Addr} {bm bc : Nat} {L : List Int} {pos : Nat} {row : Option Nat} (h : RR w d bo bm bc L pos) (hg : w.grownBy w' row) (h1 : some d ≠ row) (h2 : L ≠ [] → ∀ a, bo = some a → some a.block ≠ row) : RR w' d bo bm bc L pos := by
  obtain ⟨g1, g2, g3, g4, g5, g6⟩ := h
  refine ⟨?_, ⟨g2.1, g2.2.1, g2.2.2.1, ?_⟩, g3, g4, g5, g6⟩
  · rw [hg.block d (Array.getElem?_eq_some_iff.1 g1).1 h1]; exact g1
  · intro ad had j u hj
    refine hg.cell (g2.2.2.2 ad had j u hj) ?_
    rw [addr_block]
    exact h2 (fun e => by rw [e] at hj; simp [u8s] at hj) ad had

theorem RR.blt {w : World} {d : Nat} {bo : Option Addr} {bm bc : Nat} {L : List Int} {pos : Nat} (h : RR w d bo bm bc L pos) (hL : L ≠ []) : ∀ a, bo = some a → a.block < w.heap.size := by
  intro a ha
  cases L with
  | nil => exact absurd rfl hL
  | cons x r =>
    have := h.2.1.2.2.2 a ha 0 (.int .u8 x) (by simp [u8s])
    have h2 := World.block_lt_of_cell? w _ this
    rwa [addr_block] at h2

set_option maxHeartbeats 1000000 in
set_option maxRecDepth 100000 in
theorem refNumbers43_err (d : Nat) (bo : Option Addr) (bm bc : Nat) (L : List Int) (pos : Nat) (w : World) (h : RR w d bo bm bc L pos) (most : Int) (hm0 : 0 ≤ most) (hm : most ≤ 9223372036854775807) (her : (rdCount most (L.drop pos)).2.1 ≠ 0) :
    Calls Try.prog 43 #[.pointer (some ⟨d, 0, none⟩), .int .i64 most] w fun e w' => RNTells w d bo bm bc L [] (rdCount most (L.drop pos)).2.1 (L.drop pos) e w' := by
  have hN := hide (refNumber38 d bo bm bc L pos w h)
  have hlt := rdNum_lt (byt_drop h.2.2.1 pos)
  have c1 : w.cell? ⟨d, 1, none⟩ = some (.int .i64 pos) := by rw [cell_of_block h.1]; rfl
  have hpos := h.2.2.2.1
  have hback : ∀ (w1 : World) (p1 : Nat), RR w1 d bo bm bc L p1 → w.grownBy w1 (some d) → RR (w1.setCell ⟨d, 1, none⟩ (.int .i64 pos)) d bo bm bc L pos ∧ w.grownBy (w1.setCell ⟨d, 1, none⟩ (.int .i64 pos)) (some d) :=
    fun w1 p1 h1 h2 => ⟨h1.set hpos, grownBy_trans h2 (grownBy_set _ _ _ _)⟩
  cases hd : dec 0 0 (L.drop pos) with
  | none =>
    have e1 : (rdCount most (L.drop pos)).2.1 = 4 := by unfold rdCount; rw [if_neg (by omega : ¬ most < 0), hd]
    rw [e1]
    rw [rdNum_none hd] at hN
    clear her e1 hd hlt
    go_enter Try.func43, Try.ntmps43
    go_wp2_with fail
    refine (unhide hN).mono ?_
    rintro e w1 ⟨rfl, ⟨p1, h1, _⟩, hg1⟩
    have k1 : w1.cell? ⟨d, 1, none⟩ = some (.int .i64 p1) := by rw [cell_of_block h1.1]; rfl
    have f1 : w1.frozen? ⟨d, 1, none⟩ = false := frozen_of_block h1.1 1
    have hb := hide (hback w1 p1 h1 hg1)
    clear hN hback
    go_wp2
    refine wp_loop_rounds 1 ?_
    rw [rounds_succ]
    go_wp2
    go_ret2
    exact ⟨_, _, _, rfl, rfl, World.ownsRow_nil _ _ _ _, ⟨pos, (unhide hb).1, rfl⟩, (unhide hb).2⟩
  | some pr =>
    obtain ⟨n, k⟩ := pr
    rw [rdNum_some hd] at hN hlt
    simp only at hlt
    by_cases hc : most < (n : Int)
    · have e1 : (rdCount most (L.drop pos)).2.1 = 3 := by unfold rdCount; rw [if_neg (by omega : ¬ most < 0), hd]; simp [hc]
      rw [e1]
      clear her e1 hd
      go_enter Try.func43, Try.ntmps43
      go_wp2_with fail
      refine (unhide hN).mono ?_
      rintro e w1 ⟨rfl, ⟨p1, h1, _⟩, hg1⟩
      have k1 : w1.cell? ⟨d, 1, none⟩ = some (.int .i64 p1) := by rw [cell_of_block h1.1]; rfl
      have f1 : w1.frozen? ⟨d, 1, none⟩ = false := frozen_of_block h1.1 1
      have hb := hide (hback w1 p1 h1 hg1)
      clear hN hback
      go_wp2
      refine wp_loop_rounds 1 ?_
      rw [rounds_succ]
      go_wp2
      go_ret2
      exact ⟨_, _, _, rfl, rfl, World.ownsRow_nil _ _ _ _, ⟨pos, (unhide hb).1, rfl⟩, (unhide hb).2⟩
    · exfalso; apply her; unfold rdCount; rw [if_neg (by omega : ¬ most < 0), hd]; simp [hc]

set_option maxHeartbeats 2000000 in
set_option maxRecDepth 100000 in
theorem refNumbers43_main (d : Nat) (bo : Option Addr) (bm bc : Nat) (L : List Int) (pos : Nat) (w : World) (h : RR w d bo bm bc L pos) (most : Int) (hm0 : 0 ≤ most) (hm : most ≤ 9223372036854775807) (her : (rdCount most (L.drop pos)).2.1 = 0) :
    Calls Try.prog 43 #[.pointer (some ⟨d, 0, none⟩), .int .i64 most] w fun e w' =>
      RNTells w d bo bm bc L (pre [] (many (rdCount most (L.drop pos)).1 (rdCount most (L.drop pos)).2.2)).1 (pre [] (many (rdCount most (L.drop pos)).1 (rdCount most (L.drop pos)).2.2)).2
        (leftOf (many (rdCount most (L.drop pos)).1 (rdCount most (L.drop pos)).2.2) (L.drop pos)) e w' := by
  have hN := hide (refNumber38 d bo bm bc L pos w h)
  have hlt := rdNum_lt (byt_drop h.2.2.1 pos)
  have hlen := rdCount_len most (L.drop pos)
  have hLb : L.length ≤ 1048576 := by have := h.2.1.1; have := h.2.2.2.2.1; omega
  have hblt := h.blt
  have hdw : d < w.heap.size := (Array.getElem?_eq_some_iff.1 h.1).1
  have c1 : w.cell? ⟨d, 1, none⟩ = some (.int .i64 pos) := by rw [cell_of_block h.1]; rfl
  have hpos := h.2.2.2.1
  cases hd : dec 0 0 (L.drop pos) with
  | none => exfalso; unfold rdCount at her; rw [if_neg (by omega : ¬ most < 0), hd] at her; simp at her
  | some pr =>
    obtain ⟨n, k⟩ := pr
    rw [rdNum_some hd] at hN hlt
    simp only at hlt
    by_cases hc : most < (n : Int)
    · exfalso; unfold rdCount at her; rw [if_neg (by omega : ¬ most < 0), hd] at her; simp [hc] at her
    have hcnt : rdCount most (L.drop pos) = (n, 0, (L.drop pos).drop k) := by unfold rdCount; rw [if_neg (by omega : ¬ most < 0), hd]; simp [hc]
    rw [hcnt] at hlen ⊢
    simp only at hlen ⊢
    clear her hd hcnt
    have hlen1 : ((L.drop pos).drop k).length ≤ 1048576 := by rw [List.length_drop, List.length_drop]; omega
    have hLne : 0 < ((L.drop pos).drop k).length → L ≠ [] := by intro h0 e; rw [e] at h0; simp at h0
    revert hN hlen1 hLne
    clear hlen
    generalize (L.drop pos).drop k = l1
    intro hN hlen1 hLne
    go_enter Try.func43, Try.ntmps43
    go_wp2_with fail
    refine (unhide hN).mono ?_
    rintro e w1 ⟨rfl, ⟨p1, h1, hp1⟩, hg1⟩
    have Hp1 := hide hp1
    clear hN hp1
    go_wp2
    go_loopw [8, 9, 10, 11, 12] (fun e v i _ _ wr => ∃ (k : Nat) (er : Int) (p2 : Nat), k ≤ n ∧ i = .int .u64 k ∧ e = .int .i64 er ∧ RR wr d bo bm bc L p2 ∧ w.grownBy wr (some d) ∧
        ((er = 0 ∧ ∃ xs, Own64 wr w.heap.size v xs ∧ xs.length + (L.drop p2).length ≤ l1.length ∧ pre xs (many (n - k) (L.drop p2)) = pre [] (many n l1) ∧ ((many (n - k) (L.drop p2)).2.1 = 0 → (many (n - k) (L.drop p2)).2.2 = (many n l1).2.2)) ∨
          (er ≠ 0 ∧ pre [] (many n l1) = ([], er)))) (fun _ _ i _ _ _ => n - (intOf i).toNat)
    case atStart => exact ⟨0, 0, p1, by omega, rfl, rfl, h1, hg1, .inl ⟨rfl, [], World.ownsRow_nil _ _ _ _, by rw [← Hp1.out]; simp, by rw [← Hp1.out]; rfl, by rw [← Hp1.out]; exact fun _ => rfl⟩⟩
    case round =>
      obtain ⟨k, er, p2, hk, rfl, rfl, hRR, hg, hst⟩ := hrel
      have u1 : wr.cell? ⟨d, 1, none⟩ = some (.int .i64 p2) := by rw [cell_of_block hRR.1]; rfl
      have f1 : wr.frozen? ⟨d, 1, none⟩ = false := frozen_of_block hRR.1 1
      have hback : Hid (RR (wr.setCell ⟨d, 1, none⟩ (.int .i64 pos)) d bo bm bc L pos ∧ w.grownBy (wr.setCell ⟨d, 1, none⟩ (.int .i64 pos)) (some d)) := ⟨hRR.set hpos, grownBy_trans hg (grownBy_set _ _ _ _)⟩
      rcases hst with ⟨rfl, xs, hown, hxl, hp, hq⟩ | ⟨hne, hp⟩
      · by_cases hlt2 : k < n
        · have hN := hide (refNumber38 d bo bm bc L p2 wr hRR)
          obtain ⟨j, hj⟩ : ∃ j, n - k = j + 1 := ⟨n - k - 1, by omega⟩
          have hby2 := byt_drop hRR.2.2.1 p2
          have hcase : Hid (∀ p3, (rdNum (L.drop p2)).2.2 = L.drop p3 → ∀ v3 (w3 : World), Own64 w3 w.heap.size v3 (xs ++ [(rdNum (L.drop p2)).1]) →
              (((rdNum (L.drop p2)).2.1 = 0 ∧ ∃ xs, Own64 w3 w.heap.size v3 xs ∧ xs.length + (L.drop p3).length ≤ l1.length ∧ pre xs (many (n - (k + 1)) (L.drop p3)) = pre [] (many n l1) ∧ ((many (n - (k + 1)) (L.drop p3)).2.1 = 0 → (many (n - (k + 1)) (L.drop p3)).2.2 = (many n l1).2.2)) ∨
                ((rdNum (L.drop p2)).2.1 ≠ 0 ∧ pre [] (many n l1) = ([], (rdNum (L.drop p2)).2.1)))) := by
            intro p3 hp3 v3 w3 ho3
            by_cases he : (rdNum (L.drop p2)).2.1 = 0
            · left
              have hgood := many_good (n := j) he xs
              obtain ⟨hsh, _⟩ := rdNum_shorter (L.drop p2) he hby2
              rw [hp3] at hgood hsh
              refine ⟨he, xs ++ [(rdNum (L.drop p2)).1], ho3, by rw [List.length_append, List.length_singleton]; omega, ?_, ?_⟩
              · rw [show n - (k + 1) = j by omega, ← hgood.1, ← hj]; exact hp
              · rw [show n - (k + 1) = j by omega]; intro h0
                rw [← hgood.2 h0, ← hj]
                refine hq ?_
                rw [hj, many, if_pos he, hp3, if_pos h0]
            · right
              have hb1 := many_bad (n := j) he xs
              rw [← hj, hp] at hb1
              exact ⟨he, hb1⟩
          have hxl2 : (xs.length + 1) * 8 ≤ 140737488355328 := by omega
          have hLne2 : L ≠ [] → ∀ a, bo = some a → a.block < w.heap.size := hblt
          clear hp hq hj hback hxl hby2
          revert hN hcase
          generalize (rdNum (L.drop p2)).1 = x
          generalize (rdNum (L.drop p2)).2.1 = er2
          generalize (rdNum (L.drop p2)).2.2 = l2
          intro hN hcase
          go_wp2_with fail
          refine (unhide hN).mono ?_
          rintro e w2 ⟨rfl, ⟨p3, hR2, hp3⟩, hg2⟩
          have hown2 := Own64.kept1 hown hg2 hdw
          have hG2 := grownBy_trans hg hg2
          have hs2 := hG2.size
          clear hN hown hg2 hg hRR u1 f1
          go_wp2_with (at_builtin; go_must (refine wpApp64 (w := w2) rfl (.tmp 45) (.tmp 47) rfl w.heap.size _ xs rfl x rfl hown2 hxl2 ?_ ?_))
          · omega
          intro v3 w3 hown3 hg3
          have hG3 : w.grownBy w3 (some d) := ⟨hg3.os.trans hG2.os, hg3.tape.trans hG2.tape, hg3.output.trans hG2.output, Nat.le_trans hG2.size hg3.size, fun i hi hr => (hg3.block i (by omega) (by intro e; have := (hown2.lt i e.symm).1; omega)).trans (hG2.block i hi hr)⟩
          have hr3 : RR w3 d bo bm bc L p3 := hR2.keep hg3 (by intro e; have := (hown2.lt d e.symm).1; omega) (by intro hl a ha e; have h1 := (hown2.lt _ e.symm).1; have h2 := hLne2 hl a ha; omega)
          have hcs := hide (hcase.out p3 hp3 v3 w3 hown3)
          clear hg3 hown2 hG2 hR2 hown3 hcase hp3
          go_wp2
          go_roundw
          case rel => exact ⟨k + 1, er2, p3, by omega, by go_num, rfl, hr3, hG3, unhide hcs⟩
          case measure => simp [intOf]; omega
        · obtain rfl : k = n := by omega
          rw [Nat.sub_self] at hp hq
          have hfin : Hid (∀ e w', RNTells w d bo bm bc L xs 0 (L.drop p2) e w' → RNTells w d bo bm bc L (pre [] (many k l1)).1 (pre [] (many k l1)).2 (leftOf (many k l1) (L.drop pos)) e w') := by
            intro e w' hT
            have e1 : pre [] (many k l1) = (xs, 0) := by rw [← hp]; simp [pre, many]
            have e2 : L.drop p2 = (many k l1).2.2 := hq rfl
            unfold leftOf; rw [e1, ← e2]; simpa using hT
          obtain ⟨ao, c, hv, _⟩ := Own64.form hown
          subst hv
          clear hp hq
          go_wp2
          go_ret2
          exact hfin.out _ _ ⟨_, _, _, rfl, rfl, hown, ⟨p2, hRR, rfl⟩, hg⟩
      · have hfin : Hid (∀ e w', RNTells w d bo bm bc L [] er (L.drop pos) e w' → RNTells w d bo bm bc L (pre [] (many n l1)).1 (pre [] (many n l1)).2 (leftOf (many n l1) (L.drop pos)) e w') := by
          intro e w' hT
          unfold leftOf; rw [hp]; simpa [hne] using hT
        have hne1 : (er == 0) = false := by rw [beq_eq_false_iff_ne]; exact hne
        have hne2 : (er != 0) = true := by rw [bne_iff_ne]; exact hne
        clear hp hne
        go_wp2
        go_ret2
        exact hfin.out _ _ ⟨_, _, _, rfl, rfl, World.ownsRow_nil _ _ _ _, ⟨pos, hback.out.1, rfl⟩, hback.out.2⟩

end Go.Proofs.Ytaljkpndfjfgdaa
