/-
  The walks of the document's reader (millpondref01.Reader).
-/
import Derived.Test.YtaljkpndfjfgdaaKnown
import Derived.Test.YtaljkpndfjfgdaaThere
import Derived.Deep.QuietTactic
import Derived.BigQuiet
namespace Go.Proofs.Ytaljkpndfjfgdaa
open Go.RowKit

/-- The document's reader at block d: its bytes L lie where the slice says, and it is at 'at'. -/
def RR (w : World) (d : Nat) (bo : Option Addr) (bm bc : Nat) (L : List Int) (pos : Nat) : Prop :=
  w.heap[d]? = some (.cells #[.slice bo bm bc, .int .i64 pos] 40 (0, 0)) ∧ Holds w bo bm bc L ∧ Byt L ∧ pos ≤ bm ∧ bm ≤ 1048576 ∧ ∀ a, bo = some a → a.block ≠ d

theorem addr_block (a : Addr) (j : Nat) : (a.add j).block = a.block := by unfold Addr.add; split <;> rfl

theorem RR.set {w : World} {d : Nat} {bo : Option Addr} {bm bc : Nat} {L : List Int} {pos k : Nat} (h : RR w d bo bm bc L pos) (hk : k ≤ bm) : RR (w.setCell ⟨d, 1, none⟩ (.int .i64 k)) d bo bm bc L k := by
  obtain ⟨h1, h2, h3, h4, h5, h6⟩ := h
  refine ⟨heap_set1 h1, ⟨h2.1, h2.2.1, h2.2.2.1, ?_⟩, h3, hk, h5, h6⟩
  intro ad had j u hj
  have hne := h6 ad had
  rw [World.cell?_of_block (w := w) (Below.heap_setCell _ _ _ _ (by rw [addr_block]; exact hne))]
  exact h2.2.2.2 ad had j u hj

set_option maxHeartbeats 400000 in
theorem left22 (d : Nat) (bo : Option Addr) (bm bc : Nat) (L : List Int) (pos : Nat) (w : World) (h : RR w d bo bm bc L pos) :
    Calls Try.prog 22 #[.pointer (some ⟨d, 0, none⟩)] w fun e w' => e = .returned (.int .i64 ((L.drop pos).length : Int)) ∧ ∃ q, w' = w.drewN q := by
  obtain ⟨h1, h2, h3, h4, h5, h6⟩ := h
  have c0 : w.cell? ⟨d, 0, none⟩ = some (.slice bo bm bc) := by rw [cell_of_block h1]; rfl
  have c1 : w.cell? ⟨d, 1, none⟩ = some (.int .i64 pos) := by rw [cell_of_block h1]; rfl
  have hl : Hid ((bm : Int) - (pos : Int) = ((L.drop pos).length : Int)) := by show _ = _; rw [List.length_drop, h2.1]; omega
  go_enter Try.func22, Try.ntmps22
  go_wp2
  go_quiet (fail)
  go_wp2
  go_ret
  exact ⟨ret_int hl.out, _, rfl⟩

/-- How a reading of the document's reader ends. -/
def RTells (w : World) (d : Nat) (bo : Option Addr) (bm bc : Nat) (L : List Int) (v : Value) (er : Int) (l : List Int) (e : Ending) (w' : World) : Prop :=
  e = .returned (.tuple #[v, .int .i64 er]) ∧ (∃ pos, RR w' d bo bm bc L pos ∧ l = L.drop pos) ∧ w.grownBy w' (some d)

theorem RR.drewN {w : World} {d : Nat} {bo : Option Addr} {bm bc : Nat} {L : List Int} {pos : Nat} (h : RR w d bo bm bc L pos) (q : Nat) : RR (w.drewN q) d bo bm bc L pos := h
theorem grown_drewN (w : World) (q : Nat) (row : Option Nat) : w.grownBy (w.drewN q) row := ⟨rfl, rfl, rfl, Nat.le_refl _, fun _ _ _ => rfl⟩

/-- A digit added above those that are there. -/
theorem add_dig (acc k x : Nat) (ha : acc < 128 ^ k) (hk : k ≤ 9) (hx : x < 128) (h9 : 9 ≤ k → x ≤ 1) :
    IntKind.u64.wrap ((acc : Int) + IntKind.u64.wrap ((x : Int) * 2 ^ (7 * k))) = ((acc + x * 128 ^ k : Nat) : Int) := by
  have hd := dig_lt k x hk hx h9
  have hp := pow128_le k hk
  have hs : acc + x * 128 ^ k < 18446744073709551616 := by
    by_cases h8 : k ≤ 8
    · have := acc_lt acc k x ha hx
      have h9 := pow128_le (k + 1) (by omega)
      omega
    · have h1 : x * 128 ^ k ≤ 1 * 9223372036854775808 := Nat.mul_le_mul (h9 (by omega)) hp
      omega
  have e : ((x : Int) * 2 ^ (7 * k)) = ((x * 128 ^ k : Nat) : Int) := by rw [← pow7]; simp
  rw [e, IntKind.wrap_u64, IntKind.wrap_u64, Int.emod_eq_of_lt (a := ((x * 128 ^ k : Nat) : Int)) (by omega) (by omega)]
  omega

set_option maxHeartbeats 2000000 in
set_option maxRecDepth 100000 in
theorem refNumber38 (d : Nat) (bo : Option Addr) (bm bc : Nat) (L : List Int) (pos : Nat) (w : World) (h : RR w d bo bm bc L pos) :
    Calls Try.prog 38 #[.pointer (some ⟨d, 0, none⟩)] w fun e w' => RTells w d bo bm bc L (.int .u64 (rdNum (L.drop pos)).1) (rdNum (L.drop pos)).2.1 (rdNum (L.drop pos)).2.2 e w' := by
  have hr0 := h
  obtain ⟨h1, h2, hby, h4, h5, h6⟩ := h
  have c0 : ∀ q, (w.drewN q).cell? ⟨d, 0, none⟩ = some (.slice bo bm bc) := fun q => by show w.cell? _ = _; rw [cell_of_block h1]; rfl
  have c1 : ∀ q, (w.drewN q).cell? ⟨d, 1, none⟩ = some (.int .i64 pos) := fun q => by show w.cell? _ = _; rw [cell_of_block h1]; rfl
  have f1 : ∀ q, (w.drewN q).frozen? ⟨d, 1, none⟩ = false := fun q => frozen_of_block (w := w) h1 1
  have hm := hide h2.1
  have hdl : Hid ((L.drop pos).length = bm - pos) := by show _ = _; rw [List.length_drop, hm.out]
  go_enter Try.func38, Try.ntmps38
  go_wp2
  go_loopw [4, 5, 6] (fun n i _ wr => ∃ k acc q : Nat, k ≤ bm - pos ∧ k ≤ 9 ∧ i = .int .i64 k ∧ n = .int .u64 acc ∧ acc < 128 ^ k ∧ wr = w.drewN q ∧ Hid (dec k acc ((L.drop pos).drop k) = dec 0 0 (L.drop pos)))
    (fun _ i _ _ => bm - pos - (intOf i).toNat)
  case atStart => exact ⟨0, 0, 0, by omega, by omega, rfl, rfl, by simp, rfl, rfl⟩
  case round =>
    obtain ⟨k, acc, q, hk, hk9, rfl, rfl, hacc, rfl, hd⟩ := hrel
    have hbad : dec k acc ((L.drop pos).drop k) = none → Hid (∀ q, RTells w d bo bm bc L (.int .u64 (rdNum (L.drop pos)).1) (rdNum (L.drop pos)).2.1 (rdNum (L.drop pos)).2.2 (.returned (.tuple #[.int .u64 0, .int .i64 4])) (w.drewN q)) := by
      intro hn q; rw [hd.out] at hn; rw [rdNum_none hn]; exact ⟨rfl, ⟨pos, hr0.drewN q, rfl⟩, grown_drewN _ _ _⟩
    have hk10 : (k : Int) < 10 := by omega
    by_cases hlt : k < bm - pos
    · obtain ⟨x, hx⟩ : ∃ x, (L.drop pos)[k]? = some x := ⟨_, List.getElem?_eq_getElem (by rw [hdl.out]; exact hlt)⟩
      have hxL : L[pos + k]? = some x := by simpa using hx
      obtain ⟨hx0, hx256⟩ := hby x (List.mem_of_getElem? hxL)
      have hlt2 : (pos : Int) + (k : Int) < (bm : Int) := by omega
      have hlt3 : decide ((pos : Int) + (k : Int) < (bm : Int)) = true := by simpa using hlt2
      cases bo with
      | none => have := (h2.2.2.1 rfl).1; omega
      | some a =>
        have hcx : ∀ q, (w.drewN q).cell? (a.add (pos + k)) = some (.int .u8 x) := fun q => h2.2.2.2 _ rfl (pos + k) _ (by simp [u8s, hxL])
        obtain ⟨g, off, spot⟩ := a
        have hsp : spot = none := by
          obtain ⟨y, hy⟩ : ∃ y, (u8s L)[0]? = some y := ⟨_, List.getElem?_eq_getElem (by rw [u8s_len, hm.out]; omega)⟩
          simpa [Addr.add] using World.cell?_spot (h2.2.2.2 _ rfl 0 y hy)
        subst hsp
        simp only [Addr.add_lit] at hcx
        have Hx := hide hx
        clear hx hxL
        go_wp2
        go_quiet (fail)
        go_wp2
        go_quiet (fail)
        by_cases hA : 0 < k ∧ x = 0
        · have hb1 := hbad (dec_bad0 Hx.out hA.1 hA.2)
          obtain ⟨hA1, hA2⟩ := hA
          have hA3 : x ≤ 0 := by omega
          clear hA2 hbad
          by_cases hk8 : k ≤ 8
          · go_wp2
            go_ret2
            exact hb1.out _
          · obtain rfl : k = 9 := by omega
            have hz : (x == 0) = true := by rw [beq_iff_eq]; omega
            go_wp2
            go_ret2
            exact hb1.out _
        · by_cases hB : k = 9 ∧ 1 < x
          · have hb1 := hbad (dec_bad9 Hx.out hB.1 hB.2)
            obtain ⟨rfl, hB2⟩ := hB
            clear hbad
            go_wp2
            go_ret2
            exact hb1.out _
          · clear hbad
            have hpk : pos + (k + 1) ≤ bm := by omega
            by_cases hC : x < 128
            · have hdl1 := dec_last (acc := acc) Hx.out hA hB hC
              rw [hd.out] at hdl1
              have hdg := dig_lt k x.toNat hk9 (by omega) (by omega)
              have hfin : Hid (∀ V q P, V = ((acc + x.toNat * 128 ^ k : Nat) : Int) → P = ((pos + (k + 1) : Nat) : Int) → RTells w d (some ⟨g, off, none⟩) bm bc L (.int .u64 (rdNum (L.drop pos)).1) (rdNum (L.drop pos)).2.1 (rdNum (L.drop pos)).2.2 (.returned (.tuple #[.int .u64 V, .int .i64 0])) ((w.drewN q).setCell ⟨d, 1, none⟩ (.int .i64 P))) := by
                intro V q P hV hP
                subst hV hP
                rw [rdNum_some hdl1]
                refine ⟨rfl, ⟨pos + (k + 1), (hr0.drewN q).set hpk, by simp⟩, grownBy_trans (grown_drewN _ q _) (grownBy_set _ _ _ _)⟩
              clear hdl1 hr0
              have e7 : Hid (IntKind.u64.wrap ((acc : Int) + IntKind.u64.wrap (x % 128 * 2 ^ (7 * k))) = ((acc + x.toNat * 128 ^ k : Nat) : Int)) := by
                show _ = _
                have e : x % 128 = (x.toNat : Int) := by omega
                rw [e]; exact add_dig acc k x.toNat hacc hk9 (by omega) (by omega)
              by_cases hk0 : k < 1
              · clear hA hB
                go_wp2
                go_ret2
                exact hfin.out _ _ _ e7.out (by omega)
              · have hx1 : 0 < x := by omega
                have hk1 : 0 < k := by omega
                by_cases hk8 : k ≤ 8
                · clear hA hB hk0
                  go_wp2
                  go_ret2
                  exact hfin.out _ _ _ e7.out (by omega)
                · obtain rfl : k = 9 := by omega
                  have hx2 : decide (1 < x) = false := by simp; omega
                  have hx3 : (x == 0) = false := by rw [beq_eq_false_iff_ne]; omega
                  have eV : Hid ((acc : Int) + x % 128 * 9223372036854775808 = ((acc + x.toNat * 128 ^ 9 : Nat) : Int)) := by
                    show _ = _
                    rw [show (128 : Nat) ^ 9 = 9223372036854775808 by decide]; omega
                  clear hA hB hk0 hk8
                  go_wp2
                  go_ret2
                  exact hfin.out _ _ _ eV.out (by omega)
            · have hdl1 := dec_more (acc := acc) Hx.out hA hB hC
              rw [hd.out] at hdl1
              have hk8 : k ≤ 8 := by omega
              have e7 : Hid (IntKind.u64.wrap ((acc : Int) + IntKind.u64.wrap (x % 128 * 2 ^ (7 * k))) = ((acc + (x.toNat - 128) * 128 ^ k : Nat) : Int)) := by
                show _ = _
                have e : x % 128 = ((x.toNat - 128 : Nat) : Int) := by omega
                rw [e]; exact add_dig acc k (x.toNat - 128) hacc hk9 (by omega) (by omega)
              have hd1 : Hid (dec (k + 1) (acc + (x.toNat - 128) * 128 ^ k) ((L.drop pos).drop (k + 1)) = dec 0 0 (L.drop pos)) := hdl1.symm
              have ha1 := acc_lt acc k (x.toNat - 128) hacc (by omega)
              clear hA hB hdl1 hr0
              have hx1 : 0 < x := by omega
              by_cases hk0 : 0 < k
              all_goals
                go_wp2
                go_roundw
                case rel => exact ⟨k + 1, acc + (x.toNat - 128) * 128 ^ k, _, by omega, by omega, by go_num, by rw [e7.out], ha1, rfl, hd1⟩
                case measure => simp [intOf]; omega
    · have hlt2 : ¬ (pos : Int) + (k : Int) < (bm : Int) := by omega
      have hlt3 : decide ((pos : Int) + (k : Int) < (bm : Int)) = false := by simpa using hlt2
      have hb1 := hbad (dec_end (by rw [hdl.out]; omega))
      clear hbad
      go_wp2
      go_quiet (fail)
      go_wp2
      go_ret2
      rw [World.drewN_drewN]
      exact hb1.out _

theorem refUnfolded60 (n : Nat) (w : World) (hn : n < 18446744073709551616) : Calls Try.prog 60 #[.int .u64 n] w fun e w' => e = .returned (.int .i64 (unf n)) ∧ w' = w := by
  by_cases h : n % 2 = 1
  · have h2 : ((n : Int) % 2 == 1) = true := by rw [beq_iff_eq]; omega
    have hu : Hid (-((n : Int) / 2) - 1 = unf n) := by show _ = _; unfold unf; rw [if_pos h]; omega
    go_enter Try.func60, Try.ntmps60
    go_wp2
    go_ret
    exact ⟨ret_int hu.out, rfl⟩
  · have h2 : ((n : Int) % 2 == 1) = false := by rw [beq_eq_false_iff_ne]; omega
    have hu : Hid ((n : Int) / 2 = unf n) := by show _ = _; unfold unf; rw [if_neg h]; omega
    go_enter Try.func60, Try.ntmps60
    go_wp2
    go_ret
    exact ⟨ret_int hu.out, rfl⟩

theorem refSigned39 (d : Nat) (bo : Option Addr) (bm bc : Nat) (L : List Int) (pos : Nat) (w : World) (h : RR w d bo bm bc L pos) :
    Calls Try.prog 39 #[.pointer (some ⟨d, 0, none⟩)] w fun e w' => RTells w d bo bm bc L (.int .i64 (unf (rdNum (L.drop pos)).1)) (rdNum (L.drop pos)).2.1 (rdNum (L.drop pos)).2.2 e w' := by
  have hN := hide (refNumber38 d bo bm bc L pos w h)
  have hlt := rdNum_lt (byt_drop h.2.2.1 pos)
  revert hN hlt
  generalize (rdNum (L.drop pos)).1 = n
  generalize (rdNum (L.drop pos)).2.1 = er
  generalize (rdNum (L.drop pos)).2.2 = l1
  intro hN hlt
  go_enter Try.func39, Try.ntmps39
  go_wp2_with fail
  refine (unhide hN).mono ?_
  rintro e w1 ⟨rfl, h1, h2⟩
  go_wp2_with fail
  refine (refUnfolded60 n _ hlt).mono ?_
  rintro e w2 ⟨rfl, rfl⟩
  go_wp2
  go_ret2
  exact ⟨rfl, h1, h2⟩

set_option maxHeartbeats 1000000 in
theorem refFlag40 (d : Nat) (bo : Option Addr) (bm bc : Nat) (L : List Int) (pos : Nat) (w : World) (h : RR w d bo bm bc L pos) :
    Calls Try.prog 40 #[.pointer (some ⟨d, 0, none⟩)] w fun e w' => RTells w d bo bm bc L (.bool (rdFlag (L.drop pos)).1) (rdFlag (L.drop pos)).2.1 (rdFlag (L.drop pos)).2.2 e w' := by
  have hr0 := h
  have hL : ∀ q, Calls Try.prog 22 #[.pointer (some ⟨d, 0, none⟩)] (w.drewN q) fun e w' => e = .returned (.int .i64 ((L.drop pos).length : Int)) ∧ ∃ n, w' = (w.drewN q).drewN n := fun q => left22 d bo bm bc L pos (w.drewN q) (h.drewN q)
  obtain ⟨h1, h2, hby, h4, h5, h6⟩ := h
  have c0 : ∀ q, (w.drewN q).cell? ⟨d, 0, none⟩ = some (.slice bo bm bc) := fun q => by show w.cell? _ = _; rw [cell_of_block h1]; rfl
  have c1 : ∀ q, (w.drewN q).cell? ⟨d, 1, none⟩ = some (.int .i64 pos) := fun q => by show w.cell? _ = _; rw [cell_of_block h1]; rfl
  have f1 : ∀ q, (w.drewN q).frozen? ⟨d, 1, none⟩ = false := fun q => frozen_of_block (w := w) h1 1
  have hm := hide h2.1
  have hl : (L.drop pos).length = bm - pos := by rw [List.length_drop, hm.out]
  have HL := hide hL
  clear hL
  cases hd : L.drop pos with
  | nil =>
    have hz : ((([] : List Int).length : Int) == 0) = true := by decide
    rw [hd] at HL
    simp only [rdFlag]
    have hfin : Hid (∀ q, RTells w d bo bm bc L (.bool false) 4 [] (.returned (.tuple #[.bool false, .int .i64 4])) (w.drewN q)) := fun q => ⟨rfl, ⟨pos, hr0.drewN q, hd.symm⟩, grown_drewN _ _ _⟩
    clear hr0 hl hd
    go_enter Try.func40, Try.ntmps40
    go_wp2
    go_quiet ((go_at_call 22; exact Calls.quiet_of (HL.out _)))
    go_wp2
    go_ret2
    exact hfin.out _
  | cons x r =>
    have hlt : pos < bm := by rw [hd] at hl; simp at hl; omega
    have hxL : L[pos]? = some x := by
      have e : (L.drop pos)[0]? = some x := by rw [hd]; rfl
      simpa using e
    obtain ⟨hx0, hx256⟩ := hby x (List.mem_of_getElem? hxL)
    have hrL : Hid (r = L.drop (pos + 1)) := by
      show r = _
      have : L.drop (pos + 1) = (L.drop pos).drop 1 := by simp
      rw [this, hd]; rfl
    rw [hd] at HL
    obtain ⟨N, hN⟩ : ∃ N : Nat, (x :: r).length = N := ⟨_, rfl⟩
    have hz : ((N : Int) == 0) = false := by rw [beq_eq_false_iff_ne]; simp at hN; omega
    rw [hN] at HL
    clear hN
    have Hd := hide hd
    have hpI : (pos : Int) < (bm : Int) := by omega
    have hp0 : (0 : Int) ≤ (pos : Int) := by omega
    clear hd hl
    cases bo with
    | none => have := (h2.2.2.1 rfl).1; omega
    | some a =>
      have hcx : ∀ q, (w.drewN q).cell? (a.add pos) = some (.int .u8 x) := fun q => h2.2.2.2 _ rfl pos _ (by simp [u8s, hxL])
      obtain ⟨g, off, spot⟩ := a
      have hsp : spot = none := by
        obtain ⟨y, hy⟩ : ∃ y, (u8s L)[0]? = some y := ⟨_, List.getElem?_eq_getElem (by rw [u8s_len, hm.out]; omega)⟩
        simpa [Addr.add] using World.cell?_spot (h2.2.2.2 _ rfl 0 y hy)
      subst hsp
      simp only [Addr.add_lit] at hcx
      clear hxL
      by_cases hx : 1 < x
      · have e1 : rdFlag (x :: r) = (false, 4, x :: r) := by simp [rdFlag, hx]
        rw [e1]
        have hfin : Hid (∀ q, RTells w d (some ⟨g, off, none⟩) bm bc L (.bool false) 4 (x :: r) (.returned (.tuple #[.bool false, .int .i64 4])) (w.drewN q)) := fun q => ⟨rfl, ⟨pos, hr0.drewN q, Hd.out.symm⟩, grown_drewN _ _ _⟩
        clear e1 hr0
        go_enter Try.func40, Try.ntmps40
        go_wp2
        go_quiet ((go_at_call 22; exact Calls.quiet_of (HL.out _)))
        go_wp2
        go_ret2
        exact hfin.out _
      · have e1 : rdFlag (x :: r) = (x == 1, 0, r) := by simp [rdFlag, hx]
        rw [e1]
        have hset : ∀ q, RR ((w.drewN q).setCell ⟨d, 1, none⟩ (.int .i64 ((pos : Int) + 1))) d (some ⟨g, off, none⟩) bm bc L (pos + 1) := fun q => by have h7 := (hr0.drewN q).set (k := pos + 1) (by omega); simpa using h7
        have hfin : Hid (∀ q n, RTells w d (some ⟨g, off, none⟩) bm bc L (.bool (x == 1)) 0 r (.returned (.tuple #[.bool (x == 1), .int .i64 0])) (((w.drewN q).setCell ⟨d, 1, none⟩ (.int .i64 ((pos : Int) + 1))).drewN n)) :=
          fun q n => ⟨rfl, ⟨pos + 1, (hset q).drewN n, hrL.out⟩, grownBy_trans (grown_drewN _ _ _) (grownBy_trans (grownBy_set _ _ _ _) (grown_drewN _ _ _))⟩
        have k0 : ∀ q n, (((w.drewN q).setCell ⟨d, 1, none⟩ (.int .i64 ((pos : Int) + 1))).drewN n).cell? ⟨d, 0, none⟩ = some (.slice (some ⟨g, off, none⟩) bm bc) := fun q n => by
          show ((w.drewN q).setCell ⟨d, 1, none⟩ (.int .i64 ((pos : Int) + 1))).cell? _ = _; rw [cell_of_block (hset q).1]; rfl
        have k1 : ∀ q n, (((w.drewN q).setCell ⟨d, 1, none⟩ (.int .i64 ((pos : Int) + 1))).drewN n).cell? ⟨d, 1, none⟩ = some (.int .i64 ((pos : Int) + 1)) := fun q n => by
          show ((w.drewN q).setCell ⟨d, 1, none⟩ (.int .i64 ((pos : Int) + 1))).cell? _ = _; rw [cell_of_block (hset q).1]; rfl
        have k2 : ∀ q n, (((w.drewN q).setCell ⟨d, 1, none⟩ (.int .i64 ((pos : Int) + 1))).drewN n).cell? ⟨g, off + pos, none⟩ = some (.int .u8 x) := fun q n => by
          show ((w.drewN q).setCell ⟨d, 1, none⟩ (.int .i64 ((pos : Int) + 1))).cell? _ = _
          rw [World.cell?_of_block (w := w.drewN q) (Below.heap_setCell _ _ _ _ (h6 _ rfl))]; exact hcx q
        clear e1 hr0 hset
        go_enter Try.func40, Try.ntmps40
        go_wp2
        go_quiet ((go_at_call 22; exact Calls.quiet_of (HL.out _)))
        go_wp2
        go_quiet (fail)
        go_wp2
        go_ret2
        exact hfin.out _ _

end Go.Proofs.Ytaljkpndfjfgdaa
