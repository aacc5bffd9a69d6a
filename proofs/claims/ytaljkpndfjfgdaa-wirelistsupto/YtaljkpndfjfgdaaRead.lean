/-
  The walks of the reader's methods (wire.Open, Left, End, number, whole, Number).
-/
import Derived.Test.YtaljkpndfjfgdaaJoin
import Derived.Test.YtaljkpndfjfgdaaDec
import Derived.WalkMore
namespace Go.Proofs.Ytaljkpndfjfgdaa
open Go.RowKit

/-- A reader at block b, open, whose bytes lie in block g, and of which these are left. -/
def Rd (w : World) (b g : Nat) (l : List Int) : Prop :=
  Byt l ∧ b ≠ g ∧ ∃ ao m c, w.heap[b]? = some (.cells #[.bool true, .slice ao m c] 73 (0, 0)) ∧ Holds w ao m c l ∧ ∀ a, ao = some a → ∃ off, a = ⟨g, off, none⟩

set_option maxHeartbeats 400000 in
theorem open_any (ao : Option Addr) (m c : Nat) (l : List Int) (w : World) (h : Holds w ao m c l) (hlen : m ≤ 140737488355328) (hby : Byt l) :
    Calls Try.prog 19 #[.slice ao m c] w fun e w' => ∃ b g, e = .returned (.pointer (some ⟨b, 0, none⟩)) ∧ w.heap.size ≤ b ∧ w.heap.size ≤ g ∧ Rd w' b g l ∧ Below w.heap.size w w' := by
  have hm := h.1
  go_enter Try.func19, Try.ntmps19
  go_wp2_with fail
  refine (join_one w ⟨ao, m, c, l⟩ 23 h (by simp only; omega)).mono ?_
  rintro e w1 ⟨ao1, m1, c1, rfl, hown, hb⟩
  go_wp2
  go_ret
  have hs := hb.size
  have hB : Below w.heap.size w (w1.alloc (Obj.cells #[Value.bool true, Value.slice ao1 m1 c1] 73)) := hb.alloc hs _
  have hh : Holds (w1.alloc (Obj.cells #[Value.bool true, Value.slice ao1 m1 c1] 73)) ao1 m1 c1 l := hown.held.alloc _
  rcases Owns.shape hown.2 with ⟨hv, _⟩ | ⟨g, cap, hv, hg1, hg2, _⟩
  · cases hv
    exact ⟨w1.heap.size, w1.heap.size + 1, rfl, hs, by omega, ⟨hby, by omega, none, 0, 0, heap_alloc_new _ _, hh, fun a ha => by cases ha⟩, hB⟩
  · cases hv
    exact ⟨w1.heap.size, g, rfl, hs, by omega, ⟨hby, by omega, _, _, _, heap_alloc_new _ _, hh, fun a ha => by cases ha; exact ⟨0, rfl⟩⟩, hB⟩

theorem cell_of_block {w : World} {b : Nat} {cs : Array Value} {t : TypeId} {p : Nat × Nat} (h : w.heap[b]? = some (.cells cs t p)) (i : Nat) : w.cell? ⟨b, i, none⟩ = cs[i]? := cell_of_row w b i cs t p h

theorem heap_set1 {w : World} {b : Nat} {v0 v1 u : Value} {t : TypeId} (h : w.heap[b]? = some (.cells #[v0, v1] t (0, 0))) : (w.setCell ⟨b, 1, none⟩ u).heap[b]? = some (.cells #[v0, u] t (0, 0)) := by
  simp only [World.setCell, Array.getElem?_modify, if_true, h, Option.map_some]
  rfl

theorem frozen_of_block {w : World} {b : Nat} {cs : Array Value} {t : TypeId} (h : w.heap[b]? = some (.cells cs t (0, 0))) (i : Nat) : w.frozen? ⟨b, i, none⟩ = false := by
  simp [World.frozen?, h]

theorem grownBy_set (w : World) (b i : Nat) (u : Value) : w.grownBy (w.setCell ⟨b, i, none⟩ u) (some b) :=
  ⟨rfl, rfl, rfl, by simp [World.setCell], fun k _ hk => Below.heap_setCell _ _ _ _ (fun e => hk (by rw [e]))⟩

theorem rd_move {w : World} {b g off m c k : Nat} {l : List Int} {ao' : Option Addr} (hw : w.heap[b]? = some (.cells #[.bool true, .slice (some ⟨g, off, none⟩) m c] 73 (0, 0)))
    (h : Holds w (some ⟨g, off, none⟩) m c l) (hby : Byt l) (hgb : b ≠ g) (hk : k ≤ m) (hao : (c = k ∧ ao' = some ⟨g, off, none⟩) ∨ ao' = some ⟨g, off + k, none⟩) :
    Rd (w.setCell ⟨b, 1, none⟩ (.slice ao' (m - k) (c - k))) b g (l.drop k) := by
  refine ⟨fun x hx => hby x (List.mem_of_mem_drop hx), hgb, ao', m - k, c - k, heap_set1 hw, ⟨?_, ?_, ?_, ?_⟩, ?_⟩
  · rw [List.length_drop, h.1]
  · have := h.2.1; omega
  · intro hn; rcases hao with ⟨_, e⟩ | e <;> rw [e] at hn <;> cases hn
  · intro ad had j u hj
    have hjl : j < l.length - k := by
      have := (List.getElem?_eq_some_iff.1 hj).1
      simpa [u8s] using this
    have hml := h.1
    have hmc := h.2.1
    rcases hao with ⟨e1, _⟩ | e
    · omega
    · rw [e] at had
      cases had
      have hju : (u8s l)[k + j]? = some u := by
        rw [← hj]; simp [u8s]
      have := h.2.2.2 _ rfl (k + j) u hju
      rw [Addr.add_lit] at this ⊢
      rw [Nat.add_assoc, World.cell?_of_block (w := w) (Below.heap_setCell _ _ _ _ (by simpa using Ne.symm hgb))]
      exact this
  · intro a ha
    rcases hao with ⟨_, e⟩ | e <;> rw [e] at ha <;> cases ha
    · exact ⟨off, rfl⟩
    · exact ⟨off + k, rfl⟩

/-- How a reading ends: what it tells, and where the reader stands. -/
def Tells (w : World) (b g : Nat) (v : Value) (er : Int) (l : List Int) (e : Ending) (w' : World) : Prop :=
  e = .returned (.tuple #[v, .int .i64 er]) ∧ Rd w' b g l ∧ w.grownBy w' (some b)

set_option maxHeartbeats 1000000 in
set_option maxRecDepth 100000 in
theorem number46 (b g : Nat) (l : List Int) (w : World) (hr : Rd w b g l) :
    Calls Try.prog 46 #[.pointer (some ⟨b, 0, none⟩)] w fun e w' => Tells w b g (.int .u64 (rdNum l).1) (rdNum l).2.1 (rdNum l).2.2 e w' := by
  have hr0 := hr
  obtain ⟨hby, hbg, ao, m, c, hw, h, hg⟩ := hr
  have hc1 : w.cell? ⟨b, 1, none⟩ = some (.slice ao m c) := by rw [cell_of_block hw]; rfl
  have hf1 : w.frozen? ⟨b, 1, none⟩ = false := frozen_of_block hw 1
  have hm := h.1
  go_enter Try.func46, Try.ntmps46
  go_wp2
  go_step3
  go_wp2
  go_step3
  go_wp2
  go_loopw [4, 5, 6, 7, 13] (fun n s _ _ i wr => ∃ k acc : Nat, k ≤ l.length ∧ k ≤ 9 ∧ i = .int .i64 k ∧ s = .int .i64 (7 * k) ∧ n = .int .u64 acc ∧ acc < 128 ^ k ∧ wr = w ∧ Hid (dec k acc (l.drop k) = dec 0 0 l))
    (fun _ _ _ _ i _ => l.length - (intOf i).toNat)
  case atStart => exact ⟨0, 0, by omega, by omega, rfl, rfl, rfl, by simp, rfl, rfl⟩
  case round =>
    obtain ⟨k, acc, hk, hk9, rfl, rfl, rfl, hacc, rfl, hd⟩ := hrel
    have hbad : dec k acc (l.drop k) = none → Hid (Tells wr b g (.int .u64 (rdNum l).1) (rdNum l).2.1 (rdNum l).2.2 (.returned (.tuple #[.int .u64 0, .int .i64 4])) wr) := by
      intro hn; rw [hd.out] at hn; rw [rdNum_none hn]; exact ⟨rfl, hr0, World.grownBy.refl _ _⟩
    by_cases hlt : k < l.length
    · obtain ⟨x, hx⟩ : ∃ x, l[k]? = some x := ⟨_, List.getElem?_eq_getElem hlt⟩
      obtain ⟨hx0, hx256⟩ := hby x (List.mem_of_getElem? hx)
      have hxs : (u8s l)[k]? = some (.int .u8 x) := by simp [u8s, hx]
      cases ao with
      | none => have := (h.2.2.1 rfl).1; omega
      | some a =>
        obtain ⟨off, rfl⟩ := hg a rfl
        have hcx := h.2.2.2 _ rfl k _ hxs
        rw [Addr.add_lit] at hcx
        have Hx : Hid (l[k]? = some x) := hx
        clear hx hxs hg
        by_cases hA : 0 < k ∧ x = 0
        · have hb1 := hbad (dec_bad0 Hx.out hA.1 hA.2)
          obtain ⟨hA1, hA2⟩ := hA
          have hA3 : x ≤ 0 := by omega
          clear hA2 hbad
          go_wp2
          rw [Exit.noGoto_ret]
          go_ret2
          exact hb1.out
        · by_cases hB : k = 9 ∧ 1 < x
          · have hb1 := hbad (dec_bad9 Hx.out hB.1 hB.2)
            have hB1 : 9 ≤ k := by omega
            have hB2 := hB.2
            clear hB hbad
            by_cases hk0 : 0 < x
            · go_wp2
              rw [Exit.noGoto_ret]
              go_ret2
              exact hb1.out
            · omega
          · clear hbad
            by_cases hC : x < 128
            · have hdl := dec_last (acc := acc) Hx.out hA hB hC
              rw [hd.out] at hdl
              have hor := or_dig acc k x.toNat hacc hk9 (by omega) (by omega)
              have Hor : Hid (bits BinOp.or IntKind.u64 (acc : Int) (IntKind.u64.wrap (x % 128 * 2 ^ (7 * k))) = ((acc + x.toNat * 128 ^ k : Nat) : Int)) := by
                have e : x % 128 = (x.toNat : Int) := by omega
                show _ = _
                rw [e]; exact hor
              clear hor
              have hfin : Hid (∀ V ao' m' c', V = bits BinOp.or IntKind.u64 (acc : Int) (IntKind.u64.wrap (x % 128 * 2 ^ (7 * k))) → ((c = k + 1 ∧ ao' = some ⟨g, off, none⟩) ∨ ao' = some ⟨g, off + (k + 1), none⟩) → m' = m - (k + 1) → c' = c - (k + 1) → Tells wr b g (.int .u64 (rdNum l).1) (rdNum l).2.1 (rdNum l).2.2 (.returned (.tuple #[.int .u64 V, .int .i64 0])) (wr.setCell ⟨b, 1, none⟩ (.slice ao' m' c'))) := by
                intro V ao' m' c' hV hao hm' hc'
                subst hc' hm' hV
                rw [Hor.out, rdNum_some hdl]
                exact ⟨rfl, rd_move hw h hby hbg (by omega) hao, grownBy_set _ _ _ _⟩
              clear Hor hdl hr0
              by_cases hk0 : k < 1
              · clear hA hB
                go_wp2
                all_goals go_ret2
                · exact hfin.out _ _ _ _ rfl (.inl ⟨‹_›, rfl⟩) rfl (by omega)
                · exact hfin.out _ _ _ _ rfl (.inr rfl) rfl rfl
              · have hx1 : 0 < x := by omega
                have hk1 : 0 < k := by omega
                by_cases hk8 : k ≤ 8
                · clear hA hB hk0
                  go_wp2
                  all_goals go_ret2
                  · exact hfin.out _ _ _ _ rfl (.inl ⟨‹_›, rfl⟩) rfl (by omega)
                  · exact hfin.out _ _ _ _ rfl (.inr rfl) rfl rfl
                · obtain rfl : k = 9 := by omega
                  have hx2 : x ≤ 1 := by omega
                  have ew : Hid (bits BinOp.or IntKind.u64 (acc : Int) (x % 128 * 9223372036854775808) = bits BinOp.or IntKind.u64 (acc : Int) (IntKind.u64.wrap (x % 128 * 2 ^ (7 * 9)))) := by
                    have e : (2 : Int) ^ (7 * 9) = 9223372036854775808 := by decide
                    show _ = _
                    have e2 : x % 128 * 9223372036854775808 % 18446744073709551616 = x % 128 * 9223372036854775808 := by omega
                    rw [IntKind.wrap_u64, e, e2]
                  clear hA hB hk0 hk8
                  go_wp2
                  all_goals go_ret2
                  · exact hfin.out _ _ _ _ ew.out (.inl ⟨‹_›, rfl⟩) rfl (by omega)
                  · exact hfin.out _ _ _ _ ew.out (.inr rfl) rfl rfl
            · have hdl := dec_more (acc := acc) Hx.out hA hB hC
              rw [hd.out] at hdl
              have hk8 : k ≤ 8 := by omega
              have hor := or_dig acc k (x.toNat - 128) hacc hk9 (by omega) (by omega)
              have Hor : Hid (bits BinOp.or IntKind.u64 (acc : Int) (IntKind.u64.wrap (x % 128 * 2 ^ (7 * k))) = ((acc + (x.toNat - 128) * 128 ^ k : Nat) : Int)) := by
                have e : x % 128 = ((x.toNat - 128 : Nat) : Int) := by omega
                show _ = _
                rw [e]; exact hor
              clear hor
              have hd1 : Hid (dec (k + 1) (acc + (x.toNat - 128) * 128 ^ k) (l.drop (k + 1)) = dec 0 0 l) := hdl.symm
              have ha1 := acc_lt acc k (x.toNat - 128) hacc (by omega)
              clear hA hB hdl hr0
              have hx1 : 0 < x := by omega
              by_cases hk0 : 0 < k
              all_goals
                go_wp2
                go_roundw
                case rel => exact ⟨k + 1, acc + (x.toNat - 128) * 128 ^ k, by omega, by omega, by go_num, by go_num, by rw [Hor.out], ha1, (by first | rfl | trivial), hd1⟩
                case measure => simp [intOf]; omega
    · have hb1 := hbad (dec_end (by omega))
      clear hbad
      go_wp2
      rw [Exit.noGoto_ret]
      go_ret2
      exact hb1.out

/-- What stands in the reader's block and in the bytes' stays: so does the reader. -/
theorem Rd.keep {w w' : World} {b g : Nat} {l : List Int} {row : Option Nat} (h : Rd w b g l) (hg : w.grownBy w' row) (h1 : some b ≠ row) (h2 : l ≠ [] → some g ≠ row) : Rd w' b g l := by
  obtain ⟨hby, hbg, ao, m, c, hw, hh, ha⟩ := h
  refine ⟨hby, hbg, ao, m, c, ?_, ⟨hh.1, hh.2.1, hh.2.2.1, ?_⟩, ha⟩
  · rw [hg.block b (Array.getElem?_eq_some_iff.1 hw).1 h1]; exact hw
  · intro ad had j u hj
    have hc := hh.2.2.2 ad had j u hj
    obtain ⟨off, rfl⟩ := ha ad had
    rw [Addr.add_lit] at hc ⊢
    exact hg.cell hc (h2 (fun e => by rw [e] at hj; simp [u8s] at hj))

theorem Rd.glt {w : World} {b g : Nat} {l : List Int} (h : Rd w b g l) (hl : l ≠ []) : g < w.heap.size := by
  obtain ⟨hby, hbg, ao, m, c, hw, hh, ha⟩ := h
  cases l with
  | nil => exact absurd rfl hl
  | cons x r =>
    cases ao with
    | none => have := (hh.2.2.1 rfl).1; have := hh.1; simp at this; omega
    | some a =>
      obtain ⟨off, rfl⟩ := ha a rfl
      have hc := hh.2.2.2 _ rfl 0 (.int .u8 x) (by simp [u8s])
      rw [Addr.add_lit] at hc
      exact World.block_lt_of_cell? w _ hc

theorem Rd.lt {w : World} {b g : Nat} {l : List Int} (h : Rd w b g l) : b < w.heap.size := by
  obtain ⟨hby, hbg, ao, m, c, hw, hh, ha⟩ := h
  exact (Array.getElem?_eq_some_iff.1 hw).1

/-- none: a reader that is there, a nil one, a zero one. -/
theorem none_rd (b g : Nat) (l : List Int) (w : World) (h : Rd w b g l) :
    Calls Try.prog 44 #[.pointer (some ⟨b, 0, none⟩)] w fun e w' => e = .returned (.bool false) ∧ w' = w := by
  obtain ⟨hby, hbg, ao, m, c, hw, hh, ha⟩ := h
  have hc0 : w.cell? ⟨b, 0, none⟩ = some (.bool true) := by rw [cell_of_block hw]; rfl
  go_enter Try.func44, Try.ntmps44
  go_wp2
  go_ret
  exact ⟨rfl, rfl⟩

theorem none_nil (w : World) : Calls Try.prog 44 #[.pointer none] w fun e w' => e = .returned (.bool true) ∧ w' = w := by
  go_enter Try.func44, Try.ntmps44
  go_wp2
  go_ret
  exact ⟨rfl, rfl⟩

theorem none_zero (b : Nat) (w : World) (hc0 : w.cell? ⟨b, 0, none⟩ = some (.bool false)) : Calls Try.prog 44 #[.pointer (some ⟨b, 0, none⟩)] w fun e w' => e = .returned (.bool true) ∧ w' = w := by
  go_enter Try.func44, Try.ntmps44
  go_wp2
  go_ret
  exact ⟨rfl, rfl⟩

theorem left_rd (b g : Nat) (l : List Int) (w : World) (h : Rd w b g l) :
    Calls Try.prog 21 #[.pointer (some ⟨b, 0, none⟩)] w fun e w' => e = .returned (.int .i64 (l.length : Int)) ∧ w' = w := by
  have hr := h
  obtain ⟨hby, hbg, ao, m, c, hw, hh, ha⟩ := h
  have hc1 : w.cell? ⟨b, 1, none⟩ = some (.slice ao m c) := by rw [cell_of_block hw]; rfl
  have hm : Hid ((m : Int) = (l.length : Int)) := by show (m : Int) = (l.length : Int); rw [hh.1]
  go_enter Try.func21, Try.ntmps21
  go_wp2_with fail
  refine (none_rd b g l _ hr).mono ?_
  rintro e w' ⟨rfl, rfl⟩
  go_wp2
  go_ret
  exact ⟨ret_int hm.out, rfl⟩

theorem end_rd (b g : Nat) (l : List Int) (w : World) (h : Rd w b g l) :
    Calls Try.prog 24 #[.pointer (some ⟨b, 0, none⟩)] w fun e w' => e = .returned (.int .i64 (endE l)) ∧ w' = w := by
  have hr := h
  obtain ⟨hby, hbg, ao, m, c, hw, hh, ha⟩ := h
  have hc1 : w.cell? ⟨b, 1, none⟩ = some (.slice ao m c) := by rw [cell_of_block hw]; rfl
  by_cases h0 : 0 < m
  · have hm : Hid ((4 : Int) = endE l) := by show (4 : Int) = _; unfold endE; rw [if_neg (fun e => by have := hh.1; rw [e] at this; simp at this; omega)]
    go_enter Try.func24, Try.ntmps24
    go_wp2_with fail
    refine (none_rd b g l _ hr).mono ?_
    rintro e w' ⟨rfl, rfl⟩
    go_wp2
    go_ret
    exact ⟨ret_int hm.out, rfl⟩
  · have hm : Hid ((0 : Int) = endE l) := by show (0 : Int) = _; unfold endE; rw [if_pos (List.eq_nil_of_length_eq_zero (by have := hh.1; omega))]
    go_enter Try.func24, Try.ntmps24
    go_wp2_with fail
    refine (none_rd b g l _ hr).mono ?_
    rintro e w' ⟨rfl, rfl⟩
    go_wp2
    go_ret
    exact ⟨ret_int hm.out, rfl⟩

theorem num_err (x : Int) (w : World) : Calls Try.prog 23 #[.int .i64 x] w fun e w' => e = .returned (.int .i64 x) ∧ w' = w := by
  go_enter Try.func23, Try.ntmps23
  go_wp2
  go_ret
  exact ⟨rfl, rfl⟩

end Go.Proofs.Ytaljkpndfjfgdaa
