/-
  The walk of wire.Join: it returns a row of its own that holds all pieces, one behind the other.
-/
import Derived.Test.YtaljkpndfjfgdaaNum
namespace Go.Proofs.Ytaljkpndfjfgdaa
open Go.RowKit

set_option maxHeartbeats 400000 in
set_option maxRecDepth 100000 in
theorem join_some (b off cap : Nat) (xs : List Sl) (w : World) (hx : xs.length ≤ 140737488355328)
    (hc : ∀ i, ∀ h : i < xs.length, w.cell? ⟨b, off + i, none⟩ = some (xs[i].val)) (hs : ∀ i, ∀ h : i < xs.length, (xs[i]).ok w) (hlen : (flat xs).length ≤ 140737488355328) :
    Calls Try.prog 10 #[.slice (some ⟨b, off, none⟩) xs.length cap] w fun e w' => Gives w (w.heap.size) ((flat xs)) e w' := by
  go_enter Try.func10, Try.ntmps10
  go_wp2
  go_loopw [3, 5, 8] (fun v _ i wr => ∃ k : Nat, k ≤ xs.length ∧ i = .int .i64 k ∧ Owns wr w.heap.size v (flat (xs.take k)) ∧ Below w.heap.size w wr)
    (fun _ _ i _ => xs.length - (intOf i).toNat)
  case atStart => exact ⟨0, Nat.zero_le _, rfl, World.ownsRow_nil _ _ _ _, Below.refl _ _⟩
  case round =>
    obtain ⟨k, hk, rfl, hown, hb⟩ := hrel
    have hsz := hb.size
    by_cases hlt : k < xs.length
    · have hcell := (Below.keeps hb) _ _ (hc k hlt)
      have hok := Holds.below (hs k hlt) hb
      have hfl := flat_le xs (k + 1)
      have hfs : Hid (flat (xs.take (k + 1)) = flat (xs.take k) ++ xs[k].l) := flat_succ xs k hlt
      rw [hfs.out] at hfl
      revert hcell hok hfl hfs
      generalize xs[k] = s
      generalize hF : flat (xs.take k) = F at hown
      clear hF
      rcases s with ⟨ao, m, c, l⟩
      simp only [Sl.val]
      intro hcell hok hfl hfs
      go_wp2_with (at_builtin; go_must (refine wpApp rfl _ _ 23 5 rfl Try.underlying23 Try.info5 w.heap.size _ _ rfl _ _ _ rfl _ hown hok ?_ ?_ ?_))
      · simp at hfl; omega
      · omega
      intro v1 w1 hown1 hg1
      have hb1 : Below w.heap.size w w1 := rel_app hown hb (Nat.le_refl _) hg1
      clear hg1 hown hb hcell hok
      go_wp2
      go_roundw
      case rel => exact ⟨k + 1, by omega, by go_num, (by rw [hfs.out]; exact owns_of hown1), hb1⟩
      case measure => simp [intOf]; omega
    · rw [flat_all xs k (by omega)] at hown
      go_wp2
      go_ret
      exact gives_of hown hb

set_option maxHeartbeats 400000 in
set_option maxRecDepth 100000 in
theorem join_none (ao : Option Addr) (cap : Nat) (w : World) :
    Calls Try.prog 10 #[.slice ao 0 cap] w fun e w' => Gives w (w.heap.size) ((flat [])) e w' := by
  go_enter Try.func10, Try.ntmps10
  go_wp2
  refine wp_loop_rounds 1 ?_
  rw [rounds_succ]
  go_wp2
  go_ret
  exact gives_of (World.ownsRow_nil _ _ _ _) (Below.refl _ _)

/-- Join of two pieces in a slice that was just built. -/
theorem join_two (w : World) (s t : Sl) (e : TypeId) (hs : s.ok w) (ht : t.ok w) (hlen : s.l.length + t.l.length ≤ 140737488355328) :
    Calls Try.prog 10 #[.slice (some ⟨w.heap.size, 0, none⟩) 2 2] (w.alloc (.cells #[s.val, t.val] e)) fun e w' => Gives w ((w.heap.size + 1)) ((s.l ++ t.l)) e w' := by
  have h := join_some w.heap.size 0 2 [s, t] (w.alloc (.cells #[s.val, t.val] e)) (by simp)
    (by intro i hi; match i, hi with | 0, _ => simp | 1, _ => simp)
    (by intro i hi; match i, hi with | 0, _ => exact hs.alloc _ | 1, _ => exact ht.alloc _) (by simpa [flat] using hlen)
  refine h.mono ?_
  rintro e w' ⟨ao, m, c, rfl, h1, h2⟩
  exact gives_of (by simpa [flat] using h1.2) (((Below.refl _ _).alloc (Nat.le_refl _) _).trans (h2.mono (by simp)))

theorem join_one (w : World) (s : Sl) (e : TypeId) (hs : s.ok w) (hlen : s.l.length ≤ 140737488355328) :
    Calls Try.prog 10 #[.slice (some ⟨w.heap.size, 0, none⟩) 1 1] (w.alloc (.cells #[s.val] e)) fun e w' => Gives w ((w.heap.size + 1)) (s.l) e w' := by
  have h := join_some w.heap.size 0 1 [s] (w.alloc (.cells #[s.val] e)) (by simp)
    (by intro i hi; match i, hi with | 0, _ => simp)
    (by intro i hi; match i, hi with | 0, _ => exact hs.alloc _) (by simpa [flat] using hlen)
  refine h.mono ?_
  rintro e w' ⟨ao, m, c, rfl, h1, h2⟩
  exact gives_of (by simpa [flat] using h1.2) (((Below.refl _ _).alloc (Nat.le_refl _) _).trans (h2.mono (by simp)))

/-- wire.Bytes: the length's form, then the bytes. -/
theorem bytes_any (ao : Option Addr) (m c : Nat) (l : List Int) (w : World) (h : Holds w ao m c l) (hlen : m ≤ 140737488351232) :
    Calls Try.prog 8 #[.slice ao m c] w fun e w' => Gives w w.heap.size (num m ++ l) e w' := by
  have hL := num_len (n := m) (by omega)
  have hm := h.1
  go_enter Try.func8, Try.ntmps8
  go_wp2_with fail
  refine (number_any m _ (by omega)).mono ?_
  rintro e w1 ⟨ao1, m1, c1, rfl, hown, hb⟩
  have hh := hown.held
  have hh2 := h.below hb
  have hs1 := hb.size
  clear hown
  go_wp2_with fail
  refine (join_two w1 ⟨ao1, m1, c1, num m⟩ ⟨ao, m, c, l⟩ 23 hh hh2 (by simp only; omega)).mono ?_
  rintro e w2 ⟨ao2, m2, c2, rfl, hown2, hb2⟩
  go_wp2
  go_ret
  exact gives_of (hown2.lower (by omega)).2 (hb.trans (hb2.mono hs1))

/-- The document's Bytes: the length's form, then the bytes. -/
theorem refBytes_any (ao : Option Addr) (m c : Nat) (l : List Int) (w : World) (h : Holds w ao m c l) (hlen : m ≤ 140737488351232) :
    Calls Try.prog 11 #[.slice ao m c] w fun e w' => Gives w w.heap.size (num m ++ l) e w' := by
  have hL := num_len (n := m) (by omega)
  have hm := h.1
  go_enter Try.func11, Try.ntmps11
  go_wp2_with fail
  refine (refNumber_any m _ (by omega)).mono ?_
  rintro e w1 ⟨ao1, m1, c1, rfl, hown, hb⟩
  have hh2 := h.below hb
  have hs1 := hb.size
  have hown' := hown.2
  go_wp2_with (at_builtin; go_must (refine wpApp rfl _ _ 23 5 rfl Try.underlying23 Try.info5 w.heap.size _ _ rfl _ _ _ rfl _ hown' hh2 ?_ ?_ ?_))
  · omega
  · omega
  intro v2 w2 hown2 hg2
  have hb2 := rel_app hown' hb (Nat.le_refl _) hg2
  clear hg2 hown hown' hb hh2
  have hown3 := owns_of hown2
  clear hown2
  go_wp2
  go_ret
  exact gives_of hown3 hb2

/-- A signed number as one without a sign. -/
def fold (n : Int) : Nat := if n < 0 then (-2 * n - 1).toNat else (2 * n).toNat

theorem fold_lt (n : Int) (h1 : -9223372036854775808 ≤ n) (h2 : n ≤ 9223372036854775807) : fold n < 18446744073709551616 := by unfold fold; split <;> omega

/-- wire.Flag and the document's. -/
theorem flag_any (b : Bool) (w : World) : Calls Try.prog 15 #[.bool b] w fun e w' => Gives w w.heap.size [if b then 1 else 0] e w' := by
  cases b
  all_goals
    go_enter Try.func15, Try.ntmps15
    go_wp2
    go_ret
    refine gives_of ?_ ((Below.refl _ _).alloc (Nat.le_refl _) _)
    exact World.ownsRow_lit w #[.int .u8 _] 1 (Nat.le_refl _) (by unfold maxLen; omega) rfl
theorem refFlag_any (b : Bool) (w : World) : Calls Try.prog 16 #[.bool b] w fun e w' => Gives w w.heap.size [if b then 1 else 0] e w' := by
  cases b
  all_goals
    go_enter Try.func16, Try.ntmps16
    go_wp2
    go_ret
    refine gives_of ?_ ((Below.refl _ _).alloc (Nat.le_refl _) _)
    exact World.ownsRow_lit w #[.int .u8 _] 1 (Nat.le_refl _) (by unfold maxLen; omega) rfl

theorem refFolded_any (n : Int) (w : World) (h1 : -9223372036854775808 ≤ n) (h2 : n ≤ 9223372036854775807) :
    Calls Try.prog 37 #[.int .i64 n] w fun e w' => e = .returned (.int .u64 (fold n)) ∧ w' = w := by
  by_cases hn : n < 0
  · have hf : Hid ((fold n : Int) = -2 * n - 1) := by show (fold n : Int) = _; unfold fold; rw [if_pos hn]; omega
    go_enter Try.func37, Try.ntmps37
    go_wp2
    go_ret
    refine ⟨?_, rfl⟩
    rw [hf.out]
    exact ret_int (by omega)
  · have hf : Hid ((fold n : Int) = 2 * n) := by show (fold n : Int) = _; unfold fold; rw [if_neg hn]; omega
    go_enter Try.func37, Try.ntmps37
    go_wp2
    go_ret
    refine ⟨?_, rfl⟩
    rw [hf.out]
    exact ret_int (by omega)

theorem signed_any (n : Int) (w : World) (h1 : -9223372036854775808 ≤ n) (h2 : n ≤ 9223372036854775807) :
    Calls Try.prog 13 #[.int .i64 n] w fun e w' => Gives w w.heap.size (num (fold n)) e w' := by
  have hl := fold_lt n h1 h2
  by_cases hn : n < 0
  · have hf : Hid (bits BinOp.xor IntKind.u64 IntKind.u64.max (IntKind.u64.wrap (IntKind.u64.wrap n * 2)) = (fold n : Int)) := by
      show _ = _
      rw [IntKind.wrap_u64, IntKind.wrap_u64]
      have e : n % 18446744073709551616 * 2 % 18446744073709551616 = (((2 * n + 18446744073709551616).toNat : Nat) : Int) := by omega
      rw [e, notU64 _ (by omega)]
      unfold fold; rw [if_pos hn]; omega
    go_enter Try.func13, Try.ntmps13
    go_wp2_with fail
    rw [hf.out]
    refine (number_any (fold n) _ hl).mono ?_
    rintro e w1 ⟨ao1, m1, c1, rfl, hown, hb⟩
    go_wp2
    go_ret
    exact gives_of hown.2 hb
  · have hf : Hid (n * 2 = (fold n : Int)) := by show n * 2 = (fold n : Int); unfold fold; rw [if_neg hn]; omega
    go_enter Try.func13, Try.ntmps13
    go_wp2_with fail
    rw [hf.out]
    refine (number_any (fold n) _ hl).mono ?_
    rintro e w1 ⟨ao1, m1, c1, rfl, hown, hb⟩
    go_wp2
    go_ret
    exact gives_of hown.2 hb

theorem refSigned_any (n : Int) (w : World) (h1 : -9223372036854775808 ≤ n) (h2 : n ≤ 9223372036854775807) :
    Calls Try.prog 14 #[.int .i64 n] w fun e w' => Gives w w.heap.size (num (fold n)) e w' := by
  have hl := fold_lt n h1 h2
  go_enter Try.func14, Try.ntmps14
  go_wp2_with fail
  refine (refFolded_any n _ h1 h2).mono ?_
  rintro e w1 ⟨rfl, rfl⟩
  go_wp2_with fail
  refine (refNumber_any (fold n) _ hl).mono ?_
  rintro e w1 ⟨ao1, m1, c1, rfl, hown, hb⟩
  go_wp2
  go_ret
  exact gives_of hown.2 hb

end Go.Proofs.Ytaljkpndfjfgdaa
