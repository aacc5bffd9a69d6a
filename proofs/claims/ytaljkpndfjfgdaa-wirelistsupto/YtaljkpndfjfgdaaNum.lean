/-
  The walks of wire.Number and of the document's Number: each returns a row of its own that holds the number's form.
-/
import Derived.Test.YtaljkpndfjfgdaaRows
import Derived.Test.YtaljkpndfjfgdaaPlain
namespace Go.Proofs.Ytaljkpndfjfgdaa
open Go.RowKit

theorem Try.info5 : (Try.prog.info? 5).map (fun i => (i.zero, i.size, i.bytes)) = some (some (.int .u8 0), 1, 1) := by kernel_rfl

set_option maxHeartbeats 400000 in
set_option maxRecDepth 100000 in
theorem number_any (n : Nat) (w : World) (hn : n < 18446744073709551616) :
    Calls Try.prog 9 #[.int .u64 n] w fun e w' => Gives w w.heap.size (num n) e w' := by
  have hL := num_len hn
  go_enter Try.func9, Try.ntmps9
  go_wp2
  go_loopw [0, 3] (fun a v wr => ∃ (m : Nat) (d : List Int), a = .int .u64 m ∧ m < 18446744073709551616 ∧ Hid (d ++ num m = num n) ∧ wr.ownsRow w.heap.size 5 1 v d.length (u8s d) ∧ Below w.heap.size w wr)
    (fun a _ _ => (intOf a).toNat)
  case atStart => exact ⟨n, [], rfl, hn, rfl, World.ownsRow_nil _ _ _ _, Below.refl _ _⟩
  case round =>
    obtain ⟨m, d, rfl, hm, hd, hown, hb⟩ := hrel
    have hdl : d.length ≤ 10 := by have := congrArg List.length hd.out; simp at this; omega
    have hsz := hb.size
    by_cases hlt : m < 128
    · go_wp2_with (at_builtin; go_must (refine wpApp rfl _ _ 23 5 rfl Try.underlying23 Try.info5 w.heap.size _ _ rfl _ _ _ rfl _ (hown.alloc _) (holds_built _ _ _) ?_ ?_ ?_))
      · simp; omega
      · simp; omega
      intro v1 w1 hown1 hg1
      have hb1 : Below w.heap.size w w1 := rel_app (hown.alloc _) (hb.alloc hsz _) (Nat.le_refl _) hg1
      have hfin : w1.ownsRow w.heap.size 5 1 v1 (num n).length (u8s (num n)) := by rw [← hd.out, num_lt hlt]; simpa using hown1
      clear hg1 hown1 hown hb
      go_wp2
      go_ret
      exact gives_of hfin hb1
    · go_wp2_with (at_builtin; go_must (refine wpApp rfl _ _ 23 5 rfl Try.underlying23 Try.info5 w.heap.size _ _ rfl _ _ _ rfl _ (hown.alloc _) (holds_built _ _ _) ?_ ?_ ?_))
      · simp; omega
      · simp; omega
      intro v1 w1 hown1 hg1
      have hb1 : Below w.heap.size w w1 := rel_app (hown.alloc _) (hb.alloc hsz _) (Nat.le_refl _) hg1
      clear hg1 hown hb
      have hd1 : Hid ((d ++ [128 + (m : Int) % 128]) ++ num (m / 128) = num n) := by have := hd.out; rw [num_ge hlt] at this; simpa [Hid] using this
      go_wp2
      go_roundw
      case rel => exact ⟨m / 128, d ++ [128 + (m : Int) % 128], by go_num, by omega, hd1, by simpa using hown1, hb1⟩
      case measure => simp [intOf]; omega

set_option maxHeartbeats 400000 in
set_option maxRecDepth 100000 in
theorem refNumber_any (n : Nat) (w : World) (hn : n < 18446744073709551616) :
    Calls Try.prog 12 #[.int .u64 n] w fun e w' => Gives w w.heap.size (num n) e w' := by
  have hL := num_len hn
  go_enter Try.func12, Try.ntmps12
  go_wp2
  go_loopw [0, 3] (fun a v wr => ∃ (m : Nat) (d : List Int), a = .int .u64 m ∧ m < 18446744073709551616 ∧ Hid (d ++ num m = num n) ∧ wr.ownsRow w.heap.size 5 1 v d.length (u8s d) ∧ Below w.heap.size w wr)
    (fun a _ _ => (intOf a).toNat)
  case atStart => exact ⟨n, [], rfl, hn, rfl, World.ownsRow_nil _ _ _ _, Below.refl _ _⟩
  case round =>
    obtain ⟨m, d, rfl, hm, hd, hown, hb⟩ := hrel
    have hdl : d.length ≤ 10 := by have := congrArg List.length hd.out; simp at this; omega
    have hsz := hb.size
    by_cases hlt : m < 128
    · go_wp2_with (at_builtin; go_must (refine wpApp rfl _ _ 23 5 rfl Try.underlying23 Try.info5 w.heap.size _ _ rfl _ _ _ rfl _ (hown.alloc _) (holds_built _ _ _) ?_ ?_ ?_))
      · simp; omega
      · simp; omega
      intro v1 w1 hown1 hg1
      have hb1 : Below w.heap.size w w1 := rel_app (hown.alloc _) (hb.alloc hsz _) (Nat.le_refl _) hg1
      have hfin : w1.ownsRow w.heap.size 5 1 v1 (num n).length (u8s (num n)) := by rw [← hd.out, num_lt hlt]; simpa using hown1
      clear hg1 hown1 hown hb
      go_wp2
      go_ret
      exact gives_of hfin hb1
    · go_wp2_with (at_builtin; go_must (refine wpApp rfl _ _ 23 5 rfl Try.underlying23 Try.info5 w.heap.size _ _ rfl _ _ _ rfl _ (hown.alloc _) (holds_built _ _ _) ?_ ?_ ?_))
      · simp; omega
      · simp; omega
      intro v1 w1 hown1 hg1
      have hb1 : Below w.heap.size w w1 := rel_app (hown.alloc _) (hb.alloc hsz _) (Nat.le_refl _) hg1
      clear hg1 hown hb
      have hd1 : Hid ((d ++ [(m : Int) % 128 + 128]) ++ num (m / 128) = num n) := by have := hd.out; rw [num_ge hlt, Int.add_comm] at this; simpa [Hid] using this
      go_wp2
      go_roundw
      case rel => exact ⟨m / 128, d ++ [(m : Int) % 128 + 128], by go_num, by omega, hd1, by simpa using hown1, hb1⟩
      case measure => simp [intOf]; omega

end Go.Proofs.Ytaljkpndfjfgdaa
