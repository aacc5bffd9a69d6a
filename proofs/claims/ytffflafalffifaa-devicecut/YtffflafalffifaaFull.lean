/-
  The walk of full: a sector full of a byte.
-/
import Derived.Test.YtffflafalffifaaBuild
namespace Go.Proofs.Ytffflafalffifaa
open Go.RowKit

/-- A sector full of a byte. -/
def fullS (c : Int) : List Int := List.replicate 64 c
def halfS (c : Int) (k : Nat) : List Int := List.replicate k c ++ List.replicate (64 - k) 0
theorem fullS_sec {c : Int} (h : 0 ≤ c ∧ c < 256) : Sec (fullS c) := ⟨by simp [fullS], fun x hx => by rw [List.eq_of_mem_replicate hx]; exact h⟩
theorem halfS_sec {c : Int} {k : Nat} (h : 0 ≤ c ∧ c < 256) (hk : k ≤ 64) : Sec (halfS c k) := by
  refine ⟨by simp [halfS]; omega, fun x hx => ?_⟩
  rcases List.mem_append.1 hx with h1 | h1
  · rw [List.eq_of_mem_replicate h1]; exact h
  · rw [List.eq_of_mem_replicate h1]; omega
theorem halfS_set (c : Int) (k : Nat) (hk : k < 64) : (halfS c k).set k c = halfS c (k + 1) := by
  unfold halfS
  rw [List.set_append_right _ _ (by simp)]
  rw [List.length_replicate, Nat.sub_self, show 64 - k = (64 - (k + 1)) + 1 by omega, List.replicate_succ, List.set_cons_zero, List.replicate_succ']
  simp

theorem res23 (w : World) (z : Nat) (s : List Int) (tmps : Array Value) (h2 : tmps[2]?.getD undef = .pointer (some ⟨z, 0, none⟩)) (hb : Box w z s) : (results Try.f23 tmps).run Try.prog w = .ok (secV s) w := by
  have := hb.at.loadVar
  simp [results, Try.results23, h2, this, asAddr]

theorem Box.setOne {w : World} {b i : Nat} {s : List Int} {x : Int} (h : Box w b s) (hx : 0 ≤ x ∧ x < 256) : Box (w.setCell ⟨b, i, none⟩ (.int .u8 x)) b (s.set i x) := by
  refine ⟨⟨by simpa using h.1.1, fun y hy => (List.mem_or_eq_of_mem_set hy).elim (h.1.2 y) (fun e => e ▸ hx)⟩, ?_⟩
  rw [heap_set h.2]
  simp [u8s, List.map_set, List.setIfInBounds_toArray]

set_option maxHeartbeats 1000000 in
set_option maxRecDepth 100000 in
theorem full23 (c : Int) (w : World) (hc : 0 ≤ c ∧ c < 256) : Calls Try.prog 23 #[.int .u8 c] w fun e w' => e = .returned (secV (fullS c)) ∧ Kept [] w w' := by
  have b1 : Hid (Box ((w.alloc (.cells (u8s nought).toArray 38)).alloc (.cells (u8s nought).toArray 38)) w.heap.size nought) := ⟨nought_sec, heap_alloc_old (heap_new rfl)⟩
  have b2 : Hid (Box ((w.alloc (.cells (u8s nought).toArray 38)).alloc (.cells (u8s nought).toArray 38)) (w.heap.size + 1) nought) := ⟨nought_sec, heap_new (by simp)⟩
  have k0 : Hid (Kept [] w ((w.alloc (.cells (u8s nought).toArray 38)).alloc (.cells (u8s nought).toArray 38))) := ((Kept.refl _ _).alloc _).alloc _
  go_enter Try.func23, Try.ntmps23
  go_wp2_with (refine wpAllocS rfl rfl ?_)
  generalize (w.alloc (.cells (u8s nought).toArray 38)).alloc (.cells (u8s nought).toArray 38) = W at *
  go_loopw [4] (fun i wr => ∃ k : Nat, k ≤ 64 ∧ i = .int .i64 k ∧ Hid (Box wr w.heap.size nought) ∧ Hid (Box wr (w.heap.size + 1) (halfS c k)) ∧ Hid (Kept [] w wr)) (fun i _ => 64 - (intOf i).toNat)
  case atStart => exact ⟨0, by omega, rfl, b1, b2, k0⟩
  case round =>
    obtain ⟨k, hk, rfl, hb1, hb2, hkk⟩ := hrel
    by_cases hlt : k < 64
    · have hh := (unhide hb2).2
      have hcl : wr.cell? ⟨w.heap.size + 1, k, none⟩ = some (.int .u8 ((halfS c k)[k]'(by simp [halfS]; omega))) := by
        rw [cell_of_block hh]; simp [u8s, halfS, show k < k + (64 - k) by omega]
      have hfr : wr.frozen? ⟨w.heap.size + 1, k, none⟩ = false := frozen_of_block hh k
      have hi : (k : Int) < 64 := by omega
      clear hh
      go_wp2_with fail
      go_roundw
      case rel =>
        refine ⟨k + 1, by omega, by go_num, (unhide hb1).kept (X := [w.heap.size + 1]) ((Kept.refl _ _).setCell (by simp) _) (by simp), ?_, (unhide hkk).setCell (by simp) _⟩
        have := (unhide hb2).setOne (i := k) hc
        rw [halfS_set c k hlt] at this
        exact this
      case measure => simp [intOf]; omega
    · obtain rfl : k = 64 := by omega
      have hs : halfS c 64 = fullS c := by simp only [halfS, fullS, Nat.sub_self]; rw [List.replicate_zero, List.append_nil]
      rw [hs] at hb2
      go_wp2_with (first | (refine wpLoadS rfl (.tmp 3) rfl (w.heap.size + 1) 0 rfl _ (unhide hb2).at ?_) | (refine wpStoreS rfl (.tmp 2) (.tmp 12) rfl w.heap.size 0 _ rfl rfl (unhide hb2).1 (unhide hb1).at.2.2 ?_))
      exact bodyPost_ret (res23 _ w.heap.size _ _ rfl ((unhide hb1).put (unhide hb2).1)) rfl ⟨rfl, (unhide hkk).setCells _ _ (by simp)⟩

end Go.Proofs.Ytffflafalffifaa
