/-
  The iterator All: its contract.
-/
import Derived.Test.YtcfoebpbbmnleaaIter
namespace Go.Proofs.Ytcfoebpbbmnleaa
open Go.RowKit Go.Shelf
attribute [local go_sem] Oper.semAt_some

/-- What the iterator hands on: a sector's number, and what lies there. -/
def Job.vals (j : Job) (k : Nat) : Array Value := #[.int .i64 k, aggV (j.pl k).C]

theorem range_succ' (k : Nat) : List.range (k + 1) = List.range k ++ [k] := List.range_succ

set_option maxRecDepth 100000 in
set_option maxHeartbeats 2000000 in
theorem all27_in (n : Nat) (hn : 1 ≤ n) (l q : Nat) (j : Job) (J Jx : List Nat → World → Prop) (W : World) (hq : Blk W q 23 (jobC j))
    (hJ : ∀ s A B, J s A → A.grownBy B none → J s B)
    (hY : ∀ pre (x : Nat) W1, J pre W1 → pre.length < j.N → YieldAt Fence.wide (n - 1) Try.prog l (j.vals x) W1 fun e W' => (e = .returned (.bool true) ∧ J (pre ++ [x]) W' ∧ KeptJ W1 W') ∨ (e = .returned (.bool false) ∧ Jx (pre ++ [x]) W'))
    (h0 : J [] W) :
    CallsIn Fence.wide n Try.prog 27 #[.func (.yield l) #[] #[], P0 q] W fun e W' => (∃ v, e = .returned v) ∧
      ((∃ ys, ys = List.range j.N ∧ J ys W') ∨ (∃ pre, (∃ k, k ≤ j.N ∧ 0 < k ∧ pre = List.range k) ∧ Jx pre W')) := by
  have hFw := wideF
  have hNl := Job.N_le j
  obtain ⟨N, e, hS, hSN⟩ : ∃ (N : Nat) (e : Int), j.sectors = ((N : Int), e) ∧ N = j.N := by
    cases hm : j.may with
    | false => exact ⟨0, 2, by simp [Job.sectors, hm], by rw [Job.N_no hm]⟩
    | true => exact ⟨j.N, 0, by rw [Job.N_yes hm]; simp [Job.sectors, hm], rfl⟩
  have hC := hide (sectors8 j W)
  rw [hS] at hC
  clear hS
  refine callsIn_of_wp Try.func27 rfl trivial ?_ rfl
  simp only [Try.ntmps27, List.size_toArray, List.length_cons, List.length_nil, Nat.reduceAdd, Nat.reduceSub, Array.replicate_succ, Array.replicate_zero, List.push_toArray, List.append_toArray, List.nil_append, List.cons_append]
  gi_wp2_with (
    first
    | (refine inLoadA row23 wideF (by rfl) (.tmp 1) (by rfl) (by rfl) q 0 (by rfl) (jobC j) rfl hq.range ?_)
    | (gi_at_call 8; refine (callsIn_wide.2 (unhide hC)).mono ?_; rintro e' W1 ⟨rfl, K1⟩
       have hq1 := hide (hq.kept K1 (by simp))
       have hJ1 := hJ [] _ W1 h0 (grown_of_kept K1)
       clear hC K1))
  gi_loopw [14] (fun i wr => ∃ k : Nat, k ≤ j.N ∧ i = .int .i64 k ∧ J (List.range k) wr ∧ Hid (KeptJ W1 wr)) (fun i _ => j.N - (intOf i).toNat)
  case atStart => exact ⟨0, by omega, rfl, hJ1, KeptJ.refl _⟩
  case round =>
    obtain ⟨k, hk, rfl, hJs, hKr⟩ := hrel
    have hqr := hide (show Blk wr q 23 (jobC j) from (unhide hKr).block q _ _ (unhide hq1))
    by_cases hlt : k < j.N
    · have hkI : (k : Int) < N := by omega
      have hO := hide (of13 j k (by unfold I64; omega))
      rw [of_in k hlt] at hO
      have HJ := hide hJs
      clear hJs
      gi_wp2_with (
        first
        | (refine inLoadA row23 wideF (by rfl) (.tmp 1) (by rfl) (by rfl) q 0 (by rfl) (jobC j) rfl (unhide hqr).range ?_)
        | (gi_at_call 13; refine (callsIn_wide.2 (unhide hO _)).mono ?_; rintro e' W2 ⟨rfl, K2⟩
           have HJ2 := hide (hJ _ _ W2 (unhide HJ) (grown_of_kept K2))
           have HK2 := hide ((unhide hKr).trans (KeptJ.of_kept K2))
           clear hO HJ hKr K2)
        | (refine inNew row37 (fourC 0 0 0 0) rfl zero37 6 (by rfl) wideF (by rfl) (by rfl) (by rfl) (.tmp 21) (by rfl) (by rfl) (fun _ => by rfl) (by rfl) (j.pl k).C rfl (fourC_one _ _ _ _) (by rfl) (by rfl) ?_
           intro W3 b6 e6 B6 K6
           have HJ3 := hJ _ _ W3 (unhide HJ2) (grown_of_kept K6)
           have HK3 := hide ((unhide HK2).trans (KeptJ.of_kept K6))
           have B6' := hide B6
           obtain ⟨fn, tmps, assign, body, hy, hR⟩ := hY (List.range k) k W3 HJ3 (by rw [List.length_range]; exact hlt)
           simp only [Job.vals] at hy
           have hR' := hide hR
           clear HJ2 HK2 e6 B6 K6 hR HJ3)
        | (refine inLoadA row37 wideF (by rfl) (.tmp 6) (by rfl) (by rfl) b6 0 (by rfl) (j.pl k).C rfl (unhide B6').range ?_))
      refine (unhide hR').mono ?_
      rintro e W4 (⟨rfl, hJ3, hk3⟩ | ⟨rfl, hJx3⟩)
      · gi_wp2
        go_roundw
        case rel => exact ⟨k + 1, by omega, by go_num, by rw [range_succ']; exact hJ3, (unhide HK3).trans hk3⟩
        case measure => simp [intOf]; omega
      · gi_wp2
        refine bodyPost_ret (results_none rfl _ _ _) rfl ?_
        exact ⟨⟨_, rfl⟩, .inr ⟨_, ⟨k + 1, by omega, by omega, (range_succ' k).symm⟩, hJx3⟩⟩
    · obtain rfl : k = j.N := by omega
      gi_wp2
      go_end0
      exact ⟨⟨_, rfl⟩, .inl ⟨_, rfl, hJs⟩⟩

theorem all_stops (n : Nat) (hn : 1 ≤ n) (q : Nat) (j : Job) (w : World) (hq : Blk w q 23 (jobC j)) :
    SeqStopsK Fence.wide n Try.prog 27 #[P0 q] j.vals KeptJ (fun ys => ys = List.range j.N) (fun pre => ∃ k, k ≤ j.N ∧ 0 < k ∧ pre = List.range k) j.N w := by
  intro l J Jx W hW hJ _ hY h0
  have hk : Kept [] w W := Kept.of_below hW
  exact all27_in n hn l q j J Jx W (hq.kept hk (by simp)) (fun s A B hs hg => hJ s A B none hs hg (fun r e => by cases e)) hY h0

theorem all15 (j : Job) (w : World) : Calls Try.prog 15 #[aggV (jobC j)] w fun e w' => ∃ q, e = .returned (.func (.func 27) #[] #[P0 q]) ∧ w.heap.size ≤ q ∧ Blk w' q 23 (jobC j) ∧ Kept [] w w' := by
  go_enter Try.func15, Try.ntmps15
  go_wp2_with (
    first
    | (refine wpBoxV rfl (.tmp 0) rfl (jobC j) rfl ?_
       intro W1 b1 e1 B1 K1
       have BB := hide B1
       have KK := hide K1
       have nz : Hid (w.heap.size ≤ b1) := by show _ ≤ _; omega
       clear e1 B1 K1)
    | fail)
  go_ret
  exact ⟨b1, rfl, unhide nz, unhide BB, unhide KK⟩

end Go.Proofs.Ytcfoebpbbmnleaa
