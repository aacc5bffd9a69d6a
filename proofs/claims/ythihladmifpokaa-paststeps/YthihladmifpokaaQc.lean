/-
  Bound of none.
-/
import Derived.Test.YthihladmifpokaaQb
import Derived.Deep.CutBlock
namespace Go.Proofs.Ythihladmifpokaa
set_option maxRecDepth 100000
set_option linter.unusedSimpArgs false
open Go.RowKit

variable {w W W' : World} {v u : Value} {F : List Int} {n : Int}
set_option maxHeartbeats 2000000 in
theorem bound15_z (h : Nil w u) (hI : Is w v F) (n : Int) : Calls Try.prog 15 #[u, .int .i64 n, v] w fun e W => e = .returned (.int .i64 (boundF n F)) ∧ Kept [] w W := by
  obtain ⟨ao, cc, rfl⟩ := hI.val
  have hFm := hI.big
  have H := hide h
  have HI := hide hI
  clear h hI
  go_enter Try.func15, Try.ntmps15
  go_upto_block 0 with fail
  go_cut [7, 9] from 15 to 24 (fun xb _ wc => xb = .int .i64 (boundF n F) ∧ w = wc)
  case first =>
    go_wp2_with fail
    go_loopw [7, 15] (fun xb xk wr => ∃ k : Nat, k ≤ F.length ∧ xk = .int .i64 k ∧ xb = .int .i64 (boundF n (F.take k)) ∧ w = wr) (fun _ xk _ => F.length - (intOf xk).toNat)
    case atStart => exact ⟨0, by omega, rfl, rfl, rfl⟩
    case round =>
      obtain ⟨k, hk, rfl, rfl, rfl⟩ := hrel
      by_cases hkl : k < F.length
      · have hd : decide ((k : Int) < (F.length : Int)) = true := by simp; omega
        obtain ⟨f, hf⟩ : ∃ f, F[k]? = some f := ⟨_, List.getElem?_eq_getElem hkl⟩
        have HT : Hid (F.take (k + 1) = F.take k ++ [f]) := by show _ = _; rw [List.take_add_one, hf]; rfl
        have HFK := hide hf
        by_cases h1 : 1 ≤ f
        · have d1 : decide (f ≥ 1) = true := by simpa using h1
          have HB : Hid (boundF n (F.take (k + 1)) = min (boundF n (F.take k)) f) := by show _ = _; rw [unhide HT, boundF_app, if_pos h1]
          clear hf h1
          go_wp2_with (
            first
            | (refine wpIdx23 rfl (.tmp 13) (.tmp 15) rfl _ F k f rfl rfl (unhide HI) (unhide HFK) ?_
               intro ad hc
               refine Stp.go ?_))
          constructor
          go_wp2_with (
            first
            | (refine wpMin2 rfl (.tmp 21) (.tmp 22) rfl _ _ rfl rfl ?_
               refine Stp.go ?_))
          constructor
          go_wp2_with fail
          go_roundw
          case rel => exact ⟨k + 1, by omega, by go_num, by rw [unhide HB], trivial⟩
          case measure => simp [intOf]; omega
        · have d1 : decide (f ≥ 1) = false := by simpa using h1
          have HB : Hid (boundF n (F.take (k + 1)) = boundF n (F.take k)) := by show _ = _; rw [unhide HT, boundF_app, if_neg h1]
          clear hf h1
          go_wp2_with (
            first
            | (refine wpIdx23 rfl (.tmp 13) (.tmp 15) rfl _ F k f rfl rfl (unhide HI) (unhide HFK) ?_
               intro ad hc
               refine Stp.go ?_))
          constructor
          go_wp2_with fail
          go_roundw
          case rel => exact ⟨k + 1, by omega, by go_num, by rw [unhide HB], trivial⟩
          case measure => simp [intOf]; omega
      · obtain rfl : k = F.length := by omega
        have hd : decide ((F.length : Int) < (F.length : Int)) = false := by simp
        go_wp2_with fail
        go_meet
        case rel => exact ⟨by rw [List.take_length], rfl⟩
  case rest =>
    obtain ⟨rfl, rfl⟩ := hcut
    obtain ⟨bf, hbf⟩ : ∃ x, x = boundF n F := ⟨_, rfl⟩
    rw [← hbf]
    have HBF := hide hbf
    clear hbf
    go_wp2_with (
      first
      | (go_at_call 33
         refine (marks33_z (unhide H)).mono ?_
         rintro e W9 ⟨rfl, q9⟩
         replace q9 := q9.symm
         subst q9
         refine Stp.go ?_))
    constructor
    go_wp2_with (
      first
      | (refine wpRange50z rfl (.tmp 26) rfl rfl ?_
         intro W1 r I1 K1
         have HJ := hide I1
         have HK := hide K1
         clear I1 K1
         refine Stp.go ?_))
    constructor
    go_wp2_with fail
    go_loopw [7] (fun xb wr => Hid (RZ wr r) ∧ Hid (Kept [] w wr) ∧ xb = .int .i64 bf) (fun _ _ => 0)
    case atStart => exact ⟨HJ, HK, rfl⟩
    case round =>
      clear HJ HK
      obtain ⟨HJ, HK, rfl⟩ := hrel
      go_wp2_with (
        first
        | (refine wpNext50z rfl (.tmp 27) rfl r rfl (unhide HJ) ?_
           refine Stp.go ?_))
      constructor
      go_wp2_with fail
      go_ret
      exact ⟨by rw [← unhide HBF]; rfl, unhide HK⟩

end Go.Proofs.Ythihladmifpokaa
