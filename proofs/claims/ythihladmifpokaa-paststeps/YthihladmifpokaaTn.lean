/-
  The law on steps.
-/
import Derived.Test.YthihladmifpokaaTm
namespace Go.Proofs.Ythihladmifpokaa
set_option maxRecDepth 100000
set_option linter.unusedSimpArgs false
open Go.RowKit

variable {w W W' : World} {b b' mb mb' r : Nat} {v v' : Value} {M L M' L' : List Mk}
theorem Tw.made (h1 : Pg W b mb []) (h2 : Blk W r 30 [.slice none 0 0]) : Tw W b mb r (.slice none 0 0) [] [] := ⟨h1, ⟨h2, Rw.nil _, by decide⟩, List.Perm.refl _, List.Pairwise.nil⟩
/-- A pair that was made since w. -/
structure So (w W : World) (b mb r : Nat) (v : Value) (M L : List Mk) : Prop where
  tw : Tw W b mb r v M L
  ge : w.heap.size ≤ mb ∧ w.heap.size ≤ r ∧ ∀ i, v.ownBlock = some i → w.heap.size ≤ i
  k : Kept [] w W
theorem So.step0 (h : So w W b mb r v M L) (hk : Kept [] W W') : So w W' b mb r v M L := ⟨h.tw.step0 hk, h.ge, h.k.trans hk⟩
theorem So.do1 (h : So w W b mb r v M L) (hd : Dn W W' b mb r v b' mb' v' M' L') : So w W' b' mb' r v' M' L' := by
  have hs := h.k.size
  have hge := h.ge
  refine ⟨hd.tw, ⟨?_, hge.2.1, fun i hi => ?_⟩, h.k.fresh hd.k (fun i hi hlt => ?_)⟩
  · rcases hd.nm with e | e
    · rw [e]; exact hge.1
    · omega
  · rcases hd.nv i hi with e | e
    · exact hge.2.2 i e
    · omega
  · rcases List.mem_cons.1 hi with e | e
    · omega
    · rcases List.mem_cons.1 e with e | e
      · omega
      · have := hge.2.2 i (by simpa using e)
        omega
set_option maxHeartbeats 16000000 in
theorem steps3 (n : Int) (az : Option Addr) (cx : Nat) (X : List Se) (ao : Option Addr) (cf : Nat) (F : List Int) (w : World) (hX : RowS Se.C 4 w az X) (hF : RowS intC 1 w ao F) (hno : ao = none → F = [] ∧ cf = 0) : Calls Try.prog 3 #[.slice az X.length cx, .int .i64 n, .slice ao F.length cf] w fun e W => e = .returned (.bool true) ∧ Kept [] w W := by
  have HX := hide hX
  have HF := hide hF
  have HFN := hide hno
  clear hX hF hno
  by_cases h40 : F.length ≤ 40
  rotate_left
  · have d1 : decide ((F.length : Int) > 40) = true := by simp; omega
    have d2 : decide (40 < (F.length : Int)) = true := by simp; omega
    clear h40
    go_enter Try.func3, Try.ntmps3
    go_wp2_with (
      first
      | (go_at_call 7
         refine (known7 _).mono ?_
         rintro e W99 ⟨rfl, K99⟩
         have HK1 := hide K99
         clear K99
         refine Stp.go ?_))
    constructor
    go_wp2_with fail
    go_ret
    exact ⟨rfl, unhide HK1⟩
  have d1 : decide ((F.length : Int) > 40) = false := by simp; omega
  have d2 : decide (40 < (F.length : Int)) = false := by simp; omega
  have H40 := hide h40
  clear h40
  go_enter Try.func3, Try.ntmps3
  go_wp2_with (
    first
    | (go_at_call 8
       refine (new8 _).mono ?_
       rintro e W1 ⟨b1, mb1, rfl, h1, h2, h3, h4⟩
       have HP1 := hide h1
       have HG1 : Hid (w.heap.size ≤ mb1) := h4
       have HK := hide h2
       clear h1 h2 h3 h4
       refine Stp.go ?_))
  constructor
  go_wp2_with (
    first
    | (refine wpBoxV rfl (.tmp 16) rfl [.slice none 0 0] rfl ?_
       intro V1 r1 e2 B2 h2
       have HR1 : Hid (w.heap.size ≤ r1) := by have := (unhide HK).size; show _ ≤ _; omega
       have HQ : Hid (So w V1 b1 mb1 r1 (.slice none 0 0) [] []) := ⟨Tw.made ((unhide HP1).step h2 (by simp) (by simp)) B2, ⟨unhide HG1, unhide HR1, fun i hi => by cases hi⟩, (unhide HK).trans h2⟩
       clear e2 B2 h2 HP1 HG1 HR1 HK
       refine Stp.go ?_))
  constructor
  go_upto_block 0 with fail
  clear d1 d2
  go_cut [6, 7, 8, 9, 10] from 20 to 52 (fun x6 x7 x8 x9 x10 wc => Hid (Kept [] w wc))
  case first =>
   as_aux_lemma =>
    go_wp2_with fail
    go_loopw [6, 7, 8, 9, 10] (fun x6 x7 x8 x9 x10 wr => ∃ (j b1 mb1 : Nat) (v1 : Value) (M1 L1 : List Mk), j ≤ 200 ∧ x9 = .int .i64 j ∧ x7 = P0 b1 ∧ x8 = P0 r1 ∧ Hid (So w wr b1 mb1 r1 v1 M1 L1)) (fun _ _ _ x9 _ _ => 200 - (intOf x9).toNat)
    case atStart => exact ⟨0, b1, mb1, _, _, _, by omega, rfl, rfl, rfl, HQ⟩
    case round =>
      clear HQ
      obtain ⟨j, b1, mb1, v1, M1, L1, hj, rfl, rfl, rfl, HQ⟩ := hrel
      by_cases hk1 : j < X.length
      · have hd : decide ((j : Int) < (X.length : Int)) = true := by simp; omega
        by_cases hk2 : j < 200
        · have hkI : (j : Int) < 200 := by omega
          have hd2 : decide ((j : Int) < 200) = true := by simpa using hkI
          obtain ⟨x, hx⟩ : ∃ x, X[j]? = some x := ⟨_, List.getElem?_eq_getElem hk1⟩
          have HXK := hide hx
          clear hx
          go_wp2_with (
            first
            | (refine wpIdx22 rfl (.tmp 33) (.tmp 34) rfl _ _ X j x rfl rfl ((unhide HX).kept (unhide HQ).k) (unhide HXK) ?_
               intro g o' hr
               have HRG := hide hr
               clear hr
               refine Stp.go ?_))
          constructor
          go_wp2_with (
            first
            | (refine wpLoadA row34 rfl (.tmp 35) rfl g o' rfl x.C rfl (unhide HRG) ?_
               refine Stp.go ?_))
          constructor
          go_wp2_with (
            first
            | (go_at_call 9
               refine (do9 (unhide HQ).tw x).mono ?_
               rintro e V9 ⟨c1, m1, u1, M9, L9, rfl, hD⟩
               have HQ9 := hide ((unhide HQ).do1 hD)
               clear hD HRG HQ
               refine Stp.go ?_))
          constructor
          go_wp2_with (
            first
            | (go_at_call 10
               refine (stands10 (unhide HQ9).tw n _ ao cf F ((unhide HF).kept (unhide HQ9).k) (unhide HFN) (unhide H40)).mono ?_
               rintro e W10 ⟨rfl, K10⟩
               replace HQ9 := hide ((unhide HQ9).step0 K10)
               clear K10
               refine Stp.go ?_))
          constructor
          go_wp2_with fail
          go_roundw
          case rel => exact ⟨j + 1, c1, m1, u1, M9, L9, by omega, by go_num, rfl, rfl, HQ9⟩
          case measure => simp [intOf]; omega
        · obtain rfl : j = 200 := by omega
          have hd2 : decide (((200 : Nat) : Int) < 200) = false := by decide
          go_wp2_with fail
          go_meet
          case rel => exact hide (unhide HQ).k
      · have hd : decide ((j : Int) < (X.length : Int)) = false := by simp; omega
        go_wp2_with fail
        go_meet
        case rel => exact hide (unhide HQ).k
  case rest =>
   as_aux_lemma =>
    have HK := hcut
    clear HQ hcut
    go_wp2_with (
      first
      | (go_at_call 7
         refine (known7 _).mono ?_
         rintro e W99 ⟨rfl, K99⟩
         have HK1 := hide ((unhide HK).trans K99)
         clear K99
         refine Stp.go ?_))
    constructor
    go_wp2_with fail
    go_ret
    exact ⟨rfl, unhide HK1⟩

end Go.Proofs.Ythihladmifpokaa
