/-
  Members: the members gone over.
-/
import Derived.Test.YtbpnnbbinhdoiaaDoorVr
namespace Go.Proofs.YtbpnnbbinhdoiaaDoor
set_option maxRecDepth 100000
open Go.RowKit Go.Shelf
attribute [local go_sem] Oper.semAt_some


/-- The members from a place on, each with its node's number. -/
def memF : Nat → List (Bool × Int) → List (Nat × Int)
  | _, [] => []
  | i, m :: l => if m.1 then (i, m.2) :: memF (i + 1) l else memF (i + 1) l
/-- The members of a view that may be. -/
def Vw.list (v : Vw) : List (Nat × Int) := if v.may then memF 0 v.ms else []
theorem memF_lt : ∀ (l : List (Bool × Int)) (i : Nat) (x : Nat × Int), x ∈ memF i l → i ≤ x.1 ∧ x.1 < i + l.length ∧ l[x.1 - i]? = some (true, x.2) := by
  intro l
  induction l with
  | nil => intro i x h; simp [memF] at h
  | cons m l ih =>
    intro i x h
    unfold memF at h
    have hcons : x ∈ memF (i + 1) l → i ≤ x.1 ∧ x.1 < i + (m :: l).length ∧ (m :: l)[x.1 - i]? = some (true, x.2) := by
      intro h
      have := ih (i + 1) x h
      refine ⟨by omega, by simp; omega, ?_⟩
      rw [show x.1 - i = (x.1 - (i + 1)) + 1 by omega, List.getElem?_cons_succ]
      exact this.2.2
    split at h
    · rename_i hm
      rcases List.mem_cons.1 h with h | h
      · subst h
        refine ⟨by simp, by simp, ?_⟩
        obtain ⟨a, b⟩ := m
        simp at hm
        subst hm
        simp
      · exact hcons h
    · exact hcons h
theorem members30 (v : Vw) (w : World) : Calls Tryd.prog 30 #[aggV (vwC v)] w fun e w' => ∃ p, e = .returned (.func (.func 40) #[] #[P0 p]) ∧ Blk w' p 26 (vwC v) ∧ w.heap.size ≤ p ∧ Kept [] w w' := by
  go_enter Tryd.func30, Tryd.ntmps30
  go_wp2_with (
    first
    | (refine wpBoxV rfl (.tmp 0) rfl (vwC v) rfl ?_
       intro W1 b1 e1 B1 K1
       have HB := hide B1
       have HK := hide K1
       have HE : Hid (w.heap.size ≤ b1) := by show _ ≤ _; omega
       clear e1 B1 K1))
  go_ret
  exact ⟨b1, rfl, unhide HB, unhide HE, unhide HK⟩
set_option maxHeartbeats 4000000 in
theorem members_in (n : Nat) (hn : 1 ≤ n) (lp p : Nat) (v : Vw) (W : World) (hB : Blk W p 26 (vwC v)) (hF : First W) (hv : v.ms.length = 8)
    (I Ix : Nat → World → Prop) (hI : ∀ k A B, I k A → A.grownBy B none → I k B)
    (hY : ∀ k x W1, v.list[k]? = some x → I k W1 → YieldAt Fence.wide (n - 1) Tryd.prog lp #[.int .i64 x.1, .int .i64 x.2] W1 fun e W' => (e = .returned (.bool true) ∧ I (k + 1) W' ∧ KeptJ W1 W') ∨ (e = .returned (.bool false) ∧ Ix (k + 1) W'))
    (h0 : I 0 W) :
    CallsIn Fence.wide n Tryd.prog 40 #[.func (.yield lp) #[] #[], P0 p] W fun e W' => (∃ v, e = .returned v) ∧ (I v.list.length W' ∨ ∃ k, k < v.list.length ∧ Ix (k + 1) W') := by
  have hFw := wideF
  have HB := hide hB
  have HI0 := hide h0
  obtain ⟨S, hS⟩ : ∃ S, S = v.list := ⟨_, rfl⟩
  rw [← hS] at hY
  rw [← hS]
  have P12 := hide (may12 v W hF hv)
  rw [callsIn_wide]
  unfold Vw.list at hS
  cases hm : v.may with
  | false =>
    rw [hm] at hS P12
    have HS : Hid (S = []) := hide (by simpa using hS)
    clear hB h0 hS hm
    go_enter Tryd.func40, Tryd.ntmps40
    go_wp2_with (
      first
      | (refine wpLoadA row26 (by rfl) (.tmp 1) (by rfl) p 0 (by rfl) (vwC v) (vwC_len hv) (unhide HB).range ?_
         refine Stp.go ?_))
    constructor
    go_wp2_with (
      first
      | (go_at_call 12
         refine (unhide P12).mono ?_
         rintro e V ⟨rfl, hk⟩
         replace HI0 := hide (hI _ _ _ (unhide HI0) (grown_of_kept hk))
         clear hk P12
         refine Stp.go ?_))
    constructor
    go_wp2_with fail
    refine bodyPost_ret (results_none rfl _ _ _) rfl ?_
    refine ⟨⟨_, rfl⟩, .inl ?_⟩
    rw [unhide HS]
    exact unhide HI0
  | true =>
    rw [hm] at hS P12
    have HS : Hid (S = memF 0 v.ms) := hide (by simpa using hS)
    clear hB h0 hS hm
    go_enter Tryd.func40, Tryd.ntmps40
    go_wp2_with (
      first
      | (refine wpLoadA row26 (by rfl) (.tmp 1) (by rfl) p 0 (by rfl) (vwC v) (vwC_len hv) (unhide HB).range ?_
         refine Stp.go ?_))
    constructor
    go_wp2_with (
      first
      | (go_at_call 12
         refine (unhide P12).mono ?_
         rintro e V ⟨rfl, hk⟩
         replace HI0 := hide (hI _ _ _ (unhide HI0) (grown_of_kept hk))
         replace HB := hide ((unhide HB).kept hk (by simp))
         clear hk P12
         refine Stp.go ?_))
    constructor
    go_wp2_with (
      first
      | (refine wpLoadA row24 (by rfl) (.tmp 8) (by rfl) p 3 (by rfl) (memsC v.ms) (by rw [memsC_len, hv]) (Vw.range (unhide HB)) ?_
         refine Stp.go ?_))
    constructor
    go_wp2_with fail
    rw [← wpIn_wide (n := n)]
    gi_loopw [10] (fun i w1 => ∃ j k : Nat, j ≤ 8 ∧ k ≤ S.length ∧ i = .int .i64 j ∧ Hid (memF j (v.ms.drop j) = S.drop k) ∧ Hid (I k w1)) (fun i _ => (8 - intOf i).toNat)
    case atStart => exact ⟨0, 0, by omega, by omega, rfl, by show memF _ _ = _; rw [unhide HS]; simp, HI0⟩
    case round =>
      clear HI0
      obtain ⟨j, k, hj8, hkS, rfl, HE, HI⟩ := hrel
      by_cases hlt : j < 8
      · obtain ⟨m, hm⟩ : ∃ m, v.ms[j]? = some m := ⟨_, List.getElem?_eq_getElem (by omega)⟩
        have hltI : (j : Int) < 8 := by omega
        have hE := unhide HE
        have hd : v.ms.drop j = m :: v.ms.drop (j + 1) := by
          obtain ⟨h1, h2⟩ := List.getElem?_eq_some_iff.1 hm
          rw [List.drop_eq_getElem_cons h1, h2]
        rw [hd, memF] at hE
        have HM := hide hm
        obtain ⟨mi, me⟩ := m
        cases mi with
        | false =>
          have HQ : Hid (memF (j + 1) (v.ms.drop (j + 1)) = S.drop k)   := hide (by simpa using hE)
          clear hE hd hm HE
          gi_wp2_with (
            first
            | (refine inIndex24 wideF (by rfl) (.tmp 9) (.tmp 10) (by rfl) (by rfl) j v.ms hv (false, me) (unhide HM) (by rfl) (by rfl) ?_
               refine Stp.go ?_))
          constructor
          gi_wp2_with (
            first
            | (refine inAllocW (memC (false, 0)) zero23 wideF (by rfl) (by rfl) (by rfl) ?_
               intro W5 q e5 B5 K5
               have HQB := hide B5
               have HQE := hide e5
               have HK5 := hide K5
               clear e5 B5 K5
               refine Stp.go ?_))
          constructor
          gi_wp2_with (
            first
            | (refine inStoreW row23 wideF (by rfl) (.tmp 4) (.tmp 13) (by rfl) (by rfl) (by rfl) q (memC (false, 0)) (memC (false, me)) rfl rfl (memC_one _) (by rfl) (by rfl) (unhide HQB) ?_
               intro W7 B7 K7
               have HB7 := hide B7
               have HK7 : Hid (Kept [] wr W7) := (unhide HK5).fresh K7 (fun i hi hl => by have := unhide HQE; simp at hi; omega)
               have d0 := fits_cell B7 0 _ rfl
               have d1 := fits_cell B7 1 _ rfl
               clear B7 K7 HQB HQE HK5
               refine Stp.go ?_))
          constructor
          gi_wp2_with fail
          go_roundw
          case rel => exact ⟨j + 1, k, by omega, by omega, by go_num, HQ, hide (hI _ _ _ (unhide HI) (grown_of_kept (unhide HK7)))⟩
          case measure => simp [intOf]; omega
        | true =>
          rw [if_pos rfl] at hE
          have hsk : S[k]? = some (j, me) := by
            have h9 := congrArg (fun l => l[0]?) hE
            simp only [List.getElem?_drop, Nat.add_zero] at h9
            exact h9.symm
          have HSK := hide hsk
          have HSL : Hid (k + 1 ≤ S.length) := (List.getElem?_eq_some_iff.1 hsk).1
          have HSD : Hid (memF (j + 1) (v.ms.drop (j + 1)) = S.drop (k + 1)) := by
            have h9 : S.drop (k + 1) = (S.drop k).drop 1 := by rw [List.drop_drop]
            show _ = _
            rw [h9, ← hE]
            rfl
          clear hE hd hm HE hsk
          gi_wp2_with (
            first
            | (refine inIndex24 wideF (by rfl) (.tmp 9) (.tmp 10) (by rfl) (by rfl) j v.ms hv (true, me) (unhide HM) (by rfl) (by rfl) ?_
               refine Stp.go ?_))
          constructor
          gi_wp2_with (
            first
            | (refine inAllocW (memC (false, 0)) zero23 wideF (by rfl) (by rfl) (by rfl) ?_
               intro W5 q e5 B5 K5
               have HQB := hide B5
               have HQE := hide e5
               have HK5 := hide K5
               clear e5 B5 K5
               refine Stp.go ?_))
          constructor
          gi_wp2_with (
            first
            | (refine inStoreW row23 wideF (by rfl) (.tmp 4) (.tmp 13) (by rfl) (by rfl) (by rfl) q (memC (false, 0)) (memC (true, me)) rfl rfl (memC_one _) (by rfl) (by rfl) (unhide HQB) ?_
               intro W7 B7 K7
               have HB7 := hide B7
               have HK7 : Hid (Kept [] wr W7) := (unhide HK5).fresh K7 (fun i hi hl => by have := unhide HQE; simp at hi; omega)
               have d0 := fits_cell B7 0 _ rfl
               have d1 := fits_cell B7 1 _ rfl
               clear B7 K7 HQB HQE HK5
               have hI7 := hI _ _ _ (unhide HI) (grown_of_kept (unhide HK7))
               obtain ⟨fn, tmps, assign, body, hy, hR⟩ := hY k (j, me) W7 (unhide HSK) hI7
               have hR' := hide hR
               clear hR hI7
               refine Stp.go ?_))
          constructor
          gi_wp2_with fail
          refine (unhide hR').mono ?_
          rintro e W8 (⟨rfl, hI8, hk8⟩ | ⟨rfl, hX8⟩)
          · have HI8 := hide hI8
            clear hI8 hk8 hR' hy
            gi_wp2
            go_roundw
            case rel => exact ⟨j + 1, k + 1, by omega, unhide HSL, by go_num, HSD, HI8⟩
            case measure => simp [intOf]; omega
          · have HX8 := hide hX8
            clear hX8 hR' hy
            gi_wp2
            refine bodyPost_ret (results_none rfl _ _ _) rfl ?_
            exact ⟨⟨_, rfl⟩, .inr ⟨k, unhide HSL, unhide HX8⟩⟩
      · gi_wp2_with fail
        go_end0
        have h9 := unhide HE
        rw [List.drop_of_length_le (by omega), memF] at h9
        have h8 := congrArg List.length h9
        rw [List.length_drop, List.length_nil] at h8
        refine ⟨⟨_, rfl⟩, .inl ?_⟩
        rw [show S.length = k by omega]
        exact unhide HI

end Go.Proofs.YtbpnnbbinhdoiaaDoor
