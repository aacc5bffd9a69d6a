/-
  PoolSteps.
-/
import Derived.Test.YtgnafbohikbpfaaTf
import Derived.Test.YtgnafbohikbpfaaSp
import Derived.BigQuiet
namespace Go.Proofs.Ytgnafbohikbpfaa
set_option maxRecDepth 100000
set_option linter.unusedSimpArgs false
open Go.RowKit

set_option maxHeartbeats 8000000 in
theorem steps_no (n leave : Int) (hn : ¬ (1 ≤ n ∧ n ≤ 16)) (ao : Option Addr) (cc : Nat) (X : List Se) (w : World) : Calls Try.prog 3 #[.int .i64 n, .slice ao X.length cc, .int .i64 leave] w fun e w' => e = .returned (.bool true) ∧ Kept [] w w' := by
  have HN := hide hn
  clear hn
  go_enter Try.func3, Try.ntmps3
  go_wp2_with (
    first
    | (go_at_call 7
       refine (new7_no _ _ (unhide HN)).mono ?_
       rintro e W9 ⟨rfl, q9⟩
       replace q9 := q9.symm
       subst q9
       refine Stp.go ?_))
  constructor
  go_wp2_with (
    first
    | (go_at_call 8
       refine (rnew_no _ _ (unhide HN)).mono ?_
       rintro e W9 ⟨rfl, q9⟩
       replace q9 := q9.symm
       subst q9
       refine Stp.go ?_))
  constructor
  go_wp2_with (
    first
    | (go_at_call 9
       refine (num9 _ _).mono ?_
       rintro e W9 ⟨rfl, q9⟩
       replace q9 := q9.symm
       subst q9
       refine Stp.go ?_))
  constructor
  go_wp2_with (
    first
    | (go_at_call 10
       refine (known10 _).mono ?_
       rintro e W99 ⟨rfl, K99⟩
       have HK1 := hide K99
       clear K99
       refine Stp.go ?_))
  constructor
  go_wp2_with fail
  go_ret
  exact ⟨rfl, unhide HK1⟩
set_option maxHeartbeats 8000000 in
theorem steps_yes (m : Nat) (leave : Int) (hm : 1 ≤ m ∧ m ≤ 16) (ao : Option Addr) (cc : Nat) (X : List Se) (w : World) (hX : RowS Se.C 104 w ao X) : Calls Try.prog 3 #[.int .i64 (m : Int), .slice ao X.length cc, .int .i64 leave] w fun e w' => e = .returned (.bool true) ∧ Kept [] w w' := by
  have HX := hide hX
  clear hX
  go_enter Try.func3, Try.ntmps3
  go_wp2_with (
    first
    | (go_at_call 7
       refine (on_new (w0 := w) m (Kept.refl _ _) hm).mono ?_
       rintro e W2 ⟨b, mb, rfl, h1, h2, o2, K2⟩
       have HON := hide o2
       clear h1 h2 o2 K2
       refine Stp.go ?_))
  constructor
  go_wp2_with (
    first
    | (go_at_call 8
       refine (ro_new (w0 := w) m (unhide HON).kept hm).mono ?_
       rintro e W3 ⟨r, g, rfl, h1, h2, o3, K3⟩
       have HT : Hid (Tw w W3 b mb r g (po0 m)) := ⟨(unhide HON).step0 K3, o3, ((unhide HON).apt h1 h2).symm⟩
       clear h1 h2 o3 K3 HON
       refine Stp.go ?_))
  constructor
  go_wp2_with (
    first
    | (go_at_call 9
       refine (num9 _ _).mono ?_
       rintro e W9 ⟨rfl, q9⟩
       replace q9 := q9.symm
       subst q9
       refine Stp.go ?_))
  constructor
  go_upto_block 0 with fail
  go_cut [7, 9, 10, 11] from 38 to 67 (fun pv rv iv ov wc => Hid (Kept [] w wc))
  case first =>
   as_aux_lemma =>
    go_wp2_with fail
    go_loopw [7, 9, 10] (fun xp xr i wr => ∃ (j : Nat) (b mb r g : Nat) (P : Po), j ≤ 200 ∧ xp = P0 b ∧ xr = P0 r ∧ i = .int .i64 j ∧ Hid (∀ i, (P.S i).pn ≤ j) ∧ Hid (Tw w wr b mb r g P)) (fun _ _ i _ => 200 - (intOf i).toNat)
    case atStart => exact ⟨0, b, mb, r, g, po0 m, by omega, rfl, rfl, rfl, fun _ => Nat.zero_le _, HT⟩
    case round =>
    clear HT
    obtain ⟨j, b, mb, r, g, P, hj, rfl, rfl, rfl, HP, HT⟩ := hrel
    by_cases hjn : j < X.length
    rotate_left
    · have hdn : decide ((j : Int) < (X.length : Int)) = false := by simp; omega
      go_wp2_with fail
      go_meet
      case rel => exact hide (unhide HT).on.kept
    have hjnI : (j : Int) < (X.length : Int) := by omega
    have hdn : decide ((j : Int) < (X.length : Int)) = true := by simpa using hjnI
    by_cases hlt : j < 200
    rotate_left
    · have hd : decide ((j : Int) < 200) = false := by simp; omega
      go_wp2_with fail
      go_meet
      case rel => exact hide (unhide HT).on.kept
    have hjI : (j : Int) < 200 := by omega
    have hd : decide ((j : Int) < 200) = true := by simpa using hjI
    obtain ⟨s, hs⟩ : ∃ s, X[j]? = some s := ⟨_, List.getElem?_eq_getElem hjn⟩
    have HSJ := hide hs
    obtain ⟨sc, hsc⟩ : ∃ c, c = s.C := ⟨_, rfl⟩
    have HSC := hide hsc.symm
    have HLC : Hid (sc.length = 104) := by show _ = _; rw [hsc, Se.len]
    have HDO := hide (do11 (unhide HT) s (fun i => Nat.le_trans (unhide HP i) (by omega)))
    rw [← hsc] at HDO
    clear hs hsc
    go_wp2_with (
      first
      | (refine wpIdx22 rfl (.tmp 51) (.tmp 52) rfl ao cc X j s rfl rfl ((unhide HX).kept (unhide HT).on.kept) (unhide HSJ) ?_
         intro g9 o9 HR9
         refine Stp.go ?_))
    constructor
    go_wp2_with (
      first
      | (refine wpLoadA row41 rfl (.tmp 53) rfl g9 o9 rfl sc (unhide HLC) (by have h9 := HR9; rw [show s.C = sc from unhide HSC] at h9; exact h9) ?_
         clear HR9
         refine Stp.go ?_))
    constructor
    go_wp2_with (
      first
      | (go_at_call 11
         refine (unhide HDO).mono ?_
         rintro e W9 ⟨b9, m9, g9, rfl, D9⟩
         have HT9 := hide D9.tw
         clear D9 HT
         refine Stp.go ?_))
    constructor
    go_wp2_with (
      first
      | (go_at_call 12
         refine (stands12 _ _ _ _ _ leave _ (unhide HT9)).mono ?_
         rintro e W10 ⟨rfl, K10⟩
         replace HT9 := hide ((unhide HT9).step0 K10)
         clear K10
         refine Stp.go ?_))
    constructor
    go_wp2_with fail
    go_roundw
    case rel => exact ⟨j + 1, b9, m9, r, g9, doP P s, by omega, rfl, rfl, by go_num, hide (doP_pn (unhide HP) s), HT9⟩
    case measure => simp [intOf]; omega
  case rest =>
   as_aux_lemma =>
    have HK := hcut
    clear HT hcut
    go_wp2_with (
      first
      | (go_at_call 10
         refine (known10 _).mono ?_
         rintro e W99 ⟨rfl, K99⟩
         have HK1 := hide ((unhide HK).trans K99)
         clear K99
         refine Stp.go ?_))
    constructor
    go_wp2_with fail
    go_ret
    exact ⟨rfl, unhide HK1⟩
theorem steps3 (n : Int) (ao : Option Addr) (cc : Nat) (X : List Se) (leave : Int) (w : World) (hX : RowS Se.C 104 w ao X) : Calls Try.prog 3 #[.int .i64 n, .slice ao X.length cc, .int .i64 leave] w fun e w' => e = .returned (.bool true) ∧ Kept [] w w' := by
  by_cases hn : 1 ≤ n ∧ n ≤ 16
  · have h1 := steps_yes n.toNat leave (by omega) ao cc X w hX
    rw [Int.toNat_of_nonneg (by omega)] at h1
    exact h1
  · exact steps_no n leave hn ao cc X w

end Go.Proofs.Ytgnafbohikbpfaa
