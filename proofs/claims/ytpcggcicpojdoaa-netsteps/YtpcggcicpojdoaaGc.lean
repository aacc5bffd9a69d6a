/-
  The walk of NetSteps.
-/
import Derived.Test.YtpcggcicpojdoaaGb
import Derived.Deep.CutBlock
namespace Go.Proofs.Ytpcggcicpojdoaa
open Go.RowKit

theorem Dn.from {W W' : World} {b mb : Nat} {v : Value} {N : Nn} {r : Nat} {b' mb' : Nat} {v' : Value} {N' : Nn} {lv' : Value} {R' : Nn} {B : Nat} (h : Dn W W' b mb v N r b' mb' v' N' lv' R') (hb : ∀ k ∈ r :: nX b mb v, B ≤ k) (hB : B ≤ W.heap.size) : ∀ k ∈ r :: nX b' mb' v', B ≤ k := by
  intro k hm
  simp only [nX, List.mem_cons, Option.mem_toList] at hm
  rcases hm with rfl | rfl | rfl | hm
  · exact hb k (by simp)
  · rcases h.fb with e | e
    · rw [e]; exact hb b (by simp [nX])
    · omega
  · rcases h.fm with e | e
    · rw [e]; exact hb mb (by simp [nX])
    · omega
  · rcases h.fv k hm with e | e
    · exact hb k (by simp [nX, e])
    · omega
/-- What NetSteps keeps along its steps. -/
structure Ks (w W : World) (i : Int) (b mb : Nat) (v : Value) (N : Nn) (r : Nat) (lv : Value) (R : Nn) : Prop where
  pw : Pw W b mb v N r lv R
  la : N.last ≤ i
  ge : ∀ k ∈ r :: nX b mb v, w.heap.size ≤ k
  k : Kept [] w W
theorem Ks.step {w W W' : World} {i : Int} {b mb : Nat} {v : Value} {N : Nn} {r : Nat} {lv : Value} {R : Nn} (h : Ks w W i b mb v N r lv R) (hk : Kept [] W W') : Ks w W' i b mb v N r lv R := ⟨h.pw.kept0 hk, h.la, h.ge, h.k.trans hk⟩
theorem Ks.do {w W W' : World} {i : Int} {b mb : Nat} {v : Value} {N : Nn} {r : Nat} {lv : Value} {R : Nn} {b' mb' : Nat} {v' : Value} {N' : Nn} {lv' : Value} {R' : Nn} (h : Ks w W i b mb v N r lv R) (hD : Dn W W' b mb v N r b' mb' v' N' lv' R') : Ks w W' (i + 1) b' mb' v' N' r lv' R' :=
  ⟨hD.pw, by have h1 := hD.last; have h2 := h.la; omega, hD.from h.ge h.k.size, h.k.fresh hD.k (fun k hm hl => by have := h.ge k hm; omega)⟩
theorem st_num (c : Int) (w : World) : Calls Try.prog 9 #[.int .i64 c] w fun e w' => e = .returned (.int .i64 c) ∧ w' = w := by
  go_enter Try.func9, Try.ntmps9
  go_wp2
  go_ret
  exact ⟨rfl, rfl⟩
set_option maxHeartbeats 4000000 in
set_option maxRecDepth 100000 in
theorem steps_no (nodes leave : Int) (ao : Option Addr) (m c : Nat) (X : List Stq) (w : World) (_ : Scq w w.heap.size ao m c X) (_ : m ≤ 1048576) (hkn : ∀ W, Calls Try.prog 10 #[] W fun e w' => e = .returned (.bool true) ∧ Kept [] W w') (hno : ¬(1 ≤ nodes ∧ nodes ≤ 8)) : Calls Try.prog 3 #[.int .i64 nodes, .slice ao m c, .int .i64 leave] w fun e w' => e = .returned (.bool true) ∧ Kept [] w w' := by
  have PK := hide hkn
  have HNO := hide hno
  clear hkn hno
  go_enter Try.func3, Try.ntmps3
  go_wp2_with (
    first
    | (go_at_call 7
       refine (new_no nodes _ (unhide HNO)).mono ?_
       rintro e w' ⟨rfl, hw9⟩
       obtain rfl := hw9.symm
       clear hw9
       refine Stp.go ?_))
  constructor
  go_wp2_with (
    first
    | (go_at_call 8
       refine (rnew_no nodes _ (unhide HNO)).mono ?_
       rintro e w' ⟨rfl, hw9⟩
       obtain rfl := hw9.symm
       clear hw9
       refine Stp.go ?_))
  constructor
  go_wp2_with (
    first
    | (go_at_call 9
       refine (st_num _ _).mono ?_
       rintro e w' ⟨rfl, hw9⟩
       obtain rfl := hw9.symm
       clear hw9
       refine Stp.go ?_))
  constructor
  go_wp2_with (
    first
    | (go_at_call 10
       refine (unhide PK _).mono ?_
       rintro e V9 ⟨rfl, hk⟩
       have HK9 := hide hk
       clear hk))
  go_ret
  exact ⟨rfl, unhide HK9⟩
set_option maxHeartbeats 8000000 in
set_option maxRecDepth 100000 in
theorem steps_yes (nodes leave : Int) (ao : Option Addr) (m c : Nat) (X : List Stq) (w : World) (hS : Scq w w.heap.size ao m c X) (hm : m ≤ 1048576) (hkn : ∀ W, Calls Try.prog 10 #[] W fun e w' => e = .returned (.bool true) ∧ Kept [] W w') (hyes : 1 ≤ nodes ∧ nodes ≤ 8) : Calls Try.prog 3 #[.int .i64 nodes, .slice ao m c, .int .i64 leave] w fun e w' => e = .returned (.bool true) ∧ Kept [] w w' := by
  have PK := hide hkn
  have HNO := hide hyes
  have HS := hide hS
  clear hkn hyes hS
  go_enter Try.func3, Try.ntmps3
  go_wp2_with (
    first
    | (go_at_call 7
       refine (new_yes nodes _ (unhide HNO)).mono ?_
       rintro e V1 ⟨b, mb, rfl, g1, g2, hn, hk⟩
       have HN := hide hn
       have HG := hide (And.intro g1 g2)
       have HK := hide hk
       clear g1 g2 hn hk
       refine Stp.go ?_))
  constructor
  go_wp2_with (
    first
    | (go_at_call 8
       refine (rnew_yes nodes _ (unhide HNO)).mono ?_
       rintro e V2 ⟨r, rfl, g1, hr, hk⟩
       have KS : Hid (Ks w V2 0 b mb (.slice none 0 0) (newN nodes) r (.slice none 0 0) (newN nodes)) := ⟨⟨(unhide HN).kept0 hk, hr, rfl⟩, Int.le_refl _, (fun k hm => by
         have h1 := unhide HG
         have h2 := (unhide HK).size
         simp only [nX, List.mem_cons, Value.ownBlock, Option.toList_none, List.not_mem_nil, or_false] at hm
         rcases hm with rfl | rfl | rfl <;> omega), (unhide HK).trans hk⟩
       clear g1 hr hk HN HG HK
       refine Stp.go ?_))
  constructor
  go_wp2_with (
    first
    | (go_at_call 11
       refine (much11 w.heap.size ao m c X _ ((unhide HS).kept (unhide KS).k (by simp)) (by omega)).mono ?_
       rintro e V3 ⟨rm, rfl, hw9⟩
       obtain rfl := hw9.symm
       clear hw9
       refine Stp.go ?_))
  constructor
  cases rm with
  | true =>
    go_wp2_with (
      first
      | (go_at_call 10
         refine (unhide PK _).mono ?_
         rintro e V9 ⟨rfl, hk⟩
         replace KS := hide ((unhide KS).step hk)
         clear hk))
    go_ret
    exact ⟨rfl, (unhide KS).k⟩
  | false =>
    go_wp2_with (
      first
      | (go_at_call 9
         refine (st_num _ _).mono ?_
         rintro e w' ⟨rfl, hw9⟩
         obtain rfl := hw9.symm
         clear hw9
         refine Stp.go ?_))
    constructor
    go_upto_block 0 with fail
    go_cut [7, 9, 10] from 41 to 75 (fun xv pv i wc => ∃ b mb v N r lv R, P0 b = xv ∧ P0 r = pv ∧ Hid (Ks w wc 100 b mb v N r lv R))
    case first =>
      go_wp2_with fail
      go_loopw [7, 9, 10] (fun xv pv i wr => ∃ (k b mb : Nat) (v : Value) (N : Nn) (r : Nat) (lv : Value) (R : Nn), k ≤ m ∧ k ≤ 100 ∧ xv = P0 b ∧ pv = P0 r ∧ i = .int .i64 k ∧ Hid (Ks w wr k b mb v N r lv R)) (fun _ _ i _ => 100 - (intOf i).toNat)
      case atStart => exact ⟨0, b, mb, _, _, r, _, _, by omega, by omega, rfl, rfl, rfl, KS⟩
      case round =>
        clear KS
        obtain ⟨k, b, mb, v, N, r, lv, R, hk, hk4, rfl, rfl, rfl, KS⟩ := hrel
        by_cases hlt : k < m
        · by_cases h100 : k < 100
          · obtain ⟨x, hx⟩ : ∃ x, X[k]? = some x := ⟨_, List.getElem?_eq_getElem (by rw [(unhide HS).len]; exact hlt)⟩
            have hS3 := (unhide HS).kept (unhide KS).k (by simp)
            obtain ⟨h, off, rfl, hg, hl⟩ := hS3.lies (by intro e; rw [e] at hx; simp at hx)
            have HR := hide (hl k x hx)
            have HX := hide (hS3.ok x (List.mem_of_getElem? hx))
            have hltI : (k : Int) < m := by omega
            have h100I : (k : Int) < 100 := by omega
            have P12 := hide (do12 x b mb v N r lv R wr (unhide KS).pw (by have h9 := (unhide KS).la; omega) w.heap.size (unhide HX) (unhide KS).k.size (unhide KS).ge)
            clear hl hS3 hg hx HX
            go_wp2_with (
              first
              | (refine wpLoadA row36 (by rfl) (.tmp 56) (by rfl) h (off + k * 5) (by kernel_rfl) x.C rfl (unhide HR) ?_
                 refine Stp.go ?_))
            constructor
            go_wp2_with fail
            refine (unhide P12).mono ?_
            rintro e V5 ⟨b', mb', v', N', lv', R', rfl, hD⟩
            replace KS := hide ((unhide KS).do hD)
            clear hD P12 HR
            by_cases h4 : (k : Int) % 4 = 0
            · have h4a : Int.tmod (k : Int) 4 = 0 := by rw [Int.tmod_eq_emod_of_nonneg (by omega)]; exact h4
              go_wp2_with (
                first
                | (go_at_call 13
                   refine (stands13 b' mb' v' N' r lv' R' leave _ (unhide KS).pw (by have h9 := (unhide KS).la; omega)).mono ?_
                   rintro e V8 ⟨rfl, hk⟩
                   replace KS := hide ((unhide KS).step hk)
                   clear hk
                   refine Stp.go ?_))
              constructor
              go_wp2_with fail
              go_roundw
              case rel => exact ⟨k + 1, b', mb', v', N', r, lv', R', by omega, by omega, rfl, rfl, by go_num, KS⟩
              case measure => simp [intOf]; omega
            · have h4a : ¬ Int.tmod (k : Int) 4 = 0 := by rw [Int.tmod_eq_emod_of_nonneg (by omega)]; exact h4
              have h4b : (Int.tmod (k : Int) 4 == 0) = false := by simp [h4a]
              go_wp2_with fail
              go_roundw
              case rel => exact ⟨k + 1, b', mb', v', N', r, lv', R', by omega, by omega, rfl, rfl, by go_num, KS⟩
              case measure => simp [intOf]; omega
          · have h100I : ¬ (k : Int) < 100 := by omega
            go_wp2_with fail
            go_meet
            case rel => exact ⟨b, mb, v, N, r, lv, R, rfl, rfl, hide ⟨(unhide KS).pw, by have h9 := (unhide KS).la; omega, (unhide KS).ge, (unhide KS).k⟩⟩
        · have hltI : ¬ (k : Int) < m := by omega
          go_wp2_with fail
          go_meet
          case rel => exact ⟨b, mb, v, N, r, lv, R, rfl, rfl, hide ⟨(unhide KS).pw, by have h9 := (unhide KS).la; omega, (unhide KS).ge, (unhide KS).k⟩⟩
    case rest =>
      clear KS
      obtain ⟨b, mb, v, N, r, lv, R, rfl, rfl, KS⟩ := hcut
      go_wp2_with (
        first
        | (go_at_call 13
           refine (stands13 b mb v N r lv R leave _ (unhide KS).pw (by have h9 := (unhide KS).la; omega)).mono ?_
           rintro e V8 ⟨rfl, hk⟩
           replace KS := hide ((unhide KS).step hk)
           clear hk
           refine Stp.go ?_))
      constructor
      go_wp2_with (
        first
        | (go_at_call 10
           refine (unhide PK _).mono ?_
           rintro e V9 ⟨rfl, hk⟩
           replace KS := hide ((unhide KS).step hk)
           clear hk))
      go_ret
      exact ⟨rfl, (unhide KS).k⟩
theorem steps3 (nodes leave : Int) (ao : Option Addr) (m c : Nat) (X : List Stq) (w : World) (hS : Scq w w.heap.size ao m c X) (hm : m ≤ 1048576) (hkn : ∀ W, Calls Try.prog 10 #[] W fun e w' => e = .returned (.bool true) ∧ Kept [] W w') : Calls Try.prog 3 #[.int .i64 nodes, .slice ao m c, .int .i64 leave] w fun e w' => e = .returned (.bool true) ∧ Kept [] w w' := by
  by_cases h : 1 ≤ nodes ∧ nodes ≤ 8
  · exact steps_yes nodes leave ao m c X w hS hm hkn h
  · exact steps_no nodes leave ao m c X w hS hm hkn h

end Go.Proofs.Ytpcggcicpojdoaa
