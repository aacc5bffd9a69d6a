/-
  PoolClock.
-/
import Derived.Test.YtgnafbohikbpfaaSu
import Derived.Test.YtgnafbohikbpfaaSp
import Derived.BigQuiet
namespace Go.Proofs.Ytgnafbohikbpfaa
set_option maxRecDepth 100000
set_option linter.unusedSimpArgs false
open Go.RowKit

set_option maxHeartbeats 8000000 in
theorem clock_no (n : Int) (hn : ¬ (1 ≤ n ∧ n ≤ 16)) (ao : Option Addr) (cc : Nat) (X : List Se) (w : World) : Calls Try.prog 5 #[.int .i64 n, .slice ao X.length cc] w fun e w' => e = .returned (.bool true) ∧ Kept [] w w' := by
  have HN := hide hn
  clear hn
  go_enter Try.func5, Try.ntmps5
  go_wp2_with (
    first
    | (go_at_call 10
       refine (known10 _).mono ?_
       rintro e W1 ⟨rfl, K1⟩
       have HK1 := hide K1
       clear K1
       refine Stp.go ?_))
  constructor
  go_wp2_with (
    first
    | (go_at_call 7
       refine (new7_no _ _ (unhide HN)).mono ?_
       rintro e W9 ⟨rfl, q9⟩
       replace q9 := q9.symm
       subst q9
       refine Stp.go ?_))
  constructor
  go_wp2_with (
    first
    | (go_at_call 8
       refine (rnew_no _ _ (unhide HN)).mono ?_
       rintro e W9 ⟨rfl, q9⟩
       replace q9 := q9.symm
       subst q9
       refine Stp.go ?_))
  constructor
  go_wp2_with (
    first
    | (go_at_call 9
       refine (num9 _ _).mono ?_
       rintro e W9 ⟨rfl, q9⟩
       replace q9 := q9.symm
       subst q9
       refine Stp.go ?_))
  constructor
  go_wp2_with (
    first
    | (go_at_call 9
       refine (num9 _ _).mono ?_
       rintro e W9 ⟨rfl, q9⟩
       replace q9 := q9.symm
       subst q9
       refine Stp.go ?_))
  constructor
  go_wp2_with fail
  go_ret
  exact ⟨rfl, unhide HK1⟩
set_option maxHeartbeats 8000000 in
theorem clock_yes (m : Nat) (hm : 1 ≤ m ∧ m ≤ 16) (ao : Option Addr) (cc : Nat) (X : List Se) (w : World) (hX : RowS Se.C 104 w ao X) : Calls Try.prog 5 #[.int .i64 (m : Int), .slice ao X.length cc] w fun e w' => e = .returned (.bool true) ∧ Kept [] w w' := by
  have HX := hide hX
  clear hX
  go_enter Try.func5, Try.ntmps5
  go_wp2_with (
    first
    | (go_at_call 10
       refine (known10 _).mono ?_
       rintro e W1 ⟨rfl, K1⟩
       have HK1 := hide K1
       clear K1
       refine Stp.go ?_))
  constructor
  go_wp2_with (
    first
    | (go_at_call 7
       refine (on_new (w0 := w) m (unhide HK1) hm).mono ?_
       rintro e W2 ⟨b, mb, rfl, h1, h2, o2, K2⟩
       have HON := hide o2
       clear h1 h2 o2 K2 HK1
       refine Stp.go ?_))
  constructor
  go_wp2_with (
    first
    | (go_at_call 8
       refine (ro_new (w0 := w) m (unhide HON).kept hm).mono ?_
       rintro e W3 ⟨r, g, rfl, h1, h2, o3, K3⟩
       have HT : Hid (Tw w W3 b mb r g (po0 m)) := ⟨(unhide HON).step0 K3, o3, ((unhide HON).apt h1 h2).symm⟩
       clear h1 h2 o3 K3 HON
       refine Stp.go ?_))
  constructor
  go_wp2_with (
    first
    | (go_at_call 9
       refine (num9 _ _).mono ?_
       rintro e W9 ⟨rfl, q9⟩
       replace q9 := q9.symm
       subst q9
       refine Stp.go ?_))
  constructor
  go_upto_block 0 with fail
  go_cut [5, 7, 8, 9] from 48 to 70 (fun pv rv iv ov wc => ∃ b mb P, pv = P0 b ∧ Hid (On w wc b mb P))
  case first =>
   as_aux_lemma =>
    go_wp2_with fail
    go_loopw [5, 7, 8] (fun xp xr i wr => ∃ (j : Nat) (b mb r g : Nat) (P : Po), j ≤ 200 ∧ xp = P0 b ∧ xr = P0 r ∧ i = .int .i64 j ∧ Hid (∀ i, (P.S i).pn ≤ j) ∧ Hid (Tw w wr b mb r g P)) (fun _ _ i _ => 200 - (intOf i).toNat)
    case atStart => exact ⟨0, b, mb, r, g, po0 m, by omega, rfl, rfl, rfl, fun _ => Nat.zero_le _, HT⟩
    case round =>
    clear HT
    obtain ⟨j, b, mb, r, g, P, hj, rfl, rfl, rfl, HP, HT⟩ := hrel
    by_cases hjn : j < X.length
    rotate_left
    · have hdn : decide ((j : Int) < (X.length : Int)) = false := by simp; omega
      go_wp2_with fail
      go_meet
      case rel => exact ⟨b, mb, P, rfl, hide (unhide HT).on⟩
    have hjnI : (j : Int) < (X.length : Int) := by omega
    have hdn : decide ((j : Int) < (X.length : Int)) = true := by simpa using hjnI
    by_cases hlt : j < 200
    rotate_left
    · have hd : decide ((j : Int) < 200) = false := by simp; omega
      go_wp2_with fail
      go_meet
      case rel => exact ⟨b, mb, P, rfl, hide (unhide HT).on⟩
    have hjI : (j : Int) < 200 := by omega
    have hd : decide ((j : Int) < 200) = true := by simpa using hjI
    obtain ⟨s, hs⟩ : ∃ s, X[j]? = some s := ⟨_, List.getElem?_eq_getElem hjn⟩
    have HSJ := hide hs
    obtain ⟨sc, hsc⟩ : ∃ c, c = s.C := ⟨_, rfl⟩
    have HSC := hide hsc.symm
    have HLC : Hid (sc.length = 104) := by show _ = _; rw [hsc, Se.len]
    have HDO := hide (do11 (unhide HT) s (fun i => Nat.le_trans (unhide HP i) (by omega)))
    rw [← hsc] at HDO
    clear hs hsc
    go_wp2_with (
      first
      | (refine wpIdx22 rfl (.tmp 61) (.tmp 62) rfl ao cc X j s rfl rfl ((unhide HX).kept (unhide HT).on.kept) (unhide HSJ) ?_
         intro g9 o9 HR9
         refine Stp.go ?_))
    constructor
    go_wp2_with (
      first
      | (refine wpLoadA row41 rfl (.tmp 63) rfl g9 o9 rfl sc (unhide HLC) (by have h9 := HR9; rw [show s.C = sc from unhide HSC] at h9; exact h9) ?_
         clear HR9
         refine Stp.go ?_))
    constructor
    go_wp2_with (
      first
      | (go_at_call 11
         refine (unhide HDO).mono ?_
         rintro e W9 ⟨b9, m9, g9, rfl, D9⟩
         have HT9 := hide D9.tw
         clear D9 HT
         refine Stp.go ?_))
    constructor
    go_wp2_with fail
    go_roundw
    case rel => exact ⟨j + 1, b9, m9, r, g9, doP P s, by omega, rfl, rfl, by go_num, hide (doP_pn (unhide HP) s), HT9⟩
    case measure => simp [intOf]; omega
  case rest =>
   as_aux_lemma =>
    obtain ⟨b, mb, P, rfl, HON⟩ := hcut
    clear HT
    go_upto_block 2 with fail
    go_cut [10, 11, 12, 13] from 71 to 91 (fun xf xn xq xo wc => ∃ v, v = xf ∧ Hid (Ck w wc b mb P v (frP P 16)))
    case first =>
     as_aux_lemma =>
      go_wp2_with fail
      go_loopw [10, 11] (fun xf xn wr => ∃ (v : Value) (n : Nat), v = xf ∧ n ≤ 16 ∧ xn = .int .i64 n ∧ Hid (Ck w wr b mb P v (frP P n))) (fun _ xn _ => 16 - (intOf xn).toNat)
      case atStart => exact ⟨_, 0, rfl, by omega, rfl, hide ⟨unhide HON, Rw.nil _, fun k hk => by cases hk⟩⟩
      case round =>
        clear HON
        obtain ⟨xf, n, rfl, hn, rfl, HK⟩ := hrel
        by_cases hn16 : n < 16
        · have hnI : (n : Int) < 16 := by omega
          have hd : decide ((n : Int) < 16) = true := by simpa using hnI
          obtain ⟨F, hF⟩ : ∃ F, F = frP P n := ⟨_, rfl⟩
          rw [← hF] at HK
          have HFL : Hid (F.length ≤ 16) := by show _ ≤ _; rw [hF]; exact Nat.le_trans (frP_len16 P n) hn
          have HF := hide hF
          obtain ⟨fc, hfc⟩ : ∃ c, c = (lookP P (n : Int)).1.C := ⟨_, rfl⟩
          have HLF : Hid (fc.length = 102) := by show _ = _; rw [hfc, Fr.len]
          have HOF : Hid (∀ v ∈ fc, v.oneCell' = true) := by rw [hfc]; exact Fr.one _
          obtain ⟨zc, hzc⟩ : ∃ c, c = fr0.C := ⟨_, rfl⟩
          have HLZ : Hid (zc.length = 102) := by show _ = _; rw [hzc, Fr.len]
          have HZ39 : Hid (∀ w : World, (Instr.alloc 39 true (.tuple #[])).run Try.prog w = .ok (P0 w.heap.size) (w.alloc (.cells zc.toArray 39))) := by rw [hzc]; exact zero39
          have P15 := hide (on_look (unhide HK).on (n : Int))
          rw [← hfc] at P15
          clear hF hfc hzc
          cases hl : (lookP P (n : Int)).2 with
          | false =>
            have HNO : Hid (freeB P n = false) := by show _ = _; unfold freeB; rw [hl]; rfl
            rw [hl] at P15
            clear hl
            go_wp2_with (
              first
              | (go_at_call 15
                 refine (unhide P15).mono ?_
                 rintro e W4 ⟨rfl, K4⟩
                 replace HK := hide ((unhide HK).step0 K4)
                 clear K4 P15
                 refine Stp.go ?_))
            constructor
            go_wp2_with (
              first
              | (refine wpNew row39 zc (unhide HLZ) (unhide HZ39) 12 rfl rfl rfl (.tmp 79) rfl rfl rfl fc (unhide HLF) (unhide HOF) (by kernel_rfl) (by kernel_rfl) ?_
                 intro W5 q5 e5 B5 K5
                 replace HK := hide ((unhide HK).step0 K5)
                 clear e5 B5 K5
                 refine Stp.go ?_))
            constructor
            go_wp2_with fail
            go_roundw
            case rel => exact ⟨_, n + 1, rfl, by omega, by go_num, hide (by rw [frP_no (unhide HNO)]; rw [show F = frP P n from unhide HF] at HK; exact unhide HK)⟩
            case measure => simp [intOf]; omega
          | true =>
            rw [hl] at P15
            obtain ⟨z, hz⟩ : ∃ z : Nat, pinsP P (n : Int) = z := ⟨_, rfl⟩
            have HPN := hide hz
            by_cases h0 : z = 0
            · have HYES : Hid (freeB P n = true) := by show _ = _; unfold freeB; rw [hl, hz, h0]; rfl
              subst h0
              have d0 : decide (((0 : Nat) : Int) = 0) = true := by decide
              have d1 : (((0 : Nat) : Int) == 0) = true := by decide
              clear hl hz
              go_wp2_with (
                first
                | (go_at_call 15
                   refine (unhide P15).mono ?_
                   rintro e W4 ⟨rfl, K4⟩
                   replace HK := hide ((unhide HK).step0 K4)
                   clear K4 P15
                   refine Stp.go ?_))
              constructor
              go_wp2_with (
                first
                | (refine wpNew row39 zc (unhide HLZ) (unhide HZ39) 12 rfl rfl rfl (.tmp 79) rfl rfl rfl fc (unhide HLF) (unhide HOF) (by kernel_rfl) (by kernel_rfl) ?_
                   intro W5 q5 e5 B5 K5
                   replace HK := hide ((unhide HK).step0 K5)
                   clear e5 B5 K5
                   refine Stp.go ?_))
              constructor
              go_wp2_with (
                first
                | (go_at_call 16
                   refine (on_pins (unhide HK).on (n : Int)).mono ?_
                   rw [unhide HPN]
                   rintro e W6 ⟨rfl, K6⟩
                   replace HK := hide ((unhide HK).step0 K6)
                   clear K6
                   refine Stp.go ?_))
              constructor
              go_wp2_with (
                first
                | (refine wpBs48 rfl (.tmp 89) rfl (n : Int) rfl ?_
                   intro W7 g7 e7 B7 K7
                   have HB7 := hide B7
                   replace HK := hide ((unhide HK).step0 K7)
                   clear e7 B7 K7
                   refine Stp.go ?_))
              constructor
              go_wp2_with (
                first
                | (refine wpAppR el48 rfl (.tmp 88) (.tmp 90) rfl xf F.length (inC F) rfl (unhide HK).row (.slice (some ⟨g7, 0, none⟩) 1 1) 1 (inC [(n : Int)]) rfl (Rw.made (unhide HB7) rfl (max1000 (by omega))) (inC_one _) (by have := unhide HFL; omega) (max1000 (by have := unhide HFL; omega)) ?_
                   intro v8 W8 h1 h2 h3 h4
                   have HK8 : Hid (Ck w W8 b mb P v8 (F ++ [(n : Int)])) := (unhide HK).app (by show Rw _ 3 1 _ _ _; rw [List.length_append, inC_app]; exact h1) h2 h3
                   clear h1 h2 h3 h4 HB7 HK
                   refine Stp.go ?_))
              constructor
              go_wp2_with fail
              go_roundw
              case rel => exact ⟨_, n + 1, rfl, by omega, by go_num, hide (by rw [frP_yes (unhide HYES)]; rw [show F = frP P n from unhide HF] at HK8; exact unhide HK8)⟩
              case measure => simp [intOf]; omega
            · have HNO : Hid (freeB P n = false) := by show _ = _; unfold freeB; rw [hl, hz]; simpa using h0
              have d0 : decide ((z : Int) = 0) = false := by simpa using h0
              have d1 : ((z : Int) == 0) = false := by simpa using h0
              clear hl hz h0
              go_wp2_with (
                first
                | (go_at_call 15
                   refine (unhide P15).mono ?_
                   rintro e W4 ⟨rfl, K4⟩
                   replace HK := hide ((unhide HK).step0 K4)
                   clear K4 P15
                   refine Stp.go ?_))
              constructor
              go_wp2_with (
                first
                | (refine wpNew row39 zc (unhide HLZ) (unhide HZ39) 12 rfl rfl rfl (.tmp 79) rfl rfl rfl fc (unhide HLF) (unhide HOF) (by kernel_rfl) (by kernel_rfl) ?_
                   intro W5 q5 e5 B5 K5
                   replace HK := hide ((unhide HK).step0 K5)
                   clear e5 B5 K5
                   refine Stp.go ?_))
              constructor
              go_wp2_with (
                first
                | (go_at_call 16
                   refine (on_pins (unhide HK).on (n : Int)).mono ?_
                   rw [unhide HPN]
                   rintro e W6 ⟨rfl, K6⟩
                   replace HK := hide ((unhide HK).step0 K6)
                   clear K6
                   refine Stp.go ?_))
              constructor
              go_wp2_with fail
              go_roundw
              case rel => exact ⟨_, n + 1, rfl, by omega, by go_num, hide (by rw [frP_no (unhide HNO)]; rw [show F = frP P n from unhide HF] at HK; exact unhide HK)⟩
              case measure => simp [intOf]; omega
        · obtain rfl : n = 16 := by omega
          have hd : decide (((16 : Nat) : Int) < 16) = false := by decide
          go_wp2_with fail
          go_meet
          case rel => exact ⟨_, rfl, HK⟩
    case rest =>
     as_aux_lemma =>
      clear HON
      obtain ⟨xf, rfl, HK⟩ := hcut
      obtain ⟨F, hF⟩ : ∃ F, F = frP P 16 := ⟨_, rfl⟩
      rw [← hF] at HK
      have hok := (unhide HK).on.ok
      have HOK := hide hok
      have HLN : Hid (F.length = cntF P.ct P.m) := by show _ = _; rw [hF]; exact frP_len hok
      have hl16 : F.length ≤ 16 := by rw [hF]; exact frP_len16 P 16
      have HMEM : Hid (∀ (i : Nat) (x : Int), F[i]? = some x → ∃ p : Nat, x = (p : Int) ∧ p < 16 ∧ freeB P p = true) := by rw [hF]; exact fun i x hx => frP_mem (List.mem_of_getElem? hx)
      obtain ⟨fa, fcap, rfl, _, _⟩ := (unhide HK).row.sl
      clear hok hF
      by_cases h0 : F.length = 0
      · have d0 : decide ((F.length : Int) = 0) = true := decide_eq_true (by omega)
        have d1 : ((F.length : Int) == 0) = true := by rw [beq_iff_eq]; omega
        have HV : Hid (P.vic.2 = (0, false)) := hide (vic_none P (no_cd (unhide HOK) (by rw [← unhide HLN]; exact h0)))
        clear h0
        go_wp2_with (
          first
          | (go_at_call 17
             refine (on_vicV (unhide HK).on (unhide HV)).mono ?_
             rintro e W8 ⟨m8, rfl, o8, k8, f8⟩
             replace HK := hide ((unhide HK).call o8 k8)
             clear o8 k8 f8
             refine Stp.go ?_))
        constructor
        go_wp2_with fail
        go_ret
        exact ⟨rfl, (unhide HK).on.kept⟩
      · have d0 : decide ((F.length : Int) = 0) = false := decide_eq_false (by omega)
        have d1 : ((F.length : Int) == 0) = false := beq_eq_false_iff_ne.2 (by omega)
        have hNp : 0 < F.length := by omega
        clear h0
        go_upto_block 4 with fail
        go_cut [16] from 102 to 109 (fun xi wc => ∃ (mb3 : Nat) (Q : Po), Hid (∃ T, Hd P Q T ∧ F.length ≤ cntF P.ct T) ∧ Hid (Ck w wc b mb3 Q (.slice fa F.length fcap) F))
        case first =>
         as_aux_lemma =>
          go_wp2_with fail
          go_loopw [16] (fun xi wr => ∃ (i mb3 : Nat) (Q : Po), i ≤ F.length ∧ xi = .int .i64 i ∧ Hid (∃ T, Hd P Q T ∧ i ≤ cntF P.ct T) ∧ Hid (Ck w wr b mb3 Q (.slice fa F.length fcap) F)) (fun xi _ => F.length - (intOf xi).toNat)
          case atStart => exact ⟨0, mb, P, by omega, rfl, hide ⟨0, Hd.start P (unhide HOK).h, Nat.zero_le _⟩, HK⟩
          case round =>
            clear HK
            obtain ⟨i, mb3, Q, hi, rfl, HH, HK⟩ := hrel
            by_cases hlt : i < F.length
            · have hiI : decide ((i : Int) < (F.length : Int)) = true := by simpa using hlt
              obtain ⟨T, hd, hc⟩ := unhide HH
              obtain ⟨T', hv, hd', hc'⟩ := hd.one (by rw [← unhide HLN]; exact hNp) hc
              obtain ⟨vp, hvp⟩ : ∃ p, Q.vic.2.1 = p := ⟨_, rfl⟩
              have HV : Hid (Q.vic.2 = (vp, true)) := Prod.ext hvp hv
              have HH' : Hid (∃ T, Hd P Q.vic.1 T ∧ i + 1 ≤ cntF P.ct T) := ⟨T', hd', hc'⟩
              clear hd hc hv hd' hc' hvp
              go_wp2_with (
                first
                | (go_at_call 17
                   refine (on_vicV (unhide HK).on (unhide HV)).mono ?_
                   rintro e W8 ⟨m8, rfl, o8, k8, f8⟩
                   replace HK := hide ((unhide HK).call o8 k8)
                   clear o8 k8 f8
                   refine Stp.go ?_))
              constructor
              go_wp2_with fail
              go_roundw
              case rel => exact ⟨i + 1, m8, Q.vic.1, by omega, by go_num, HH', HK⟩
              case measure => simp [intOf]; omega
            · obtain rfl : i = F.length := by omega
              have hdl : decide ((F.length : Int) < (F.length : Int)) = false := by simp
              go_wp2_with fail
              go_meet
              case rel => exact ⟨mb3, Q, HH, HK⟩
        case rest =>
         as_aux_lemma =>
          clear HK
          obtain ⟨mb3, Q, HH, HK⟩ := hcut
          obtain ⟨T1, hd1, hc1⟩ := unhide HH
          have ha1 := hd1.all (unhide HOK).h (by rw [← unhide HLN]; exact hc1)
          have HD1 := hide hd1
          have HA1 := hide ha1
          clear hd1 hc1 ha1 HH
          go_wp2_with (
            first
            | (refine wpAllocW (cmC (fun _ => 0)) zero54 17 rfl rfl rfl ?_
               intro W9 cb e9 B9 K9
               have HC : Hid (Cm w W9 b mb3 Q (.slice fa F.length fcap) F cb (fun _ => 0)) := ⟨(unhide HK).step0 K9, B9, by show _ ≤ _; rw [e9]; exact (unhide HK).on.kept.size⟩
               clear e9 B9 K9 HK
               refine Stp.go ?_))
          constructor
          go_upto_block 6 with fail
          go_cut [18, 19, 20] from 110 to 136 (fun xi xv xo wc => ∃ (mb4 : Nat) (Q4 : Po) (f : Nat → Nat), Hid (∃ T, Hd P Q4 T ∧ AllC P Q4 ∧ cntF P.ct T = cntF P.ct T1 + 2 * F.length ∧ (∀ p : Nat, f p + cntF (P.cp (p : Int)) T1 = cntF (P.cp (p : Int)) T) ∧ ∀ p, f p ≤ 2 * F.length) ∧ Hid (Cm w wc b mb4 Q4 (.slice fa F.length fcap) F cb f))
          case first =>
           as_aux_lemma =>
            go_wp2_with fail
            go_loopw [18] (fun xi wr => ∃ (i mb4 : Nat) (Q4 : Po) (f : Nat → Nat), i ≤ 2 * F.length ∧ xi = .int .i64 i ∧ Hid (∃ T, Hd P Q4 T ∧ AllC P Q4 ∧ cntF P.ct T = cntF P.ct T1 + i ∧ (∀ p : Nat, f p + cntF (P.cp (p : Int)) T1 = cntF (P.cp (p : Int)) T) ∧ ∀ p, f p ≤ i) ∧ Hid (Cm w wr b mb4 Q4 (.slice fa F.length fcap) F cb f)) (fun xi _ => 2 * F.length - (intOf xi).toNat)
            case atStart => exact ⟨0, mb3, Q, _, by omega, rfl, hide ⟨T1, unhide HD1, unhide HA1, rfl, fun _ => Nat.zero_add _, fun _ => Nat.le_refl _⟩, HC⟩
            case round =>
              clear HC
              obtain ⟨i, mb4, Q4, f, hi, rfl, HH, HC⟩ := hrel
              by_cases hlt : i < 2 * F.length
              · have hiI : decide ((i : Int) < 2 * (F.length : Int)) = true := by simp; omega
                obtain ⟨T, hd, ha, hc, hf, hfi⟩ := unhide HH
                obtain ⟨T', hv, hd', ha', hc', hp', j, hj, hcd, hpg⟩ := hd.next (unhide HOK).h (by rw [← unhide HLN]; exact hNp) ha
                have hb2 := (unhide HOK).pg j ⟨hj, ((cd_iff P j).1 hcd).1⟩
                obtain ⟨vp, hvp⟩ : ∃ p : Nat, Q4.vic.2.1 = (p : Int) := ⟨(P.S j).f.pg.toNat, by rw [hpg, Int.toNat_of_nonneg hb2.1]⟩
                have hv16 : vp < 16 := by omega
                have HV : Hid (Q4.vic.2 = ((vp : Int), true)) := Prod.ext hvp hv
                have HH' : Hid (∃ T, Hd P Q4.vic.1 T ∧ AllC P Q4.vic.1 ∧ cntF P.ct T = cntF P.ct T1 + (i + 1) ∧ (∀ p : Nat, upd f vp (f vp + 1) p + cntF (P.cp (p : Int)) T1 = cntF (P.cp (p : Int)) T) ∧ ∀ p, upd f vp (f vp + 1) p ≤ i + 1) := by
                  refine ⟨T', hd', ha', by rw [hc', hc]; omega, fun p => ?_, fun p => ?_⟩
                  · have h9 := hf p
                    rw [hp', hvp]
                    by_cases e : p = vp
                    · rw [e, upd_same, if_pos rfl]; rw [e] at h9; omega
                    · rw [upd_ne _ _ e, if_neg (by omega)]; omega
                  · by_cases e : p = vp
                    · rw [e, upd_same]; have := hfi vp; omega
                    · rw [upd_ne _ _ e]; have := hfi p; omega
                have hfv : f vp ≤ 40 := by have := hfi vp; omega
                have hfI : (f vp : Int) ≤ 40 := by omega
                have v0 : decide ((vp : Int) < 0) = false := by simp
                have v15 : decide ((vp : Int) > 15) = false := by simp; omega
                clear hd ha hc hf hfi hv hd' ha' hc' hp' hj hcd hpg hb2 hvp
                go_wp2_with (
                  first
                  | (go_at_call 17
                     refine (on_vicV (unhide HC).ck.on (unhide HV)).mono ?_
                     rintro e W8 ⟨m8, rfl, o8, k8, f8⟩
                     replace HC := hide ((unhide HC).call o8 k8)
                     have c9 : W8.cell? ⟨cb, vp, none⟩ = some (.int .i64 (f vp : Int)) := fits_cell (unhide HC).cm vp _ (cmC_at f hv16)
                     clear o8 k8 f8
                     refine Stp.go ?_))
                constructor
                go_wp2_with (
                  first
                  | (refine wpIdx54 rfl (.tmp 17) (.tmp 132) rfl cb vp hv16 rfl rfl ?_
                     refine Stp.go ?_))
                constructor
                go_wp2_with (
                  first
                  | (refine wpIdx54 rfl (.tmp 17) (.tmp 132) rfl cb vp hv16 rfl rfl ?_
                     refine Stp.go ?_))
                constructor
                go_wp2_with (
                  first
                  | (refine wpSt54 rfl (.tmp 136) (.tmp 135) rfl rfl cb vp (f vp + 1) hv16 f rfl rfl (unhide HC).cm ?_
                     intro W9 K9 B9
                     replace HC := hide ((unhide HC).put (f vp + 1) K9 B9)
                     clear K9 B9 c9
                     refine Stp.go ?_))
                constructor
                go_wp2_with fail
                go_roundw
                case rel => exact ⟨i + 1, m8, Q4.vic.1, upd f vp (f vp + 1), by omega, by go_num, HH', HC⟩
                case measure => simp [intOf]; omega
              · obtain rfl : i = 2 * F.length := by omega
                have hdl : decide (((2 * F.length : Nat) : Int) < 2 * (F.length : Int)) = false := by simp
                go_wp2_with fail
                go_meet
                case rel => exact ⟨mb4, Q4, f, HH, HC⟩
          case rest =>
           as_aux_lemma =>
            clear HC
            obtain ⟨mb4, Q4, f, HH, HC⟩ := hcut
            have HTWO : Hid (∀ p : Nat, freeB P p = true → f p = 2) := by
              obtain ⟨T, hd, ha, hc, hf, hfi⟩ := unhide HH
              exact fun p hp => came_two (unhide HOK) (unhide HLN) hc hp (hf p)
            have HE : Hid (∃ T, Hd P Q4 T ∧ AllC P Q4) := by
              obtain ⟨T, hd, ha, _⟩ := unhide HH
              exact ⟨T, hd, ha⟩
            clear HH HD1 HA1
            go_wp2_with fail
            go_loopw [21] (fun xi wr => ∃ i : Nat, i ≤ F.length ∧ xi = .int .i64 i ∧ Hid (Cm w wr b mb4 Q4 (.slice fa F.length fcap) F cb f)) (fun xi _ => F.length - (intOf xi).toNat)
            case atStart => exact ⟨0, by omega, rfl, HC⟩
            case round =>
              clear HC
              obtain ⟨i, hi, rfl, HC⟩ := hrel
              by_cases hlt : i < F.length
              · have hiI : decide ((i : Int) < (F.length : Int)) = true := by simpa using hlt
                obtain ⟨x, hx⟩ : ∃ x, F[i]? = some x := ⟨_, List.getElem?_eq_getElem hlt⟩
                have HXI := hide hx
                obtain ⟨p, rfl, hp16, hpf⟩ := unhide HMEM i x hx
                have c8 : wr.cell? ⟨cb, p, none⟩ = some (.int .i64 2) := by
                  have h9 := fits_cell (unhide HC).cm p _ (cmC_at f hp16)
                  rw [unhide HTWO p hpf] at h9
                  exact h9
                clear hx hpf
                go_wp2_with (
                  first
                  | (refine wpIdx48 rfl (.tmp 143) (.tmp 144) rfl (.slice fa F.length fcap) F i (p : Int) rfl rfl (unhide HC).ck.row (unhide HXI) ?_
                     intro ad hc9
                     refine Stp.go ?_))
                constructor
                go_wp2_with (
                  first
                  | (refine wpIdx54 rfl (.tmp 17) (.tmp 146) rfl cb p hp16 rfl rfl ?_
                     refine Stp.go ?_))
                constructor
                go_wp2_with fail
                go_roundw
                case rel => exact ⟨i + 1, by omega, by go_num, HC⟩
                case measure => simp [intOf]; omega
              · obtain rfl : i = F.length := by omega
                have hdl : decide ((F.length : Int) < (F.length : Int)) = false := by simp
                obtain ⟨x, hx⟩ : ∃ x, F[0]? = some x := ⟨_, List.getElem?_eq_getElem hNp⟩
                have HXI := hide hx
                obtain ⟨p, rfl, hp16, hpf⟩ := unhide HMEM 0 x hx
                obtain ⟨T, hd, ha⟩ := unhide HE
                have hokQ := (unhide HC).ck.on.ok
                have hgv := get_vic hokQ (fun j hj hc => ha j (by rw [← hd.m]; exact hj) (by rw [← hd.cd]; exact hc)) (hd.free hokQ hpf)
                rw [hd.cnt, ← unhide HLN] at hgv
                obtain ⟨g1, g2, g3⟩ := hgv
                obtain ⟨v2, hv2⟩ : ∃ v2, (getP Q4 (p : Int)).1.vic.2.1 = v2 := ⟨_, rfl⟩
                have HV : Hid ((getP Q4 (p : Int)).1.vic.2 = (v2, true)) := Prod.ext hv2 g2
                rw [hv2] at g3
                obtain ⟨fc, hfc⟩ : ∃ c, c = (getP Q4 (p : Int)).2.1.C := ⟨_, rfl⟩
                have HLF : Hid (fc.length = 102) := by show _ = _; rw [hfc, Fr.len]
                have HOF : Hid (∀ v ∈ fc, v.oneCell' = true) := by rw [hfc]; exact Fr.one _
                obtain ⟨zc, hzc⟩ : ∃ c, c = fr0.C := ⟨_, rfl⟩
                have HLZ : Hid (zc.length = 102) := by show _ = _; rw [hzc, Fr.len]
                have HZ39 : Hid (∀ w : World, (Instr.alloc 39 true (.tuple #[])).run Try.prog w = .ok (P0 w.heap.size) (w.alloc (.cells zc.toArray 39))) := by rw [hzc]; exact zero39
                have P18 := hide (on_get (unhide HC).ck.on (p : Int))
                rw [← hfc, g1] at P18
                clear hx hpf hd ha hokQ g1 g2 hv2 hfc hzc
                by_cases hne : v2 = (p : Int)
                · have hN1 : F.length = 1 := by rcases g3 with h | h; exact absurd hne h; exact h
                  have n0 : decide (v2 = (p : Int)) = true := by simpa using hne
                  have n1 : (v2 != (p : Int)) = false := by simpa using hne
                  have n2 : decide ((F.length : Int) = 1) = true := decide_eq_true (by omega)
                  have n3 : ((F.length : Int) == 1) = true := by rw [beq_iff_eq]; omega
                  clear g3 hne hN1
                  go_wp2_with (
                    first
                    | (refine wpIdx48 rfl (.tmp 152) (.const (.int .i64 0)) rfl (.slice fa F.length fcap) F 0 (p : Int) rfl rfl (unhide HC).ck.row (unhide HXI) ?_
                       intro ad hc9
                       refine Stp.go ?_))
                  constructor
                  go_wp2_with (
                    first
                    | (go_at_call 18
                       refine (unhide P18).mono ?_
                       rintro e W7 ⟨m7, rfl, o7, k7, f7⟩
                       replace HC := hide ((unhide HC).call o7 k7)
                       clear o7 k7 f7 hc9 P18
                       refine Stp.go ?_))
                  constructor
                  go_wp2_with (
                    first
                    | (refine wpNew row39 zc (unhide HLZ) (unhide HZ39) 22 rfl rfl rfl (.tmp 156) rfl rfl rfl fc (unhide HLF) (unhide HOF) (by kernel_rfl) (by kernel_rfl) ?_
                       intro W5 q5 e5 B5 K5
                       replace HC := hide ((unhide HC).step0 K5)
                       clear e5 B5 K5
                       refine Stp.go ?_))
                  constructor
                  go_wp2_with (
                    first
                    | (go_at_call 17
                       refine (on_vicV (unhide HC).ck.on (unhide HV)).mono ?_
                       rintro e W8 ⟨m8, rfl, o8, k8, f8⟩
                       replace HC := hide ((unhide HC).call o8 k8)
                       clear o8 k8 f8
                       refine Stp.go ?_))
                  constructor
                  go_wp2_with (
                    first
                    | (go_at_call 9
                       refine (num9 _ _).mono ?_
                       rintro e W9 ⟨rfl, q9⟩
                       replace q9 := q9.symm
                       subst q9
                       refine Stp.go ?_))
                  constructor
                  go_wp2_with (
                    first
                    | (refine wpIdx48W rfl (.tmp 171) (.const (.int .i64 0)) rfl (.slice fa F.length fcap) F 0 (p : Int) rfl rfl (unhide HC).ck.row (unhide HXI) ?_
                       intro ad hc9
                       refine Stp.go ?_))
                  constructor
                  go_wp2_with fail
                  go_ret
                  exact ⟨rfl, (unhide HC).ck.on.kept⟩
                · have n0 : decide (v2 = (p : Int)) = false := by simpa using hne
                  have n1 : (v2 != (p : Int)) = true := by simpa using hne
                  clear g3 hne
                  go_wp2_with (
                    first
                    | (refine wpIdx48 rfl (.tmp 152) (.const (.int .i64 0)) rfl (.slice fa F.length fcap) F 0 (p : Int) rfl rfl (unhide HC).ck.row (unhide HXI) ?_
                       intro ad hc9
                       refine Stp.go ?_))
                  constructor
                  go_wp2_with (
                    first
                    | (go_at_call 18
                       refine (unhide P18).mono ?_
                       rintro e W7 ⟨m7, rfl, o7, k7, f7⟩
                       replace HC := hide ((unhide HC).call o7 k7)
                       clear o7 k7 f7 hc9 P18
                       refine Stp.go ?_))
                  constructor
                  go_wp2_with (
                    first
                    | (refine wpNew row39 zc (unhide HLZ) (unhide HZ39) 22 rfl rfl rfl (.tmp 156) rfl rfl rfl fc (unhide HLF) (unhide HOF) (by kernel_rfl) (by kernel_rfl) ?_
                       intro W5 q5 e5 B5 K5
                       replace HC := hide ((unhide HC).step0 K5)
                       clear e5 B5 K5
                       refine Stp.go ?_))
                  constructor
                  go_wp2_with (
                    first
                    | (go_at_call 17
                       refine (on_vicV (unhide HC).ck.on (unhide HV)).mono ?_
                       rintro e W8 ⟨m8, rfl, o8, k8, f8⟩
                       replace HC := hide ((unhide HC).call o8 k8)
                       clear o8 k8 f8
                       refine Stp.go ?_))
                  constructor
                  go_wp2_with (
                    first
                    | (go_at_call 9
                       refine (num9 _ _).mono ?_
                       rintro e W9 ⟨rfl, q9⟩
                       replace q9 := q9.symm
                       subst q9
                       refine Stp.go ?_))
                  constructor
                  go_wp2_with (
                    first
                    | (refine wpIdx48W rfl (.tmp 171) (.const (.int .i64 0)) rfl (.slice fa F.length fcap) F 0 (p : Int) rfl rfl (unhide HC).ck.row (unhide HXI) ?_
                       intro ad hc9
                       refine Stp.go ?_))
                  constructor
                  go_wp2_with fail
                  go_ret
                  exact ⟨rfl, (unhide HC).ck.on.kept⟩
theorem clock5 (n : Int) (ao : Option Addr) (cc : Nat) (X : List Se) (w : World) (hX : RowS Se.C 104 w ao X) : Calls Try.prog 5 #[.int .i64 n, .slice ao X.length cc] w fun e w' => e = .returned (.bool true) ∧ Kept [] w w' := by
  by_cases hn : 1 ≤ n ∧ n ≤ 16
  · have h1 := clock_yes n.toNat (by omega) ao cc X w hX
    rw [Int.toNat_of_nonneg (by omega)] at h1
    exact h1
  · exact clock_no n hn ao cc X w

end Go.Proofs.Ytgnafbohikbpfaa
