/-
  The walk of the document's Of.
-/
import Derived.Test.YtffflafalffifaaRofa
namespace Go.Proofs.Ytffflafalffifaa.K
open Go.RowKit

/-- What the document's Of leaves. -/
def OfR (w : World) (m : Nat) (l eps : List Int) (e : Ending) (w' : World) : Prop := Kept [] w w' ∧ ((ofB m eps = false ∧ e = .returned (.pointer none)) ∨ (ofB m eps = true ∧ ∃ r sg eg, e = .returned (P0 r) ∧ (w.heap.size ≤ r ∧ w.heap.size ≤ sg ∧ w.heap.size ≤ eg) ∧ Rv w' r sg eg (ofDev l eps)))
set_option maxHeartbeats 2000000 in
set_option maxRecDepth 100000 in
theorem r_of_rem (ao eo : Option Addr) (m c n ec : Nat) (l eps : List Int) (w : World) (hm : m ≤ 140737488355328) (hr : ¬ m % 64 = 0) : Calls Try.prog 16 #[.slice ao m c, .slice eo n ec] w (OfR w m l eps) := by
  have hrem : ¬ (m : Int) % 64 = 0 := by omega
  go_enter Try.func16, Try.ntmps16
  go_wp2_with fail
  go_ret
  exact ⟨Kept.refl _ _, .inl ⟨by simp [ofB, hr], rfl⟩⟩
set_option maxHeartbeats 2000000 in
set_option maxRecDepth 100000 in
theorem r_of_no (ao eo : Option Addr) (m c n ec M : Nat) (l eps : List Int) (w : World) (hm : m ≤ 140737488355328) (_ : n ≤ 140737488355328) (hmM : m = M * 64) (hen : eps.length = n) (hnew : newB M n = false) : Calls Try.prog 16 #[.slice ao m c, .slice eo n ec] w (OfR w m l eps) := by
  have hrem : (m : Int) % 64 = 0 := by omega
  have hquo : (m : Int) / 64 = (M : Int) := by omega
  have hof : ofB m eps = false := by
    have : m / 64 = M := by omega
    simp [ofB, this, hen, hnew]
  have HO := hide hof
  have HN := hide (r_new_no M n w hnew)
  clear hmM hof hnew hen
  go_enter Try.func16, Try.ntmps16
  go_wp2_with (
    first
    | (go_at_call 9
       refine (unhide HN).mono ?_
       rintro e w' ⟨rfl, hww⟩
       obtain rfl := hww.symm
       clear hww HN))
  go_loopw [6] (fun i wr => i = .int .i64 0 ∧ wr = w) (fun _ _ => 0)
  case atStart => exact ⟨rfl, rfl⟩
  case round =>
    obtain ⟨rfl, hww⟩ := hrel
    obtain rfl := hww.symm
    go_wp2_with fail
    go_loopw [7] (fun i wr => i = .int .i64 0 ∧ wr = w) (fun _ _ => 0)
    case atStart => exact ⟨rfl, rfl⟩
    case round =>
      obtain ⟨rfl, hww⟩ := hrel
      obtain rfl := hww.symm
      go_wp2_with fail
      go_ret
      exact ⟨Kept.refl _ _, .inl ⟨unhide HO, rfl⟩⟩
set_option maxHeartbeats 2000000 in
set_option maxRecDepth 100000 in
theorem r_of_yes (ao eo : Option Addr) (m c n ec M : Nat) (l eps : List Int) (w : World) (hb : ∀ x ∈ l, 0 ≤ x ∧ x < 256) (hl : Vals w ao m c (u8s l)) (he : Vals w eo n ec (eps.map (Value.int .i64))) (hmM : m = M * 64) (hnew : newB M n = true) : Calls Try.prog 16 #[.slice ao m c, .slice eo n ec] w (OfR w m l eps) := by
  have hlm := hl.len
  rw [u8s_len] at hlm
  have hen := he.len
  rw [List.length_map] at hen
  have hb0 : (1 ≤ (M : Int) ∧ (M : Int) ≤ 4096) ∧ 1 ≤ (n : Int) ∧ (n : Int) ≤ 8 := by simpa [newB] using hnew
  obtain ⟨⟨hM0, hM1⟩, hn0, hn1⟩ := hb0
  have hrem : (m : Int) % 64 = 0 := by omega
  have hquo : (m : Int) / 64 = (M : Int) := by omega
  have hof : ∀ t, eps.all (fun e => decide (0 ≤ e ∧ e ≤ 2147483647)) = t → ofB m eps = t := by
    intro t ht
    have : m / 64 = M := by omega
    simp only [ofB, ht, this, hen, hnew, Bool.and_true]
    have h0 : m % 64 = 0 := by omega
    simp [h0]
  obtain ⟨bh, boff, rfl, hbr⟩ := hl.lies (by intro e; have := congrArg List.length e; rw [u8s_len] at this; simp at this; subst this; simp at hlm; omega)
  obtain ⟨hh, off, rfl, her⟩ := he.lies (by intro e; have := congrArg List.length e; simp at this; subst this; simp at hen; omega)
  have HO := hide hof
  have HB := hide hb
  have HBR := hide hbr
  have HER := hide her
  have HM := hide hmM
  have HN := hide (r_new_yes M n w hnew)
  have h9 : m ≤ 1000000 := by omega
  clear hof hb hbr her hl he hnew hmM
  go_enter Try.func16, Try.ntmps16
  go_wp2_with (
    first
    | (go_at_call 9
       refine (unhide HN).mono ?_
       rintro e W1 ⟨r, sg, eg, rfl, hr1, hr2, hr3, hR, K1⟩
       have HG : Hid (w.heap.size ≤ r ∧ w.heap.size ≤ sg ∧ w.heap.size ≤ eg) := ⟨hr1, hr2, hr3⟩
       have HR : Hid (Rv W1 r sg eg (eDev M eps 0)) := by show Rv _ _ _ _ _; rw [eDev_zero, hen]; exact hR
       have HK := hide K1
       clear hr1 hr2 hr3 hR K1 HN))
  go_loopw [6] (fun i wr => ∃ k : Nat, k ≤ n ∧ i = .int .i64 k ∧ Hid (∀ e ∈ eps.take k, 0 ≤ e ∧ e ≤ 2147483647) ∧ Hid (Rv wr r sg eg (eDev M eps k)) ∧ Hid (Kept [] w wr)) (fun i _ => n - (intOf i).toNat)
  case atStart => exact ⟨0, by omega, rfl, by intro e he; simp at he, HR, HK⟩
  case round =>
    clear HR HK
    obtain ⟨k, hk, rfl, HV, HR, HK⟩ := hrel
    by_cases hlt : k < n
    · have hke : k < eps.length := by omega
      obtain ⟨e, hee⟩ : ∃ e, eps[k] = e := ⟨_, rfl⟩
      have hce := (unhide HK).cell (unhide HER k (.int .i64 e) (by simp [hke, hee])) (by simp)
      have hmem : e ∈ eps := by rw [← hee]; exact List.getElem_mem hke
      by_cases hv : 0 ≤ e ∧ e ≤ 2147483647
      · obtain ⟨hv1, hv2⟩ := hv
        have hd1 : ¬ e < 0 := by omega
        have hd2 : ¬ 2147483647 < e := by omega
        obtain ⟨cap, ecap, c0, c1, c2, c3, c4, cf, hbd, hec⟩ := (unhide HR).cells
        have C1 := hide c1
        have CE := hide hce
        clear c0 c1 c2 c3 c4 cf hbd hec
        go_wp2_with fail
        refine wp_region_any mixed (wpAny_tq1 10 rfl (by kernel_rfl) [some (P0 r), some (P0 r), some (.pointer (some ⟨r, 1, none⟩)), some (.slice (some ⟨eg, 0, none⟩) (eDev M eps k).N ecap), some (.int .i64 k), some (.slice (some ⟨hh, off, none⟩) n ec), some (.int .i64 k), some (.pointer (some ⟨hh, off + k, none⟩)), some (.int .i64 e), some (.pointer (some ⟨eg, 0 + k, none⟩))] rfl (by kernel_rfl) (by kernel_rfl) ?_ ?_)
        · intro i o' hi hsk ho a' w2 hout hin hk2
          replace hk2 : Kept [] wr w2 := ⟨hk2.os, hk2.tape, hk2.output, hk2.size, hk2.block⟩
          match i, ho, hsk with
          | 0, ho, hsk =>
            obtain rfl := Option.some.inj ho
            exact wp_move (.tmp 5) rfl _ ((hout 5 (by kernel_rfl)).trans rfl) ⟨_, rfl, tq_is _ _ _ _ rfl, Kept.refl _ _, fun _ _ _ _ _ => trivial⟩
          | 1, ho, hsk =>
            obtain rfl := Option.some.inj ho
            have e0 : a'.eval (.tmp 40) = P0 r := is_tq (hin 0 40 (by kernel_rfl) (by kernel_rfl)) rfl
            exact o_nil (.tmp 40) rfl _ e0 ⟨_, rfl, tq_is _ _ _ _ rfl, Kept.refl _ _, fun _ _ _ _ _ => trivial⟩
          | 2, ho, hsk =>
            obtain rfl := Option.some.inj ho
            have e0 : a'.eval (.tmp 41) = P0 r := is_tq (hin 1 41 (by kernel_rfl) (by kernel_rfl)) rfl
            exact o_fld51_1 (.tmp 41) rfl r e0 ⟨_, rfl, tq_is _ _ _ _ rfl, Kept.refl _ _, fun _ _ _ _ _ => trivial⟩
          | 3, ho, hsk =>
            obtain rfl := Option.some.inj ho
            have e0 : a'.eval (.tmp 42) = .pointer (some ⟨r, 1, none⟩) := is_tq (hin 2 42 (by kernel_rfl) (by kernel_rfl)) rfl
            exact o_load43 (.tmp 42) rfl ⟨r, 1, none⟩ _ e0 (hk2.cell (unhide C1) (by simp)) ⟨_, rfl, tq_is _ _ _ _ rfl, Kept.refl _ _, fun _ _ _ _ _ => trivial⟩
          | 4, ho, hsk =>
            obtain rfl := Option.some.inj ho
            exact wp_move (.tmp 6) rfl _ ((hout 6 (by kernel_rfl)).trans rfl) ⟨_, rfl, tq_is _ _ _ _ rfl, Kept.refl _ _, fun _ _ _ _ _ => trivial⟩
          | 5, ho, hsk =>
            obtain rfl := Option.some.inj ho
            exact wp_move (.tmp 1) rfl _ ((hout 1 (by kernel_rfl)).trans rfl) ⟨_, rfl, tq_is _ _ _ _ rfl, Kept.refl _ _, fun _ _ _ _ _ => trivial⟩
          | 6, ho, hsk =>
            obtain rfl := Option.some.inj ho
            exact wp_move (.tmp 6) rfl _ ((hout 6 (by kernel_rfl)).trans rfl) ⟨_, rfl, tq_is _ _ _ _ rfl, Kept.refl _ _, fun _ _ _ _ _ => trivial⟩
          | 7, ho, hsk =>
            obtain rfl := Option.some.inj ho
            have e0 : a'.eval (.tmp 45) = .slice (some ⟨hh, off, none⟩) n ec := is_tq (hin 5 45 (by kernel_rfl) (by kernel_rfl)) rfl
            have e1 : a'.eval (.tmp 46) = .int .i64 k := is_tq (hin 6 46 (by kernel_rfl) (by kernel_rfl)) rfl
            exact o_idx43 (.tmp 45) (.tmp 46) rfl hh off n ec k hlt e0 e1 ⟨_, rfl, tq_is _ _ _ _ rfl, Kept.refl _ _, fun _ _ _ _ _ => trivial⟩
          | 8, ho, hsk =>
            obtain rfl := Option.some.inj ho
            have e0 : a'.eval (.tmp 47) = .pointer (some ⟨hh, off + k, none⟩) := is_tq (hin 7 47 (by kernel_rfl) (by kernel_rfl)) rfl
            exact o_load2 (.tmp 47) rfl ⟨hh, off + k, none⟩ _ e0 (hk2.cell (unhide CE) (by simp)) ⟨_, rfl, tq_is _ _ _ _ rfl, Kept.refl _ _, fun _ _ _ _ _ => trivial⟩
          | 9, ho, hsk =>
            obtain rfl := Option.some.inj ho
            have e0 : a'.eval (.tmp 43) = .slice (some ⟨eg, 0, none⟩) (eDev M eps k).N ecap := is_tq (hin 3 43 (by kernel_rfl) (by kernel_rfl)) rfl
            have e1 : a'.eval (.tmp 44) = .int .i64 k := is_tq (hin 4 44 (by kernel_rfl) (by kernel_rfl)) rfl
            exact o_idx43 (.tmp 43) (.tmp 44) rfl eg 0 _ ecap k (by rw [show (eDev M eps k).N = n from hen]; exact hlt) e0 e1 ⟨_, rfl, tq_is _ _ _ _ rfl, Kept.refl _ _, fun _ _ _ _ _ => trivial⟩
        intro w9 hk9
        replace hk9 : Kept [] wr w9 := ⟨hk9.os, hk9.tape, hk9.output, hk9.size, hk9.block⟩
        simp only [valsQ, List.map_cons, List.map_nil, Option.getD_some, List.take_succ_cons, List.take_zero, putAll, Act.put, List.setIfInBounds_toArray, List.set_cons_succ, List.set_cons_zero]
        refine wpAny_all (rs := [10]) (by kernel_rfl) (by simp) ?_
        intro i hi
        obtain rfl : i = 10 := by simpa using hi
        have HR9 := (unhide HR).kept hk9 (by simp) (by simp) (by simp)
        refine wpOp_of rfl rfl (o_store2 (.tmp 49) (.tmp 48) rfl ⟨eg, 0 + k, none⟩ e _ rfl rfl (by rw [Nat.zero_add]; exact HR9.epoch k (by rw [show (eDev M eps k).N = n from hen]; exact hlt)) (by rw [Nat.zero_add]; exact Rv.epochW HR9 k) ?_)
        refine wpAny_done (by kernel_rfl) ?_ _
        have HR2 : Hid (Rv (w9.setCell ⟨eg, 0 + k, none⟩ (.int .i64 e)) r sg eg (eDev M eps (k + 1))) := by
          show Rv _ _ _ _ _
          have := HR9.putEp (k := k) (x := e) (by rw [show (eDev M eps k).N = n from hen]; exact hlt) ⟨hv1, hv2⟩
          rw [Nat.zero_add, ← eDev_succ M eps k hke (by omega), hee]
          exact this
        have HK2 : Hid (Kept [] w (w9.setCell ⟨eg, 0 + k, none⟩ (.int .i64 e))) := ((unhide HK).trans hk9).setCell (p := ⟨eg, 0 + k, none⟩) (by have := unhide HG; simp; omega) _
        have HV2 : Hid (∀ e ∈ eps.take (k + 1), 0 ≤ e ∧ e ≤ 2147483647) := by
          intro e' he'
          rw [List.take_succ_eq_append_getElem hke, List.mem_append] at he'
          rcases he' with h | h
          · exact unhide HV e' h
          · rw [hee] at h; rw [List.mem_singleton.1 h]; exact ⟨hv1, hv2⟩
        generalize w9.setCell ⟨eg, 0 + k, none⟩ (.int .i64 e) = W5 at *
        clear HR HK HV HR9 hk9 hce C1 CE
        go_wp2_with fail
        go_roundw
        case rel => exact ⟨k + 1, by omega, by go_num, HV2, HR2, HK2⟩
        case measure => simp [intOf]; omega
      · have hof := unhide HO false (by
          rw [List.all_eq_false]
          exact ⟨e, hmem, by simpa using hv⟩)
        have HF := hide hof
        clear hof
        by_cases hv1 : e < 0
        · go_wp2_with fail
          go_ret
          exact ⟨unhide HK, .inl ⟨unhide HF, rfl⟩⟩
        · have hd2 : 2147483647 < e := by omega
          go_wp2_with fail
          go_ret
          exact ⟨unhide HK, .inl ⟨unhide HF, rfl⟩⟩
    · obtain rfl : k = n := by omega
      have hE : ∀ e ∈ eps, 0 ≤ e ∧ e ≤ 2147483647 := by
        have := unhide HV
        rwa [List.take_of_length_le (by omega)] at this
      have hof := unhide HO true (by rw [List.all_eq_true]; intro e he; simpa using hE e he)
      have HF := hide hof
      have HE := hide hE
      have HR3 : Hid (Rv wr r sg eg (bDev M l eps 0)) := by show Rv _ _ _ _ _; rw [bDev_zero, hen]; exact unhide HR
      clear hof hE HV HR
      go_wp2_with fail
      go_loopw [7] (fun i wr => ∃ j : Nat, j ≤ m ∧ i = .int .i64 j ∧ Hid (Rv wr r sg eg (bDev M l eps j)) ∧ Hid (Kept [] w wr)) (fun i _ => m - (intOf i).toNat)
      case atStart => exact ⟨0, by omega, rfl, HR3, HK⟩
      case round =>
        clear HR3 HK
        obtain ⟨k, hk, rfl, HR, HK⟩ := hrel
        by_cases hlt : k < m
        · have hmM := unhide HM
          have hkl : k < l.length := by omega
          obtain ⟨x, hx⟩ : ∃ x, l[k]? = some x := ⟨_, List.getElem?_eq_getElem hkl⟩
          have CX := hide ((unhide HK).cell (unhide HBR k (.int .u8 x) (by simp [u8s, hx])) (by simp))
          obtain ⟨cap, ecap, c0, c1, c2, c3, c4, cf, hbd, hec⟩ := (unhide HR).cells
          have C0 := hide c0
          have hSl : (bDev M l eps k).S.length = M := by simp [bDev, chunks_len]
          clear c0 c1 c2 c3 c4 cf hbd hec
          go_wp2_with fail
          refine wp_region_any mixed (wpAny_tq1 14 rfl (by kernel_rfl) [some (P0 r), some (P0 r), some (.pointer (some ⟨r, 0, none⟩)), some (.slice (some ⟨sg, 0, none⟩) (bDev M l eps k).S.length cap), some (.int .i64 k), some (.int .i64 (k / 64 : Nat)), some (.int .i64 k), some (.int .i64 (k % 64 : Nat)), some (.slice (some ⟨bh, boff, none⟩) m c), some (.int .i64 k), some (.pointer (some ⟨bh, boff + k, none⟩)), some (.int .u8 x), some (.pointer (some ⟨sg, k / 64 * 64, none⟩)), some (.pointer (some ⟨sg, k / 64 * 64 + k % 64, none⟩))] rfl (by kernel_rfl) (by kernel_rfl) ?_ ?_)
          · intro i o' hi hsk ho a' w2 hout hin hk2
            replace hk2 : Kept [] wr w2 := ⟨hk2.os, hk2.tape, hk2.output, hk2.size, hk2.block⟩
            match i, ho, hsk with
            | 0, ho, hsk =>
              obtain rfl := Option.some.inj ho
              exact wp_move (.tmp 5) rfl _ ((hout 5 (by kernel_rfl)).trans rfl) ⟨_, rfl, tq_is _ _ _ _ rfl, Kept.refl _ _, fun _ _ _ _ _ => trivial⟩
            | 1, ho, hsk =>
              obtain rfl := Option.some.inj ho
              have e0 : a'.eval (.tmp 60) = P0 r := is_tq (hin 0 60 (by kernel_rfl) (by kernel_rfl)) rfl
              exact o_nil (.tmp 60) rfl _ e0 ⟨_, rfl, tq_is _ _ _ _ rfl, Kept.refl _ _, fun _ _ _ _ _ => trivial⟩
            | 2, ho, hsk =>
              obtain rfl := Option.some.inj ho
              have e0 : a'.eval (.tmp 61) = P0 r := is_tq (hin 1 61 (by kernel_rfl) (by kernel_rfl)) rfl
              exact o_fld51_0 (.tmp 61) rfl r e0 ⟨_, rfl, tq_is _ _ _ _ rfl, Kept.refl _ _, fun _ _ _ _ _ => trivial⟩
            | 3, ho, hsk =>
              obtain rfl := Option.some.inj ho
              have e0 : a'.eval (.tmp 62) = .pointer (some ⟨r, 0, none⟩) := is_tq (hin 2 62 (by kernel_rfl) (by kernel_rfl)) rfl
              exact o_load36 (.tmp 62) rfl ⟨r, 0, none⟩ _ e0 (hk2.cell (unhide C0) (by simp)) ⟨_, rfl, tq_is _ _ _ _ rfl, Kept.refl _ _, fun _ _ _ _ _ => trivial⟩
            | 4, ho, hsk =>
              obtain rfl := Option.some.inj ho
              exact wp_move (.tmp 7) rfl _ ((hout 7 (by kernel_rfl)).trans rfl) ⟨_, rfl, tq_is _ _ _ _ rfl, Kept.refl _ _, fun _ _ _ _ _ => trivial⟩
            | 5, ho, hsk =>
              obtain rfl := Option.some.inj ho
              have e0 : a'.eval (.tmp 64) = .int .i64 k := is_tq (hin 4 64 (by kernel_rfl) (by kernel_rfl)) rfl
              exact o_quo64 (.tmp 64) rfl k (by omega) e0 ⟨_, rfl, tq_is _ _ _ _ rfl, Kept.refl _ _, fun _ _ _ _ _ => trivial⟩
            | 6, ho, hsk =>
              obtain rfl := Option.some.inj ho
              exact wp_move (.tmp 7) rfl _ ((hout 7 (by kernel_rfl)).trans rfl) ⟨_, rfl, tq_is _ _ _ _ rfl, Kept.refl _ _, fun _ _ _ _ _ => trivial⟩
            | 7, ho, hsk =>
              obtain rfl := Option.some.inj ho
              have e0 : a'.eval (.tmp 66) = .int .i64 k := is_tq (hin 6 66 (by kernel_rfl) (by kernel_rfl)) rfl
              exact o_rem64 (.tmp 66) rfl k (by omega) e0 ⟨_, rfl, tq_is _ _ _ _ rfl, Kept.refl _ _, fun _ _ _ _ _ => trivial⟩
            | 8, ho, hsk =>
              obtain rfl := Option.some.inj ho
              exact wp_move (.tmp 0) rfl _ ((hout 0 (by kernel_rfl)).trans rfl) ⟨_, rfl, tq_is _ _ _ _ rfl, Kept.refl _ _, fun _ _ _ _ _ => trivial⟩
            | 9, ho, hsk =>
              obtain rfl := Option.some.inj ho
              exact wp_move (.tmp 7) rfl _ ((hout 7 (by kernel_rfl)).trans rfl) ⟨_, rfl, tq_is _ _ _ _ rfl, Kept.refl _ _, fun _ _ _ _ _ => trivial⟩
            | 10, ho, hsk =>
              obtain rfl := Option.some.inj ho
              have e0 : a'.eval (.tmp 68) = .slice (some ⟨bh, boff, none⟩) m c := is_tq (hin 8 68 (by kernel_rfl) (by kernel_rfl)) rfl
              have e1 : a'.eval (.tmp 69) = .int .i64 k := is_tq (hin 9 69 (by kernel_rfl) (by kernel_rfl)) rfl
              exact o_idx42 (.tmp 68) (.tmp 69) rfl bh boff m c k hlt e0 e1 ⟨_, rfl, tq_is _ _ _ _ rfl, Kept.refl _ _, fun _ _ _ _ _ => trivial⟩
            | 11, ho, hsk =>
              obtain rfl := Option.some.inj ho
              have e0 : a'.eval (.tmp 70) = .pointer (some ⟨bh, boff + k, none⟩) := is_tq (hin 10 70 (by kernel_rfl) (by kernel_rfl)) rfl
              exact o_load5 (.tmp 70) rfl ⟨bh, boff + k, none⟩ _ e0 (hk2.cell (unhide CX) (by simp)) ⟨_, rfl, tq_is _ _ _ _ rfl, Kept.refl _ _, fun _ _ _ _ _ => trivial⟩
            | 12, ho, hsk =>
              obtain rfl := Option.some.inj ho
              have e0 : a'.eval (.tmp 63) = .slice (some ⟨sg, 0, none⟩) (bDev M l eps k).S.length cap := is_tq (hin 3 63 (by kernel_rfl) (by kernel_rfl)) rfl
              have e1 : a'.eval (.tmp 65) = .int .i64 (k / 64 : Nat) := is_tq (hin 5 65 (by kernel_rfl) (by kernel_rfl)) rfl
              exact o_idxS (.tmp 63) (.tmp 65) rfl sg _ cap (k / 64) (by rw [hSl]; omega) e0 e1 ⟨_, rfl, tq_is _ _ _ _ rfl, Kept.refl _ _, fun _ _ _ _ _ => trivial⟩
            | 13, ho, hsk =>
              obtain rfl := Option.some.inj ho
              have e0 : a'.eval (.tmp 72) = .pointer (some ⟨sg, k / 64 * 64, none⟩) := is_tq (hin 12 72 (by kernel_rfl) (by kernel_rfl)) rfl
              have e1 : a'.eval (.tmp 67) = .int .i64 (k % 64 : Nat) := is_tq (hin 7 67 (by kernel_rfl) (by kernel_rfl)) rfl
              exact o_idx38 (.tmp 72) (.tmp 67) rfl sg (k / 64 * 64) (k % 64) (by omega) e0 e1 ⟨_, rfl, tq_is _ _ _ _ rfl, Kept.refl _ _, fun _ _ _ _ _ => trivial⟩
          intro w9 hk9
          replace hk9 : Kept [] wr w9 := ⟨hk9.os, hk9.tape, hk9.output, hk9.size, hk9.block⟩
          simp only [valsQ, List.map_cons, List.map_nil, Option.getD_some, List.take_succ_cons, List.take_zero, putAll, Act.put, List.setIfInBounds_toArray, List.set_cons_succ, List.set_cons_zero]
          refine wpAny_all (rs := [14]) (by kernel_rfl) (by simp) ?_
          intro i hi
          obtain rfl : i = 14 := by simpa using hi
          have HR9 := (unhide HR).kept hk9 (by simp) (by simp) (by simp)
          have hdm : k / 64 * 64 + k % 64 = k := Nat.div_add_mod' k 64
          obtain ⟨⟨u, hu⟩, hfz⟩ := Rv.byte HR9 k (by rw [hSl]; omega)
          refine wpOp_of rfl rfl (o_store5 (.tmp 73) (.tmp 71) rfl ⟨sg, k / 64 * 64 + k % 64, none⟩ x u rfl rfl (by rw [hdm]; exact hu) (by rw [hdm]; exact hfz) ?_)
          refine wpAny_done (by kernel_rfl) ?_ _
          have HR2 : Hid (Rv (w9.setCell ⟨sg, k / 64 * 64 + k % 64, none⟩ (.int .u8 x)) r sg eg (bDev M l eps (k + 1))) := by
            show Rv _ _ _ _ _
            rw [hdm]
            exact Rv.putByte HR9 (by omega) (by omega) hx (bDev_ok (by omega) (by omega) (by omega) (by omega) (unhide HB) (unhide HE))
          have HK2 : Hid (Kept [] w (w9.setCell ⟨sg, k / 64 * 64 + k % 64, none⟩ (.int .u8 x))) := ((unhide HK).trans hk9).setCell (p := ⟨sg, k / 64 * 64 + k % 64, none⟩) (by have := unhide HG; simp; omega) _
          generalize w9.setCell ⟨sg, k / 64 * 64 + k % 64, none⟩ (.int .u8 x) = W5 at *
          clear HR HK HR9 hk9 CX C0 hu hfz hdm hmM
          go_wp2_with fail
          go_roundw
          case rel => exact ⟨k + 1, by omega, by go_num, HR2, HK2⟩
          case measure => simp [intOf]; omega
        · obtain rfl : k = m := by omega
          go_wp2_with fail
          go_ret
          refine ⟨unhide HK, .inr ⟨unhide HF, r, sg, eg, rfl, unhide HG, ?_⟩⟩
          have := unhide HR
          rw [unhide HM] at this
          rwa [bDev_end M l eps (by have := unhide HM; omega)] at this
theorem r_of (ao eo : Option Addr) (m c n ec : Nat) (l eps : List Int) (w : World) (hb : ∀ x ∈ l, 0 ≤ x ∧ x < 256) (hl : Vals w ao m c (u8s l)) (he : Vals w eo n ec (eps.map (Value.int .i64))) (hm : m ≤ 140737488355328) (hnn : n ≤ 140737488355328) : Calls Try.prog 16 #[.slice ao m c, .slice eo n ec] w (OfR w m l eps) := by
  by_cases hr : m % 64 = 0
  · obtain ⟨M, hmM⟩ : ∃ M, m = M * 64 := ⟨m / 64, by omega⟩
    have hen := he.len
    rw [List.length_map] at hen
    cases hnew : newB M n with
    | false => exact r_of_no ao eo m c n ec M l eps w hm hnn hmM hen hnew
    | true => exact r_of_yes ao eo m c n ec M l eps w hb hl he hmM hnew
  · exact r_of_rem ao eo m c n ec l eps w hm hr

end Go.Proofs.Ytffflafalffifaa.K
