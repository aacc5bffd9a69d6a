/-
  Going over a pool's frames: the inner iterator.
-/
import Derived.Test.YtgnafbohikbpfaaTa
import Derived.Test.YtgnafbohikbpfaaTb
namespace Go.Proofs.Ytgnafbohikbpfaa
set_option maxRecDepth 100000
set_option linter.unusedSimpArgs false
open Go.RowKit Go.Shelf
attribute [local go_sem] Oper.semAt_some


variable {w0 w W W' V : World} {b mb c : Nat} {P : Po} {L : List En}
theorem pg_look (hp : Pg W b mb P L) (pg : Int) : Calls Try.prog 15 #[P0 b, .int .i64 pg] W fun e w' => e = .returned (.tuple #[aggV (lookP P pg).1.C, .bool (lookP P pg).2]) ∧ Kept [] W w' := by
  unfold lookP
  cases hf : P.find pg with
  | some q => exact look_ok hp hf
  | none => exact look_err W _ pg 6 (.inr rfl) (fnd42_none hp hf)
theorem allP_pre (P : Po) (k : Nat) : ∀ d, ∃ t, allP P (k + d) = allP P k ++ t
  | 0 => ⟨[], by simp⟩
  | d + 1 => by
    obtain ⟨t, h⟩ := allP_pre P k d
    cases hl : (lookP P ((k + d : Nat) : Int)).2 with
    | true => exact ⟨t ++ [_], by rw [← Nat.add_assoc, allP_yes hl, h, List.append_assoc]⟩
    | false => exact ⟨t, by rw [← Nat.add_assoc, allP_no hl, h]⟩
theorem allP_at {P : Po} {k : Nat} (hk : k < 16) (h : (lookP P (k : Int)).2 = true) : (allP P 16)[(allP P k).length]? = some (lookP P (k : Int)).1 := by
  obtain ⟨t, ht⟩ := allP_pre P (k + 1) (16 - (k + 1))
  rw [show k + 1 + (16 - (k + 1)) = 16 by omega] at ht
  rw [ht, allP_yes h, List.append_assoc, List.getElem?_append_right (Nat.le_refl _), Nat.sub_self]
  rfl
/-- The frames' cells. -/
def allC (P : Po) : List (List Value) := (allP P 16).map Fr.C
theorem allC_len (P : Po) : (allC P).length = (allP P 16).length := by simp [allC]
set_option maxHeartbeats 4000000 in
theorem rising55_2 (l : Nat) (X : List Nat) (hc : Blk V c 23 [P0 b]) (hP : Pg V b mb P L) (h1 : c ∉ X) (h2 : b ∉ X) (h3 : mb ∉ X) : ItX 2 55 c (allC P) V l X := by
  intro J Jx hJ hJx hY h0
  have hFw := wideF
  have HC := hide hc
  have HP := hide hP
  have HX := hide (And.intro h1 (And.intro h2 h3))
  have HI0 : Hid (J (allP P 0).length V) := h0
  have HJ := hide hJ
  have HJX := hide hJx
  have HY := hide hY
  rw [allC_len]
  clear hc hP h1 h2 h3 h0 hJ hJx hY
  rw [callsIn_wide]
  go_enter Try.func55, Try.ntmps55
  go_wp2_with fail
  rw [← wpIn_wide (n := 2)]
  gi_loopw [6] (fun i w1 => ∃ k : Nat, k ≤ 16 ∧ i = .int .i64 k ∧ Hid (J (allP P k).length w1) ∧ Hid (Kept X V w1)) (fun i _ => 16 - (intOf i).toNat)
  case atStart => exact ⟨0, by omega, rfl, HI0, Kept.refl _ _⟩
  case round =>
    clear HI0
    obtain ⟨k, hk, rfl, HI, HK⟩ := hrel
    by_cases hlt : k < 16
    · have hltI : (k : Int) < 16 := by omega
      have hd : decide ((k : Int) < 16) = true := by simpa using hltI
      have c1 : wr.cell? ⟨c, 0, none⟩ = some (P0 b) := fits_cell ((unhide HC).kept (unhide HK) (unhide HX).1) 0 _ rfl
      obtain ⟨x, hx⟩ : ∃ x, (lookP P (k : Int)).1 = x := ⟨_, rfl⟩
      have HXE := hide hx
      obtain ⟨fc, hfc⟩ : ∃ c, c = x.C := ⟨_, rfl⟩
      have HFC := hide hfc
      have HLF : Hid (fc.length = 102) := by show _ = _; rw [hfc, Fr.len]
      have HOF : Hid (∀ v ∈ fc, v.oneCell' = true) := by rw [hfc]; exact Fr.one _
      obtain ⟨zc, hzc⟩ : ∃ c, c = fr0.C := ⟨_, rfl⟩
      have HLZ : Hid (zc.length = 102) := by show _ = _; rw [hzc, Fr.len]
      have HZ39 : Hid (∀ w : World, (Instr.alloc 39 true (.tuple #[])).run Try.prog w = .ok (P0 w.heap.size) (w.alloc (.cells zc.toArray 39))) := by rw [hzc]; exact zero39
      have P15 := hide (pg_look ((unhide HP).step (unhide HK) (unhide HX).2.1 (unhide HX).2.2) (k : Int))
      rw [hx, ← hfc] at P15
      cases hl : (lookP P (k : Int)).2 with
      | false =>
        have HNO := hide hl
        rw [hl] at P15
        clear hl hfc hzc hx
        gi_wp2_with (
          first
          | (gi_at_call 15; refine (callsIn_wide.2 (unhide P15)).mono ?_; rintro e' W3 ⟨rfl, K3⟩
             replace HI := hide (unhide HJ _ _ _ _ (unhide HI) K3 (by simp))
             replace HK := hide ((unhide HK).trans (K3.mono (by simp)))
             clear K3 P15)
          | (refine inNew row39 zc (unhide HLZ) (unhide HZ39) 4 (by rfl) wideF (by rfl) (by rfl) (by rfl) (.tmp 13) (by rfl) (by rfl) (fun _ => by rfl) (by rfl) fc (unhide HLF) (unhide HOF) (by rfl) (by rfl) ?_
             intro W7 q4 e4 B4 K4
             have HB4 := hide B4
             replace HI := hide (unhide HJ _ _ _ _ (unhide HI) K4 (by simp))
             replace HK := hide ((unhide HK).trans (K4.mono (by simp)))
             clear e4 B4 K4))
        go_roundw
        case rel => exact ⟨k + 1, by omega, by go_num, hide (by rw [allP_no (unhide HNO)]; exact unhide HI), HK⟩
        case measure => simp [intOf]; omega
      | true =>
        have HYES := hide hl
        have HAT : Hid ((allC P)[(allP P k).length]? = some fc) := by show _ = _; unfold allC; rw [List.getElem?_map, allP_at hlt hl, hx, hfc]; rfl
        rw [hl] at P15
        clear hl hfc hzc hx
        gi_wp2_with (
          first
          | (gi_at_call 15; refine (callsIn_wide.2 (unhide P15)).mono ?_; rintro e' W3 ⟨rfl, K3⟩
             replace HI := hide (unhide HJ _ _ _ _ (unhide HI) K3 (by simp))
             replace HK := hide ((unhide HK).trans (K3.mono (by simp)))
             clear K3 P15)
          | (refine inNew row39 zc (unhide HLZ) (unhide HZ39) 4 (by rfl) wideF (by rfl) (by rfl) (by rfl) (.tmp 13) (by rfl) (by rfl) (fun _ => by rfl) (by rfl) fc (unhide HLF) (unhide HOF) (by rfl) (by rfl) ?_
             intro W7 q4 e4 B4 K4
             have HB4 := hide B4
             replace HI := hide (unhide HJ _ _ _ _ (unhide HI) K4 (by simp))
             replace HK := hide ((unhide HK).trans (K4.mono (by simp)))
             obtain ⟨fn, tmps, assign, body, hy, hR9⟩ := unhide HY _ _ W7 (unhide HAT) (unhide HI) (unhide HK).size
             have hR' := hide hR9
             clear hR9
             clear e4 B4 K4)
          | (refine inLoadA row39 wideF (by rfl) (.tmp 4) (by rfl) (by rfl) q4 0 (by rfl) fc (unhide HLF) (unhide HB4).range ?_))
        refine (unhide hR').mono ?_
        rintro e W8 ⟨K8, ⟨rfl, hI8⟩ | ⟨rfl, hX8⟩⟩
        · have HI8 := hide hI8
          replace HK := hide ((unhide HK).trans K8)
          clear hI8 hR' hy K8
          gi_wp2
          go_roundw
          case rel => exact ⟨k + 1, by omega, by go_num, hide (by rw [allP_yes (unhide HYES), List.length_append]; exact unhide HI8), HK⟩
          case measure => simp [intOf]; omega
        · have HX8 := hide hX8
          replace HK := hide ((unhide HK).trans K8)
          clear hX8 hR' hy K8
          gi_wp2
          refine bodyPost_ret (results_none rfl _ _ _) rfl ?_
          exact ⟨⟨_, rfl⟩, unhide HK, .inr ⟨_, by rw [← allC_len]; exact (List.getElem?_eq_some_iff.1 (unhide HAT)).1, unhide HX8⟩⟩
    · obtain rfl : k = 16 := by omega
      have hd : decide (((16 : Nat) : Int) < 16) = false := by decide
      gi_wp2_with fail
      go_end0
      exact ⟨⟨_, rfl⟩, unhide HK, .inl (unhide HI)⟩
theorem _root_.Go.CallsIn.wide_any {n m : Nat} {P : Program} {f : FuncId} {args : Array Value} {w : World} {R : Ending → World → Prop} (h : CallsIn Fence.wide n P f args w R) : CallsIn Fence.wide m P f args w R := callsIn_wide.2 (callsIn_wide.1 h)
theorem ItX.any {n m F c l : Nat} {S : List (List Value)} {V : World} {X : List Nat} (h : ItX n F c S V l X) : ItX m F c S V l X := fun J Jx h1 h2 h3 h4 => CallsIn.wide_any (h J Jx h1 h2 h3 h4)

end Go.Proofs.Ytgnafbohikbpfaa
