/-
  The document's To.
-/
import Derived.Test.YtpcggcicpojdoaaEa
import Derived.Test.YtpcggcicpojdoaaTt
namespace Go.Proofs.Ytpcggcicpojdoaa
open Go.RowKit

set_option maxHeartbeats 2000000 in
set_option maxRecDepth 100000 in
theorem rto36 (r : Nat) (lv : Value) (R : Nn) (node : Int) (w : World) (h : Rt w r lv R) (hmany : R.L.length ≤ 4096) : Calls Try.prog 36 #[P0 r, .int .i64 node] w fun e w' => ∃ u, e = .returned u ∧ w'.ownsRow w.heap.size 2 1 u (nums (filT node R.L)).length (nums (filT node R.L)) ∧ Kept [] w w' := by
  have HR := hide h
  obtain ⟨lo, lc, rfl⟩ := owns_slN h.row
  clear h
  go_enter Try.func36, Try.ntmps36
  go_wp2_with fail
  go_loopw [5, 6] (fun sv i wr => ∃ k : Nat, k ≤ R.L.length ∧ i = .int .i64 k ∧ Hid (wr.ownsRow w.heap.size 2 1 sv (nums (filT node (R.L.take k))).length (nums (filT node (R.L.take k)))) ∧ Hid (Kept [] w wr)) (fun _ i _ => R.L.length - (intOf i).toNat)
  case atStart => exact ⟨0, by omega, rfl, World.ownsRow_nil _ _ _ _, hide (Kept.refl [] w)⟩
  case round =>
    obtain ⟨k, hk, rfl, HO, HK⟩ := hrel
    have hRw := (unhide HR).kept0 (unhide HK)
    have hc1 := hRw.cell.2.1
    by_cases hlt : k < R.L.length
    · obtain ⟨l, hl⟩ : ∃ l, R.L[k]? = some l := ⟨_, List.getElem?_eq_getElem hlt⟩
      obtain ⟨g, rfl, hRG⟩ := cellsL_at hRw.row hl
      have hcn : wr.cell? ⟨g, k * 4, none⟩ = some (.int .i64 l.num) := hRG 0 (.int .i64 l.num) rfl
      have hct : wr.cell? ⟨g, k * 4 + 2, none⟩ = some (.int .i64 l.to) := hRG 2 (.int .i64 l.to) rfl
      have hst := filT_step node R.L k l hl
      have hltI : (k : Int) < R.L.length := by omega
      have HLN : Hid ((filT node (R.L.take k)).length ≤ 4096) := by have h1 := List.length_filter_le (fun l => decide (l.to = node)) (R.L.take k); have h2 := List.length_take_le k R.L; unfold filT; show _ ≤ _; omega
      clear hRG hRw hl
      by_cases hto : l.to = node
      · rw [if_pos (decide_eq_true hto)] at hst
        have HST := hide hst
        have hto' : (l.to == node) = true := by simp [hto]
        clear hst
        go_wp2_with (
          first
          | (refine wpBS1 (by rfl) (.tmp 38) (by rfl) l.num (by kernel_rfl) ?_
             intro W6 g6 e6 B6 K6
             have HB6 := hide B6
             replace HO := hide (owns_keptX (unhide HO) K6 (by simp))
             replace HK := hide ((unhide HK).trans K6)
             clear e6 B6 K6 hc1 hcn hct
             refine Stp.go ?_))
        constructor
        go_wp2_with (
          first
          | (at_builtin; refine wpAppV (T := 56) (e := 2) (z := .int .i64 0) (by8 := 8) Try.sl56 Try.zero2 rfl (by decide) (by rfl) (.tmp 30) (.tmp 39) (by rfl) w.heap.size _ (nums (filT node (R.L.take k))) [Value.int .i64 l.num] (by rfl) (some ⟨g6, 0, none⟩) 1 1 (by kernel_rfl) (fun h => by cases h) ⟨rfl, Nat.le_refl _, fun _ => ⟨g6, 0, rfl, (unhide HB6).range⟩⟩ (by simp [Value.oneCell']) (unhide HO) (by rw [nums_len]; have h1 := unhide HLN; omega) (unhide HK).size ?_
             intro v7 W7 hO7 g7
             have HO7 := hide hO7
             replace HK := hide (kept_grown (unhide HK) g7 (fun k hk => ((unhide HO).lt k hk).1))
             clear hO7 g7
             refine Stp.go ?_))
        constructor
        go_wp2_with fail
        go_roundw
        case rel => exact ⟨k + 1, by omega, by go_num, by rw [unhide HST]; unfold nums; rw [List.map_append]; exact unhide HO7, HK⟩
        case measure => simp [intOf]; omega
      · rw [if_neg (by simpa using hto), List.append_nil] at hst
        have HST := hide hst
        have hto' : (l.to == node) = false := by simp [hto]
        clear hst
        go_wp2_with fail
        go_roundw
        case rel => exact ⟨k + 1, by omega, by go_num, by rw [unhide HST]; exact unhide HO, HK⟩
        case measure => simp [intOf]; omega
    · have hke : k = R.L.length := by omega
      have hnI : ¬ (k : Int) < R.L.length := by omega
      go_wp2_with fail
      go_ret
      refine ⟨_, rfl, ?_, unhide HK⟩
      have h1 := unhide HO
      rw [List.take_of_length_le (by omega)] at h1
      exact h1
theorem nums_sigs {L M : List Ltr} (h : sigs L = sigs M) (node : Int) : nums (filT node L) = nums (filT node M) := by
  have e : ∀ K : List Ltr, nums (filT node K) = ((sigs K).filter (fun s => decide (s.2.2.1 = node))).map (fun s => Value.int .i64 s.1) := by
    intro K
    unfold nums filT sigs
    rw [List.filter_map, List.map_map]
    rfl
  rw [e, e, h]

end Go.Proofs.Ytpcggcicpojdoaa
