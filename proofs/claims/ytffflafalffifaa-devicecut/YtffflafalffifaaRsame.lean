/-
  The walk of the document's Same.
-/
import Derived.Test.YtffflafalffifaaRnew
namespace Go.Proofs.Ytffflafalffifaa
open Go.RowKit

/-- The document's Same. -/
def Dev.rsame (D D2 : Dev) : Bool := decide (D.S = D2.S ∧ D.E.take D.N = D2.E.take D2.N)

theorem ep_at {D : Dev} (h : D.Ok) (i : Nat) (hi : i < D.N) : ∃ hl : i < D.E.length, D.E[i] = D.ep i := by
  have := h.n1
  have := h.e8
  refine ⟨by omega, ?_⟩
  simp [Dev.ep, List.getD, show i < D.E.length by omega]
theorem eps_eq {D D2 : Dev} (h : D.Ok) (h2 : D2.Ok) (hN : D.N = D2.N) : D.E.take D.N = D2.E.take D2.N ↔ ∀ j, j < D.N → D.ep j = D2.ep j := by
  have a1 := h.n1
  have a2 := h.e8
  have a3 := h2.n1
  have a4 := h2.e8
  constructor
  · intro e j hj
    obtain ⟨l1, e1⟩ := ep_at h j hj
    obtain ⟨l2, e2⟩ := ep_at h2 j (by omega)
    rw [← e1, ← e2]
    have q1 : (D.E.take D.N)[j]? = some D.E[j] := by simp [hj, l1]
    have q2 : (D2.E.take D2.N)[j]? = some D2.E[j] := by simp [show j < D2.N by omega, l2]
    rw [e, q2] at q1
    exact (Option.some.inj q1).symm
  · intro hj
    apply List.ext_getElem
    · simp; omega
    · intro i h1 h3
      simp at h1 h3
      obtain ⟨l1, e1⟩ := ep_at h i (by omega)
      obtain ⟨l2, e2⟩ := ep_at h2 i (by omega)
      simp only [List.getElem_take]
      rw [e1, e2]
      exact hj i (by omega)

set_option maxHeartbeats 2000000 in
set_option maxRecDepth 100000 in
theorem r_same (r sg eg r2 sg2 eg2 : Nat) (D D2 : Dev) (w : World) (h : Rv w r sg eg D) (h2 : Rv w r2 sg2 eg2 D2) : Calls Try.prog 18 #[P0 r, P0 r2] w fun e w' => e = .returned (.bool (D.rsame D2)) ∧ Kept [] w w' := by
  obtain ⟨cap, ecap, c0, c1, c2, c3, c4, cf, hb, hec⟩ := h.cells
  obtain ⟨cap', ecap', d0, d1, d2, d3, d4, df, hb', hec'⟩ := h2.cells
  clear c2 c3 c4 cf d2 d3 d4 df
  have hs1 := h.ok.s1
  have hs2 := h2.ok.s1
  have hn1 := h.ok.n1
  have hn2 := h2.ok.n1
  have he8 := h.ok.e8
  have he82 := h2.ok.e8
  have hS := h.ok.sec
  have hS2 := h2.ok.sec
  obtain ⟨ex, hb1, hb2, hb3, hb4⟩ := hb
  obtain ⟨ex', hb1', hb2', hb3', hb4'⟩ := hb'
  by_cases hl : D.S.length = D2.S.length
  · by_cases hN : D.N = D2.N
    · have hlI : (D.S.length : Int) = (D2.S.length : Int) := by omega
      have hNI : (D.N : Int) = (D2.N : Int) := by omega
      go_enter Try.func18, Try.ntmps18
      go_wp2_with fail
      refine wp_region_quiet_lit (by kernel_rfl) (by kernel_rfl) ?_
      repeat (quiet_step (fail))
      refine wpQuiet_nil ?_
      intro _ hw'
      obtain ⟨nq, hw''⟩ := hw'
      subst hw''
      go_wp2_with fail
      go_loopw [5] (fun i wr => ∃ k : Nat, k ≤ D.S.length ∧ i = .int .i64 k ∧ Hid (D.S.take k = D2.S.take k) ∧ Hid (Kept [] w wr)) (fun i _ => D.S.length - (intOf i).toNat)
      case atStart => exact ⟨0, by omega, rfl, rfl, (Kept.refl _ _).drewN _⟩
      case round =>
        obtain ⟨k, hk, rfl, hpre, hK⟩ := hrel
        have p0 := (unhide hK).cell c0 (by simp)
        have p1 := (unhide hK).cell c1 (by simp)
        have q0 := (unhide hK).cell d0 (by simp)
        have q1 := (unhide hK).cell d1 (by simp)
        by_cases hlt : k < D.S.length
        · have s1 := hS _ (List.getElem_mem hlt)
          have s2 := hS2 _ (List.getElem_mem (show k < D2.S.length by omega))
          have g1 : wr.rangeAt sg (k * 64) (u8s D.S[k]) := fun j v hj => by
            obtain ⟨h1, o1, e1, rr⟩ := (secs_block hS rfl hb1 cap hb2).lies (by intro e; simp [e] at hlt)
            cases e1
            have := (unhide hK).cell (rr k hlt j v hj) (by simp)
            simpa using this
          have g2 : wr.rangeAt sg2 (k * 64) (u8s (D2.S[k]'(by omega))) := fun j v hj => by
            obtain ⟨h1, o1, e1, rr⟩ := (secs_block hS2 rfl hb1' cap' hb2').lies (by intro e; have e2 := congrArg List.length e; rw [← hl, List.length_nil] at e2; omega)
            cases e1
            have := (unhide hK).cell (rr k (by omega) j v hj) (by simp)
            simpa using this
          have hkI : (k : Int) < (D.S.length : Int) := by omega
          have hkI2 : (k : Int) < (D2.S.length : Int) := by omega
          have hk0 : (0 : Int) ≤ (k : Int) := by omega
          by_cases he : D.S[k] = D2.S[k]'(by omega)
          · have hdec : Hid ((!decide (D.S[k] = D2.S[k]'(by omega))) = false) := by simpa [Hid] using he
            have HE := hide he
            clear he c0 c1 d0 d1
            go_wp2_with fail
            refine wp_region_quiet_lit (by kernel_rfl) (by kernel_rfl) ?_
            repeat (first | (refine quietLoadS rfl (.tmp 57) rfl sg (k * 64) rfl D.S[k] s1 (by rintro _ ⟨_, rfl⟩; exact g1) ?_) | (refine quietLoadS rfl (.tmp 64) rfl sg2 (k * 64) rfl (D2.S[k]'(by omega)) s2 (by rintro _ ⟨_, rfl⟩; exact g2) ?_) | (refine quietNeqS rfl (.tmp 58) (.tmp 65) _ rfl D.S[k] (D2.S[k]'(by omega)) rfl rfl s1 s2 _ (unhide hdec) ?_) | quiet_step (fail))
            refine wpQuiet_nil ?_
            intro _ hw'
            obtain ⟨nq, hw''⟩ := hw'
            subst hw''
            go_wp2_with fail
            go_roundw
            case rel =>
              refine ⟨k + 1, by omega, by go_num, ?_, (unhide hK).drewN _⟩
              show D.S.take (k + 1) = D2.S.take (k + 1)
              rw [List.take_succ_eq_append_getElem (by omega), List.take_succ_eq_append_getElem (by omega), unhide hpre, unhide HE]
            case measure => simp [intOf]; omega
          · have hdec : Hid ((!decide (D.S[k] = D2.S[k]'(by omega))) = true) := by simpa [Hid] using he
            have hf : Hid (D.rsame D2 = false) := by
              show D.rsame D2 = false
              unfold Dev.rsame
              rw [decide_eq_false_iff_not]
              rintro ⟨e, _⟩
              exact he (by simp [e])
            clear he c0 c1 d0 d1
            go_wp2_with fail
            refine wp_region_quiet_lit (by kernel_rfl) (by kernel_rfl) ?_
            repeat (first | (refine quietLoadS rfl (.tmp 57) rfl sg (k * 64) rfl D.S[k] s1 (by rintro _ ⟨_, rfl⟩; exact g1) ?_) | (refine quietLoadS rfl (.tmp 64) rfl sg2 (k * 64) rfl (D2.S[k]'(by omega)) s2 (by rintro _ ⟨_, rfl⟩; exact g2) ?_) | (refine quietNeqS rfl (.tmp 58) (.tmp 65) _ rfl D.S[k] (D2.S[k]'(by omega)) rfl rfl s1 s2 _ (unhide hdec) ?_) | quiet_step (fail))
            refine wpQuiet_nil ?_
            intro _ hw'
            obtain ⟨nq, hw''⟩ := hw'
            subst hw''
            go_wp2_with fail
            go_ret
            exact ⟨ret_bool (unhide hf).symm, (unhide hK).drewN _⟩
        · have hkI : ¬ (k : Int) < (D.S.length : Int) := by omega
          have hSS : Hid (D.S = D2.S) := by
            have := unhide hpre
            rwa [List.take_of_length_le (by omega), List.take_of_length_le (by omega)] at this
          obtain ⟨wo, rfl⟩ : ∃ wo : World, wo = wr := ⟨_, rfl⟩
          clear hpre
          go_wp2_with fail
          go_loopw [6] (fun i w2 => ∃ j : Nat, j ≤ D.N ∧ i = .int .i64 j ∧ Hid (∀ m, m < j → D.ep m = D2.ep m) ∧ Hid (Kept [] w w2)) (fun i _ => D.N - (intOf i).toNat)
          case atStart => exact ⟨0, by omega, rfl, fun m hm => by omega, hK⟩
          case round =>
            obtain ⟨j, hj, rfl, hpre, hK2⟩ := hrel
            have p0 := (unhide hK2).cell c0 (by simp)
            have p1 := (unhide hK2).cell c1 (by simp)
            have q0 := (unhide hK2).cell d0 (by simp)
            have q1 := (unhide hK2).cell d1 (by simp)
            by_cases hlt : j < D.N
            · have g1 := (unhide hK2).cell (h.epoch j hlt) (by simp)
              have g2 := (unhide hK2).cell (h2.epoch j (by omega)) (by simp)
              have hkI : (j : Int) < (D.N : Int) := by omega
              have hkI2 : (j : Int) < (D2.N : Int) := by omega
              have hk0 : (0 : Int) ≤ (j : Int) := by omega
              by_cases he : D.ep j = D2.ep j
              · have HE := hide he
                clear c0 c1 d0 d1
                go_wp2_with fail
                refine wp_region_quiet_lit (by kernel_rfl) (by kernel_rfl) ?_
                repeat (quiet_step (fail))
                refine wpQuiet_nil ?_
                intro _ hw'
                obtain ⟨nq, hw''⟩ := hw'
                subst hw''
                go_wp2_with fail
                go_roundw
                case rel =>
                  refine ⟨j + 1, by omega, by go_num, ?_, (unhide hK2).drewN _⟩
                  intro m hm
                  by_cases hmj : m = j
                  · rw [hmj]; exact unhide HE
                  · exact unhide hpre m (by omega)
                case measure => simp [intOf]; omega
              · have hf : Hid (D.rsame D2 = false) := by
                  show D.rsame D2 = false
                  unfold Dev.rsame
                  rw [decide_eq_false_iff_not]
                  rintro ⟨_, e⟩
                  exact he ((eps_eq h.ok h2.ok hN).1 e j hlt)
                clear c0 c1 d0 d1
                go_wp2_with fail
                refine wp_region_quiet_lit (by kernel_rfl) (by kernel_rfl) ?_
                repeat (quiet_step (fail))
                refine wpQuiet_nil ?_
                intro _ hw'
                obtain ⟨nq, hw''⟩ := hw'
                subst hw''
                go_wp2_with fail
                go_ret
                exact ⟨ret_bool (unhide hf).symm, (unhide hK2).drewN _⟩
            · have hf : Hid (D.rsame D2 = true) := by
                show D.rsame D2 = true
                unfold Dev.rsame
                rw [decide_eq_true_iff]
                exact ⟨unhide hSS, (eps_eq h.ok h2.ok hN).2 (fun m hm => unhide hpre m (by omega))⟩
              obtain rfl : j = D.N := by omega
              go_wp2_with fail
              go_ret
              exact ⟨ret_bool (unhide hf).symm, unhide hK2⟩
    · have hNI : ¬ (D.N : Int) = (D2.N : Int) := by omega
      have hlI : (D.S.length : Int) = (D2.S.length : Int) := by omega
      have hf : Hid (D.rsame D2 = false) := by
        show D.rsame D2 = false
        unfold Dev.rsame
        rw [decide_eq_false_iff_not]
        rintro ⟨_, e⟩
        have := congrArg List.length e
        simp at this
        omega
      go_enter Try.func18, Try.ntmps18
      go_wp2_with fail
      refine wp_region_quiet_lit (by kernel_rfl) (by kernel_rfl) ?_
      repeat (quiet_step (fail))
      refine wpQuiet_nil ?_
      intro _ hw'
      obtain ⟨nq, hw''⟩ := hw'
      subst hw''
      go_wp2_with fail
      go_ret
      exact ⟨ret_bool (unhide hf).symm, (Kept.refl _ _).drewN _⟩
  · have hlI : ¬ (D.S.length : Int) = (D2.S.length : Int) := by omega
    have hf : Hid (D.rsame D2 = false) := by
      show D.rsame D2 = false
      unfold Dev.rsame
      rw [decide_eq_false_iff_not]
      rintro ⟨e, _⟩
      exact hl (by rw [e])
    go_enter Try.func18, Try.ntmps18
    go_wp2_with fail
    refine wp_region_quiet_lit (by kernel_rfl) (by kernel_rfl) ?_
    repeat (quiet_step (fail))
    refine wpQuiet_nil ?_
    intro _ hw'
    obtain ⟨nq, hw''⟩ := hw'
    subst hw''
    go_wp2_with fail
    go_ret
    exact ⟨ret_bool (unhide hf).symm, (Kept.refl _ _).drewN _⟩

end Go.Proofs.Ytffflafalffifaa
