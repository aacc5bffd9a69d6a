/-
  The walks of the document's Fence and Read.
-/
import Derived.Test.YtffflafalffifaaRdo
namespace Go.Proofs.Ytffflafalffifaa
open Go.RowKit

theorem who_zero {D : Dev} {x ep : Int} (h : D.whoR x ep = 0) : hasN D.N x = true ∧ 0 ≤ ep ∧ ep ≤ D.ep x := by
  unfold Dev.whoR at h
  split at h
  · assumption
  · simp at h
theorem who_two {D : Dev} {x ep : Int} (h : D.whoR x ep ≠ 0) : D.whoR x ep = 2 ∧ ¬ (hasN D.N x = true ∧ 0 ≤ ep ∧ ep ≤ D.ep x) := by
  unfold Dev.whoR at h ⊢
  split
  · rename_i hc; simp [hc] at h
  · exact ⟨rfl, by assumption⟩
theorem ref_two {D : Dev} {x ep : Int} {may : Bool} (h : may = false ∨ ¬ (hasN D.N x = true ∧ 0 ≤ ep ∧ ep ≤ D.ep x)) : D.ref x ep may = 2 := by
  unfold Dev.ref
  rw [if_neg]
  rintro ⟨h1, h2⟩
  rcases h with h | h
  · rw [h] at h1; cases h1
  · exact h h2
theorem who_is (r sg eg : Nat) (D : Dev) (x ep : Int) (w : World) (h : Rv w r sg eg D) (v : Int) (hv : D.whoR x ep = v) : Calls Try.prog 59 #[P0 r, .int .i64 x, .int .i64 ep] w fun e w' => e = .returned (.int .i64 v) ∧ w' = w := by
  subst hv; exact r_who r sg eg D x ep w h

set_option maxHeartbeats 2000000 in
theorem r_fence (r sg eg : Nat) (D : Dev) (x ep y ab : Int) (w : World) (h : Rv w r sg eg D) (hab : -9223372036854775808 ≤ ab ∧ ab ≤ 9223372036854775807) :
    Calls Try.prog 44 #[P0 r, .int .i64 x, .int .i64 ep, .int .i64 y, .int .i64 ab] w fun e w' => e = .returned (.int .i64 (D.fence x ep y ab).1) ∧ Rv w' r sg eg (D.fence x ep y ab).2 ∧ Kept [r, eg] w w' := by
  obtain ⟨cap, ecap, c0, c1, c2, c3, c4, cf, hb, hec⟩ := h.cells
  have bad : D.ref x ep (hasN D.N y && decide (0 ≤ ab ∧ ab ≤ 2147483646)) = 2 → D.fence x ep y ab = (2, D) := by
    intro h2
    simp only [Dev.fence, h2]
    rfl
  by_cases hw0 : D.whoR x ep = 0
  · obtain ⟨hx, he0, he1⟩ := who_zero hw0
    have HW := hide (who_is r sg eg D x ep w h 0 hw0)
    clear hw0
    by_cases hy0 : y < 0
    · rw [bad (ref_two (.inl (by simp [hasN]; omega)))]
      clear bad
      go_enter Try.func44, Try.ntmps44
      go_wp2_with (go_at_call 59; refine (unhide HW).mono ?_; rintro e w' ⟨rfl, rfl⟩)
      go_ret
      exact ⟨rfl, h, Kept.refl _ _⟩
    · obtain ⟨q, rfl⟩ := Int.eq_ofNat_of_zero_le (show 0 ≤ y by omega)
      by_cases hq : q < D.N
      · by_cases ha0 : ab < 0
        · rw [bad (ref_two (.inl (by simp; omega)))]
          clear bad
          go_enter Try.func44, Try.ntmps44
          go_wp2_with (go_at_call 59; refine (unhide HW).mono ?_; rintro e w' ⟨rfl, rfl⟩)
          go_ret
          exact ⟨rfl, h, Kept.refl _ _⟩
        · by_cases ha1 : 2147483646 < ab
          · rw [bad (ref_two (.inl (by simp; omega)))]
            clear bad
            go_enter Try.func44, Try.ntmps44
            go_wp2_with (go_at_call 59; refine (unhide HW).mono ?_; rintro e w' ⟨rfl, rfl⟩)
            go_ret
            exact ⟨rfl, h, Kept.refl _ _⟩
          · have hmay : (hasN D.N (q : Int) && decide (0 ≤ ab ∧ ab ≤ 2147483646)) = true := by simp [hasN, hq]; omega
            obtain ⟨k, rfl⟩ := Int.eq_ofNat_of_zero_le (hasN_true hx).1
            have hkN : k < D.N := by have := (hasN_true hx).2; omega
            have hck := h.epoch k hkN
            have hcq := h.epoch q hq
            have hqI : (q : Int) < D.N := by omega
            have hkI : (k : Int) < D.N := by omega
            clear bad
            by_cases hfen : ep < D.ep k
            · have hU : D.fence k ep q ab = (8, D) := by
                have : D.ref k ep true = 8 := by simp [Dev.ref, hx, he0, he1, hfen]
                simp only [Dev.fence, hmay, this]; rfl
              rw [hU]
              clear hU
              go_enter Try.func44, Try.ntmps44
              go_wp2_with (go_at_call 59; refine (unhide HW).mono ?_; rintro e w' ⟨rfl, rfl⟩)
              go_ret
              exact ⟨rfl, h, Kept.refl _ _⟩
            · have hr0 : D.ref k ep true = 0 := by simp [Dev.ref, hx, he0, he1]; omega
              by_cases hle : D.ep q ≤ ab
              · have hU : D.fence k ep q ab = (0, (D.step D.S (D.E.set q (ab + 1))).1) := by simp only [Dev.fence, hmay, hr0, if_true, hle]; rfl
                rw [hU, step_does]
                clear hU hr0
                have HD := hide (r_does r sg eg D w h)
                cases hd : D.does.2 with
                | true =>
                  rw [hd] at HD
                  go_enter Try.func44, Try.ntmps44
                  go_wp2_with (first | (go_at_call 59; refine (unhide HW).mono ?_; rintro e w' ⟨rfl, rfl⟩))
                  refine (unhide HD).mono ?_
                  rintro e w1 ⟨rfl, hd1, hk1⟩
                  obtain ⟨cap', ecap', _, c1', _, _, _, _, _, _⟩ := hd1.cells
                  have hs := does_S D
                  have hce := hd1.epoch q (by rw [hs.2.2]; exact hq)
                  have hfe : w1.frozen? ⟨eg, q, none⟩ = false := by
                    obtain ⟨_, _, _, _, _, a3, _⟩ := hd1.lay
                    exact frozen_of_block a3 q
                  have hp := hide (hd1.putEp (k := q) (x := ab + 1) (by rw [hs.2.2]; exact hq) (by omega))
                  rw [hs.2.2] at c1'
                  rw [hs.2.1, hs.1, hs.2.2] at hp
                  clear HD hb
                  go_wp2_with fail
                  go_ret
                  exact ⟨rfl, unhide hp, (hk1.mono (by simp)).setCell (by simp) _⟩
                | false =>
                  rw [hd] at HD
                  go_enter Try.func44, Try.ntmps44
                  go_wp2_with (first | (go_at_call 59; refine (unhide HW).mono ?_; rintro e w' ⟨rfl, rfl⟩) | (go_at_call 60; refine (unhide HD).mono ?_; rintro e w1 ⟨rfl, hd1, hk1⟩))
                  go_ret
                  exact ⟨rfl, hd1, hk1.mono (by simp)⟩
              · have hU : D.fence k ep q ab = (0, D) := by simp only [Dev.fence, hmay, hr0, if_true, hle]; rfl
                rw [hU]
                clear hU hr0
                go_enter Try.func44, Try.ntmps44
                go_wp2_with (go_at_call 59; refine (unhide HW).mono ?_; rintro e w' ⟨rfl, rfl⟩)
                go_ret
                exact ⟨rfl, h, Kept.refl _ _⟩
      · rw [bad (ref_two (.inl (by simp [hasN]; omega)))]
        clear bad
        go_enter Try.func44, Try.ntmps44
        go_wp2_with (go_at_call 59; refine (unhide HW).mono ?_; rintro e w' ⟨rfl, rfl⟩)
        go_ret
        exact ⟨rfl, h, Kept.refl _ _⟩
  · obtain ⟨hw2, hno⟩ := who_two hw0
    rw [bad (ref_two (.inr hno))]
    have HW := hide (who_is r sg eg D x ep w h 2 hw2)
    clear bad hw0 hw2
    go_enter Try.func44, Try.ntmps44
    go_wp2_with (go_at_call 59; refine (unhide HW).mono ?_; rintro e w' ⟨rfl, rfl⟩)
    go_ret
    exact ⟨rfl, h, Kept.refl _ _⟩

theorem res39 (w : World) (z : Nat) (s : List Int) (e : Int) (tmps : Array Value) (h4 : tmps[4]?.getD undef = .pointer (some ⟨z, 0, none⟩)) (h5 : tmps[5]?.getD undef = .int .i64 e) (hb : Box w z s) : (results Try.f39 tmps).run Try.prog w = .ok (.tuple #[secV s, .int .i64 e]) w := by
  have := hb.at.loadVar
  simp [results, Try.results39, h4, h5, this, asAddr]

theorem Rv.sector {w : World} {r sg eg : Nat} {D : Dev} (h : Rv w r sg eg D) (i : Nat) (hi : i < D.S.length) : At w sg (i * 64) D.S[i] := by
  obtain ⟨cap, ecap, _, _, _, _, _, _, hb, _⟩ := h.cells
  exact ⟨h.ok.sec _ (List.getElem_mem hi), hb.range h.ok.sec i hi, hb.there h.ok.sec i hi⟩
theorem Rv.alloc {w : World} {r sg eg : Nat} {D : Dev} (h : Rv w r sg eg D) (o : Obj) : Rv (w.alloc o) r sg eg D := h.kept (X := []) ((Kept.refl _ _).alloc o) (by simp) (by simp) (by simp)

set_option maxHeartbeats 1000000 in
set_option maxRecDepth 100000 in
theorem r_read (r sg eg : Nat) (D : Dev) (x : Int) (w : World) (h : Rv w r sg eg D) : Calls Try.prog 39 #[P0 r, .int .i64 x] w fun e w' => e = .returned (.tuple #[secV (D.read x).1, .int .i64 (D.read x).2]) ∧ Kept [] w w' := by
  have hb0 := hide (Box.new w)
  have hk0 := hide ((Kept.refl [] w).alloc (.cells (u8s nought).toArray 38))
  have hD := h.alloc (.cells (u8s nought).toArray 38)
  obtain ⟨cap, ecap, c0, c1, c2, c3, c4, cf, hb, hec⟩ := hD.cells
  have bad : hasS D.S.length x 1 = false → D.read x = (nought, 2) := by intro hN; simp [Dev.read, hN]
  by_cases h0 : x < 0
  · rw [bad (by simp [hasS]; omega)]
    clear bad
    go_enter Try.func39, Try.ntmps39
    go_wp2_with (first | (refine wpAllocS rfl rfl ?_) | (refine wpBuildS rfl rfl ?_) | (refine wpStoreS rfl (.tmp 4) (.tmp 20) rfl w.heap.size 0 nought rfl rfl nought_sec (unhide hb0).at.2.2 ?_))
    exact bodyPost_ret (res39 _ w.heap.size nought 2 _ rfl rfl ((unhide hb0).put nought_sec)) rfl ⟨rfl, (unhide hk0).setCells _ _ (by simp)⟩
  · obtain ⟨k, rfl⟩ := Int.eq_ofNat_of_zero_le (show 0 ≤ x by omega)
    by_cases hk : k < D.S.length
    · have hE : D.read k = (D.S[k], 0) := by
        have hN : hasS D.S.length (k : Int) 1 = true := by simp [hasS]; omega
        simp [Dev.read, hN, List.getD, hk]
      rw [hE]
      have hA := hide (hD.sector k hk)
      clear hE bad
      go_enter Try.func39, Try.ntmps39
      go_wp2_with (first | (refine wpAllocS rfl rfl ?_) | (refine wpLoadS rfl (.tmp 26) rfl sg (k * 64) rfl _ (unhide hA) ?_) | (refine wpStoreS rfl (.tmp 4) (.tmp 27) rfl w.heap.size 0 _ rfl rfl (unhide hA).1 (unhide hb0).at.2.2 ?_))
      exact bodyPost_ret (res39 _ w.heap.size _ 0 _ rfl rfl ((unhide hb0).put (unhide hA).1)) rfl ⟨rfl, (unhide hk0).setCells _ _ (by simp)⟩
    · rw [bad (by simp [hasS]; omega)]
      clear bad
      go_enter Try.func39, Try.ntmps39
      go_wp2_with (first | (refine wpAllocS rfl rfl ?_) | (refine wpBuildS rfl rfl ?_) | (refine wpStoreS rfl (.tmp 4) (.tmp 20) rfl w.heap.size 0 nought rfl rfl nought_sec (unhide hb0).at.2.2 ?_))
      exact bodyPost_ret (res39 _ w.heap.size nought 2 _ rfl rfl ((unhide hb0).put nought_sec)) rfl ⟨rfl, (unhide hk0).setCells _ _ (by simp)⟩

end Go.Proofs.Ytffflafalffifaa
