/-
  The walk of the document's Swap.
-/
import Derived.Test.YtffflafalffifaaRfe
namespace Go.Proofs.Ytffflafalffifaa
open Go.RowKit

theorem Rv.drewN {w : World} {r sg eg : Nat} {D : Dev} (h : Rv w r sg eg D) (n : Nat) : Rv (w.drewN n) r sg eg D := h.kept (X := []) ((Kept.refl _ _).drewN n) (by simp) (by simp) (by simp)
theorem Rv.drew {w : World} {r sg eg : Nat} {D : Dev} (h : Rv w r sg eg D) : Rv w.drew r sg eg D := h.kept (X := []) ((Kept.refl _ _).drew) (by simp) (by simp) (by simp)
/-- A sector of the document's device is written. -/
theorem Rv.putS {w : World} {r sg eg k : Nat} {D : Dev} {s : List Int} (h : Rv w r sg eg D) (hk : k < D.S.length) (hs : Sec s) : Rv (w.setCells sg (k * 64) (u8s s)) r sg eg { D with S := D.S.set k s } := by
  obtain ⟨cap, ecap, ex, a1, a2, a4, a5⟩ := h.lay
  refine ⟨h.ok.sector k s hs, h.ne, cap, ecap, ex, ?_, a2.put h.ok.sec k hk s hs.1, ?_, a5⟩
  · rw [sets_ne _ _ _ _ h.ne.1, a1]
    simp [refCells, Dev.rleft]
  · rw [sets_ne _ _ _ _ (Ne.symm h.ne.2.2)]; exact a4

/-- The world behind the boxes. -/
def swapR (w : World) (s t : List Int) : World := (w.alloc (.cells (u8s s).toArray 38)).alloc (.cells (u8s t).toArray 38)

set_option maxHeartbeats 4000000 in
set_option maxRecDepth 100000 in
theorem r_swap (r sg eg : Nat) (D : Dev) (x ep f : Int) (s t : List Int) (w : World) (h : Rv w r sg eg D) (hs : Sec s) (ht : Sec t) :
    Calls Try.prog 42 #[P0 r, .int .i64 x, .int .i64 ep, .int .i64 f, secV s, secV t] w fun e w' => e = .returned (.tuple #[.bool (D.swap x ep f s t).1, .int .i64 (D.swap x ep f s t).2.1]) ∧ Rv w' r sg eg (D.swap x ep f s t).2.2 ∧ Kept [r, sg] w w' := by
  have hlt := h.lt
  have hkW : Kept [] w (swapR w s t) := ((Kept.refl _ _).alloc _).alloc _
  have hD := h.kept hkW (by simp) (by simp) (by simp)
  have hbs : Hid (Box (swapR w s t) w.heap.size s) := ⟨hs, heap_alloc_old (heap_new rfl)⟩
  have hbt : Hid (Box (swapR w s t) (w.heap.size + 1) t) := ⟨ht, heap_new (by simp)⟩
  obtain ⟨cap, ecap, c0, c1, c2, c3, c4, cf, hb, hec⟩ := hD.cells
  have bad : D.ref x ep (hasS D.S.length f 1) = 2 → D.swap x ep f s t = (false, 2, D) := by
    intro h2
    simp only [Dev.swap, h2]
    rfl
  by_cases hw0 : D.whoR x ep = 0
  · obtain ⟨hx, he0, he1⟩ := who_zero hw0
    have HW := hide (who_is r sg eg D x ep _ hD 0 hw0)
    clear hw0
    by_cases hf0 : f < 0
    · rw [bad (ref_two (.inl (by simp [hasS]; omega)))]
      clear bad
      go_enter Try.func42, Try.ntmps42
      go_wp2_with (first | (refine wpBoxS rfl (.tmp 4) rfl s rfl ?_) | (refine wpBoxS rfl (.tmp 5) rfl t rfl ?_) | (go_at_call 59; refine (unhide HW).mono ?_; rintro e w' ⟨rfl, rfl⟩))
      go_ret2
      exact ⟨rfl, hD, hkW.mono (by simp)⟩
    · obtain ⟨q, rfl⟩ := Int.eq_ofNat_of_zero_le (show 0 ≤ f by omega)
      by_cases hq : q < D.S.length
      · have hS : hasS D.S.length (q : Int) 1 = true := by simp [hasS]; omega
        obtain ⟨k, rfl⟩ := Int.eq_ofNat_of_zero_le (hasN_true hx).1
        have hkN : k < D.N := by have := (hasN_true hx).2; omega
        have hck := hD.epoch k hkN
        have hqI : (q : Int) < D.S.length := by omega
        have hkI : (k : Int) < D.N := by omega
        have hq0 : (0 : Int) ≤ (q : Int) := by omega
        clear bad
        by_cases hfen : ep < D.ep k
        · have hU : D.swap k ep q s t = (false, 8, D) := by
            have : D.ref k ep true = 8 := by simp [Dev.ref, hx, he0, he1, hfen]
            simp only [Dev.swap, hS, this]; rfl
          rw [hU]
          clear hU
          go_enter Try.func42, Try.ntmps42
          go_wp2_with (first | (refine wpBoxS rfl (.tmp 4) rfl s rfl ?_) | (refine wpBoxS rfl (.tmp 5) rfl t rfl ?_) | (go_at_call 59; refine (unhide HW).mono ?_; rintro e w' ⟨rfl, rfl⟩))
          go_ret2
          exact ⟨rfl, hD, hkW.mono (by simp)⟩
        · have hr0 : D.ref k ep true = 0 := by simp [Dev.ref, hx, he0, he1]; omega
          have hU : D.swap k ep q s t = if D.S[q] = s then (true, 0, (D.step (D.S.set q t) D.E).1) else (false, 0, D) := by simp [Dev.swap, hS, hr0, hq]
          rw [hU]
          have hsq := hD.ok.sec _ (List.getElem_mem hq)
          have hrq := hb.range hD.ok.sec q hq
          have hrs := (unhide hbs).at.2.1
          clear hU hr0 hS
          by_cases he : D.S[q] = s
          · rw [if_pos he]
            have hdec : Hid ((!decide (D.S[q] = s)) = false) := by simpa [Hid] using he
            clear he
            rw [step_does]
            have HDo : ∀ n, Hid (Calls Try.prog 60 #[P0 r] ((swapR w s t).drewN n) fun e w' => e = .returned (.bool D.does.2) ∧ Rv w' r sg eg D.does.1 ∧ Kept [r] ((swapR w s t).drewN n) w') := fun n => r_does r sg eg D _ (hD.drewN n)
            have hbt2 : ∀ n, Hid (Box ((swapR w s t).drewN n) (w.heap.size + 1) t) := fun n => (unhide hbt).kept (X := []) ((Kept.refl _ _).drewN _) (by simp)
            have hne1 : Hid (w.heap.size + 1 ≠ r ∧ w.heap.size + 1 ≠ sg) := ⟨by omega, by omega⟩
            have hs3 := does_S D
            cases hd : D.does.2 with
            | true =>
              rw [hd] at HDo
              go_enter Try.func42, Try.ntmps42
              go_wp2_with (first | (refine wpBoxS rfl (.tmp 4) rfl s rfl ?_) | (refine wpBoxS rfl (.tmp 5) rfl t rfl ?_) | (go_at_call 59; refine (unhide HW).mono ?_; rintro e w' ⟨rfl, rfl⟩))
              change Code.wp _ _ _ _ (swapR w s t)
              generalize swapR w s t = W at *
              refine wp_region_quiet_lit (by kernel_rfl) (by kernel_rfl) ?_
              repeat (first | (refine quietLoadS rfl (.tmp 48) rfl sg (q * 64) rfl D.S[q] hsq (by rintro _ ⟨_, rfl⟩; exact hrq) ?_) | (refine quietLoadS rfl (.tmp 10) rfl w.heap.size 0 rfl s hs (by rintro _ ⟨_, rfl⟩; exact hrs) ?_) | (refine quietNeqS rfl (.tmp 49) (.tmp 50) _ rfl D.S[q] s rfl rfl hsq hs _ (unhide hdec) ?_) | quiet_step (fail))
              refine wpQuiet_nil ?_
              intro _ hw'
              obtain ⟨nq2, hw''⟩ := hw'
              subst hw''
              go_wp2_with fail
              refine (unhide (HDo _)).mono ?_
              rintro e w1 ⟨rfl, hd1, hk1⟩
              have hbt3 := (unhide (hbt2 nq2)).kept hk1 (by simpa using (unhide hne1).1)
              have hp := hide (hd1.drew.putS (k := q) (s := t) (by rw [hs3.1]; exact hq) ht)
              rw [hs3.1, hs3.2.1, hs3.2.2] at hp
              have hkk : Hid (Kept [r, sg] w w1) := ((hkW.drewN nq2).mono (by simp)).trans (hk1.mono (by simp))
              obtain ⟨cap', ecap', c0', _, _, _, _, _, hb', _⟩ := hd1.cells
              have hth := hb'.there hd1.ok.sec q (by rw [hs3.1]; exact hq)
              rw [hs3.1] at c0'
              have hrt := hbt3.at.2.1
              have hu := Try.underlying38
              have hu8 : (u8s t).length = 64 := by rw [u8s_len, ht.1]
              have hsz : (Try.prog.info? 38).map (·.size) = some (u8s t).length := by rw [hu8]; exact Try.info38
              have hone := u8s_one t
              have hrsg := hd1.ne.1
              have n0 := (unhide hne1).2
              clear HDo HW hbt2 hbt3 hbs hbt hrs hrq hD hck c0 c1 c2 c3 c4 cf hb hb' hec hne1
              generalize w.heap.size + 1 = pt at *
              go_wp2_with fail
              go_region_held3 (fun w' => w'.cell? ⟨r, 0, none⟩ = some (.slice (some ⟨sg, 0, none⟩) D.S.length cap') ∧ w'.rangeAt pt 0 (u8s t) ∧ w'.there sg (q * 64) 64)
                (first | (go_keep_ranges; done) | (go_keep; done) | (go_split_ands; simp only [World.rangeAt_drew, World.there_drew] at *; refine ⟨cell_sets_ne hrsg (by assumption), World.rangeAt_setCells_apart (by assumption) _ _ _ (.inl n0), World.there_setCells (by assumption) _ _ _⟩)) (fail)
              all_goals go_wp2_with fail
              go_ret2
              exact ⟨rfl, unhide hp, (unhide hkk).drew.setCells _ _ (by simp)⟩
            | false =>
              rw [hd] at HDo
              go_enter Try.func42, Try.ntmps42
              go_wp2_with (first | (refine wpBoxS rfl (.tmp 4) rfl s rfl ?_) | (refine wpBoxS rfl (.tmp 5) rfl t rfl ?_) | (go_at_call 59; refine (unhide HW).mono ?_; rintro e w' ⟨rfl, rfl⟩))
              change Code.wp _ _ _ _ (swapR w s t)
              generalize swapR w s t = W at *
              refine wp_region_quiet_lit (by kernel_rfl) (by kernel_rfl) ?_
              repeat (first | (refine quietLoadS rfl (.tmp 48) rfl sg (q * 64) rfl D.S[q] hsq (by rintro _ ⟨_, rfl⟩; exact hrq) ?_) | (refine quietLoadS rfl (.tmp 10) rfl w.heap.size 0 rfl s hs (by rintro _ ⟨_, rfl⟩; exact hrs) ?_) | (refine quietNeqS rfl (.tmp 49) (.tmp 50) _ rfl D.S[q] s rfl rfl hsq hs _ (unhide hdec) ?_) | quiet_step (fail))
              refine wpQuiet_nil ?_
              intro _ hw'
              obtain ⟨nq2, hw''⟩ := hw'
              subst hw''
              go_wp2_with fail
              refine (unhide (HDo _)).mono ?_
              rintro e w1 ⟨rfl, hd1, hk1⟩
              go_wp2_with fail
              go_ret2
              exact ⟨rfl, hd1, ((hkW.drewN nq2).mono (by simp)).trans (hk1.mono (by simp))⟩
          · rw [if_neg he]
            have hdec : Hid ((!decide (D.S[q] = s)) = true) := by simpa [Hid] using he
            clear he
            go_enter Try.func42, Try.ntmps42
            go_wp2_with (first | (refine wpBoxS rfl (.tmp 4) rfl s rfl ?_) | (refine wpBoxS rfl (.tmp 5) rfl t rfl ?_) | (go_at_call 59; refine (unhide HW).mono ?_; rintro e w' ⟨rfl, rfl⟩))
            change Code.wp _ _ _ _ (swapR w s t)
            generalize swapR w s t = W at *
            refine wp_region_quiet_lit (by kernel_rfl) (by kernel_rfl) ?_
            repeat (first | (refine quietLoadS rfl (.tmp 48) rfl sg (q * 64) rfl D.S[q] hsq (by rintro _ ⟨_, rfl⟩; exact hrq) ?_) | (refine quietLoadS rfl (.tmp 10) rfl w.heap.size 0 rfl s hs (by rintro _ ⟨_, rfl⟩; exact hrs) ?_) | (refine quietNeqS rfl (.tmp 49) (.tmp 50) _ rfl D.S[q] s rfl rfl hsq hs _ (unhide hdec) ?_) | quiet_step (fail))
            refine wpQuiet_nil ?_
            intro _ hw'
            obtain ⟨nq2, hw''⟩ := hw'
            subst hw''
            go_wp2_with fail
            go_ret2
            exact ⟨rfl, hD.drewN _, (hkW.drewN _).mono (by simp)⟩
      · rw [bad (ref_two (.inl (by simp [hasS]; omega)))]
        clear bad
        go_enter Try.func42, Try.ntmps42
        go_wp2_with (first | (refine wpBoxS rfl (.tmp 4) rfl s rfl ?_) | (refine wpBoxS rfl (.tmp 5) rfl t rfl ?_) | (go_at_call 59; refine (unhide HW).mono ?_; rintro e w' ⟨rfl, rfl⟩))
        go_ret2
        exact ⟨rfl, hD, hkW.mono (by simp)⟩
  · obtain ⟨hw2, hno⟩ := who_two hw0
    rw [bad (ref_two (.inr hno))]
    have HW := hide (who_is r sg eg D x ep _ hD 2 hw2)
    clear bad hw0 hw2
    go_enter Try.func42, Try.ntmps42
    go_wp2_with (first | (refine wpBoxS rfl (.tmp 4) rfl s rfl ?_) | (refine wpBoxS rfl (.tmp 5) rfl t rfl ?_) | (go_at_call 59; refine (unhide HW).mono ?_; rintro e w' ⟨rfl, rfl⟩))
    go_ret2
    exact ⟨rfl, hD, hkW.mono (by simp)⟩

end Go.Proofs.Ytffflafalffifaa
