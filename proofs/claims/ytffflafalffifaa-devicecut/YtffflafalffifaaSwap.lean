/-
  The walk of Swap.
-/
import Derived.Test.YtffflafalffifaaWrite
namespace Go.Proofs.Ytffflafalffifaa
open Go.RowKit

/-- What Swap tells, and the device behind it. -/
def Dev.swap (D : Dev) (x ep f : Int) (s t : List Int) : Bool × Int × Dev :=
  if D.ref x ep (hasS D.S.length f 1) = 0 then (if D.S.getD f.toNat nought = s then (true, 0, (D.step (D.S.set f.toNat t) D.E).1) else (false, 0, D)) else (false, D.ref x ep (hasS D.S.length f 1), D)

/-- The world behind Swap's boxes. -/
def swapW (w : World) (p : Value) (f : Int) (s t : List Int) : World := (((w.alloc (.cells #[p] 24)).alloc (.cells #[.int .i64 f] 3)).alloc (.cells (u8s s).toArray 38)).alloc (.cells (u8s t).toArray 38)

theorem swapW_kept (w : World) (p : Value) (f : Int) (s t : List Int) (X : List Nat) : Kept X w (swapW w p f s t) := ((((Kept.refl _ _).alloc _).alloc _).alloc _).alloc _
theorem swapW_d (w : World) (p : Value) (f : Int) (s t : List Int) : (swapW w p f s t).cell? ⟨w.heap.size, 0, none⟩ = some p := box_at (heap_alloc_old (heap_alloc_old (heap_alloc_old (heap_new rfl))))
theorem swapW_f (w : World) (p : Value) (f : Int) (s t : List Int) : (swapW w p f s t).cell? ⟨w.heap.size + 1, 0, none⟩ = some (.int .i64 f) := box_at (heap_alloc_old (heap_alloc_old (heap_new (by simp))))
theorem swapW_s (w : World) (p : Value) (f : Int) (s t : List Int) (hs : Sec s) : Box (swapW w p f s t) (w.heap.size + 1 + 1) s := ⟨hs, heap_alloc_old (heap_new (by simp))⟩
theorem swapW_t (w : World) (p : Value) (f : Int) (s t : List Int) (ht : Sec t) : Box (swapW w p f s t) (w.heap.size + 1 + 1 + 1) t := ⟨ht, heap_new (by simp)⟩

set_option maxHeartbeats 1000000 in
set_option maxRecDepth 100000 in
theorem swap_nil0 (o : Option Addr) (x ep f : Int) (s t : List Int) (w : World) (h : Sz w (.pointer o) 0) (hf : -9223372036854775808 ≤ f ∧ f ≤ 9223372036854775807) :
    Calls Try.prog 30 #[.pointer o, .int .i64 x, .int .i64 ep, .int .i64 f, secV s, secV t] w fun e w' => e = .returned (.tuple #[.bool false, .int .i64 1]) ∧ Kept [] w w' := by
  have hk := swapW_kept w (.pointer o) f s t []
  have hz := h.kept hk (by simp)
  have hd := swapW_d w (.pointer o) f s t
  have hff := swapW_f w (.pointer o) f s t
  have HF := hide hf
  clear hf
  go_enter Try.func30, Try.ntmps30
  go_wp2_with (first | (refine wpBoxS rfl (.tmp 4) rfl s rfl ?_) | (refine wpBoxS rfl (.tmp 5) rfl t rfl ?_))
  change Code.wp _ _ _ _ (swapW w (.pointer o) f s t)
  generalize swapW w (.pointer o) f s t = W at *
  go_quiet ((first | (go_at_call 53; exact Calls.quiet_of_same (hasSectors53 _ _ _ _ _ (hz.kept (X := []) ((Kept.refl _ _).drewN _) (by simp)) (by omega) (unhide HF))) | (go_at_call 52; go_must (exact Calls.quiet_of_same (refusal_nil _ _ _ _ _ (hz.kept (X := []) ((Kept.refl _ _).drewN _) (by simp)))))))
  go_wp2
  try rw [Exit.noGoto_ret]
  go_ret2
  exact ⟨rfl, hk.drewN _⟩
theorem swap_nil (p : Value) (x ep f : Int) (s t : List Int) (w : World) (h : Sz w p 0) (hf : -9223372036854775808 ≤ f ∧ f ≤ 9223372036854775807) :
    Calls Try.prog 30 #[p, .int .i64 x, .int .i64 ep, .int .i64 f, secV s, secV t] w fun e w' => e = .returned (.tuple #[.bool false, .int .i64 1]) ∧ Kept [] w w' := by
  have h0 := h
  rcases h0 with ⟨rfl, _⟩ | ⟨b, ao, cap, rfl, _⟩ <;> exact swap_nil0 _ x ep f s t w h hf

set_option maxHeartbeats 1000000 in
set_option maxRecDepth 100000 in
theorem swap30 (b g : Nat) (D : Dev) (x ep f : Int) (s t : List Int) (w : World) (h : Dv w b g D) (hf : -9223372036854775808 ≤ f ∧ f ≤ 9223372036854775807) (hs : Sec s) (ht : Sec t) :
    Calls Try.prog 30 #[.pointer (some ⟨b, 0, none⟩), .int .i64 x, .int .i64 ep, .int .i64 f, secV s, secV t] w fun e w' => e = .returned (.tuple #[.bool (D.swap x ep f s t).1, .int .i64 (D.swap x ep f s t).2.1]) ∧ Dv w' b g (D.swap x ep f s t).2.2 ∧ Kept [b, g] w w' := by
  have hlt := h.lt
  have hk := swapW_kept w (.pointer (some ⟨b, 0, none⟩)) f s t []
  have hD := h.kept hk (by simp) (by simp)
  have hd := swapW_d w (.pointer (some ⟨b, 0, none⟩)) f s t
  have hff := swapW_f w (.pointer (some ⟨b, 0, none⟩)) f s t
  have hbs := hide (swapW_s w (.pointer (some ⟨b, 0, none⟩)) f s t hs)
  have hbt := hide (swapW_t w (.pointer (some ⟨b, 0, none⟩)) f s t ht)
  by_cases hz : D.ref x ep (hasS D.S.length f 1) = 0
  · have hS := ref_may hz
    have hfs : 0 ≤ f ∧ (1 : Int) ≤ D.S.length - f := by simpa [hasS] using hS
    obtain ⟨F, rfl⟩ := Int.eq_ofNat_of_zero_le hfs.1
    have hFl : F < D.S.length := by omega
    have hgd : D.S.getD F nought = D.S[F] := by simp [List.getD, hFl]
    have hsecF := hD.ok.sec _ (List.getElem_mem hFl)
    have hU : D.swap x ep F s t = if D.S[F] = s then (true, 0, (D.step (D.S.set F t) D.E).1) else (false, 0, D) := by simp [Dev.swap, hz, hFl]
    rw [hU]
    rw [hS] at hz
    have HZ := hide hz
    have HS := hide hS
    have HU := hide hgd
    clear hz hS hgd hU
    obtain ⟨cap, hh, hbd⟩ := hD.lay
    have hc0 := (hh.cells hD.ok).1
    have hrF := hbd.range hD.ok.sec F hFl
    have hrs := (unhide hbs).at.2.1
    have hu := Try.underlying38
    have hu8 : (u8s D.S[F]).length = 64 := by rw [u8s_len, hsecF.1]
    have hu9 : (u8s s).length = 64 := by rw [u8s_len, hs.1]
    have hsz : (Try.prog.info? 38).map (·.size) = some (u8s D.S[F]).length := by rw [hu8]; exact Try.info38
    have hsz2 : (Try.prog.info? 38).map (·.size) = some (u8s s).length := by rw [hu9]; exact Try.info38
    have h0 : (0 : Int) ≤ (F : Int) := by omega
    have hF' : (F : Int) < D.S.length := by omega
    have hn := fun W => neq_secs W D.S[F] s hsecF hs
    have hg := fun W x y => guard_secs W .neq x y D.S[F] s
    simp only [secV] at hn hg
    clear hh hbd
    by_cases he : D.S[F] = s
    · rw [if_pos he]
      have hdec : Hid ((!decide (D.S[F] = s)) = false) := by simpa [Hid] using he
      clear he
      go_enter Try.func30, Try.ntmps30
      go_wp2_with (first | (refine wpBoxS rfl (.tmp 4) rfl s rfl ?_) | (refine wpBoxS rfl (.tmp 5) rfl t rfl ?_))
      change Code.wp _ _ _ _ (swapW w (.pointer (some ⟨b, 0, none⟩)) F s t)
      generalize swapW w (.pointer (some ⟨b, 0, none⟩)) F s t = W at *
      go_quiet ((first | (go_at_call 53; exact Calls.quiet_of_same (has_is _ _ _ _ _ (hD.drewN _).sz hD.ok.s1 hf true (unhide HS))) | (go_at_call 52; go_must (exact Calls.quiet_of_same (ref_is _ _ _ _ _ _ _ (hD.drewN _) 0 (unhide HZ))))))
      go_wp2
      have hd1 : (W.drewN nq).cell? ⟨w.heap.size, 0, none⟩ = some (.pointer (some ⟨b, 0, none⟩)) := hd
      have hff1 : (W.drewN nq).cell? ⟨w.heap.size + 1, 0, none⟩ = some (.int .i64 F) := hff
      have hc01 : (W.drewN nq).cell? ⟨b, 0, none⟩ = some (.slice (some ⟨g, 0, none⟩) D.S.length cap) := hc0
      have hrF1 : (W.drewN nq).rangeAt g (F * 64) (u8s D.S[F]) := hrF
      have hrs1 : (W.drewN nq).rangeAt (w.heap.size + 1 + 1) 0 (u8s s) := hrs
      have hD1 := hD.drewN nq
      have hbt1 : Hid (Box (W.drewN nq) (w.heap.size + 1 + 1 + 1) t) := (unhide hbt).kept (X := []) ((Kept.refl _ _).drewN _) (by simp)
      have hk1 : Kept [] w (W.drewN nq) := hk.drewN nq
      have i1 : Hid (w.heap.size ≠ b ∧ w.heap.size ≠ g) := ⟨by omega, by omega⟩
      have i2 : Hid (w.heap.size + 1 ≠ b ∧ w.heap.size + 1 ≠ g) := ⟨by omega, by omega⟩
      have i3 : Hid (w.heap.size + 1 + 1 + 1 ≠ b ∧ w.heap.size + 1 + 1 + 1 ≠ g) := ⟨by omega, by omega⟩
      clear hbs hbt hd hff hc0 hrF hrs hD hk hlt
      generalize w.heap.size + 1 + 1 + 1 = pt at *
      generalize w.heap.size + 1 + 1 = ps at *
      generalize w.heap.size + 1 = pf at *
      generalize w.heap.size = pd at *
      generalize W.drewN nq = W1 at *
      refine wp_region_quiet_lit (by kernel_rfl) (by kernel_rfl) ?_
      repeat (first | (refine quietLoadS rfl (.tmp 30) rfl g (F * 64) rfl D.S[F] hsecF (by rintro _ ⟨_, rfl⟩; exact hrF1) ?_) | (refine quietLoadS rfl (.tmp 10) rfl ps 0 rfl s hs (by rintro _ ⟨_, rfl⟩; exact hrs1) ?_) | (refine quietNeqS rfl (.tmp 31) (.tmp 32) _ rfl D.S[F] s rfl rfl hsecF hs _ (unhide hdec) ?_) | quiet_step (fail))
      refine wpQuiet_nil ?_
      intro _ hw'
      obtain ⟨nq2, hw''⟩ := hw'
      subst hw''
      have hd2 : (W1.drewN nq2).cell? ⟨pd, 0, none⟩ = some (.pointer (some ⟨b, 0, none⟩)) := hd1
      have hD2 := hD1.drewN nq2
      have hf2 : Hid ((W1.drewN nq2).cell? ⟨pf, 0, none⟩ = some (.int .i64 F)) := hff1
      have hbt2 : Hid (Box (W1.drewN nq2) pt t) := (unhide hbt1).kept (X := []) ((Kept.refl _ _).drewN _) (by simp)
      have hk2 : Hid (Kept [] w (W1.drewN nq2)) := hk1.drewN nq2
      clear hd1 hD1 hff1 hbt1 hk1 hc01 hrF1 hrs1 hn hg
      generalize W1.drewN nq2 = W2 at *
      have hDo : Hid (Calls Try.prog 54 #[.pointer (some ⟨b, 0, none⟩), .func (.func 57) #[] #[.pointer (some ⟨pt, 0, none⟩), .pointer (some ⟨pd, 0, none⟩), .pointer (some ⟨pf, 0, none⟩)]] W2 fun e w' => e = .returned (.bool (D.step (D.S.set F t) D.E).2) ∧ Dv w' b g (D.step (D.S.set F t) D.E).1 ∧ Kept [b, g] W2 w') := by
        obtain ⟨j1, j2⟩ := unhide i1
        obtain ⟨j3, j4⟩ := unhide i2
        obtain ⟨j5, j6⟩ := unhide i3
        refine (do54_57 b g D (D.S.set F t) D.E _ _ hD2 ?_).mono (fun e w' h => h)
        intro D1 w1 hS1 hE1 hN1 h1 k1
        refine (swap57 pt pd pf b g D1 F t w1 h1 (by rw [hS1]; exact hFl) ((unhide hbt2).kept k1 (by simpa using j5)) (k1.cell hd2 (by simpa using j1)) (k1.cell (unhide hf2) (by simpa using j3)) j6 j2 j4).mono ?_
        rintro e w2 ⟨rfl, h2, k2⟩
        refine ⟨rfl, ?_, k2.mono (by simp)⟩
        rw [← hS1, ← hE1]
        exact h2
      go_wp2_with (go_at_call 54; go_must (refine (unhide hDo).mono ?_; rintro e w1 ⟨rfl, hd1, hk1⟩))
      go_ret2
      exact ⟨rfl, hd1, ((unhide hk2).mono (by simp)).trans hk1⟩
    · rw [if_neg he]
      have hdec : Hid ((!decide (D.S[F] = s)) = true) := by simpa [Hid] using he
      clear he
      go_enter Try.func30, Try.ntmps30
      go_wp2_with (first | (refine wpBoxS rfl (.tmp 4) rfl s rfl ?_) | (refine wpBoxS rfl (.tmp 5) rfl t rfl ?_))
      change Code.wp _ _ _ _ (swapW w (.pointer (some ⟨b, 0, none⟩)) F s t)
      generalize swapW w (.pointer (some ⟨b, 0, none⟩)) F s t = W at *
      go_quiet ((first | (go_at_call 53; exact Calls.quiet_of_same (has_is _ _ _ _ _ (hD.drewN _).sz hD.ok.s1 hf true (unhide HS))) | (go_at_call 52; go_must (exact Calls.quiet_of_same (ref_is _ _ _ _ _ _ _ (hD.drewN _) 0 (unhide HZ))))))
      go_wp2
      have hd1 : (W.drewN nq).cell? ⟨w.heap.size, 0, none⟩ = some (.pointer (some ⟨b, 0, none⟩)) := hd
      have hff1 : (W.drewN nq).cell? ⟨w.heap.size + 1, 0, none⟩ = some (.int .i64 F) := hff
      have hc01 : (W.drewN nq).cell? ⟨b, 0, none⟩ = some (.slice (some ⟨g, 0, none⟩) D.S.length cap) := hc0
      have hrF1 : (W.drewN nq).rangeAt g (F * 64) (u8s D.S[F]) := hrF
      have hrs1 : (W.drewN nq).rangeAt (w.heap.size + 1 + 1) 0 (u8s s) := hrs
      have hD1 := hD.drewN nq
      have hbt1 : Hid (Box (W.drewN nq) (w.heap.size + 1 + 1 + 1) t) := (unhide hbt).kept (X := []) ((Kept.refl _ _).drewN _) (by simp)
      have hk1 : Kept [] w (W.drewN nq) := hk.drewN nq
      have i1 : Hid (w.heap.size ≠ b ∧ w.heap.size ≠ g) := ⟨by omega, by omega⟩
      have i2 : Hid (w.heap.size + 1 ≠ b ∧ w.heap.size + 1 ≠ g) := ⟨by omega, by omega⟩
      have i3 : Hid (w.heap.size + 1 + 1 + 1 ≠ b ∧ w.heap.size + 1 + 1 + 1 ≠ g) := ⟨by omega, by omega⟩
      clear hbs hbt hd hff hc0 hrF hrs hD hk hlt
      generalize w.heap.size + 1 + 1 + 1 = pt at *
      generalize w.heap.size + 1 + 1 = ps at *
      generalize w.heap.size + 1 = pf at *
      generalize w.heap.size = pd at *
      generalize W.drewN nq = W1 at *
      refine wp_region_quiet_lit (by kernel_rfl) (by kernel_rfl) ?_
      repeat (first | (refine quietLoadS rfl (.tmp 30) rfl g (F * 64) rfl D.S[F] hsecF (by rintro _ ⟨_, rfl⟩; exact hrF1) ?_) | (refine quietLoadS rfl (.tmp 10) rfl ps 0 rfl s hs (by rintro _ ⟨_, rfl⟩; exact hrs1) ?_) | (refine quietNeqS rfl (.tmp 31) (.tmp 32) _ rfl D.S[F] s rfl rfl hsecF hs _ (unhide hdec) ?_) | quiet_step (fail))
      refine wpQuiet_nil ?_
      intro _ hw'
      obtain ⟨nq2, hw''⟩ := hw'
      subst hw''
      have hd2 : (W1.drewN nq2).cell? ⟨pd, 0, none⟩ = some (.pointer (some ⟨b, 0, none⟩)) := hd1
      have hD2 := hD1.drewN nq2
      have hf2 : Hid ((W1.drewN nq2).cell? ⟨pf, 0, none⟩ = some (.int .i64 F)) := hff1
      have hbt2 : Hid (Box (W1.drewN nq2) pt t) := (unhide hbt1).kept (X := []) ((Kept.refl _ _).drewN _) (by simp)
      have hk2 : Hid (Kept [] w (W1.drewN nq2)) := hk1.drewN nq2
      clear hd1 hD1 hff1 hbt1 hk1 hc01 hrF1 hrs1 hn hg
      generalize W1.drewN nq2 = W2 at *
      go_wp2_with fail
      go_ret2
      exact ⟨rfl, hD2, (unhide hk2).mono (by simp)⟩
  · have hU : D.swap x ep f s t = (false, D.ref x ep (hasS D.S.length f 1), D) := by simp [Dev.swap, hz]
    rw [hU]
    have hne : (D.ref x ep (hasS D.S.length f 1) != 0) = true := by simpa using hz
    clear hU
    go_enter Try.func30, Try.ntmps30
    go_wp2_with (first | (refine wpBoxS rfl (.tmp 4) rfl s rfl ?_) | (refine wpBoxS rfl (.tmp 5) rfl t rfl ?_))
    change Code.wp _ _ _ _ (swapW w (.pointer (some ⟨b, 0, none⟩)) f s t)
    generalize swapW w (.pointer (some ⟨b, 0, none⟩)) f s t = W at *
    go_quiet ((first | (go_at_call 53; exact Calls.quiet_of_same (hasSectors53 _ _ _ _ _ (hD.drewN _).sz hD.ok.s1 hf)) | (go_at_call 52; go_must (exact Calls.quiet_of_same (refusal52 _ _ _ _ _ _ _ (hD.drewN _))))))
    go_wp2
    try rw [Exit.noGoto_ret]
    go_ret2
    exact ⟨rfl, hD.drewN _, (hk.mono (by simp)).drewN _⟩

end Go.Proofs.Ytffflafalffifaa
