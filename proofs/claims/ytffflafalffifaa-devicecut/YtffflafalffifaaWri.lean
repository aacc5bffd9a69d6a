/-
  The walks of raise, Up, Fence, Cut, Whole, Write, Swap.
-/
import Derived.Test.YtffflafalffifaaDo
import Derived.BigQuiet
import Derived.Deep.QuietTactic
namespace Go.Proofs.Ytffflafalffifaa
open Go.RowKit

theorem heap_new {w : World} {o : Obj} {n : Nat} (h : n = w.heap.size) : (w.alloc o).heap[n]? = some o := by subst h; exact heap_alloc_new w o
theorem box_at {w : World} {b : Nat} {v : Value} {t : TypeId} (h : w.heap[b]? = some (.cells #[v] t (0, 0))) : w.cell? ⟨b, 0, none⟩ = some v := by rw [cell_of_block h]; rfl

/-- raise: the node's epoch, if it is done. -/
theorem raise56 (b g : Nat) (D : Dev) (k : Nat) (ep : Int) (w : World) (h : Dv w b g D) (hk : k < D.N) (hx : 0 ≤ ep ∧ ep ≤ 2147483647) :
    Calls Try.prog 56 #[.pointer (some ⟨b, 0, none⟩), .int .i64 k, .int .i64 ep] w fun e w' => e = .returned (.tuple #[]) ∧ Dv w' b g (D.step D.S (D.E.set k ep)).1 ∧ Kept [b, g] w w' := by
  have hlt := h.lt
  go_enter Try.func56, Try.ntmps56
  go_wp2_with fail
  refine (do54_61 b g D D.S (D.E.set k ep) _ _ (((h.alloc _).alloc _).alloc _) ?_).mono ?_
  · intro D1 w1 hS hE hN h1 k1
    refine (raise61 (w.heap.size + 1 + 1) w.heap.size (w.heap.size + 1) b g D1 k ep w1 h1 (by omega) hx ?_ ?_ ?_ (by omega) (by omega) (by omega)).mono ?_
    · exact k1.cell (box_at (heap_new (by simp))) (by simp; omega)
    · exact k1.cell (box_at (heap_alloc_old (heap_alloc_old (heap_new rfl)))) (by simp; omega)
    · exact k1.cell (box_at (heap_alloc_old (heap_new (by simp)))) (by simp; omega)
    · rintro e w2 ⟨rfl, h2, k2⟩
      refine ⟨rfl, ?_, k2.mono (by simp)⟩
      rw [hE, ← hS] at *
      exact h2
  · rintro e w2 ⟨rfl, h2, k2⟩
    have HK := hide ((((((Kept.refl [b, g] w).alloc _).alloc _).alloc _).trans k2))
    have H2 := hide h2
    clear h h2 k2
    go_wp2
    exact bodyPost_end (results_none rfl _ _ _) rfl ⟨rfl, unhide H2, unhide HK⟩

/-- What Up tells, and the device behind it. -/
def Dev.up (D : Dev) (x : Int) : Int × Int × Dev :=
  if hasN D.N x then (if D.ep x = 2147483647 then (0, 5, D) else (D.ep x + 1, 0, (D.step D.S (D.E.set x.toNat (D.ep x + 1))).1)) else (0, 2, D)

theorem up_nil (p : Value) (x : Int) (w : World) (h : Sz w p 0) : Calls Try.prog 27 #[p, .int .i64 x] w fun e w' => e = .returned (.tuple #[.int .i64 0, .int .i64 1]) ∧ w' = w := by
  go_enter Try.func27, Try.ntmps27
  go_wp2_with (go_at_call 19; refine (epoch_nil _ _ _ h).mono ?_; rintro e w' ⟨rfl, rfl⟩)
  go_ret2
  exact ⟨rfl, rfl⟩

theorem up27 (b g : Nat) (D : Dev) (x : Int) (w : World) (h : Dv w b g D) :
    Calls Try.prog 27 #[.pointer (some ⟨b, 0, none⟩), .int .i64 x] w fun e w' => e = .returned (.tuple #[.int .i64 (D.up x).1, .int .i64 (D.up x).2.1]) ∧ Dv w' b g (D.up x).2.2 ∧ Kept [b, g] w w' := by
  cases hN : hasN D.N x with
  | false =>
    have hE : D.epoch x = (0, 2) := by simp [Dev.epoch, hN]
    have hU : D.up x = (0, 2, D) := by simp [Dev.up, hN]
    rw [hU]
    have hc := epoch19 b g D x w h
    rw [hE] at hc
    have HC := hide hc
    clear hE hU hc
    go_enter Try.func27, Try.ntmps27
    go_wp2_with (go_at_call 19; refine (unhide HC).mono ?_; rintro e w' ⟨rfl, rfl⟩)
    go_ret2
    exact ⟨rfl, h, Kept.refl _ _⟩
  | true =>
    obtain ⟨h0, h1⟩ := hasN_true hN
    obtain ⟨k, rfl⟩ := Int.eq_ofNat_of_zero_le h0
    have hE : D.epoch k = (D.ep k, 0) := by simp [Dev.epoch, hN]
    have hc := epoch19 b g D k w h
    rw [hE] at hc
    have HC := hide hc
    have hle := ep_le h.ok k (by omega)
    clear hE hc
    by_cases hm : D.ep k = 2147483647
    · have hU : D.up k = (0, 5, D) := by simp [Dev.up, hN, hm]
      rw [hU]
      clear hU
      go_enter Try.func27, Try.ntmps27
      go_wp2_with (go_at_call 19; refine (unhide HC).mono ?_; rintro e w' ⟨rfl, rfl⟩)
      go_ret2
      exact ⟨rfl, h, Kept.refl _ _⟩
    · have hU : D.up k = (D.ep k + 1, 0, (D.step D.S (D.E.set k (D.ep k + 1))).1) := by simp [Dev.up, hN, hm]
      rw [hU]
      have HR := hide (raise56 b g D k (D.ep k + 1) w h (by omega) (by omega))
      clear hU h1
      go_enter Try.func27, Try.ntmps27
      go_wp2_with (first | (go_at_call 19; refine (unhide HC).mono ?_; rintro e w' ⟨rfl, rfl⟩) | (go_at_call 56; refine (unhide HR).mono ?_; rintro e w1 ⟨rfl, hd1, hk1⟩))
      go_ret2
      exact ⟨rfl, hd1, hk1⟩

/-- What Fence tells, and the device behind it. -/
def Dev.fence (D : Dev) (x ep y ab : Int) : Int × Dev :=
  if D.ref x ep (hasN D.N y && decide (0 ≤ ab ∧ ab ≤ 2147483646)) = 0 then (0, if D.ep y ≤ ab then (D.step D.S (D.E.set y.toNat (ab + 1))).1 else D) else (D.ref x ep (hasN D.N y && decide (0 ≤ ab ∧ ab ≤ 2147483646)), D)

theorem fence_nil (p : Value) (x ep y ab : Int) (w : World) (h : Sz w p 0) : Calls Try.prog 24 #[p, .int .i64 x, .int .i64 ep, .int .i64 y, .int .i64 ab] w fun e w' => e = .returned (.int .i64 1) ∧ w' = w := by
  have hN : hasN 0 y = false := by simp [hasN]
  go_enter Try.func24, Try.ntmps24
  go_wp2_with (first | (go_at_call 50; refine (hasNode50 _ _ _ _ (.inl ⟨h, rfl⟩)).mono ?_; rintro e w' ⟨rfl, rfl⟩) | (go_at_call 52; refine (refusal_nil _ _ _ _ _ h).mono ?_; rintro e w' ⟨rfl, rfl⟩))
  go_ret
  exact ⟨rfl, rfl⟩

theorem ref_may {D : Dev} {x ep : Int} {may : Bool} (h : D.ref x ep may = 0) : may = true := by
  cases may with
  | true => rfl
  | false => simp [Dev.ref] at h

theorem fence24 (b g : Nat) (D : Dev) (x ep y ab : Int) (w : World) (h : Dv w b g D) :
    Calls Try.prog 24 #[.pointer (some ⟨b, 0, none⟩), .int .i64 x, .int .i64 ep, .int .i64 y, .int .i64 ab] w fun e w' => e = .returned (.int .i64 (D.fence x ep y ab).1) ∧ Dv w' b g (D.fence x ep y ab).2 ∧ Kept [b, g] w w' := by
  have HN := hide (hasNode50 _ _ y w h.nd)
  have HF := hide (from47 0 ab 2147483646 w)
  by_cases hz : D.ref x ep (hasN D.N y && decide (0 ≤ ab ∧ ab ≤ 2147483646)) = 0
  · have hm := ref_may hz
    rw [Bool.and_eq_true] at hm
    obtain ⟨hn, ha⟩ := hm
    have HC := refusal52 b g D x ep true w h
    rw [hn, ha, Bool.and_self] at hz
    rw [hz] at HC
    rw [hn] at HN
    rw [ha] at HF
    have HC := hide HC
    obtain ⟨h0, h1⟩ := hasN_true hn
    obtain ⟨k, rfl⟩ := Int.eq_ofNat_of_zero_le h0
    have hab := of_decide_eq_true ha
    have hc := ep_cell h k (by omega)
    have h8 : (k : Int) < 8 := by have := h.ok.n1; omega
    by_cases hle : D.ep k ≤ ab
    · have hU : D.fence x ep k ab = (0, (D.step D.S (D.E.set k (ab + 1))).1) := by simp only [Dev.fence, hn, ha, Bool.and_self, hz, if_true, hle]; rfl
      rw [hU]
      have HR := hide (raise56 b g D k (ab + 1) w h (by omega) (by omega))
      clear hU h1 hz
      go_enter Try.func24, Try.ntmps24
      go_wp2_with (first | (go_at_call 50; refine (unhide HN).mono ?_; rintro e w' ⟨rfl, rfl⟩) | (go_at_call 47; refine (unhide HF).mono ?_; rintro e w' ⟨rfl, rfl⟩) | (go_at_call 52; refine (unhide HC).mono ?_; rintro e w' ⟨rfl, rfl⟩) | (go_at_call 56; refine (unhide HR).mono ?_; rintro e w1 ⟨rfl, hd1, hk1⟩))
      go_ret
      exact ⟨rfl, hd1, hk1⟩
    · have hU : D.fence x ep k ab = (0, D) := by simp only [Dev.fence, hn, ha, Bool.and_self, hz, if_true, hle]; rfl
      rw [hU]
      clear hU h1 hz
      go_enter Try.func24, Try.ntmps24
      go_wp2_with (first | (go_at_call 50; refine (unhide HN).mono ?_; rintro e w' ⟨rfl, rfl⟩) | (go_at_call 47; refine (unhide HF).mono ?_; rintro e w' ⟨rfl, rfl⟩) | (go_at_call 52; refine (unhide HC).mono ?_; rintro e w' ⟨rfl, rfl⟩))
      go_ret
      exact ⟨rfl, h, Kept.refl _ _⟩
  · have hU : D.fence x ep y ab = (D.ref x ep (hasN D.N y && decide (0 ≤ ab ∧ ab ≤ 2147483646)), D) := by simp only [Dev.fence, hz, if_false]
    rw [hU]
    clear hU
    cases hn : hasN D.N y with
    | false =>
      rw [hn] at hz
      have HC := hide (refusal52 b g D x ep false w h)
      rw [hn] at HN
      simp only [Bool.false_and] at hz ⊢
      go_enter Try.func24, Try.ntmps24
      go_wp2_with (first | (go_at_call 50; refine (unhide HN).mono ?_; rintro e w' ⟨rfl, rfl⟩) | (go_at_call 47; refine (unhide HF).mono ?_; rintro e w' ⟨rfl, rfl⟩) | (go_at_call 52; refine (unhide HC).mono ?_; rintro e w' ⟨rfl, rfl⟩))
      go_ret
      exact ⟨rfl, h, Kept.refl _ _⟩
    | true =>
      rw [hn] at hz HN
      cases hab : decide (0 ≤ ab ∧ ab ≤ 2147483646) with
      | false =>
        rw [hab] at hz HF
        have HC := hide (refusal52 b g D x ep false w h)
        simp only [Bool.true_and] at hz ⊢
        go_enter Try.func24, Try.ntmps24
        go_wp2_with (first | (go_at_call 50; refine (unhide HN).mono ?_; rintro e w' ⟨rfl, rfl⟩) | (go_at_call 47; refine (unhide HF).mono ?_; rintro e w' ⟨rfl, rfl⟩) | (go_at_call 52; refine (unhide HC).mono ?_; rintro e w' ⟨rfl, rfl⟩))
        go_ret
        exact ⟨rfl, h, Kept.refl _ _⟩
      | true =>
        rw [hab] at hz HF
        have HC := hide (refusal52 b g D x ep true w h)
        simp only [Bool.true_and] at hz ⊢
        go_enter Try.func24, Try.ntmps24
        go_wp2_with (first | (go_at_call 50; refine (unhide HN).mono ?_; rintro e w' ⟨rfl, rfl⟩) | (go_at_call 47; refine (unhide HF).mono ?_; rintro e w' ⟨rfl, rfl⟩) | (go_at_call 52; refine (unhide HC).mono ?_; rintro e w' ⟨rfl, rfl⟩))
        go_ret
        exact ⟨rfl, h, Kept.refl _ _⟩

end Go.Proofs.Ytffflafalffifaa
