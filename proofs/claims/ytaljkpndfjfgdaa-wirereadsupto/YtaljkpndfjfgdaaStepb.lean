/-
  The walk of 'step', a list of numbers, and all kinds together.
-/
import Derived.Test.YtaljkpndfjfgdaaStep
namespace Go.Proofs.Ytaljkpndfjfgdaa
open Go.RowKit

theorem refNumbers43 (d : Nat) (bo : Option Addr) (bm bc : Nat) (L : List Int) (pos : Nat) (w : World) (h : RR w d bo bm bc L pos) (most : Int) (hm0 : 0 ≤ most) (hm : most ≤ 9223372036854775807) :
    Calls Try.prog 43 #[.pointer (some ⟨d, 0, none⟩), .int .i64 most] w fun e w' => RNTells w d bo bm bc L (rdTake most (L.drop pos)).1 (rdTake most (L.drop pos)).2.1 (rdTake most (L.drop pos)).2.2 e w' := by
  by_cases her : (rdCount most (L.drop pos)).2.1 = 0
  · have h1 := refNumbers43_main d bo bm bc L pos w h most hm0 hm her
    unfold leftOf at h1
    by_cases hs : (many (rdCount most (L.drop pos)).1 (rdCount most (L.drop pos)).2.2).2.1 = 0
    · have e1 : rdTake most (L.drop pos) = ((many (rdCount most (L.drop pos)).1 (rdCount most (L.drop pos)).2.2).1, 0, (many (rdCount most (L.drop pos)).1 (rdCount most (L.drop pos)).2.2).2.2) := by unfold rdTake; rw [if_pos her, if_pos hs]
      rw [e1]; rw [pre_nil _ hs, if_pos rfl] at h1; exact h1
    · have e1 : rdTake most (L.drop pos) = ([], (many (rdCount most (L.drop pos)).1 (rdCount most (L.drop pos)).2.2).2.1, L.drop pos) := by unfold rdTake; rw [if_pos her, if_neg hs]
      rw [e1]; rw [pre_nil' _ hs, if_neg hs] at h1; exact h1
  · have h1 := refNumbers43_err d bo bm bc L pos w h most hm0 hm her
    have e1 : rdTake most (L.drop pos) = ([], (rdCount most (L.drop pos)).2.1, L.drop pos) := by unfold rdTake; rw [if_neg her]
    rw [e1]; exact h1

theorem many_len (n : Nat) : ∀ l, Byt l → (many n l).1.length ≤ l.length := by
  induction n with
  | zero => intro l _; simp [many]
  | succ n ih =>
    intro l hb
    unfold many
    by_cases h : (rdNum l).2.1 = 0
    · rw [if_pos h]
      obtain ⟨h1, k, hk⟩ := rdNum_shorter l h hb
      have h2 := ih (rdNum l).2.2 (by rw [hk]; exact byt_drop hb k)
      by_cases h3 : (many n (rdNum l).2.2).2.1 = 0
      · rw [if_pos h3]; simp only [List.length_cons]; omega
      · rw [if_neg h3]; simp
    · rw [if_neg h]; simp

set_option maxHeartbeats 1000000 in
set_option maxRecDepth 100000 in
theorem step_5n (b g d : Nat) (bo : Option Addr) (bm bc : Nat) (L : List Int) (pos : Nat) (most : Int) (w : World) (h : Both w b g d bo bm bc L pos) (hm : most < 0) :
    Calls Try.prog 20 #[.pointer (some ⟨b, 0, none⟩), .pointer (some ⟨d, 0, none⟩), .agg #[.int .i64 5, .int .i64 most]] w fun e w' => StepPost w b g d bo bm bc L e w' := by
  have h0 := h.alloc (.cells #[.int .i64 5, .int .i64 most] 43)
  have o0 : Only2 w (w.alloc (.cells #[.int .i64 5, .int .i64 most] 43)) b d := (Only2.refl w b d).step (World.grownBy_alloc _ _ none) (by intro k hk; cases hk)
  have hlen : (L.drop pos).length ≤ 1048576 := by rw [List.length_drop]; have := h.2.1.2.1.1; have := h.2.1.2.2.2.2.1; omega
  have hN := take42 b g _ _ h0.1 most (by omega) hlen
  rw [show rdTake most (L.drop pos) = ([], 2, L.drop pos) by unfold rdTake rdCount; rw [if_pos hm]; simp] at hN
  have HN := hide hN
  have hbw := h.1.lt
  clear hN hlen
  go_enter Try.func20, Try.ntmps20
  go_wp2_with fail
  refine (unhide HN).mono ?_
  rintro e w1 ⟨ao, m, c, rfl, hx, _, hr1, hg1⟩
  obtain rfl : m = 0 := hx
  have hc0 : w1.cell? ⟨w.heap.size, 0, none⟩ = some (.int .i64 5) := hg1.cell (by simp) (by simp; omega)
  have hc1 : w1.cell? ⟨w.heap.size, 1, none⟩ = some (.int .i64 most) := hg1.cell (by simp) (by simp; omega)
  have hb : Hid (Both w1 b g d bo bm bc L pos) := ⟨hr1, h0.mid hr1 hg1, h.2.2.1, h.2.2.2.1, h.2.2.2.2.1, fun hl => by have := h0.2.2.2.2.2 hl; have := hg1.size; omega⟩
  have ho := hide (o0.step hg1 (by intro k hk; cases hk; exact .inl rfl))
  clear HN hr1 hg1 h0 o0
  go_wp2_with (first | (go_at_call 23; refine (num_err _ _).mono ?_; rintro e w' ⟨rfl, rfl⟩))
  go_ret
  exact ⟨rfl, ⟨pos, unhide hb⟩, unhide ho⟩

theorem rdTake_len (most : Int) (l : List Int) (hb : Byt l) : (rdTake most l).1.length ≤ l.length := by
  unfold rdTake
  by_cases h : (rdCount most l).2.1 = 0
  · rw [if_pos h]
    by_cases h2 : (many (rdCount most l).1 (rdCount most l).2.2).2.1 = 0
    · rw [if_pos h2]
      have h3 := rdCount_len most l
      have hb2 : Byt (rdCount most l).2.2 := by
        unfold rdCount
        split
        · exact hb
        · split
          · exact hb
          · split
            · exact byt_drop hb _
            · exact byt_drop hb _
      have := many_len (rdCount most l).1 _ hb2
      simp only; omega
    · rw [if_neg h2]; simp
  · rw [if_neg h]; simp

set_option maxHeartbeats 1000000 in
set_option maxRecDepth 100000 in
theorem step_5 (b g d : Nat) (bo : Option Addr) (bm bc : Nat) (L : List Int) (pos : Nat) (most : Int) (w : World) (h : Both w b g d bo bm bc L pos) (hm0 : 0 ≤ most) (hm : most ≤ 9223372036854775807) :
    Calls Try.prog 20 #[.pointer (some ⟨b, 0, none⟩), .pointer (some ⟨d, 0, none⟩), .agg #[.int .i64 5, .int .i64 most]] w fun e w' => StepPost w b g d bo bm bc L e w' := by
  have h0 := h.alloc (.cells #[.int .i64 5, .int .i64 most] 43)
  have o0 : Only2 w (w.alloc (.cells #[.int .i64 5, .int .i64 most] 43)) b d := (Only2.refl w b d).step (World.grownBy_alloc _ _ none) (by intro k hk; cases hk)
  have hlen : (L.drop pos).length ≤ 1048576 := by rw [List.length_drop]; have := h.2.1.2.1.1; have := h.2.1.2.2.2.2.1; omega
  have hN := hide (take42 b g _ _ h0.1 most hm (by omega))
  have hxl : (rdTake most (L.drop pos)).1.length ≤ 1048576 := by have := rdTake_len most (L.drop pos) h.1.1; omega
  have hbw := h.1.lt
  have hdw : d < w.heap.size := (Array.getElem?_eq_some_iff.1 h.2.1.1).1
  clear hlen
  go_enter Try.func20, Try.ntmps20
  go_wp2_with fail
  refine (unhide hN).mono ?_
  rintro e w1 ⟨ao, m, c, rfl, hm1, hx, hr1, hg1⟩
  have hM := hide (refNumbers43 d bo bm bc L pos w1 (h0.mid hr1 hg1) most hm0 hm)
  have hc1 : w1.cell? ⟨w.heap.size, 1, none⟩ = some (.int .i64 most) := hg1.cell (by simp) (by simp; omega)
  clear hN
  go_wp2_with fail
  refine (unhide hM).mono ?_
  rintro e w2 ⟨ao2, m2, c2, rfl, hm2, hx2, hR2, hg2⟩
  have hx' := Own64.kept1 hx hg2 (by simp; omega)
  have hb2 := hide (h0.next hr1 hR2 hg1 hg2)
  have ho2 := hide ((o0.step hg1 (by intro k hk; cases hk; exact .inl rfl)).step hg2 (by intro k hk; cases hk; exact .inr (.inl rfl)))
  clear hM hr1 hg1 hR2 hg2 h0 o0 hx hc1
  revert hx' hx2 hm1 hm2 hxl
  generalize (rdTake most (L.drop pos)).1 = x
  generalize (rdTake most (L.drop pos)).2.1 = er
  intro hxl hm1 hm2 hx2 hx'
  subst hm1
  subst hm2
  obtain ⟨_, _, hv1, hf1, hcell1⟩ := Own64.form hx'
  cases hv1
  obtain ⟨_, _, hv2, hf2, hcell2⟩ := Own64.form hx2
  cases hv2
  obtain ⟨n, hn⟩ : ∃ n, n = x.length := ⟨_, rfl⟩
  have Hn := hide hn
  rw [← hn] at hxl ⊢
  clear hn hx' hx2
  go_wp2_with (first | (go_at_call 23; refine (num_err _ _).mono ?_; rintro e w2 ⟨rfl, rfl⟩))
  go_loopw [28] (fun i wr => ∃ k q : Nat, k ≤ n ∧ i = .int .i64 k ∧ wr = w2.drewN q) (fun i _ => n - (intOf i).toNat)
  case atStart => exact ⟨0, 0, by omega, rfl, rfl⟩
  case round =>
    obtain ⟨k, q, hk, rfl, rfl⟩ := hrel
    by_cases hlt : k < n
    · obtain ⟨y, hy⟩ : ∃ y, x[k]? = some y := ⟨_, List.getElem?_eq_getElem (by rw [← Hn.out]; exact hlt)⟩
      have hne : x ≠ [] := by intro e; rw [e] at hy; simp at hy
      obtain ⟨g1, rfl⟩ := hf1.resolve_left hne
      obtain ⟨g2, rfl⟩ := hf2.resolve_left hne
      have d1 : ∀ q, (w2.drewN q).cell? ⟨g1, k, none⟩ = some (.int .u64 y) := fun q => hcell1 k y hy g1 rfl
      have d2 : ∀ q, (w2.drewN q).cell? ⟨g2, k, none⟩ = some (.int .u64 y) := fun q => hcell2 k y hy g2 rfl
      clear hy hne hf1 hf2 hcell1 hcell2
      go_wp2
      go_quiet (fail)
      go_wp2
      go_roundw
      case rel => exact ⟨k + 1, _, by omega, by go_num, rfl⟩
      case measure => simp [intOf]; omega
    · clear hcell1 hcell2 hf1 hf2
      go_wp2
      go_ret
      obtain ⟨p, hp⟩ := unhide hb2
      have ho := unhide ho2
      exact ⟨rfl, ⟨p, hp⟩, ⟨ho.os, ho.tape, ho.output, ho.size, ho.block⟩⟩

/-- One call of both readers, whatever it is. -/
theorem step20 (b g d : Nat) (bo : Option Addr) (bm bc : Nat) (L : List Int) (pos : Nat) (kind most : Int) (w : World) (h : Both w b g d bo bm bc L pos) (hm : most ≤ 9223372036854775807) :
    Calls Try.prog 20 #[.pointer (some ⟨b, 0, none⟩), .pointer (some ⟨d, 0, none⟩), .agg #[.int .i64 kind, .int .i64 most]] w fun e w' => StepPost w b g d bo bm bc L e w' := by
  by_cases hk : kind < 1 ∨ 5 < kind
  · exact step_0 b g d bo bm bc L pos kind most w h hk
  · have : kind = 1 ∨ kind = 2 ∨ kind = 3 ∨ kind = 4 ∨ kind = 5 := by omega
    rcases this with rfl | rfl | rfl | rfl | rfl
    · exact step_1 b g d bo bm bc L pos most w h
    · exact step_2 b g d bo bm bc L pos most w h
    · exact step_3 b g d bo bm bc L pos most w h
    · by_cases h0 : most < 0
      · exact step_4n b g d bo bm bc L pos most w h h0
      · exact step_4 b g d bo bm bc L pos most w h (by omega) hm
    · by_cases h0 : most < 0
      · exact step_5n b g d bo bm bc L pos most w h h0
      · exact step_5 b g d bo bm bc L pos most w h (by omega) hm

end Go.Proofs.Ytaljkpndfjfgdaa
