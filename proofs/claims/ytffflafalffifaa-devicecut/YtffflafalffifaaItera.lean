/-
  The iterator All: its contract.
-/
import Derived.Test.YtffflafalffifaaIter
namespace Go.Proofs.Ytffflafalffifaa
open Go.RowKit Go.Shelf
attribute [local go_sem] Oper.semAt_some

theorem wideF (f : FuncId) : Fence.wide.fn f := trivial

set_option maxRecDepth 100000 in
set_option maxHeartbeats 2000000 in
theorem all58_in (n : Nat) (hn : 1 ≤ n) (l q b g : Nat) (D : Dev) (X : List Nat) (J Jx : List Row → World → Prop) (W : World) (hD : Dv W b g D) (hq : W.cell? ⟨q, 0, none⟩ = some (P0 b)) (hX : ∀ k ∈ X, k < W.heap.size)
    (hJ : ∀ s A B, J s A → A.grownBy B none → J s B)
    (hY : ∀ pre (x : Row) W1, J pre W1 → pre.length < D.S.length → YieldAt Fence.wide (n - 1) Try.prog l x.vals W1 fun e W' => (e = .returned (.bool true) ∧ J (pre ++ [x]) W' ∧ KeptC X W1 W') ∨ (e = .returned (.bool false) ∧ Jx (pre ++ [x]) W'))
    (h0 : J [] W) :
    CallsIn Fence.wide n Try.prog 58 #[.func (.yield l) #[] #[], P0 q] W fun e W' => (∃ v, e = .returned v) ∧
      ((∃ ys, ys = rows D.S hD.ok.sec D.S.length ∧ J ys W') ∨ (∃ pre, (∃ k, k ≤ D.S.length ∧ 0 < k ∧ pre = rows D.S hD.ok.sec k) ∧ Jx pre W')) := by
  obtain ⟨cap, hh, hbd⟩ := hD.lay
  have hc0 := (hh.cells hD.ok).1
  have hs0 := hD.ok.s0
  have hs1 := hD.ok.s1
  have hsec := hD.ok.sec
  have hN := hide (none_no b g D W hD)
  obtain ⟨ex0, hbd0, hbd1, hbd2, hbd3⟩ := hbd
  have hC := hide (clone51 (some ⟨g, 0, none⟩) D.S.length cap D.S W (secs_block hsec rfl hbd0 cap hbd1) (by omega) (by omega))
  have hFw := wideF
  refine callsIn_of_wp Try.func58 rfl trivial ?_ rfl
  simp only [Try.ntmps58, List.size_toArray, List.length_cons, List.length_nil, Nat.reduceAdd, Nat.reduceSub, Array.replicate_succ, Array.replicate_zero, List.push_toArray, List.append_toArray, List.nil_append, List.cons_append]
  gi_wp2_with (first | (gi_at_call 48; refine (callsIn_wide.2 (unhide hN)).mono ?_; rintro e w' ⟨rfl, rfl⟩) | (gi_at_call 51; refine (callsIn_wide.2 (unhide hC)).mono ?_; rintro e W1 ⟨c, cap1, ex, rfl, hc1, hc2, hc3, hc4, hc5, hk1⟩))
  have hA : Hid (∀ k (hk : k < D.S.length), W1.rangeAt c (k * 64) (u8s D.S[k])) := fun k hk => Body.range (cap := cap1) ⟨ex, hc2, hc3, hc4, hc5⟩ hsec k hk
  have hJ1 := hJ [] _ W1 h0 (grown_of_kept hk1)
  have hcX : Hid (c ∉ X) := fun h => by have := hX c h; omega
  have hcl := lt_of_block hc2
  clear hN hC hc0 hq hh hk1 h0
  gi_loopw [13] (fun i wr => ∃ k : Nat, k ≤ D.S.length ∧ i = .int .i64 k ∧ J (rows D.S hsec k) wr ∧ Hid (KeptC X W1 wr)) (fun i _ => D.S.length - (intOf i).toNat)
  case atStart => exact ⟨0, by omega, rfl, hJ1, KeptC.refl _ _⟩
  case round =>
    obtain ⟨k, hk, rfl, hJs, hKr⟩ := hrel
    by_cases hlt : k < D.S.length
    · have hr1 : Hid (wr.rangeAt c (k * 64) (u8s D.S[k])) := by
        intro j v hj
        have := (unhide hKr).block c _ _ hc2 (unhide hcX)
        have h2 := Body.range (cap := cap1) ⟨ex, this, hc3, hc4, hc5⟩ hsec k hlt
        exact h2 j v hj
      have hsk := hsec _ (List.getElem_mem hlt)
      have hB : Hid (Box (wr.alloc (.cells (u8s nought).toArray 38)) wr.heap.size nought) := Box.new wr
      have hB2 : Hid (Box ((wr.alloc (.cells (u8s nought).toArray 38)).setCells wr.heap.size 0 (u8s D.S[k])) wr.heap.size D.S[k]) := (unhide hB).put hsk
      have hkw : Kept [] wr ((wr.alloc (.cells (u8s nought).toArray 38)).setCells wr.heap.size 0 (u8s D.S[k])) := ((Kept.refl _ _).alloc _).setCells _ _ (by omega)
      have hJ2 := hJ _ _ _ hJs (grown_of_kept hkw)
      have hKr2 := hide ((unhide hKr).trans (KeptC.of_kept (hkw.mono (Y := X) (by simp))))
      obtain ⟨fn, tmps, assign, body, hy, hR⟩ := hY _ ⟨k, D.S[k], hsk⟩ _ hJ2 (by rw [rows_len]; exact hlt)
      simp only [Row.vals] at hy
      have hkI : (k : Int) < D.S.length := by omega
      clear hkw hJ2
      gi_wp2_with (first | (refine inLoadS wideF (by rfl) (.tmp 16) (by rfl) (by rfl) c (k * 64) (by rfl) D.S[k] hsk ?_ ?_; · exact unhide hr1) | (refine inAllocS wideF (by rfl) (by rfl) (by rfl) ?_) | (refine inStoreS wideF (by rfl) (.tmp 4) (.tmp 17) (by rfl) (by rfl) wr.heap.size 0 D.S[k] (by rfl) (by rfl) hsk ?_ ?_; · exact (unhide hB).at.2.2) | (refine inLoadS wideF (by rfl) (.tmp 4) (by rfl) (by rfl) wr.heap.size 0 (by rfl) D.S[k] hsk ?_ ?_; · exact (unhide hB2).at.2.1))
      refine hR.mono ?_
      rintro e W3 (⟨rfl, hJ3, hk3⟩ | ⟨rfl, hJx3⟩)
      · gi_wp2
        go_roundw
        case rel => exact ⟨k + 1, by omega, by go_num, by rw [rows_succ _ _ _ hlt]; exact hJ3, (unhide hKr2).trans hk3⟩
        case measure => simp [intOf]; omega
      · gi_wp2
        refine bodyPost_ret (results_none rfl _ _ _) rfl ?_
        exact ⟨⟨_, rfl⟩, .inr ⟨_, ⟨k + 1, by omega, by omega, (rows_succ _ _ _ hlt).symm⟩, hJx3⟩⟩
    · obtain rfl : k = D.S.length := by omega
      gi_wp2
      go_end0
      exact ⟨⟨_, rfl⟩, .inl ⟨_, rfl, hJs⟩⟩

end Go.Proofs.Ytffflafalffifaa
