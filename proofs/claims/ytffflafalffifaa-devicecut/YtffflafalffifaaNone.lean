/-
  The walks over a device that is not there.
-/
import Derived.Test.YtffflafalffifaaKnownb
namespace Go.Proofs.Ytffflafalffifaa
open Go.RowKit

theorem same_nil (p q : Value) (w : World) (h : Sz w p 0) (h2 : Sz w q 0) : Calls Try.prog 17 #[p, q] w fun e w' => e = .returned (.bool true) ∧ w' = w := by
  have H1 := hide (none_yes p w h)
  have H2 := hide (none_yes q w h2)
  go_enter Try.func17, Try.ntmps17
  go_wp2_with (go_at_call 48; first | (refine (unhide H1).mono ?_; rintro e w' ⟨rfl, rfl⟩) | (refine (unhide H2).mono ?_; rintro e w' ⟨rfl, rfl⟩))
  go_ret
  exact ⟨rfl, rfl⟩
theorem same_half (b g : Nat) (D : Dev) (q : Value) (w : World) (h : Dv w b g D) (h2 : Sz w q 0) : Calls Try.prog 17 #[P0 b, q] w fun e w' => e = .returned (.bool false) ∧ w' = w := by
  have H1 := hide (none_no b g D w h)
  have H2 := hide (none_yes q w h2)
  go_enter Try.func17, Try.ntmps17
  go_wp2_with (go_at_call 48; first | (refine (unhide H1).mono ?_; rintro e w' ⟨rfl, rfl⟩) | (refine (unhide H2).mono ?_; rintro e w' ⟨rfl, rfl⟩))
  go_ret
  exact ⟨rfl, rfl⟩
theorem copy_nil (p : Value) (w : World) (h : Sz w p 0) : Calls Try.prog 21 #[p] w fun e w' => e = .returned (.pointer none) ∧ w' = w := by
  go_enter Try.func21, Try.ntmps21
  go_wp2_with (go_at_call 48; refine (none_yes p w h).mono ?_; rintro e w' ⟨rfl, rfl⟩)
  go_ret
  exact ⟨rfl, rfl⟩
set_option maxRecDepth 100000 in
theorem read_nil (p : Value) (x : Int) (w : World) (h : Sz w p 0) : Calls Try.prog 26 #[p, .int .i64 x] w fun e w' => e = .returned (.tuple #[secV nought, .int .i64 1]) ∧ Kept [] w w' := by
  have hb0 := hide (Box.new w)
  have hk0 := hide ((Kept.refl [] w).alloc (.cells (u8s nought).toArray 38))
  have hz := h.kept (unhide hk0) (by simp)
  go_enter Try.func26, Try.ntmps26
  go_wp2_with (first | (refine wpAllocS rfl rfl ?_) | (refine wpBuildS rfl rfl ?_) | (refine wpStoreS rfl (.tmp 4) (.tmp 9) rfl w.heap.size 0 nought rfl rfl nought_sec (unhide hb0).at.2.2 ?_) | (go_at_call 48; refine (none_yes _ _ hz).mono ?_; rintro e w' ⟨rfl, rfl⟩))
  exact bodyPost_ret (res26 _ w.heap.size nought 1 _ rfl rfl ((unhide hb0).put nought_sec)) rfl ⟨rfl, (unhide hk0).setCells _ _ (by simp)⟩
theorem write_nil0 (o : Option Addr) (x ep f : Int) (ao : Option Addr) (n c : Nat) (w : World) (h : Sz w (.pointer o) 0) (hf : -9223372036854775808 ≤ f ∧ f ≤ 9223372036854775807) :
    Calls Try.prog 22 #[.pointer o, .int .i64 x, .int .i64 ep, .int .i64 f, .slice ao n c] w fun e w' => e = .returned (.int .i64 1) ∧ Kept [] w w' := by
  have hk2 : Kept [] w ((w.alloc (.cells #[.pointer o] 24)).alloc (.cells #[.int .i64 f] 3)) := ((Kept.refl _ _).alloc _).alloc _
  have hz := h.kept hk2 (by simp)
  have hc1 : ((w.alloc (.cells #[.pointer o] 24)).alloc (.cells #[.int .i64 f] 3)).cell? ⟨w.heap.size, 0, none⟩ = some (.pointer o) := box_at (heap_alloc_old (heap_new rfl))
  have hc2 : ((w.alloc (.cells #[.pointer o] 24)).alloc (.cells #[.int .i64 f] 3)).cell? ⟨w.heap.size + 1, 0, none⟩ = some (.int .i64 f) := box_at (heap_new (by simp))
  have HF := hide hf
  clear hf
  go_enter Try.func22, Try.ntmps22
  go_wp2
  generalize (w.alloc (.cells #[.pointer o] 24)).alloc (.cells #[.int .i64 f] 3) = W at *
  go_step3
  go_wp2
  go_quiet ((first | (go_at_call 53; exact Calls.quiet_of_same (hasSectors53 _ _ _ _ _ (hz.kept (X := []) ((Kept.refl _ _).drewN _) (by simp)) (by omega) (unhide HF))) | (go_at_call 52; go_must (exact Calls.quiet_of_same (refusal_nil _ _ _ _ _ (hz.kept (X := []) ((Kept.refl _ _).drewN _) (by simp)))))))
  go_wp2
  try rw [Exit.noGoto_ret]
  go_ret
  exact ⟨rfl, hk2.drewN _⟩
theorem write_nil (p : Value) (x ep f : Int) (ao : Option Addr) (n c : Nat) (w : World) (h : Sz w p 0) (hf : -9223372036854775808 ≤ f ∧ f ≤ 9223372036854775807) :
    Calls Try.prog 22 #[p, .int .i64 x, .int .i64 ep, .int .i64 f, .slice ao n c] w fun e w' => e = .returned (.int .i64 1) ∧ Kept [] w w' := by
  have h0 := h
  rcases h0 with ⟨rfl, _⟩ | ⟨b, ao', cap, rfl, _⟩ <;> exact write_nil0 _ x ep f ao n c w h hf
theorem all40 (o : Option Addr) (w : World) : Calls Try.prog 40 #[.pointer o] w fun e w' => e = .returned (.func (.func 58) #[] #[P0 w.heap.size]) ∧ w' = w.alloc (.cells #[.pointer o] 24) := by
  go_enter Try.func40, Try.ntmps40
  go_wp2
  go_ret
  exact ⟨rfl, rfl⟩
theorem all58_nil (q : Nat) (p y : Value) (w : World) (h : Sz w p 0) (hq : w.cell? ⟨q, 0, none⟩ = some p) : Calls Try.prog 58 #[y, P0 q] w fun e w' => e = .returned (.tuple #[]) ∧ w' = w := by
  go_enter Try.func58, Try.ntmps58
  go_wp2_with (go_at_call 48; refine (none_yes p w h).mono ?_; rintro e w' ⟨rfl, rfl⟩)
  exact bodyPost_ret (results_none rfl _ _ _) rfl ⟨rfl, rfl⟩

end Go.Proofs.Ytffflafalffifaa
