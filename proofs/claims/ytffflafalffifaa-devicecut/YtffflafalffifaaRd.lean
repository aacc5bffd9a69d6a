/-
  The walk of Read.
-/
import Derived.Test.YtffflafalffifaaSec
namespace Go.Proofs.Ytffflafalffifaa
open Go.RowKit

/-- What Read tells. -/
def Dev.read (D : Dev) (x : Int) : List Int × Int := if hasS D.S.length x 1 then (D.S.getD x.toNat nought, 0) else (nought, 2)

theorem res26 (w : World) (z : Nat) (s : List Int) (e : Int) (tmps : Array Value) (h4 : tmps[4]?.getD undef = .pointer (some ⟨z, 0, none⟩)) (h5 : tmps[5]?.getD undef = .int .i64 e) (hb : Box w z s) : (results Try.f26 tmps).run Try.prog w = .ok (.tuple #[secV s, .int .i64 e]) w := by
  have := hb.at.loadVar
  simp [results, Try.results26, h4, h5, this, asAddr]

set_option maxHeartbeats 1000000 in
set_option maxRecDepth 100000 in
theorem read26 (b g : Nat) (D : Dev) (x : Int) (w : World) (h : Dv w b g D) (hx : -9223372036854775808 ≤ x ∧ x ≤ 9223372036854775807) :
    Calls Try.prog 26 #[.pointer (some ⟨b, 0, none⟩), .int .i64 x] w fun e w' => e = .returned (.tuple #[secV (D.read x).1, .int .i64 (D.read x).2]) ∧ Kept [] w w' := by
  have hlt := h.lt
  have hb0 := hide (Box.new w)
  have hk0 := hide ((Kept.refl [] w).alloc (.cells (u8s nought).toArray 38))
  have hD := h.alloc (.cells (u8s nought).toArray 38)
  have hC := hide (hasSectors53 _ _ x 1 _ hD.sz hD.ok.s1 hx)
  cases hN : hasS D.S.length x 1 with
  | false =>
    have hE : D.read x = (nought, 2) := by simp [Dev.read, hN]
    rw [hE]
    clear hE
    go_enter Try.func26, Try.ntmps26
    go_wp2_with (first | (refine wpAllocS rfl rfl ?_) | (refine wpBuildS rfl rfl ?_) | (refine wpStoreS rfl (.tmp 4) (.tmp 15) rfl w.heap.size 0 nought rfl rfl nought_sec (unhide hb0).at.2.2 ?_) | (go_at_call 48; refine (none_no _ _ _ _ hD).mono ?_; rintro e w' ⟨rfl, rfl⟩) | (go_at_call 53; refine (unhide hC).mono ?_; rintro e w' ⟨rfl, rfl⟩))
    exact bodyPost_ret (res26 _ w.heap.size nought 2 _ rfl rfl ((unhide hb0).put nought_sec)) rfl ⟨rfl, (unhide hk0).setCells _ _ (by simp)⟩
  | true =>
    have hb : 0 ≤ x ∧ 1 ≤ D.S.length - x := by simpa [hasS] using hN
    obtain ⟨k, rfl⟩ := Int.eq_ofNat_of_zero_le hb.1
    have hk : k < D.S.length := by omega
    have hE : D.read k = (D.S[k]'(by omega), 0) := by simp [Dev.read, hN, List.getD, hk]
    rw [hE]
    clear hE
    obtain ⟨cap, hh, _⟩ := hD.lay
    have hc := (hh.cells hD.ok).1
    have hA := hide (hD.sector k hk)
    clear hh
    go_enter Try.func26, Try.ntmps26
    go_wp2_with (first | (refine wpAllocS rfl rfl ?_) | (refine wpLoadS rfl (.tmp 21) rfl g (k * 64) rfl _ (unhide hA) ?_) | (refine wpStoreS rfl (.tmp 4) (.tmp 22) rfl w.heap.size 0 _ rfl rfl (unhide hA).1 (unhide hb0).at.2.2 ?_) | (go_at_call 48; refine (none_no _ _ _ _ hD).mono ?_; rintro e w' ⟨rfl, rfl⟩) | (go_at_call 53; refine (unhide hC).mono ?_; rintro e w' ⟨rfl, rfl⟩))
    exact bodyPost_ret (res26 _ w.heap.size _ 0 _ rfl rfl ((unhide hb0).put (unhide hA).1)) rfl ⟨rfl, (unhide hk0).setCells _ _ (by simp)⟩

end Go.Proofs.Ytffflafalffifaa
