/-
  The walks of psn, halfOf and between: what two sectors would say.
-/
import Derived.Test.YtkpkiibahfdomaaDoorPgLaid
import Derived.Laws.BitsAllLaws
namespace Go.Proofs.YtkpkiibahfdomaaDoor.Pg
open Go.RowKit

/-- The number in the first k of the places 2 to 5. -/
def psnK (s : List Int) : Nat → Nat
  | 0 => 0
  | k + 1 => psnK s k * 256 + (s.getD (2 + k) 0).toNat
/-- A sector's PSN. -/
def psnL (s : List Int) : Int := psnK s 4
theorem psnK_lt {s : List Int} (hs : Byts 64 s) : ∀ k, k ≤ 4 → psnK s k < 256 ^ k
  | 0, _ => by simp [psnK]
  | k + 1, h => by
    have := psnK_lt hs k (by omega)
    have h2 := hs.byte (s[2 + k]'(by rw [hs.len]; omega)) (List.getElem_mem _)
    have e : s.getD (2 + k) 0 = s[2 + k]'(by rw [hs.len]; omega) := by simp [List.getD, hs.len, show 2 + k < 64 by omega]
    rw [psnK, e, Nat.pow_succ]
    omega
theorem pow256_le (k : Nat) (h : k ≤ 4) : 256 ^ k ≤ 4294967296 := by
  have h8 : (256 : Nat) ^ 4 = 4294967296 := by decide
  rw [← h8]; exact Nat.pow_le_pow_right (by decide) h

theorem wraps_i64 (n : Int) (h₀ : 0 ≤ n) (h₁ : n < 2 ^ 63) : IntKind.i64.wrap n = n := by rw [IntKind.wrap_i64]; omega
theorem or_psn (a c : Nat) (ha : a < 16777216) (hc : c < 256) : bits .or .i64 ((a : Int) * 256) (c : Int) = (a : Int) * 256 + c :=
  bits_join .i64 63 (by decide) wraps_i64 8 _ _ (by omega) (by omega) (by omega) (by omega) (by omega) (by omega)

set_option maxHeartbeats 1000000 in
set_option maxRecDepth 100000 in
theorem psn29 (s : List Int) (hs : Byts 64 s) (w : World) : Calls Tryd.prog 42 #[aggV (u8s s)] w fun e w' => e = .returned (.int .i64 (psnL s)) ∧ Kept [] w w' := by
  have hb : Hid (Blk (w.alloc (.cells (u8s s).toArray 29)) w.heap.size 29 (u8s s)) := Blk.new w 29 _
  have hk := hide ((Kept.refl [] w).alloc (.cells (u8s s).toArray 29))
  go_enter Tryd.func42, Tryd.ntmps42
  go_wp2_with (refine wpBoxA rfl (.tmp 0) rfl (u8s s) rfl ?_)
  go_loopw [8, 3] (fun i n wr => ∃ k : Nat, k ≤ 4 ∧ i = .int .i64 k ∧ n = .int .i64 (psnK s k) ∧ wr = w.alloc (.cells (u8s s).toArray 29)) (fun i _ _ => 4 - (intOf i).toNat)
  case atStart => exact ⟨0, by omega, rfl, rfl, rfl⟩
  case round =>
    obtain ⟨k, hk4, rfl, rfl, rfl⟩ := hrel
    by_cases hlt : k < 4
    · have hl : 2 + k < s.length := by rw [hs.len]; omega
      have hx := hs.byte s[2 + k] (List.getElem_mem _)
      obtain ⟨c, hc⟩ := Int.eq_ofNat_of_zero_le hx.1
      have q : (w.alloc (.cells (u8s s).toArray 29)).cell? ⟨w.heap.size, 2 + k, none⟩ = some (.int .u8 c) := fits_cell (unhide hb) (2 + k) _ (by simp [u8s, hl]; exact hc)
      have hlk := psnK_lt hs k (by omega)
      have hp := pow256_le k (by omega)
      have hp3 : 256 ^ k ≤ 16777216 := by
        have h8 : (256 : Nat) ^ 3 = 16777216 := by decide
        rw [← h8]; exact Nat.pow_le_pow_right (by decide) (by omega)
      have ho := or_psn (psnK s k) c (by omega) (by omega)
      have hn : psnK s (k + 1) = psnK s k * 256 + c := by
        rw [psnK]; congr 1; simp [List.getD, hl]; omega
      go_wp2_with fail
      refine ⟨⟨k + 1, by omega, by simp, by rw [hn]; simp, trivial⟩, by simp [intOf]; omega⟩
    · obtain rfl : k = 4 := by omega
      go_wp2_with fail
      go_ret
      exact ⟨rfl, unhide hk⟩

/-- A sector's half of a body. -/
def halfL (s : List Int) : List Int := (s.drop 6).take 48
theorem halfL_byts {s : List Int} (hs : Byts 64 s) : Byts 48 (halfL s) :=
  ⟨by simp [halfL, hs.len], fun x hx => hs.byte x (List.mem_of_mem_drop (List.mem_of_mem_take hx))⟩

theorem half_at {W : World} {b T : Nat} {s : List Int} (h : Blk W b T (u8s s)) : ∀ j v, (u8s (halfL s))[j]? = some v → W.cell? ((⟨b, 6, none⟩ : Addr).add j) = some v := by
  intro j v hj
  have hl : j < 48 := by
    have := (List.getElem?_eq_some_iff.1 hj).1
    rw [u8s_len, halfL, List.length_take] at this
    omega
  rw [Addr.add_mid, h.cell]
  simp only [u8s, halfL, List.map_take, List.map_drop] at hj
  rw [List.getElem?_take_of_lt hl, List.getElem?_drop] at hj
  exact hj

theorem res45 (w : World) (z : Nat) (vs : List Value) (tmps : Array Value) (h4 : tmps[2]?.getD undef = P0 z) (hl : vs.length = 48) (hb : Blk w z 84 vs) : (results Tryd.f45 tmps).run Tryd.prog w = .ok (aggV vs) w := by
  have := loadV row84 hl hb
  simp [results, Tryd.results45, h4, this, asAddr]

set_option maxHeartbeats 1000000 in
set_option maxRecDepth 100000 in
theorem halfOf31 (s : List Int) (hs : Byts 64 s) (w : World) : Calls Tryd.prog 45 #[aggV (u8s s)] w fun e w' => e = .returned (aggV (u8s (halfL s))) ∧ Kept [] w w' := by
  have hl := (halfL_byts hs).len
  have hll : (u8s (halfL s)).length = 48 := by rw [u8s_len, hl]
  go_enter Tryd.func45, Tryd.ntmps45
  go_wp2_with (
    first
    | (refine wpBoxA rfl (.tmp 0) rfl (u8s s) rfl ?_)
    | (refine wpAllocV (u8s (zs 48)) zero84 3 rfl rfl rfl ?_
       intro W eW
       have b0 : Hid (Blk W w.heap.size 29 (u8s s)) := by rw [eW]; exact ((Blk.new' rfl).alloc _).alloc _
       have b1 : Hid (Blk W (w.heap.size + 1) 84 (u8s (zs 48))) := by rw [eW]; exact (Blk.new' (by simp)).alloc _
       have b2 : Hid (Blk W (w.heap.size + 1 + 1) 84 (u8s (zs 48))) := by rw [eW]; exact Blk.new' (by simp)
       have hk : Hid (Kept [] w W) := by rw [eW]; exact (((Kept.refl _ _).alloc _).alloc _).alloc _
       clear eW)
    | (refine wpAllocA (u8s (zs 48)) zero84 rfl rfl ?_))
  go_region_law (refine step_copy_splice rfl (.tmp 4) (.tmp 5) 90 90 rfl 5 Tryd.underlying90 Tryd.size5 (some ⟨w.heap.size + 1 + 1, 0, none⟩) (some ⟨w.heap.size, 6, none⟩) 48 48 58 58 rfl rfl (w.heap.size + 1 + 1) 0 (u8s (zs 48)) 84 (unhide b2) (u8s (halfL s)) hll (fun _ => ⟨rfl, _, rfl, half_at (unhide b0)⟩) (by simp [u8s_len, hl, zs]) (u8s_one _) (w.heap.size + 1 + 1) W.drew (Below.refl _ _) (Nat.le_refl _) ?_; intro w4 hg4 hb4)
  have g3 : Hid (Blk w4 (w.heap.size + 1 + 1) 84 (u8s (halfL s))) := by
    have := unhide hg4
    have e : splice (u8s (zs 48)) 0 (u8s (halfL s)) = u8s (halfL s) := by unfold splice; simp [hll]; simp [u8s, zs]
    rw [e] at this
    exact this
  have g2 : Hid (Blk w4 (w.heap.size + 1) 84 (u8s (zs 48))) := by
    show _ = _
    rw [hb4.block _ (by omega)]
    exact unhide b1
  have gk : Hid (Kept [] w w4) := keptBelow (unhide hk).drew hb4 (by omega)
  clear hg4 hb4 b0 b1 b2 hk
  go_wp2_with (
    first
    | (refine wpLoadA row84 rfl (.tmp 3) rfl (w.heap.size + 1 + 1) 0 rfl (u8s (halfL s)) hll (unhide g3).range ?_)
    | (refine wpStoreA row84 rfl (.tmp 2) (.tmp 7) rfl (w.heap.size + 1) 0 (u8s (halfL s)) rfl rfl hll (u8s_one _) ((unhide g2).there (by simp [u8s_len, zs])) ?_))
  have g4 := (unhide g2).put (vs := u8s (halfL s)) (by simp [u8s_len, zs, hl])
  exact bodyPost_ret (res45 _ _ _ _ rfl hll g4) rfl ⟨rfl, (unhide gk).setCells _ _ (by omega)⟩

end Go.Proofs.YtkpkiibahfdomaaDoor.Pg
