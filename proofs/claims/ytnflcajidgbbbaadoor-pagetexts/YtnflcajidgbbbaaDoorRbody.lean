/-
  The walk of the document's Body.
-/
import Derived.Test.YtnflcajidgbbbaaDoorRunw
import Derived.Test.YtnflcajidgbbbaaDoorKnown
namespace Go.Proofs.YtnflcajidgbbbaaDoor
open Go.RowKit

theorem res21 (w : World) (z : Nat) (vs : List Value) (e : Int) (tmps : Array Value) (h2 : tmps[2]?.getD undef = P0 z) (h3 : tmps[3]?.getD undef = .int .i64 e) (hl : vs.length = 96) (hb : Blk w z 23 vs) : (results Tryd.f21 tmps).run Tryd.prog w = .ok (.tuple #[aggV vs, .int .i64 e]) w := by
  have := loadV row23 hl hb
  simp [results, Tryd.results21, h2, h3, this, asAddr]
theorem unword_no {L : List Int} (hL : ∀ x ∈ L, 0 ≤ x ∧ x < 256) (hLl : L.length ≤ 288) (h : rok L = false) (w : World) : Calls Tryd.prog 35 #[strV L] w fun e w' => ∃ v, e = .returned (.tuple #[v, .bool false]) ∧ Kept [] w w' :=
  (unword35 L hL hLl w).mono fun e w' ⟨v, h1, _, h3⟩ => ⟨v, by rw [h1, h], h3⟩
theorem unword_yes {L : List Int} (hL : ∀ x ∈ L, 0 ≤ x ∧ x < 256) (hLl : L.length ≤ 288) (h : rok L = true) {b : List Int} (hb : rbytes L = b) (w : World) : Calls Tryd.prog 35 #[strV L] w fun e w' => ∃ v, e = .returned (.tuple #[v, .bool true]) ∧ SlB w.heap.size w' v b ∧ Kept [] w w' :=
  (unword35 L hL hLl w).mono fun e w' ⟨v, h1, h2, h3⟩ => ⟨v, by rw [h1, h], hb ▸ h2 h, h3⟩
theorem pad_nil : pad [] = zs 96 := by simp [pad]
/-- What the document's Body tells. -/
def rbodyL (L : List Int) : List Int × Int :=
  if 288 < L.length then (zs 96, 3) else if rok L = false ∨ 96 < (rbytes L).length ∨ (rbytes L).getD ((rbytes L).length - 1) 1 = 0 then (zs 96, 4) else (pad (rbytes L), 0)

set_option maxHeartbeats 4000000 in
set_option maxRecDepth 100000 in
theorem rbody_A (L : List Int) (e1 : decide (288 < (L.length : Int)) = true) (w : World) : Calls Tryd.prog 21 #[strV L] w fun e w' => e = .returned (.tuple #[aggV (u8s (zs 96)), .int .i64 3]) ∧ Kept [] w w' := by
  have hlen := run_lenS L
  go_enter Tryd.func21, Tryd.ntmps21
  go_wp2_with (
    first
    | (refine wpAllocV (u8s (zs 96)) zero23 2 (by rfl) (by rfl) (by rfl) ?_
       intro W2 eW2
       have M : Hid (Mem w W2 [(w.heap.size, 23, u8s (zs 96))]) := ⟨fun x hx => by simp only [List.mem_cons, List.mem_nil_iff, or_false] at hx; subst hx; rw [eW2]; exact Blk.new' rfl, by rw [eW2]; exact (Kept.refl _ _).alloc _⟩
       clear eW2)
    | (refine wpAllocV (u8s (zs 96)) zero23 4 (by rfl) (by rfl) (by rfl) ?_
       intro W4 eW4
       have L4 : w.heap.size < W2.heap.size := ((unhide M).blk (w.heap.size, 23, u8s (zs 96)) (by simp)).lt
       replace M := hide ((unhide M).add (show Kept [] W2 W4 by rw [eW4]; exact (Kept.refl _ _).alloc _) (show Blk W4 W2.heap.size 23 (u8s (zs 96)) by rw [eW4]; exact Blk.new' rfl))
       generalize W2.heap.size = b4 at *
       clear eW4)
    | (refine wpLoadA row23 (by rfl) (.tmp 4) (by rfl) b4 0 (by rfl) (u8s (zs 96)) zl96 ((unhide M).blk (b4, 23, u8s (zs 96)) (by simp)).range ?_)
    | (refine wpStoreA row23 (by rfl) (.tmp 2) (.tmp 11) (by rfl) w.heap.size 0 (u8s (zs 96)) (by rfl) (by rfl) zl96 (u8s_one _) (((unhide M).blk (w.heap.size, 23, u8s (zs 96)) (by simp)).there (by rw [zl96]; omega)) ?_))
  have g4 := ((unhide M).blk (w.heap.size, 23, u8s (zs 96)) (by simp)).put (vs := u8s (zs 96)) rfl
  exact bodyPost_ret (res21 _ _ _ _ _ rfl rfl zl96 g4) rfl ⟨rfl, (unhide M).k.setCells _ _ (by omega)⟩

set_option maxHeartbeats 4000000 in
set_option maxRecDepth 100000 in
theorem rbody_B (L : List Int) (hL : ∀ x ∈ L, 0 ≤ x ∧ x < 256) (hLl : L.length ≤ 288) (e1 : decide (288 < (L.length : Int)) = false) (hr : Hid (rok L = false)) (w : World) : Calls Tryd.prog 21 #[strV L] w fun e w' => e = .returned (.tuple #[aggV (u8s (zs 96)), .int .i64 4]) ∧ Kept [] w w' := by
  have hlen := run_lenS L
  go_enter Tryd.func21, Tryd.ntmps21
  go_wp2_with (
    first
    | (refine wpAllocV (u8s (zs 96)) zero23 2 (by rfl) (by rfl) (by rfl) ?_
       intro W2 eW2
       have M : Hid (Mem w W2 [(w.heap.size, 23, u8s (zs 96))]) := ⟨fun x hx => by simp only [List.mem_cons, List.mem_nil_iff, or_false] at hx; subst hx; rw [eW2]; exact Blk.new' rfl, by rw [eW2]; exact (Kept.refl _ _).alloc _⟩
       clear eW2)
    | (refine wpAllocV (u8s (zs 96)) zero23 4 (by rfl) (by rfl) (by rfl) ?_
       intro W4 eW4
       have L4 : w.heap.size < W2.heap.size := ((unhide M).blk (w.heap.size, 23, u8s (zs 96)) (by simp)).lt
       replace M := hide ((unhide M).add (show Kept [] W2 W4 by rw [eW4]; exact (Kept.refl _ _).alloc _) (show Blk W4 W2.heap.size 23 (u8s (zs 96)) by rw [eW4]; exact Blk.new' rfl))
       generalize W2.heap.size = b4 at *
       clear eW4))
  refine (unword_no hL hLl (unhide hr) _).mono ?_
  rintro e w1 ⟨v, rfl, k1⟩
  replace M := hide ((unhide M).quiet k1)
  clear k1
  go_wp2_with (
    first
    | (refine wpLoadA row23 (by rfl) (.tmp 4) (by rfl) b4 0 (by rfl) (u8s (zs 96)) zl96 ((unhide M).blk (b4, 23, u8s (zs 96)) (by simp)).range ?_)
    | (refine wpStoreA row23 (by rfl) (.tmp 2) (.tmp 38) (by rfl) w.heap.size 0 (u8s (zs 96)) (by rfl) (by rfl) zl96 (u8s_one _) (((unhide M).blk (w.heap.size, 23, u8s (zs 96)) (by simp)).there (by rw [zl96]; omega)) ?_))
  have g4 := ((unhide M).blk (w.heap.size, 23, u8s (zs 96)) (by simp)).put (vs := u8s (zs 96)) rfl
  exact bodyPost_ret (res21 _ _ _ _ _ rfl rfl zl96 g4) rfl ⟨rfl, (unhide M).k.setCells _ _ (by omega)⟩

set_option maxHeartbeats 4000000 in
set_option maxRecDepth 100000 in
theorem rbody_C (L : List Int) (hL : ∀ x ∈ L, 0 ≤ x ∧ x < 256) (hLl : L.length ≤ 288) (e1 : decide (288 < (L.length : Int)) = false) (b : List Int) (hr : Hid (rok L = true)) (hB : Hid (rbytes L = b)) (e2 : decide (96 < (b.length : Int)) = true) (w : World) : Calls Tryd.prog 21 #[strV L] w fun e w' => e = .returned (.tuple #[aggV (u8s (zs 96)), .int .i64 4]) ∧ Kept [] w w' := by
  have hlen := run_lenS L
  go_enter Tryd.func21, Tryd.ntmps21
  go_wp2_with (
    first
    | (refine wpAllocV (u8s (zs 96)) zero23 2 (by rfl) (by rfl) (by rfl) ?_
       intro W2 eW2
       have M : Hid (Mem w W2 [(w.heap.size, 23, u8s (zs 96))]) := ⟨fun x hx => by simp only [List.mem_cons, List.mem_nil_iff, or_false] at hx; subst hx; rw [eW2]; exact Blk.new' rfl, by rw [eW2]; exact (Kept.refl _ _).alloc _⟩
       clear eW2)
    | (refine wpAllocV (u8s (zs 96)) zero23 4 (by rfl) (by rfl) (by rfl) ?_
       intro W4 eW4
       have L4 : w.heap.size < W2.heap.size := ((unhide M).blk (w.heap.size, 23, u8s (zs 96)) (by simp)).lt
       replace M := hide ((unhide M).add (show Kept [] W2 W4 by rw [eW4]; exact (Kept.refl _ _).alloc _) (show Blk W4 W2.heap.size 23 (u8s (zs 96)) by rw [eW4]; exact Blk.new' rfl))
       generalize W2.heap.size = b4 at *
       clear eW4))
  refine (unword_yes hL hLl (unhide hr) (unhide hB) _).mono ?_
  rintro e w1 ⟨v, rfl, hS, k1⟩
  replace M := hide ((unhide M).quiet k1)
  clear k1
  rcases hS with ⟨rfl, rfl⟩ | ⟨g, cap, hgB, rfl, hS⟩
  · simp at e2
  clear hS hgB
  go_wp2_with (
    first
    | (refine wpLoadA row23 (by rfl) (.tmp 4) (by rfl) b4 0 (by rfl) (u8s (zs 96)) zl96 ((unhide M).blk (b4, 23, u8s (zs 96)) (by simp)).range ?_)
    | (refine wpStoreA row23 (by rfl) (.tmp 2) (.tmp 38) (by rfl) w.heap.size 0 (u8s (zs 96)) (by rfl) (by rfl) zl96 (u8s_one _) (((unhide M).blk (w.heap.size, 23, u8s (zs 96)) (by simp)).there (by rw [zl96]; omega)) ?_))
  have g4 := ((unhide M).blk (w.heap.size, 23, u8s (zs 96)) (by simp)).put (vs := u8s (zs 96)) rfl
  exact bodyPost_ret (res21 _ _ _ _ _ rfl rfl zl96 g4) rfl ⟨rfl, (unhide M).k.setCells _ _ (by omega)⟩

set_option maxHeartbeats 4000000 in
set_option maxRecDepth 100000 in
theorem rbody_D (L : List Int) (hL : ∀ x ∈ L, 0 ≤ x ∧ x < 256) (hLl : L.length ≤ 288) (e1 : decide (288 < (L.length : Int)) = false) (b : List Int) (hr : Hid (rok L = true)) (hB : Hid (rbytes L = b)) (e2 : decide (96 < (b.length : Int)) = false) (hpos : 0 < b.length) (hb96 : b.length ≤ 96) (e3 : decide (0 < (b.length : Int)) = true) (hz : b[b.length - 1]? = some 0) (w : World) : Calls Tryd.prog 21 #[strV L] w fun e w' => e = .returned (.tuple #[aggV (u8s (zs 96)), .int .i64 4]) ∧ Kept [] w w' := by
  have hlen := run_lenS L
  go_enter Tryd.func21, Tryd.ntmps21
  go_wp2_with (
    first
    | (refine wpAllocV (u8s (zs 96)) zero23 2 (by rfl) (by rfl) (by rfl) ?_
       intro W2 eW2
       have M : Hid (Mem w W2 [(w.heap.size, 23, u8s (zs 96))]) := ⟨fun x hx => by simp only [List.mem_cons, List.mem_nil_iff, or_false] at hx; subst hx; rw [eW2]; exact Blk.new' rfl, by rw [eW2]; exact (Kept.refl _ _).alloc _⟩
       clear eW2)
    | (refine wpAllocV (u8s (zs 96)) zero23 4 (by rfl) (by rfl) (by rfl) ?_
       intro W4 eW4
       have L4 : w.heap.size < W2.heap.size := ((unhide M).blk (w.heap.size, 23, u8s (zs 96)) (by simp)).lt
       replace M := hide ((unhide M).add (show Kept [] W2 W4 by rw [eW4]; exact (Kept.refl _ _).alloc _) (show Blk W4 W2.heap.size 23 (u8s (zs 96)) by rw [eW4]; exact Blk.new' rfl))
       generalize W2.heap.size = b4 at *
       clear eW4))
  refine (unword_yes hL hLl (unhide hr) (unhide hB) _).mono ?_
  rintro e w1 ⟨v, rfl, hS, k1⟩
  replace M := hide ((unhide M).quiet k1)
  clear k1
  rcases hS with ⟨rfl, rfl⟩ | ⟨g, cap, hgB, rfl, hS⟩
  · simp at hpos
  have c0 : w1.cell? ⟨g, b.length - 1, none⟩ = some (.int .u8 0) := by
    have := hS (b.length - 1) (.int .u8 0) (by simp [u8s, hz])
    rw [Nat.zero_add] at this
    exact this
  have h1 : ((b.length : Int) - 1).toNat = b.length - 1 := by omega
  clear hS hz hgB
  generalize hm : b.length = m at *
  obtain ⟨j, rfl⟩ : ∃ j, m = j + 1 := ⟨m - 1, by omega⟩
  rw [Nat.add_sub_cancel] at c0 h1
  go_wp2_with (
    first
    | (refine wpLoadA row23 (by rfl) (.tmp 4) (by rfl) b4 0 (by rfl) (u8s (zs 96)) zl96 ((unhide M).blk (b4, 23, u8s (zs 96)) (by simp)).range ?_)
    | (refine wpStoreA row23 (by rfl) (.tmp 2) (.tmp 38) (by rfl) w.heap.size 0 (u8s (zs 96)) (by rfl) (by rfl) zl96 (u8s_one _) (((unhide M).blk (w.heap.size, 23, u8s (zs 96)) (by simp)).there (by rw [zl96]; omega)) ?_))
  have g4 := ((unhide M).blk (w.heap.size, 23, u8s (zs 96)) (by simp)).put (vs := u8s (zs 96)) rfl
  exact bodyPost_ret (res21 _ _ _ _ _ rfl rfl zl96 g4) rfl ⟨rfl, (unhide M).k.setCells _ _ (by omega)⟩

set_option maxHeartbeats 4000000 in
set_option maxRecDepth 100000 in
theorem rbody_E (L : List Int) (hL : ∀ x ∈ L, 0 ≤ x ∧ x < 256) (hLl : L.length ≤ 288) (e1 : decide (288 < (L.length : Int)) = false) (b : List Int) (hr : Hid (rok L = true)) (hB : Hid (rbytes L = b)) (e2 : decide (96 < (b.length : Int)) = false) (hpos : 0 < b.length) (hb96 : b.length ≤ 96) (e3 : decide (0 < (b.length : Int)) = true) (y : Int) (hz : b[b.length - 1]? = some y) (hy : (y == 0) = false) (w : World) : Calls Tryd.prog 21 #[strV L] w fun e w' => e = .returned (.tuple #[aggV (u8s (pad b)), .int .i64 0]) ∧ Kept [] w w' := by
  have hlen := run_lenS L
  go_enter Tryd.func21, Tryd.ntmps21
  go_wp2_with (
    first
    | (refine wpAllocV (u8s (zs 96)) zero23 2 (by rfl) (by rfl) (by rfl) ?_
       intro W2 eW2
       have M : Hid (Mem w W2 [(w.heap.size, 23, u8s (zs 96))]) := ⟨fun x hx => by simp only [List.mem_cons, List.mem_nil_iff, or_false] at hx; subst hx; rw [eW2]; exact Blk.new' rfl, by rw [eW2]; exact (Kept.refl _ _).alloc _⟩
       clear eW2)
    | (refine wpAllocV (u8s (zs 96)) zero23 4 (by rfl) (by rfl) (by rfl) ?_
       intro W4 eW4
       have L4 : w.heap.size < W2.heap.size := ((unhide M).blk (w.heap.size, 23, u8s (zs 96)) (by simp)).lt
       replace M := hide ((unhide M).add (show Kept [] W2 W4 by rw [eW4]; exact (Kept.refl _ _).alloc _) (show Blk W4 W2.heap.size 23 (u8s (zs 96)) by rw [eW4]; exact Blk.new' rfl))
       generalize W2.heap.size = b4 at *
       clear eW4))
  have L5 : w.heap.size < b4 := L4
  have L6 := hide (((unhide M).blk (b4, 23, u8s (zs 96)) (by simp)).lt)
  refine (unword_yes hL hLl (unhide hr) (unhide hB) _).mono ?_
  rintro e w1 ⟨v, rfl, hS, k1⟩
  replace M := hide ((unhide M).quiet k1)
  clear k1
  rcases hS with ⟨rfl, rfl⟩ | ⟨g, cap, hgB, rfl, hS⟩
  · simp at hpos
  have L7 := unhide L6
  have c0 : w1.cell? ⟨g, b.length - 1, none⟩ = some (.int .u8 y) := by
    have := hS (b.length - 1) (.int .u8 y) (by simp [u8s, hz])
    rw [Nat.zero_add] at this
    exact this
  have h1 : ((b.length : Int) - 1).toNat = b.length - 1 := by omega
  have h2 : b.length - 1 < b.length := by omega
  have HS := hide hS
  clear hS hz
  go_wp2_with fail
  clear c0
  go_loopw [7] (fun i wr => ∃ k : Nat, k ≤ b.length ∧ i = .int .i64 k ∧ Hid (Blk wr b4 23 (u8s (pad (b.take k)))) ∧ Hid (Kept [b4] w1 wr)) (fun i _ => b.length - (intOf i).toNat)
  case atStart => exact ⟨0, by omega, rfl, by rw [List.take_zero, pad_nil]; exact ((unhide M).blk (b4, 23, u8s (zs 96)) (by simp)), Kept.refl _ _⟩
  case round =>
    obtain ⟨k, hk2, rfl, RB, RK⟩ := hrel
    by_cases hlt : k < b.length
    · have htk : b.take (k + 1) = b.take k ++ [b[k]] := List.take_succ_eq_append_getElem hlt
      obtain ⟨x, ex⟩ : ∃ x, b[k] = x := ⟨_, rfl⟩
      have q : wr.cell? ⟨g, k, none⟩ = some (.int .u8 x) := by
        have := (unhide HS) k (.int .u8 x) (by simp [u8s, hlt, ex])
        rw [Nat.zero_add] at this
        exact (unhide RK).cell this (by simp; omega)
      rw [ex] at htk
      have htl : (b.take k).length = k := by rw [List.length_take]; omega
      have hP : Hid ((pad (b.take k)).set k x = pad (b.take (k + 1))) := by
        have := pad_snoc (m := b.take k) (by omega) x
        rw [htl] at this
        show _ = _
        rw [this, htk]
      have hpl : (pad (b.take k)).length = 96 := pad_len (by omega)
      have q6 : wr.cell? ⟨b4, k, none⟩ = some (.int .u8 ((pad (b.take k))[k]'(by omega))) := fits_cell (unhide RB) k _ (by simp [u8s, hpl, show k < 96 by omega])
      have z6 := (unhide RB).frozen k
      have kb : ((k : Int)).toNat = k := by omega
      clear htk ex
      go_wp2_with fail
      go_roundw
      case rel =>
        refine ⟨k + 1, by omega, by go_num, ?_, (unhide RK).setCell (by simp) _⟩
        have := (unhide RB).set (i := k) (.int .u8 x)
        rw [u8s_set, unhide hP] at this
        exact this
      case measure => simp [intOf]; omega
    · obtain rfl : k = b.length := by omega
      rw [List.take_length] at RB
      have g2 := (((unhide M).blk (w.heap.size, 23, u8s (zs 96)) (by simp)).kept (unhide RK) (by simp; omega))
      have hk := hide ((unhide M).k.fresh (unhide RK) (by intro i hi; simp at hi; omega))
      have G2 := hide g2
      have hpl : (u8s (pad b)).length = 96 := by rw [u8s_len, pad_len hb96]
      clear g2 RK
      go_wp2_with (
        first
        | (refine wpLoadA row23 (by rfl) (.tmp 4) (by rfl) b4 0 (by rfl) (u8s (pad b)) hpl (unhide RB).range ?_)
        | (refine wpStoreA row23 (by rfl) (.tmp 2) (.tmp 51) (by rfl) w.heap.size 0 (u8s (pad b)) (by rfl) (by rfl) hpl (u8s_one _) ((unhide G2).there (by rw [zl96]; omega)) ?_))
      have g4 := (unhide G2).put (vs := u8s (pad b)) (by rw [zl96, hpl])
      exact bodyPost_ret (res21 _ _ _ _ _ rfl rfl hpl g4) rfl ⟨rfl, (unhide hk).setCells _ _ (by omega)⟩

set_option maxHeartbeats 4000000 in
set_option maxRecDepth 100000 in
theorem rbody_F (L : List Int) (hL : ∀ x ∈ L, 0 ≤ x ∧ x < 256) (hLl : L.length ≤ 288) (e1 : decide (288 < (L.length : Int)) = false) (hr : Hid (rok L = true)) (hB : Hid (rbytes L = [])) (w : World) : Calls Tryd.prog 21 #[strV L] w fun e w' => e = .returned (.tuple #[aggV (u8s (zs 96)), .int .i64 0]) ∧ Kept [] w w' := by
  have hlen := run_lenS L
  go_enter Tryd.func21, Tryd.ntmps21
  go_wp2_with (
    first
    | (refine wpAllocV (u8s (zs 96)) zero23 2 (by rfl) (by rfl) (by rfl) ?_
       intro W2 eW2
       have M : Hid (Mem w W2 [(w.heap.size, 23, u8s (zs 96))]) := ⟨fun x hx => by simp only [List.mem_cons, List.mem_nil_iff, or_false] at hx; subst hx; rw [eW2]; exact Blk.new' rfl, by rw [eW2]; exact (Kept.refl _ _).alloc _⟩
       clear eW2)
    | (refine wpAllocV (u8s (zs 96)) zero23 4 (by rfl) (by rfl) (by rfl) ?_
       intro W4 eW4
       have L4 : w.heap.size < W2.heap.size := ((unhide M).blk (w.heap.size, 23, u8s (zs 96)) (by simp)).lt
       replace M := hide ((unhide M).add (show Kept [] W2 W4 by rw [eW4]; exact (Kept.refl _ _).alloc _) (show Blk W4 W2.heap.size 23 (u8s (zs 96)) by rw [eW4]; exact Blk.new' rfl))
       generalize W2.heap.size = b4 at *
       clear eW4))
  refine (unword_yes hL hLl (unhide hr) (unhide hB) _).mono ?_
  rintro e w1 ⟨v, rfl, hS, k1⟩
  replace M := hide ((unhide M).quiet k1)
  clear k1
  rcases hS with ⟨rfl, _⟩ | ⟨g, cap, _, rfl, _⟩
  · go_wp2_with fail
    go_loopw [7] (fun i wr => i = .int .i64 0 ∧ Hid (Mem w wr [(b4, 23, u8s (zs 96)), (w.heap.size, 23, u8s (zs 96))])) (fun _ _ => 0)
    case atStart => exact ⟨rfl, M⟩
    case round =>
      obtain ⟨rfl, M⟩ := hrel
      go_wp2_with (
        first
        | (refine wpLoadA row23 (by rfl) (.tmp 4) (by rfl) b4 0 (by rfl) (u8s (zs 96)) zl96 ((unhide M).blk (b4, 23, u8s (zs 96)) (by simp)).range ?_)
        | (refine wpStoreA row23 (by rfl) (.tmp 2) (.tmp 51) (by rfl) w.heap.size 0 (u8s (zs 96)) (by rfl) (by rfl) zl96 (u8s_one _) (((unhide M).blk (w.heap.size, 23, u8s (zs 96)) (by simp)).there (by rw [zl96]; omega)) ?_))
      have g4 := ((unhide M).blk (w.heap.size, 23, u8s (zs 96)) (by simp)).put (vs := u8s (zs 96)) rfl
      exact bodyPost_ret (res21 _ _ _ _ _ rfl rfl zl96 g4) rfl ⟨rfl, (unhide M).k.setCells _ _ (by omega)⟩
  · go_wp2_with fail
    go_loopw [7] (fun i wr => i = .int .i64 0 ∧ Hid (Mem w wr [(b4, 23, u8s (zs 96)), (w.heap.size, 23, u8s (zs 96))])) (fun _ _ => 0)
    case atStart => exact ⟨rfl, M⟩
    case round =>
      obtain ⟨rfl, M⟩ := hrel
      go_wp2_with (
        first
        | (refine wpLoadA row23 (by rfl) (.tmp 4) (by rfl) b4 0 (by rfl) (u8s (zs 96)) zl96 ((unhide M).blk (b4, 23, u8s (zs 96)) (by simp)).range ?_)
        | (refine wpStoreA row23 (by rfl) (.tmp 2) (.tmp 51) (by rfl) w.heap.size 0 (u8s (zs 96)) (by rfl) (by rfl) zl96 (u8s_one _) (((unhide M).blk (w.heap.size, 23, u8s (zs 96)) (by simp)).there (by rw [zl96]; omega)) ?_))
      have g4 := ((unhide M).blk (w.heap.size, 23, u8s (zs 96)) (by simp)).put (vs := u8s (zs 96)) rfl
      exact bodyPost_ret (res21 _ _ _ _ _ rfl rfl zl96 g4) rfl ⟨rfl, (unhide M).k.setCells _ _ (by omega)⟩

theorem rbody21 (L : List Int) (hL : ∀ x ∈ L, 0 ≤ x ∧ x < 256) (w : World) : Calls Tryd.prog 21 #[strV L] w fun e w' => e = .returned (.tuple #[aggV (u8s (rbodyL L).1), .int .i64 (rbodyL L).2]) ∧ Kept [] w w' := by
  unfold rbodyL
  by_cases h1 : 288 < L.length
  · rw [if_pos h1]
    exact rbody_A L (decide_eq_true (by omega)) w
  rw [if_neg h1]
  have hLl : L.length ≤ 288 := by omega
  have e1 : decide (288 < (L.length : Int)) = false := decide_eq_false (by omega)
  cases hr : rok L with
  | false =>
    rw [if_pos (.inl rfl)]
    exact rbody_B L hL hLl e1 hr w
  | true =>
    obtain ⟨b, hB⟩ : ∃ b, rbytes L = b := ⟨_, rfl⟩
    rw [hB]
    by_cases h2 : 96 < b.length
    · rw [if_pos (.inr (.inl h2))]
      exact rbody_C L hL hLl e1 b hr hB (decide_eq_true (by omega)) w
    have e2 : decide (96 < (b.length : Int)) = false := decide_eq_false (by omega)
    by_cases h0 : b = []
    · subst h0
      rw [if_neg (by simp), pad_nil]
      exact rbody_F L hL hLl e1 hr hB w
    have hpos : 0 < b.length := List.length_pos_iff.2 h0
    have hg : b[b.length - 1]? = some (b.getD (b.length - 1) 1) := by simp [List.getD, show b.length - 1 < b.length by omega]
    by_cases h3 : b.getD (b.length - 1) 1 = 0
    · rw [if_pos (.inr (.inr h3))]
      exact rbody_D L hL hLl e1 b hr hB e2 hpos (by omega) (decide_eq_true (by omega)) (by rw [hg, h3]) w
    · rw [if_neg (fun h => h.elim (fun h => by cases h) (fun h => h.elim h2 h3))]
      exact rbody_E L hL hLl e1 b hr hB e2 hpos (by omega) (decide_eq_true (by omega)) _ hg (beq_eq_false_iff_ne.2 h3) w

end Go.Proofs.YtnflcajidgbbbaaDoor
