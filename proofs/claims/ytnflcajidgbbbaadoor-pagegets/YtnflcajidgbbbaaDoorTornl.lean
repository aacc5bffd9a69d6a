/-
  The walk of the law PageTorn.
-/
import Derived.Test.YtnflcajidgbbbaaDoorTorn
namespace Go.Proofs.YtnflcajidgbbbaaDoor
open Go.RowKit

theorem row55 : Row 55 2 := ⟨_, Tryd.underlying55, rfl, by kernel_rfl⟩
/-- Two numbers as cells. -/
def twoC (p q : Int) : List Value := [.int .i64 p, .int .i64 q]
theorem build44a (w : World) (p n : Int) : (Instr.build 44 #[(0, .int .i64 p), (2, .int .i64 n)]).run Tryd.prog w = .ok (aggV (stC p 0 n)) w := by kernel_rfl
theorem put_eq {p n : Int} {s : List Int} (hs : Byts 96 s) (h : (putL p n s).2 = 0) (w : World) : Calls Tryd.prog 8 #[.int .i64 p, aggV (verC n s)] w fun e w' => e = .returned (.tuple #[aggV (u8s (fstL p n s ++ sndL p n s)), .int .i64 0]) ∧ Kept [] w w' := by
  have := put8 p n s hs w
  rw [putL_eq h, h] at this
  exact this
theorem whole_at {p : Int} {a b : List Int} (ha : Byts 64 a) (hb : Byts 64 b) {r : Bool} (h : decide ((getL p a b).2 = 0) = r) (w : World) : Calls Tryd.prog 14 #[.int .i64 p, aggV (u8s a), aggV (u8s b)] w fun e w' => e = .returned (.bool r) ∧ Kept [] w w' := h ▸ whole14 p a b ha hb w
theorem stamp_at {s : List Int} (hs : Byts 64 s) {r : (Int × Int × Int) × Bool} (h : stampL s = r) (w : World) : Calls Tryd.prog 16 #[aggV (u8s s)] w fun e w' => e = .returned (.tuple #[aggV (stC r.1.1 r.1.2.1 r.1.2.2), .bool r.2]) ∧ Kept [] w w' := h ▸ stamp16 s hs w
theorem mem_cell {w W : World} {Bs : List (Nat × Nat × List Value)} (h : Mem w W Bs) (b T : Nat) (vs : List Value) (hx : (b, T, vs) ∈ Bs) (i : Nat) (v : Value) (hv : vs[i]? = some v) : W.cell? ⟨b, i, none⟩ = some v := fits_cell (h.blk _ hx) i v hv

set_option maxHeartbeats 8000000 in
set_option maxRecDepth 100000 in
theorem torn_bad (p q n m : Int) (s t : List Int) (hs : Byts 96 s) (ht : Byts 96 t) (hb : (putL p n s).2 + (putL q m t).2 ≠ 0) (w : World) : Calls Tryd.prog 6 #[aggV (twoC p q), aggV (verC n s), aggV (verC m t)] w fun e w' => e = .returned (.bool true) ∧ Kept [] w w' := by
  have hvs : (verC n s).length = 97 := verC_len hs.len
  have hvt : (verC m t).length = 97 := verC_len ht.len
  obtain ⟨A, hA⟩ : ∃ A, (putL p n s).1 = A := ⟨_, rfl⟩
  obtain ⟨c, hc⟩ : ∃ c, (putL p n s).2 = c := ⟨_, rfl⟩
  obtain ⟨B, hB⟩ : ∃ B, (putL q m t).1 = B := ⟨_, rfl⟩
  obtain ⟨d, hd⟩ : ∃ d, (putL q m t).2 = d := ⟨_, rfl⟩
  have hAl : (u8s A).length = 128 := by rw [u8s_len, ← hA]; exact (putL_byts hs).len
  have hBl : (u8s B).length = 128 := by rw [u8s_len, ← hB]; exact (putL_byts ht).len
  have hP1 : putL p n s = (A, c) := by rw [← hA, ← hc]
  have hP2 : putL q m t = (B, d) := by rw [← hB, ← hd]
  have hcr : 0 ≤ c ∧ c ≤ 2 := by rw [← hc]; unfold putL; split; simp; split <;> simp
  have hdr : 0 ≤ d ∧ d ≤ 2 := by rw [← hd]; unfold putL; split; simp; split <;> simp
  rw [hc, hd] at hb
  have hcd : (c + d != 0) = true := by simpa using hb
  have HP1 := hide hP1
  have HP2 := hide hP2
  clear hA hc hB hd hP1 hP2 hb
  go_enter Tryd.func6, Tryd.ntmps6
  have M : Hid (Mem w (((w.alloc (.cells (twoC p q).toArray 55)).alloc (.cells (verC n s).toArray 25)).alloc (.cells (verC m t).toArray 25)) [(w.heap.size, 55, twoC p q), (w.heap.size + 1, 25, verC n s), (w.heap.size + 1 + 1, 25, verC m t)]) := by
    refine ⟨fun x hx => ?_, (((Kept.refl _ _).alloc _).alloc _).alloc _⟩
    simp only [List.mem_cons, List.mem_nil_iff, or_false] at hx
    rcases hx with rfl | rfl | rfl
    · exact ((Blk.new' rfl).alloc _).alloc _
    · exact (Blk.new' (by simp)).alloc _
    · exact Blk.new' (by simp)
  go_wp2_with (
    first
    | (refine wpBoxA (by rfl) (.tmp 0) (by rfl) (twoC p q) (by kernel_rfl) ?_)
    | (refine wpBoxA (by rfl) (.tmp 1) (by rfl) (verC n s) (by kernel_rfl) ?_)
    | (refine wpBoxA (by rfl) (.tmp 2) (by rfl) (verC m t) (by kernel_rfl) ?_))
  refine (known11 _).mono ?_
  rintro e w1 ⟨rfl, k1⟩
  replace M := hide ((unhide M).quiet k1)
  clear k1
  have c0 := mem_cell (unhide M) w.heap.size 55 (twoC p q) (by simp) 0 (.int .i64 p) rfl
  have c1 := mem_cell (unhide M) w.heap.size 55 (twoC p q) (by simp) 1 (.int .i64 q) rfl
  go_wp2_with fail
  go_region
  replace M := hide ((unhide M).quiet (show Kept [] w1 w1.drew from ⟨rfl, rfl, rfl, Nat.le_refl _, fun _ _ _ => rfl⟩))
  clear c0 c1
  generalize w1.drew = w2 at *
  go_wp2_with (
    first
    | (refine wpLoadA row25 (by rfl) (.tmp 4) (by rfl) (w.heap.size + 1) 0 (by kernel_rfl) (verC n s) hvs ((unhide M).blk (w.heap.size + 1, 25, verC n s) (by simp)).range ?_))
  refine (put_at hs (unhide HP1) _).mono ?_
  rintro e w3 ⟨rfl, k3⟩
  replace M := hide ((unhide M).quiet k3)
  clear k3
  go_wp2_with (
    first
    | (refine wpNew row28 (u8s (zs 128)) (zl 128) zero28 9 (by rfl) (by rfl) (by rfl) (.tmp 27) (by rfl) (by rfl) (by rfl) (u8s A) hAl (u8s_one _) (by kernel_rfl) (by kernel_rfl) ?_
       intro WA bA hbA BA KA
       replace M := hide ((unhide M).add KA BA)
       clear hbA BA KA)
    | (refine wpLoadA row25 (by rfl) (.tmp 5) (by rfl) (w.heap.size + 1 + 1) 0 (by kernel_rfl) (verC m t) hvt ((unhide M).blk (w.heap.size + 1 + 1, 25, verC m t) (by simp)).range ?_))
  refine (put_at ht (unhide HP2) _).mono ?_
  rintro e w4 ⟨rfl, k4⟩
  replace M := hide ((unhide M).quiet k4)
  clear k4
  go_wp2_with (
    first
    | (refine wpNew row28 (u8s (zs 128)) (zl 128) zero28 11 (by rfl) (by rfl) (by rfl) (.tmp 33) (by rfl) (by rfl) (by rfl) (u8s B) hBl (u8s_one _) (by kernel_rfl) (by kernel_rfl) ?_
       intro WB bB hbB BB KB
       replace M := hide ((unhide M).add KB BB)
       clear hbB BB KB)
    | (go_at_call 10; refine (num10 _ _).mono ?_; rintro e w' ⟨rfl, hw'⟩; obtain rfl := hw'.symm))
  go_ret
  exact ⟨rfl, (unhide M).k⟩

set_option maxHeartbeats 8000000 in
set_option maxRecDepth 100000 in
theorem torn_C1 (p q n m : Int) (s t : List Int) (hs : Byts 96 s) (ht : Byts 96 t) (h1 : (putL p n s).2 = 0) (h2 : (putL q m t).2 = 0) (hz : Hid (n = 0)) (e1 : (n != m) = false) (e2 : decide (0 < n) = false) (e3 : (n == 0) = true) (w : World) : Calls Tryd.prog 6 #[aggV (twoC p q), aggV (verC n s), aggV (verC m t)] w fun e w' => e = .returned (.bool true) ∧ Kept [] w w' := by
  have hvs : (verC n s).length = 97 := verC_len hs.len
  have hvt : (verC m t).length = 97 := verC_len ht.len
  have hAl : (u8s (fstL p n s ++ sndL p n s)).length = 128 := pair_len (fst_byts hs) (snd_byts hs)
  have hBl : (u8s (fstL q m t ++ sndL q m t)).length = 128 := pair_len (fst_byts ht) (snd_byts ht)
  have H1 := hide h1
  have H2 := hide h2
  have hnb := (putL_ok h1).2.2
  clear h1 h2
  go_enter Tryd.func6, Tryd.ntmps6
  have M : Hid (Mem w (((w.alloc (.cells (twoC p q).toArray 55)).alloc (.cells (verC n s).toArray 25)).alloc (.cells (verC m t).toArray 25)) [(w.heap.size, 55, twoC p q), (w.heap.size + 1, 25, verC n s), (w.heap.size + 1 + 1, 25, verC m t)]) := by
    refine ⟨fun x hx => ?_, (((Kept.refl _ _).alloc _).alloc _).alloc _⟩
    simp only [List.mem_cons, List.mem_nil_iff, or_false] at hx
    rcases hx with rfl | rfl | rfl
    · exact ((Blk.new' rfl).alloc _).alloc _
    · exact (Blk.new' (by simp)).alloc _
    · exact Blk.new' (by simp)
  go_wp2_with (
    first
    | (refine wpBoxA (by rfl) (.tmp 0) (by rfl) (twoC p q) (by kernel_rfl) ?_)
    | (refine wpBoxA (by rfl) (.tmp 1) (by rfl) (verC n s) (by kernel_rfl) ?_)
    | (refine wpBoxA (by rfl) (.tmp 2) (by rfl) (verC m t) (by kernel_rfl) ?_))
  refine (known11 _).mono ?_
  rintro e w1 ⟨rfl, k1⟩
  replace M := hide ((unhide M).quiet k1)
  clear k1
  have c0 := mem_cell (unhide M) w.heap.size 55 (twoC p q) (by simp) 0 (.int .i64 p) rfl
  have c1 := mem_cell (unhide M) w.heap.size 55 (twoC p q) (by simp) 1 (.int .i64 q) rfl
  go_wp2_with fail
  go_region
  replace M := hide ((unhide M).quiet (show Kept [] w1 w1.drew from ⟨rfl, rfl, rfl, Nat.le_refl _, fun _ _ _ => rfl⟩))
  clear c0 c1
  generalize w1.drew = w2 at *
  go_wp2_with (
    first
    | (refine wpLoadA row25 (by rfl) (.tmp 4) (by rfl) (w.heap.size + 1) 0 (by kernel_rfl) (verC n s) hvs ((unhide M).blk (w.heap.size + 1, 25, verC n s) (by simp)).range ?_))
  refine (put_eq hs (unhide H1) _).mono ?_
  rintro e w3 ⟨rfl, k3⟩
  replace M := hide ((unhide M).quiet k3)
  clear k3
  go_wp2_with (
    first
    | (refine wpNew row28 (u8s (zs 128)) (zl 128) zero28 9 (by rfl) (by rfl) (by rfl) (.tmp 27) (by rfl) (by rfl) (by rfl) (u8s (fstL p n s ++ sndL p n s)) hAl (u8s_one _) (by kernel_rfl) (by kernel_rfl) ?_
       intro WA bA hbA BA KA
       replace M := hide ((unhide M).add KA BA)
       clear hbA BA KA)
    | (refine wpLoadA row25 (by rfl) (.tmp 5) (by rfl) (w.heap.size + 1 + 1) 0 (by kernel_rfl) (verC m t) hvt ((unhide M).blk (w.heap.size + 1 + 1, 25, verC m t) (by simp)).range ?_))
  refine (put_eq ht (unhide H2) _).mono ?_
  rintro e w4 ⟨rfl, k4⟩
  replace M := hide ((unhide M).quiet k4)
  clear k4
  go_wp2_with (
    first
    | (refine wpNew row28 (u8s (zs 128)) (zl 128) zero28 11 (by rfl) (by rfl) (by rfl) (.tmp 33) (by rfl) (by rfl) (by rfl) (u8s (fstL q m t ++ sndL q m t)) hBl (u8s_one _) (by kernel_rfl) (by kernel_rfl) ?_
       intro WB bB hbB BB KB
       replace M := hide ((unhide M).add KB BB)
       clear hbB BB KB
       have cn := mem_cell (unhide M) (w.heap.size + 1) 25 (verC n s) (by simp) 0 (.int .i64 n) rfl
       have cm := mem_cell (unhide M) (w.heap.size + 1 + 1) 25 (verC m t) (by simp) 0 (.int .i64 m) rfl)
    | (go_at_call 10; refine (num10 _ _).mono ?_; rintro e w' ⟨rfl, hw'⟩; obtain rfl := hw'.symm)
    | (refine wpLoadA row27 (by rfl) (.tmp 87) (by rfl) bA 0 (by kernel_rfl) (u8s (fstL p n s)) (by rw [u8s_len, (fst_byts hs).len]) (pair_l (y := (sndL p n s)) ((unhide M).blk (bA, 28, u8s (fstL p n s ++ sndL p n s)) (by simp))) ?_))
  refine (stamp_at (fst_byts hs) ((stamp_fst hs (unhide H1)).trans (if_pos (unhide hz))) _).mono ?_
  rintro e w9 ⟨rfl, k9⟩
  replace M := hide ((unhide M).quiet k9)
  clear k9
  go_wp2_with (
    first
    | (refine wpNew row44 (stC 0 0 0) rfl zero44 13 (by rfl) (by rfl) (by rfl) (.tmp 90) (by rfl) (by rfl) (by rfl) (stC 0 0 0) rfl (stC_one _ _ _) (by kernel_rfl) (by kernel_rfl) ?_
       intro WX bX hbX BX KX
       replace M := hide ((unhide M).add KX BX)
       clear hbX BX KX)
    | (refine wpLoadA row27 (by rfl) (.tmp 93) (by rfl) bA 64 (by kernel_rfl) (u8s (sndL p n s)) (by rw [u8s_len, (snd_byts hs).len]) (pair_r (x := (fstL p n s)) (fst_byts hs).len ((unhide M).blk (bA, 28, u8s (fstL p n s ++ sndL p n s)) (by simp))) ?_))
  refine (stamp_at (snd_byts hs) ((stamp_snd hs (unhide H1)).trans (if_pos (unhide hz))) _).mono ?_
  rintro e w10 ⟨rfl, k10⟩
  replace M := hide ((unhide M).quiet k10)
  clear k10
  go_wp2_with (
    first
    | (refine wpNew row44 (stC 0 0 0) rfl zero44 15 (by rfl) (by rfl) (by rfl) (.tmp 96) (by rfl) (by rfl) (by rfl) (stC 0 0 0) rfl (stC_one _ _ _) (by kernel_rfl) (by kernel_rfl) ?_
       intro WY bY hbY BY KY
       replace M := hide ((unhide M).add KY BY)
       clear hbY BY KY
       have cn := mem_cell (unhide M) (w.heap.size + 1) 25 (verC n s) (by simp) 0 (.int .i64 n) rfl))
  go_ret
  exact ⟨rfl, (unhide M).k⟩

set_option maxHeartbeats 8000000 in
set_option maxRecDepth 100000 in
theorem torn_C2 (p q n m : Int) (s t : List Int) (hs : Byts 96 s) (ht : Byts 96 t) (h1 : (putL p n s).2 = 0) (h2 : (putL q m t).2 = 0) (hz : Hid (n = 0)) (hne : Hid (n ≠ m)) (e1 : (n != m) = true) (e2 : decide (0 < n) = false) (e3 : (n == 0) = true) (w : World) : Calls Tryd.prog 6 #[aggV (twoC p q), aggV (verC n s), aggV (verC m t)] w fun e w' => e = .returned (.bool true) ∧ Kept [] w w' := by
  have hvs : (verC n s).length = 97 := verC_len hs.len
  have hvt : (verC m t).length = 97 := verC_len ht.len
  have hAl : (u8s (fstL p n s ++ sndL p n s)).length = 128 := pair_len (fst_byts hs) (snd_byts hs)
  have hBl : (u8s (fstL q m t ++ sndL q m t)).length = 128 := pair_len (fst_byts ht) (snd_byts ht)
  have H1 := hide h1
  have H2 := hide h2
  have hnb := (putL_ok h1).2.2
  clear h1 h2
  go_enter Tryd.func6, Tryd.ntmps6
  have M : Hid (Mem w (((w.alloc (.cells (twoC p q).toArray 55)).alloc (.cells (verC n s).toArray 25)).alloc (.cells (verC m t).toArray 25)) [(w.heap.size, 55, twoC p q), (w.heap.size + 1, 25, verC n s), (w.heap.size + 1 + 1, 25, verC m t)]) := by
    refine ⟨fun x hx => ?_, (((Kept.refl _ _).alloc _).alloc _).alloc _⟩
    simp only [List.mem_cons, List.mem_nil_iff, or_false] at hx
    rcases hx with rfl | rfl | rfl
    · exact ((Blk.new' rfl).alloc _).alloc _
    · exact (Blk.new' (by simp)).alloc _
    · exact Blk.new' (by simp)
  go_wp2_with (
    first
    | (refine wpBoxA (by rfl) (.tmp 0) (by rfl) (twoC p q) (by kernel_rfl) ?_)
    | (refine wpBoxA (by rfl) (.tmp 1) (by rfl) (verC n s) (by kernel_rfl) ?_)
    | (refine wpBoxA (by rfl) (.tmp 2) (by rfl) (verC m t) (by kernel_rfl) ?_))
  refine (known11 _).mono ?_
  rintro e w1 ⟨rfl, k1⟩
  replace M := hide ((unhide M).quiet k1)
  clear k1
  have c0 := mem_cell (unhide M) w.heap.size 55 (twoC p q) (by simp) 0 (.int .i64 p) rfl
  have c1 := mem_cell (unhide M) w.heap.size 55 (twoC p q) (by simp) 1 (.int .i64 q) rfl
  go_wp2_with fail
  go_region
  replace M := hide ((unhide M).quiet (show Kept [] w1 w1.drew from ⟨rfl, rfl, rfl, Nat.le_refl _, fun _ _ _ => rfl⟩))
  clear c0 c1
  generalize w1.drew = w2 at *
  go_wp2_with (
    first
    | (refine wpLoadA row25 (by rfl) (.tmp 4) (by rfl) (w.heap.size + 1) 0 (by kernel_rfl) (verC n s) hvs ((unhide M).blk (w.heap.size + 1, 25, verC n s) (by simp)).range ?_))
  refine (put_eq hs (unhide H1) _).mono ?_
  rintro e w3 ⟨rfl, k3⟩
  replace M := hide ((unhide M).quiet k3)
  clear k3
  go_wp2_with (
    first
    | (refine wpNew row28 (u8s (zs 128)) (zl 128) zero28 9 (by rfl) (by rfl) (by rfl) (.tmp 27) (by rfl) (by rfl) (by rfl) (u8s (fstL p n s ++ sndL p n s)) hAl (u8s_one _) (by kernel_rfl) (by kernel_rfl) ?_
       intro WA bA hbA BA KA
       replace M := hide ((unhide M).add KA BA)
       clear hbA BA KA)
    | (refine wpLoadA row25 (by rfl) (.tmp 5) (by rfl) (w.heap.size + 1 + 1) 0 (by kernel_rfl) (verC m t) hvt ((unhide M).blk (w.heap.size + 1 + 1, 25, verC m t) (by simp)).range ?_))
  refine (put_eq ht (unhide H2) _).mono ?_
  rintro e w4 ⟨rfl, k4⟩
  replace M := hide ((unhide M).quiet k4)
  clear k4
  go_wp2_with (
    first
    | (refine wpNew row28 (u8s (zs 128)) (zl 128) zero28 11 (by rfl) (by rfl) (by rfl) (.tmp 33) (by rfl) (by rfl) (by rfl) (u8s (fstL q m t ++ sndL q m t)) hBl (u8s_one _) (by kernel_rfl) (by kernel_rfl) ?_
       intro WB bB hbB BB KB
       replace M := hide ((unhide M).add KB BB)
       clear hbB BB KB
       have cn := mem_cell (unhide M) (w.heap.size + 1) 25 (verC n s) (by simp) 0 (.int .i64 n) rfl
       have cm := mem_cell (unhide M) (w.heap.size + 1 + 1) 25 (verC m t) (by simp) 0 (.int .i64 m) rfl)
    | (go_at_call 10; refine (num10 _ _).mono ?_; rintro e w' ⟨rfl, hw'⟩; obtain rfl := hw'.symm)
    | (refine wpLoadG row27 (.tmp 48) (by rfl) (by kernel_rfl) bA 0 (by kernel_rfl) (u8s (fstL p n s)) (by rw [u8s_len, (fst_byts hs).len]) (pair_l (y := (sndL p n s)) ((unhide M).blk (bA, 28, u8s (fstL p n s ++ sndL p n s)) (by simp))) ?_)
    | (refine wpLoadG row27 (.tmp 50) (by rfl) (by kernel_rfl) bB 64 (by kernel_rfl) (u8s (sndL q m t)) (by rw [u8s_len, (snd_byts ht).len]) (pair_r (x := (fstL q m t)) (fst_byts ht).len ((unhide M).blk (bB, 28, u8s (fstL q m t ++ sndL q m t)) (by simp))) ?_))
  refine (whole_at (fst_byts hs) (snd_byts ht) (torn1 hs ht (unhide H1) (unhide H2) (unhide hne)) _).mono ?_
  rintro e w5 ⟨rfl, k5⟩
  replace M := hide ((unhide M).quiet k5)
  clear k5
  clear cn cm
  have cn := mem_cell (unhide M) (w.heap.size + 1) 25 (verC n s) (by simp) 0 (.int .i64 n) rfl
  go_wp2_with (
    first
    | (refine wpLoadG row27 (.tmp 55) (by rfl) (by kernel_rfl) bB 0 (by kernel_rfl) (u8s (fstL q m t)) (by rw [u8s_len, (fst_byts ht).len]) (pair_l (y := (sndL q m t)) ((unhide M).blk (bB, 28, u8s (fstL q m t ++ sndL q m t)) (by simp))) ?_)
    | (refine wpLoadG row27 (.tmp 57) (by rfl) (by kernel_rfl) bA 64 (by kernel_rfl) (u8s (sndL p n s)) (by rw [u8s_len, (snd_byts hs).len]) (pair_r (x := (fstL p n s)) (fst_byts hs).len ((unhide M).blk (bA, 28, u8s (fstL p n s ++ sndL p n s)) (by simp))) ?_))
  refine (whole_at (fst_byts ht) (snd_byts hs) (torn2 hs ht (unhide H1) (unhide H2) (unhide hne)) _).mono ?_
  rintro e w6 ⟨rfl, k6⟩
  replace M := hide ((unhide M).quiet k6)
  clear k6
  clear cn
  have cn := mem_cell (unhide M) (w.heap.size + 1) 25 (verC n s) (by simp) 0 (.int .i64 n) rfl
  go_wp2_with (
    first
    | (refine wpLoadA row27 (by rfl) (.tmp 87) (by rfl) bA 0 (by kernel_rfl) (u8s (fstL p n s)) (by rw [u8s_len, (fst_byts hs).len]) (pair_l (y := (sndL p n s)) ((unhide M).blk (bA, 28, u8s (fstL p n s ++ sndL p n s)) (by simp))) ?_))
  refine (stamp_at (fst_byts hs) ((stamp_fst hs (unhide H1)).trans (if_pos (unhide hz))) _).mono ?_
  rintro e w9 ⟨rfl, k9⟩
  replace M := hide ((unhide M).quiet k9)
  clear k9
  go_wp2_with (
    first
    | (refine wpNew row44 (stC 0 0 0) rfl zero44 13 (by rfl) (by rfl) (by rfl) (.tmp 90) (by rfl) (by rfl) (by rfl) (stC 0 0 0) rfl (stC_one _ _ _) (by kernel_rfl) (by kernel_rfl) ?_
       intro WX bX hbX BX KX
       replace M := hide ((unhide M).add KX BX)
       clear hbX BX KX)
    | (refine wpLoadA row27 (by rfl) (.tmp 93) (by rfl) bA 64 (by kernel_rfl) (u8s (sndL p n s)) (by rw [u8s_len, (snd_byts hs).len]) (pair_r (x := (fstL p n s)) (fst_byts hs).len ((unhide M).blk (bA, 28, u8s (fstL p n s ++ sndL p n s)) (by simp))) ?_))
  refine (stamp_at (snd_byts hs) ((stamp_snd hs (unhide H1)).trans (if_pos (unhide hz))) _).mono ?_
  rintro e w10 ⟨rfl, k10⟩
  replace M := hide ((unhide M).quiet k10)
  clear k10
  go_wp2_with (
    first
    | (refine wpNew row44 (stC 0 0 0) rfl zero44 15 (by rfl) (by rfl) (by rfl) (.tmp 96) (by rfl) (by rfl) (by rfl) (stC 0 0 0) rfl (stC_one _ _ _) (by kernel_rfl) (by kernel_rfl) ?_
       intro WY bY hbY BY KY
       replace M := hide ((unhide M).add KY BY)
       clear hbY BY KY
       have cn := mem_cell (unhide M) (w.heap.size + 1) 25 (verC n s) (by simp) 0 (.int .i64 n) rfl))
  go_ret
  exact ⟨rfl, (unhide M).k⟩

set_option maxHeartbeats 8000000 in
set_option maxRecDepth 100000 in
theorem torn_C3 (p q n m : Int) (s t : List Int) (hs : Byts 96 s) (ht : Byts 96 t) (h1 : (putL p n s).2 = 0) (h2 : (putL q m t).2 = 0) (hn0 : Hid (n ≠ 0)) (e1 : (n != m) = false) (e2 : decide (0 < n) = true) (e3 : (n == 0) = false) (e4 : (p != q) = false) (w : World) : Calls Tryd.prog 6 #[aggV (twoC p q), aggV (verC n s), aggV (verC m t)] w fun e w' => e = .returned (.bool true) ∧ Kept [] w w' := by
  have hvs : (verC n s).length = 97 := verC_len hs.len
  have hvt : (verC m t).length = 97 := verC_len ht.len
  have hAl : (u8s (fstL p n s ++ sndL p n s)).length = 128 := pair_len (fst_byts hs) (snd_byts hs)
  have hBl : (u8s (fstL q m t ++ sndL q m t)).length = 128 := pair_len (fst_byts ht) (snd_byts ht)
  have H1 := hide h1
  have H2 := hide h2
  have hnb := (putL_ok h1).2.2
  clear h1 h2
  go_enter Tryd.func6, Tryd.ntmps6
  have M : Hid (Mem w (((w.alloc (.cells (twoC p q).toArray 55)).alloc (.cells (verC n s).toArray 25)).alloc (.cells (verC m t).toArray 25)) [(w.heap.size, 55, twoC p q), (w.heap.size + 1, 25, verC n s), (w.heap.size + 1 + 1, 25, verC m t)]) := by
    refine ⟨fun x hx => ?_, (((Kept.refl _ _).alloc _).alloc _).alloc _⟩
    simp only [List.mem_cons, List.mem_nil_iff, or_false] at hx
    rcases hx with rfl | rfl | rfl
    · exact ((Blk.new' rfl).alloc _).alloc _
    · exact (Blk.new' (by simp)).alloc _
    · exact Blk.new' (by simp)
  go_wp2_with (
    first
    | (refine wpBoxA (by rfl) (.tmp 0) (by rfl) (twoC p q) (by kernel_rfl) ?_)
    | (refine wpBoxA (by rfl) (.tmp 1) (by rfl) (verC n s) (by kernel_rfl) ?_)
    | (refine wpBoxA (by rfl) (.tmp 2) (by rfl) (verC m t) (by kernel_rfl) ?_))
  refine (known11 _).mono ?_
  rintro e w1 ⟨rfl, k1⟩
  replace M := hide ((unhide M).quiet k1)
  clear k1
  have c0 := mem_cell (unhide M) w.heap.size 55 (twoC p q) (by simp) 0 (.int .i64 p) rfl
  have c1 := mem_cell (unhide M) w.heap.size 55 (twoC p q) (by simp) 1 (.int .i64 q) rfl
  go_wp2_with fail
  go_region
  replace M := hide ((unhide M).quiet (show Kept [] w1 w1.drew from ⟨rfl, rfl, rfl, Nat.le_refl _, fun _ _ _ => rfl⟩))
  clear c0 c1
  generalize w1.drew = w2 at *
  go_wp2_with (
    first
    | (refine wpLoadA row25 (by rfl) (.tmp 4) (by rfl) (w.heap.size + 1) 0 (by kernel_rfl) (verC n s) hvs ((unhide M).blk (w.heap.size + 1, 25, verC n s) (by simp)).range ?_))
  refine (put_eq hs (unhide H1) _).mono ?_
  rintro e w3 ⟨rfl, k3⟩
  replace M := hide ((unhide M).quiet k3)
  clear k3
  go_wp2_with (
    first
    | (refine wpNew row28 (u8s (zs 128)) (zl 128) zero28 9 (by rfl) (by rfl) (by rfl) (.tmp 27) (by rfl) (by rfl) (by rfl) (u8s (fstL p n s ++ sndL p n s)) hAl (u8s_one _) (by kernel_rfl) (by kernel_rfl) ?_
       intro WA bA hbA BA KA
       replace M := hide ((unhide M).add KA BA)
       clear hbA BA KA)
    | (refine wpLoadA row25 (by rfl) (.tmp 5) (by rfl) (w.heap.size + 1 + 1) 0 (by kernel_rfl) (verC m t) hvt ((unhide M).blk (w.heap.size + 1 + 1, 25, verC m t) (by simp)).range ?_))
  refine (put_eq ht (unhide H2) _).mono ?_
  rintro e w4 ⟨rfl, k4⟩
  replace M := hide ((unhide M).quiet k4)
  clear k4
  go_wp2_with (
    first
    | (refine wpNew row28 (u8s (zs 128)) (zl 128) zero28 11 (by rfl) (by rfl) (by rfl) (.tmp 33) (by rfl) (by rfl) (by rfl) (u8s (fstL q m t ++ sndL q m t)) hBl (u8s_one _) (by kernel_rfl) (by kernel_rfl) ?_
       intro WB bB hbB BB KB
       replace M := hide ((unhide M).add KB BB)
       clear hbB BB KB
       have cn := mem_cell (unhide M) (w.heap.size + 1) 25 (verC n s) (by simp) 0 (.int .i64 n) rfl
       have cm := mem_cell (unhide M) (w.heap.size + 1 + 1) 25 (verC m t) (by simp) 0 (.int .i64 m) rfl)
    | (go_at_call 10; refine (num10 _ _).mono ?_; rintro e w' ⟨rfl, hw'⟩; obtain rfl := hw'.symm)
    | (refine wpLoadA row27 (by rfl) (.tmp 87) (by rfl) bA 0 (by kernel_rfl) (u8s (fstL p n s)) (by rw [u8s_len, (fst_byts hs).len]) (pair_l (y := (sndL p n s)) ((unhide M).blk (bA, 28, u8s (fstL p n s ++ sndL p n s)) (by simp))) ?_))
  refine (stamp_at (fst_byts hs) ((stamp_fst hs (unhide H1)).trans (if_neg (unhide hn0))) _).mono ?_
  rintro e w9 ⟨rfl, k9⟩
  replace M := hide ((unhide M).quiet k9)
  clear k9
  go_wp2_with (
    first
    | (refine wpNew row44 (stC 0 0 0) rfl zero44 13 (by rfl) (by rfl) (by rfl) (.tmp 90) (by rfl) (by rfl) (by rfl) (stC p 0 n) rfl (stC_one _ _ _) (by kernel_rfl) (by kernel_rfl) ?_
       intro WX bX hbX BX KX
       replace M := hide ((unhide M).add KX BX)
       clear hbX BX KX)
    | (refine wpLoadA row27 (by rfl) (.tmp 93) (by rfl) bA 64 (by kernel_rfl) (u8s (sndL p n s)) (by rw [u8s_len, (snd_byts hs).len]) (pair_r (x := (fstL p n s)) (fst_byts hs).len ((unhide M).blk (bA, 28, u8s (fstL p n s ++ sndL p n s)) (by simp))) ?_))
  refine (stamp_at (snd_byts hs) ((stamp_snd hs (unhide H1)).trans (if_neg (unhide hn0))) _).mono ?_
  rintro e w10 ⟨rfl, k10⟩
  replace M := hide ((unhide M).quiet k10)
  clear k10
  go_wp2_with (
    first
    | (refine wpNew row44 (stC 0 0 0) rfl zero44 15 (by rfl) (by rfl) (by rfl) (.tmp 96) (by rfl) (by rfl) (by rfl) (stC p 1 n) rfl (stC_one _ _ _) (by kernel_rfl) (by kernel_rfl) ?_
       intro WY bY hbY BY KY
       replace M := hide ((unhide M).add KY BY)
       clear hbY BY KY
       have cn := mem_cell (unhide M) (w.heap.size + 1) 25 (verC n s) (by simp) 0 (.int .i64 n) rfl)
    | (refine wpLoadG row44 (.tmp 13) (by rfl) (by kernel_rfl) bX 0 (by kernel_rfl) (stC p 0 n) rfl ((unhide M).blk (bX, 44, (stC p 0 n)) (by simp)).range ?_)
    | (refine wpLoadG row44 (.tmp 15) (by rfl) (by kernel_rfl) bY 0 (by kernel_rfl) (stC p 1 n) rfl ((unhide M).blk (bY, 44, (stC p 1 n)) (by simp)).range ?_)
    | (refine wpBuildG #[(0, .tmp 113), (2, .tmp 115)] (by rfl) (by kernel_rfl) #[(0, .int .i64 p), (2, .int .i64 n)] (by simp only [List.map_toArray, List.map_cons, List.map_nil]; kernel_rfl) (stC p 0 n) (build44a _ _ _) ?_)
    | (refine wpBuildG #[(0, .tmp 121), (1, .const (.int .i64 1)), (2, .tmp 123)] (by rfl) (by kernel_rfl) #[(0, .int .i64 p), (1, .int .i64 1), (2, .int .i64 n)] (by simp only [List.map_toArray, List.map_cons, List.map_nil]; kernel_rfl) (stC p 1 n) (build44 _ _ _ _) ?_)
    | (refine wpEqlG 44 44 guard44 (.tmp 112) (.tmp 116) (by rfl) (by kernel_rfl) (stC p 0 n) (stC p 0 n) (by kernel_rfl) (by kernel_rfl) true ((equal44 _ _ _ _ _ _ _).trans (by simp)) ?_)
    | (refine wpEqlG 44 44 guard44 (.tmp 120) (.tmp 124) (by rfl) (by kernel_rfl) (stC p 1 n) (stC p 1 n) (by kernel_rfl) (by kernel_rfl) true ((equal44 _ _ _ _ _ _ _).trans (by simp)) ?_))
  go_ret
  exact ⟨rfl, (unhide M).k⟩

set_option maxHeartbeats 8000000 in
set_option maxRecDepth 100000 in
theorem torn_C4 (p q n m : Int) (s t : List Int) (hs : Byts 96 s) (ht : Byts 96 t) (h1 : (putL p n s).2 = 0) (h2 : (putL q m t).2 = 0) (hn0 : Hid (n ≠ 0)) (hpq : Hid (p ≠ q)) (e1 : (n != m) = false) (e2 : decide (0 < n) = true) (e3 : (n == 0) = false) (e4 : (p != q) = true) (w : World) : Calls Tryd.prog 6 #[aggV (twoC p q), aggV (verC n s), aggV (verC m t)] w fun e w' => e = .returned (.bool true) ∧ Kept [] w w' := by
  have hvs : (verC n s).length = 97 := verC_len hs.len
  have hvt : (verC m t).length = 97 := verC_len ht.len
  have hAl : (u8s (fstL p n s ++ sndL p n s)).length = 128 := pair_len (fst_byts hs) (snd_byts hs)
  have hBl : (u8s (fstL q m t ++ sndL q m t)).length = 128 := pair_len (fst_byts ht) (snd_byts ht)
  have H1 := hide h1
  have H2 := hide h2
  have hnb := (putL_ok h1).2.2
  clear h1 h2
  go_enter Tryd.func6, Tryd.ntmps6
  have M : Hid (Mem w (((w.alloc (.cells (twoC p q).toArray 55)).alloc (.cells (verC n s).toArray 25)).alloc (.cells (verC m t).toArray 25)) [(w.heap.size, 55, twoC p q), (w.heap.size + 1, 25, verC n s), (w.heap.size + 1 + 1, 25, verC m t)]) := by
    refine ⟨fun x hx => ?_, (((Kept.refl _ _).alloc _).alloc _).alloc _⟩
    simp only [List.mem_cons, List.mem_nil_iff, or_false] at hx
    rcases hx with rfl | rfl | rfl
    · exact ((Blk.new' rfl).alloc _).alloc _
    · exact (Blk.new' (by simp)).alloc _
    · exact Blk.new' (by simp)
  go_wp2_with (
    first
    | (refine wpBoxA (by rfl) (.tmp 0) (by rfl) (twoC p q) (by kernel_rfl) ?_)
    | (refine wpBoxA (by rfl) (.tmp 1) (by rfl) (verC n s) (by kernel_rfl) ?_)
    | (refine wpBoxA (by rfl) (.tmp 2) (by rfl) (verC m t) (by kernel_rfl) ?_))
  refine (known11 _).mono ?_
  rintro e w1 ⟨rfl, k1⟩
  replace M := hide ((unhide M).quiet k1)
  clear k1
  have c0 := mem_cell (unhide M) w.heap.size 55 (twoC p q) (by simp) 0 (.int .i64 p) rfl
  have c1 := mem_cell (unhide M) w.heap.size 55 (twoC p q) (by simp) 1 (.int .i64 q) rfl
  go_wp2_with fail
  go_region
  replace M := hide ((unhide M).quiet (show Kept [] w1 w1.drew from ⟨rfl, rfl, rfl, Nat.le_refl _, fun _ _ _ => rfl⟩))
  clear c0 c1
  generalize w1.drew = w2 at *
  go_wp2_with (
    first
    | (refine wpLoadA row25 (by rfl) (.tmp 4) (by rfl) (w.heap.size + 1) 0 (by kernel_rfl) (verC n s) hvs ((unhide M).blk (w.heap.size + 1, 25, verC n s) (by simp)).range ?_))
  refine (put_eq hs (unhide H1) _).mono ?_
  rintro e w3 ⟨rfl, k3⟩
  replace M := hide ((unhide M).quiet k3)
  clear k3
  go_wp2_with (
    first
    | (refine wpNew row28 (u8s (zs 128)) (zl 128) zero28 9 (by rfl) (by rfl) (by rfl) (.tmp 27) (by rfl) (by rfl) (by rfl) (u8s (fstL p n s ++ sndL p n s)) hAl (u8s_one _) (by kernel_rfl) (by kernel_rfl) ?_
       intro WA bA hbA BA KA
       replace M := hide ((unhide M).add KA BA)
       clear hbA BA KA)
    | (refine wpLoadA row25 (by rfl) (.tmp 5) (by rfl) (w.heap.size + 1 + 1) 0 (by kernel_rfl) (verC m t) hvt ((unhide M).blk (w.heap.size + 1 + 1, 25, verC m t) (by simp)).range ?_))
  refine (put_eq ht (unhide H2) _).mono ?_
  rintro e w4 ⟨rfl, k4⟩
  replace M := hide ((unhide M).quiet k4)
  clear k4
  go_wp2_with (
    first
    | (refine wpNew row28 (u8s (zs 128)) (zl 128) zero28 11 (by rfl) (by rfl) (by rfl) (.tmp 33) (by rfl) (by rfl) (by rfl) (u8s (fstL q m t ++ sndL q m t)) hBl (u8s_one _) (by kernel_rfl) (by kernel_rfl) ?_
       intro WB bB hbB BB KB
       replace M := hide ((unhide M).add KB BB)
       clear hbB BB KB
       have cn := mem_cell (unhide M) (w.heap.size + 1) 25 (verC n s) (by simp) 0 (.int .i64 n) rfl
       have cm := mem_cell (unhide M) (w.heap.size + 1 + 1) 25 (verC m t) (by simp) 0 (.int .i64 m) rfl)
    | (go_at_call 10; refine (num10 _ _).mono ?_; rintro e w' ⟨rfl, hw'⟩; obtain rfl := hw'.symm)
    | (refine wpLoadG row27 (.tmp 72) (by rfl) (by kernel_rfl) bA 0 (by kernel_rfl) (u8s (fstL p n s)) (by rw [u8s_len, (fst_byts hs).len]) (pair_l (y := (sndL p n s)) ((unhide M).blk (bA, 28, u8s (fstL p n s ++ sndL p n s)) (by simp))) ?_)
    | (refine wpLoadG row27 (.tmp 74) (by rfl) (by kernel_rfl) bA 64 (by kernel_rfl) (u8s (sndL p n s)) (by rw [u8s_len, (snd_byts hs).len]) (pair_r (x := (fstL p n s)) (fst_byts hs).len ((unhide M).blk (bA, 28, u8s (fstL p n s ++ sndL p n s)) (by simp))) ?_))
  refine (whole_at (fst_byts hs) (snd_byts hs) (torn3 hs (unhide H1) (unhide hn0) (unhide hpq)) _).mono ?_
  rintro e w7 ⟨rfl, k7⟩
  replace M := hide ((unhide M).quiet k7)
  clear k7
  clear cn
  have cn := mem_cell (unhide M) (w.heap.size + 1) 25 (verC n s) (by simp) 0 (.int .i64 n) rfl
  go_wp2_with (
    first
    | (refine wpLoadG row27 (.tmp 79) (by rfl) (by kernel_rfl) bA 0 (by kernel_rfl) (u8s (fstL p n s)) (by rw [u8s_len, (fst_byts hs).len]) (pair_l (y := (sndL p n s)) ((unhide M).blk (bA, 28, u8s (fstL p n s ++ sndL p n s)) (by simp))) ?_)
    | (refine wpLoadG row27 (.tmp 81) (by rfl) (by kernel_rfl) bB 64 (by kernel_rfl) (u8s (sndL q m t)) (by rw [u8s_len, (snd_byts ht).len]) (pair_r (x := (fstL q m t)) (fst_byts ht).len ((unhide M).blk (bB, 28, u8s (fstL q m t ++ sndL q m t)) (by simp))) ?_))
  refine (whole_at (fst_byts hs) (snd_byts ht) (torn4 hs ht (unhide H1) (unhide H2) (unhide hn0) (unhide hpq)) _).mono ?_
  rintro e w8 ⟨rfl, k8⟩
  replace M := hide ((unhide M).quiet k8)
  clear k8
  clear cn
  have cn := mem_cell (unhide M) (w.heap.size + 1) 25 (verC n s) (by simp) 0 (.int .i64 n) rfl
  go_wp2_with (
    first
    | (refine wpLoadA row27 (by rfl) (.tmp 87) (by rfl) bA 0 (by kernel_rfl) (u8s (fstL p n s)) (by rw [u8s_len, (fst_byts hs).len]) (pair_l (y := (sndL p n s)) ((unhide M).blk (bA, 28, u8s (fstL p n s ++ sndL p n s)) (by simp))) ?_))
  refine (stamp_at (fst_byts hs) ((stamp_fst hs (unhide H1)).trans (if_neg (unhide hn0))) _).mono ?_
  rintro e w9 ⟨rfl, k9⟩
  replace M := hide ((unhide M).quiet k9)
  clear k9
  go_wp2_with (
    first
    | (refine wpNew row44 (stC 0 0 0) rfl zero44 13 (by rfl) (by rfl) (by rfl) (.tmp 90) (by rfl) (by rfl) (by rfl) (stC p 0 n) rfl (stC_one _ _ _) (by kernel_rfl) (by kernel_rfl) ?_
       intro WX bX hbX BX KX
       replace M := hide ((unhide M).add KX BX)
       clear hbX BX KX)
    | (refine wpLoadA row27 (by rfl) (.tmp 93) (by rfl) bA 64 (by kernel_rfl) (u8s (sndL p n s)) (by rw [u8s_len, (snd_byts hs).len]) (pair_r (x := (fstL p n s)) (fst_byts hs).len ((unhide M).blk (bA, 28, u8s (fstL p n s ++ sndL p n s)) (by simp))) ?_))
  refine (stamp_at (snd_byts hs) ((stamp_snd hs (unhide H1)).trans (if_neg (unhide hn0))) _).mono ?_
  rintro e w10 ⟨rfl, k10⟩
  replace M := hide ((unhide M).quiet k10)
  clear k10
  go_wp2_with (
    first
    | (refine wpNew row44 (stC 0 0 0) rfl zero44 15 (by rfl) (by rfl) (by rfl) (.tmp 96) (by rfl) (by rfl) (by rfl) (stC p 1 n) rfl (stC_one _ _ _) (by kernel_rfl) (by kernel_rfl) ?_
       intro WY bY hbY BY KY
       replace M := hide ((unhide M).add KY BY)
       clear hbY BY KY
       have cn := mem_cell (unhide M) (w.heap.size + 1) 25 (verC n s) (by simp) 0 (.int .i64 n) rfl)
    | (refine wpLoadG row44 (.tmp 13) (by rfl) (by kernel_rfl) bX 0 (by kernel_rfl) (stC p 0 n) rfl ((unhide M).blk (bX, 44, (stC p 0 n)) (by simp)).range ?_)
    | (refine wpLoadG row44 (.tmp 15) (by rfl) (by kernel_rfl) bY 0 (by kernel_rfl) (stC p 1 n) rfl ((unhide M).blk (bY, 44, (stC p 1 n)) (by simp)).range ?_)
    | (refine wpBuildG #[(0, .tmp 113), (2, .tmp 115)] (by rfl) (by kernel_rfl) #[(0, .int .i64 p), (2, .int .i64 n)] (by simp only [List.map_toArray, List.map_cons, List.map_nil]; kernel_rfl) (stC p 0 n) (build44a _ _ _) ?_)
    | (refine wpBuildG #[(0, .tmp 121), (1, .const (.int .i64 1)), (2, .tmp 123)] (by rfl) (by kernel_rfl) #[(0, .int .i64 p), (1, .int .i64 1), (2, .int .i64 n)] (by simp only [List.map_toArray, List.map_cons, List.map_nil]; kernel_rfl) (stC p 1 n) (build44 _ _ _ _) ?_)
    | (refine wpEqlG 44 44 guard44 (.tmp 112) (.tmp 116) (by rfl) (by kernel_rfl) (stC p 0 n) (stC p 0 n) (by kernel_rfl) (by kernel_rfl) true ((equal44 _ _ _ _ _ _ _).trans (by simp)) ?_)
    | (refine wpEqlG 44 44 guard44 (.tmp 120) (.tmp 124) (by rfl) (by kernel_rfl) (stC p 1 n) (stC p 1 n) (by kernel_rfl) (by kernel_rfl) true ((equal44 _ _ _ _ _ _ _).trans (by simp)) ?_))
  go_ret
  exact ⟨rfl, (unhide M).k⟩

set_option maxHeartbeats 8000000 in
set_option maxRecDepth 100000 in
theorem torn_C5 (p q n m : Int) (s t : List Int) (hs : Byts 96 s) (ht : Byts 96 t) (h1 : (putL p n s).2 = 0) (h2 : (putL q m t).2 = 0) (hn0 : Hid (n ≠ 0)) (hne : Hid (n ≠ m)) (e1 : (n != m) = true) (e2 : decide (0 < n) = true) (e3 : (n == 0) = false) (e4 : (p != q) = false) (w : World) : Calls Tryd.prog 6 #[aggV (twoC p q), aggV (verC n s), aggV (verC m t)] w fun e w' => e = .returned (.bool true) ∧ Kept [] w w' := by
  have hvs : (verC n s).length = 97 := verC_len hs.len
  have hvt : (verC m t).length = 97 := verC_len ht.len
  have hAl : (u8s (fstL p n s ++ sndL p n s)).length = 128 := pair_len (fst_byts hs) (snd_byts hs)
  have hBl : (u8s (fstL q m t ++ sndL q m t)).length = 128 := pair_len (fst_byts ht) (snd_byts ht)
  have H1 := hide h1
  have H2 := hide h2
  have hnb := (putL_ok h1).2.2
  clear h1 h2
  go_enter Tryd.func6, Tryd.ntmps6
  have M : Hid (Mem w (((w.alloc (.cells (twoC p q).toArray 55)).alloc (.cells (verC n s).toArray 25)).alloc (.cells (verC m t).toArray 25)) [(w.heap.size, 55, twoC p q), (w.heap.size + 1, 25, verC n s), (w.heap.size + 1 + 1, 25, verC m t)]) := by
    refine ⟨fun x hx => ?_, (((Kept.refl _ _).alloc _).alloc _).alloc _⟩
    simp only [List.mem_cons, List.mem_nil_iff, or_false] at hx
    rcases hx with rfl | rfl | rfl
    · exact ((Blk.new' rfl).alloc _).alloc _
    · exact (Blk.new' (by simp)).alloc _
    · exact Blk.new' (by simp)
  go_wp2_with (
    first
    | (refine wpBoxA (by rfl) (.tmp 0) (by rfl) (twoC p q) (by kernel_rfl) ?_)
    | (refine wpBoxA (by rfl) (.tmp 1) (by rfl) (verC n s) (by kernel_rfl) ?_)
    | (refine wpBoxA (by rfl) (.tmp 2) (by rfl) (verC m t) (by kernel_rfl) ?_))
  refine (known11 _).mono ?_
  rintro e w1 ⟨rfl, k1⟩
  replace M := hide ((unhide M).quiet k1)
  clear k1
  have c0 := mem_cell (unhide M) w.heap.size 55 (twoC p q) (by simp) 0 (.int .i64 p) rfl
  have c1 := mem_cell (unhide M) w.heap.size 55 (twoC p q) (by simp) 1 (.int .i64 q) rfl
  go_wp2_with fail
  go_region
  replace M := hide ((unhide M).quiet (show Kept [] w1 w1.drew from ⟨rfl, rfl, rfl, Nat.le_refl _, fun _ _ _ => rfl⟩))
  clear c0 c1
  generalize w1.drew = w2 at *
  go_wp2_with (
    first
    | (refine wpLoadA row25 (by rfl) (.tmp 4) (by rfl) (w.heap.size + 1) 0 (by kernel_rfl) (verC n s) hvs ((unhide M).blk (w.heap.size + 1, 25, verC n s) (by simp)).range ?_))
  refine (put_eq hs (unhide H1) _).mono ?_
  rintro e w3 ⟨rfl, k3⟩
  replace M := hide ((unhide M).quiet k3)
  clear k3
  go_wp2_with (
    first
    | (refine wpNew row28 (u8s (zs 128)) (zl 128) zero28 9 (by rfl) (by rfl) (by rfl) (.tmp 27) (by rfl) (by rfl) (by rfl) (u8s (fstL p n s ++ sndL p n s)) hAl (u8s_one _) (by kernel_rfl) (by kernel_rfl) ?_
       intro WA bA hbA BA KA
       replace M := hide ((unhide M).add KA BA)
       clear hbA BA KA)
    | (refine wpLoadA row25 (by rfl) (.tmp 5) (by rfl) (w.heap.size + 1 + 1) 0 (by kernel_rfl) (verC m t) hvt ((unhide M).blk (w.heap.size + 1 + 1, 25, verC m t) (by simp)).range ?_))
  refine (put_eq ht (unhide H2) _).mono ?_
  rintro e w4 ⟨rfl, k4⟩
  replace M := hide ((unhide M).quiet k4)
  clear k4
  go_wp2_with (
    first
    | (refine wpNew row28 (u8s (zs 128)) (zl 128) zero28 11 (by rfl) (by rfl) (by rfl) (.tmp 33) (by rfl) (by rfl) (by rfl) (u8s (fstL q m t ++ sndL q m t)) hBl (u8s_one _) (by kernel_rfl) (by kernel_rfl) ?_
       intro WB bB hbB BB KB
       replace M := hide ((unhide M).add KB BB)
       clear hbB BB KB
       have cn := mem_cell (unhide M) (w.heap.size + 1) 25 (verC n s) (by simp) 0 (.int .i64 n) rfl
       have cm := mem_cell (unhide M) (w.heap.size + 1 + 1) 25 (verC m t) (by simp) 0 (.int .i64 m) rfl)
    | (go_at_call 10; refine (num10 _ _).mono ?_; rintro e w' ⟨rfl, hw'⟩; obtain rfl := hw'.symm)
    | (refine wpLoadG row27 (.tmp 48) (by rfl) (by kernel_rfl) bA 0 (by kernel_rfl) (u8s (fstL p n s)) (by rw [u8s_len, (fst_byts hs).len]) (pair_l (y := (sndL p n s)) ((unhide M).blk (bA, 28, u8s (fstL p n s ++ sndL p n s)) (by simp))) ?_)
    | (refine wpLoadG row27 (.tmp 50) (by rfl) (by kernel_rfl) bB 64 (by kernel_rfl) (u8s (sndL q m t)) (by rw [u8s_len, (snd_byts ht).len]) (pair_r (x := (fstL q m t)) (fst_byts ht).len ((unhide M).blk (bB, 28, u8s (fstL q m t ++ sndL q m t)) (by simp))) ?_))
  refine (whole_at (fst_byts hs) (snd_byts ht) (torn1 hs ht (unhide H1) (unhide H2) (unhide hne)) _).mono ?_
  rintro e w5 ⟨rfl, k5⟩
  replace M := hide ((unhide M).quiet k5)
  clear k5
  clear cn cm
  have cn := mem_cell (unhide M) (w.heap.size + 1) 25 (verC n s) (by simp) 0 (.int .i64 n) rfl
  go_wp2_with (
    first
    | (refine wpLoadG row27 (.tmp 55) (by rfl) (by kernel_rfl) bB 0 (by kernel_rfl) (u8s (fstL q m t)) (by rw [u8s_len, (fst_byts ht).len]) (pair_l (y := (sndL q m t)) ((unhide M).blk (bB, 28, u8s (fstL q m t ++ sndL q m t)) (by simp))) ?_)
    | (refine wpLoadG row27 (.tmp 57) (by rfl) (by kernel_rfl) bA 64 (by kernel_rfl) (u8s (sndL p n s)) (by rw [u8s_len, (snd_byts hs).len]) (pair_r (x := (fstL p n s)) (fst_byts hs).len ((unhide M).blk (bA, 28, u8s (fstL p n s ++ sndL p n s)) (by simp))) ?_))
  refine (whole_at (fst_byts ht) (snd_byts hs) (torn2 hs ht (unhide H1) (unhide H2) (unhide hne)) _).mono ?_
  rintro e w6 ⟨rfl, k6⟩
  replace M := hide ((unhide M).quiet k6)
  clear k6
  clear cn
  have cn := mem_cell (unhide M) (w.heap.size + 1) 25 (verC n s) (by simp) 0 (.int .i64 n) rfl
  go_wp2_with (
    first
    | (refine wpLoadA row27 (by rfl) (.tmp 87) (by rfl) bA 0 (by kernel_rfl) (u8s (fstL p n s)) (by rw [u8s_len, (fst_byts hs).len]) (pair_l (y := (sndL p n s)) ((unhide M).blk (bA, 28, u8s (fstL p n s ++ sndL p n s)) (by simp))) ?_))
  refine (stamp_at (fst_byts hs) ((stamp_fst hs (unhide H1)).trans (if_neg (unhide hn0))) _).mono ?_
  rintro e w9 ⟨rfl, k9⟩
  replace M := hide ((unhide M).quiet k9)
  clear k9
  go_wp2_with (
    first
    | (refine wpNew row44 (stC 0 0 0) rfl zero44 13 (by rfl) (by rfl) (by rfl) (.tmp 90) (by rfl) (by rfl) (by rfl) (stC p 0 n) rfl (stC_one _ _ _) (by kernel_rfl) (by kernel_rfl) ?_
       intro WX bX hbX BX KX
       replace M := hide ((unhide M).add KX BX)
       clear hbX BX KX)
    | (refine wpLoadA row27 (by rfl) (.tmp 93) (by rfl) bA 64 (by kernel_rfl) (u8s (sndL p n s)) (by rw [u8s_len, (snd_byts hs).len]) (pair_r (x := (fstL p n s)) (fst_byts hs).len ((unhide M).blk (bA, 28, u8s (fstL p n s ++ sndL p n s)) (by simp))) ?_))
  refine (stamp_at (snd_byts hs) ((stamp_snd hs (unhide H1)).trans (if_neg (unhide hn0))) _).mono ?_
  rintro e w10 ⟨rfl, k10⟩
  replace M := hide ((unhide M).quiet k10)
  clear k10
  go_wp2_with (
    first
    | (refine wpNew row44 (stC 0 0 0) rfl zero44 15 (by rfl) (by rfl) (by rfl) (.tmp 96) (by rfl) (by rfl) (by rfl) (stC p 1 n) rfl (stC_one _ _ _) (by kernel_rfl) (by kernel_rfl) ?_
       intro WY bY hbY BY KY
       replace M := hide ((unhide M).add KY BY)
       clear hbY BY KY
       have cn := mem_cell (unhide M) (w.heap.size + 1) 25 (verC n s) (by simp) 0 (.int .i64 n) rfl)
    | (refine wpLoadG row44 (.tmp 13) (by rfl) (by kernel_rfl) bX 0 (by kernel_rfl) (stC p 0 n) rfl ((unhide M).blk (bX, 44, (stC p 0 n)) (by simp)).range ?_)
    | (refine wpLoadG row44 (.tmp 15) (by rfl) (by kernel_rfl) bY 0 (by kernel_rfl) (stC p 1 n) rfl ((unhide M).blk (bY, 44, (stC p 1 n)) (by simp)).range ?_)
    | (refine wpBuildG #[(0, .tmp 113), (2, .tmp 115)] (by rfl) (by kernel_rfl) #[(0, .int .i64 p), (2, .int .i64 n)] (by simp only [List.map_toArray, List.map_cons, List.map_nil]; kernel_rfl) (stC p 0 n) (build44a _ _ _) ?_)
    | (refine wpBuildG #[(0, .tmp 121), (1, .const (.int .i64 1)), (2, .tmp 123)] (by rfl) (by kernel_rfl) #[(0, .int .i64 p), (1, .int .i64 1), (2, .int .i64 n)] (by simp only [List.map_toArray, List.map_cons, List.map_nil]; kernel_rfl) (stC p 1 n) (build44 _ _ _ _) ?_)
    | (refine wpEqlG 44 44 guard44 (.tmp 112) (.tmp 116) (by rfl) (by kernel_rfl) (stC p 0 n) (stC p 0 n) (by kernel_rfl) (by kernel_rfl) true ((equal44 _ _ _ _ _ _ _).trans (by simp)) ?_)
    | (refine wpEqlG 44 44 guard44 (.tmp 120) (.tmp 124) (by rfl) (by kernel_rfl) (stC p 1 n) (stC p 1 n) (by kernel_rfl) (by kernel_rfl) true ((equal44 _ _ _ _ _ _ _).trans (by simp)) ?_))
  go_ret
  exact ⟨rfl, (unhide M).k⟩

set_option maxHeartbeats 8000000 in
set_option maxRecDepth 100000 in
theorem torn_C6 (p q n m : Int) (s t : List Int) (hs : Byts 96 s) (ht : Byts 96 t) (h1 : (putL p n s).2 = 0) (h2 : (putL q m t).2 = 0) (hn0 : Hid (n ≠ 0)) (hne : Hid (n ≠ m)) (hpq : Hid (p ≠ q)) (e1 : (n != m) = true) (e2 : decide (0 < n) = true) (e3 : (n == 0) = false) (e4 : (p != q) = true) (w : World) : Calls Tryd.prog 6 #[aggV (twoC p q), aggV (verC n s), aggV (verC m t)] w fun e w' => e = .returned (.bool true) ∧ Kept [] w w' := by
  have hvs : (verC n s).length = 97 := verC_len hs.len
  have hvt : (verC m t).length = 97 := verC_len ht.len
  have hAl : (u8s (fstL p n s ++ sndL p n s)).length = 128 := pair_len (fst_byts hs) (snd_byts hs)
  have hBl : (u8s (fstL q m t ++ sndL q m t)).length = 128 := pair_len (fst_byts ht) (snd_byts ht)
  have H1 := hide h1
  have H2 := hide h2
  have hnb := (putL_ok h1).2.2
  clear h1 h2
  go_enter Tryd.func6, Tryd.ntmps6
  have M : Hid (Mem w (((w.alloc (.cells (twoC p q).toArray 55)).alloc (.cells (verC n s).toArray 25)).alloc (.cells (verC m t).toArray 25)) [(w.heap.size, 55, twoC p q), (w.heap.size + 1, 25, verC n s), (w.heap.size + 1 + 1, 25, verC m t)]) := by
    refine ⟨fun x hx => ?_, (((Kept.refl _ _).alloc _).alloc _).alloc _⟩
    simp only [List.mem_cons, List.mem_nil_iff, or_false] at hx
    rcases hx with rfl | rfl | rfl
    · exact ((Blk.new' rfl).alloc _).alloc _
    · exact (Blk.new' (by simp)).alloc _
    · exact Blk.new' (by simp)
  go_wp2_with (
    first
    | (refine wpBoxA (by rfl) (.tmp 0) (by rfl) (twoC p q) (by kernel_rfl) ?_)
    | (refine wpBoxA (by rfl) (.tmp 1) (by rfl) (verC n s) (by kernel_rfl) ?_)
    | (refine wpBoxA (by rfl) (.tmp 2) (by rfl) (verC m t) (by kernel_rfl) ?_))
  refine (known11 _).mono ?_
  rintro e w1 ⟨rfl, k1⟩
  replace M := hide ((unhide M).quiet k1)
  clear k1
  have c0 := mem_cell (unhide M) w.heap.size 55 (twoC p q) (by simp) 0 (.int .i64 p) rfl
  have c1 := mem_cell (unhide M) w.heap.size 55 (twoC p q) (by simp) 1 (.int .i64 q) rfl
  go_wp2_with fail
  go_region
  replace M := hide ((unhide M).quiet (show Kept [] w1 w1.drew from ⟨rfl, rfl, rfl, Nat.le_refl _, fun _ _ _ => rfl⟩))
  clear c0 c1
  generalize w1.drew = w2 at *
  go_wp2_with (
    first
    | (refine wpLoadA row25 (by rfl) (.tmp 4) (by rfl) (w.heap.size + 1) 0 (by kernel_rfl) (verC n s) hvs ((unhide M).blk (w.heap.size + 1, 25, verC n s) (by simp)).range ?_))
  refine (put_eq hs (unhide H1) _).mono ?_
  rintro e w3 ⟨rfl, k3⟩
  replace M := hide ((unhide M).quiet k3)
  clear k3
  go_wp2_with (
    first
    | (refine wpNew row28 (u8s (zs 128)) (zl 128) zero28 9 (by rfl) (by rfl) (by rfl) (.tmp 27) (by rfl) (by rfl) (by rfl) (u8s (fstL p n s ++ sndL p n s)) hAl (u8s_one _) (by kernel_rfl) (by kernel_rfl) ?_
       intro WA bA hbA BA KA
       replace M := hide ((unhide M).add KA BA)
       clear hbA BA KA)
    | (refine wpLoadA row25 (by rfl) (.tmp 5) (by rfl) (w.heap.size + 1 + 1) 0 (by kernel_rfl) (verC m t) hvt ((unhide M).blk (w.heap.size + 1 + 1, 25, verC m t) (by simp)).range ?_))
  refine (put_eq ht (unhide H2) _).mono ?_
  rintro e w4 ⟨rfl, k4⟩
  replace M := hide ((unhide M).quiet k4)
  clear k4
  go_wp2_with (
    first
    | (refine wpNew row28 (u8s (zs 128)) (zl 128) zero28 11 (by rfl) (by rfl) (by rfl) (.tmp 33) (by rfl) (by rfl) (by rfl) (u8s (fstL q m t ++ sndL q m t)) hBl (u8s_one _) (by kernel_rfl) (by kernel_rfl) ?_
       intro WB bB hbB BB KB
       replace M := hide ((unhide M).add KB BB)
       clear hbB BB KB
       have cn := mem_cell (unhide M) (w.heap.size + 1) 25 (verC n s) (by simp) 0 (.int .i64 n) rfl
       have cm := mem_cell (unhide M) (w.heap.size + 1 + 1) 25 (verC m t) (by simp) 0 (.int .i64 m) rfl)
    | (go_at_call 10; refine (num10 _ _).mono ?_; rintro e w' ⟨rfl, hw'⟩; obtain rfl := hw'.symm)
    | (refine wpLoadG row27 (.tmp 48) (by rfl) (by kernel_rfl) bA 0 (by kernel_rfl) (u8s (fstL p n s)) (by rw [u8s_len, (fst_byts hs).len]) (pair_l (y := (sndL p n s)) ((unhide M).blk (bA, 28, u8s (fstL p n s ++ sndL p n s)) (by simp))) ?_)
    | (refine wpLoadG row27 (.tmp 50) (by rfl) (by kernel_rfl) bB 64 (by kernel_rfl) (u8s (sndL q m t)) (by rw [u8s_len, (snd_byts ht).len]) (pair_r (x := (fstL q m t)) (fst_byts ht).len ((unhide M).blk (bB, 28, u8s (fstL q m t ++ sndL q m t)) (by simp))) ?_))
  refine (whole_at (fst_byts hs) (snd_byts ht) (torn1 hs ht (unhide H1) (unhide H2) (unhide hne)) _).mono ?_
  rintro e w5 ⟨rfl, k5⟩
  replace M := hide ((unhide M).quiet k5)
  clear k5
  clear cn cm
  have cn := mem_cell (unhide M) (w.heap.size + 1) 25 (verC n s) (by simp) 0 (.int .i64 n) rfl
  go_wp2_with (
    first
    | (refine wpLoadG row27 (.tmp 55) (by rfl) (by kernel_rfl) bB 0 (by kernel_rfl) (u8s (fstL q m t)) (by rw [u8s_len, (fst_byts ht).len]) (pair_l (y := (sndL q m t)) ((unhide M).blk (bB, 28, u8s (fstL q m t ++ sndL q m t)) (by simp))) ?_)
    | (refine wpLoadG row27 (.tmp 57) (by rfl) (by kernel_rfl) bA 64 (by kernel_rfl) (u8s (sndL p n s)) (by rw [u8s_len, (snd_byts hs).len]) (pair_r (x := (fstL p n s)) (fst_byts hs).len ((unhide M).blk (bA, 28, u8s (fstL p n s ++ sndL p n s)) (by simp))) ?_))
  refine (whole_at (fst_byts ht) (snd_byts hs) (torn2 hs ht (unhide H1) (unhide H2) (unhide hne)) _).mono ?_
  rintro e w6 ⟨rfl, k6⟩
  replace M := hide ((unhide M).quiet k6)
  clear k6
  clear cn
  have cn := mem_cell (unhide M) (w.heap.size + 1) 25 (verC n s) (by simp) 0 (.int .i64 n) rfl
  go_wp2_with (
    first
    | (refine wpLoadG row27 (.tmp 72) (by rfl) (by kernel_rfl) bA 0 (by kernel_rfl) (u8s (fstL p n s)) (by rw [u8s_len, (fst_byts hs).len]) (pair_l (y := (sndL p n s)) ((unhide M).blk (bA, 28, u8s (fstL p n s ++ sndL p n s)) (by simp))) ?_)
    | (refine wpLoadG row27 (.tmp 74) (by rfl) (by kernel_rfl) bA 64 (by kernel_rfl) (u8s (sndL p n s)) (by rw [u8s_len, (snd_byts hs).len]) (pair_r (x := (fstL p n s)) (fst_byts hs).len ((unhide M).blk (bA, 28, u8s (fstL p n s ++ sndL p n s)) (by simp))) ?_))
  refine (whole_at (fst_byts hs) (snd_byts hs) (torn3 hs (unhide H1) (unhide hn0) (unhide hpq)) _).mono ?_
  rintro e w7 ⟨rfl, k7⟩
  replace M := hide ((unhide M).quiet k7)
  clear k7
  clear cn
  have cn := mem_cell (unhide M) (w.heap.size + 1) 25 (verC n s) (by simp) 0 (.int .i64 n) rfl
  go_wp2_with (
    first
    | (refine wpLoadG row27 (.tmp 79) (by rfl) (by kernel_rfl) bA 0 (by kernel_rfl) (u8s (fstL p n s)) (by rw [u8s_len, (fst_byts hs).len]) (pair_l (y := (sndL p n s)) ((unhide M).blk (bA, 28, u8s (fstL p n s ++ sndL p n s)) (by simp))) ?_)
    | (refine wpLoadG row27 (.tmp 81) (by rfl) (by kernel_rfl) bB 64 (by kernel_rfl) (u8s (sndL q m t)) (by rw [u8s_len, (snd_byts ht).len]) (pair_r (x := (fstL q m t)) (fst_byts ht).len ((unhide M).blk (bB, 28, u8s (fstL q m t ++ sndL q m t)) (by simp))) ?_))
  refine (whole_at (fst_byts hs) (snd_byts ht) (torn4 hs ht (unhide H1) (unhide H2) (unhide hn0) (unhide hpq)) _).mono ?_
  rintro e w8 ⟨rfl, k8⟩
  replace M := hide ((unhide M).quiet k8)
  clear k8
  clear cn
  have cn := mem_cell (unhide M) (w.heap.size + 1) 25 (verC n s) (by simp) 0 (.int .i64 n) rfl
  go_wp2_with (
    first
    | (refine wpLoadA row27 (by rfl) (.tmp 87) (by rfl) bA 0 (by kernel_rfl) (u8s (fstL p n s)) (by rw [u8s_len, (fst_byts hs).len]) (pair_l (y := (sndL p n s)) ((unhide M).blk (bA, 28, u8s (fstL p n s ++ sndL p n s)) (by simp))) ?_))
  refine (stamp_at (fst_byts hs) ((stamp_fst hs (unhide H1)).trans (if_neg (unhide hn0))) _).mono ?_
  rintro e w9 ⟨rfl, k9⟩
  replace M := hide ((unhide M).quiet k9)
  clear k9
  go_wp2_with (
    first
    | (refine wpNew row44 (stC 0 0 0) rfl zero44 13 (by rfl) (by rfl) (by rfl) (.tmp 90) (by rfl) (by rfl) (by rfl) (stC p 0 n) rfl (stC_one _ _ _) (by kernel_rfl) (by kernel_rfl) ?_
       intro WX bX hbX BX KX
       replace M := hide ((unhide M).add KX BX)
       clear hbX BX KX)
    | (refine wpLoadA row27 (by rfl) (.tmp 93) (by rfl) bA 64 (by kernel_rfl) (u8s (sndL p n s)) (by rw [u8s_len, (snd_byts hs).len]) (pair_r (x := (fstL p n s)) (fst_byts hs).len ((unhide M).blk (bA, 28, u8s (fstL p n s ++ sndL p n s)) (by simp))) ?_))
  refine (stamp_at (snd_byts hs) ((stamp_snd hs (unhide H1)).trans (if_neg (unhide hn0))) _).mono ?_
  rintro e w10 ⟨rfl, k10⟩
  replace M := hide ((unhide M).quiet k10)
  clear k10
  go_wp2_with (
    first
    | (refine wpNew row44 (stC 0 0 0) rfl zero44 15 (by rfl) (by rfl) (by rfl) (.tmp 96) (by rfl) (by rfl) (by rfl) (stC p 1 n) rfl (stC_one _ _ _) (by kernel_rfl) (by kernel_rfl) ?_
       intro WY bY hbY BY KY
       replace M := hide ((unhide M).add KY BY)
       clear hbY BY KY
       have cn := mem_cell (unhide M) (w.heap.size + 1) 25 (verC n s) (by simp) 0 (.int .i64 n) rfl)
    | (refine wpLoadG row44 (.tmp 13) (by rfl) (by kernel_rfl) bX 0 (by kernel_rfl) (stC p 0 n) rfl ((unhide M).blk (bX, 44, (stC p 0 n)) (by simp)).range ?_)
    | (refine wpLoadG row44 (.tmp 15) (by rfl) (by kernel_rfl) bY 0 (by kernel_rfl) (stC p 1 n) rfl ((unhide M).blk (bY, 44, (stC p 1 n)) (by simp)).range ?_)
    | (refine wpBuildG #[(0, .tmp 113), (2, .tmp 115)] (by rfl) (by kernel_rfl) #[(0, .int .i64 p), (2, .int .i64 n)] (by simp only [List.map_toArray, List.map_cons, List.map_nil]; kernel_rfl) (stC p 0 n) (build44a _ _ _) ?_)
    | (refine wpBuildG #[(0, .tmp 121), (1, .const (.int .i64 1)), (2, .tmp 123)] (by rfl) (by kernel_rfl) #[(0, .int .i64 p), (1, .int .i64 1), (2, .int .i64 n)] (by simp only [List.map_toArray, List.map_cons, List.map_nil]; kernel_rfl) (stC p 1 n) (build44 _ _ _ _) ?_)
    | (refine wpEqlG 44 44 guard44 (.tmp 112) (.tmp 116) (by rfl) (by kernel_rfl) (stC p 0 n) (stC p 0 n) (by kernel_rfl) (by kernel_rfl) true ((equal44 _ _ _ _ _ _ _).trans (by simp)) ?_)
    | (refine wpEqlG 44 44 guard44 (.tmp 120) (.tmp 124) (by rfl) (by kernel_rfl) (stC p 1 n) (stC p 1 n) (by kernel_rfl) (by kernel_rfl) true ((equal44 _ _ _ _ _ _ _).trans (by simp)) ?_))
  go_ret
  exact ⟨rfl, (unhide M).k⟩

theorem torn6 (p q n m : Int) (s t : List Int) (hs : Byts 96 s) (ht : Byts 96 t) (w : World) : Calls Tryd.prog 6 #[aggV (twoC p q), aggV (verC n s), aggV (verC m t)] w fun e w' => e = .returned (.bool true) ∧ Kept [] w w' := by
  by_cases hb : (putL p n s).2 + (putL q m t).2 = 0
  · have g1 : 0 ≤ (putL p n s).2 := by unfold putL; split; simp; split <;> simp
    have g2 : 0 ≤ (putL q m t).2 := by unfold putL; split; simp; split <;> simp
    have h1 : (putL p n s).2 = 0 := by omega
    have h2 : (putL q m t).2 = 0 := by omega
    have hn := (putL_ok h1).2.2
    by_cases hz : n = 0
    · have e2 : decide (0 < n) = false := decide_eq_false (by omega)
      have e3 : (n == 0) = true := by simpa using hz
      by_cases hm : n = m
      · exact torn_C1 p q n m s t hs ht h1 h2 hz (by simpa using hm) e2 e3 w
      · exact torn_C2 p q n m s t hs ht h1 h2 hz hm (by simpa using hm) e2 e3 w
    · have e2 : decide (0 < n) = true := decide_eq_true (by omega)
      have e3 : (n == 0) = false := by simpa using hz
      by_cases hm : n = m
      · by_cases hpq : p = q
        · exact torn_C3 p q n m s t hs ht h1 h2 hz (by simpa using hm) e2 e3 (by simpa using hpq) w
        · exact torn_C4 p q n m s t hs ht h1 h2 hz hpq (by simpa using hm) e2 e3 (by simpa using hpq) w
      · by_cases hpq : p = q
        · exact torn_C5 p q n m s t hs ht h1 h2 hz hm (by simpa using hm) e2 e3 (by simpa using hpq) w
        · exact torn_C6 p q n m s t hs ht h1 h2 hz hm hpq (by simpa using hm) e2 e3 (by simpa using hpq) w
  · exact torn_bad p q n m s t hs ht hb w

end Go.Proofs.YtnflcajidgbbbaaDoor
