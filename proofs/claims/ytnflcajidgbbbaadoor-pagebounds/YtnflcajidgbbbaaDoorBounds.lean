/-
  The walk of the law PageBounds.
-/
import Derived.Test.YtnflcajidgbbbaaDoorTorn
namespace Go.Proofs.YtnflcajidgbbbaaDoor
open Go.RowKit

theorem put_at' {p n : Int} {s : List Int} (hs : Byts 96 s) {r : List Int × Int} (h : putL p n s = r) (w : World) : Calls Tryd.prog 8 #[.int .i64 p, aggV (verC n s)] w fun e w' => e = .returned (.tuple #[aggV (u8s r.1), .int .i64 r.2]) ∧ Kept [] w w' := put_at hs h w
theorem stamp_at' {s : List Int} (hs : Byts 64 s) {r : (Int × Int × Int) × Bool} (h : stampL s = r) (w : World) : Calls Tryd.prog 16 #[aggV (u8s s)] w fun e w' => e = .returned (.tuple #[aggV (stC r.1.1 r.1.2.1 r.1.2.2), .bool r.2]) ∧ Kept [] w w' := h ▸ stamp16 s hs w

/-- A cell is stored. -/
theorem wpStore5 {ops : Array Oper} {rest : List Oper} {op : Oper} {a : Act} {w : World} {Q : Exit → Act → World → Prop} (hgd : op.guard = none) (x y : Operand) (ho : op.op = .store 5 x y) (hd : op.dst = none) (b i : Nat) (hx : a.eval x = .pointer (some ⟨b, i, none⟩)) (v : Int) (hy : a.eval y = .int .u8 v) (T : Nat) (vs : List Value) (hB : Blk w b T vs) (hi : i < vs.length)
    (h : ∀ W, Blk W b T (vs.set i (.int .u8 v)) → Kept [b] w W → wpList Tryd.prog ops Q rest a W) : wpList Tryd.prog ops Q (op :: rest) a w := by
  have hc : w.cell? ⟨b, i, none⟩ = some vs[i] := by rw [hB.cell, List.getElem?_eq_getElem hi]
  have hf := hB.frozen i
  refine wpList_plain hgd fun K hK => ?_
  have h2 := hK _ _ (h _ (hB.set (.int .u8 v)) ((Kept.refl _ _).setCell (by simp) _))
  unfold Oper.wp execOp
  simp only [ho, hx, hy]
  simp [go_sem, hc, hf]
  rw [hd]
  exact h2
theorem Mem.set {w W W' : World} {Bs : List (Nat × Nat × List Value)} {b T : Nat} {vs us : List Value} (h : Mem w W ((b, T, vs) :: Bs)) (hb : Blk W' b T us) (hk : Kept [b] W W') (hne : ∀ x ∈ Bs, x.1 < b) (hw : w.heap.size ≤ b) : Mem w W' ((b, T, us) :: Bs) := by
  refine ⟨fun x hx => ?_, h.k.fresh hk (by intro i hi; simp at hi; omega)⟩
  rcases List.mem_cons.1 hx with rfl | hx
  · exact hb
  · exact (h.blk x (List.mem_cons_of_mem _ hx)).kept hk (by have := hne x hx; simp; omega)

theorem Mem.lts {w W : World} {Bs : List (Nat × Nat × List Value)} {b : Nat} (h : Mem w W Bs) (hb : b = W.heap.size) : ∀ x ∈ Bs, x.1 < b := fun x hx => by rw [hb]; exact (h.blk x hx).lt
theorem Mem.ge {w W : World} {Bs : List (Nat × Nat × List Value)} {b : Nat} (h : Mem w W Bs) (hb : b = W.heap.size) : w.heap.size ≤ b := by rw [hb]; exact h.k.size
def kV : List Int := zs 95 ++ [255]
def kS0 : List Int := laidL 15 0 2147483647 (zs 48)
def kS1 : List Int := laidL 15 1 2147483647 (zs 47 ++ [255])
def kT : List Int := kS1.set 63 1
def kU : List Int := kS0.set 2 255
theorem kV_b : Byts 96 kV := ⟨by simp [kV, zs], by decide⟩
theorem kS0_b : Byts 64 kS0 := laidL_byts (zs_byts 48)
theorem kS1_b : Byts 64 kS1 := laidL_byts ⟨by simp [zs], by decide⟩
theorem kT_b : Byts 64 kT := ⟨by simp [kT, kS1_b.len], by decide⟩
theorem kU_b : Byts 64 kU := ⟨by simp [kU, kS0_b.len], by decide⟩
theorem bput_s : putL 15 2147483647 kV = (kS0 ++ kS1, 0) := by kernel_rfl
theorem bput_f : putL 15 2147483648 (0 :: zs 95) = (zs 128, 2) := by kernel_rfl
theorem bput_g : putL (-1) 2147483647 kV = (zs 128, 2) := by kernel_rfl
theorem bput_h : putL 0 (-1) (0 :: zs 95) = (zs 128, 2) := by kernel_rfl
theorem bget_v : getL 15 kS0 kS1 = ((2147483647, kV), 0) := by kernel_rfl
theorem bget_j : getL 16 kS0 kS1 = ((0, zs 96), 2) := by kernel_rfl
theorem bst_t : stampL kT = ((0, 0, 0), false) := by kernel_rfl
theorem bst_u : stampL kU = ((0, 0, 0), false) := by kernel_rfl
def xs (n : Nat) : List Int := List.replicate n 120
theorem xs_b (n : Nat) : ∀ x ∈ xs n, 0 ≤ x ∧ x < 256 := by intro x hx; simp [xs] at hx; omega
theorem bbody_l : bodyL (xs 289) = (zs 96, 3) := by kernel_rfl
theorem bbody_m : bodyL (xs 97) = (zs 96, 4) := by kernel_rfl
theorem bbody_n : bodyL (xs 96) = (xs 96, 0) := by kernel_rfl
theorem xs_len (n : Nat) : (xs n).length = n := by simp [xs]
theorem ver_last : (verC 2147483647 (0 :: zs 95)).set 96 (.int .u8 255) = verC 2147483647 kV := by kernel_rfl
theorem kT_set : (u8s kS1).set 63 (.int .u8 1) = u8s kT := by rw [u8s_set]; rfl
theorem kU_set : (u8s kS0).set 2 (.int .u8 255) = u8s kU := by rw [u8s_set]; rfl
theorem made_same (m : Nat) (v : Value) (n : Nat) (hm : 0 < m) : madeCells (List.replicate m v).toArray n = (List.replicate n v).toArray := by
  apply Array.ext
  · rw [size_madeCells]; simp
  · intro i h1 h2
    have h3 : i % m < m := Nat.mod_lt _ hm
    simp [madeCells, h3]
theorem xs_range {W : World} {b N : Nat} (n : Nat) (hn : n ≤ N) (h : Blk W b 5 (u8s (xs N ++ zs (N - N)))) : W.rangeAt b 0 (u8s (xs n)) := h.rangeIn _ (fun j hj => by
  have hj : j < n := by simpa [u8s, xs] using hj
  simp [u8s, xs, zs, hj, show j < N by omega])
theorem xs_set (k j : Nat) : (xs k ++ zs (j + 1)).set k 120 = xs (k + 1) ++ zs j := by
  have h1 : (xs k).length = k := xs_len k
  rw [List.set_append_right _ _ (by omega), h1, Nat.sub_self]
  simp only [zs, List.replicate_succ, List.set_cons_zero]
  simp only [xs]
  rw [List.replicate_succ', List.append_assoc]
  rfl
theorem run_mk289 (w : World) : Sem.run Tryd.prog (Instr.makeSlice 58 (.int .i64 289) (.int .i64 289)) w = .ok (.slice (some ⟨w.heap.size, 0, none⟩) 289 289) (w.alloc (.cells (u8s (zs 289)).toArray 5)) := by
  obtain ⟨i0, hi, hz0, hz1, hz2⟩ := info_parts Tryd.info5
  have hr := run_make (P := Tryd.prog) w 58 5 i0 (.int .u8 0) Tryd.underlying58 hi hz0 .i64 .i64 289 289 (by omega) (by omega) (by rw [hz2]; omega) (by omega)
  have hc : madeCells (Value.int .u8 0).cells (289 * 1) = (u8s (zs 289)).toArray := by
    have h1 : (Value.int .u8 0).cells = (List.replicate 1 (Value.int .u8 0)).toArray := rfl
    rw [h1, made_same _ _ _ (by decide), Nat.mul_one]
    unfold u8s zs
    rw [List.map_replicate]
  rw [hz1] at hr
  rw [hr]
  rw [show (289 : Int).toNat = 289 from rfl, hc]
theorem wpMk {ops : Array Oper} {rest : List Oper} {op : Oper} {a : Act} {w : World} {Q : Exit → Act → World → Prop} (hgd : op.guard = none) (ho : op.op = .makeSlice 58 (.const (.int .i64 289)) (.const (.int .i64 289)))
    (h : ∀ W b, b = w.heap.size → Blk W b 5 (u8s (zs 289)) → Kept [] w W → wpList Tryd.prog ops Q rest (a.put op.dst (.slice (some ⟨b, 0, none⟩) 289 289)) W) : wpList Tryd.prog ops Q (op :: rest) a w :=
  wpList_plain hgd fun K hK => by
    unfold Oper.wp execOp
    simp only [ho, Act.eval, Sem.run_bind, run_mk289, Result.andThen_ok]
    exact hK _ _ (h _ _ rfl (Blk.new w 5 _) ((Kept.refl _ _).alloc _))

set_option maxHeartbeats 8000000 in
set_option maxRecDepth 100000 in
theorem bounds7 (w : World) : Calls Tryd.prog 7 #[] w fun e w' => e = .returned (.bool true) ∧ Kept [] w w' := by
  have M : Hid (Mem w w []) := ⟨by simp, Kept.refl _ _⟩
  go_enter Tryd.func7, Tryd.ntmps7
  go_wp2_with fail
  refine (version23 2147483647 0 _).mono ?_
  rintro e w1 ⟨rfl, k1⟩
  replace M := hide ((unhide M).quiet k1)
  clear k1
  go_wp2_with fail
  refine (version23 2147483648 0 _).mono ?_
  rintro e w2 ⟨rfl, k2⟩
  replace M := hide ((unhide M).quiet k2)
  clear k2
  have hvl1 : (verC 2147483647 (0 :: zs 95)).length = 97 := verC_len (byts_zs95 0 (by omega)).len
  have hvl2 : (verC 2147483648 (0 :: zs 95)).length = 97 := verC_len (byts_zs95 0 (by omega)).len
  go_wp2_with (
    first
    | (refine wpAllocV (verC 0 (zs 96)) zero25 1 (by rfl) (by rfl) (by rfl) ?_
       intro X1 eX1
       have A1 : Hid (Blk X1 w2.heap.size 25 (verC 0 (zs 96))) := by rw [eX1]; exact Blk.new' rfl
       have AK : Hid (Kept [] w X1) := by rw [eX1]; exact (unhide M).k.alloc _
       have s1 : X1.heap.size = w2.heap.size + 1 := by rw [eX1]; simp
       have hw2 : w.heap.size ≤ w2.heap.size := (unhide M).k.size
       clear eX1)
    | (refine wpAllocV (verC 0 (zs 96)) zero25 2 (by rfl) (by rfl) (by rfl) ?_
       intro X2 eX2
       have B1 : Hid (Blk X2 w2.heap.size 25 (verC 0 (zs 96))) := by rw [eX2]; exact (unhide A1).alloc _
       have B2 : Hid (Blk X2 (w2.heap.size + 1) 25 (verC 0 (zs 96))) := by rw [eX2]; exact Blk.new' s1.symm
       have BK : Hid (Kept [] w X2) := by rw [eX2]; exact (unhide AK).alloc _
       rw [s1]
       clear eX2 A1 AK M s1)
    | (refine wpStoreA row25 (by rfl) (.tmp 1) (.tmp 29) (by rfl) w2.heap.size 0 (verC 2147483647 (0 :: zs 95)) (by kernel_rfl) (by kernel_rfl) hvl1 (verC_one _ _) ((unhide B1).there (by rw [verC_zero]; omega)) ?_
       have C1 := hide ((unhide B1).put (vs := verC 2147483647 (0 :: zs 95)) (by rw [verC_zero]; exact hvl1.symm))
       have C2 := hide ((unhide B2).other (o := 0) (vs := verC 2147483647 (0 :: zs 95)) (b' := w2.heap.size) (by omega))
       have CK := hide ((unhide BK).setCells (b := w2.heap.size) (verC 2147483647 (0 :: zs 95)) 0 (by omega))
       generalize (X2.setCells w2.heap.size 0 (verC 2147483647 (0 :: zs 95))) = X3 at *
       clear B1 B2 BK)
    | (refine wpStoreA row25 (by rfl) (.tmp 2) (.tmp 30) (by rfl) (w2.heap.size + 1) 0 (verC 2147483648 (0 :: zs 95)) (by kernel_rfl) (by kernel_rfl) hvl2 (verC_one _ _) ((unhide C2).there (by rw [verC_zero]; omega)) ?_
       have D1 := hide ((unhide C1).other (o := 0) (vs := verC 2147483648 (0 :: zs 95)) (b' := w2.heap.size + 1) (by omega))
       have D2 := hide ((unhide C2).put (vs := verC 2147483648 (0 :: zs 95)) (by rw [verC_zero]; exact hvl2.symm))
       have DK := hide ((unhide CK).setCells (b := w2.heap.size + 1) (verC 2147483648 (0 :: zs 95)) 0 (by omega))
       generalize (X3.setCells (w2.heap.size + 1) 0 (verC 2147483648 (0 :: zs 95))) = X4 at *
       clear C1 C2 CK)
    | (refine wpStore5 (by rfl) (.tmp 32) _ (by rfl) (by rfl) w2.heap.size 96 (by kernel_rfl) 255 (by kernel_rfl) 25 (verC 2147483647 (0 :: zs 95)) (unhide D1) (by rw [hvl1]; omega) ?_
       intro X5 E1 EK
       rw [ver_last] at E1
       have M : Hid (Mem w X5 [(w2.heap.size, 25, verC 2147483647 kV), (w2.heap.size + 1, 25, verC 2147483648 (0 :: zs 95))]) := by
         refine ⟨fun x hx => ?_, (unhide DK).fresh EK (by intro i hi; simp at hi; omega)⟩
         simp only [List.mem_cons, List.mem_nil_iff, or_false] at hx
         rcases hx with rfl | rfl
         · exact E1
         · exact (unhide D2).kept EK (by simp)
       clear D1 D2 DK E1 EK
       generalize w2.heap.size + 1 = b2 at *
       generalize w2.heap.size = b1 at *)
    | (refine wpLoadA row25 (by rfl) (.tmp 1) (by rfl) b1 0 (by kernel_rfl) (verC 2147483647 kV) (verC_len kV_b.len) ((unhide M).blk (b1, 25, verC 2147483647 kV) (by simp)).range ?_))
  refine (put_at' kV_b bput_s _).mono ?_
  rintro e w3 ⟨rfl, k3⟩
  replace M := hide ((unhide M).quiet k3)
  clear k3
  go_wp2_with (
    first
    | (refine wpNew row28 (u8s (zs 128)) (zl 128) zero28 3 (by rfl) (by rfl) (by rfl) (.tmp 36) (by rfl) (by rfl) (by rfl) (u8s (kS0 ++ kS1)) (pair_len kS0_b kS1_b) (u8s_one _) (by kernel_rfl) (by kernel_rfl) ?_
       intro WS bS hbS BS KS
       replace M := hide ((unhide M).add KS BS)
       clear hbS BS KS)
    | (refine wpLoadA row25 (by rfl) (.tmp 2) (by rfl) b2 0 (by kernel_rfl) (verC 2147483648 (0 :: zs 95)) (verC_len (byts_zs95 0 (by omega)).len) ((unhide M).blk (b2, 25, verC 2147483648 (0 :: zs 95)) (by simp)).range ?_))
  refine (put_at' (byts_zs95 0 (by omega)) bput_f _).mono ?_
  rintro e w4 ⟨rfl, k4⟩
  replace M := hide ((unhide M).quiet k4)
  clear k4
  go_wp2_with (
    first
    | (refine wpNew row28 (u8s (zs 128)) (zl 128) zero28 5 (by rfl) (by rfl) (by rfl) (.tmp 41) (by rfl) (by rfl) (by rfl) (u8s (zs 128)) (zl 128) (u8s_one _) (by kernel_rfl) (by kernel_rfl) ?_
       intro WF bF hbF BF KF
       replace M := hide ((unhide M).add KF BF)
       clear hbF BF KF)
    | (refine wpLoadA row25 (by rfl) (.tmp 1) (by rfl) b1 0 (by kernel_rfl) (verC 2147483647 kV) (verC_len kV_b.len) ((unhide M).blk (b1, 25, verC 2147483647 kV) (by simp)).range ?_))
  refine (put_at' kV_b bput_g _).mono ?_
  rintro e w5 ⟨rfl, k5⟩
  replace M := hide ((unhide M).quiet k5)
  clear k5
  go_wp2_with (
    first
    | (refine wpNew row28 (u8s (zs 128)) (zl 128) zero28 7 (by rfl) (by rfl) (by rfl) (.tmp 46) (by rfl) (by rfl) (by rfl) (u8s (zs 128)) (zl 128) (u8s_one _) (by kernel_rfl) (by kernel_rfl) ?_
       intro WG bG hbG BG KG
       replace M := hide ((unhide M).add KG BG)
       clear hbG BG KG))
  refine (version23 (-1) 0 _).mono ?_
  rintro e w6 ⟨rfl, k6⟩
  replace M := hide ((unhide M).quiet k6)
  clear k6
  go_wp2_with fail
  refine (put_at' (byts_zs95 0 (by omega)) bput_h _).mono ?_
  rintro e w7 ⟨rfl, k7⟩
  replace M := hide ((unhide M).quiet k7)
  clear k7
  go_wp2_with (
    first
    | (refine wpNew row28 (u8s (zs 128)) (zl 128) zero28 9 (by rfl) (by rfl) (by rfl) (.tmp 51) (by rfl) (by rfl) (by rfl) (u8s (zs 128)) (zl 128) (u8s_one _) (by kernel_rfl) (by kernel_rfl) ?_
       intro WH bH hbH BH KH
       replace M := hide ((unhide M).add KH BH)
       clear hbH BH KH)
    | (refine wpLoadA row27 (by rfl) (.tmp 54) (by rfl) bS 0 (by kernel_rfl) (u8s kS0) (by rw [u8s_len, kS0_b.len]) (pair_l (y := kS1) ((unhide M).blk (bS, 28, u8s (kS0 ++ kS1)) (by simp))) ?_)
    | (refine wpLoadA row27 (by rfl) (.tmp 56) (by rfl) bS 64 (by kernel_rfl) (u8s kS1) (by rw [u8s_len, kS1_b.len]) (pair_r (x := kS0) kS0_b.len ((unhide M).blk (bS, 28, u8s (kS0 ++ kS1)) (by simp))) ?_))
  refine (get_at kS0_b kS1_b bget_v _).mono ?_
  rintro e w8 ⟨rfl, k8⟩
  replace M := hide ((unhide M).quiet k8)
  clear k8
  go_wp2_with (
    first
    | (refine wpNew row25 (verC 0 (zs 96)) verC_zero zero25 11 (by rfl) (by rfl) (by rfl) (.tmp 59) (by rfl) (by rfl) (by rfl) (verC 2147483647 kV) (verC_len kV_b.len) (verC_one _ _) (by kernel_rfl) (by kernel_rfl) ?_
       intro WV bV hbV BV KV
       replace M := hide ((unhide M).add KV BV)
       clear hbV BV KV)
    | (refine wpLoadA row27 (by rfl) (.tmp 62) (by rfl) bS 0 (by kernel_rfl) (u8s kS0) (by rw [u8s_len, kS0_b.len]) (pair_l (y := kS1) ((unhide M).blk (bS, 28, u8s (kS0 ++ kS1)) (by simp))) ?_)
    | (refine wpLoadA row27 (by rfl) (.tmp 64) (by rfl) bS 64 (by kernel_rfl) (u8s kS1) (by rw [u8s_len, kS1_b.len]) (pair_r (x := kS0) kS0_b.len ((unhide M).blk (bS, 28, u8s (kS0 ++ kS1)) (by simp))) ?_))
  refine (get_at kS0_b kS1_b bget_j _).mono ?_
  rintro e w9 ⟨rfl, k9⟩
  replace M := hide ((unhide M).quiet k9)
  clear k9
  go_wp2_with (
    first
    | (refine wpNew row25 (verC 0 (zs 96)) verC_zero zero25 13 (by rfl) (by rfl) (by rfl) (.tmp 67) (by rfl) (by rfl) (by rfl) (verC 0 (zs 96)) verC_zero (verC_one _ _) (by kernel_rfl) (by kernel_rfl) ?_
       intro WJ bJ hbJ BJ KJ
       replace M := hide ((unhide M).add KJ BJ)
       clear hbJ BJ KJ)
    | (refine wpLoadA row27 (by rfl) (.tmp 69) (by rfl) bS 64 (by kernel_rfl) (u8s kS1) (by rw [u8s_len, kS1_b.len]) (pair_r (x := kS0) kS0_b.len ((unhide M).blk (bS, 28, u8s (kS0 ++ kS1)) (by simp))) ?_)
    | (refine wpNew row27 (u8s (zs 64)) (zl 64) zero27 15 (by rfl) (by rfl) (by rfl) (.tmp 70) (by rfl) (by rfl) (by rfl) (u8s kS1) (by rw [u8s_len, kS1_b.len]) (u8s_one _) (by kernel_rfl) (by kernel_rfl) ?_
       intro WT bT hbT BT KT
       have LT := hide (Mem.lts (unhide M) hbT)
       have LWT := hide (Mem.ge (unhide M) hbT)
       replace M := hide ((unhide M).add KT BT)
       clear hbT BT KT)
    | (refine wpStore5 (by rfl) (.tmp 71) _ (by rfl) (by rfl) bT 63 (by kernel_rfl) 1 (by kernel_rfl) 27 (u8s kS1) ((unhide M).blk (bT, 27, (u8s kS1)) (by simp)) (by rw [u8s_len, kS1_b.len]; omega) ?_
       intro YT ET EKT
       rw [kT_set] at ET
       replace M := hide ((unhide M).set ET EKT (unhide LT) (unhide LWT))
       clear ET EKT LT LWT)
    | (refine wpLoadA row27 (by rfl) (.tmp 72) (by rfl) bS 0 (by kernel_rfl) (u8s kS0) (by rw [u8s_len, kS0_b.len]) (pair_l (y := kS1) ((unhide M).blk (bS, 28, u8s (kS0 ++ kS1)) (by simp))) ?_)
    | (refine wpNew row27 (u8s (zs 64)) (zl 64) zero27 16 (by rfl) (by rfl) (by rfl) (.tmp 73) (by rfl) (by rfl) (by rfl) (u8s kS0) (by rw [u8s_len, kS0_b.len]) (u8s_one _) (by kernel_rfl) (by kernel_rfl) ?_
       intro WU bU hbU BU KU
       have LU := hide (Mem.lts (unhide M) hbU)
       have LWU := hide (Mem.ge (unhide M) hbU)
       replace M := hide ((unhide M).add KU BU)
       clear hbU BU KU)
    | (refine wpStore5 (by rfl) (.tmp 74) _ (by rfl) (by rfl) bU 2 (by kernel_rfl) 255 (by kernel_rfl) 27 (u8s kS0) ((unhide M).blk (bU, 27, (u8s kS0)) (by simp)) (by rw [u8s_len, kS0_b.len]; omega) ?_
       intro YU EU EKU
       rw [kU_set] at EU
       replace M := hide ((unhide M).set EU EKU (unhide LU) (unhide LWU))
       clear EU EKU LU LWU)
    | (refine wpLoadA row27 (by rfl) (.tmp 15) (by rfl) bT 0 (by kernel_rfl) (u8s kT) (by rw [u8s_len, kT_b.len]) ((unhide M).blk (bT, 27, u8s kT) (by simp)).range ?_))
  refine (stamp_at' kT_b bst_t _).mono ?_
  rintro e w10 ⟨rfl, k10⟩
  replace M := hide ((unhide M).quiet k10)
  clear k10
  go_wp2_with (
    first
    | (refine wpNew row44 (stC 0 0 0) rfl zero44 17 (by rfl) (by rfl) (by rfl) (.tmp 78) (by rfl) (by rfl) (by rfl) (stC 0 0 0) rfl (stC_one _ _ _) (by kernel_rfl) (by kernel_rfl) ?_
       intro WP bP hbP BP KP
       replace M := hide ((unhide M).add KP BP)
       clear hbP BP KP)
    | (refine wpLoadA row27 (by rfl) (.tmp 16) (by rfl) bU 0 (by kernel_rfl) (u8s kU) (by rw [u8s_len, kU_b.len]) ((unhide M).blk (bU, 27, u8s kU) (by simp)).range ?_))
  refine (stamp_at' kU_b bst_u _).mono ?_
  rintro e w11 ⟨rfl, k11⟩
  replace M := hide ((unhide M).quiet k11)
  clear k11
  go_wp2_with (
    first
    | (refine wpNew row44 (stC 0 0 0) rfl zero44 19 (by rfl) (by rfl) (by rfl) (.tmp 83) (by rfl) (by rfl) (by rfl) (stC 0 0 0) rfl (stC_one _ _ _) (by kernel_rfl) (by kernel_rfl) ?_
       intro WQ bQ hbQ BQ KQ
       replace M := hide ((unhide M).add KQ BQ)
       clear hbQ BQ KQ)
    | (refine wpMk (by rfl) (by rfl) ?_
       intro WL bL hbL BL KL
       have LL := hide (Mem.lts (unhide M) hbL)
       have LW := hide (Mem.ge (unhide M) hbL)
       replace M := hide ((unhide M).add KL BL)
       clear hbL BL KL))
  go_loopw [22] (fun i wr => ∃ k : Nat, k ≤ 289 ∧ i = .int .i64 k ∧ Hid (Mem w wr [(bL, 5, u8s (xs k ++ zs (289 - k))), (b1, 25, verC 2147483647 kV), (bV, 25, verC 2147483647 kV)])) (fun i _ => 289 - (intOf i).toNat)
  case atStart =>
    refine ⟨0, by omega, rfl, fun x hx => ?_, (unhide M).k⟩
    simp only [List.mem_cons, List.mem_nil_iff, or_false] at hx
    rcases hx with rfl | rfl | rfl
    · exact (unhide M).blk (bL, 5, u8s (zs 289)) (by simp)
    · exact (unhide M).blk (b1, 25, verC 2147483647 kV) (by simp)
    · exact (unhide M).blk (bV, 25, verC 2147483647 kV) (by simp)
  case round =>
    obtain ⟨k, hk, rfl, hM⟩ := hrel
    have hl1 := unhide LL (b1, 25, verC 2147483647 kV) (by simp)
    have hl2 := unhide LL (bV, 25, verC 2147483647 kV) (by simp)
    by_cases hlt : k < 289
    · have hB := (unhide hM).blk (bL, 5, u8s (xs k ++ zs (289 - k))) (by simp)
      have hq : wr.cell? ⟨bL, k, none⟩ = some (.int .u8 0) := fits_cell hB k _ (by simp [u8s, xs, zs, show 0 < 289 - k by omega])
      have hf := hB.frozen k
      go_wp2_with fail
      go_roundw
      case rel =>
        refine ⟨k + 1, by omega, by go_num, ?_⟩
        refine (unhide hM).set (us := u8s (xs (k + 1) ++ zs (289 - (k + 1)))) ?_ ((Kept.refl _ _).setCell (by simp) _) ?_ (unhide LW)
        · have := hB.set (i := k) (.int .u8 120)
          rw [u8s_set] at this
          have e : (xs k ++ zs (289 - k)).set k 120 = xs (k + 1) ++ zs (289 - (k + 1)) := by
            obtain ⟨j, hj⟩ : ∃ j, 289 - k = j + 1 := ⟨288 - k, by omega⟩
            have h2 : 289 - (k + 1) = j := by omega
            rw [hj, h2, xs_set]
          rw [e] at this
          exact this
        · intro x hx
          simp only [List.mem_cons, List.mem_nil_iff, or_false] at hx
          rcases hx with rfl | rfl
          · exact hl1
          · exact hl2
      case measure => simp [intOf]; omega
    · obtain rfl : k = 289 := by omega
      replace M := hM
      clear hM
      clear hl1 hl2 LL LW
      go_wp2_with (
        first
        | (refine wpStr (by rfl) (.tmp 94) (by rfl) bL 289 289 (xs 289) (xs_len _) (by kernel_rfl) (xs_range 289 (by omega) ((unhide M).blk (bL, 5, u8s (xs 289 ++ zs (289 - 289))) (by simp))) ?_))
      refine (body_at20 (xs_b 289) (by rw [xs_len]; omega) bbody_l _).mono ?_
      rintro e w30 ⟨rfl, k30⟩
      replace M := hide ((unhide M).quiet k30)
      clear k30
      go_wp2_with (
        first
        | (refine wpNew row23 (u8s (zs 96)) zl96 zero23 23 (by rfl) (by rfl) (by rfl) (.tmp 97) (by rfl) (by rfl) (by rfl) (u8s (zs 96)) zl96 (u8s_one _) (by kernel_rfl) (by kernel_rfl) ?_
           intro WX1 bX1 hbX1 BX1 KX1
           replace M := hide ((unhide M).add KX1 BX1)
           clear hbX1 BX1 KX1)
        | (refine wpStr (by rfl) (.tmp 101) (by rfl) bL 97 289 (xs 97) (xs_len _) (by kernel_rfl) (xs_range 97 (by omega) ((unhide M).blk (bL, 5, u8s (xs 289 ++ zs (289 - 289))) (by simp))) ?_))
      refine (body_at20 (xs_b 97) (by rw [xs_len]; omega) bbody_m _).mono ?_
      rintro e w31 ⟨rfl, k31⟩
      replace M := hide ((unhide M).quiet k31)
      clear k31
      go_wp2_with (
        first
        | (refine wpNew row23 (u8s (zs 96)) zl96 zero23 25 (by rfl) (by rfl) (by rfl) (.tmp 104) (by rfl) (by rfl) (by rfl) (u8s (zs 96)) zl96 (u8s_one _) (by kernel_rfl) (by kernel_rfl) ?_
           intro WX2 bX2 hbX2 BX2 KX2
           replace M := hide ((unhide M).add KX2 BX2)
           clear hbX2 BX2 KX2)
        | (refine wpStr (by rfl) (.tmp 108) (by rfl) bL 96 289 (xs 96) (xs_len _) (by kernel_rfl) (xs_range 96 (by omega) ((unhide M).blk (bL, 5, u8s (xs 289 ++ zs (289 - 289))) (by simp))) ?_))
      refine (body_at20 (xs_b 96) (by rw [xs_len]; omega) bbody_n _).mono ?_
      rintro e w32 ⟨rfl, k32⟩
      replace M := hide ((unhide M).quiet k32)
      clear k32
      go_wp2_with (
        first
        | (refine wpNew row23 (u8s (zs 96)) zl96 zero23 27 (by rfl) (by rfl) (by rfl) (.tmp 111) (by rfl) (by rfl) (by rfl) (u8s (xs 96)) (by rw [u8s_len, xs_len]) (u8s_one _) (by kernel_rfl) (by kernel_rfl) ?_
           intro WX3 bX3 hbX3 BX3 KX3
           replace M := hide ((unhide M).add KX3 BX3)
           clear hbX3 BX3 KX3)
        | (go_at_call 10; refine (num10 _ _).mono ?_; rintro e w' ⟨rfl, hw'⟩; obtain rfl := hw'.symm)
        | (refine wpLoadG row25 (.tmp 11) (by rfl) (by kernel_rfl) bV 0 (by kernel_rfl) (verC 2147483647 kV) (verC_len kV_b.len) ((unhide M).blk (bV, 25, verC 2147483647 kV) (by simp)).range ?_)
        | (refine wpLoadG row25 (.tmp 1) (by rfl) (by kernel_rfl) b1 0 (by kernel_rfl) (verC 2147483647 kV) (verC_len kV_b.len) ((unhide M).blk (b1, 25, verC 2147483647 kV) (by simp)).range ?_)
        | (refine wpEqlG 25 25 guard25 (.tmp 123) (.tmp 124) (by rfl) (by kernel_rfl) (verC 2147483647 kV) (verC 2147483647 kV) (by kernel_rfl) (by kernel_rfl) true ((equal25 _ _ _ _ _ kV_b.len kV_b.len).trans (by simp)) ?_))
      refine (known11 _).mono ?_
      rintro e w33 ⟨rfl, k33⟩
      replace M := hide ((unhide M).quiet k33)
      clear k33
      go_wp2_with fail
      go_ret
      exact ⟨rfl, (unhide M).k⟩

end Go.Proofs.YtnflcajidgbbbaaDoor
