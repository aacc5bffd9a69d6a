/-
  The rows of the chapter.
-/
import Derived.Test.YthbgnpbkdeofcaaSm
namespace Go.Proofs.Ythbgnpbkdeofcaa
set_option maxRecDepth 100000
open Go.RowKit

theorem cv33 (g m c : Nat) (bs : List Int) (w : World) (hB : Blk w g 5 (u8s bs)) : ∃ W, (convert 33 33 (.slice (some ⟨g, 0, none⟩) m c)).run Try.prog w = .ok (.slice (some ⟨g, 0, none⟩) m c) W ∧ W.rangeAt g 0 (u8s bs) ∧ Kept [g] w W := by
  have hb : w.heap[g]? = some (.cells (u8s bs).toArray 5 (0, 0)) := hB
  have hlt := lt_of_block hb
  have hv : w.heap[g] = .cells (u8s bs).toArray 5 (0, 0) := (Array.getElem?_eq_some_iff.1 hb).2
  have hs : w.shape? g = some (5, (u8s bs).toArray.size) := by simp [World.shape?, hb]
  have hh : (w.freeze ⟨g, (u8s bs).toArray.size, none⟩ 1).heap[g]? = some (.cells (u8s bs).toArray 5 ((u8s bs).toArray.size, (u8s bs).toArray.size + 1)) := by
    unfold World.freeze
    rw [if_neg (by decide)]
    simp only []
    rw [Array.getElem?_eq_getElem (by simpa using hlt), Array.getElem_modify]
    simp [hv]
  refine ⟨w.freeze ⟨g, (u8s bs).toArray.size, none⟩ 1, ?_, fun j v hj => ?_, ?_⟩
  · unfold convert
    simp only [Sem.run_bind, run_underlying Try.underlying33, run_underlying Try.underlying5, Result.andThen_ok, beq_self_eq_true, markStringish, run_shape, hs, run_freeze, Sem.run_pure]
  · rw [cell_of_block hh, Nat.zero_add, List.getElem?_toArray]
    exact hj
  · refine ⟨rfl, rfl, rfl, by simp [World.freeze], fun i hi hx => ?_⟩
    simp only [World.freeze, if_neg (by decide : ¬ (1 : Nat) = 0)]
    rw [Array.getElem?_modify, if_neg (by simpa using fun e : g = i => hx (by simp [e]))]
section
variable {ops : Array Oper} {rest : List Oper} {op : Oper} {a : Act} {w : World} {Q : Exit → Act → World → Prop}
theorem wpBSbG (c : Int) (hr : ∀ w : World, (Instr.buildSlice 33 1 #[(0, .int .u8 c)]).run Try.prog w = .ok (.slice (some ⟨w.heap.size, 0, none⟩) 1 1) (w.alloc (.cells #[.int .u8 c] 5))) (hw : Region.wanted op (yielded ops a.tmps) = true) (ho : op.op = .buildSlice 33 1 #[(0, .const (.int .u8 c))])
    (h : ∀ W g, g = w.heap.size → Blk W g 5 (u8s [c]) → Kept [] w W → wpList Try.prog ops Q rest (a.put op.dst (.slice (some ⟨g, 0, none⟩) 1 1)) W) : wpList Try.prog ops Q (op :: rest) a w :=
  BigFrame.wpList_want hw fun K hK => by
    unfold Oper.wp execOp
    simp only [ho, Act.eval, List.map_toArray, List.map_cons, List.map_nil, Sem.run_bind, hr, Result.andThen_ok]
    exact hK _ _ (h _ _ rfl (Blk.new w 5 (u8s [c])) ((Kept.refl _ _).alloc _))
theorem wpCvG (hw : Region.wanted op (yielded ops a.tmps) = true) (x : Operand) (ho : op.op = .convert 33 33 x) (g m c : Nat) (bs : List Int) (hx : a.eval x = .slice (some ⟨g, 0, none⟩) m c) (hB : Blk w g 5 (u8s bs)) (h : ∀ W, W.rangeAt g 0 (u8s bs) → Kept [g] w W → wpList Try.prog ops Q rest (a.put op.dst (.slice (some ⟨g, 0, none⟩) m c)) W) : wpList Try.prog ops Q (op :: rest) a w :=
  BigFrame.wpList_want hw fun K hK => by
    obtain ⟨W, hr, h1, h2⟩ := cv33 g m c bs w hB
    unfold Oper.wp execOp
    simp only [ho, hx, Sem.run_bind, hr, Result.andThen_ok]
    exact hK _ _ (h W h1 h2)
end
theorem bs120 (w : World) : (Instr.buildSlice 33 1 #[(0, .int .u8 120)]).run Try.prog w = .ok (.slice (some ⟨w.heap.size, 0, none⟩) 1 1) (w.alloc (.cells #[.int .u8 120] 5)) := by kernel_rfl
theorem bs121 (w : World) : (Instr.buildSlice 33 1 #[(0, .int .u8 121)]).run Try.prog w = .ok (.slice (some ⟨w.heap.size, 0, none⟩) 1 1) (w.alloc (.cells #[.int .u8 121] 5)) := by kernel_rfl
theorem vals_blk {W : World} {g : Nat} {bs : List Int} (h : W.rangeAt g 0 (u8s bs)) : Vals W (some ⟨g, 0, none⟩) bs.length bs.length (u8s bs) := ⟨u8s_len _, Nat.le_refl _, fun _ => ⟨g, 0, rfl, h⟩⟩
/-- The sessions of the chapter. -/
def kA0 : Ps := newP 0 1 5
def kA1 : Ps := ⟨0, 1, 5, [[120]], 0, 0, 0, false⟩
def kA2 : Ps := ⟨0, 1, 5, [[120], [121]], 0, 0, 0, false⟩
def kA3 : Ps := ⟨0, 1, 5, [[120], [121]], 0, 2, 0, false⟩
def kA4 : Ps := ⟨0, 1, 5, [[120], [121]], 2, 2, 0, false⟩
def kB0 : Ps := newP 1 0 5
def kB1 : Ps := ⟨1, 0, 5, [], 0, 0, 0, true⟩
def kB2 : Ps := ⟨1, 0, 5, [], 0, 0, 1, true⟩
def kB3 : Ps := ⟨1, 0, 5, [], 0, 0, 2, true⟩
def kB4 : Ps := ⟨1, 0, 5, [], 0, 0, 2, false⟩
def kd0 : Dg := ⟨0, 1, 5, 1, 0, [120]⟩
def kd1 : Dg := ⟨0, 1, 5, 2, 0, [121]⟩
def kd2 : Dg := ⟨1, 0, 5, 0, 2, []⟩
def kd3 : Dg := ⟨1, 0, 6, 0, 2, []⟩
theorem k_send (b g : Nat) (v : Value) (ws : List Value) (P P' : Ps) (c : Int) (hc : 0 ≤ c ∧ c < 256) (hP : P.put [c] = P') (hl : P.sent.length < 1000) (w : World) (h : Sx w b v ws P) (hr : w.rangeAt g 0 (u8s [c])) : Calls Try.prog 12 #[P0 b, .slice (some ⟨g, 0, none⟩) 1 1] w fun e w' => e = .returned (.int .i64 0) ∧ ∃ v' ws', SR w b v ws w' v' ws' P' := by
  refine (send_yes b v ws P (some ⟨g, 0, none⟩) 1 1 [c] w h (vals_blk hr) (fun e => by cases e) (by intro x hx; simp at hx; subst hx; exact hc) (by decide) hl).mono ?_
  rintro e w' ⟨rfl, v', u, hR, _⟩
  exact ⟨rfl, v', _, hP ▸ hR⟩
theorem k_fresh (b : Nat) (v : Value) (ws : List Value) (w : World) (h : Sx w b v ws kA2) : Calls Try.prog 14 #[P0 b] w fun e w' => ∃ g c u0 u1, e = .returned (.slice (some ⟨g, 0, none⟩) 2 c) ∧ Dl w' w.heap.size (.slice (some ⟨g, 0, none⟩) 2 c) [(kd0, u0), (kd1, u1)] ∧ SR w b v ws w' v ws kA3 := by
  refine (fresh14 b v ws kA2 w h).mono ?_
  rintro e w' ⟨dv, L, rfl, hD, hL, hR⟩
  obtain ⟨u0, u1, rfl⟩ := map_two (d := kd0) (d2 := kd1) hL
  obtain ⟨g, c, rfl, _⟩ := hD.sl (by simp)
  exact ⟨g, c, u0, u1, rfl, hD, hR⟩
theorem k_fresh2 (b : Nat) (v : Value) (ws : List Value) (w : World) (h : Sx w b v ws kA3) : Calls Try.prog 14 #[P0 b] w fun e w' => ∃ ao c, e = .returned (.slice ao 0 c) ∧ SR w b v ws w' v ws kA3 := by
  refine (fresh14 b v ws kA3 w h).mono ?_
  rintro e w' ⟨dv, L, rfl, hD, hL, hR⟩
  obtain rfl : L = [] := List.map_eq_nil_iff.1 hL
  obtain ⟨ao, c, rfl⟩ := owns_slN hD.row
  exact ⟨ao, c, rfl, hR⟩
theorem k_freshB (b : Nat) (v : Value) (ws : List Value) (w : World) (h : Sx w b v ws kB3) : Calls Try.prog 14 #[P0 b] w fun e w' => ∃ g c u, e = .returned (.slice (some ⟨g, 0, none⟩) 1 c) ∧ Dl w' w.heap.size (.slice (some ⟨g, 0, none⟩) 1 c) [(kd2, u)] ∧ SR w b v ws w' v ws kB4 := by
  refine (fresh14 b v ws kB3 w h).mono ?_
  rintro e w' ⟨dv, L, rfl, hD, hL, hR⟩
  obtain ⟨u, rfl⟩ := map_one (d := kd2) hL
  obtain ⟨g, c, rfl, _⟩ := hD.sl (by simp)
  exact ⟨g, c, u, rfl, hD, hR⟩
theorem k_come (b : Nat) (v : Value) (ws : List Value) (P P' : Ps) (d : Dg) (u : Value) (x : Option (List Int)) (hc : P.come d = (P', x)) (w : World) (h : Sx w b v ws P) (hB : Bod w u d.bs) : Calls Try.prog 20 #[P0 b, aggV (d.C u)] w fun e w' => ∃ v' ws' r, e = .returned (.tuple #[r, .bool x.isSome]) ∧ SR w b v ws w' v' ws' P' ∧ Bod w' r (x.getD []) ∧ ∀ k, r.ownBlock = some k → w.heap.size ≤ k := by
  refine (come20b b v ws P d u w h hB).mono ?_
  rintro e w' ⟨v', ws', r, he, hR, hBr, hf⟩
  rw [hc] at he hR hBr
  exact ⟨v', ws', r, he, hR, hBr, hf⟩
theorem kc1 : kB0.come kd1 = (kB1, none) := rfl
theorem kc2 : kB1.come kd0 = (kB2, some [120]) := rfl
theorem kc3 : kB2.come kd0 = (kB2, none) := rfl
theorem kc4 : kB2.come kd1 = (kB3, some [121]) := rfl
theorem kc5 : kA3.come kd2 = (kA4, none) := rfl
theorem kc6 : kA4.come kd3 = (kA4, none) := rfl
set_option maxHeartbeats 8000000 in
theorem known11 (w : World) : Calls Try.prog 11 #[] w fun e w' => e = .returned (.bool true) ∧ Kept [] w w' := by
  go_enter Try.func11, Try.ntmps11
  go_wp2_with (
    first
    | (go_at_call 9
       refine (new_yes 0 1 5 _ (by decide)).mono ?_
       rintro e V1 ⟨ba, rfl, e1, hs, hk⟩
       have MA : Hid (Sm w V1 ba (.slice none 0 0) [] kA0) := ⟨hs, hk, by omega, fun i h => by cases h⟩
       clear e1 hs hk
       refine Stp.go ?_))
  constructor
  go_wp2_with (
    first
    | (go_at_call 9
       refine (new_yes 1 0 5 _ (by decide)).mono ?_
       rintro e V2 ⟨bb, rfl, e1, hs, hk⟩
       have MB : Hid (Sm w V2 bb (.slice none 0 0) [] kB0) := ⟨hs, (unhide MA).k.trans hk, by have := (unhide MA).k.size; omega, fun i h => by cases h⟩
       have AP : Hid (Ap ba (.slice none 0 0) bb (.slice none 0 0)) := ⟨by have := (unhide MA).sx.lt.1; omega, fun k e => by cases e⟩
       replace MA := hide ((unhide MA).step hk)
       clear e1 hs hk
       refine Stp.go ?_))
  constructor
  go_wp2_with (
    first
    | (go_at_call 9
       refine (new_no 0 0 1 _ (by decide)).mono ?_
       rintro e V3 ⟨rfl, hw9⟩
       obtain rfl := hw9.symm
       clear hw9
       refine Stp.go ?_))
  constructor
  go_wp2_with (
    first
    | (go_at_call 9
       refine (new_no 0 8 1 _ (by decide)).mono ?_
       rintro e V4 ⟨rfl, hw9⟩
       obtain rfl := hw9.symm
       clear hw9
       refine Stp.go ?_))
  constructor
  obtain ⟨V6, hcv6, hR6, hK6⟩ := cv33 V2.heap.size 1 1 [120] (V2.alloc (.cells #[.int .u8 120] 5)) (Blk.new V2 5 (u8s [120]))
  have HR6 := hide hR6
  have HQ : Hid (Kept [] V2 V6) := ((Kept.refl [] V2).alloc _).fresh hK6 (fun i hi hl => by simp at hi; omega)
  have MA0 := hide ((unhide MA).step (unhide HQ))
  have MB0 := hide ((unhide MB).step (unhide HQ))
  clear hR6 hK6 HQ
  go_wp2_with (
    first
    | (go_at_call 12
       refine (k_send ba V2.heap.size _ _ kA0 kA1 120 (by decide) rfl (by decide) _ (unhide MA0).sx (unhide HR6)).mono ?_
       rintro e V7 ⟨rfl, va7, wa7, hR⟩
       have AQ := AP
       replace AP := hide ((unhide AP).mut hR (unhide MB0).sx)
       replace MB := hide ((unhide MB0).other hR (unhide MA0) (unhide AQ))
       replace MA := hide ((unhide MA0).mut hR)
       clear AQ hR HR6 MA0 MB0 hcv6
       refine Stp.go ?_))
  constructor
  obtain ⟨V9, hcv9, hR9, hK9⟩ := cv33 V7.heap.size 1 1 [121] (V7.alloc (.cells #[.int .u8 121] 5)) (Blk.new V7 5 (u8s [121]))
  have HR9 := hide hR9
  have HQ : Hid (Kept [] V7 V9) := ((Kept.refl [] V7).alloc _).fresh hK9 (fun i hi hl => by simp at hi; omega)
  have MA0 := hide ((unhide MA).step (unhide HQ))
  have MB0 := hide ((unhide MB).step (unhide HQ))
  clear hR9 hK9 HQ
  go_wp2_with (
    first
    | (go_at_call 12
       refine (k_send ba V7.heap.size _ _ kA1 kA2 121 (by decide) rfl (by decide) _ (unhide MA0).sx (unhide HR9)).mono ?_
       rintro e V10 ⟨rfl, va10, wa10, hR⟩
       have AQ := AP
       replace AP := hide ((unhide AP).mut hR (unhide MB0).sx)
       replace MB := hide ((unhide MB0).other hR (unhide MA0) (unhide AQ))
       replace MA := hide ((unhide MA0).mut hR)
       clear AQ hR HR9 MA0 MB0 hcv9
       refine Stp.go ?_))
  constructor
  go_wp2_with (
    first
    | (go_at_call 14
       refine (k_fresh ba _ _ _ (unhide MA).sx).mono ?_
       rintro e V11 ⟨gl, cl, u0, u1, rfl, hD, hR⟩
       have AQ := AP
       replace AP := hide ((unhide AP).mut hR (unhide MB).sx)
       replace MB := hide ((unhide MB).other hR (unhide MA) (unhide AQ))
       replace MA := hide ((unhide MA).mut hR)
       have HD := hide hD
       clear AQ hR hD
       refine Stp.go ?_))
  constructor
  go_wp2_with (
    first
    | (go_at_call 14
       refine (k_fresh2 ba _ _ _ (unhide MA).sx).mono ?_
       rintro e V12 ⟨ao2, c2, rfl, hR⟩
       have AQ := AP
       replace AP := hide ((unhide AP).mut hR (unhide MB).sx)
       replace MB := hide ((unhide MB).other hR (unhide MA) (unhide AQ))
       replace HD := hide (hR.dl (unhide MA).sx (unhide HD))
       replace MA := hide ((unhide MA).mut hR)
       obtain ⟨_, hg0, hr0⟩ := (unhide HD).at (k := 0) (p := (kd0, u0)) rfl
       obtain ⟨_, hg1, hr1⟩ := (unhide HD).at (k := 1) (p := (kd1, u1)) rfl
       cases hg0
       cases hg1
       have hc03 := hr0 3 _ rfl
       have hc00 := hr0 0 _ rfl
       have hc01 := hr0 1 _ rfl
       have hc02 := hr0 2 _ rfl
       have hc13 := hr1 3 _ rfl
       simp only [Nat.zero_mul, Nat.zero_add, Nat.one_mul, Nat.reduceAdd] at hc03 hc00 hc01 hc02 hc13
       clear AQ hR hr0 hr1
       refine Stp.go ?_))
  constructor
  go_wp2_with (
    first
    | (obtain ⟨_, hg13, hr13⟩ := (unhide HD).at (k := 1) (p := (kd1, u1)) rfl
       cases hg13
       refine wpLoadA row35 (by rfl) (.tmp 116) (by rfl) gl 6 (by kernel_rfl) (kd1.C u1) rfl hr13 ?_
       clear hc03 hc00 hc01 hc02 hc13
       clear hr13
       refine Stp.go ?_))
  constructor
  go_wp2_with (
    first
    | (go_at_call 20
       refine (k_come bb _ _ kB0 kB1 kd1 u1 none kc1 _ (unhide MB).sx ((unhide HD).bod (kd1, u1) (by simp))).mono ?_
       rintro e V13 ⟨vb13, wb13, r13, rfl, hR, hBr, _⟩
       obtain ⟨ro13, rc13, hro13, _, _⟩ := hBr.sl
       have HB13 := hide hBr
       have AQ := AP
       replace AP := hide ((unhide AP).symm.mut hR (unhide MA).sx).symm
       replace MA := hide ((unhide MA).other hR (unhide MB) (unhide AQ).symm)
       replace HD := hide (hR.dl (unhide MB).sx (unhide HD))
       replace MB := hide ((unhide MB).mut hR)
       clear AQ hR hBr hro13
       refine Stp.go ?_))
  constructor
  go_wp2_with (
    first
    | (obtain ⟨_, hg14, hr14⟩ := (unhide HD).at (k := 0) (p := (kd0, u0)) rfl
       cases hg14
       refine wpLoadA row35 (by rfl) (.tmp 124) (by rfl) gl 0 (by kernel_rfl) (kd0.C u0) rfl hr14 ?_
       clear hr14
       refine Stp.go ?_))
  constructor
  go_wp2_with (
    first
    | (go_at_call 20
       refine (k_come bb _ _ kB1 kB2 kd0 u0 (some [120]) kc2 _ (unhide MB).sx ((unhide HD).bod (kd0, u0) (by simp))).mono ?_
       rintro e V14 ⟨vb14, wb14, r14, rfl, hR, hBr, _⟩
       obtain ⟨ro14, rc14, hro14, _, _⟩ := hBr.sl
       have HB14 := hide hBr
       have AQ := AP
       replace AP := hide ((unhide AP).symm.mut hR (unhide MA).sx).symm
       replace MA := hide ((unhide MA).other hR (unhide MB) (unhide AQ).symm)
       replace HD := hide (hR.dl (unhide MB).sx (unhide HD))
       replace MB := hide ((unhide MB).mut hR)
       clear AQ hR hBr hro14
       refine Stp.go ?_))
  constructor
  go_wp2_with (
    first
    | (obtain ⟨_, hg15, hr15⟩ := (unhide HD).at (k := 0) (p := (kd0, u0)) rfl
       cases hg15
       refine wpLoadA row35 (by rfl) (.tmp 132) (by rfl) gl 0 (by kernel_rfl) (kd0.C u0) rfl hr15 ?_
       clear hr15
       refine Stp.go ?_))
  constructor
  go_wp2_with (
    first
    | (go_at_call 20
       refine (k_come bb _ _ kB2 kB2 kd0 u0 none kc3 _ (unhide MB).sx ((unhide HD).bod (kd0, u0) (by simp))).mono ?_
       rintro e V15 ⟨vb15, wb15, r15, rfl, hR, hBr, _⟩
       obtain ⟨ro15, rc15, hro15, _, _⟩ := hBr.sl
       have HB15 := hide hBr
       replace HB14 := hide (hR.bod (unhide MB).sx (unhide HB14))
       have AQ := AP
       replace AP := hide ((unhide AP).symm.mut hR (unhide MA).sx).symm
       replace MA := hide ((unhide MA).other hR (unhide MB) (unhide AQ).symm)
       replace HD := hide (hR.dl (unhide MB).sx (unhide HD))
       replace MB := hide ((unhide MB).mut hR)
       clear AQ hR hBr hro15
       refine Stp.go ?_))
  constructor
  go_wp2_with (
    first
    | (obtain ⟨_, hg16, hr16⟩ := (unhide HD).at (k := 1) (p := (kd1, u1)) rfl
       cases hg16
       refine wpLoadA row35 (by rfl) (.tmp 140) (by rfl) gl 6 (by kernel_rfl) (kd1.C u1) rfl hr16 ?_
       clear hr16
       refine Stp.go ?_))
  constructor
  go_wp2_with (
    first
    | (go_at_call 20
       refine (k_come bb _ _ kB2 kB3 kd1 u1 (some [121]) kc4 _ (unhide MB).sx ((unhide HD).bod (kd1, u1) (by simp))).mono ?_
       rintro e V16 ⟨vb16, wb16, r16, rfl, hR, hBr, _⟩
       obtain ⟨ro16, rc16, hro16, _, _⟩ := hBr.sl
       have HB16 := hide hBr
       replace HB14 := hide (hR.bod (unhide MB).sx (unhide HB14))
       have AQ := AP
       replace AP := hide ((unhide AP).symm.mut hR (unhide MA).sx).symm
       replace MA := hide ((unhide MA).other hR (unhide MB) (unhide AQ).symm)
       replace HD := hide (hR.dl (unhide MB).sx (unhide HD))
       replace MB := hide ((unhide MB).mut hR)
       clear AQ hR hBr hro16
       refine Stp.go ?_))
  constructor
  go_wp2_with (
    first
    | (go_at_call 14
       refine (k_freshB bb _ _ _ (unhide MB).sx).mono ?_
       rintro e V17 ⟨go, co, u2, rfl, hD, hR⟩
       have MB16 := MB
       replace HB14 := hide (hR.bod (unhide MB).sx (unhide HB14))
       replace HB16 := hide (hR.bod (unhide MB).sx (unhide HB16))
       have AQ := AP
       replace AP := hide ((unhide AP).symm.mut hR (unhide MA).sx).symm
       replace MA := hide ((unhide MA).other hR (unhide MB) (unhide AQ).symm)
       replace MB := hide ((unhide MB).mut hR)
       have HD2 := hide hD
       have HGW : Hid (w.heap.size ≤ V16.heap.size) := (unhide MB16).k.size
       obtain ⟨_, hg0, hr0⟩ := hD.at (k := 0) (p := (kd2, u2)) rfl
       cases hg0
       have ho3 := hr0 3 _ rfl
       have ho4 := hr0 4 _ rfl
       simp only [Nat.zero_mul, Nat.zero_add] at ho3 ho4
       clear AQ hR hD hr0 MB16
       refine Stp.go ?_))
  constructor
  go_wp2_with (
    first
    | (obtain ⟨_, hg18, hr18⟩ := (unhide HD2).at (k := 0) (p := (kd2, u2)) rfl
       cases hg18
       refine wpLoadA row35 (by rfl) (.tmp 167) (by rfl) go 0 (by kernel_rfl) (kd2.C u2) rfl hr18 ?_
       clear hr18 ho3 ho4
       refine Stp.go ?_))
  constructor
  go_wp2_with (
    first
    | (go_at_call 20
       refine (k_come ba _ _ kA3 kA4 kd2 u2 none kc5 _ (unhide MA).sx ((unhide HD2).bod (kd2, u2) (by simp))).mono ?_
       rintro e V18 ⟨va18, wa18, r18, rfl, hR, hBr, _⟩
       obtain ⟨ro18, rc18, hro18, _, _⟩ := hBr.sl
       replace HB14 := hide (hR.bod (unhide MA).sx (unhide HB14))
       replace HB16 := hide (hR.bod (unhide MA).sx (unhide HB16))
       replace HD2 := hide (hR.dl (unhide MA).sx (unhide HD2))
       replace MA := hide ((unhide MA).mut hR)
       obtain ⟨ex, hex⟩ := (unhide HD2).blk
       have HX := hide hex
       have HGO : Hid (w.heap.size ≤ go) := by have h1 := ((unhide HD2).row.lt go rfl).1; have h2 := unhide HGW; exact (by omega : w.heap.size ≤ go)
       have HU2 := hide ((unhide HD2).bod (kd2, u2) (by simp))
       clear hR hBr hro18 hex HD AP MB
       refine Stp.go ?_))
  constructor
  go_wp2_with (
    first
    | (refine wpStoreV (T := 2) (b := go) (i := 2) (v := .int .i64 6) (by rfl) (.tmp 174) (.const (.int .i64 6)) (by rfl) (by rfl) (by kernel_rfl) (by rfl) 35 _ (unhide HX) (st2 _ _ _ _ _ _ (unhide HX) (by simp [cellsD, Dg.C])) ?_
       intro V19 B19 K19
       replace HX : Hid (Blk V19 go 35 (kd3.C u2 ++ ex)) := B19
       have hb5 : ∀ u bs, Bod V18 u bs → ∀ k, u.ownBlock = some k → k ∉ [go] := fun u bs hu k e hm => by
         simp at hm
         subst hm
         obtain ⟨cs, hc⟩ := hu.block k e
         obtain ⟨cs', hc'⟩ := owns_block (unhide HD2).row k rfl
         rw [hc] at hc'
         cases hc'
       replace HB14 := hide ((unhide HB14).kept K19 (hb5 _ _ (unhide HB14)))
       replace HB16 := hide ((unhide HB16).kept K19 (hb5 _ _ (unhide HB16)))
       replace HU2 := hide ((unhide HU2).kept K19 (hb5 _ _ (unhide HU2)))
       have HKW : Hid (Kept [] w V19) := (unhide MA).k.fresh K19 (fun i hi hl => by have := unhide HGO; simp at hi; omega)
       replace MA : Hid (Sm w V19 ba va18 wa18 kA4) := ⟨(unhide MA).sx.keptT K19 (fun k hm cs T p hc => by
         simp at hm
         subst hm
         obtain ⟨cs', hc'⟩ := owns_block (unhide HD2).row k rfl
         rw [hc] at hc'
         cases hc'
         decide), unhide HKW, (unhide MA).ge⟩
       clear B19 K19 hb5 HD2 HKW
       refine Stp.go ?_))
  constructor
  go_wp2_with (
    first
    | (refine wpLoadA row35 (by rfl) (.tmp 178) (by rfl) go 0 (by kernel_rfl) (kd3.C u2) rfl ((unhide HX).rangeIn (o := 0) (kd3.C u2) (fun j hj => by rw [Nat.zero_add, List.getElem?_append_left hj])) ?_
       refine Stp.go ?_))
  constructor
  go_wp2_with (
    first
    | (go_at_call 20
       refine (k_come ba _ _ kA4 kA4 kd3 u2 none kc6 _ (unhide MA).sx (unhide HU2)).mono ?_
       rintro e V20 ⟨va20, wa20, r20, rfl, hR, hBr, _⟩
       obtain ⟨ro20, rc20, hro20, _, _⟩ := hBr.sl
       replace HB14 := hide (hR.bod (unhide MA).sx (unhide HB14))
       replace HB16 := hide (hR.bod (unhide MA).sx (unhide HB16))
       replace MA := hide ((unhide MA).mut hR)
       have hcx := conv33 (unhide HB14).row
       have hcy := conv33 (unhide HB16).row
       simp only [Option.getD_some] at hcx hcy
       rw [show strOfNums [120] = ⟨#[120]⟩ from rfl] at hcx
       rw [show strOfNums [121] = ⟨#[121]⟩ from rfl] at hcy
       have HW0 : Hid (wa20.length = 0) := by have h9 := (unhide MA).sx.len; exact (by simp [kA4] at h9; simp [h9] : wa20.length = 0)
       clear hR hBr hro20 HX HU2
       refine Stp.go ?_))
  constructor
  go_wp2_with (
    first
    | (go_at_call 22
       refine (waits22 ba _ _ _ _ (unhide MA).sx).mono ?_
       rintro e V21 ⟨rfl, q21, hq⟩
       rw [unhide HW0]
       replace MA := hide ((unhide MA).step (by rw [hq]; exact kept_drewN _ _ _ : Kept [] V20 V21))
       clear hq))
  go_ret
  exact ⟨rfl, (unhide MA).k⟩

end Go.Proofs.Ythbgnpbkdeofcaa
