/-
  The walk of known: the chapter's rows.
-/
import Derived.Test.YtkpkiibahfdomaaDoorKnowa
namespace Go.Proofs.YtkpkiibahfdomaaDoor
open Go.RowKit

def kr0 : Rec := ⟨1, 2, 3, 4, 5, zs 96⟩
def kr : Rec := ⟨1, 2, 3, 4, 5, 120 :: zs 95⟩
def kq : Rec := ⟨1, 2, 4, 4, 5, 120 :: zs 95⟩
def ko : Rec := ⟨1, 2, 6, 4, 5, 120 :: zs 95⟩
def kp : Rec := ⟨1, 1, 4, 4, 5, 120 :: zs 95⟩
theorem byts_zs95 (c : Int) (h : 0 ≤ c ∧ c < 256) : Byts 96 (c :: zs 95) := ⟨by simp [zs], fun x hx => by
  rcases List.mem_cons.1 hx with rfl | hx
  · exact h
  · exact (zs_byts 95).byte x hx⟩
def small (r : Rec) : Prop := r.nd = 1 ∧ r.ep ≤ 2 ∧ 1 ≤ r.ep ∧ r.ls ≤ 6 ∧ 1 ≤ r.ls ∧ r.pg = 4 ∧ r.ps = 5 ∧ r.bd = 120 :: zs 95
theorem small_ok {r : Rec} (h : small r) : r.Ok := by
  obtain ⟨h1, h2, h3, h4, h5, h6, h7, h8⟩ := h
  refine ⟨?_, ?_, ?_, ?_, ?_, by rw [h8]; exact byts_zs95 120 (by omega)⟩ <;> unfold I64 <;> omega
theorem kr_ok : kr.Ok := small_ok (by simp [small, kr])
theorem kq_ok : kq.Ok := small_ok (by simp [small, kq])
theorem ko_ok : ko.Ok := small_ok (by simp [small, ko])
theorem kp_ok : kp.Ok := small_ok (by simp [small, kp])
theorem kr0_l : (recC kr0).length = 101 := recC_len (zs_byts 96).len
theorem kr_l : (recC kr).length = 101 := recC_len kr_ok.bd.len
theorem kq_l : (recC kq).length = 101 := recC_len kq_ok.bd.len
theorem ko_l : (recC ko).length = 101 := recC_len ko_ok.bd.len
theorem kp_l : (recC kp).length = 101 := recC_len kp_ok.bd.len
theorem set_r : (recC kr0).set 5 (.int .u8 120) = recC kr := by kernel_rfl
theorem set_q : (recC kr).set 2 (.int .i64 4) = recC kq := by kernel_rfl
theorem set_o : (recC kq).set 2 (.int .i64 6) = recC ko := by kernel_rfl
theorem set_p : (recC kq).set 1 (.int .i64 1) = recC kp := by kernel_rfl
def kA0 : List Int := laidR kr 0
def kA1 : List Int := laidR kr 1
def kB0 : List Int := laidR kq 0
def kB1 : List Int := laidR kq 1
theorem kA0_b : Byts 64 kA0 := laidR_byts (by omega) kr_ok.bd
theorem kA1_b : Byts 64 kA1 := laidR_byts (by omega) kr_ok.bd
theorem kB0_b : Byts 64 kB0 := laidR_byts (by omega) kq_ok.bd
theorem kB1_b : Byts 64 kB1 := laidR_byts (by omega) kq_ok.bd
def k179 : List Int := 179 :: zs 63
theorem k179_b : Byts 64 k179 := ⟨by simp [k179, zs], fun x hx => by
  rcases List.mem_cons.1 hx with rfl | hx
  · omega
  · exact (zs_byts 63).byte x hx⟩
theorem put_r : putR kr = (kA0 ++ kA1, 0) := by kernel_rfl
theorem put_q : putR kq = (kB0 ++ kB1, 0) := by kernel_rfl
theorem get_x : getR kA0 kA1 = (kr, 0) := by kernel_rfl
theorem get_h : getR kA0 kB1 = (zrec, 12) := by kernel_rfl
theorem get_i : getR (zs 64) (zs 64) = (zrec, 12) := by kernel_rfl
theorem take_k : takeR (zs 64) = ((1, 0), 0) := by kernel_rfl
theorem puth_l : puthR 2 0 = (zs 64, 2) := by kernel_rfl
theorem take_m : takeR k179 = ((0, 0), 12) := by kernel_rfl
theorem run_1 : runR 3 [kr, kq, ko] = 2 := by kernel_rfl
theorem run_2 : runR 3 [kq] = 0 := by kernel_rfl
theorem run_3 : runR 3 [kr, kp] = 1 := by kernel_rfl
theorem put_at {r : Rec} (hr : Byts 96 r.bd) {x : List Int × Int} (h : putR r = x) (w : World) : Calls Tryd.prog 8 #[aggV (recC r)] w fun e w' => e = .returned (.tuple #[aggV (u8s x.1), .int .i64 x.2]) ∧ Kept [] w w' := h ▸ put8 r hr w
theorem get_at {a b : List Int} (ha : Byts 64 a) (hb : Byts 64 b) {x : Rec × Int} (h : getR a b = x) (w : World) : Calls Tryd.prog 16 #[aggV (u8s a), aggV (u8s b)] w fun e w' => e = .returned (.tuple #[aggV (recC x.1), .int .i64 x.2]) ∧ Kept [] w w' := h ▸ get16 a b ha hb w
theorem take_at {s : List Int} (hs : Byts 64 s) {x : (Int × Int) × Int} (h : takeR s = x) (w : World) (hF : First w) : Calls Tryd.prog 12 #[aggV (u8s s)] w fun e w' => e = .returned (.tuple #[aggV (hdC x.1.1 x.1.2), .int .i64 x.2]) ∧ Kept [] w w' := h ▸ takehead12 s hs w hF
theorem puth_at {st ep : Int} {x : List Int × Int} (h : puthR st ep = x) (w : World) (hF : First w) : Calls Tryd.prog 9 #[aggV (hdC st ep)] w fun e w' => e = .returned (.tuple #[aggV (u8s x.1), .int .i64 x.2]) ∧ Kept [] w w' := h ▸ puthead9 st ep w hF
theorem pair_len {a b : List Int} (ha : Byts 64 a) (hb : Byts 64 b) : (u8s (a ++ b)).length = 128 := by rw [u8s_len, List.length_append, ha.len, hb.len]
theorem sec_len {a : List Int} (ha : Byts 64 a) : (u8s a).length = 64 := by rw [u8s_len, ha.len]
theorem pair_l {w : World} {b T : Nat} {x y : List Int} (h : Blk w b T (u8s (x ++ y))) : w.rangeAt b 0 (u8s x) := h.rangeIn _ (fun j hj => by rw [u8s_app, Nat.zero_add, List.getElem?_append_left hj])
theorem pair_r {w : World} {b T : Nat} {x y : List Int} (hx : x.length = 64) (h : Blk w b T (u8s (x ++ y))) : w.rangeAt b 64 (u8s y) := h.rangeIn _ (fun j _ => by rw [u8s_app, List.getElem?_append_right (by rw [u8s_len]; omega), u8s_len, hx, Nat.add_sub_cancel_left])
theorem build25k (w : World) : (Instr.build 25 #[(0, .int .i64 1), (1, .int .i64 2), (2, .int .i64 3), (3, .int .i64 4), (4, .int .i64 5)]).run Tryd.prog w = .ok (aggV (recC kr0)) w := by kernel_rfl
theorem build27a (w : World) (n : Int) : (Instr.build 27 #[(0, .int .i64 n)]).run Tryd.prog w = .ok (aggV (hdC n 0)) w := by kernel_rfl
theorem build29a (w : World) : (Instr.build 29 #[(0, .int .u8 179)]).run Tryd.prog w = .ok (aggV (u8s k179)) w := by kernel_rfl

/-- Records, one behind the other. -/
def recsC (l : List Rec) : List Value := (l.map recC).flatten
theorem recs_at : ∀ (l : List Rec), (∀ r ∈ l, r.bd.length = 96) → ∀ (i : Nat) (r : Rec), l[i]? = some r → ∀ j, j < 101 → (recsC l)[i * 101 + j]? = (recC r)[j]? := by
  intro l
  induction l with
  | nil => intro _ i r h; simp at h
  | cons q l ih =>
    intro hl i r hi j hj
    have hq := recC_len (hl q (List.mem_cons_self ..))
    have e : recsC (q :: l) = recC q ++ recsC l := rfl
    rw [e]
    cases i with
    | zero =>
      simp only [List.getElem?_cons_zero, Option.some.injEq] at hi
      subst hi
      rw [Nat.zero_mul, Nat.zero_add, List.getElem?_append_left (by omega)]
    | succ i =>
      rw [List.getElem?_append_right (by rw [hq]; omega), hq]
      rw [show (i + 1) * 101 + j - 101 = i * 101 + j by omega]
      exact ih (fun r hr => hl r (List.mem_cons_of_mem _ hr)) i r (by simpa using hi) j hj
theorem RecS.of_blk {w : World} {g T : Nat} {l : List Rec} {ex : List Value} (h : Blk w g T (recsC l ++ ex)) (hl : ∀ r ∈ l, r.bd.length = 96) : RecS w (some ⟨g, 0, none⟩) l := by
  intro i r hi
  refine ⟨g, 0, rfl, h.rangeIn _ (fun j hj => ?_)⟩
  rw [recC_len (hl r (List.mem_of_getElem? hi))] at hj
  have := recs_at l hl i r hi j hj
  rw [Nat.zero_add]
  have hlt : i * 101 + j < (recsC l).length := by
    cases hc : (recsC l)[i * 101 + j]? with
    | none =>
      rw [hc] at this
      have := List.getElem?_eq_none_iff.1 this.symm
      rw [recC_len (hl r (List.mem_of_getElem? hi))] at this
      omega
    | some v => exact (List.getElem?_eq_some_iff.1 hc).1
  rw [List.getElem?_append_left hlt]
  exact this
/-- A slice of records, written out. -/
theorem wpBSlice {ops : Array Oper} {rest : List Oper} {op : Oper} {a : Act} {w : World} {Q : Exit → Act → World → Prop} (n : Nat) (parts : Array (Nat × Operand)) (ho : op.op = .buildSlice 55 n parts) (hw : Region.wanted op (yielded ops a.tmps) = true) (ps : Array (Nat × Value)) (hp : (parts.map fun (i, x) => (i, a.eval x)) = ps) (cells : List Value) (hr : ∀ w : World, (Instr.buildSlice 55 n ps).run Tryd.prog w = .ok (.slice (some ⟨w.heap.size, 0, none⟩) n n) (w.alloc (.cells cells.toArray 25)))
    (h : ∀ W g, Blk W g 25 cells → Kept [] w W → wpList Tryd.prog ops Q rest (a.put op.dst (.slice (some ⟨g, 0, none⟩) n n)) W) : wpList Tryd.prog ops Q (op :: rest) a w :=
  BigFrame.wpList_want hw fun K hK => by
    subst hp
    unfold Oper.wp execOp
    simp only [ho, Sem.run_bind, hr, Result.andThen_ok]
    exact hK _ _ (h _ _ (Blk.new w 25 cells) ((Kept.refl _ _).alloc _))
theorem bs1 (w : World) : (Instr.buildSlice 55 3 #[(0, aggV (recC kr)), (1, aggV (recC kq)), (2, aggV (recC ko))]).run Tryd.prog w = .ok (.slice (some ⟨w.heap.size, 0, none⟩) 3 3) (w.alloc (.cells (recsC [kr, kq, ko]).toArray 25)) := by kernel_rfl
theorem bs2 (w : World) : (Instr.buildSlice 55 1 #[(0, aggV (recC kq))]).run Tryd.prog w = .ok (.slice (some ⟨w.heap.size, 0, none⟩) 1 1) (w.alloc (.cells (recsC [kq]).toArray 25)) := by kernel_rfl
theorem bs3 (w : World) : (Instr.buildSlice 55 2 #[(0, aggV (recC kr)), (1, aggV (recC kp))]).run Tryd.prog w = .ok (.slice (some ⟨w.heap.size, 0, none⟩) 2 2) (w.alloc (.cells (recsC [kr, kp]).toArray 25)) := by kernel_rfl
theorem run_at {l : List Rec} {n : Nat} (hl : ∀ r ∈ l, r.Ok) (hn : l.length = n) (hn2 : n ≤ 1000000) {k : Nat} (h : runR 3 l = k) (w : World) (g c : Nat) (hB : Blk w g 25 (recsC l)) : Calls Tryd.prog 23 #[.int .i64 3, .slice (some ⟨g, 0, none⟩) n c] w fun e w' => e = .returned (.int .i64 k) ∧ Kept [] w w' := by
  subst hn h
  exact run23 3 l hl hn2 (some ⟨g, 0, none⟩) c w (RecS.of_blk (ex := []) (by rw [List.append_nil]; exact hB) (fun r hr => (hl r hr).bd.len))
theorem ok3 : ∀ r ∈ [kr, kq, ko], r.Ok := by
  intro r hr
  simp only [List.mem_cons, List.mem_nil_iff, or_false] at hr
  rcases hr with rfl | rfl | rfl
  · exact kr_ok
  · exact kq_ok
  · exact ko_ok
theorem ok1 : ∀ r ∈ [kq], r.Ok := by
  intro r hr
  simp only [List.mem_cons, List.mem_nil_iff, or_false] at hr
  subst hr
  exact kq_ok
theorem ok2 : ∀ r ∈ [kr, kp], r.Ok := by
  intro r hr
  simp only [List.mem_cons, List.mem_nil_iff, or_false] at hr
  rcases hr with rfl | rfl
  · exact kr_ok
  · exact kp_ok


end Go.Proofs.YtkpkiibahfdomaaDoor
