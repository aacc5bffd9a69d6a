/-
  Closed values for RecordBounds.
-/
import Derived.Test.YtkpkiibahfdomaaDoorKnown
namespace Go.Proofs.YtkpkiibahfdomaaDoor
open Go.RowKit

def gr0 : Rec := ⟨7, 2147483647, 2147483647, 15, 2147483647, zs 96⟩
def gr : Rec := ⟨7, 2147483647, 2147483647, 15, 2147483647, zs 95 ++ [255]⟩
theorem byts255 : Byts 1 [255] := ⟨rfl, fun x hx => by rw [List.mem_singleton.1 hx]; omega⟩
theorem byts95z : Byts 96 (zs 95 ++ [255]) := (zs_byts 95).app byts255
theorem gr_b : Byts 96 gr.bd := byts95z
theorem gr0_l : (recC gr0).length = 101 := recC_len (zs_byts 96).len
theorem gr_l : (recC gr).length = 101 := recC_len gr_b.len
theorem set_g : (recC gr0).set 100 (.int .u8 255) = recC gr := by kernel_rfl
def gA0 : List Int := laidR gr 0
def gA1 : List Int := laidR gr 1
theorem gA0_b : Byts 64 gA0 := laidR_byts (by omega) gr_b
theorem gA1_b : Byts 64 gA1 := laidR_byts (by omega) gr_b
theorem put_g : putR gr = (gA0 ++ gA1, 0) := by kernel_rfl
theorem build25g (w : World) : (Instr.build 25 #[(0, .int .i64 7), (1, .int .i64 2147483647), (2, .int .i64 2147483647), (3, .int .i64 15), (4, .int .i64 2147483647)]).run Tryd.prog w = .ok (aggV (recC gr0)) w := by kernel_rfl
theorem zero70 (w : World) : (Instr.alloc 70 true (.tuple #[])).run Tryd.prog w = .ok (P0 w.heap.size) (w.alloc (.cells (recsC (List.replicate 8 zrec)).toArray 70)) := by kernel_rfl
/-- The list while it is filled. -/
def fillL (k : Nat) : List Rec := List.replicate k gr ++ List.replicate (8 - k) zrec
theorem recs_len : ∀ (l : List Rec), (∀ r ∈ l, r.bd.length = 96) → (recsC l).length = l.length * 101 := by
  intro l
  induction l with
  | nil => intro _; rfl
  | cons q l ih =>
    intro h
    have e : recsC (q :: l) = recC q ++ recsC l := rfl
    rw [e, List.length_append, ih (fun r hr => h r (List.mem_cons_of_mem _ hr)), recC_len (h q (List.mem_cons_self ..)), List.length_cons]
    omega
theorem recs_app (l m : List Rec) : recsC (l ++ m) = recsC l ++ recsC m := by simp [recsC]
theorem rep_b {k : Nat} {q : Rec} (h : q.bd.length = 96) : ∀ r ∈ List.replicate k q, r.bd.length = 96 := by
  intro r hr
  rw [(List.mem_replicate.1 hr).2]
  exact h
theorem fill_len (k : Nat) (hk : k ≤ 8) : (recsC (fillL k)).length = 808 := by
  rw [fillL, recs_app, List.length_append, recs_len _ (rep_b gr_b.len), recs_len _ (rep_b (zs_byts 96).len)]
  simp
  omega
theorem fill_step {w : World} {b k : Nat} (hk : k < 8) (h : Blk w b 70 (recsC (fillL k))) : Blk (w.setCells b (k * 101) (recC gr)) b 70 (recsC (fillL (k + 1))) := by
  obtain ⟨m, hm⟩ : ∃ m, 8 - k = m + 1 := ⟨7 - k, by omega⟩
  have e1 : recsC (fillL k) = recsC (List.replicate k gr) ++ recC zrec ++ recsC (List.replicate m zrec) := by
    rw [fillL, hm, recs_app, List.replicate_succ]
    have : recsC (zrec :: List.replicate m zrec) = recC zrec ++ recsC (List.replicate m zrec) := rfl
    rw [this, List.append_assoc]
  have e2 : recsC (fillL (k + 1)) = recsC (List.replicate k gr) ++ recC gr ++ recsC (List.replicate m zrec) := by
    rw [fillL, show 8 - (k + 1) = m by omega, recs_app, List.replicate_succ', recs_app]
    have : recsC [gr] = recC gr := by simp [recsC]
    rw [this]
  rw [e1] at h
  rw [e2]
  exact h.part (by rw [recs_len _ (rep_b gr_b.len)]; simp) (by rw [gr_l]; exact zrecl)
def g0 : Rec := ⟨8, 2147483647, 2147483647, 15, 2147483647, zs 95 ++ [255]⟩
def g1 : Rec := ⟨7, 2147483648, 2147483647, 15, 2147483647, zs 95 ++ [255]⟩
def g2 : Rec := ⟨7, 2147483647, 2147483648, 15, 2147483647, zs 95 ++ [255]⟩
def g3 : Rec := ⟨7, 2147483647, 2147483647, 16, 2147483647, zs 95 ++ [255]⟩
def g4 : Rec := ⟨7, 2147483647, 2147483647, 15, 2147483648, zs 95 ++ [255]⟩
def g5 : Rec := ⟨7, 0, 2147483647, 15, 2147483647, zs 95 ++ [255]⟩
def g6 : Rec := ⟨7, 2147483647, 0, 15, 2147483647, zs 95 ++ [255]⟩
def g7 : Rec := ⟨7, 2147483647, 2147483647, 15, 0, zs 95 ++ [255]⟩
def gL0 : List Rec := [g0, gr, gr, gr, gr, gr, gr, gr]
def gL1 : List Rec := [g0, g1, gr, gr, gr, gr, gr, gr]
def gL2 : List Rec := [g0, g1, g2, gr, gr, gr, gr, gr]
def gL3 : List Rec := [g0, g1, g2, g3, gr, gr, gr, gr]
def gL4 : List Rec := [g0, g1, g2, g3, g4, gr, gr, gr]
def gL5 : List Rec := [g0, g1, g2, g3, g4, g5, gr, gr]
def gL6 : List Rec := [g0, g1, g2, g3, g4, g5, g6, gr]
def gL7 : List Rec := [g0, g1, g2, g3, g4, g5, g6, g7]
theorem sg0 : (recsC (fillL 8)).set 0 (.int .i64 8) = recsC gL0 := by kernel_rfl
theorem sg1 : (recsC gL0).set 102 (.int .i64 2147483648) = recsC gL1 := by kernel_rfl
theorem sg2 : (recsC gL1).set 204 (.int .i64 2147483648) = recsC gL2 := by kernel_rfl
theorem sg3 : (recsC gL2).set 306 (.int .i64 16) = recsC gL3 := by kernel_rfl
theorem sg4 : (recsC gL3).set 408 (.int .i64 2147483648) = recsC gL4 := by kernel_rfl
theorem sg5 : (recsC gL4).set 506 (.int .i64 0) = recsC gL5 := by kernel_rfl
theorem sg6 : (recsC gL5).set 608 (.int .i64 0) = recsC gL6 := by kernel_rfl
theorem sg7 : (recsC gL6).set 711 (.int .i64 0) = recsC gL7 := by kernel_rfl
theorem gL7_no : ∀ r ∈ gL7, isRec r = false ∧ Byts 96 r.bd := by
  intro r hr
  simp only [gL7, List.mem_cons, List.mem_nil_iff, or_false] at hr
  rcases hr with rfl | rfl | rfl | rfl | rfl | rfl | rfl | rfl <;> exact ⟨by kernel_rfl, byts95z⟩
theorem ph_1 : puthR 2147483647 2147483647 = (secOf (be 1 179 ++ be 4 2147483647 ++ be 4 2147483647), 0) := by kernel_rfl
theorem ph_2 : puthR 2147483648 1 = (zs 64, 2) := by kernel_rfl
theorem ph_3 : puthR 0 1 = (zs 64, 2) := by kernel_rfl
theorem ph_4 : puthR 1 2147483648 = (zs 64, 2) := by kernel_rfl
def fa : Rec := ⟨0, 0, 9223372036854775807, 0, 0, zs 96⟩
def fb : Rec := ⟨0, 0, -9223372036854775808, 0, 0, zs 96⟩
theorem build25fa (w : World) : (Instr.build 25 #[(2, .int .i64 9223372036854775807)]).run Tryd.prog w = .ok (aggV (recC fa)) w := by kernel_rfl
theorem build25fb (w : World) : (Instr.build 25 #[(2, .int .i64 (-9223372036854775808))]).run Tryd.prog w = .ok (aggV (recC fb)) w := by kernel_rfl
theorem fol_ab (w : World) : Calls Tryd.prog 24 #[aggV (recC fa), aggV (recC fb)] w fun e w' => e = .returned (.bool false) ∧ Kept [] w w' := by
  have h : folB fa fb = false := by kernel_rfl
  rw [← h]
  exact follows24 fa fb (by simp [I64, fa]) (by simp [I64, fb]) w
theorem run_0 (w : World) : Calls Tryd.prog 23 #[.int .i64 0, .slice none 0 0] w fun e w' => e = .returned (.int .i64 0) ∧ Kept [] w w' :=
  run23 0 [] (by simp) (by simp) none 0 w (fun i r h => by simp at h)
theorem put_no {r : Rec} (h : isRec r = false ∧ Byts 96 r.bd) (w : World) : Calls Tryd.prog 8 #[aggV (recC r)] w fun e w' => e = .returned (.tuple #[aggV (u8s (zs 128)), .int .i64 2]) ∧ Kept [] w w' := by
  have e : putR r = (zs 128, 2) := by simp [putR, h.1]
  exact put_at h.2 e w
theorem wpIdx70 {ops : Array Oper} {rest : List Oper} {op : Oper} {a : Act} {w : World} {Q : Exit → Act → World → Prop} (hgd : op.guard = none) (x y : Operand) (ho : op.op = .indexAddr 70 x y) (b k : Nat) (hk : k < 8) (hx : a.eval x = P0 b) (hy : a.eval y = .int .i64 k) (h : wpList Tryd.prog ops Q rest (a.put op.dst (.pointer (some ⟨b, k * 101, none⟩))) w) : wpList Tryd.prog ops Q (op :: rest) a w :=
  wpList_plain hgd fun K hK => by
    unfold Oper.wp execOp
    simp only [ho, hx, hy]
    rcases (show k = 0 ∨ k = 1 ∨ k = 2 ∨ k = 3 ∨ k = 4 ∨ k = 5 ∨ k = 6 ∨ k = 7 by omega) with rfl | rfl | rfl | rfl | rfl | rfl | rfl | rfl
    all_goals exact hK _ _ h


end Go.Proofs.YtkpkiibahfdomaaDoor
