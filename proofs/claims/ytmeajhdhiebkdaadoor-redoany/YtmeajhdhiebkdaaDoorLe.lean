/-
  Flush: the records behind the last one flushed, one behind the other.
-/
import Derived.Test.YtmeajhdhiebkdaaDoorLd
namespace Go.Proofs.YtmeajhdhiebkdaaDoor
set_option maxRecDepth 100000
open Go.RowKit

def secsR (r : Rc.Rec) : List (List Int) := [(Rc.putR r).1.take 64, (Rc.putR r).1.drop 64]
theorem putR_byts (r : Rc.Rec) (hr : Rc.Byts 96 r.bd) : Rc.Byts 128 (Rc.putR r).1 := by
  unfold Rc.putR
  split
  · have h0 := Rc.laidR_byts (r := r) (h := 0) (by omega) hr
    have h1 := Rc.laidR_byts (r := r) (h := 1) (by omega) hr
    refine ⟨by simp [h0.len, h1.len], fun x hx => ?_⟩
    rcases List.mem_append.1 hx with h | h
    · exact h0.byte x h
    · exact h1.byte x h
  · exact Rc.zs_byts 128
theorem secs_two {W : World} {p : Nat} {X : List Int} (hB : Blk W p 81 (u8s X)) (hX : Rc.Byts 128 X) : Dv.Secs W (some ⟨p, 0, none⟩) 2 2 [X.take 64, X.drop 64] := by
  have hl := hX.len
  refine ⟨rfl, fun s hs => ?_, by omega, fun _ => ⟨p, 0, rfl, fun i hi => ?_⟩⟩
  · simp only [List.mem_cons, List.not_mem_nil, or_false] at hs
    rcases hs with rfl | rfl
    · exact ⟨by simp [hl], fun x hx => hX.byte x (List.mem_of_mem_take hx)⟩
    · exact ⟨by simp [hl], fun x hx => hX.byte x (List.mem_of_mem_drop hx)⟩
  · match i, hi with
    | 0, _ =>
      refine hB.rangeIn _ (fun j hj => ?_)
      simp [u8s, hl] at hj ⊢
      rw [List.getElem?_take_of_lt hj]
      simp
    | 1, _ =>
      refine hB.rangeIn _ (fun j hj => ?_)
      simp [u8s]
theorem rec_pos (J : Ar.Job) (n s : Int) (h : J.may = true) (hn : 0 ≤ n ∧ n < J.n) : -9223372036854775808 ≤ (J.record n s).1 ∧ (J.record n s).1 ≤ 9223372036854775807 := by
  simp only [Ar.Job.may, decide_eq_true_eq] at h
  unfold Ar.Job.record
  split
  · have h1 : n * (1 + 2 * J.l) ≤ 8 * 129 := Int.mul_le_mul (by omega) (by omega) (by omega) (by omega)
    have h2 : 0 ≤ n * (1 + 2 * J.l) := Int.mul_nonneg (by omega) (by omega)
    have h3 := Int.emod_nonneg (s - 1) (b := J.l) (by omega)
    have h4 := Int.emod_lt_of_pos (s - 1) (b := J.l) (by omega)
    constructor <;> simp only <;> omega
  · constructor <;> simp only <;> omega
/-- What Flush does: the device, how many are flushed, the answer. -/
def flushR (J : Ar.Job) (nd ep : Int) (D : Dv.Dev) : List Rc.Rec → Nat → Dv.Dev × Nat × Int
  | [], f => (D, f, 0)
  | r :: rs, f => if (D.write nd ep (J.record nd r.ls).1 (secsR r)).1 = 0 then flushR J nd ep (D.write nd ep (J.record nd r.ls).1 (secsR r)).2 rs (f + 1) else ((D.write nd ep (J.record nd r.ls).1 (secsR r)).2, f, 8)
def Lo.atF (L : Lo) (f : Nat) : Lo := ⟨L.J, L.nd, L.ep, L.st, L.R, f⟩
def Lo.flush (L : Lo) (D : Dv.Dev) : Dv.Dev × Nat × Int := flushR L.J L.nd L.ep D (L.R.drop L.fl) L.fl
theorem cellsR_len : ∀ (R : List Rc.Rec), (∀ r ∈ R, Rc.Byts 96 r.bd) → (cellsR R).length = R.length * 101
  | [], _ => rfl
  | r :: R, h => by
    have h1 : (Rc.recC r).length = 101 := recC_len (h r (by simp))
    have h2 := cellsR_len R (fun x hx => h x (by simp [hx]))
    show (Rc.recC r ++ cellsR R).length = _
    rw [List.length_append, h1, h2, List.length_cons]
    omega
theorem cellsR_get : ∀ (R : List Rc.Rec) (k : Nat) (hk : k < R.length), (∀ r ∈ R, Rc.Byts 96 r.bd) → ∀ j, j < 101 → (cellsR R)[k * 101 + j]? = (Rc.recC R[k])[j]?
  | [], k, hk, _ => by simp at hk
  | r :: R, 0, hk, h => fun j hj => by
    have h1 : (Rc.recC r).length = 101 := recC_len (h r (by simp))
    show (Rc.recC r ++ cellsR R)[0 * 101 + j]? = _
    rw [Nat.zero_mul, Nat.zero_add, List.getElem?_append_left (by omega)]
    rfl
  | r :: R, k + 1, hk, h => fun j hj => by
    have h1 : (Rc.recC r).length = 101 := recC_len (h r (by simp))
    have h2 := cellsR_get R k (by simpa using hk) (fun x hx => h x (by simp [hx])) j hj
    show (Rc.recC r ++ cellsR R)[(k + 1) * 101 + j]? = _
    rw [List.getElem?_append_right (by omega), h1, show (k + 1) * 101 + j - 101 = k * 101 + j by omega, h2]
    rfl
theorem cellsR_drop : ∀ (R : List Rc.Rec) (k : Nat), (∀ r ∈ R, Rc.Byts 96 r.bd) → (cellsR R).drop (k * 101) = cellsR (R.drop k)
  | R, 0, _ => by simp
  | [], k + 1, _ => by simp [cellsR]
  | r :: R, k + 1, h => by
    have h1 : (Rc.recC r).length = 101 := recC_len (h r (by simp))
    have h2 := cellsR_drop R k (fun x hx => h x (by simp [hx]))
    show (Rc.recC r ++ cellsR R).drop ((k + 1) * 101) = _
    rw [List.drop_append, h1, List.drop_eq_nil_of_le (by omega), show (k + 1) * 101 - 101 = k * 101 by omega, h2]
    rfl
theorem OwnO.rec_at {W : World} {v : Value} {R : List Rc.Rec} (h : OwnO W v R.length (cellsR R)) (hb : ∀ r ∈ R, Rc.Byts 96 r.bd) {k : Nat} (hk : k < R.length) : ∃ g off c, v = .slice (some ⟨g, off, none⟩) R.length c ∧ W.rangeAt g (off + k * 101) (Rc.recC R[k]) := by
  rcases h.lie with ⟨_, h2⟩ | ⟨g, off, cap, cur, h1, h2, h3, h4, h5, h6⟩
  · omega
  · refine ⟨g, off, cap, h1, fun j u hj => ?_⟩
    have hj2 : j < 101 := by
      have := (List.getElem?_eq_some_iff.1 hj).1
      rw [recC_len (hb _ (List.getElem_mem hk))] at this
      exact this
    rw [cell_of_block h2, Nat.add_assoc]
    exact h6 _ u (by rw [cellsR_get R k hk hb j hj2]; exact hj)
section
variable {o : Oper} {a : Act} {w : World} {K : Act → World → Prop} {Q : Exit → Act → World → Prop}
theorem o_fld45_2 (x : Operand) (ho : o.op = .fieldAddr 45 x 2) (b : Nat) (hx : a.eval x = P0 b) (h : K (a.put o.dst (.pointer (some ⟨b, 2, none⟩))) w) : o.wp Tryd.prog a w K Q := by
  unfold Oper.wp execOp
  simp only [ho, hx]
  simp [go_sem]
  exact h
end
theorem wpIdx37 {ops : Array Oper} {rest : List Oper} {op : Oper} {a : Act} {w : World} {Q : Exit → Act → World → Prop} (hgd : op.guard = none) (x y : Operand) (ho : op.op = .indexAddr 37 x y) (g off m c k : Nat) (hk : k < m) (hx : a.eval x = .slice (some ⟨g, off, none⟩) m c) (hy : a.eval y = .int .i64 k) (h : wpList Tryd.prog ops Q rest (a.put op.dst (.pointer (some ⟨g, off + k * 101, none⟩))) w) : wpList Tryd.prog ops Q (op :: rest) a w :=
  wpList_plain hgd fun _ hK => o_idx37 x y ho g off m c k hk hx hy (hK _ _ h)
theorem jobC_in (b : Nat) (L : Lo) (rv : Value) : ∀ j, j < (Ar.jobC L.J).length → (logC b L rv)[1 + j]? = (Ar.jobC L.J)[j]? := by
  intro j hj
  match j, hj with
  | 0, _ => rfl
  | 1, _ => rfl
  | 2, _ => rfl
  | 3, _ => rfl
  | 4, _ => rfl

end Go.Proofs.YtmeajhdhiebkdaaDoor
