/-
  Both ends send: the regions of the laws.
-/
import Derived.Test.YthbgnpbkdeofcaaTe
import Derived.Test.YthbgnpbkdeofcaaOpn
namespace Go.Proofs.Ythbgnpbkdeofcaa
set_option maxRecDepth 100000
open Go.RowKit

section
variable {o : Oper} {a : Act} {w : World} {K : Act → World → Prop} {Q : Exit → Act → World → Prop}
theorem o_fld56_0 (x : Operand) (ho : o.op = .fieldAddr 56 x 0) (b : Nat) (hx : a.eval x = P0 b) (h : K (a.put o.dst (.pointer (some ⟨b, 0, none⟩))) w) : o.wp Try.prog a w K Q := by
  unfold Oper.wp execOp
  simp only [ho, hx]
  simp [go_sem]
  exact h
theorem o_fld56_1 (x : Operand) (ho : o.op = .fieldAddr 56 x 1) (b : Nat) (hx : a.eval x = P0 b) (h : K (a.put o.dst (.pointer (some ⟨b, 1, none⟩))) w) : o.wp Try.prog a w K Q := by
  unfold Oper.wp execOp
  simp only [ho, hx]
  simp [go_sem]
  exact h
theorem o_fld56_2 (x : Operand) (ho : o.op = .fieldAddr 56 x 2) (b : Nat) (hx : a.eval x = P0 b) (h : K (a.put o.dst (.pointer (some ⟨b, 2, none⟩))) w) : o.wp Try.prog a w K Q := by
  unfold Oper.wp execOp
  simp only [ho, hx]
  simp [go_sem]
  exact h
theorem o_fld56_3 (x : Operand) (ho : o.op = .fieldAddr 56 x 3) (b : Nat) (hx : a.eval x = P0 b) (h : K (a.put o.dst (.pointer (some ⟨b, 3, none⟩))) w) : o.wp Try.prog a w K Q := by
  unfold Oper.wp execOp
  simp only [ho, hx]
  simp [go_sem]
  exact h
theorem o_fg35_3 (x : Operand) (ho : o.op = .fieldAddr 35 x 3) (b off : Nat) (hx : a.eval x = .pointer (some ⟨b, off, none⟩)) (h : K (a.put o.dst (.pointer (some ⟨b, off + 3, none⟩))) w) : o.wp Try.prog a w K Q := by
  unfold Oper.wp execOp
  simp only [ho, hx]
  simp [go_sem, Addr.add_lit]
  exact h
theorem o_fg35_4 (x : Operand) (ho : o.op = .fieldAddr 35 x 4) (b off : Nat) (hx : a.eval x = .pointer (some ⟨b, off, none⟩)) (h : K (a.put o.dst (.pointer (some ⟨b, off + 4, none⟩))) w) : o.wp Try.prog a w K Q := by
  unfold Oper.wp execOp
  simp only [ho, hx]
  simp [go_sem, Addr.add_lit]
  exact h
theorem o_fg35_5 (x : Operand) (ho : o.op = .fieldAddr 35 x 5) (b off : Nat) (hx : a.eval x = .pointer (some ⟨b, off, none⟩)) (h : K (a.put o.dst (.pointer (some ⟨b, off + 5, none⟩))) w) : o.wp Try.prog a w K Q := by
  unfold Oper.wp execOp
  simp only [ho, hx]
  simp [go_sem, Addr.add_lit]
  exact h
theorem o_eqlT24 (x y : Operand) (ho : o.op = .binOp .eql 24 x y 24) (m n : Int) (r : Bool) (hr : decide (m = n) = r) (hx : a.eval x = .int .i64 m) (hy : a.eval y = .int .i64 n) (h : K (a.put o.dst (.bool r)) w) : o.wp Try.prog a w K Q := by
  have hb : (m == n) = r := by rw [← hr]; rfl
  unfold Oper.wp execOp
  simp only [ho, hx, hy]
  simp [go_sem, hb]
  exact h
end
theorem row56 : Row 56 4 := ⟨_, Try.underlying56, rfl, by kernel_rfl⟩
def zM : List Value := [.int .i64 0, .int .i64 0, .int .i64 0, .slice none 0 0]
theorem alloc56 (w : World) : (Instr.alloc 56 true (.tuple #[])).run Try.prog w = .ok (P0 w.heap.size) (w.alloc (.cells zM.toArray 56)) := by kernel_rfl
theorem mvC_one (x : Mv) : ∀ u ∈ x.C, u.oneCell' = true := by
  intro u hu
  simp only [Mv.C, List.mem_cons, List.not_mem_nil, or_false] at hu
  rcases hu with rfl | rfl | rfl | rfl <;> rfl
def nilS : Nat → Value := fun _ => .slice none 0 0
theorem build51 (w : World) (a b : Nat) : (Instr.build 51 #[(0, P0 a), (1, P0 b)]).run Try.prog w = .ok (aggV [P0 a, P0 b]) w := by kernel_rfl
theorem build54 (w : World) (pt : Nat → Nat) : (Instr.build 54 #[(0, aggV [P0 (pt 0), P0 (pt 1)])]).run Try.prog w = .ok (aggV (twC pt (.slice none 0 0) nilS nilS)) w := by kernel_rfl
theorem Zt.init {w W : World} {z : Nat} {vw : Int} {pt : Nat → Nat} (h0 : Sm w W (pt 0) (.slice none 0 0) [] (newP 0 1 vw)) (h1 : Sm w W (pt 1) (.slice none 0 0) [] (newP 1 0 vw)) (hz : Blk W z 54 (twC pt (.slice none 0 0) nilS nilS)) (hge : w.heap.size ≤ z) (hne : pt 0 ≠ pt 1) : Zt w W z vw pt nilS (fun _ => []) (fun j => newP (j : Int) ((1 - j : Nat) : Int) vw) (.slice none 0 0) [] nilS nilS (fun _ => []) (fun _ => []) 0 := by
  have h2 : ∀ i : Nat, i < 2 → i = 0 ∨ i = 1 := fun i hi => by omega
  have hno : ∀ n k, (Rw nilS nilS nilS n).ownBlock ≠ some k := fun n k e => by
    have : Rw nilS nilS nilS n = .slice none 0 0 := by
      unfold Rw nilS
      split
      · rfl
      · split <;> rfl
    rw [this] at e
    cases e
  refine ⟨⟨h0.k, hz, fun i hi => ?_, fun i hi => Rb.nil _, fun i hi => Rb.nil _, Dl.nil _ _, ⟨hge, fun i hi => ?_, fun n _ k e => absurd e (hno n k)⟩, fun n m _ _ _ k e => absurd e (hno n k), hne⟩, ⟨fun i hi => ⟨rfl, rfl, rfl⟩, fun i hi => rfl, fun i hi => (by simp [newP]), fun i hi => (by simp [newP]), fun i hi => (by simp [newP])⟩, fun i hi => (by simp [newP]), by simp⟩
  · rcases h2 i hi with rfl | rfl
    · exact h0.sx
    · exact h1.sx
  · rcases h2 i hi with rfl | rfl
    · exact h0.ge.1
    · exact h1.ge.1
@[reducible] def T11s (V : World) (b : Nat) (v : Value) (ws : List Value) (P : Ps) (d : Nat → Bool) (_ : Nat → Value) (W : World) : Prop :=
  (d 12 = false → Kept [] V W) ∧ (d 12 = true → ∃ v' ws', SR V b v ws W v' ws' P)
theorem T11s.loc {V : World} {b : Nat} {v : Value} {ws : List Value} {P : Ps} : ∀ d d' vs vs' W, (∀ i ∈ [12], d i = d' i ∧ vs i = vs' i) → T11s V b v ws P d vs W → T11s V b v ws P d' vs' W := by
  intro d d' vs vs' W H h
  have e0 := H 12 (by simp)
  unfold T11s at h ⊢
  rw [← e0.1]
  exact h
@[reducible] def T12s (V : World) (z : Nat) (v : Value) (C : List Value) (j : Nat) (xs : List Value) (bs : List Int) (d : Nat → Bool) (vs : Nat → Value) (W : World) : Prop :=
  (d 16 = false → (d 12 = false → Kept [] V W ∧ (d 10 = true → Bod W (vs 10) bs) ∧ (d 11 = true → d 10 = true ∧ ∃ p, vs 11 = .slice (some ⟨p, 0, none⟩) 1 1 ∧ Blk W p 33 [vs 10])) ∧ (d 12 = true → ∃ r, Bod W r bs ∧ OwnO W (vs 12) (xs ++ [r]) ∧ Kept v.ownBlock.toList V W ∧ ∀ k, (vs 12).ownBlock = some k → v.ownBlock = some k ∨ V.heap.size ≤ k)) ∧
  (d 16 = true → ∃ v' r, Bod W r bs ∧ OwnO W v' (xs ++ [r]) ∧ Blk W z 54 (C.set j v') ∧ Kept (z :: v.ownBlock.toList) V W ∧ ∀ k, v'.ownBlock = some k → v.ownBlock = some k ∨ V.heap.size ≤ k)
theorem T12s.loc {V : World} {z : Nat} {v : Value} {C : List Value} {j : Nat} {xs : List Value} {bs : List Int} : ∀ d d' vs vs' W, (∀ i ∈ [10, 11, 12, 16], d i = d' i ∧ vs i = vs' i) → T12s V z v C j xs bs d vs W → T12s V z v C j xs bs d' vs' W := by
  intro d d' vs vs' W H h
  have e0 := H 10 (by simp)
  have e1 := H 11 (by simp)
  have e2 := H 12 (by simp)
  have e4 := H 16 (by simp)
  unfold T12s at h ⊢
  rw [← e0.1, ← e0.2, ← e1.1, ← e1.2, ← e2.1, ← e2.2, ← e4.1]
  exact h
theorem twC_sets {pt : Nat → Nat} {onv : Value} {st ou : Nat → Value} {i : Nat} (hi : i < 2) (v : Value) : (twC pt onv st ou).set (3 + i) v = twC pt onv (upd st i v) ou := by
  have h2 : i = 0 ∨ i = 1 := by omega
  rcases h2 with rfl | rfl <;> rfl
theorem Tt.putSt {w W W' : World} {z : Nat} {pt : Nat → Nat} {sv : Nat → Value} {sw : Nat → List Value} {sp : Nat → Ps} {onv : Value} {D : List (Dg × Value)} {st ou : Nat → Value} {L M : Nat → List (List Int)} (h : Tt w W z pt sv sw sp onv D st ou L M) {i : Nat} (hi : i < 2) {v' r : Value} {bs : List Int} {xs : List Value} (hx : Bods W (st i) xs (L i)) (hr : Bod W' r bs) (h1 : OwnO W' v' (xs ++ [r])) (h2 : Blk W' z 54 ((twC pt onv st ou).set (3 + i) v')) (h3 : Kept (z :: (st i).ownBlock.toList) W W') (h4 : ∀ k, v'.ownBlock = some k → (st i).ownBlock = some k ∨ W.heap.size ≤ k) : Tt w W' z pt sv sw sp onv D (upd st i v') ou (upd L i (L i ++ [bs])) M := by
  have hR : Rw sv st ou (i + 2) = st i := by unfold Rw; rw [if_neg (by omega), if_pos (by omega), Nat.add_sub_cancel]
  have hR' : Rw sv (upd st i v') ou (i + 2) = v' := by unfold Rw; rw [if_neg (by omega), if_pos (by omega), Nat.add_sub_cancel, upd_same]
  have hno5 : ∀ k ∈ z :: (st i).ownBlock.toList, ∀ cs p, W.heap[k]? ≠ some (Obj.cells cs 5 p) := fun k hm cs p hc => by
    rcases List.mem_cons.1 hm with rfl | hm
    · have := h.hd
      unfold Blk at this
      rw [this] at hc
      cases hc
    · obtain ⟨cs', hc'⟩ := hx.row.block k (by simpa using hm)
      rw [hc'] at hc
      cases hc
  have hbk : ∀ y l, Bod W y l → Bod W' y l := fun y l hy => hy.kept h3 (fun k e hm => by obtain ⟨cs, hc⟩ := hy.block k e; exact hno5 k hm _ _ hc)
  refine h.put (n := i + 2) ⟨by omega, by omega⟩ (by rw [← twC_sets hi]; exact h2) (by rw [hR]; exact h3) (by rw [hR, hR']; exact h4) (fun m hm hne => ?_) (fun j hj hne => upd_ne _ _ (by omega)) (fun _ _ _ => rfl) (fun j hj e => ?_) (fun j hj e => by omega)
  · unfold Rw
    split
    · rfl
    · split
      · rw [upd_ne _ _ (by omega)]
      · rfl
  · obtain rfl : j = i := by omega
    rw [upd_same, upd_same]
    refine ⟨xs ++ [r], h1, by rw [List.length_append, List.length_append, hx.len]; rfl, fun n y l hy hl => ?_⟩
    by_cases hn : n < xs.length
    · rw [List.getElem?_append_left hn] at hy
      rw [List.getElem?_append_left (by rw [← hx.len]; exact hn)] at hl
      exact hbk _ _ (hx.body n y l hy hl)
    · rw [List.getElem?_append_right (by omega)] at hy
      rw [List.getElem?_append_right (by rw [← hx.len]; omega)] at hl
      have h0 : n - xs.length = 0 := by have := (List.getElem?_eq_some_iff.1 hy).1; simp at this; omega
      rw [h0] at hy
      rw [← hx.len, h0] at hl
      simp at hy hl
      subst hy hl
      exact hr
theorem tellL_len {P : Ps} {f : Nat} (h : f < P.sent.length) : (P.tellL f).length = P.sent.length - f := by
  unfold Ps.tellL
  rw [if_neg (by omega)]
  simp [Ps.waitL]
theorem tellL_len0 {P : Ps} {f : Nat} (h : P.sent.length ≤ f) : (P.tellL f).length ≤ 1 := by
  unfold Ps.tellL
  split
  · simp
  · simp [Ps.waitL]; omega
theorem tellL_at {P : Ps} {f j : Nat} (h : f + j < P.sent.length) : (P.tellL f)[j]? = some (P.at f j) := by
  unfold Ps.tellL
  rw [if_neg (by omega)]
  simp [Ps.waitL, List.getElem?_map, List.getElem?_range (show j < P.sent.length - f by omega)]

end Go.Proofs.Ythbgnpbkdeofcaa
