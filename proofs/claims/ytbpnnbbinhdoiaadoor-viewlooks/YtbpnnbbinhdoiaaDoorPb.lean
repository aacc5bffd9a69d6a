/-
  Put, of a view that has a number.
-/
import Derived.Test.YtbpnnbbinhdoiaaDoorPa
import Derived.Test.YtbpnnbbinhdoiaaDoorVl
namespace Go.Proofs.YtbpnnbbinhdoiaaDoor
set_option maxRecDepth 100000
open Go.RowKit


theorem cg32 (vs : Array Value) (w : World) : (callFunc 32 vs).run Tryd.prog w = .ok (.enter 32 vs) w := by kernel_rfl
theorem cg33 (vs : Array Value) (w : World) : (callFunc 33 vs).run Tryd.prog w = .ok (.enter 33 vs) w := by kernel_rfl
/-- The members' bits, from the place i on. -/
def bitF : Nat → List (Bool × Int) → Nat
  | _, [] => 0
  | i, m :: l => (if m.1 then 2 ^ i else 0) + bitF (i + 1) l
/-- Their epochs. -/
def epB (l : List (Bool × Int)) : List Int := (l.map (fun m => be 4 m.2)).flatten
theorem epB_len (l : List (Bool × Int)) : (epB l).length = 4 * l.length := by
  induction l with
  | nil => rfl
  | cons m l ih => simp only [epB, List.map_cons, List.flatten_cons, List.length_append, be_len, List.length_cons] at *; omega
theorem epB_app (a b : List (Bool × Int)) : epB (a ++ b) = epB a ++ epB b := by simp [epB]
theorem bitF_take : ∀ (l : List (Bool × Int)) (i j : Nat) (m : Bool × Int), l[j]? = some m → bitF i (l.take (j + 1)) = bitF i (l.take j) + (if m.1 then 2 ^ (i + j) else 0) := by
  intro l
  induction l with
  | nil => intro i j m h; simp at h
  | cons x l ih =>
    intro i j m h
    cases j with
    | zero => simp at h; subst h; simp [bitF]
    | succ j =>
      have := ih (i + 1) j m (by simpa using h)
      rw [List.take_succ_cons, List.take_succ_cons, bitF, bitF, this, show i + 1 + j = i + (j + 1) by omega]
      omega
theorem bitF_lt : ∀ (l : List (Bool × Int)) (i : Nat), bitF i l + 2 ^ i ≤ 2 ^ (i + l.length) := by
  intro l
  induction l with
  | nil => intro i; simp [bitF]
  | cons m l ih =>
    intro i
    have := ih (i + 1)
    have h2 : 2 ^ (i + 1) = 2 * 2 ^ i := by rw [Nat.pow_succ]; omega
    rw [bitF, List.length_cons, show i + (l.length + 1) = i + 1 + l.length by omega]
    split <;> omega
/-- A view's sector, as far as it is written: the head, the number, so many epochs, noughts. -/
def secL (o f A : Int) (n : Int) (l : List (Bool × Int)) (z : Nat) : List Int := [193, o, f, A] ++ be 8 n ++ epB l ++ zs z
def secV (v : Vw) : List Int := secL (if v.op then 1 else 0) (v.fd % 256) (bitF 0 v.ms) v.nu v.ms 20
theorem secL_len (o f A n : Int) (l : List (Bool × Int)) (z : Nat) : (secL o f A n l z).length = 12 + 4 * l.length + z := by
  simp [secL, be_len, epB_len, zs]; omega
/-- One block turns at the operation k of a region. -/
@[reducible] def SP (w : World) (mk : List Int → List (Nat × Nat × List Value)) (S0 S1 : List Int) (k : Nat) (d : Nat → Bool) (_ : Nat → Value) (W : World) : Prop :=
  ∃ S, Mm w W (mk S) ∧ (d k = false → S = S0) ∧ (d k = true → S = S1)
theorem SP.loc {w : World} {mk : List Int → List (Nat × Nat × List Value)} {S0 S1 : List Int} {k : Nat} : ∀ d d' vs vs' W, (∀ i ∈ [k], d i = d' i ∧ vs i = vs' i) → SP w mk S0 S1 k d vs W → SP w mk S0 S1 k d' vs' W := by
  intro d d' vs vs' W H h
  have e0 := (H k (by simp)).1
  unfold SP at h ⊢
  rw [← e0]
  exact h
@[reducible] def SQ (w : World) (mk : List Int → List (Nat × Nat × List Value)) (S0 S1 : List Int) (d : Nat → Bool) (_ : Nat → Value) (W : World) : Prop :=
  ∃ S, Mm w W (mk S) ∧ (d 6 = false → S = S0) ∧ (d 6 = true → S = S1) ∧ (d 6 = true → d 1 = true) ∧ (d 4 = true → d 1 = true)
theorem SQ.loc {w : World} {mk : List Int → List (Nat × Nat × List Value)} {S0 S1 : List Int} : ∀ d d' vs vs' W, (∀ i ∈ [1, 4, 6], d i = d' i ∧ vs i = vs' i) → SQ w mk S0 S1 d vs W → SQ w mk S0 S1 d' vs' W := by
  intro d d' vs vs' W H h
  have e0 := (H 6 (by simp)).1
  have e1 := (H 1 (by simp)).1
  have e2 := (H 4 (by simp)).1
  unfold SQ at h ⊢
  rw [← e0, ← e1, ← e2]
  exact h
section
variable {o : Oper} {a : Act} {w : World} {K : Act → World → Prop} {Q : Exit → Act → World → Prop}
theorem o_idx28 (x : Operand) (c : Nat) (hc : c < 64) (ho : o.op = .indexAddr 28 x (.const (.int .i64 (c : Int)))) (b : Nat) (hx : a.eval x = P0 b) (h : K (a.put o.dst (.pointer (some ⟨b, c, none⟩))) w) : o.wp Tryd.prog a w K Q := by
  have hc2 : (c : Int) < 64 := by omega
  unfold Oper.wp execOp
  simp only [ho, hx]
  simp [go_sem, Act.eval, hc2]
  exact h
theorem o_sl28 (x : Operand) (ho : o.op = .slice 28 x (some (.const (.int .i64 4))) (some (.const (.int .i64 12))) none) (b : Nat) (hx : a.eval x = P0 b) (h : K (a.put o.dst (.slice (some ⟨b, 4, none⟩) 8 60)) w) : o.wp Tryd.prog a w K Q := by
  unfold Oper.wp execOp
  simp only [ho, hx]
  simp [go_sem, Act.eval]
  exact h
theorem o_all28 (x : Operand) (ho : o.op = .slice 28 x none none none) (b : Nat) (hx : a.eval x = P0 b) (h : K (a.put o.dst (.slice (some ⟨b, 0, none⟩) 64 64)) w) : o.wp Tryd.prog a w K Q := by
  unfold Oper.wp execOp
  simp only [ho, hx]
  simp [go_sem]
  exact h
theorem o_fld26a (x : Operand) (ho : o.op = .fieldAddr 26 x 0) (b : Nat) (hx : a.eval x = P0 b) (h : K (a.put o.dst (.pointer (some ⟨b, 0, none⟩))) w) : o.wp Tryd.prog a w K Q := by
  unfold Oper.wp execOp
  simp only [ho, hx]
  simp [go_sem]
  exact h
theorem o_fld23_1 (x : Operand) (ho : o.op = .fieldAddr 23 x 1) (b : Nat) (hx : a.eval x = P0 b) (h : K (a.put o.dst (.pointer (some ⟨b, 1, none⟩))) w) : o.wp Tryd.prog a w K Q := by
  unfold Oper.wp execOp
  simp only [ho, hx]
  simp [go_sem]
  exact h
theorem o_shl1 (y : Operand) (ho : o.op = .binOp .shl 5 (.const (.int .u8 1)) y 3) (j : Nat) (hj : j < 8) (hy : a.eval y = .int .i64 j) (h : K (a.put o.dst (.int .u8 ((2 ^ j : Nat) : Int))) w) : o.wp Tryd.prog a w K Q := by
  unfold Oper.wp execOp
  simp only [ho, hy]
  rcases (show j = 0 ∨ j = 1 ∨ j = 2 ∨ j = 3 ∨ j = 4 ∨ j = 5 ∨ j = 6 ∨ j = 7 by omega) with rfl | rfl | rfl | rfl | rfl | rfl | rfl | rfl
  all_goals
    simp [go_sem, Act.eval] at h ⊢
    exact h
theorem or_bit (A j : Nat) (hA : A < 2 ^ j) (hj : j < 8) : bits BinOp.or IntKind.u8 (A : Int) ((2 ^ j : Nat) : Int) = ((A + 2 ^ j : Nat) : Int) := by
  have h2 : 2 ^ j ≤ 128 := by
    rcases (show j = 0 ∨ j = 1 ∨ j = 2 ∨ j = 3 ∨ j = 4 ∨ j = 5 ∨ j = 6 ∨ j = 7 by omega) with rfl | rfl | rfl | rfl | rfl | rfl | rfl | rfl <;> decide
  have ha : (BitVec.ofInt 8 (A : Int)).toNat = A := by rw [BitVec.toNat_ofInt]; omega
  have hb : (BitVec.ofInt 8 ((2 ^ j : Nat) : Int)).toNat = 2 ^ j := by rw [BitVec.toNat_ofInt]; omega
  show IntKind.u8.wrap ((BitVec.ofInt 8 (A : Int) ||| BitVec.ofInt 8 ((2 ^ j : Nat) : Int)).toNat : Int) = _
  have hor := Nat.two_pow_add_eq_or_of_lt hA 1
  rw [Nat.mul_one] at hor
  rw [BitVec.toNat_or, ha, hb, Nat.or_comm, ← hor]
  have key : ∀ n : Nat, n < 256 → IntKind.u8.wrap (n : Int) = (n : Int) := by
    intro n hn
    simp [IntKind.wrap, IntKind.bits, IntKind.signed]
    omega
  rw [key _ (by omega), Nat.add_comm]
theorem o_or8 (x y : Operand) (ho : o.op = .binOp .or 5 x y 5) (A j : Nat) (hA : A < 2 ^ j) (hj : j < 8) (hx : a.eval x = .int .u8 (A : Int)) (hy : a.eval y = .int .u8 ((2 ^ j : Nat) : Int)) (h : K (a.put o.dst (.int .u8 ((A + 2 ^ j : Nat) : Int))) w) : o.wp Tryd.prog a w K Q := by
  rw [← or_bit A j hA hj] at h
  unfold Oper.wp execOp
  simp only [ho, hx, hy]
  simp [go_sem] at h ⊢
  exact h
theorem o_st5 (x y : Operand) (ho : o.op = .store 5 x y) (b i TT : Nat) (us : List Value) (n : Int) (hx : a.eval x = .pointer (some ⟨b, i, none⟩)) (hy : a.eval y = .int .u8 n) (hB : Blk w b TT us) (hi : i < us.length)
    (h : ∀ W, Blk W b TT (us.set i (.int .u8 n)) → Kept [b] w W → K (a.put o.dst undef) W) : o.wp Tryd.prog a w K Q := by
  have hst := storeVar1 size5 hB hi (.int .u8 n) rfl rfl
  unfold Oper.wp execOp
  simp only [ho, hx, hy, Instr.storeAt, Instr.sureAddr, Sem.run_bind, Sem.run_pure, Result.andThen_ok, hst]
  exact h _ (hB.set (.int .u8 n)) ((Kept.refl _ _).setCell (by simp) _)
end

end Go.Proofs.YtbpnnbbinhdoiaaDoor
