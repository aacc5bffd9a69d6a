/-
  The walk of Text: a body as a text.
-/
import Derived.Test.YtnflcajidgbbbaaDoorTrim
import Derived.Laws.AppendOwn
import Derived.Laws.BytesString
import Derived.Great.BuildSlice
namespace Go.Proofs.YtnflcajidgbbbaaDoor
open Go.RowKit

def digI : List Int := [48, 49, 50, 51, 52, 53, 54, 55, 56, 57, 65, 66, 67, 68, 69, 70]
def digC (k : Int) : Int := digI.getD k.toNat 0
/-- A byte's text. -/
def esc (c : Int) : List Int := if plainB c then [c] else [37, digC (c / 16), digC (c % 16)]
def escs (l : List Int) : List Int := l.flatMap esc
theorem esc_len (c : Int) : 1 ≤ (esc c).length ∧ (esc c).length ≤ 3 := by unfold esc; split <;> simp
theorem escs_len (l : List Int) : l.length ≤ (escs l).length ∧ (escs l).length ≤ 3 * l.length := by
  induction l with
  | nil => simp [escs]
  | cons x l ih =>
    have := esc_len x
    simp only [escs, List.flatMap_cons, List.length_append, List.length_cons] at *
    omega
theorem escs_snoc (l : List Int) (x : Int) : escs (l ++ [x]) = escs l ++ esc x := by simp [escs]
/-- A body's text. -/
def textL (s : List Int) : List Int := if bareN s s.length = 0 then [37] else escs (bare s)
/-- Bytes as a string. -/
def strV (l : List Int) : Value := .string ⟨(l.map fun x => UInt8.ofNat x.toNat).toArray⟩

theorem dig_byte (k : Int) : 0 ≤ digC k ∧ digC k < 256 := by
  unfold digC
  have : ∀ x ∈ digI, 0 ≤ x ∧ x < 256 := by decide
  by_cases h : k.toNat < digI.length
  · have := this digI[k.toNat] (List.getElem_mem h)
    simpa [List.getD, h] using this
  · simp [List.getD, List.getElem?_eq_none (Nat.le_of_not_lt h)]

theorem grownBy_trans {a b c : World} {row : Option Nat} (h : a.grownBy b row) (k : b.grownBy c row) : a.grownBy c row :=
  ⟨k.os.trans h.os, k.tape.trans h.tape, k.output.trans h.output, Nat.le_trans h.size k.size, fun i hi hr => (k.block i (Nat.lt_of_lt_of_le hi h.size) hr).trans (h.block i hi hr)⟩
theorem own_kind {W : World} {base n : Nat} {v : Value} {xs : List Value} (h : W.ownsRow base 5 1 v n xs) : ∀ k, v.ownBlock = some k → base ≤ k := by
  intro k hk
  rcases h.2 with ⟨rfl, _⟩ | ⟨g, cap, cur, rfl, h1, h2, _⟩
  · simp [Value.ownBlock] at hk
  · have e : g = k := by simpa [Value.ownBlock] using hk
    subst e
    exact h1
theorem kept_own {w W W' : World} {v : Value} {n : Nat} {xs : List Value} {B : Nat} (h : Kept [] w W) (hg : W.grownBy W' v.ownBlock) (ho : W.ownsRow B 5 1 v n xs) (hB : w.heap.size ≤ B) : Kept [] w W' :=
  ⟨hg.os.trans h.os, hg.tape.trans h.tape, hg.output.trans h.output, Nat.le_trans h.size hg.size, fun k hk hx => (hg.block k (Nat.lt_of_lt_of_le hk h.size) (fun e => by have := own_kind ho k e.symm; omega)).trans (h.block k hk hx)⟩

/-- 'append(out, x..)', x bytes that were just laid into a block of their own. -/
theorem wpAppN {w : World} {ops : Array Oper} {rest : List Oper} {o : Oper} {a : Act} {Q : Exit → Act → World → Prop} (hgd : o.guard = none) (s x : Operand)
    (ho : o.op = .call { callee := .builtin .append, args := #[s, x], argTypes := #[58, 58] })
    (B : Nat) (v : Value) (l : List Int) (hs : a.eval s = v) (q m : Nat) (xs : List Int) (hm : xs.length = m) (hq : Blk w q 5 (u8s xs)) (hx : a.eval x = .slice (some ⟨q, 0, none⟩) m m)
    (hown : w.ownsRow B 5 1 v l.length (u8s l)) (hlen : l.length + m ≤ 140737488355328) (hbase : B ≤ w.heap.size)
    (h : ∀ v' w', w'.ownsRow B 5 1 v' (l ++ xs).length (u8s (l ++ xs)) → w.grownBy w' v.ownBlock → wpList Tryd.prog ops Q rest (a.put o.dst v') w') : wpList Tryd.prog ops Q (o :: rest) a w := by
  obtain ⟨i0, hi, hz0, hz1, hz2⟩ := info_parts Tryd.info5
  refine wpList_append_own _ hgd s x 58 ho B 5 i0 (.int .u8 0) 1 1 Tryd.underlying58 hi hz0 hz1 hz2 rfl (by decide) v _ _ hs hown ⟨q, 0, none⟩ m m (u8s xs) hx (by rw [u8s_len, hm, Nat.mul_one]) (fun j u hj => by rw [Addr.add_mid]; exact hq.range j u hj) (u8s_one _) (by unfold maxLen; omega) (by omega) hbase ?_
  intro v' w' g1 g2 _
  refine h v' w' ?_ g2
  rw [u8s_app, List.length_append, hm]; exact g1

end Go.Proofs.YtnflcajidgbbbaaDoor
