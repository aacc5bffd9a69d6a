/-
  Appending to a row of its own, elements of one cell.
-/
import Derived.Test.YtffflafalffifaaTabp
import Derived.Test.YtffflafalffifaaRof
import Derived.Laws.AppendOwn
import Derived.Laws.AppendOwnNone
import Derived.OwnWalk
namespace Go.Proofs.Ytffflafalffifaa.K
open Go.RowKit

theorem kept_grown {w W W' : World} {row : Option Nat} (h : Kept [] w W) (hg : W.grownBy W' row) (hr : ∀ k, row = some k → w.heap.size ≤ k) : Kept [] w W' :=
  kept_kept (B := w.heap.size) h hg (Nat.le_refl _) hr
theorem owns_kept {w w' : World} {base e size n : Nat} {v : Value} {xs : List Value} (h : w.ownsRow base e size v n xs) (hk : Kept [] w w') : w'.ownsRow base e size v n xs :=
  h.kept (grown_of_kept hk) (by cases hv : v.ownBlock <;> simp)
/-- What a row of its own is, if it has elements. -/
theorem owns_blk {w : World} {base e : Nat} {v : Value} {xs : List Value} (h : w.ownsRow base e 1 v xs.length xs) (hne : xs ≠ []) : ∃ g ex, v = .slice (some ⟨g, 0, none⟩) xs.length (xs ++ ex).length ∧ base ≤ g ∧ Blk w g e (xs ++ ex) := by
  rcases h.2 with ⟨_, h2⟩ | ⟨g, cap, cur, h1, h2, h3, h4, h5, h6, h7⟩
  · exact absurd (List.length_eq_zero_iff.1 h2) hne
  · have e1 : cur.toList = xs ++ cur.toList.drop xs.length := by
      have := List.take_append_drop xs.length cur.toList
      rw [Nat.mul_one] at h7
      rw [h7] at this
      exact this.symm
    refine ⟨g, cur.toList.drop xs.length, ?_, h2, ?_⟩
    · rw [h1]
      congr 1
      rw [← e1, Array.length_toList]; omega
    · unfold Blk
      rw [← e1]
      exact h3
section
variable {ops : Array Oper} {rest : List Oper} {op : Oper} {a : Act} {w : World} {Q : Exit → Act → World → Prop}
theorem wpAppV {T e by8 : Nat} {z : Value} (hT : Try.prog.underlying T = some (.slice e)) (hI : (Try.prog.info? e).map (fun i => (i.zero, i.size, i.bytes)) = some (some z, 1, by8)) (hz : z.cells.size = 1) (h8 : by8 ≤ 8) (hgd : op.guard = none) (s x : Operand) (ho : op.op = .call { callee := .builtin .append, args := #[s, x], argTypes := #[T, T] })
    (B : Nat) (v : Value) (xs ys : List Value) (hs : a.eval s = v) (ao : Option Addr) (m c : Nat) (hx : a.eval x = .slice ao m c) (hnil : ao = none → m = 0 ∧ c = 0) (hys : Vals w ao m c ys) (hone : ∀ u ∈ ys, u.oneCell' = true) (hown : w.ownsRow B e 1 v xs.length xs) (hk : xs.length + m ≤ 1000000) (hB : B ≤ w.heap.size)
    (h : ∀ v' w', w'.ownsRow B e 1 v' (xs ++ ys).length (xs ++ ys) → w.grownBy w' v.ownBlock → wpList Try.prog ops Q rest (a.put op.dst v') w') : wpList Try.prog ops Q (op :: rest) a w := by
  obtain ⟨i0, hi, hz0, hz1, hz2⟩ := info_parts hI
  have hl := hys.len
  have hb8 : (xs.length + m) * by8 ≤ 140737488355328 := by
    have : (xs.length + m) * by8 ≤ 1000000 * 8 := Nat.mul_le_mul hk h8
    omega
  cases ao with
  | none =>
    obtain ⟨rfl, rfl⟩ := hnil rfl
    obtain rfl : ys = [] := List.length_eq_zero_iff.1 hl
    exact wpList_append_own_none hgd s x T ho B e i0 1 hT hi v _ _ hs hown hx (h v w (by rw [List.append_nil]; exact hown) ⟨rfl, rfl, rfl, Nat.le_refl _, fun _ _ _ => rfl⟩)
  | some ad =>
    refine wpList_append_own w hgd s x T ho B e i0 z 1 by8 hT hi hz0 hz1 hz2 hz (by decide) v xs.length xs hs hown ad m c ys hx (by omega) ?_ hone (by unfold maxLen; omega) hb8 hB ?_
    · intro j u hj
      obtain ⟨b, off, eq, hr⟩ := hys.lies (by intro e; subst e; simp at hj)
      cases eq
      rw [Addr.add_mid]
      exact hr j u hj
    · intro v' w' g1 g2 _
      rw [← hl, ← List.length_append] at g1
      exact h v' w' g1 g2
theorem wpBuildS1 {T e : Nat} (v : Value) (hr : ∀ w : World, (Instr.buildSlice T 1 #[(0, v)]).run Try.prog w = .ok (.slice (some ⟨w.heap.size, 0, none⟩) 1 1) (w.alloc (.cells [v].toArray e))) (hgd : op.guard = none) (x : Operand) (ho : op.op = .buildSlice T 1 #[(0, x)]) (hx : a.eval x = v)
    (h : ∀ W b, b = w.heap.size → Blk W b e [v] → Kept [] w W → wpList Try.prog ops Q rest (a.put op.dst (.slice (some ⟨b, 0, none⟩) 1 1)) W) : wpList Try.prog ops Q (op :: rest) a w :=
  wpList_plain hgd fun K hK => by
    unfold Oper.wp execOp
    simp only [ho, List.map_toArray, List.map_cons, List.map_nil, hx, Sem.run_bind, hr, Result.andThen_ok]
    exact hK _ _ (h _ _ rfl (Blk.new w e _) ((Kept.refl _ _).alloc _))
end
theorem blk_vals {w : World} {b e : Nat} {xs ex : List Value} (h : Blk w b e (xs ++ ex)) (ys zs : List Value) (hx : xs = ys ++ zs) : Vals w (some ⟨b, 0, none⟩) ys.length (xs ++ ex).length ys :=
  ⟨rfl, by rw [hx]; simp, fun _ => ⟨b, 0, rfl, h.rangeIn ys (fun j hj => by rw [Nat.zero_add, hx, List.append_assoc, List.getElem?_append_left hj])⟩⟩
theorem build42 (w : World) : (Instr.buildSlice 42 1 #[(0, .int .u8 119)]).run Try.prog w = .ok (.slice (some ⟨w.heap.size, 0, none⟩) 1 1) (w.alloc (.cells [Value.int .u8 119].toArray 5)) := by kernel_rfl
theorem build43 (w : World) : (Instr.buildSlice 43 1 #[(0, .int .i64 77)]).run Try.prog w = .ok (.slice (some ⟨w.heap.size, 0, none⟩) 1 1) (w.alloc (.cells [Value.int .i64 77].toArray 2)) := by kernel_rfl
theorem str_add (l : List Int) (hl : l.length ≤ 1048576) : ∀ W : World, (Op.stringOp .add (strOfNums l) { data := #[119] }).run Try.prog W = .ok (.string (strOfNums (l ++ [119]))) W := by
  intro W
  rw [run_string_add_sum]
  · have e : strOfNums l ++ { data := #[119] } = strOfNums (l ++ [119]) := by
      apply ByteArray.ext
      simp [strOfNums]
    rw [e]
  · rw [strOfNums_size]
    have : (ByteArray.mk #[119]).size = 1 := rfl
    omega
theorem i64s_one (l : List Int) : ∀ u ∈ i64s l, u.oneCell' = true := by
  intro u hu
  obtain ⟨x, _, rfl⟩ := List.mem_map.1 hu
  rfl
section
variable {o : Oper} {a : Act} {w : World} {K : Act → World → Prop} {Q : Exit → Act → World → Prop}
theorem o_len42 (t : Nat) (ho : o.op = .call { callee := .builtin .len, args := #[.tmp t], argTypes := #[42] }) (ao : Option Addr) (m c : Nat) (hx : a.eval (.tmp t) = .slice ao m c) (h : K (a.put o.dst (.int .i64 m)) w) : o.wp Try.prog a w K Q := by
  have hr : (Builtin.len_ #[42] o.type #[.slice ao m c]).run Try.prog w = .ok (.int .i64 m) w := by simp [Builtin.len_, go_sem]
  have hx' : a.tmps[t]?.getD undef = .slice ao m c := by simpa [Act.eval] using hx
  unfold Oper.wp execOp
  simp only [ho]
  simp [resolve, invoke, builtin, go_sem, hx', hr]
  exact h
theorem o_slice (T : Nat) (hT : T = 42 ∨ T = 43) (x : Operand) (t : Nat) (ho : o.op = .slice T x none (some (.tmp t)) none) (g m c k : Nat) (hk : k ≤ c) (hx : a.eval x = .slice (some ⟨g, 0, none⟩) m c) (hy : a.eval (.tmp t) = .int .i64 k) (h : K (a.put o.dst (.slice (some ⟨g, 0, none⟩) k c)) w) : o.wp Try.prog a w K Q := by
  have hy' : a.tmps[t]?.getD undef = .int .i64 k := by simpa [Act.eval] using hy
  rcases hT with rfl | rfl
  · unfold Oper.wp execOp
    simp only [ho, hx]
    simp [go_sem, hy', hk]
    exact h
  · unfold Oper.wp execOp
    simp only [ho, hx]
    simp [go_sem, hy', hk]
    exact h
end
theorem cg15 (vs : Array Value) (w : World) : (callFunc 15 vs).run Try.prog w = .ok (.enter 15 vs) w := by kernel_rfl
/-- A device that was made, and no error. -/
def PT (B : Nat) (D : Dev) (v : Value) (W : World) : Prop := ∃ b g, v = .tuple #[P0 b, .int .i64 0] ∧ B ≤ b ∧ B ≤ g ∧ Dv W b g D
def PP (B : Nat) (D : Dev) (v : Value) (W : World) : Prop := ∃ b g, v = P0 b ∧ B ≤ b ∧ B ≤ g ∧ Dv W b g D
theorem PT_kept (B : Nat) (D : Dev) : ∀ v w w', PT B D v w → Kept [] w w' → PT B D v w' := by
  rintro v w w' ⟨b, g, h1, h2, h3, h4⟩ hk
  exact ⟨b, g, h1, h2, h3, h4.kept hk (by simp) (by simp)⟩
theorem PP_kept (B : Nat) (D : Dev) : ∀ v w w', PP B D v w → Kept [] w w' → PP B D v w' := by
  rintro v w w' ⟨b, g, h1, h2, h3, h4⟩ hk
  exact ⟨b, g, h1, h2, h3, h4.kept hk (by simp) (by simp)⟩
/-- What DeviceOf's law keeps while it goes: the two rows of its own. -/
structure Ow (w W : World) (g5 g6 : Nat) (c5 c6 : List Value) : Prop where
  b5 : Blk W g5 5 c5
  b6 : Blk W g6 2 c6
  k : Kept [] w W
  ge : w.heap.size ≤ g5 ∧ w.heap.size ≤ g6 ∧ g5 ≠ g6
theorem Ow.step {w W W' : World} {g5 g6 : Nat} {c5 c6 : List Value} (h : Ow w W g5 g6 c5 c6) (hk : Kept [] W W') : Ow w W' g5 g6 c5 c6 := ⟨h.b5.kept hk (by simp), h.b6.kept hk (by simp), h.k.trans hk, h.ge⟩
theorem Ow.set5 {w W : World} {g5 g6 i : Nat} {c5 c6 : List Value} (h : Ow w W g5 g6 c5 c6) (v : Value) : Ow w (W.setCell ⟨g5, i, none⟩ v) g5 g6 (c5.set i v) c6 :=
  ⟨h.b5.set v, h.b6.set_other (Ne.symm h.ge.2.2) v, h.k.setCell (p := ⟨g5, i, none⟩) (by have := h.ge; simp; omega) _, h.ge⟩
theorem Ow.set6 {w W : World} {g5 g6 i : Nat} {c5 c6 : List Value} (h : Ow w W g5 g6 c5 c6) (v : Value) : Ow w (W.setCell ⟨g6, i, none⟩ v) g5 g6 c5 (c6.set i v) :=
  ⟨h.b5.set_other h.ge.2.2 v, h.b6.set v, h.k.setCell (p := ⟨g6, i, none⟩) (by have := h.ge; simp; omega) _, h.ge⟩

end Go.Proofs.Ytffflafalffifaa.K
