/-
  The iterator All: what it hands to whatever loop ranges over it.
-/
import Derived.Test.YtffflafalffifaaNone
import Derived.RangeFuncNested
import Derived.RangeFuncBound
import Derived.RangeFuncCalls
import Derived.RangeFuncLeaves
import Derived.Shelf.Abstract
import Derived.Shelf.RegionOpen
import Derived.OwnWalkIn
import Derived.TacticsInMore
import Derived.LoopNIn
import Derived.LoopIn
namespace Go.Proofs.Ytffflafalffifaa
open Go.RowKit Go.Shelf
attribute [local go_sem] Oper.semAt_some

/-- All blocks of sectors but those of X are as they were. -/
structure KeptC (X : List Nat) (A B : World) : Prop where
  size : A.heap.size ≤ B.heap.size
  block : ∀ k cs p, A.heap[k]? = some (.cells cs 38 p) → k ∉ X → B.heap[k]? = some (.cells cs 38 p)
theorem KeptC.trans {X : List Nat} {A B C : World} (h : KeptC X A B) (k : KeptC X B C) : KeptC X A C := ⟨Nat.le_trans h.size k.size, fun i cs p hi hx => k.block i cs p (h.block i cs p hi hx) hx⟩
theorem KeptC.refl (X : List Nat) (A : World) : KeptC X A A := ⟨Nat.le_refl _, fun _ _ _ h _ => h⟩
theorem KeptC.putObj {X : List Nat} {W : World} {l : Nat} {o o' : Obj} (h : W.heap[l]? = some o) (hc : o.isCells = false) : KeptC X W (W.putObj l o') := by
  refine ⟨by simp, fun k cs p hk _ => ?_⟩
  by_cases e : k = l
  · subst e; rw [h] at hk; cases hk; simp [Obj.isCells] at hc
  · rw [World.putObj_heap_other e]; exact hk
theorem KeptC.of_kept {X : List Nat} {A B : World} (h : Kept X A B) : KeptC X A B := ⟨h.size, fun k cs p hk hx => by rw [h.block k (lt_of_block hk) hx]; exact hk⟩

theorem secs_news {w : World} {h off n c : Nat} {L : List (List Int)} (hs : Secs w (some ⟨h, off, none⟩) n c L) (hn : 0 < n) : ∀ j u, (u8s L.flatten)[j]? = some u → w.cell? ((⟨h, off, none⟩ : Addr).add j) = some u := by
  intro j u hj
  obtain ⟨h', off', e, hr⟩ := hs.lies (by intro e; have := hs.len; simp [e] at this; omega)
  cases e
  have hjl : j < L.length * 64 := by
    have := (List.getElem?_eq_some_iff.1 hj).1
    rwa [u8s_len, flat_len hs.sec] at this
  have hk : j / 64 < L.length := by omega
  have := hr (j / 64) hk (j % 64) u ?_
  · rw [Addr.add_mid]
    rw [show off + j = off + j / 64 * 64 + j % 64 by omega]
    exact this
  · obtain ⟨pre, post, h2, h3⟩ := flat_range hs.sec (j / 64) hk
    have hl := (hs.sec _ (List.getElem_mem hk)).1
    rw [h2, u8s_app, u8s_app, List.append_assoc, List.getElem?_append_right (by rw [u8s_len]; omega), List.getElem?_append_left (by rw [u8s_len, u8s_len, hl]; omega), u8s_len] at hj
    rw [← hj]; congr 1; omega

/-- A row of the call's own, out of what append says. -/
theorem owns_block {w : World} {base n : Nat} {v : Value} {L : List (List Int)} (h : w.ownsRow base 38 64 v n (u8s L.flatten)) (hn : 0 < n) : ∃ q cap ex, v = .slice (some ⟨q, 0, none⟩) n cap ∧ base ≤ q ∧ w.heap[q]? = some (.cells (u8s L.flatten ++ ex).toArray 38 (0, 0)) ∧ n ≤ cap ∧ ex.length = (cap - n) * 64 ∧ cap ≤ maxLen := by
  obtain ⟨h0, ⟨_, e⟩ | ⟨q, cap, cur, rfl, h1, h2, h3, h4, h5, h6⟩⟩ := h
  · omega
  · refine ⟨q, cap, cur.toList.drop (n * 64), rfl, h1, ?_, h3, ?_, h4⟩
    · rw [← h6, List.take_append_drop]; exact h2
    · rw [List.length_drop, Array.length_toList, h5, Nat.sub_mul]

theorem run_build0 (w : World) : (Instr.buildSlice 36 0 #[]).run Try.prog w = .ok (.slice (some ⟨w.heap.size, 0, none⟩) 0 0) (w.alloc (.cells #[] 38)) := by kernel_rfl
theorem wpBuild0 {ops : Array Oper} {rest : List Oper} {op : Oper} {a : Act} {w : World} {Q : Exit → Act → World → Prop} (hgd : op.guard = none) (ho : op.op = .buildSlice 36 0 #[])
    (h : wpList Try.prog ops Q rest (a.put op.dst (.slice (some ⟨w.heap.size, 0, none⟩) 0 0)) (w.alloc (.cells #[] 38))) : wpList Try.prog ops Q (op :: rest) a w :=
  wpList_plain hgd fun K hK => by
    unfold Oper.wp execOp
    simp only [ho, Array.map_empty, Sem.run_bind, run_build0, Result.andThen_ok]
    exact hK _ _ h

theorem eq36 (a : Addr) (n c : Nat) (W : World) : Sem.run Try.prog (binOp BinOp.eql 36 (.slice (some a) n c) (.slice none 0 0)) W = .ok (.bool false) W := by kernel_rfl

-- A clone of sectors.
set_option maxRecDepth 100000 in
set_option maxHeartbeats 1000000 in
theorem clone51 (ao : Option Addr) (n c : Nat) (L : List (List Int)) (w : World) (h : Secs w ao n c L) (hn : 0 < n) (hm : n ≤ 2000000000) :
    Calls Try.prog 51 #[.slice ao n c] w fun e w' => ∃ q cap ex, e = .returned (.slice (some ⟨q, 0, none⟩) n cap) ∧ w.heap.size ≤ q ∧ w'.heap[q]? = some (.cells (u8s L.flatten ++ ex).toArray 38 (0, 0)) ∧ n ≤ cap ∧ ex.length = (cap - n) * 64 ∧ cap ≤ maxLen ∧ Kept [] w w' := by
  have hlen := h.len
  obtain ⟨hb, off, rfl, hr⟩ := h.lies (by intro e; simp [e] at hlen; omega)
  have hs1 := h.kept (X := []) ((Kept.refl _ _).alloc (.cells #[] 38)) (by intro _ _ _; simp)
  have hnews := hide (secs_news hs1 hn)
  have hfl := flat_len h.sec
  obtain ⟨i0, hi, hz0, hz1, hz2⟩ := info_parts Try.zero38
  have hown : Hid ((w.alloc (.cells #[] 38)).ownsRow w.heap.size 38 64 (.slice (some ⟨w.heap.size, 0, none⟩) 0 0) 0 []) := ⟨rfl, .inr ⟨w.heap.size, 0, #[], rfl, Nat.le_refl _, heap_alloc_new w _, Nat.le_refl _, by simp, rfl, rfl⟩⟩
  have hq := eq36 ⟨hb, off, none⟩ n c
  clear hr hs1
  go_enter Try.func51, Try.ntmps51
  go_wp2_with (first | (refine wpBuild0 rfl rfl ?_) | (at_builtin; refine wpList_append_own _ rfl (.tmp 5) (.tmp 6) 36 rfl w.heap.size 38 i0 (secV nought) 64 64 Try.underlying36 hi hz0 hz1 hz2 (by kernel_rfl) (by decide) _ 0 [] rfl (unhide hown) ⟨hb, off, none⟩ n c (u8s L.flatten) rfl (by rw [u8s_len, hfl, hlen]) (unhide hnews) (u8s_one _) (by unfold maxLen; omega) (by omega) (by simp) ?_; intro v' w1 g1 g2 _))
  go_ret
  rw [Nat.zero_add, List.nil_append] at g1
  obtain ⟨q, cap, ex, rfl, q1, q2, q3, q4, q5⟩ := owns_block g1 hn
  refine ⟨q, cap, ex, rfl, q1, q2, q3, q4, q5, ?_⟩
  exact ((Kept.refl [] w).alloc (.cells #[] 38)).fresh (Kept.of_grown (X := [w.heap.size]) g2 (by intro k hk _; have e : some w.heap.size = some k := hk; simp at e; simp [e])) (by simp)

/-- What the iterator hands on: a number, and a sector. -/
structure Row where
  i : Nat
  s : List Int
  h : Sec s
def Row.vals (x : Row) : Array Value := #[.int .i64 x.i, secV x.s]
/-- All rows of a list of sectors. -/
def rows (S : List (List Int)) (hS : ∀ s ∈ S, Sec s) (k : Nat) : List Row := (List.range k).map (fun i => if h : i < S.length then ⟨i, S[i], hS _ (List.getElem_mem h)⟩ else ⟨i, nought, nought_sec⟩)
theorem rows_succ (S : List (List Int)) (hS : ∀ s ∈ S, Sec s) (k : Nat) (hk : k < S.length) : rows S hS (k + 1) = rows S hS k ++ [⟨k, S[k], hS _ (List.getElem_mem hk)⟩] := by simp [rows, List.range_succ, hk]
theorem rows_len (S : List (List Int)) (hS : ∀ s ∈ S, Sec s) (k : Nat) : (rows S hS k).length = k := by simp [rows]

theorem grown_of_kept {w w' : World} (h : Kept [] w w') : w.grownBy w' none := ⟨h.os, h.tape, h.output, h.size, fun k hk _ => h.block k hk (by simp)⟩

-- Laws for sectors, inside a fence that lets all by.
theorem wpIn_value {F : Fence} {n : Nat} {o : Oper} {a : Act} {w w' : World} {v : Value} {K : Act → World → Prop} {Q : Exit → Act → World → Prop} (hF : ∀ f, F.fn f) (hsem : o.semAt F.round a.eval = execOp a.eval o) (h : (execOp a.eval o).run Try.prog w = .ok (.value v) w') (hk : K (a.put o.dst v) w') : o.wpIn F n Try.prog a w K Q := by
  refine ⟨fun f _ => hF f, ?_⟩
  rw [hsem, h]
  exact hk
theorem wpIn_skip {F : Fence} {n : Nat} {o : Oper} {a : Act} {w w' : World} {K : Act → World → Prop} {Q : Exit → Act → World → Prop} (hF : ∀ f, F.fn f) (hsem : o.semAt F.round a.eval = execOp a.eval o) (h : (execOp a.eval o).run Try.prog w = .ok .skip w') (hk : K (a.put o.dst undef) w') : o.wpIn F n Try.prog a w K Q := by
  refine ⟨fun f _ => hF f, ?_⟩
  rw [hsem, h]
  exact hk
theorem wpListIn_want {F : Fence} {n : Nat} {ops : Array Oper} {Q : Exit → Act → World → Prop} {a : Act} {w : World} {rest : List Oper} {o : Oper} (hw : Region.wanted o (yielded ops a.tmps) = true)
    (h : o.wpIn F n Try.prog a w (wpListIn F n Try.prog ops Q rest) Q) : wpListIn F n Try.prog ops Q (o :: rest) a w := by
  simp only [wpListIn, hw, if_true]; exact h

section
variable {F : Fence} {n : Nat} {ops : Array Oper} {rest : List Oper} {o : Oper} {a : Act} {w : World} {Q : Exit → Act → World → Prop}
theorem inLoadS (hF : ∀ f, F.fn f) (hw : Region.wanted o (yielded ops a.tmps) = true) (x : Operand) (ho : o.op = .load 38 x) (hsem : o.semAt F.round a.eval = execOp a.eval o) (b off : Nat) (hx : a.eval x = .pointer (some ⟨b, off, none⟩)) (s : List Int) (hs : Sec s) (hA : w.rangeAt b off (u8s s))
    (h : wpListIn F n Try.prog ops Q rest (a.put o.dst (secV s)) w) : wpListIn F n Try.prog ops Q (o :: rest) a w := by
  refine wpListIn_want hw (wpIn_value (v := secV s) hF hsem ?_ h)
  unfold execOp
  have := run_loadVar_mid (P := Try.prog) w b off 38 (u8s s) _ hA Try.underlying38 rfl (by rw [u8s_len, hs.1]; exact Try.info38)
  simp only [ho, hx, Instr.loadAt, Instr.sureAddr, Sem.run_bind, Sem.run_pure, Result.andThen_ok, this]
  rfl
theorem inAllocS (hF : ∀ f, F.fn f) (hw : Region.wanted o (yielded ops a.tmps) = true) (ho : o.op = .alloc 38) (hsem : o.semAt F.round a.eval = execOp a.eval o)
    (h : wpListIn F n Try.prog ops Q rest (a.put o.dst (.pointer (some ⟨w.heap.size, 0, none⟩))) (w.alloc (.cells (u8s nought).toArray 38))) : wpListIn F n Try.prog ops Q (o :: rest) a w := by
  refine wpListIn_want hw (wpIn_value hF hsem ?_ h)
  unfold execOp
  simp only [ho, Sem.run_bind, run_alloc38, Result.andThen_ok]
  rfl
theorem inStoreS (hF : ∀ f, F.fn f) (hw : Region.wanted o (yielded ops a.tmps) = true) (x y : Operand) (ho : o.op = .store 38 x y) (hsem : o.semAt F.round a.eval = execOp a.eval o) (b off : Nat) (t : List Int) (hx : a.eval x = .pointer (some ⟨b, off, none⟩)) (hy : a.eval y = secV t) (ht : Sec t) (hA : w.there b off 64)
    (h : wpListIn F n Try.prog ops Q rest (a.put o.dst undef) (w.setCells b off (u8s t))) : wpListIn F n Try.prog ops Q (o :: rest) a w := by
  refine wpListIn_want hw (wpIn_skip hF hsem ?_ h)
  unfold execOp
  have := run_storeVar_mid (P := Try.prog) w b off 38 (u8s t).toArray (by simpa [u8s_len, ht.1] using hA) (by simp only [List.size_toArray, u8s_len, ht.1]; exact Try.info38) (all_oneCell_toArray (u8s_one t))
  have hy' : a.eval y = .agg (u8s t).toArray := hy
  simp only [ho, hx, hy', Instr.storeAt, Instr.sureAddr, Sem.run_bind, Sem.run_pure, Result.andThen_ok, this]
end

end Go.Proofs.Ytffflafalffifaa
