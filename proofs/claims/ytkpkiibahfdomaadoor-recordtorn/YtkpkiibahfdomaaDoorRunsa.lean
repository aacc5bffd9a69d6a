/-
  Laws for rows of records of a call's own.
-/
import Derived.Test.YtkpkiibahfdomaaDoorRrun
import Derived.Test.YtkpkiibahfdomaaDoorKnown
import Derived.Laws.AppendOwnNone
namespace Go.Proofs.YtkpkiibahfdomaaDoor
open Go.RowKit

theorem Tryd.info25 : (Tryd.prog.info? 25).map (fun i => (i.zero, i.size, i.bytes)) = some (some (aggV (recC zrec)), 101, 136) := by kernel_rfl
theorem recs_len' : ∀ (l : List Rec), (∀ r ∈ l, r.bd.length = 96) → (recsC l).length = l.length * 101 := by
  intro l
  induction l with
  | nil => intro _; rfl
  | cons q l ih =>
    intro h
    have e : recsC (q :: l) = recC q ++ recsC l := rfl
    rw [e, List.length_append, ih (fun r hr => h r (List.mem_cons_of_mem _ hr)), recC_len (h q (List.mem_cons_self ..)), List.length_cons]
    omega
theorem recs_app' (l m : List Rec) : recsC (l ++ m) = recsC l ++ recsC m := by simp [recsC]
theorem recs_one (l : List Rec) : ∀ u ∈ recsC l, u.oneCell' = true := by
  intro u hu
  simp only [recsC, List.mem_flatten, List.mem_map] at hu
  obtain ⟨x, ⟨r, _, rfl⟩, hu⟩ := hu
  exact recC_one r u hu
/-- The cells of a slice of records. -/
theorem RecS.flat {w : World} {b o : Nat} {l : List Rec} (h : RecS w (some ⟨b, o, none⟩) l) (hl : ∀ r ∈ l, r.bd.length = 96) : ∀ j u, (recsC l)[j]? = some u → w.cell? ((⟨b, o, none⟩ : Addr).add j) = some u := by
  intro j u hu
  have hlen := recs_len' l hl
  have hj : j < l.length * 101 := by have := (List.getElem?_eq_some_iff.1 hu).1; omega
  have hi : j / 101 < l.length := by omega
  have hr : l[j / 101]? = some l[j / 101] := List.getElem?_eq_getElem hi
  have hc := recs_at l hl (j / 101) _ hr (j % 101) (by omega)
  rw [show j / 101 * 101 + j % 101 = j by omega, hu] at hc
  have := h.at hr (j % 101) u hc.symm
  rw [Addr.add_lit, show o + j = o + j / 101 * 101 + j % 101 by omega]
  exact this
/-- A row of the call's own that holds these records. -/
abbrev OwnR (w : World) (B : Nat) (v : Value) (l : List Rec) : Prop := w.ownsRow B 25 101 v l.length (recsC l)
theorem OwnR.kept {w W : World} {B : Nat} {v : Value} {l : List Rec} (h : OwnR w B v l) (hk : Kept [] w W) : OwnR W B v l := by
  refine ⟨h.1, ?_⟩
  rcases h.2 with h1 | ⟨g, cap, cur, h1, h2, h3, h4⟩
  · exact .inl h1
  · exact .inr ⟨g, cap, cur, h1, h2, hk.heap h3 (by simp), h4⟩
theorem OwnR.slice {w : World} {B : Nat} {v : Value} {l : List Rec} (h : OwnR w B v l) (hl : ∀ r ∈ l, r.bd.length = 96) (h0 : 0 < l.length) : ∃ g cap, v = .slice (some ⟨g, 0, none⟩) l.length cap ∧ l.length ≤ cap ∧ cap ≤ maxLen ∧ RecS w (some ⟨g, 0, none⟩) l := by
  rcases h.2 with ⟨_, h2⟩ | ⟨g, cap, cur, h1, h2, h3, h4, h5, h6, h7⟩
  · omega
  · refine ⟨g, cap, h1, h4, h5, RecS.of_blk (ex := cur.toList.drop (l.length * 101)) (T := 25) ?_ hl⟩
    rw [← h7, List.take_append_drop]
    exact h3
section
variable {ops : Array Oper} {rest : List Oper} {op : Oper} {a : Act} {w : World} {Q : Exit → Act → World → Prop}
theorem wpAppR (hgd : op.guard = none) (s x : Operand) (ho : op.op = .call { callee := .builtin .append, args := #[s, x], argTypes := #[55, 55] }) (B : Nat) (v : Value) (l m : List Rec) (hs : a.eval s = v) (ao : Option Addr) (c : Nat) (hx : a.eval x = .slice ao m.length c) (hnil : ao = none → m = [] ∧ c = 0)
    (hm : RecS w ao m) (hb : ∀ r ∈ m, r.bd.length = 96) (hown : OwnR w B v l) (hk : l.length + m.length ≤ 100000) (hbase : B ≤ w.heap.size)
    (h : ∀ v' w', OwnR w' B v' (l ++ m) → (∀ W1, Below B W1 w → Below B W1 w') → (∀ k o, w.heap[k]? = some o → some k ≠ v.ownBlock → w'.heap[k]? = some o) → wpList Tryd.prog ops Q rest (a.put op.dst v') w') : wpList Tryd.prog ops Q (op :: rest) a w := by
  obtain ⟨i0, hi, hz0, hz1, hz2⟩ := info_parts Tryd.info25
  cases hm' : m with
  | nil =>
    subst hm'
    cases ao with
    | none =>
      obtain ⟨_, rfl⟩ := hnil rfl
      exact wpList_append_own_none hgd s x 55 ho B 25 i0 101 Tryd.underlying55 hi v _ _ hs hown hx (h v w (by rw [List.append_nil]; exact hown) (fun _ hb => hb) (fun _ _ h _ => h))
    | some ad =>
      refine wpList_append_own w hgd s x 55 ho B 25 i0 (aggV (recC zrec)) 101 136 Tryd.underlying55 hi hz0 hz1 hz2 (by kernel_rfl) (by decide) v l.length (recsC l) hs hown ad 0 c [] hx rfl (fun j u hu => by simp at hu) (fun u hu => by cases hu) (by unfold maxLen; omega) (by simp at hk; omega) hbase ?_
      intro v' w' g1 g2 _
      rw [List.append_nil] at g1
      refine h v' w' (by rw [List.append_nil]; exact g1) (fun W1 hb => hb.grown g2 hbase (fun i hi => (hown.lt i hi).1)) (fun k o hk hne => by rw [g2.block k (lt_of_block hk) hne]; exact hk)
  | cons r m2 =>
    obtain ⟨b, o, hao, _⟩ := hm 0 r (by rw [hm']; rfl)
    subst hao
    have hlen := recs_len' m hb
    refine wpList_append_own w hgd s x 55 ho B 25 i0 (aggV (recC zrec)) 101 136 Tryd.underlying55 hi hz0 hz1 hz2 (by kernel_rfl) (by decide) v l.length (recsC l) hs hown ⟨b, o, none⟩ m.length c (recsC m) hx hlen (hm.flat hb) (recs_one m) (by unfold maxLen; omega) (by omega) hbase ?_
    intro v' w' g1 g2 _
    rw [← recs_app', ← List.length_append] at g1
    exact h v' w' g1 (fun W1 hb => hb.grown g2 hbase (fun i hi => (hown.lt i hi).1)) (fun k o hk hne => by rw [g2.block k (lt_of_block hk) hne]; exact hk)
theorem wpIdxG (x y : Operand) (ho : op.op = .indexAddr 55 x y) (hw : Region.wanted op (yielded ops a.tmps) = true) (b off m c i p : Nat) (hi : i < m) (hp : off + i * 101 = p) (hx : a.eval x = .slice (some ⟨b, off, none⟩) m c) (hy : a.eval y = .int .i64 i) (h : wpList Tryd.prog ops Q rest (a.put op.dst (.pointer (some ⟨b, p, none⟩))) w) : wpList Tryd.prog ops Q (op :: rest) a w := by
  subst hp
  exact BigFrame.wpList_want hw fun _ hK => o_idxS x y ho b off m c i hi hx hy (hK _ _ h)
end
section
variable {o : Oper} {a : Act} {w : World} {K : Act → World → Prop} {Q : Exit → Act → World → Prop}
theorem o_neq4 (x y : Operand) (ho : o.op = .binOp .neq 4 x y 4) (F : Bool) (hx : a.eval x = .bool F) (hy : a.eval y = .bool F) (h : K (a.put o.dst (.bool false)) w) : o.wp Tryd.prog a w K Q := by
  unfold Oper.wp execOp
  simp only [ho, hx, hy]
  cases F <;> (simp [go_sem]; exact h)
theorem o_pickOrF (c x : Operand) (ho : o.op = .pick c (.const (.bool true)) x) (hc : a.eval c = .bool false) (hx : a.eval x = .bool false) (h : K (a.put o.dst (.bool false)) w) : o.wp Tryd.prog a w K Q := by
  unfold Oper.wp execOp
  simp only [ho, hc, hx]
  simp [go_sem]
  exact h
theorem o_neq25 (x y : Operand) (ho : o.op = .binOp .neq 25 x y 25) (r : Rec) (hr : r.bd.length = 96) (hx : a.eval x = aggV (recC r)) (hy : a.eval y = aggV (recC r)) (h : K (a.put o.dst (.bool false)) w) : o.wp Tryd.prog a w K Q :=
  o_neqA 25 25 guard25 x y ho (recC r) (recC r) hx hy true (by rw [equal25 w r r hr hr, recEq_self]) h
end

end Go.Proofs.YtkpkiibahfdomaaDoor
