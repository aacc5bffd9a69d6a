/-
  The walk of SessionCopies.
-/
import Derived.Test.YthbgnpbkdeofcaaSu
namespace Go.Proofs.Ythbgnpbkdeofcaa
set_option maxRecDepth 100000
open Go.RowKit

def Apt (v1 v2 : Value) : Prop := ∀ k, v1.ownBlock = some k → v2.ownBlock ≠ some k
theorem Apt.symm {a b : Value} (h : Apt a b) : Apt b a := fun k e e2 => h k e2 e
theorem Apt.mut {W : World} {v v' u : Value} (h : Apt v u) (ho : ∀ k, v'.ownBlock = some k → v.ownBlock = some k ∨ W.heap.size ≤ k) (hl : ∀ k, u.ownBlock = some k → k < W.heap.size) : Apt v' u := fun k e e2 => by
  rcases ho k e with h1 | h1
  · exact h k h1 e2
  · have := hl k e2; omega
theorem Rx.otherS {W W' : World} {b : Nat} {v v' : Value} {ws ws' : List Value} {P P' : Ps} {r : Nat} {rv : Value} {rs : List Value} {R : Ps} (h : Rx W r rv rs R) (g : SR W b v ws W' v' ws' P') (hs : Sx W b v ws P) (ha : Apt v rv) : Rx W' r rv rs R := by
  refine h.kept g.kept (hs.notin h.head (by decide) (by decide)) (fun k e hm => ?_) (fun u hu k e => ?_)
  · rcases List.mem_cons.1 hm with rfl | hm
    · obtain ⟨cs, hc⟩ := h.row.block k e
      have := hs.head
      unfold Blk at this
      rw [hc] at this
      cases this
    · exact ha k (by simpa using hm) e
  · obtain ⟨bs, hb⟩ := h.bod hu
    exact hs.away hb k e
theorem Sx.otherR {W W' : World} {b : Nat} {v : Value} {ws : List Value} {P : Ps} {r : Nat} {rv rv' : Value} {rs rs' : List Value} {R R' : Ps} (h : Sx W b v ws P) (g : RR W r rv rs W' rv' rs' R') (hr : Rx W r rv rs R) (ha : Apt rv v) : Sx W' b v ws P := by
  refine h.kept g.kept (hr.notin h.head (by decide) (by decide)) (fun k e hm => ?_) (fun u hu k e => ?_)
  · rcases List.mem_cons.1 hm with rfl | hm
    · obtain ⟨cs, hc⟩ := h.row.block k e
      have := hr.head
      unfold Blk at this
      rw [hc] at this
      cases this
    · exact ha k (by simpa using hm) e
  · obtain ⟨bs, hb⟩ := h.bod hu
    exact hr.away hb k e
theorem Rx.otherR {W W' : World} {q : Nat} {vq vq' : Value} {wq wq' : List Value} {Q Q' : Ps} {r : Nat} {rv : Value} {rs : List Value} {R : Ps} (h : Rx W r rv rs R) (g : RR W q vq wq W' vq' wq' Q') (hq : Rx W q vq wq Q) (hne : q ≠ r) (ha : Apt vq rv) : Rx W' r rv rs R := by
  refine h.kept g.kept (fun hm => ?_) (fun k e hm => ?_) (fun u hu k e => ?_)
  · rcases List.mem_cons.1 hm with e | hm
    · exact hne e.symm
    · obtain ⟨cs, hc⟩ := hq.row.block r (by simpa using hm)
      have := h.head
      unfold Blk at this
      rw [hc] at this
      cases this
  · rcases List.mem_cons.1 hm with rfl | hm
    · obtain ⟨cs, hc⟩ := h.row.block k e
      have := hq.head
      unfold Blk at this
      rw [hc] at this
      cases this
    · exact ha k (by simpa using hm) e
  · obtain ⟨bs, hb⟩ := h.bod hu
    exact hq.away hb k e
/-- A session, its copy, and the document's two. -/
structure Qd (w W : World) (b : Nat) (v : Value) (ws : List Value) (r : Nat) (rv : Value) (rs : List Value) (P : Ps) (c : Nat) (vc : Value) (wc : List Value) (Q : Ps) (q : Nat) (vq : Value) (wq : List Value) (R : Ps) : Prop where
  s : Sm w W b v ws P
  rx : Rx W r rv rs P
  cp : Sm w W c vc wc Q
  qx : Rx W q vq wq R
  qge : w.heap.size ≤ q ∧ ∀ i, vq.ownBlock = some i → w.heap.size ≤ i
  cb : c ≠ b
  qr : q ≠ r
  a1 : Apt vc v
  a2 : Apt vc rv
  a3 : Apt vc vq
  a4 : Apt vq v
  a5 : Apt vq rv
theorem Qd.step {w W W' : World} {b : Nat} {v : Value} {ws : List Value} {r : Nat} {rv : Value} {rs : List Value} {P : Ps} {c : Nat} {vc : Value} {wc : List Value} {Q : Ps} {q : Nat} {vq : Value} {wq : List Value} {R : Ps} (h : Qd w W b v ws r rv rs P c vc wc Q q vq wq R) (hk : Kept [] W W') : Qd w W' b v ws r rv rs P c vc wc Q q vq wq R := ⟨h.s.step hk, h.rx.kept0 hk, h.cp.step hk, h.qx.kept0 hk, h.qge, h.cb, h.qr, h.a1, h.a2, h.a3, h.a4, h.a5⟩
theorem Qd.mutC {w W W' : World} {b : Nat} {v : Value} {ws : List Value} {r : Nat} {rv : Value} {rs : List Value} {P : Ps} {c : Nat} {vc vc' : Value} {wc wc' : List Value} {Q Q' : Ps} {q : Nat} {vq : Value} {wq : List Value} {R : Ps} (h : Qd w W b v ws r rv rs P c vc wc Q q vq wq R) (g : SR W c vc wc W' vc' wc' Q') : Qd w W' b v ws r rv rs P c vc' wc' Q' q vq wq R :=
  ⟨h.s.other g h.cp ⟨h.cb, h.a1⟩, h.rx.otherS g h.cp.sx h.a2, h.cp.mut g, h.qx.otherS g h.cp.sx h.a3, h.qge, h.cb, h.qr, h.a1.mut g.own h.s.sx.lt.2.1, h.a2.mut g.own h.rx.lt.2.1, h.a3.mut g.own h.qx.lt.2.1, h.a4, h.a5⟩
theorem Qd.mutQ {w W W' : World} {b : Nat} {v : Value} {ws : List Value} {r : Nat} {rv : Value} {rs : List Value} {P : Ps} {c : Nat} {vc : Value} {wc : List Value} {Q : Ps} {q : Nat} {vq vq' : Value} {wq wq' : List Value} {R R' : Ps} (h : Qd w W b v ws r rv rs P c vc wc Q q vq wq R) (g : RR W q vq wq W' vq' wq' R') : Qd w W' b v ws r rv rs P c vc wc Q q vq' wq' R' := by
  have hk : Kept [] w W' := h.s.k.fresh g.kept (fun i hi hl => by
    rcases List.mem_cons.1 hi with rfl | hi
    · have := h.qge.1; omega
    · have := h.qge.2 i (by simpa using hi); omega)
  refine ⟨⟨h.s.sx.otherR g h.qx h.a4, hk, h.s.ge⟩, h.rx.otherR g h.qx h.qr h.a5, ⟨h.cp.sx.otherR g h.qx h.a3.symm, hk, h.cp.ge⟩, g.sx, ⟨h.qge.1, fun i hi => ?_⟩, h.cb, h.qr, h.a1, h.a2, (h.a3.symm.mut g.own h.cp.sx.lt.2.1).symm, h.a4.mut g.own h.s.sx.lt.2.1, h.a5.mut g.own h.rx.lt.2.1⟩
  rcases g.own i hi with h1 | h1
  · exact h.qge.2 i h1
  · have := h.s.k.size; omega
theorem come_me (P : Ps) (d : Dg) : (P.come d).1.me = P.me := by
  unfold Ps.come
  split
  · rfl
  · split
    · rfl
    · split <;> rfl
theorem come_oth (P : Ps) (d : Dg) : (P.come d).1.oth = P.oth := by
  unfold Ps.come
  split
  · rfl
  · split
    · rfl
    · split <;> rfl
theorem come_view (P : Ps) (d : Dg) : (P.come d).1.view = P.view := by
  unfold Ps.come
  split
  · rfl
  · split
    · rfl
    · split <;> rfl
/-- What was done since. -/
def Ext (P Q : Ps) : Prop := Q.me = P.me ∧ Q.oth = P.oth ∧ Q.view = P.view ∧ ∃ t, Q.sent = P.sent ++ t
theorem Ext.refl (P : Ps) : Ext P P := ⟨rfl, rfl, rfl, [], by simp⟩
theorem Ext.one {P Q : Ps} (h : Ext P Q) (x : St1) : Ext P (Q.one x) := by
  obtain ⟨h1, h2, h3, t, h4⟩ := h
  unfold Ps.one
  split
  · unfold Ps.send Ps.put
    split
    · exact ⟨h1, h2, h3, t, h4⟩
    · exact ⟨h1, h2, h3, t ++ [x.y.bs], by simp [h4]⟩
  · split
    · exact ⟨h1, h2, h3, t, h4⟩
    · split
      · exact ⟨h1, h2, h3, t, h4⟩
      · split
        · have hs := come_sent Q x.d
          refine ⟨?_, ?_, ?_, t, by rw [hs]; exact h4⟩
          · rw [← h1]; exact come_me Q x.d
          · rw [← h2]; exact come_oth Q x.d
          · rw [← h3]; exact come_view Q x.d
        · exact ⟨h1, h2, h3, t, h4⟩
theorem same_yes {P Q : Ps} (h : Ext P Q) (h1 : P.known = Q.known) (h2 : P.told = Q.told) (h3 : P.got = Q.got) (h4 : P.owes = Q.owes) (h5 : P.sent.length = Q.sent.length) : sameB P Q = true := by
  obtain ⟨e1, e2, e3, t, e4⟩ := h
  have ht : t = [] := by have := congrArg List.length e4; rw [List.length_append] at this; exact List.length_eq_zero_iff.1 (by omega)
  subst ht
  rw [List.append_nil] at e4
  unfold sameB stEq
  simp [e1, e2, e3, e4, h1, h2, h3, h4]
theorem same_no {P Q : Ps} (h : ¬ (P.known = Q.known ∧ P.told = Q.told ∧ P.got = Q.got ∧ P.owes = Q.owes ∧ (P.known ≤ P.sent.length → Q.known ≤ Q.sent.length → P.sent.length = Q.sent.length))) : sameB P Q = false := by
  cases hs : sameB P Q with
  | false => rfl
  | true =>
    exfalso
    apply h
    unfold sameB stEq at hs
    simp only [Bool.and_eq_true, decide_eq_true_eq] at hs
    obtain ⟨⟨_, _, _, h4, h5, h6, h7⟩, h8⟩ := hs
    refine ⟨by omega, by omega, h6, h7, fun a b => ?_⟩
    have := congrArg List.length h8
    rw [List.length_drop, List.length_drop] at this
    omega
section
variable {o : Oper} {a : Act} {w : World} {K : Act → World → Prop} {Q : Exit → Act → World → Prop}
theorem o_eqlT2 (x y : Operand) (ho : o.op = .binOp .eql 2 x y 2) (m n : Int) (r : Bool) (hr : decide (m = n) = r) (hx : a.eval x = .int .i64 m) (hy : a.eval y = .int .i64 n) (h : K (a.put o.dst (.bool r)) w) : o.wp Try.prog a w K Q := by
  have hb : (m == n) = r := by rw [← hr]; rfl
  unfold Oper.wp execOp
  simp only [ho, hx, hy]
  simp [go_sem, hb]
  exact h
theorem o_eqlT3 (x y : Operand) (ho : o.op = .binOp .eql 3 x y 3) (m n : Int) (r : Bool) (hr : decide (m = n) = r) (hx : a.eval x = .int .i64 m) (hy : a.eval y = .int .i64 n) (h : K (a.put o.dst (.bool r)) w) : o.wp Try.prog a w K Q := by
  have hb : (m == n) = r := by rw [← hr]; rfl
  unfold Oper.wp execOp
  simp only [ho, hx, hy]
  simp [go_sem, hb]
  exact h
theorem o_eqlT4 (x y : Operand) (ho : o.op = .binOp .eql 4 x y 4) (m n : Bool) (r : Bool) (hr : decide (m = n) = r) (hx : a.eval x = .bool m) (hy : a.eval y = .bool n) (h : K (a.put o.dst (.bool r)) w) : o.wp Try.prog a w K Q := by
  have hb : (m == n) = r := by rw [← hr]; rfl
  unfold Oper.wp execOp
  simp only [ho, hx, hy]
  simp [go_sem, hb]
  exact h
end
theorem row32 : Row 32 8 := ⟨_, Try.underlying32, rfl, by kernel_rfl⟩
def zR : List Value := [.int .i64 0, .int .i64 0, .int .i64 0, .slice none 0 0, .int .i64 0, .int .i64 0, .int .i64 0, .bool false]
theorem alloc32 (w : World) : (Instr.alloc 32 true (.tuple #[])).run Try.prog w = .ok (P0 w.heap.size) (w.alloc (.cells zR.toArray 32)) := by kernel_rfl
theorem R_one {P : Ps} {v : Value} (h : v.oneCell' = true) : ∀ u ∈ P.R v, u.oneCell' = true := by
  intro u hu
  simp only [Ps.R, List.mem_cons, List.not_mem_nil, or_false] at hu
  rcases hu with rfl | rfl | rfl | rfl | rfl | rfl | rfl | rfl
  · rfl
  · rfl
  · rfl
  · exact h
  · rfl
  · rfl
  · rfl
  · rfl
theorem qd_new {w W9 W10 W11 : World} {b : Nat} {v : Value} {ws : List Value} {r : Nat} {rv : Value} {rs : List Value} {P : Ps} {c : Nat} {vc : Value} {q : Nat} {vq : Value} (h : Du w W10 b v ws P r rv rs P) (hc : Sm w W10 c vc ws P) (hO : W10.ownsRow W9.heap.size 33 1 vq rs.length rs) (hB : Blk W11 q 32 (P.R vq)) (hk : Kept [q] W10 W11) (hQ : Blk W10 q 32 (P.R rv)) (hg : w.heap.size ≤ q) (hqr : q ≠ r) (hcb : c ≠ b) (h1 : Apt vc v) (h2 : Apt vc rv) (hn : (∀ k, v.ownBlock = some k → k < W9.heap.size) ∧ (∀ k, rv.ownBlock = some k → k < W9.heap.size) ∧ (∀ k, vc.ownBlock = some k → k < W9.heap.size) ∧ w.heap.size ≤ W9.heap.size) : Qd w W11 b v ws r rv rs P c vc ws P q vq rs P := by
  have hno : ∀ (p T : Nat) (cs : Array Value) (q' : Nat × Nat), T ≠ 32 → W10.heap[p]? = some (Obj.cells cs T q') → p ∉ [q] := fun p T cs q' hT hp hm => by
    simp at hm
    subst hm
    unfold Blk at hQ
    rw [hQ] at hp
    cases hp
    exact hT rfl
  have hS : ∀ {b' : Nat} {v' : Value} {ws' : List Value} {P' : Ps}, Sx W10 b' v' ws' P' → Sx W11 b' v' ws' P' := fun hs => hs.kept hk (hno _ _ _ _ (by decide) hs.head) (fun k e => by obtain ⟨cs, hc⟩ := hs.row.block k e; exact hno _ _ _ _ (by decide) hc) (fun u hu k e => by obtain ⟨bs, hb⟩ := hs.bod hu; obtain ⟨cs, hc⟩ := hb.block k e; exact hno _ _ _ _ (by decide) hc)
  have hK : Kept [] w W11 := h.k.fresh hk (fun i hi hl => by simp at hi; omega)
  have hbod : ∀ u bs, Bod W10 u bs → Bod W11 u bs := fun u bs hb => hb.kept hk (fun k e => by obtain ⟨cs, hc⟩ := hb.block k e; exact hno _ _ _ _ (by decide) hc)
  have hOW : W11.ownsRow W9.heap.size 33 1 vq rs.length rs := owns_keptX hO hk (fun k e => by obtain ⟨cs, hc⟩ := owns_block hO k e; exact hno _ _ _ _ (by decide) hc)
  have hvq : ∀ k, vq.ownBlock = some k → W9.heap.size ≤ k := fun k e => (hO.lt k e).1
  refine ⟨⟨hS h.sm.sx, hK, h.sm.ge⟩, ?_, ⟨hS hc.sx, hK, hc.ge⟩, ⟨h.rx.ok, hB, own_O (base := W9.heap.size) hOW, h.rx.len, fun i u bs hu hs => hbod u bs (h.rx.body i u bs hu hs)⟩, ⟨hg, fun i hi => by have h9 := hvq i hi; have h8 := hn.2.2.2; omega⟩, hcb, hqr, h1, h2, ?_, ?_, ?_⟩
  · exact h.rx.kept hk (by simpa using fun e => hqr e.symm) (fun k e => by obtain ⟨cs, hc⟩ := h.rx.row.block k e; exact hno _ _ _ _ (by decide) hc) (fun u hu k e => by obtain ⟨bs, hb⟩ := h.rx.bod hu; obtain ⟨cs, hc⟩ := hb.block k e; exact hno _ _ _ _ (by decide) hc)
  · exact fun k e e2 => by have h8 := hn.2.2.1 k e; have h9 := hvq k e2; omega
  · exact fun k e e2 => by have h8 := hn.1 k e2; have h9 := hvq k e; omega
  · exact fun k e e2 => by have h8 := hn.2.1 k e2; have h9 := hvq k e; omega
theorem OwnO.one {W : World} {v : Value} {xs : List Value} (h : OwnO W v xs) : v.oneCell' = true := by
  obtain ⟨ao, c, rfl, _⟩ := h.sl
  rfl
end Go.Proofs.Ythbgnpbkdeofcaa
