/-
  What two ends want of the texts of the walks of SessionPlays and SessionCopies.
-/
import Derived.Test.YthbgnpbkdeofcaaSr
namespace Go.Proofs.Ythbgnpbkdeofcaa
set_option maxRecDepth 100000
open Go.RowKit

section
variable {o : Oper} {a : Act} {w : World} {K : Act → World → Prop} {Q : Exit → Act → World → Prop}
theorem o_bsD (x : Operand) (ho : o.op = .buildSlice 40 1 #[(0, x)]) (d : Dg) (u : Value) (hu : ∃ ao m c, u = .slice ao m c) (hx : a.eval x = aggV (d.C u)) (h : K (a.put o.dst (.slice (some ⟨w.heap.size, 0, none⟩) 1 1)) (w.alloc (.cells (d.C u).toArray 35))) : o.wp Try.prog a w K Q := by
  obtain ⟨ao, m, c, rfl⟩ := hu
  have hr : (Instr.buildSlice 40 1 #[(0, aggV (d.C (.slice ao m c)))]).run Try.prog w = .ok (.slice (some ⟨w.heap.size, 0, none⟩) 1 1) (w.alloc (.cells (d.C (.slice ao m c)).toArray 35)) := by kernel_rfl
  unfold Oper.wp execOp
  simp only [ho, List.map_toArray, List.map_cons, List.map_nil, hx, Sem.run_bind, hr, Result.andThen_ok]
  exact h
theorem o_idx30 (x y : Operand) (ho : o.op = .indexAddr 30 x y) (g off m c k : Nat) (hk : k < m) (hx : a.eval x = .slice (some ⟨g, off, none⟩) m c) (hy : a.eval y = .int .i64 k) (h : K (a.put o.dst (.pointer (some ⟨g, off + k, none⟩))) w) : o.wp Try.prog a w K Q := by
  unfold Oper.wp execOp
  simp only [ho, hx, hy]
  simp [go_sem, hk, Addr.add_lit]
  exact h
theorem o_appD (s x : Operand) (ho : o.op = .call { callee := .builtin .append, args := #[s, x], argTypes := #[40, 40] }) (B : Nat) (v : Value) (L : List (Dg × Value)) (hs : a.eval s = v) (hD : Dl w B v L) (p : Nat) (d : Dg) (u : Value) (hx : a.eval x = .slice (some ⟨p, 0, none⟩) 1 1) (hp : Blk w p 35 (d.C u)) (hu : Bod w u d.bs) (hn : ∀ k, u.ownBlock = some k → B ≤ k) (hL : L.length ≤ 100000) (hB : B ≤ w.heap.size)
    (h : ∀ v' w', Dl w' B v' (L ++ [(d, u)]) → Kept v.ownBlock.toList w w' → (∀ k, v'.ownBlock = some k → v.ownBlock = some k ∨ w.heap.size ≤ k) → K (a.put o.dst v') w') : o.wp Try.prog a w K Q := by
  refine o_appG (T := 40) (e := 35) (size := 6) (by8 := 64) (z := aggV zD) Try.sl40 Try.info35 rfl (by decide) s x ho B v L.length (cellsD L) (d.C u) hs hD.row (some ⟨p, 0, none⟩) 1 1 hx (fun e => by cases e) rfl (fun ad e j y hj => ?_) (DgC_one hu.one) (by omega) (by omega) hB fun v' w' h1 h2 h3 => ?_
  · cases e
    rw [Addr.add_lit, Nat.zero_add, hp.cell]
    exact hj
  · refine h v' w' (dl_more hD h1 h2 hu hn) (Kept.of_grown h2 (fun k e _ => by simp [e])) (fun k e => ?_)
    rcases h3 with e2 | e2
    · rw [← e2]; exact .inl e
    · rw [e2] at e; cases e; exact .inr (Nat.le_refl _)
end
theorem build35o (w : World) (a b c d : Int) : (Instr.build 35 #[(0, .int .i64 a), (1, .int .i64 b), (2, .int .i64 c), (4, .int .i64 d)]).run Try.prog w = .ok (aggV ((⟨a, b, c, 0, d, []⟩ : Dg).C (.slice none 0 0))) w := by kernel_rfl
theorem st3 (w : World) (b TT i : Nat) (us : List Value) (n : Int) (h : Blk w b TT us) (hi : i < us.length) : (storeVar 3 ⟨b, i, none⟩ (.int .i64 n)).run Try.prog w = .ok () (w.setCell ⟨b, i, none⟩ (.int .i64 n)) := by
  have hc := h.cell i
  rw [List.getElem?_eq_getElem hi] at hc
  have hf := h.frozen i
  simp [storeVar, go_sem, hc, hf]
section
variable {o : Oper} {a : Act} {w : World} {K : Act → World → Prop} {Q : Exit → Act → World → Prop}
theorem o_lss2c (x : Operand) (c : Int) (ho : o.op = .binOp .lss 2 x (.const (.int .i64 c)) 2) (m : Int) (r : Bool) (hr : decide (m < c) = r) (hx : a.eval x = .int .i64 m) (h : K (a.put o.dst (.bool r)) w) : o.wp Try.prog a w K Q := by
  unfold Oper.wp execOp
  simp only [ho, hx]
  simp [go_sem, hr]
  exact h
theorem o_gtr2c (x : Operand) (c : Int) (ho : o.op = .binOp .gtr 2 x (.const (.int .i64 c)) 2) (m : Int) (r : Bool) (hr : decide (c < m) = r) (hx : a.eval x = .int .i64 m) (h : K (a.put o.dst (.bool r)) w) : o.wp Try.prog a w K Q := by
  unfold Oper.wp execOp
  simp only [ho, hx]
  simp [go_sem, hr]
  exact h
theorem o_eql2c (x : Operand) (c : Int) (ho : o.op = .binOp .eql 2 x (.const (.int .i64 c)) 2) (m : Int) (r : Bool) (hr : decide (m = c) = r) (hx : a.eval x = .int .i64 m) (h : K (a.put o.dst (.bool r)) w) : o.wp Try.prog a w K Q := by
  have hb : (m == c) = r := by rw [← hr]; rfl
  unfold Oper.wp execOp
  simp only [ho, hx]
  simp [go_sem, hb]
  exact h
end
section
variable {ops : Array Oper} {rest : List Oper} {op : Oper} {a : Act} {w : World} {Q : Exit → Act → World → Prop}
theorem wpAppB (hgd : op.guard = none) (x : Operand) (ho : op.op = .call { callee := .builtin .append, args := #[.const (.slice none 0 0), x], argTypes := #[33, 33] }) (ao : Option Addr) (m c : Nat) (bs : List Int) (hx : a.eval x = .slice ao m c) (hnil : ao = none → m = 0 ∧ c = 0) (hV : Vals w ao m c (u8s bs)) (hby : ∀ x ∈ bs, 0 ≤ x ∧ x < 256) (hm : m ≤ 140737488355328)
    (h : ∀ v' w', Bod w' v' bs → (∀ k, v'.ownBlock = some k → w.heap.size ≤ k) → Kept [] w w' → wpList Try.prog ops Q rest (a.put op.dst v') w') : wpList Try.prog ops Q (op :: rest) a w :=
  wpList_plain hgd fun _ hK => o_appB x ho ao m c bs hx hnil hV hby hm fun v' w' h1 h2 h3 => hK _ _ (h v' w' h1 h2 h3)
end
section
variable {o : Oper} {a : Act} {w : World} {K : Act → World → Prop} {Q : Exit → Act → World → Prop}
theorem o_sub3 (x y : Operand) (ho : o.op = .binOp .sub 3 x y 3) (m n : Int) (hm : -9223372036854775808 ≤ m - n ∧ m - n ≤ 9223372036854775807) (hx : a.eval x = .int .i64 m) (hy : a.eval y = .int .i64 n) (h : K (a.put o.dst (.int .i64 (m - n))) w) : o.wp Try.prog a w K Q := by
  have hw : IntKind.i64.wrap (m - n) = m - n := by rw [IntKind.wrap_i64]; omega
  unfold Oper.wp execOp
  simp only [ho, hx, hy]
  simp [go_sem, hw]
  exact h
end
theorem row37 : Row 37 8 := ⟨_, Try.underlying37, rfl, by kernel_rfl⟩
def zS : List Value := [.int .i64 0, .slice none 0 0, .int .i64 0, .int .i64 0, .int .i64 0, .int .i64 0, .int .i64 0, .slice none 0 0]
theorem alloc37 (w : World) : (Instr.alloc 37 true (.tuple #[])).run Try.prog w = .ok (P0 w.heap.size) (w.alloc (.cells zS.toArray 37)) := by kernel_rfl
theorem stC_one (x : St1) : ∀ u ∈ x.C, u.oneCell' = true := by
  intro u hu
  simp only [St1.C, Dg.C, List.mem_cons, List.not_mem_nil, or_false] at hu
  rcases hu with rfl | rfl | rfl | rfl | rfl | rfl | rfl | rfl <;> rfl
theorem build32 (w : World) (a b c : Int) : (Instr.build 32 #[(0, .int .i64 a), (1, .int .i64 b), (2, .int .i64 c)]).run Try.prog w = .ok (aggV ((newP a b c).R (.slice none 0 0))) w := by kernel_rfl
theorem Rx.new {W : World} {b : Nat} {m o v : Int} (hne : m ≠ o) (hb : Blk W b 32 ((newP m o v).R (.slice none 0 0))) : Rx W b (.slice none 0 0) [] (newP m o v) := ⟨newP_ok hne, hb, OwnO.nil _, rfl, by simp⟩
theorem come20bs (b : Nat) (v : Value) (ws : List Value) (P : Ps) (d : Dg) (u : Value) (w : World) (h : Sx w b v ws P) (hB : Bod w u d.bs) : Calls Try.prog 20 #[P0 b, aggV (d.C u)] w fun e w' => CRs w b v ws P d e w' := by
  obtain ⟨uo, uc, rfl, hV, hn⟩ := hB.sl
  exact come20s b v ws P d uo d.bs.length uc w h rfl hV hn hB.byte (fun g off _ e => h.away hB g (by rw [e]; rfl))
theorem Nc.of_bods {W : World} {u0 : Value} {ws ws' : List Value} (h : Nc u0 ws) (hl : ∀ k, u0.ownBlock = some k → k < W.heap.size) (hb : ∀ u ∈ ws', ∀ k, u.ownBlock = some k → (∃ x ∈ ws, x.ownBlock = some k) ∨ W.heap.size ≤ k) : Nc u0 ws' := by
  intro u hu k e e0
  rcases hb u hu k e with ⟨x, hx, ex⟩ | h1
  · exact h x hx k ex e0
  · have := hl k e0; omega
theorem Bod.lt {W : World} {u : Value} {bs : List Int} (h : Bod W u bs) : ∀ k, u.ownBlock = some k → k < W.heap.size := fun k e => by
  obtain ⟨cs, hc⟩ := h.block k e
  exact lt_of_block hc
theorem Nc.new {W : World} {u0 : Value} {ws : List Value} (hn : ∀ k, u0.ownBlock = some k → W.heap.size ≤ k) (hl : ∀ u ∈ ws, ∀ k, u.ownBlock = some k → k < W.heap.size) : Nc u0 ws := fun u hu k e e0 => by have h1 := hl u hu k e; have h2 := hn k e0; omega
theorem by_of_bod {W : World} {uo : Option Addr} {m uc : Nat} {bs : List Int} (h : Bod W (.slice uo m uc) bs) (hb : m ≤ 140737488351232) (hl : bs.length = m) : (⟨uo, m, uc, bs⟩ : By).Ok W W.heap.size := by
  obtain ⟨ao, c, e, hV, hn⟩ := h.sl
  injection e with e1 e2 e3
  subst e1 e3
  rw [hl] at hV hn
  refine ⟨hV, hn, h.byte, fun hne g off e => h.lt g (by rw [show uo = some ⟨g, off, none⟩ from e]; rfl), hb⟩
theorem td_len {P : Ps} (h : P.sent.length < 1000) {f : Nat} {L : List (Dg × Value)} (hm : L.map Prod.fst = P.tellL f) : L.length ≤ 10000 := by
  have h1 := congrArg List.length hm
  rw [List.length_map] at h1
  have h2 := tell_len P f
  omega
theorem td_small {P : Ps} (h : P.Ok) {f : Nat} {L : List (Dg × Value)} (hm : L.map Prod.fst = P.tellL f) : ∀ p ∈ L, p.1.bs.length ≤ 10000 := by
  intro p hp
  have h1 : p.1 ∈ P.tellL f := by rw [← hm]; exact List.mem_map.2 ⟨p, hp, rfl⟩
  have := tell_small h f _ h1
  omega
theorem come_sent (P : Ps) (d : Dg) : (P.come d).1.sent = P.sent := by
  unfold Ps.come
  split
  · rfl
  · split
    · rfl
    · split <;> rfl
theorem come_small {P : Ps} (_ : P.Ok) (d : Dg) : ((P.come d).2.getD []).length ≤ 1000 := by
  cases hno : P.no d with
  | true => rw [come_eq_no hno]; simp
  | false =>
    by_cases h0 : d.seq = 0
    · rw [come_eq_0 hno h0]; simp
    · by_cases h1 : d.seq = P.got + 1
      · rw [come_eq_next hno h0 h1]
        have := (no_parts hno).2.2.2.2.2.2.2
        simp
        omega
      · rw [come_eq_far hno h0 h1]; simp
/-- One step, plainly. -/
def Ps.one (P : Ps) (x : St1) : Ps := if x.kind = 1 then (P.send x.y.bs).1 else if x.kind = 2 then P.toldP else if x.kind = 3 then P.toldP else if x.kind = 4 then (P.come x.d).1 else P
theorem one_len (P : Ps) (x : St1) : (P.one x).sent.length ≤ P.sent.length + 1 := by
  unfold Ps.one
  split
  · exact send_len P x.y.bs
  · split
    · show P.sent.length ≤ _; omega
    · split
      · show P.sent.length ≤ _; omega
      · split
        · rw [come_sent]; omega
        · omega
def Apt (v1 v2 : Value) : Prop := ∀ k, v1.ownBlock = some k → v2.ownBlock ≠ some k
theorem Apt.symm {a b : Value} (h : Apt a b) : Apt b a := fun k e e2 => h k e2 e
theorem Apt.mut {W : World} {v v' u : Value} (h : Apt v u) (ho : ∀ k, v'.ownBlock = some k → v.ownBlock = some k ∨ W.heap.size ≤ k) (hl : ∀ k, u.ownBlock = some k → k < W.heap.size) : Apt v' u := fun k e e2 => by
  rcases ho k e with h1 | h1
  · exact h k h1 e2
  · have := hl k e2; omega
theorem Rx.otherS {W W' : World} {b : Nat} {v v' : Value} {ws ws' : List Value} {P P' : Ps} {r : Nat} {rv : Value} {rs : List Value} {R : Ps} (h : Rx W r rv rs R) (g : SR W b v ws W' v' ws' P') (hs : Sx W b v ws P) (ha : Apt v rv) : Rx W' r rv rs R := by
  refine h.kept g.kept (hs.notin h.head (by decide) (by decide)) (fun k e hm => ?_) (fun u hu k e => ?_)
  · rcases List.mem_cons.1 hm with rfl | hm
    · obtain ⟨cs, hc⟩ := h.row.block k e
      have := hs.head
      unfold Blk at this
      rw [hc] at this
      cases this
    · exact ha k (by simpa using hm) e
  · obtain ⟨bs, hb⟩ := h.bod hu
    exact hs.away hb k e
theorem Sx.otherR {W W' : World} {b : Nat} {v : Value} {ws : List Value} {P : Ps} {r : Nat} {rv rv' : Value} {rs rs' : List Value} {R R' : Ps} (h : Sx W b v ws P) (g : RR W r rv rs W' rv' rs' R') (hr : Rx W r rv rs R) (ha : Apt rv v) : Sx W' b v ws P := by
  refine h.kept g.kept (hr.notin h.head (by decide) (by decide)) (fun k e hm => ?_) (fun u hu k e => ?_)
  · rcases List.mem_cons.1 hm with rfl | hm
    · obtain ⟨cs, hc⟩ := h.row.block k e
      have := hr.head
      unfold Blk at this
      rw [hc] at this
      cases this
    · exact ha k (by simpa using hm) e
  · obtain ⟨bs, hb⟩ := h.bod hu
    exact hr.away hb k e
theorem Rx.otherR {W W' : World} {q : Nat} {vq vq' : Value} {wq wq' : List Value} {Q Q' : Ps} {r : Nat} {rv : Value} {rs : List Value} {R : Ps} (h : Rx W r rv rs R) (g : RR W q vq wq W' vq' wq' Q') (hq : Rx W q vq wq Q) (hne : q ≠ r) (ha : Apt vq rv) : Rx W' r rv rs R := by
  refine h.kept g.kept (fun hm => ?_) (fun k e hm => ?_) (fun u hu k e => ?_)
  · rcases List.mem_cons.1 hm with e | hm
    · exact hne e.symm
    · obtain ⟨cs, hc⟩ := hq.row.block r (by simpa using hm)
      have := h.head
      unfold Blk at this
      rw [hc] at this
      cases this
  · rcases List.mem_cons.1 hm with rfl | hm
    · obtain ⟨cs, hc⟩ := h.row.block k e
      have := hq.head
      unfold Blk at this
      rw [hc] at this
      cases this
    · exact ha k (by simpa using hm) e
  · obtain ⟨bs, hb⟩ := h.bod hu
    exact hq.away hb k e
/-- A session, its copy, and the document's two. -/
structure Qd (w W : World) (b : Nat) (v : Value) (ws : List Value) (r : Nat) (rv : Value) (rs : List Value) (P : Ps) (c : Nat) (vc : Value) (wc : List Value) (Q : Ps) (q : Nat) (vq : Value) (wq : List Value) (R : Ps) : Prop where
  s : Sm w W b v ws P
  rx : Rx W r rv rs P
  cp : Sm w W c vc wc Q
  qx : Rx W q vq wq R
  qge : w.heap.size ≤ q ∧ ∀ i, vq.ownBlock = some i → w.heap.size ≤ i
  cb : c ≠ b
  qr : q ≠ r
  a1 : Apt vc v
  a2 : Apt vc rv
  a3 : Apt vc vq
  a4 : Apt vq v
  a5 : Apt vq rv
theorem Qd.step {w W W' : World} {b : Nat} {v : Value} {ws : List Value} {r : Nat} {rv : Value} {rs : List Value} {P : Ps} {c : Nat} {vc : Value} {wc : List Value} {Q : Ps} {q : Nat} {vq : Value} {wq : List Value} {R : Ps} (h : Qd w W b v ws r rv rs P c vc wc Q q vq wq R) (hk : Kept [] W W') : Qd w W' b v ws r rv rs P c vc wc Q q vq wq R := ⟨h.s.step hk, h.rx.kept0 hk, h.cp.step hk, h.qx.kept0 hk, h.qge, h.cb, h.qr, h.a1, h.a2, h.a3, h.a4, h.a5⟩
theorem Qd.mutC {w W W' : World} {b : Nat} {v : Value} {ws : List Value} {r : Nat} {rv : Value} {rs : List Value} {P : Ps} {c : Nat} {vc vc' : Value} {wc wc' : List Value} {Q Q' : Ps} {q : Nat} {vq : Value} {wq : List Value} {R : Ps} (h : Qd w W b v ws r rv rs P c vc wc Q q vq wq R) (g : SR W c vc wc W' vc' wc' Q') : Qd w W' b v ws r rv rs P c vc' wc' Q' q vq wq R :=
  ⟨h.s.other g h.cp ⟨h.cb, h.a1⟩, h.rx.otherS g h.cp.sx h.a2, h.cp.mut g, h.qx.otherS g h.cp.sx h.a3, h.qge, h.cb, h.qr, h.a1.mut g.own h.s.sx.lt.2.1, h.a2.mut g.own h.rx.lt.2.1, h.a3.mut g.own h.qx.lt.2.1, h.a4, h.a5⟩
theorem Qd.mutQ {w W W' : World} {b : Nat} {v : Value} {ws : List Value} {r : Nat} {rv : Value} {rs : List Value} {P : Ps} {c : Nat} {vc : Value} {wc : List Value} {Q : Ps} {q : Nat} {vq vq' : Value} {wq wq' : List Value} {R R' : Ps} (h : Qd w W b v ws r rv rs P c vc wc Q q vq wq R) (g : RR W q vq wq W' vq' wq' R') : Qd w W' b v ws r rv rs P c vc wc Q q vq' wq' R' := by
  have hk : Kept [] w W' := h.s.k.fresh g.kept (fun i hi hl => by
    rcases List.mem_cons.1 hi with rfl | hi
    · have := h.qge.1; omega
    · have := h.qge.2 i (by simpa using hi); omega)
  refine ⟨⟨h.s.sx.otherR g h.qx h.a4, hk, h.s.ge⟩, h.rx.otherR g h.qx h.qr h.a5, ⟨h.cp.sx.otherR g h.qx h.a3.symm, hk, h.cp.ge⟩, g.sx, ⟨h.qge.1, fun i hi => ?_⟩, h.cb, h.qr, h.a1, h.a2, (h.a3.symm.mut g.own h.cp.sx.lt.2.1).symm, h.a4.mut g.own h.s.sx.lt.2.1, h.a5.mut g.own h.rx.lt.2.1⟩
  rcases g.own i hi with h1 | h1
  · exact h.qge.2 i h1
  · have := h.s.k.size; omega
theorem come_me (P : Ps) (d : Dg) : (P.come d).1.me = P.me := by
  unfold Ps.come
  split
  · rfl
  · split
    · rfl
    · split <;> rfl
theorem come_oth (P : Ps) (d : Dg) : (P.come d).1.oth = P.oth := by
  unfold Ps.come
  split
  · rfl
  · split
    · rfl
    · split <;> rfl
theorem come_view (P : Ps) (d : Dg) : (P.come d).1.view = P.view := by
  unfold Ps.come
  split
  · rfl
  · split
    · rfl
    · split <;> rfl
/-- What was done since. -/
def Ext (P Q : Ps) : Prop := Q.me = P.me ∧ Q.oth = P.oth ∧ Q.view = P.view ∧ ∃ t, Q.sent = P.sent ++ t
theorem Ext.refl (P : Ps) : Ext P P := ⟨rfl, rfl, rfl, [], by simp⟩
theorem Ext.one {P Q : Ps} (h : Ext P Q) (x : St1) : Ext P (Q.one x) := by
  obtain ⟨h1, h2, h3, t, h4⟩ := h
  unfold Ps.one
  split
  · unfold Ps.send Ps.put
    split
    · exact ⟨h1, h2, h3, t, h4⟩
    · exact ⟨h1, h2, h3, t ++ [x.y.bs], by simp [h4]⟩
  · split
    · exact ⟨h1, h2, h3, t, h4⟩
    · split
      · exact ⟨h1, h2, h3, t, h4⟩
      · split
        · have hs := come_sent Q x.d
          refine ⟨?_, ?_, ?_, t, by rw [hs]; exact h4⟩
          · rw [← h1]; exact come_me Q x.d
          · rw [← h2]; exact come_oth Q x.d
          · rw [← h3]; exact come_view Q x.d
        · exact ⟨h1, h2, h3, t, h4⟩
theorem same_yes {P Q : Ps} (h : Ext P Q) (h1 : P.known = Q.known) (h2 : P.told = Q.told) (h3 : P.got = Q.got) (h4 : P.owes = Q.owes) (h5 : P.sent.length = Q.sent.length) : sameB P Q = true := by
  obtain ⟨e1, e2, e3, t, e4⟩ := h
  have ht : t = [] := by have := congrArg List.length e4; rw [List.length_append] at this; exact List.length_eq_zero_iff.1 (by omega)
  subst ht
  rw [List.append_nil] at e4
  unfold sameB stEq
  simp [e1, e2, e3, e4, h1, h2, h3, h4]
theorem same_no {P Q : Ps} (h : ¬ (P.known = Q.known ∧ P.told = Q.told ∧ P.got = Q.got ∧ P.owes = Q.owes ∧ (P.known ≤ P.sent.length → Q.known ≤ Q.sent.length → P.sent.length = Q.sent.length))) : sameB P Q = false := by
  cases hs : sameB P Q with
  | false => rfl
  | true =>
    exfalso
    apply h
    unfold sameB stEq at hs
    simp only [Bool.and_eq_true, decide_eq_true_eq] at hs
    obtain ⟨⟨_, _, _, h4, h5, h6, h7⟩, h8⟩ := hs
    refine ⟨by omega, by omega, h6, h7, fun a b => ?_⟩
    have := congrArg List.length h8
    rw [List.length_drop, List.length_drop] at this
    omega
section
variable {o : Oper} {a : Act} {w : World} {K : Act → World → Prop} {Q : Exit → Act → World → Prop}
theorem o_eqlT2 (x y : Operand) (ho : o.op = .binOp .eql 2 x y 2) (m n : Int) (r : Bool) (hr : decide (m = n) = r) (hx : a.eval x = .int .i64 m) (hy : a.eval y = .int .i64 n) (h : K (a.put o.dst (.bool r)) w) : o.wp Try.prog a w K Q := by
  have hb : (m == n) = r := by rw [← hr]; rfl
  unfold Oper.wp execOp
  simp only [ho, hx, hy]
  simp [go_sem, hb]
  exact h
theorem o_eqlT3 (x y : Operand) (ho : o.op = .binOp .eql 3 x y 3) (m n : Int) (r : Bool) (hr : decide (m = n) = r) (hx : a.eval x = .int .i64 m) (hy : a.eval y = .int .i64 n) (h : K (a.put o.dst (.bool r)) w) : o.wp Try.prog a w K Q := by
  have hb : (m == n) = r := by rw [← hr]; rfl
  unfold Oper.wp execOp
  simp only [ho, hx, hy]
  simp [go_sem, hb]
  exact h
theorem o_eqlT4 (x y : Operand) (ho : o.op = .binOp .eql 4 x y 4) (m n : Bool) (r : Bool) (hr : decide (m = n) = r) (hx : a.eval x = .bool m) (hy : a.eval y = .bool n) (h : K (a.put o.dst (.bool r)) w) : o.wp Try.prog a w K Q := by
  have hb : (m == n) = r := by rw [← hr]; rfl
  unfold Oper.wp execOp
  simp only [ho, hx, hy]
  simp [go_sem, hb]
  exact h
end
theorem row32 : Row 32 8 := ⟨_, Try.underlying32, rfl, by kernel_rfl⟩
def zR : List Value := [.int .i64 0, .int .i64 0, .int .i64 0, .slice none 0 0, .int .i64 0, .int .i64 0, .int .i64 0, .bool false]
theorem alloc32 (w : World) : (Instr.alloc 32 true (.tuple #[])).run Try.prog w = .ok (P0 w.heap.size) (w.alloc (.cells zR.toArray 32)) := by kernel_rfl
theorem R_one {P : Ps} {v : Value} (h : v.oneCell' = true) : ∀ u ∈ P.R v, u.oneCell' = true := by
  intro u hu
  simp only [Ps.R, List.mem_cons, List.not_mem_nil, or_false] at hu
  rcases hu with rfl | rfl | rfl | rfl | rfl | rfl | rfl | rfl
  · rfl
  · rfl
  · rfl
  · exact h
  · rfl
  · rfl
  · rfl
  · rfl
theorem qd_new {w W9 W10 W11 : World} {b : Nat} {v : Value} {ws : List Value} {r : Nat} {rv : Value} {rs : List Value} {P : Ps} {c : Nat} {vc : Value} {q : Nat} {vq : Value} (h : Du w W10 b v ws P r rv rs P) (hc : Sm w W10 c vc ws P) (hO : W10.ownsRow W9.heap.size 33 1 vq rs.length rs) (hB : Blk W11 q 32 (P.R vq)) (hk : Kept [q] W10 W11) (hQ : Blk W10 q 32 (P.R rv)) (hg : w.heap.size ≤ q) (hqr : q ≠ r) (hcb : c ≠ b) (h1 : Apt vc v) (h2 : Apt vc rv) (hn : (∀ k, v.ownBlock = some k → k < W9.heap.size) ∧ (∀ k, rv.ownBlock = some k → k < W9.heap.size) ∧ (∀ k, vc.ownBlock = some k → k < W9.heap.size) ∧ w.heap.size ≤ W9.heap.size) : Qd w W11 b v ws r rv rs P c vc ws P q vq rs P := by
  have hno : ∀ (p T : Nat) (cs : Array Value) (q' : Nat × Nat), T ≠ 32 → W10.heap[p]? = some (Obj.cells cs T q') → p ∉ [q] := fun p T cs q' hT hp hm => by
    simp at hm
    subst hm
    unfold Blk at hQ
    rw [hQ] at hp
    cases hp
    exact hT rfl
  have hS : ∀ {b' : Nat} {v' : Value} {ws' : List Value} {P' : Ps}, Sx W10 b' v' ws' P' → Sx W11 b' v' ws' P' := fun hs => hs.kept hk (hno _ _ _ _ (by decide) hs.head) (fun k e => by obtain ⟨cs, hc⟩ := hs.row.block k e; exact hno _ _ _ _ (by decide) hc) (fun u hu k e => by obtain ⟨bs, hb⟩ := hs.bod hu; obtain ⟨cs, hc⟩ := hb.block k e; exact hno _ _ _ _ (by decide) hc)
  have hK : Kept [] w W11 := h.k.fresh hk (fun i hi hl => by simp at hi; omega)
  have hbod : ∀ u bs, Bod W10 u bs → Bod W11 u bs := fun u bs hb => hb.kept hk (fun k e => by obtain ⟨cs, hc⟩ := hb.block k e; exact hno _ _ _ _ (by decide) hc)
  have hOW : W11.ownsRow W9.heap.size 33 1 vq rs.length rs := owns_keptX hO hk (fun k e => by obtain ⟨cs, hc⟩ := owns_block hO k e; exact hno _ _ _ _ (by decide) hc)
  have hvq : ∀ k, vq.ownBlock = some k → W9.heap.size ≤ k := fun k e => (hO.lt k e).1
  refine ⟨⟨hS h.sm.sx, hK, h.sm.ge⟩, ?_, ⟨hS hc.sx, hK, hc.ge⟩, ⟨h.rx.ok, hB, own_O (base := W9.heap.size) hOW, h.rx.len, fun i u bs hu hs => hbod u bs (h.rx.body i u bs hu hs)⟩, ⟨hg, fun i hi => by have h9 := hvq i hi; have h8 := hn.2.2.2; omega⟩, hcb, hqr, h1, h2, ?_, ?_, ?_⟩
  · exact h.rx.kept hk (by simpa using fun e => hqr e.symm) (fun k e => by obtain ⟨cs, hc⟩ := h.rx.row.block k e; exact hno _ _ _ _ (by decide) hc) (fun u hu k e => by obtain ⟨bs, hb⟩ := h.rx.bod hu; obtain ⟨cs, hc⟩ := hb.block k e; exact hno _ _ _ _ (by decide) hc)
  · exact fun k e e2 => by have h8 := hn.2.2.1 k e; have h9 := hvq k e2; omega
  · exact fun k e e2 => by have h8 := hn.1 k e2; have h9 := hvq k e; omega
  · exact fun k e e2 => by have h8 := hn.2.1 k e2; have h9 := hvq k e; omega
theorem OwnO.one {W : World} {v : Value} {xs : List Value} (h : OwnO W v xs) : v.oneCell' = true := by
  obtain ⟨ao, c, rfl, _⟩ := h.sl
  rfl
end Go.Proofs.Ythbgnpbkdeofcaa
