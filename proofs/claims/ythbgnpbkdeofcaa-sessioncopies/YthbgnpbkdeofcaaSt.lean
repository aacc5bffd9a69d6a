/-
  The walk of SessionCopies.
-/
import Derived.Test.YthbgnpbkdeofcaaSu
namespace Go.Proofs.Ythbgnpbkdeofcaa
set_option maxRecDepth 100000
open Go.RowKit

def Apt (v1 v2 : Value) : Prop := ∀ k, v1.ownBlock = some k → v2.ownBlock ≠ some k
theorem Apt.symm {a b : Value} (h : Apt a b) : Apt b a := fun k e e2 => h k e2 e
theorem Apt.mut {W : World} {v v' u : Value} (h : Apt v u) (ho : ∀ k, v'.ownBlock = some k → v.ownBlock = some k ∨ W.heap.size ≤ k) (hl : ∀ k, u.ownBlock = some k → k < W.heap.size) : Apt v' u := fun k e e2 => by
  rcases ho k e with h1 | h1
  · exact h k h1 e2
  · have := hl k e2; omega
theorem Rx.otherS {W W' : World} {b : Nat} {v v' : Value} {ws ws' : List Value} {P P' : Ps} {r : Nat} {rv : Value} {rs : List Value} {R : Ps} (h : Rx W r rv rs R) (g : SR W b v ws W' v' ws' P') (hs : Sx W b v ws P) (ha : Apt v rv) : Rx W' r rv rs R := by
  refine h.kept g.kept (hs.notin h.head (by decide) (by decide)) (fun k e hm => ?_) (fun u hu k e => ?_)
  · rcases List.mem_cons.1 hm with rfl | hm
    · obtain ⟨cs, hc⟩ := h.row.block k e
      have := hs.head
      unfold Blk at this
      rw [hc] at this
      cases this
    · exact ha k (by simpa using hm) e
  · obtain ⟨bs, hb⟩ := h.bod hu
    exact hs.away hb k e
theorem Sx.otherR {W W' : World} {b : Nat} {v : Value} {ws : List Value} {P : Ps} {r : Nat} {rv rv' : Value} {rs rs' : List Value} {R R' : Ps} (h : Sx W b v ws P) (g : RR W r rv rs W' rv' rs' R') (hr : Rx W r rv rs R) (ha : Apt rv v) : Sx W' b v ws P := by
  refine h.kept g.kept (hr.notin h.head (by decide) (by decide)) (fun k e hm => ?_) (fun u hu k e => ?_)
  · rcases List.mem_cons.1 hm with rfl | hm
    · obtain ⟨cs, hc⟩ := h.row.block k e
      have := hr.head
      unfold Blk at this
      rw [hc] at this
      cases this
    · exact ha k (by simpa using hm) e
  · obtain ⟨bs, hb⟩ := h.bod hu
    exact hr.away hb k e
theorem Rx.otherR {W W' : World} {q : Nat} {vq vq' : Value} {wq wq' : List Value} {Q Q' : Ps} {r : Nat} {rv : Value} {rs : List Value} {R : Ps} (h : Rx W r rv rs R) (g : RR W q vq wq W' vq' wq' Q') (hq : Rx W q vq wq Q) (hne : q ≠ r) (ha : Apt vq rv) : Rx W' r rv rs R := by
  refine h.kept g.kept (fun hm => ?_) (fun k e hm => ?_) (fun u hu k e => ?_)
  · rcases List.mem_cons.1 hm with e | hm
    · exact hne e.symm
    · obtain ⟨cs, hc⟩ := hq.row.block r (by simpa using hm)
      have := h.head
      unfold Blk at this
      rw [hc] at this
      cases this
  · rcases List.mem_cons.1 hm with rfl | hm
    · obtain ⟨cs, hc⟩ := h.row.block k e
      have := hq.head
      unfold Blk at this
      rw [hc] at this
      cases this
    · exact ha k (by simpa using hm) e
  · obtain ⟨bs, hb⟩ := h.bod hu
    exact hq.away hb k e
/-- A session, its copy, and the document's two. -/
structure Qd (w W : World) (b : Nat) (v : Value) (ws : List Value) (r : Nat) (rv : Value) (rs : List Value) (P : Ps) (c : Nat) (vc : Value) (wc : List Value) (Q : Ps) (q : Nat) (vq : Value) (wq : List Value) (R : Ps) : Prop where
  s : Sm w W b v ws P
  rx : Rx W r rv rs P
  cp : Sm w W c vc wc Q
  qx : Rx W q vq wq R
  qge : w.heap.size ≤ q ∧ ∀ i, vq.ownBlock = some i → w.heap.size ≤ i
  cb : c ≠ b
  qr : q ≠ r
  a1 : Apt vc v
  a2 : Apt vc rv
  a3 : Apt vc vq
  a4 : Apt vq v
  a5 : Apt vq rv
theorem Qd.step {w W W' : World} {b : Nat} {v : Value} {ws : List Value} {r : Nat} {rv : Value} {rs : List Value} {P : Ps} {c : Nat} {vc : Value} {wc : List Value} {Q : Ps} {q : Nat} {vq : Value} {wq : List Value} {R : Ps} (h : Qd w W b v ws r rv rs P c vc wc Q q vq wq R) (hk : Kept [] W W') : Qd w W' b v ws r rv rs P c vc wc Q q vq wq R := ⟨h.s.step hk, h.rx.kept0 hk, h.cp.step hk, h.qx.kept0 hk, h.qge, h.cb, h.qr, h.a1, h.a2, h.a3, h.a4, h.a5⟩
theorem Qd.mutC {w W W' : World} {b : Nat} {v : Value} {ws : List Value} {r : Nat} {rv : Value} {rs : List Value} {P : Ps} {c : Nat} {vc vc' : Value} {wc wc' : List Value} {Q Q' : Ps} {q : Nat} {vq : Value} {wq : List Value} {R : Ps} (h : Qd w W b v ws r rv rs P c vc wc Q q vq wq R) (g : SR W c vc wc W' vc' wc' Q') : Qd w W' b v ws r rv rs P c vc' wc' Q' q vq wq R :=
  ⟨h.s.other g h.cp ⟨h.cb, h.a1⟩, h.rx.otherS g h.cp.sx h.a2, h.cp.mut g, h.qx.otherS g h.cp.sx h.a3, h.qge, h.cb, h.qr, h.a1.mut g.own h.s.sx.lt.2.1, h.a2.mut g.own h.rx.lt.2.1, h.a3.mut g.own h.qx.lt.2.1, h.a4, h.a5⟩
theorem Qd.mutQ {w W W' : World} {b : Nat} {v : Value} {ws : List Value} {r : Nat} {rv : Value} {rs : List Value} {P : Ps} {c : Nat} {vc : Value} {wc : List Value} {Q : Ps} {q : Nat} {vq vq' : Value} {wq wq' : List Value} {R R' : Ps} (h : Qd w W b v ws r rv rs P c vc wc Q q vq wq R) (g : RR W q vq wq W' vq' wq' R') : Qd w W' b v ws r rv rs P c vc wc Q q vq' wq' R' := by
  have hk : Kept [] w W' := h.s.k.fresh g.kept (fun i hi hl => by
    rcases List.mem_cons.1 hi with rfl | hi
    · have := h.qge.1; omega
    · have := h.qge.2 i (by simpa using hi); omega)
  refine ⟨⟨h.s.sx.otherR g h.qx h.a4, hk, h.s.ge⟩, h.rx.otherR g h.qx h.qr h.a5, ⟨h.cp.sx.otherR g h.qx h.a3.symm, hk, h.cp.ge⟩, g.sx, ⟨h.qge.1, fun i hi => ?_⟩, h.cb, h.qr, h.a1, h.a2, (h.a3.symm.mut g.own h.cp.sx.lt.2.1).symm, h.a4.mut g.own h.s.sx.lt.2.1, h.a5.mut g.own h.rx.lt.2.1⟩
  rcases g.own i hi with h1 | h1
  · exact h.qge.2 i h1
  · have := h.s.k.size; omega
theorem come_me (P : Ps) (d : Dg) : (P.come d).1.me = P.me := by
  unfold Ps.come
  split
  · rfl
  · split
    · rfl
    · split <;> rfl
theorem come_oth (P : Ps) (d : Dg) : (P.come d).1.oth = P.oth := by
  unfold Ps.come
  split
  · rfl
  · split
    · rfl
    · split <;> rfl
theorem come_view (P : Ps) (d : Dg) : (P.come d).1.view = P.view := by
  unfold Ps.come
  split
  · rfl
  · split
    · rfl
    · split <;> rfl
/-- What was done since. -/
def Ext (P Q : Ps) : Prop := Q.me = P.me ∧ Q.oth = P.oth ∧ Q.view = P.view ∧ ∃ t, Q.sent = P.sent ++ t
theorem Ext.refl (P : Ps) : Ext P P := ⟨rfl, rfl, rfl, [], by simp⟩
theorem Ext.one {P Q : Ps} (h : Ext P Q) (x : St1) : Ext P (Q.one x) := by
  obtain ⟨h1, h2, h3, t, h4⟩ := h
  unfold Ps.one
  split
  · unfold Ps.send Ps.put
    split
    · exact ⟨h1, h2, h3, t, h4⟩
    · exact ⟨h1, h2, h3, t ++ [x.y.bs], by simp [h4]⟩
  · split
    · exact ⟨h1, h2, h3, t, h4⟩
    · split
      · exact ⟨h1, h2, h3, t, h4⟩
      · split
        · have hs := come_sent Q x.d
          refine ⟨?_, ?_, ?_, t, by rw [hs]; exact h4⟩
          · rw [← h1]; exact come_me Q x.d
          · rw [← h2]; exact come_oth Q x.d
          · rw [← h3]; exact come_view Q x.d
        · exact ⟨h1, h2, h3, t, h4⟩
theorem same_yes {P Q : Ps} (h : Ext P Q) (h1 : P.known = Q.known) (h2 : P.told = Q.told) (h3 : P.got = Q.got) (h4 : P.owes = Q.owes) (h5 : P.sent.length = Q.sent.length) : sameB P Q = true := by
  obtain ⟨e1, e2, e3, t, e4⟩ := h
  have ht : t = [] := by have := congrArg List.length e4; rw [List.length_append] at this; exact List.length_eq_zero_iff.1 (by omega)
  subst ht
  rw [List.append_nil] at e4
  unfold sameB stEq
  simp [e1, e2, e3, e4, h1, h2, h3, h4]
theorem same_no {P Q : Ps} (h : ¬ (P.known = Q.known ∧ P.told = Q.told ∧ P.got = Q.got ∧ P.owes = Q.owes ∧ (P.known ≤ P.sent.length → Q.known ≤ Q.sent.length → P.sent.length = Q.sent.length))) : sameB P Q = false := by
  cases hs : sameB P Q with
  | false => rfl
  | true =>
    exfalso
    apply h
    unfold sameB stEq at hs
    simp only [Bool.and_eq_true, decide_eq_true_eq] at hs
    obtain ⟨⟨_, _, _, h4, h5, h6, h7⟩, h8⟩ := hs
    refine ⟨by omega, by omega, h6, h7, fun a b => ?_⟩
    have := congrArg List.length h8
    rw [List.length_drop, List.length_drop] at this
    omega
section
variable {o : Oper} {a : Act} {w : World} {K : Act → World → Prop} {Q : Exit → Act → World → Prop}
theorem o_eqlT2 (x y : Operand) (ho : o.op = .binOp .eql 2 x y 2) (m n : Int) (r : Bool) (hr : decide (m = n) = r) (hx : a.eval x = .int .i64 m) (hy : a.eval y = .int .i64 n) (h : K (a.put o.dst (.bool r)) w) : o.wp Try.prog a w K Q := by
  have hb : (m == n) = r := by rw [← hr]; rfl
  unfold Oper.wp execOp
  simp only [ho, hx, hy]
  simp [go_sem, hb]
  exact h
theorem o_eqlT3 (x y : Operand) (ho : o.op = .binOp .eql 3 x y 3) (m n : Int) (r : Bool) (hr : decide (m = n) = r) (hx : a.eval x = .int .i64 m) (hy : a.eval y = .int .i64 n) (h : K (a.put o.dst (.bool r)) w) : o.wp Try.prog a w K Q := by
  have hb : (m == n) = r := by rw [← hr]; rfl
  unfold Oper.wp execOp
  simp only [ho, hx, hy]
  simp [go_sem, hb]
  exact h
theorem o_eqlT4 (x y : Operand) (ho : o.op = .binOp .eql 4 x y 4) (m n : Bool) (r : Bool) (hr : decide (m = n) = r) (hx : a.eval x = .bool m) (hy : a.eval y = .bool n) (h : K (a.put o.dst (.bool r)) w) : o.wp Try.prog a w K Q := by
  have hb : (m == n) = r := by rw [← hr]; rfl
  unfold Oper.wp execOp
  simp only [ho, hx, hy]
  simp [go_sem, hb]
  exact h
end
theorem row32 : Row 32 8 := ⟨_, Try.underlying32, rfl, by kernel_rfl⟩
def zR : List Value := [.int .i64 0, .int .i64 0, .int .i64 0, .slice none 0 0, .int .i64 0, .int .i64 0, .int .i64 0, .bool false]
theorem alloc32 (w : World) : (Instr.alloc 32 true (.tuple #[])).run Try.prog w = .ok (P0 w.heap.size) (w.alloc (.cells zR.toArray 32)) := by kernel_rfl
theorem R_one {P : Ps} {v : Value} (h : v.oneCell' = true) : ∀ u ∈ P.R v, u.oneCell' = true := by
  intro u hu
  simp only [Ps.R, List.mem_cons, List.not_mem_nil, or_false] at hu
  rcases hu with rfl | rfl | rfl | rfl | rfl | rfl | rfl | rfl
  · rfl
  · rfl
  · rfl
  · exact h
  · rfl
  · rfl
  · rfl
  · rfl
theorem qd_new {w W9 W10 W11 : World} {b : Nat} {v : Value} {ws : List Value} {r : Nat} {rv : Value} {rs : List Value} {P : Ps} {c : Nat} {vc : Value} {q : Nat} {vq : Value} (h : Du w W10 b v ws P r rv rs P) (hc : Sm w W10 c vc ws P) (hO : W10.ownsRow W9.heap.size 33 1 vq rs.length rs) (hB : Blk W11 q 32 (P.R vq)) (hk : Kept [q] W10 W11) (hQ : Blk W10 q 32 (P.R rv)) (hg : w.heap.size ≤ q) (hqr : q ≠ r) (hcb : c ≠ b) (h1 : Apt vc v) (h2 : Apt vc rv) (hn : (∀ k, v.ownBlock = some k → k < W9.heap.size) ∧ (∀ k, rv.ownBlock = some k → k < W9.heap.size) ∧ (∀ k, vc.ownBlock = some k → k < W9.heap.size) ∧ w.heap.size ≤ W9.heap.size) : Qd w W11 b v ws r rv rs P c vc ws P q vq rs P := by
  have hno : ∀ (p T : Nat) (cs : Array Value) (q' : Nat × Nat), T ≠ 32 → W10.heap[p]? = some (Obj.cells cs T q') → p ∉ [q] := fun p T cs q' hT hp hm => by
    simp at hm
    subst hm
    unfold Blk at hQ
    rw [hQ] at hp
    cases hp
    exact hT rfl
  have hS : ∀ {b' : Nat} {v' : Value} {ws' : List Value} {P' : Ps}, Sx W10 b' v' ws' P' → Sx W11 b' v' ws' P' := fun hs => hs.kept hk (hno _ _ _ _ (by decide) hs.head) (fun k e => by obtain ⟨cs, hc⟩ := hs.row.block k e; exact hno _ _ _ _ (by decide) hc) (fun u hu k e => by obtain ⟨bs, hb⟩ := hs.bod hu; obtain ⟨cs, hc⟩ := hb.block k e; exact hno _ _ _ _ (by decide) hc)
  have hK : Kept [] w W11 := h.k.fresh hk (fun i hi hl => by simp at hi; omega)
  have hbod : ∀ u bs, Bod W10 u bs → Bod W11 u bs := fun u bs hb => hb.kept hk (fun k e => by obtain ⟨cs, hc⟩ := hb.block k e; exact hno _ _ _ _ (by decide) hc)
  have hOW : W11.ownsRow W9.heap.size 33 1 vq rs.length rs := owns_keptX hO hk (fun k e => by obtain ⟨cs, hc⟩ := owns_block hO k e; exact hno _ _ _ _ (by decide) hc)
  have hvq : ∀ k, vq.ownBlock = some k → W9.heap.size ≤ k := fun k e => (hO.lt k e).1
  refine ⟨⟨hS h.sm.sx, hK, h.sm.ge⟩, ?_, ⟨hS hc.sx, hK, hc.ge⟩, ⟨h.rx.ok, hB, own_O (base := W9.heap.size) hOW, h.rx.len, fun i u bs hu hs => hbod u bs (h.rx.body i u bs hu hs)⟩, ⟨hg, fun i hi => by have h9 := hvq i hi; have h8 := hn.2.2.2; omega⟩, hcb, hqr, h1, h2, ?_, ?_, ?_⟩
  · exact h.rx.kept hk (by simpa using fun e => hqr e.symm) (fun k e => by obtain ⟨cs, hc⟩ := h.rx.row.block k e; exact hno _ _ _ _ (by decide) hc) (fun u hu k e => by obtain ⟨bs, hb⟩ := h.rx.bod hu; obtain ⟨cs, hc⟩ := hb.block k e; exact hno _ _ _ _ (by decide) hc)
  · exact fun k e e2 => by have h8 := hn.2.2.1 k e; have h9 := hvq k e2; omega
  · exact fun k e e2 => by have h8 := hn.1 k e2; have h9 := hvq k e; omega
  · exact fun k e e2 => by have h8 := hn.2.1 k e2; have h9 := hvq k e; omega
theorem OwnO.one {W : World} {v : Value} {xs : List Value} (h : OwnO W v xs) : v.oneCell' = true := by
  obtain ⟨ao, c, rfl, _⟩ := h.sl
  rfl
set_option maxHeartbeats 8000000 in
theorem copies7 (ao : Option Addr) (m c0 : Nat) (X : List St1) (ao2 : Option Addr) (m2 c2 : Nat) (Y : List St1) (w : World) (hX : Sts w w.heap.size ao m X) (hY : Sts w w.heap.size ao2 m2 Y) : Calls Try.prog 7 #[.slice ao m c0, .slice ao2 m2 c2] w fun e w' => e = .returned (.bool true) ∧ Kept [] w w' := by
  have HX := hide hX
  have HY := hide hY
  clear hX hY
  by_cases hm : m ≤ 40
  · have hmI : ¬ (40 : Int) < (m : Int) := by omega
    by_cases hm2 : m2 ≤ 40
    · have hmI2 : ¬ (40 : Int) < (m2 : Int) := by omega
      go_enter Try.func7, Try.ntmps7
      go_wp2_with (
        first
        | (go_at_call 9
           refine (new_yes 0 1 5 _ (by decide)).mono ?_
           rintro e V1 ⟨b, rfl, e1, hs, hk⟩
           have MA : Hid (Sm w V1 b (.slice none 0 0) [] (newP 0 1 5)) := ⟨hs, hk, by omega, fun i h => by cases h⟩
           clear e1 hs hk)
        | (refine wpBuildP (by rfl) #[(0, .const (.int .i64 0)), (1, .const (.int .i64 1)), (2, .const (.int .i64 5))] (by rfl) #[(0, .int .i64 0), (1, .int .i64 1), (2, .int .i64 5)] (by kernel_rfl) ((newP 0 1 5).R (.slice none 0 0)) (build32 _ _ _ _) ?_)
        | (refine wpBoxV (by rfl) (.tmp 26) (by rfl) ((newP 0 1 5).R (.slice none 0 0)) (by kernel_rfl) ?_
           intro V3 r e3 B3 K3
           have DU : Hid (Du w V3 b (.slice none 0 0) [] (newP 0 1 5) r (.slice none 0 0) [] (newP 0 1 5)) := ⟨(unhide MA).step K3, Rx.new (by decide) B3, ⟨by have := (unhide MA).k.size; omega, fun i h => by cases h⟩, fun k e => by cases e⟩
           clear e3 B3 K3 MA))
      go_loopw [8] (fun i wr => ∃ (k : Nat) (v : Value) (ws : List Value) (rv : Value) (rs : List Value) (P : Ps), k ≤ m ∧ k ≤ 40 ∧ i = .int .i64 k ∧ Hid (Du w wr b v ws P r rv rs P) ∧ Hid (P.sent.length ≤ k)) (fun i _ => m - (intOf i).toNat)
      case atStart => exact ⟨0, _, _, _, _, _, by omega, by omega, rfl, DU, hide (by simp [newP])⟩
      case round =>
        clear DU
        obtain ⟨k, v, ws, rv, rs, P, hk, hk40, rfl, DU, HPN⟩ := hrel
        have HXw := hide (Sts.kept0 (unhide HX) (unhide DU).k)
        by_cases hlt : k < m
        · obtain ⟨x, hx⟩ : ∃ x, X[k]? = some x := ⟨_, List.getElem?_eq_getElem (by rw [(unhide HX).len]; exact hlt)⟩
          obtain ⟨gx, offx, rfl, hgx, hl⟩ := (unhide HXw).lies (by intro e; rw [e] at hx; simp at hx)
          have HRX := hide (hl k x hx)
          have HXO := hide ((unhide HX).ok x (List.mem_of_getElem? hx))
          have HRXA : Hid (∀ W : World, Kept [] w W → W.rangeAt gx (offx + k * 8) x.C) := fun W hkW => by
            obtain ⟨g9, o9, e9, _, hl9⟩ := (Sts.kept0 (unhide HX) hkW).lies (by intro e; rw [e] at hx; simp at hx)
            cases e9
            exact hl9 k x hx
          have hltI : (k : Int) < (m : Int) := by omega
          have HPL : Hid (P.sent.length < 1000) := by have h1 := unhide HPN; exact (by omega : P.sent.length < 1000)
          clear hl hx HXw hgx
          go_wp2_with (
            first
            | (refine wpLoadA row37 (by rfl) (.tmp 39) (by rfl) gx (offx + k * 8) (by kernel_rfl) x.C rfl (unhide HRX) ?_
               refine Stp.go ?_))
          constructor
          go_wp2_with (
            first
            | (go_at_call 29
               refine (one29 w _ b v ws P x (unhide DU).sm ((unhide HXO).kept (unhide DU).k (by simp)) (unhide HPL)).mono ?_
               rintro e V4 ⟨rfl, v4, ws4, hR⟩
               replace DU := hide ((unhide DU).mutS hR)
               replace HRX := hide (unhide HRXA _ (unhide DU).k)
               clear hR
               refine Stp.go ?_))
          constructor
          go_wp2_with (
            first
            | (refine wpLoadA row37 (by rfl) (.tmp 45) (by rfl) gx (offx + k * 8) (by kernel_rfl) x.C rfl (unhide HRX) ?_
               refine Stp.go ?_))
          constructor
          go_wp2_with (
            first
            | (go_at_call 30
               refine (one30 w _ r rv rs P x (unhide DU).rx (unhide DU).rge ((unhide HXO).kept (unhide DU).k (by simp)) (unhide HPL)).mono ?_
               rintro e V5 ⟨rfl, rv5, rs5, hR⟩
               replace DU := hide ((unhide DU).mutR hR)
               replace HPN : Hid ((P.one x).sent.length ≤ k + 1) := by have h1 := one_len P x; have h2 := unhide HPN; exact (by omega : (P.one x).sent.length ≤ k + 1)
               clear hR HRX))
          go_roundw
          case rel => exact ⟨k + 1, v4, ws4, rv5, rs5, P.one x, by omega, by omega, by go_num, DU, HPN⟩
          case measure => simp [intOf]; omega
        · have hltI : ¬ (k : Int) < (m : Int) := by omega
          clear HXw
          go_wp2_with (
            first
            | (go_at_call 27
               refine (copy27 b v ws P _ (unhide DU).sm.sx).mono ?_
               rintro e V6 ⟨c, vc, rfl, hs2, hg1, hg2, hk⟩
               have MC : Hid (Sm w V6 c vc ws P) := ⟨hs2, (unhide DU).k.trans hk, by have := (unhide DU).k.size; omega, fun i h => by have := hg2 i h; have := (unhide DU).k.size; omega⟩
               have HCB : Hid (c ≠ b) := by have h1 := (unhide DU).sm.sx.lt.1; exact (by omega : c ≠ b)
               have HA1 : Hid (Apt vc v) := fun i e1 e2 => by have := (unhide DU).sm.sx.lt.2.1 i e2; have := hg2 i e1; omega
               have HA2 : Hid (Apt vc rv) := fun i e1 e2 => by have := (unhide DU).rx.lt.2.1 i e2; have := hg2 i e1; omega
               replace DU := hide ((unhide DU).step hk)
               clear hs2 hg1 hg2 hk
               refine Stp.go ?_))
          constructor
          go_wp2_with (
            first
            | (go_at_call 28
               refine (k_same b c _ _ _ _ P P true (sameB_refl P) _ (unhide DU).sm.sx (unhide MC).sx).mono ?_
               rintro e V7 ⟨rfl, hk⟩
               replace DU := hide ((unhide DU).step hk)
               replace MC := hide ((unhide MC).step hk)
               clear hk
               refine Stp.go ?_))
          constructor
          go_wp2_with (
            first
            | (go_at_call 28
               refine (k_same c b _ _ _ _ P P true (sameB_refl P) _ (unhide MC).sx (unhide DU).sm.sx).mono ?_
               rintro e V8 ⟨rfl, hk⟩
               replace DU := hide ((unhide DU).step hk)
               replace MC := hide ((unhide MC).step hk)
               clear hk
               refine Stp.go ?_))
          constructor
          go_wp2_with (
            first
            | (refine wpLoadA row32 (by rfl) (.tmp 61) (by rfl) r 0 (by kernel_rfl) (P.R rv) rfl (unhide DU).rx.head.range ?_
               refine Stp.go ?_))
          constructor
          go_wp2_with (
            first
            | (refine wpNew row32 zR rfl alloc32 10 (by rfl) (by rfl) (by rfl) (.tmp 62) (by rfl) (by rfl) (by rfl) (P.R rv) rfl (R_one (unhide DU).rx.row.one) (by kernel_rfl) (by kernel_rfl) ?_
               intro V9 q e9 B9 K9
               have HQH := hide B9
               have HQG : Hid (w.heap.size ≤ q ∧ V8.heap.size ≤ q) := by have h1 := (unhide DU).k.size; exact ⟨by omega, by omega⟩
               have HQR : Hid (q ≠ r) := by have h1 := (unhide DU).rx.lt.1; exact (by omega : q ≠ r)
               replace DU := hide ((unhide DU).step K9)
               replace MC := hide ((unhide MC).step K9)
               clear e9 B9 K9
               obtain ⟨ro, rc, hrv, hrc, hrn⟩ := (unhide DU).rx.sl
               have HRV := hide hrv
               have hr3 := fits_cell (unhide DU).rx.head 3 _ rfl
               rw [hrv] at hr3
               have HVV : Hid (Vals V9 ro rs.length rc rs) := by have h1 := (unhide DU).rx.row; rw [hrv] at h1; exact h1.vals
               have HV9 : Hid ((∀ k, v.ownBlock = some k → k < V9.heap.size) ∧ (∀ k, rv.ownBlock = some k → k < V9.heap.size) ∧ (∀ k, vc.ownBlock = some k → k < V9.heap.size) ∧ w.heap.size ≤ V9.heap.size) := ⟨(unhide DU).sm.sx.lt.2.1, (unhide DU).rx.lt.2.1, (unhide MC).sx.lt.2.1, (unhide DU).k.size⟩
               have HRN : Hid (ro = none → rs.length = 0 ∧ rc = 0) := fun e => by have h1 := hrn e; exact ⟨by omega, h1⟩
               have HON : Hid (∀ u ∈ rs, u.oneCell' = true) := fun u hu => by obtain ⟨bs, hb⟩ := (unhide DU).rx.bod hu; exact hb.one
               have HRL : Hid (rs.length ≤ 1000) := by have h1 := (unhide DU).rx.len; have h2 := (unhide DU).rx.ok.many; exact (by omega : rs.length ≤ 1000)
               clear hrv hrc hrn
               refine Stp.go ?_))
          constructor
          go_wp2_with (
            first
            | (at_builtin; refine wpAppW (T := 30) (e := 33) (z := .slice none 0 0) (by8 := 24) Try.sl30 Try.info33 rfl (by decide) (by rfl) (.const (.slice none 0 0)) (.tmp 66) (by rfl) V9.heap.size (.slice none 0 0) [] rs (by rfl) ro rs.length rc (by kernel_rfl) (unhide HRN) (unhide HVV) (unhide HON) (World.ownsRow_nil _ _ _ _) (by have := unhide HRL; simp; omega) (Nat.le_refl _) ?_
               intro vq V10 hO10 g10
               have hk10 : Kept [] V9 V10 := Kept.of_grown g10 (fun k e => by cases e)
               rw [List.nil_append] at hO10
               have HOQ := hide hO10
               obtain ⟨qo, qc, hqv⟩ := owns_slN hO10
               have HQV := hide hqv
               replace DU := hide ((unhide DU).step hk10)
               replace MC := hide ((unhide MC).step hk10)
               replace HQH := hide ((unhide HQH).kept hk10 (by simp))
               clear hO10 g10 hk10 hr3 hqv
               refine Stp.go ?_))
          constructor
          go_wp2_with (
            first
            | (refine wpStoreV (T := 30) (b := q) (i := 3) (v := vq) (by rfl) (.tmp 68) (.tmp 67) (by rfl) (by rfl) (by kernel_rfl) (by kernel_rfl) 32 _ (unhide HQH) (by rw [unhide HQV]; exact st30 _ _ _ _ _ _ _ _ (unhide HQH) (by simp [Ps.R])) ?_
               intro V11 B11 K11
               have QD : Hid (Qd w V11 b v ws r rv rs P c vc ws P q vq rs P) := qd_new (unhide DU) (unhide MC) (unhide HOQ) B11 K11 (unhide HQH) (unhide HQG).1 (unhide HQR) (unhide HCB) (unhide HA1) (unhide HA2) (unhide HV9)
               clear B11 K11 DU MC HOQ HQH
               refine Stp.go ?_))
          constructor
          have HEX : Hid (Ext P P) := Ext.refl P
          have HPN2 : Hid (P.sent.length ≤ 40) := by have h1 := unhide HPN; exact (by omega : P.sent.length ≤ 40)
          clear hlt hk hk40 hltI HPN
          go_wp2_with fail
          go_loopw [11] (fun i wr => ∃ (k : Nat) (vc : Value) (wc : List Value) (vq : Value) (wq : List Value) (Q : Ps), k ≤ m2 ∧ k ≤ 40 ∧ i = .int .i64 k ∧ Hid (Qd w wr b v ws r rv rs P c vc wc Q q vq wq Q) ∧ Hid (Ext P Q) ∧ Hid (Q.sent.length ≤ 40 + k)) (fun i _ => m2 - (intOf i).toNat)
          case atStart => exact ⟨0, _, _, _, _, _, by omega, by omega, rfl, QD, HEX, hide (by have := unhide HPN2; omega)⟩
          case round =>
            clear QD HEX HQV HA1 HA2
            obtain ⟨k, vc, wc, vq, wq, Q, hk, hk40, rfl, QD, HEX, HQN⟩ := hrel
            by_cases hlt : k < m2
            · obtain ⟨x, hx⟩ : ∃ x, Y[k]? = some x := ⟨_, List.getElem?_eq_getElem (by rw [(unhide HY).len]; exact hlt)⟩
              obtain ⟨gx, offx, rfl, hgx, hl⟩ := (Sts.kept0 (unhide HY) (unhide QD).s.k).lies (by intro e; rw [e] at hx; simp at hx)
              have HRX := hide (hl k x hx)
              have HXO := hide ((unhide HY).ok x (List.mem_of_getElem? hx))
              have HRXA : Hid (∀ W : World, Kept [] w W → W.rangeAt gx (offx + k * 8) x.C) := fun W hkW => by
                obtain ⟨g9, o9, e9, _, hl9⟩ := (Sts.kept0 (unhide HY) hkW).lies (by intro e; rw [e] at hx; simp at hx)
                cases e9
                exact hl9 k x hx
              have hltI : (k : Int) < (m2 : Int) := by omega
              have HPL : Hid (Q.sent.length < 1000) := by have h1 := unhide HQN; exact (by omega : Q.sent.length < 1000)
              clear hl hx hgx
              go_wp2_with (
                first
                | (refine wpLoadA row37 (by rfl) (.tmp 78) (by rfl) gx (offx + k * 8) (by kernel_rfl) x.C rfl (unhide HRX) ?_
                   refine Stp.go ?_))
              constructor
              go_wp2_with (
                first
                | (go_at_call 29
                   refine (one29 w _ c vc wc Q x (unhide QD).cp ((unhide HXO).kept (unhide QD).s.k (by simp)) (unhide HPL)).mono ?_
                   rintro e V12 ⟨rfl, v4, ws4, hR⟩
                   replace QD := hide ((unhide QD).mutC hR)
                   replace HRX := hide (unhide HRXA _ (unhide QD).s.k)
                   clear hR
                   refine Stp.go ?_))
              constructor
              go_wp2_with (
                first
                | (refine wpLoadA row37 (by rfl) (.tmp 83) (by rfl) gx (offx + k * 8) (by kernel_rfl) x.C rfl (unhide HRX) ?_
                   refine Stp.go ?_))
              constructor
              go_wp2_with (
                first
                | (go_at_call 30
                   refine (one30 w _ q vq wq Q x (unhide QD).qx (unhide QD).qge ((unhide HXO).kept (unhide QD).s.k (by simp)) (unhide HPL)).mono ?_
                   rintro e V13 ⟨rfl, rv5, rs5, hR⟩
                   replace QD := hide ((unhide QD).mutQ hR)
                   replace HQN : Hid ((Q.one x).sent.length ≤ 40 + (k + 1)) := by have h1 := one_len Q x; have h2 := unhide HQN; exact (by omega : (Q.one x).sent.length ≤ 40 + (k + 1))
                   clear hR HRX))
              go_roundw
              case rel => exact ⟨k + 1, v4, ws4, rv5, rs5, Q.one x, by omega, by omega, by go_num, QD, hide ((unhide HEX).one x), HQN⟩
              case measure => simp [intOf]; omega
            · have hltI : ¬ (k : Int) < (m2 : Int) := by omega
              obtain ⟨qo, qc, hqv, _, _⟩ := (unhide QD).qx.sl
              have HQV := hide hqv
              have HRH := hide (unhide QD).rx.head
              have HQH := hide (unhide QD).qx.head
              have HLE : Hid ((rs.length : Int) - (P.known : Int) = ws.length ∧ rs.length ≤ 1000 ∧ P.known ≤ rs.length) := by have h1 := (unhide QD).s.sx.len; have h2 := (unhide QD).rx.len; have h3 := (unhide QD).rx.ok.many; exact ⟨by omega, by omega, by omega⟩
              clear hqv
              go_wp2_with fail
              cases g1 : decide ((P.known : Int) = (Q.known : Int)) with
              | false =>
                have H1 := hide g1
                have HSAME : Hid (sameB P Q = false) := same_no (by
                  rintro ⟨z1, z2, z3, z4, z5⟩
                  simp [z1] at g1)
                clear g1
                refine wp_region_any mixed (wpAny_tq 63 rfl (by kernel_rfl) [some (P0 r), some (P0 r), some (.pointer (some ⟨r, 4, none⟩)), some (.int .i64 P.known), some (.pointer (some ⟨q, 4, none⟩)), some (.int .i64 Q.known), some (.bool false), some (.bool false), none, none, none, none, none, none, none, none, none, none, none, none, none, none, none, some (.bool false), some (.bool false), none, none, none, none, none, none, none, some (.bool false), some (.bool false), none, none, none, none, none, none, none, some (.bool false), some (.bool false), none, none, none, none, none, none, none, some (.bool false), some (.bool false), none, none, none, none, none, none, none, none, none, some (.bool false), some (.bool false)] rfl (by kernel_rfl) (by kernel_rfl) ?_ ?_)
                · intro i o' hi hsk ho a' w2 hout hin hk2
                  replace hk2 : Kept [] wr w2 := ⟨hk2.os, hk2.tape, hk2.output, hk2.size, hk2.block⟩
                  match i, ho, hsk with
                  | 0, ho, hsk =>
                    obtain rfl := Option.some.inj ho
                    exact wp_move (.tmp 7) rfl _ ((hout 7 (by kernel_rfl)).trans rfl) ⟨_, rfl, tq_is _ _ _ _ rfl, Kept.refl _ _, fun _ _ _ _ _ => trivial⟩
                  | 1, ho, hsk =>
                    obtain rfl := Option.some.inj ho
                    have e0 : a'.eval (.tmp 86) = P0 r := is_tq (hin 0 86 (by kernel_rfl) (by kernel_rfl)) rfl
                    exact o_nil (.tmp 86) rfl _ e0 ⟨_, rfl, tq_is _ _ _ _ rfl, Kept.refl _ _, fun _ _ _ _ _ => trivial⟩
                  | 2, ho, hsk =>
                    obtain rfl := Option.some.inj ho
                    have e0 : a'.eval (.tmp 87) = P0 r := is_tq (hin 1 87 (by kernel_rfl) (by kernel_rfl)) rfl
                    exact o_fld32_4 (.tmp 87) rfl r e0 ⟨_, rfl, tq_is _ _ _ _ rfl, Kept.refl _ _, fun _ _ _ _ _ => trivial⟩
                  | 3, ho, hsk =>
                    obtain rfl := Option.some.inj ho
                    have e0 : a'.eval (.tmp 88) = .pointer (some ⟨r, 4, none⟩) := is_tq (hin 2 88 (by kernel_rfl) (by kernel_rfl)) rfl
                    exact o_load3 (.tmp 88) rfl _ _ e0 (fits_cell ((unhide HRH).kept hk2 (by simp)) 4 _ rfl) ⟨_, rfl, tq_is _ _ _ _ rfl, Kept.refl _ _, fun _ _ _ _ _ => trivial⟩
                  | 4, ho, hsk =>
                    obtain rfl := Option.some.inj ho
                    exact o_fld32_4 (.tmp 10) rfl q ((hout 10 (by kernel_rfl)).trans rfl) ⟨_, rfl, tq_is _ _ _ _ rfl, Kept.refl _ _, fun _ _ _ _ _ => trivial⟩
                  | 5, ho, hsk =>
                    obtain rfl := Option.some.inj ho
                    have e0 : a'.eval (.tmp 90) = .pointer (some ⟨q, 4, none⟩) := is_tq (hin 4 90 (by kernel_rfl) (by kernel_rfl)) rfl
                    exact o_load3 (.tmp 90) rfl _ _ e0 (fits_cell ((unhide HQH).kept hk2 (by simp)) 4 _ rfl) ⟨_, rfl, tq_is _ _ _ _ rfl, Kept.refl _ _, fun _ _ _ _ _ => trivial⟩
                  | 6, ho, hsk =>
                    obtain rfl := Option.some.inj ho
                    have e0 : a'.eval (.tmp 89) = .int .i64 P.known := is_tq (hin 3 89 (by kernel_rfl) (by kernel_rfl)) rfl
                    have e1 : a'.eval (.tmp 91) = .int .i64 Q.known := is_tq (hin 5 91 (by kernel_rfl) (by kernel_rfl)) rfl
                    exact o_eqlT3 (.tmp 89) (.tmp 91) rfl _ _ false (unhide H1) e0 e1 ⟨_, rfl, tq_is _ _ _ _ rfl, Kept.refl _ _, fun _ _ _ _ _ => trivial⟩
                  | 7, ho, hsk =>
                    obtain rfl := Option.some.inj ho
                    have e0 : a'.eval (.tmp 92) = .bool false := is_tq (hin 6 92 (by kernel_rfl) (by kernel_rfl)) rfl
                    exact wp_move (.tmp 92) rfl _ e0 ⟨_, rfl, tq_is _ _ _ _ rfl, Kept.refl _ _, fun _ _ _ _ _ => trivial⟩
                  | 8, ho, hsk =>
                    cases hsk
                  | 9, ho, hsk =>
                    cases hsk
                  | 10, ho, hsk =>
                    cases hsk
                  | 11, ho, hsk =>
                    cases hsk
                  | 12, ho, hsk =>
                    cases hsk
                  | 13, ho, hsk =>
                    cases hsk
                  | 14, ho, hsk =>
                    cases hsk
                  | 15, ho, hsk =>
                    cases hsk
                  | 16, ho, hsk =>
                    cases hsk
                  | 17, ho, hsk =>
                    cases hsk
                  | 18, ho, hsk =>
                    cases hsk
                  | 19, ho, hsk =>
                    cases hsk
                  | 20, ho, hsk =>
                    cases hsk
                  | 21, ho, hsk =>
                    cases hsk
                  | 22, ho, hsk =>
                    cases hsk
                  | 23, ho, hsk =>
                    obtain rfl := Option.some.inj ho
                    have e0 : a'.eval (.tmp 93) = .bool false := is_tq (hin 7 93 (by kernel_rfl) (by kernel_rfl)) rfl
                    exact o_pickN (.tmp 93) (.tmp 108) rfl e0 ⟨_, rfl, tq_is _ _ _ _ rfl, Kept.refl _ _, fun _ _ _ _ _ => trivial⟩
                  | 24, ho, hsk =>
                    obtain rfl := Option.some.inj ho
                    have e0 : a'.eval (.tmp 109) = .bool false := is_tq (hin 23 109 (by kernel_rfl) (by kernel_rfl)) rfl
                    exact wp_move (.tmp 109) rfl _ e0 ⟨_, rfl, tq_is _ _ _ _ rfl, Kept.refl _ _, fun _ _ _ _ _ => trivial⟩
                  | 25, ho, hsk =>
                    cases hsk
                  | 26, ho, hsk =>
                    cases hsk
                  | 27, ho, hsk =>
                    cases hsk
                  | 28, ho, hsk =>
                    cases hsk
                  | 29, ho, hsk =>
                    cases hsk
                  | 30, ho, hsk =>
                    cases hsk
                  | 31, ho, hsk =>
                    cases hsk
                  | 32, ho, hsk =>
                    obtain rfl := Option.some.inj ho
                    have e0 : a'.eval (.tmp 110) = .bool false := is_tq (hin 24 110 (by kernel_rfl) (by kernel_rfl)) rfl
                    exact o_pickN (.tmp 110) (.tmp 117) rfl e0 ⟨_, rfl, tq_is _ _ _ _ rfl, Kept.refl _ _, fun _ _ _ _ _ => trivial⟩
                  | 33, ho, hsk =>
                    obtain rfl := Option.some.inj ho
                    have e0 : a'.eval (.tmp 118) = .bool false := is_tq (hin 32 118 (by kernel_rfl) (by kernel_rfl)) rfl
                    exact wp_move (.tmp 118) rfl _ e0 ⟨_, rfl, tq_is _ _ _ _ rfl, Kept.refl _ _, fun _ _ _ _ _ => trivial⟩
                  | 34, ho, hsk =>
                    cases hsk
                  | 35, ho, hsk =>
                    cases hsk
                  | 36, ho, hsk =>
                    cases hsk
                  | 37, ho, hsk =>
                    cases hsk
                  | 38, ho, hsk =>
                    cases hsk
                  | 39, ho, hsk =>
                    cases hsk
                  | 40, ho, hsk =>
                    cases hsk
                  | 41, ho, hsk =>
                    obtain rfl := Option.some.inj ho
                    have e0 : a'.eval (.tmp 119) = .bool false := is_tq (hin 33 119 (by kernel_rfl) (by kernel_rfl)) rfl
                    exact o_pickN (.tmp 119) (.tmp 126) rfl e0 ⟨_, rfl, tq_is _ _ _ _ rfl, Kept.refl _ _, fun _ _ _ _ _ => trivial⟩
                  | 42, ho, hsk =>
                    obtain rfl := Option.some.inj ho
                    have e0 : a'.eval (.tmp 127) = .bool false := is_tq (hin 41 127 (by kernel_rfl) (by kernel_rfl)) rfl
                    exact wp_move (.tmp 127) rfl _ e0 ⟨_, rfl, tq_is _ _ _ _ rfl, Kept.refl _ _, fun _ _ _ _ _ => trivial⟩
                  | 43, ho, hsk =>
                    cases hsk
                  | 44, ho, hsk =>
                    cases hsk
                  | 45, ho, hsk =>
                    cases hsk
                  | 46, ho, hsk =>
                    cases hsk
                  | 47, ho, hsk =>
                    cases hsk
                  | 48, ho, hsk =>
                    cases hsk
                  | 49, ho, hsk =>
                    cases hsk
                  | 50, ho, hsk =>
                    obtain rfl := Option.some.inj ho
                    have e0 : a'.eval (.tmp 128) = .bool false := is_tq (hin 42 128 (by kernel_rfl) (by kernel_rfl)) rfl
                    exact o_pickN (.tmp 128) (.tmp 135) rfl e0 ⟨_, rfl, tq_is _ _ _ _ rfl, Kept.refl _ _, fun _ _ _ _ _ => trivial⟩
                  | 51, ho, hsk =>
                    obtain rfl := Option.some.inj ho
                    have e0 : a'.eval (.tmp 136) = .bool false := is_tq (hin 50 136 (by kernel_rfl) (by kernel_rfl)) rfl
                    exact wp_move (.tmp 136) rfl _ e0 ⟨_, rfl, tq_is _ _ _ _ rfl, Kept.refl _ _, fun _ _ _ _ _ => trivial⟩
                  | 52, ho, hsk =>
                    cases hsk
                  | 53, ho, hsk =>
                    cases hsk
                  | 54, ho, hsk =>
                    cases hsk
                  | 55, ho, hsk =>
                    cases hsk
                  | 56, ho, hsk =>
                    cases hsk
                  | 57, ho, hsk =>
                    cases hsk
                  | 58, ho, hsk =>
                    cases hsk
                  | 59, ho, hsk =>
                    cases hsk
                  | 60, ho, hsk =>
                    cases hsk
                  | 61, ho, hsk =>
                    obtain rfl := Option.some.inj ho
                    have e0 : a'.eval (.tmp 137) = .bool false := is_tq (hin 51 137 (by kernel_rfl) (by kernel_rfl)) rfl
                    exact o_pickN (.tmp 137) (.tmp 146) rfl e0 ⟨_, rfl, tq_is _ _ _ _ rfl, Kept.refl _ _, fun _ _ _ _ _ => trivial⟩
                  | 62, ho, hsk =>
                    obtain rfl := Option.some.inj ho
                    have e0 : a'.eval (.tmp 147) = .bool false := is_tq (hin 61 147 (by kernel_rfl) (by kernel_rfl)) rfl
                    exact wp_assignV (.tmp 147) rfl _ e0 ⟨_, rfl, tq_is _ _ _ _ rfl, Kept.refl _ _, fun _ _ _ _ _ => trivial⟩
                intro w9 hk9
                replace hk9 : Kept [] wr w9 := ⟨hk9.os, hk9.tape, hk9.output, hk9.size, hk9.block⟩
                simp only [valsQ, List.map_cons, List.map_nil, Option.getD_some, Option.getD_none, List.take_succ_cons, List.take_zero, putAll, Act.put, List.setIfInBounds_toArray, List.set_cons_succ, List.set_cons_zero]
                refine wpAny_done (by kernel_rfl) ?_ _
                replace QD := hide ((unhide QD).step hk9)
                replace HRH := hide (unhide QD).rx.head
                clear hk9 HQH
                go_wp2_with fail
                refine wp_region_any mixed (wpAny_tq 33 rfl (by kernel_rfl) [some (P0 b), some (P0 c), some (.bool false), some (.bool false), some (.bool true), some (.bool true), some (P0 b), some (.int .i64 ws.length), some (P0 r), some (P0 r), some (.pointer (some ⟨r, 3, none⟩)), some (rv), some (.int .i64 rs.length), some (P0 r), some (P0 r), some (.pointer (some ⟨r, 4, none⟩)), some (.int .i64 P.known), some (.int .i64 ws.length), some (.bool true), some (.bool true), some (.bool true), some (P0 b), some (.int .i64 P.got), some (P0 r), some (P0 r), some (.pointer (some ⟨r, 6, none⟩)), some (.int .i64 P.got), some (.bool true), some (.bool true), some (.bool true), some (.bool true), some (.bool true), some (.bool true)] rfl (by kernel_rfl) (by kernel_rfl) ?_ ?_)
                · intro i o' hi hsk ho a' w2 hout hin hk2
                  replace hk2 : Kept [] w9 w2 := ⟨hk2.os, hk2.tape, hk2.output, hk2.size, hk2.block⟩
                  match i, ho, hsk with
                  | 0, ho, hsk =>
                    obtain rfl := Option.some.inj ho
                    exact wp_move (.tmp 5) rfl _ ((hout 5 (by kernel_rfl)).trans rfl) ⟨_, rfl, tq_is _ _ _ _ rfl, Kept.refl _ _, fun _ _ _ _ _ => trivial⟩
                  | 1, ho, hsk =>
                    obtain rfl := Option.some.inj ho
                    exact wp_move (.tmp 9) rfl _ ((hout 9 (by kernel_rfl)).trans rfl) ⟨_, rfl, tq_is _ _ _ _ rfl, Kept.refl _ _, fun _ _ _ _ _ => trivial⟩
                  | 2, ho, hsk =>
                    obtain rfl := Option.some.inj ho
                    have e0 : a'.eval (.tmp 148) = P0 b := is_tq (hin 0 148 (by kernel_rfl) (by kernel_rfl)) rfl
                    have e1 : a'.eval (.tmp 149) = P0 c := is_tq (hin 1 149 (by kernel_rfl) (by kernel_rfl)) rfl
                    refine wp_callF 28 _ _ rfl #[P0 b, P0 c] (by simp [e0, e1]) (cf28 _ _) ((k_same b c _ _ _ _ P Q false (unhide HSAME) _ ((unhide QD).s.sx.kept0 hk2) ((unhide QD).cp.sx.kept0 hk2)).mono ?_)
                    rintro e w3 ⟨rfl, hk3⟩
                    exact ⟨_, rfl, _, rfl, tq_is _ _ _ _ rfl, hk3, fun _ _ _ _ _ => trivial⟩
                  | 3, ho, hsk =>
                    obtain rfl := Option.some.inj ho
                    exact wp_move (.tmp 12) rfl _ ((hout 12 (by kernel_rfl)).trans rfl) ⟨_, rfl, tq_is _ _ _ _ rfl, Kept.refl _ _, fun _ _ _ _ _ => trivial⟩
                  | 4, ho, hsk =>
                    obtain rfl := Option.some.inj ho
                    have e0 : a'.eval (.tmp 150) = .bool false := is_tq (hin 2 150 (by kernel_rfl) (by kernel_rfl)) rfl
                    have e1 : a'.eval (.tmp 151) = .bool false := is_tq (hin 3 151 (by kernel_rfl) (by kernel_rfl)) rfl
                    exact o_eqlT4 (.tmp 150) (.tmp 151) rfl _ _ true (by simp) e0 e1 ⟨_, rfl, tq_is _ _ _ _ rfl, Kept.refl _ _, fun _ _ _ _ _ => trivial⟩
                  | 5, ho, hsk =>
                    obtain rfl := Option.some.inj ho
                    have e0 : a'.eval (.tmp 152) = .bool true := is_tq (hin 4 152 (by kernel_rfl) (by kernel_rfl)) rfl
                    exact wp_move (.tmp 152) rfl _ e0 ⟨_, rfl, tq_is _ _ _ _ rfl, Kept.refl _ _, fun _ _ _ _ _ => trivial⟩
                  | 6, ho, hsk =>
                    obtain rfl := Option.some.inj ho
                    exact wp_move (.tmp 5) rfl _ ((hout 5 (by kernel_rfl)).trans rfl) ⟨_, rfl, tq_is _ _ _ _ rfl, Kept.refl _ _, fun _ _ _ _ _ => trivial⟩
                  | 7, ho, hsk =>
                    obtain rfl := Option.some.inj ho
                    have e0 : a'.eval (.tmp 154) = P0 b := is_tq (hin 6 154 (by kernel_rfl) (by kernel_rfl)) rfl
                    refine wp_callF 22 _ _ rfl #[P0 b] (by simp [e0]) (cf22 _ _) ((waits22 b v ws P _ ((unhide QD).s.sx.kept0 hk2)).mono ?_)
                    rintro e w3 ⟨rfl, q3, rfl⟩
                    exact ⟨_, rfl, _, rfl, tq_is _ _ _ _ rfl, kept_drewN _ _ _, fun _ _ _ _ _ => trivial⟩
                  | 8, ho, hsk =>
                    obtain rfl := Option.some.inj ho
                    exact wp_move (.tmp 7) rfl _ ((hout 7 (by kernel_rfl)).trans rfl) ⟨_, rfl, tq_is _ _ _ _ rfl, Kept.refl _ _, fun _ _ _ _ _ => trivial⟩
                  | 9, ho, hsk =>
                    obtain rfl := Option.some.inj ho
                    have e0 : a'.eval (.tmp 156) = P0 r := is_tq (hin 8 156 (by kernel_rfl) (by kernel_rfl)) rfl
                    exact o_nil (.tmp 156) rfl _ e0 ⟨_, rfl, tq_is _ _ _ _ rfl, Kept.refl _ _, fun _ _ _ _ _ => trivial⟩
                  | 10, ho, hsk =>
                    obtain rfl := Option.some.inj ho
                    have e0 : a'.eval (.tmp 157) = P0 r := is_tq (hin 9 157 (by kernel_rfl) (by kernel_rfl)) rfl
                    exact o_fld32_3 (.tmp 157) rfl r e0 ⟨_, rfl, tq_is _ _ _ _ rfl, Kept.refl _ _, fun _ _ _ _ _ => trivial⟩
                  | 11, ho, hsk =>
                    obtain rfl := Option.some.inj ho
                    have e0 : a'.eval (.tmp 158) = .pointer (some ⟨r, 3, none⟩) := is_tq (hin 10 158 (by kernel_rfl) (by kernel_rfl)) rfl
                    exact o_load30 (.tmp 158) rfl _ _ e0 (fits_cell ((unhide HRH).kept hk2 (by simp)) 3 _ rfl) ⟨_, rfl, tq_is _ _ _ _ rfl, Kept.refl _ _, fun _ _ _ _ _ => trivial⟩
                  | 12, ho, hsk =>
                    obtain rfl := Option.some.inj ho
                    have e0 : a'.eval (.tmp 159) = rv := is_tq (hin 11 159 (by kernel_rfl) (by kernel_rfl)) rfl
                    exact o_len30 (.tmp 159) rfl ro rs.length rc (by rw [e0]; exact unhide HRV) ⟨_, rfl, tq_is _ _ _ _ rfl, Kept.refl _ _, fun _ _ _ _ _ => trivial⟩
                  | 13, ho, hsk =>
                    obtain rfl := Option.some.inj ho
                    exact wp_move (.tmp 7) rfl _ ((hout 7 (by kernel_rfl)).trans rfl) ⟨_, rfl, tq_is _ _ _ _ rfl, Kept.refl _ _, fun _ _ _ _ _ => trivial⟩
                  | 14, ho, hsk =>
                    obtain rfl := Option.some.inj ho
                    have e0 : a'.eval (.tmp 161) = P0 r := is_tq (hin 13 161 (by kernel_rfl) (by kernel_rfl)) rfl
                    exact o_nil (.tmp 161) rfl _ e0 ⟨_, rfl, tq_is _ _ _ _ rfl, Kept.refl _ _, fun _ _ _ _ _ => trivial⟩
                  | 15, ho, hsk =>
                    obtain rfl := Option.some.inj ho
                    have e0 : a'.eval (.tmp 162) = P0 r := is_tq (hin 14 162 (by kernel_rfl) (by kernel_rfl)) rfl
                    exact o_fld32_4 (.tmp 162) rfl r e0 ⟨_, rfl, tq_is _ _ _ _ rfl, Kept.refl _ _, fun _ _ _ _ _ => trivial⟩
                  | 16, ho, hsk =>
                    obtain rfl := Option.some.inj ho
                    have e0 : a'.eval (.tmp 163) = .pointer (some ⟨r, 4, none⟩) := is_tq (hin 15 163 (by kernel_rfl) (by kernel_rfl)) rfl
                    exact o_load3 (.tmp 163) rfl _ _ e0 (fits_cell ((unhide HRH).kept hk2 (by simp)) 4 _ rfl) ⟨_, rfl, tq_is _ _ _ _ rfl, Kept.refl _ _, fun _ _ _ _ _ => trivial⟩
                  | 17, ho, hsk =>
                    obtain rfl := Option.some.inj ho
                    have e0 : a'.eval (.tmp 160) = .int .i64 rs.length := is_tq (hin 12 160 (by kernel_rfl) (by kernel_rfl)) rfl
                    have e1 : a'.eval (.tmp 164) = .int .i64 P.known := is_tq (hin 16 164 (by kernel_rfl) (by kernel_rfl)) rfl
                    refine o_sub3 (.tmp 160) (.tmp 164) rfl _ _ (by have := unhide HLE; omega) e0 e1 ?_
                    rw [(unhide HLE).1]
                    exact ⟨_, rfl, tq_is _ _ _ _ rfl, Kept.refl _ _, fun _ _ _ _ _ => trivial⟩
                  | 18, ho, hsk =>
                    obtain rfl := Option.some.inj ho
                    have e0 : a'.eval (.tmp 155) = .int .i64 ws.length := is_tq (hin 7 155 (by kernel_rfl) (by kernel_rfl)) rfl
                    have e1 : a'.eval (.tmp 165) = .int .i64 ws.length := is_tq (hin 17 165 (by kernel_rfl) (by kernel_rfl)) rfl
                    exact o_eqlT3 (.tmp 155) (.tmp 165) rfl _ _ true (by simp) e0 e1 ⟨_, rfl, tq_is _ _ _ _ rfl, Kept.refl _ _, fun _ _ _ _ _ => trivial⟩
                  | 19, ho, hsk =>
                    obtain rfl := Option.some.inj ho
                    have e0 : a'.eval (.tmp 153) = .bool true := is_tq (hin 5 153 (by kernel_rfl) (by kernel_rfl)) rfl
                    have e1 : a'.eval (.tmp 166) = .bool true := is_tq (hin 18 166 (by kernel_rfl) (by kernel_rfl)) rfl
                    exact o_pick (.tmp 153) (.tmp 166) rfl _ e0 e1 ⟨_, rfl, tq_is _ _ _ _ rfl, Kept.refl _ _, fun _ _ _ _ _ => trivial⟩
                  | 20, ho, hsk =>
                    obtain rfl := Option.some.inj ho
                    have e0 : a'.eval (.tmp 167) = .bool true := is_tq (hin 19 167 (by kernel_rfl) (by kernel_rfl)) rfl
                    exact wp_move (.tmp 167) rfl _ e0 ⟨_, rfl, tq_is _ _ _ _ rfl, Kept.refl _ _, fun _ _ _ _ _ => trivial⟩
                  | 21, ho, hsk =>
                    obtain rfl := Option.some.inj ho
                    exact wp_move (.tmp 5) rfl _ ((hout 5 (by kernel_rfl)).trans rfl) ⟨_, rfl, tq_is _ _ _ _ rfl, Kept.refl _ _, fun _ _ _ _ _ => trivial⟩
                  | 22, ho, hsk =>
                    obtain rfl := Option.some.inj ho
                    have e0 : a'.eval (.tmp 169) = P0 b := is_tq (hin 21 169 (by kernel_rfl) (by kernel_rfl)) rfl
                    refine wp_callF 23 _ _ rfl #[P0 b] (by simp [e0]) (cf23 _ _) ((got23 b v ws P _ ((unhide QD).s.sx.kept0 hk2)).mono ?_)
                    rintro e w3 ⟨rfl, q3, rfl⟩
                    exact ⟨_, rfl, _, rfl, tq_is _ _ _ _ rfl, kept_drewN _ _ _, fun _ _ _ _ _ => trivial⟩
                  | 23, ho, hsk =>
                    obtain rfl := Option.some.inj ho
                    exact wp_move (.tmp 7) rfl _ ((hout 7 (by kernel_rfl)).trans rfl) ⟨_, rfl, tq_is _ _ _ _ rfl, Kept.refl _ _, fun _ _ _ _ _ => trivial⟩
                  | 24, ho, hsk =>
                    obtain rfl := Option.some.inj ho
                    have e0 : a'.eval (.tmp 171) = P0 r := is_tq (hin 23 171 (by kernel_rfl) (by kernel_rfl)) rfl
                    exact o_nil (.tmp 171) rfl _ e0 ⟨_, rfl, tq_is _ _ _ _ rfl, Kept.refl _ _, fun _ _ _ _ _ => trivial⟩
                  | 25, ho, hsk =>
                    obtain rfl := Option.some.inj ho
                    have e0 : a'.eval (.tmp 172) = P0 r := is_tq (hin 24 172 (by kernel_rfl) (by kernel_rfl)) rfl
                    exact o_fld32_6 (.tmp 172) rfl r e0 ⟨_, rfl, tq_is _ _ _ _ rfl, Kept.refl _ _, fun _ _ _ _ _ => trivial⟩
                  | 26, ho, hsk =>
                    obtain rfl := Option.some.inj ho
                    have e0 : a'.eval (.tmp 173) = .pointer (some ⟨r, 6, none⟩) := is_tq (hin 25 173 (by kernel_rfl) (by kernel_rfl)) rfl
                    exact o_load2 (.tmp 173) rfl _ _ e0 (fits_cell ((unhide HRH).kept hk2 (by simp)) 6 _ rfl) ⟨_, rfl, tq_is _ _ _ _ rfl, Kept.refl _ _, fun _ _ _ _ _ => trivial⟩
                  | 27, ho, hsk =>
                    obtain rfl := Option.some.inj ho
                    have e0 : a'.eval (.tmp 170) = .int .i64 P.got := is_tq (hin 22 170 (by kernel_rfl) (by kernel_rfl)) rfl
                    have e1 : a'.eval (.tmp 174) = .int .i64 P.got := is_tq (hin 26 174 (by kernel_rfl) (by kernel_rfl)) rfl
                    exact o_eqlT2 (.tmp 170) (.tmp 174) rfl _ _ true (by simp) e0 e1 ⟨_, rfl, tq_is _ _ _ _ rfl, Kept.refl _ _, fun _ _ _ _ _ => trivial⟩
                  | 28, ho, hsk =>
                    obtain rfl := Option.some.inj ho
                    have e0 : a'.eval (.tmp 168) = .bool true := is_tq (hin 20 168 (by kernel_rfl) (by kernel_rfl)) rfl
                    have e1 : a'.eval (.tmp 175) = .bool true := is_tq (hin 27 175 (by kernel_rfl) (by kernel_rfl)) rfl
                    exact o_pick (.tmp 168) (.tmp 175) rfl _ e0 e1 ⟨_, rfl, tq_is _ _ _ _ rfl, Kept.refl _ _, fun _ _ _ _ _ => trivial⟩
                  | 29, ho, hsk =>
                    obtain rfl := Option.some.inj ho
                    have e0 : a'.eval (.tmp 176) = .bool true := is_tq (hin 28 176 (by kernel_rfl) (by kernel_rfl)) rfl
                    exact wp_move (.tmp 176) rfl _ e0 ⟨_, rfl, tq_is _ _ _ _ rfl, Kept.refl _ _, fun _ _ _ _ _ => trivial⟩
                  | 30, ho, hsk =>
                    obtain rfl := Option.some.inj ho
                    refine wp_callF 11 _ _ rfl #[] (by simp) (cf11 _ _) ((known11 _).mono ?_)
                    rintro e w3 ⟨rfl, hk3⟩
                    exact ⟨_, rfl, _, rfl, tq_is _ _ _ _ rfl, hk3, fun _ _ _ _ _ => trivial⟩
                  | 31, ho, hsk =>
                    obtain rfl := Option.some.inj ho
                    have e0 : a'.eval (.tmp 177) = .bool true := is_tq (hin 29 177 (by kernel_rfl) (by kernel_rfl)) rfl
                    have e1 : a'.eval (.tmp 178) = .bool true := is_tq (hin 30 178 (by kernel_rfl) (by kernel_rfl)) rfl
                    exact o_pick (.tmp 177) (.tmp 178) rfl _ e0 e1 ⟨_, rfl, tq_is _ _ _ _ rfl, Kept.refl _ _, fun _ _ _ _ _ => trivial⟩
                  | 32, ho, hsk =>
                    obtain rfl := Option.some.inj ho
                    have e0 : a'.eval (.tmp 179) = .bool true := is_tq (hin 31 179 (by kernel_rfl) (by kernel_rfl)) rfl
                    exact wp_assignV (.tmp 179) rfl _ e0 ⟨_, rfl, tq_is _ _ _ _ rfl, Kept.refl _ _, fun _ _ _ _ _ => trivial⟩
                intro X9 hk9
                replace hk9 : Kept [] w9 X9 := ⟨hk9.os, hk9.tape, hk9.output, hk9.size, hk9.block⟩
                simp only [valsQ, List.map_cons, List.map_nil, Option.getD_some, List.take_succ_cons, List.take_zero, putAll, Act.put, List.setIfInBounds_toArray, List.set_cons_succ, List.set_cons_zero]
                refine wpAny_done (by kernel_rfl) ?_ _
                replace QD := hide ((unhide QD).step hk9)
                clear hk9
                go_wp2_with fail
                go_ret
                exact ⟨rfl, (unhide QD).s.k⟩
              | true =>
                cases g2 : decide (max (P.told : Int) (P.known : Int) = max (Q.told : Int) (Q.known : Int)) with
                | false =>
                  have H1 := hide g1
                  have H2 := hide g2
                  have HSAME : Hid (sameB P Q = false) := same_no (by
                    rintro ⟨z1, z2, z3, z4, z5⟩
                    simp [z1, z2] at g2)
                  clear g1 g2
                  refine wp_region_any mixed (wpAny_tq 63 rfl (by kernel_rfl) [some (P0 r), some (P0 r), some (.pointer (some ⟨r, 4, none⟩)), some (.int .i64 P.known), some (.pointer (some ⟨q, 4, none⟩)), some (.int .i64 Q.known), some (.bool true), some (.bool true), some (P0 r), some (P0 r), some (.pointer (some ⟨r, 5, none⟩)), some (.int .i64 P.told), some (P0 r), some (P0 r), some (.pointer (some ⟨r, 4, none⟩)), some (.int .i64 P.known), some (.int .i64 (max (P.told : Int) (P.known : Int))), some (.pointer (some ⟨q, 5, none⟩)), some (.int .i64 Q.told), some (.pointer (some ⟨q, 4, none⟩)), some (.int .i64 Q.known), some (.int .i64 (max (Q.told : Int) (Q.known : Int))), some (.bool false), some (.bool false), some (.bool false), none, none, none, none, none, none, none, some (.bool false), some (.bool false), none, none, none, none, none, none, none, some (.bool false), some (.bool false), none, none, none, none, none, none, none, some (.bool false), some (.bool false), none, none, none, none, none, none, none, none, none, some (.bool false), some (.bool false)] rfl (by kernel_rfl) (by kernel_rfl) ?_ ?_)
                  · intro i o' hi hsk ho a' w2 hout hin hk2
                    replace hk2 : Kept [] wr w2 := ⟨hk2.os, hk2.tape, hk2.output, hk2.size, hk2.block⟩
                    match i, ho, hsk with
                    | 0, ho, hsk =>
                      obtain rfl := Option.some.inj ho
                      exact wp_move (.tmp 7) rfl _ ((hout 7 (by kernel_rfl)).trans rfl) ⟨_, rfl, tq_is _ _ _ _ rfl, Kept.refl _ _, fun _ _ _ _ _ => trivial⟩
                    | 1, ho, hsk =>
                      obtain rfl := Option.some.inj ho
                      have e0 : a'.eval (.tmp 86) = P0 r := is_tq (hin 0 86 (by kernel_rfl) (by kernel_rfl)) rfl
                      exact o_nil (.tmp 86) rfl _ e0 ⟨_, rfl, tq_is _ _ _ _ rfl, Kept.refl _ _, fun _ _ _ _ _ => trivial⟩
                    | 2, ho, hsk =>
                      obtain rfl := Option.some.inj ho
                      have e0 : a'.eval (.tmp 87) = P0 r := is_tq (hin 1 87 (by kernel_rfl) (by kernel_rfl)) rfl
                      exact o_fld32_4 (.tmp 87) rfl r e0 ⟨_, rfl, tq_is _ _ _ _ rfl, Kept.refl _ _, fun _ _ _ _ _ => trivial⟩
                    | 3, ho, hsk =>
                      obtain rfl := Option.some.inj ho
                      have e0 : a'.eval (.tmp 88) = .pointer (some ⟨r, 4, none⟩) := is_tq (hin 2 88 (by kernel_rfl) (by kernel_rfl)) rfl
                      exact o_load3 (.tmp 88) rfl _ _ e0 (fits_cell ((unhide HRH).kept hk2 (by simp)) 4 _ rfl) ⟨_, rfl, tq_is _ _ _ _ rfl, Kept.refl _ _, fun _ _ _ _ _ => trivial⟩
                    | 4, ho, hsk =>
                      obtain rfl := Option.some.inj ho
                      exact o_fld32_4 (.tmp 10) rfl q ((hout 10 (by kernel_rfl)).trans rfl) ⟨_, rfl, tq_is _ _ _ _ rfl, Kept.refl _ _, fun _ _ _ _ _ => trivial⟩
                    | 5, ho, hsk =>
                      obtain rfl := Option.some.inj ho
                      have e0 : a'.eval (.tmp 90) = .pointer (some ⟨q, 4, none⟩) := is_tq (hin 4 90 (by kernel_rfl) (by kernel_rfl)) rfl
                      exact o_load3 (.tmp 90) rfl _ _ e0 (fits_cell ((unhide HQH).kept hk2 (by simp)) 4 _ rfl) ⟨_, rfl, tq_is _ _ _ _ rfl, Kept.refl _ _, fun _ _ _ _ _ => trivial⟩
                    | 6, ho, hsk =>
                      obtain rfl := Option.some.inj ho
                      have e0 : a'.eval (.tmp 89) = .int .i64 P.known := is_tq (hin 3 89 (by kernel_rfl) (by kernel_rfl)) rfl
                      have e1 : a'.eval (.tmp 91) = .int .i64 Q.known := is_tq (hin 5 91 (by kernel_rfl) (by kernel_rfl)) rfl
                      exact o_eqlT3 (.tmp 89) (.tmp 91) rfl _ _ true (unhide H1) e0 e1 ⟨_, rfl, tq_is _ _ _ _ rfl, Kept.refl _ _, fun _ _ _ _ _ => trivial⟩
                    | 7, ho, hsk =>
                      obtain rfl := Option.some.inj ho
                      have e0 : a'.eval (.tmp 92) = .bool true := is_tq (hin 6 92 (by kernel_rfl) (by kernel_rfl)) rfl
                      exact wp_move (.tmp 92) rfl _ e0 ⟨_, rfl, tq_is _ _ _ _ rfl, Kept.refl _ _, fun _ _ _ _ _ => trivial⟩
                    | 8, ho, hsk =>
                      obtain rfl := Option.some.inj ho
                      exact wp_move (.tmp 7) rfl _ ((hout 7 (by kernel_rfl)).trans rfl) ⟨_, rfl, tq_is _ _ _ _ rfl, Kept.refl _ _, fun _ _ _ _ _ => trivial⟩
                    | 9, ho, hsk =>
                      obtain rfl := Option.some.inj ho
                      have e0 : a'.eval (.tmp 94) = P0 r := is_tq (hin 8 94 (by kernel_rfl) (by kernel_rfl)) rfl
                      exact o_nil (.tmp 94) rfl _ e0 ⟨_, rfl, tq_is _ _ _ _ rfl, Kept.refl _ _, fun _ _ _ _ _ => trivial⟩
                    | 10, ho, hsk =>
                      obtain rfl := Option.some.inj ho
                      have e0 : a'.eval (.tmp 95) = P0 r := is_tq (hin 9 95 (by kernel_rfl) (by kernel_rfl)) rfl
                      exact o_fld32_5 (.tmp 95) rfl r e0 ⟨_, rfl, tq_is _ _ _ _ rfl, Kept.refl _ _, fun _ _ _ _ _ => trivial⟩
                    | 11, ho, hsk =>
                      obtain rfl := Option.some.inj ho
                      have e0 : a'.eval (.tmp 96) = .pointer (some ⟨r, 5, none⟩) := is_tq (hin 10 96 (by kernel_rfl) (by kernel_rfl)) rfl
                      exact o_load3 (.tmp 96) rfl _ _ e0 (fits_cell ((unhide HRH).kept hk2 (by simp)) 5 _ rfl) ⟨_, rfl, tq_is _ _ _ _ rfl, Kept.refl _ _, fun _ _ _ _ _ => trivial⟩
                    | 12, ho, hsk =>
                      obtain rfl := Option.some.inj ho
                      exact wp_move (.tmp 7) rfl _ ((hout 7 (by kernel_rfl)).trans rfl) ⟨_, rfl, tq_is _ _ _ _ rfl, Kept.refl _ _, fun _ _ _ _ _ => trivial⟩
                    | 13, ho, hsk =>
                      obtain rfl := Option.some.inj ho
                      have e0 : a'.eval (.tmp 98) = P0 r := is_tq (hin 12 98 (by kernel_rfl) (by kernel_rfl)) rfl
                      exact o_nil (.tmp 98) rfl _ e0 ⟨_, rfl, tq_is _ _ _ _ rfl, Kept.refl _ _, fun _ _ _ _ _ => trivial⟩
                    | 14, ho, hsk =>
                      obtain rfl := Option.some.inj ho
                      have e0 : a'.eval (.tmp 99) = P0 r := is_tq (hin 13 99 (by kernel_rfl) (by kernel_rfl)) rfl
                      exact o_fld32_4 (.tmp 99) rfl r e0 ⟨_, rfl, tq_is _ _ _ _ rfl, Kept.refl _ _, fun _ _ _ _ _ => trivial⟩
                    | 15, ho, hsk =>
                      obtain rfl := Option.some.inj ho
                      have e0 : a'.eval (.tmp 100) = .pointer (some ⟨r, 4, none⟩) := is_tq (hin 14 100 (by kernel_rfl) (by kernel_rfl)) rfl
                      exact o_load3 (.tmp 100) rfl _ _ e0 (fits_cell ((unhide HRH).kept hk2 (by simp)) 4 _ rfl) ⟨_, rfl, tq_is _ _ _ _ rfl, Kept.refl _ _, fun _ _ _ _ _ => trivial⟩
                    | 16, ho, hsk =>
                      obtain rfl := Option.some.inj ho
                      have e0 : a'.eval (.tmp 97) = .int .i64 P.told := is_tq (hin 11 97 (by kernel_rfl) (by kernel_rfl)) rfl
                      have e1 : a'.eval (.tmp 101) = .int .i64 P.known := is_tq (hin 15 101 (by kernel_rfl) (by kernel_rfl)) rfl
                      exact o_max3 (.tmp 97) (.tmp 101) rfl _ _ e0 e1 ⟨_, rfl, tq_is _ _ _ _ rfl, Kept.refl _ _, fun _ _ _ _ _ => trivial⟩
                    | 17, ho, hsk =>
                      obtain rfl := Option.some.inj ho
                      exact o_fld32_5 (.tmp 10) rfl q ((hout 10 (by kernel_rfl)).trans rfl) ⟨_, rfl, tq_is _ _ _ _ rfl, Kept.refl _ _, fun _ _ _ _ _ => trivial⟩
                    | 18, ho, hsk =>
                      obtain rfl := Option.some.inj ho
                      have e0 : a'.eval (.tmp 103) = .pointer (some ⟨q, 5, none⟩) := is_tq (hin 17 103 (by kernel_rfl) (by kernel_rfl)) rfl
                      exact o_load3 (.tmp 103) rfl _ _ e0 (fits_cell ((unhide HQH).kept hk2 (by simp)) 5 _ rfl) ⟨_, rfl, tq_is _ _ _ _ rfl, Kept.refl _ _, fun _ _ _ _ _ => trivial⟩
                    | 19, ho, hsk =>
                      obtain rfl := Option.some.inj ho
                      exact o_fld32_4 (.tmp 10) rfl q ((hout 10 (by kernel_rfl)).trans rfl) ⟨_, rfl, tq_is _ _ _ _ rfl, Kept.refl _ _, fun _ _ _ _ _ => trivial⟩
                    | 20, ho, hsk =>
                      obtain rfl := Option.some.inj ho
                      have e0 : a'.eval (.tmp 105) = .pointer (some ⟨q, 4, none⟩) := is_tq (hin 19 105 (by kernel_rfl) (by kernel_rfl)) rfl
                      exact o_load3 (.tmp 105) rfl _ _ e0 (fits_cell ((unhide HQH).kept hk2 (by simp)) 4 _ rfl) ⟨_, rfl, tq_is _ _ _ _ rfl, Kept.refl _ _, fun _ _ _ _ _ => trivial⟩
                    | 21, ho, hsk =>
                      obtain rfl := Option.some.inj ho
                      have e0 : a'.eval (.tmp 104) = .int .i64 Q.told := is_tq (hin 18 104 (by kernel_rfl) (by kernel_rfl)) rfl
                      have e1 : a'.eval (.tmp 106) = .int .i64 Q.known := is_tq (hin 20 106 (by kernel_rfl) (by kernel_rfl)) rfl
                      exact o_max3 (.tmp 104) (.tmp 106) rfl _ _ e0 e1 ⟨_, rfl, tq_is _ _ _ _ rfl, Kept.refl _ _, fun _ _ _ _ _ => trivial⟩
                    | 22, ho, hsk =>
                      obtain rfl := Option.some.inj ho
                      have e0 : a'.eval (.tmp 102) = .int .i64 (max (P.told : Int) (P.known : Int)) := is_tq (hin 16 102 (by kernel_rfl) (by kernel_rfl)) rfl
                      have e1 : a'.eval (.tmp 107) = .int .i64 (max (Q.told : Int) (Q.known : Int)) := is_tq (hin 21 107 (by kernel_rfl) (by kernel_rfl)) rfl
                      exact o_eqlT3 (.tmp 102) (.tmp 107) rfl _ _ false (unhide H2) e0 e1 ⟨_, rfl, tq_is _ _ _ _ rfl, Kept.refl _ _, fun _ _ _ _ _ => trivial⟩
                    | 23, ho, hsk =>
                      obtain rfl := Option.some.inj ho
                      have e0 : a'.eval (.tmp 93) = .bool true := is_tq (hin 7 93 (by kernel_rfl) (by kernel_rfl)) rfl
                      have e1 : a'.eval (.tmp 108) = .bool false := is_tq (hin 22 108 (by kernel_rfl) (by kernel_rfl)) rfl
                      exact o_pick (.tmp 93) (.tmp 108) rfl _ e0 e1 ⟨_, rfl, tq_is _ _ _ _ rfl, Kept.refl _ _, fun _ _ _ _ _ => trivial⟩
                    | 24, ho, hsk =>
                      obtain rfl := Option.some.inj ho
                      have e0 : a'.eval (.tmp 109) = .bool false := is_tq (hin 23 109 (by kernel_rfl) (by kernel_rfl)) rfl
                      exact wp_move (.tmp 109) rfl _ e0 ⟨_, rfl, tq_is _ _ _ _ rfl, Kept.refl _ _, fun _ _ _ _ _ => trivial⟩
                    | 25, ho, hsk =>
                      cases hsk
                    | 26, ho, hsk =>
                      cases hsk
                    | 27, ho, hsk =>
                      cases hsk
                    | 28, ho, hsk =>
                      cases hsk
                    | 29, ho, hsk =>
                      cases hsk
                    | 30, ho, hsk =>
                      cases hsk
                    | 31, ho, hsk =>
                      cases hsk
                    | 32, ho, hsk =>
                      obtain rfl := Option.some.inj ho
                      have e0 : a'.eval (.tmp 110) = .bool false := is_tq (hin 24 110 (by kernel_rfl) (by kernel_rfl)) rfl
                      exact o_pickN (.tmp 110) (.tmp 117) rfl e0 ⟨_, rfl, tq_is _ _ _ _ rfl, Kept.refl _ _, fun _ _ _ _ _ => trivial⟩
                    | 33, ho, hsk =>
                      obtain rfl := Option.some.inj ho
                      have e0 : a'.eval (.tmp 118) = .bool false := is_tq (hin 32 118 (by kernel_rfl) (by kernel_rfl)) rfl
                      exact wp_move (.tmp 118) rfl _ e0 ⟨_, rfl, tq_is _ _ _ _ rfl, Kept.refl _ _, fun _ _ _ _ _ => trivial⟩
                    | 34, ho, hsk =>
                      cases hsk
                    | 35, ho, hsk =>
                      cases hsk
                    | 36, ho, hsk =>
                      cases hsk
                    | 37, ho, hsk =>
                      cases hsk
                    | 38, ho, hsk =>
                      cases hsk
                    | 39, ho, hsk =>
                      cases hsk
                    | 40, ho, hsk =>
                      cases hsk
                    | 41, ho, hsk =>
                      obtain rfl := Option.some.inj ho
                      have e0 : a'.eval (.tmp 119) = .bool false := is_tq (hin 33 119 (by kernel_rfl) (by kernel_rfl)) rfl
                      exact o_pickN (.tmp 119) (.tmp 126) rfl e0 ⟨_, rfl, tq_is _ _ _ _ rfl, Kept.refl _ _, fun _ _ _ _ _ => trivial⟩
                    | 42, ho, hsk =>
                      obtain rfl := Option.some.inj ho
                      have e0 : a'.eval (.tmp 127) = .bool false := is_tq (hin 41 127 (by kernel_rfl) (by kernel_rfl)) rfl
                      exact wp_move (.tmp 127) rfl _ e0 ⟨_, rfl, tq_is _ _ _ _ rfl, Kept.refl _ _, fun _ _ _ _ _ => trivial⟩
                    | 43, ho, hsk =>
                      cases hsk
                    | 44, ho, hsk =>
                      cases hsk
                    | 45, ho, hsk =>
                      cases hsk
                    | 46, ho, hsk =>
                      cases hsk
                    | 47, ho, hsk =>
                      cases hsk
                    | 48, ho, hsk =>
                      cases hsk
                    | 49, ho, hsk =>
                      cases hsk
                    | 50, ho, hsk =>
                      obtain rfl := Option.some.inj ho
                      have e0 : a'.eval (.tmp 128) = .bool false := is_tq (hin 42 128 (by kernel_rfl) (by kernel_rfl)) rfl
                      exact o_pickN (.tmp 128) (.tmp 135) rfl e0 ⟨_, rfl, tq_is _ _ _ _ rfl, Kept.refl _ _, fun _ _ _ _ _ => trivial⟩
                    | 51, ho, hsk =>
                      obtain rfl := Option.some.inj ho
                      have e0 : a'.eval (.tmp 136) = .bool false := is_tq (hin 50 136 (by kernel_rfl) (by kernel_rfl)) rfl
                      exact wp_move (.tmp 136) rfl _ e0 ⟨_, rfl, tq_is _ _ _ _ rfl, Kept.refl _ _, fun _ _ _ _ _ => trivial⟩
                    | 52, ho, hsk =>
                      cases hsk
                    | 53, ho, hsk =>
                      cases hsk
                    | 54, ho, hsk =>
                      cases hsk
                    | 55, ho, hsk =>
                      cases hsk
                    | 56, ho, hsk =>
                      cases hsk
                    | 57, ho, hsk =>
                      cases hsk
                    | 58, ho, hsk =>
                      cases hsk
                    | 59, ho, hsk =>
                      cases hsk
                    | 60, ho, hsk =>
                      cases hsk
                    | 61, ho, hsk =>
                      obtain rfl := Option.some.inj ho
                      have e0 : a'.eval (.tmp 137) = .bool false := is_tq (hin 51 137 (by kernel_rfl) (by kernel_rfl)) rfl
                      exact o_pickN (.tmp 137) (.tmp 146) rfl e0 ⟨_, rfl, tq_is _ _ _ _ rfl, Kept.refl _ _, fun _ _ _ _ _ => trivial⟩
                    | 62, ho, hsk =>
                      obtain rfl := Option.some.inj ho
                      have e0 : a'.eval (.tmp 147) = .bool false := is_tq (hin 61 147 (by kernel_rfl) (by kernel_rfl)) rfl
                      exact wp_assignV (.tmp 147) rfl _ e0 ⟨_, rfl, tq_is _ _ _ _ rfl, Kept.refl _ _, fun _ _ _ _ _ => trivial⟩
                  intro w9 hk9
                  replace hk9 : Kept [] wr w9 := ⟨hk9.os, hk9.tape, hk9.output, hk9.size, hk9.block⟩
                  simp only [valsQ, List.map_cons, List.map_nil, Option.getD_some, Option.getD_none, List.take_succ_cons, List.take_zero, putAll, Act.put, List.setIfInBounds_toArray, List.set_cons_succ, List.set_cons_zero]
                  refine wpAny_done (by kernel_rfl) ?_ _
                  replace QD := hide ((unhide QD).step hk9)
                  replace HRH := hide (unhide QD).rx.head
                  clear hk9 HQH
                  go_wp2_with fail
                  refine wp_region_any mixed (wpAny_tq 33 rfl (by kernel_rfl) [some (P0 b), some (P0 c), some (.bool false), some (.bool false), some (.bool true), some (.bool true), some (P0 b), some (.int .i64 ws.length), some (P0 r), some (P0 r), some (.pointer (some ⟨r, 3, none⟩)), some (rv), some (.int .i64 rs.length), some (P0 r), some (P0 r), some (.pointer (some ⟨r, 4, none⟩)), some (.int .i64 P.known), some (.int .i64 ws.length), some (.bool true), some (.bool true), some (.bool true), some (P0 b), some (.int .i64 P.got), some (P0 r), some (P0 r), some (.pointer (some ⟨r, 6, none⟩)), some (.int .i64 P.got), some (.bool true), some (.bool true), some (.bool true), some (.bool true), some (.bool true), some (.bool true)] rfl (by kernel_rfl) (by kernel_rfl) ?_ ?_)
                  · intro i o' hi hsk ho a' w2 hout hin hk2
                    replace hk2 : Kept [] w9 w2 := ⟨hk2.os, hk2.tape, hk2.output, hk2.size, hk2.block⟩
                    match i, ho, hsk with
                    | 0, ho, hsk =>
                      obtain rfl := Option.some.inj ho
                      exact wp_move (.tmp 5) rfl _ ((hout 5 (by kernel_rfl)).trans rfl) ⟨_, rfl, tq_is _ _ _ _ rfl, Kept.refl _ _, fun _ _ _ _ _ => trivial⟩
                    | 1, ho, hsk =>
                      obtain rfl := Option.some.inj ho
                      exact wp_move (.tmp 9) rfl _ ((hout 9 (by kernel_rfl)).trans rfl) ⟨_, rfl, tq_is _ _ _ _ rfl, Kept.refl _ _, fun _ _ _ _ _ => trivial⟩
                    | 2, ho, hsk =>
                      obtain rfl := Option.some.inj ho
                      have e0 : a'.eval (.tmp 148) = P0 b := is_tq (hin 0 148 (by kernel_rfl) (by kernel_rfl)) rfl
                      have e1 : a'.eval (.tmp 149) = P0 c := is_tq (hin 1 149 (by kernel_rfl) (by kernel_rfl)) rfl
                      refine wp_callF 28 _ _ rfl #[P0 b, P0 c] (by simp [e0, e1]) (cf28 _ _) ((k_same b c _ _ _ _ P Q false (unhide HSAME) _ ((unhide QD).s.sx.kept0 hk2) ((unhide QD).cp.sx.kept0 hk2)).mono ?_)
                      rintro e w3 ⟨rfl, hk3⟩
                      exact ⟨_, rfl, _, rfl, tq_is _ _ _ _ rfl, hk3, fun _ _ _ _ _ => trivial⟩
                    | 3, ho, hsk =>
                      obtain rfl := Option.some.inj ho
                      exact wp_move (.tmp 12) rfl _ ((hout 12 (by kernel_rfl)).trans rfl) ⟨_, rfl, tq_is _ _ _ _ rfl, Kept.refl _ _, fun _ _ _ _ _ => trivial⟩
                    | 4, ho, hsk =>
                      obtain rfl := Option.some.inj ho
                      have e0 : a'.eval (.tmp 150) = .bool false := is_tq (hin 2 150 (by kernel_rfl) (by kernel_rfl)) rfl
                      have e1 : a'.eval (.tmp 151) = .bool false := is_tq (hin 3 151 (by kernel_rfl) (by kernel_rfl)) rfl
                      exact o_eqlT4 (.tmp 150) (.tmp 151) rfl _ _ true (by simp) e0 e1 ⟨_, rfl, tq_is _ _ _ _ rfl, Kept.refl _ _, fun _ _ _ _ _ => trivial⟩
                    | 5, ho, hsk =>
                      obtain rfl := Option.some.inj ho
                      have e0 : a'.eval (.tmp 152) = .bool true := is_tq (hin 4 152 (by kernel_rfl) (by kernel_rfl)) rfl
                      exact wp_move (.tmp 152) rfl _ e0 ⟨_, rfl, tq_is _ _ _ _ rfl, Kept.refl _ _, fun _ _ _ _ _ => trivial⟩
                    | 6, ho, hsk =>
                      obtain rfl := Option.some.inj ho
                      exact wp_move (.tmp 5) rfl _ ((hout 5 (by kernel_rfl)).trans rfl) ⟨_, rfl, tq_is _ _ _ _ rfl, Kept.refl _ _, fun _ _ _ _ _ => trivial⟩
                    | 7, ho, hsk =>
                      obtain rfl := Option.some.inj ho
                      have e0 : a'.eval (.tmp 154) = P0 b := is_tq (hin 6 154 (by kernel_rfl) (by kernel_rfl)) rfl
                      refine wp_callF 22 _ _ rfl #[P0 b] (by simp [e0]) (cf22 _ _) ((waits22 b v ws P _ ((unhide QD).s.sx.kept0 hk2)).mono ?_)
                      rintro e w3 ⟨rfl, q3, rfl⟩
                      exact ⟨_, rfl, _, rfl, tq_is _ _ _ _ rfl, kept_drewN _ _ _, fun _ _ _ _ _ => trivial⟩
                    | 8, ho, hsk =>
                      obtain rfl := Option.some.inj ho
                      exact wp_move (.tmp 7) rfl _ ((hout 7 (by kernel_rfl)).trans rfl) ⟨_, rfl, tq_is _ _ _ _ rfl, Kept.refl _ _, fun _ _ _ _ _ => trivial⟩
                    | 9, ho, hsk =>
                      obtain rfl := Option.some.inj ho
                      have e0 : a'.eval (.tmp 156) = P0 r := is_tq (hin 8 156 (by kernel_rfl) (by kernel_rfl)) rfl
                      exact o_nil (.tmp 156) rfl _ e0 ⟨_, rfl, tq_is _ _ _ _ rfl, Kept.refl _ _, fun _ _ _ _ _ => trivial⟩
                    | 10, ho, hsk =>
                      obtain rfl := Option.some.inj ho
                      have e0 : a'.eval (.tmp 157) = P0 r := is_tq (hin 9 157 (by kernel_rfl) (by kernel_rfl)) rfl
                      exact o_fld32_3 (.tmp 157) rfl r e0 ⟨_, rfl, tq_is _ _ _ _ rfl, Kept.refl _ _, fun _ _ _ _ _ => trivial⟩
                    | 11, ho, hsk =>
                      obtain rfl := Option.some.inj ho
                      have e0 : a'.eval (.tmp 158) = .pointer (some ⟨r, 3, none⟩) := is_tq (hin 10 158 (by kernel_rfl) (by kernel_rfl)) rfl
                      exact o_load30 (.tmp 158) rfl _ _ e0 (fits_cell ((unhide HRH).kept hk2 (by simp)) 3 _ rfl) ⟨_, rfl, tq_is _ _ _ _ rfl, Kept.refl _ _, fun _ _ _ _ _ => trivial⟩
                    | 12, ho, hsk =>
                      obtain rfl := Option.some.inj ho
                      have e0 : a'.eval (.tmp 159) = rv := is_tq (hin 11 159 (by kernel_rfl) (by kernel_rfl)) rfl
                      exact o_len30 (.tmp 159) rfl ro rs.length rc (by rw [e0]; exact unhide HRV) ⟨_, rfl, tq_is _ _ _ _ rfl, Kept.refl _ _, fun _ _ _ _ _ => trivial⟩
                    | 13, ho, hsk =>
                      obtain rfl := Option.some.inj ho
                      exact wp_move (.tmp 7) rfl _ ((hout 7 (by kernel_rfl)).trans rfl) ⟨_, rfl, tq_is _ _ _ _ rfl, Kept.refl _ _, fun _ _ _ _ _ => trivial⟩
                    | 14, ho, hsk =>
                      obtain rfl := Option.some.inj ho
                      have e0 : a'.eval (.tmp 161) = P0 r := is_tq (hin 13 161 (by kernel_rfl) (by kernel_rfl)) rfl
                      exact o_nil (.tmp 161) rfl _ e0 ⟨_, rfl, tq_is _ _ _ _ rfl, Kept.refl _ _, fun _ _ _ _ _ => trivial⟩
                    | 15, ho, hsk =>
                      obtain rfl := Option.some.inj ho
                      have e0 : a'.eval (.tmp 162) = P0 r := is_tq (hin 14 162 (by kernel_rfl) (by kernel_rfl)) rfl
                      exact o_fld32_4 (.tmp 162) rfl r e0 ⟨_, rfl, tq_is _ _ _ _ rfl, Kept.refl _ _, fun _ _ _ _ _ => trivial⟩
                    | 16, ho, hsk =>
                      obtain rfl := Option.some.inj ho
                      have e0 : a'.eval (.tmp 163) = .pointer (some ⟨r, 4, none⟩) := is_tq (hin 15 163 (by kernel_rfl) (by kernel_rfl)) rfl
                      exact o_load3 (.tmp 163) rfl _ _ e0 (fits_cell ((unhide HRH).kept hk2 (by simp)) 4 _ rfl) ⟨_, rfl, tq_is _ _ _ _ rfl, Kept.refl _ _, fun _ _ _ _ _ => trivial⟩
                    | 17, ho, hsk =>
                      obtain rfl := Option.some.inj ho
                      have e0 : a'.eval (.tmp 160) = .int .i64 rs.length := is_tq (hin 12 160 (by kernel_rfl) (by kernel_rfl)) rfl
                      have e1 : a'.eval (.tmp 164) = .int .i64 P.known := is_tq (hin 16 164 (by kernel_rfl) (by kernel_rfl)) rfl
                      refine o_sub3 (.tmp 160) (.tmp 164) rfl _ _ (by have := unhide HLE; omega) e0 e1 ?_
                      rw [(unhide HLE).1]
                      exact ⟨_, rfl, tq_is _ _ _ _ rfl, Kept.refl _ _, fun _ _ _ _ _ => trivial⟩
                    | 18, ho, hsk =>
                      obtain rfl := Option.some.inj ho
                      have e0 : a'.eval (.tmp 155) = .int .i64 ws.length := is_tq (hin 7 155 (by kernel_rfl) (by kernel_rfl)) rfl
                      have e1 : a'.eval (.tmp 165) = .int .i64 ws.length := is_tq (hin 17 165 (by kernel_rfl) (by kernel_rfl)) rfl
                      exact o_eqlT3 (.tmp 155) (.tmp 165) rfl _ _ true (by simp) e0 e1 ⟨_, rfl, tq_is _ _ _ _ rfl, Kept.refl _ _, fun _ _ _ _ _ => trivial⟩
                    | 19, ho, hsk =>
                      obtain rfl := Option.some.inj ho
                      have e0 : a'.eval (.tmp 153) = .bool true := is_tq (hin 5 153 (by kernel_rfl) (by kernel_rfl)) rfl
                      have e1 : a'.eval (.tmp 166) = .bool true := is_tq (hin 18 166 (by kernel_rfl) (by kernel_rfl)) rfl
                      exact o_pick (.tmp 153) (.tmp 166) rfl _ e0 e1 ⟨_, rfl, tq_is _ _ _ _ rfl, Kept.refl _ _, fun _ _ _ _ _ => trivial⟩
                    | 20, ho, hsk =>
                      obtain rfl := Option.some.inj ho
                      have e0 : a'.eval (.tmp 167) = .bool true := is_tq (hin 19 167 (by kernel_rfl) (by kernel_rfl)) rfl
                      exact wp_move (.tmp 167) rfl _ e0 ⟨_, rfl, tq_is _ _ _ _ rfl, Kept.refl _ _, fun _ _ _ _ _ => trivial⟩
                    | 21, ho, hsk =>
                      obtain rfl := Option.some.inj ho
                      exact wp_move (.tmp 5) rfl _ ((hout 5 (by kernel_rfl)).trans rfl) ⟨_, rfl, tq_is _ _ _ _ rfl, Kept.refl _ _, fun _ _ _ _ _ => trivial⟩
                    | 22, ho, hsk =>
                      obtain rfl := Option.some.inj ho
                      have e0 : a'.eval (.tmp 169) = P0 b := is_tq (hin 21 169 (by kernel_rfl) (by kernel_rfl)) rfl
                      refine wp_callF 23 _ _ rfl #[P0 b] (by simp [e0]) (cf23 _ _) ((got23 b v ws P _ ((unhide QD).s.sx.kept0 hk2)).mono ?_)
                      rintro e w3 ⟨rfl, q3, rfl⟩
                      exact ⟨_, rfl, _, rfl, tq_is _ _ _ _ rfl, kept_drewN _ _ _, fun _ _ _ _ _ => trivial⟩
                    | 23, ho, hsk =>
                      obtain rfl := Option.some.inj ho
                      exact wp_move (.tmp 7) rfl _ ((hout 7 (by kernel_rfl)).trans rfl) ⟨_, rfl, tq_is _ _ _ _ rfl, Kept.refl _ _, fun _ _ _ _ _ => trivial⟩
                    | 24, ho, hsk =>
                      obtain rfl := Option.some.inj ho
                      have e0 : a'.eval (.tmp 171) = P0 r := is_tq (hin 23 171 (by kernel_rfl) (by kernel_rfl)) rfl
                      exact o_nil (.tmp 171) rfl _ e0 ⟨_, rfl, tq_is _ _ _ _ rfl, Kept.refl _ _, fun _ _ _ _ _ => trivial⟩
                    | 25, ho, hsk =>
                      obtain rfl := Option.some.inj ho
                      have e0 : a'.eval (.tmp 172) = P0 r := is_tq (hin 24 172 (by kernel_rfl) (by kernel_rfl)) rfl
                      exact o_fld32_6 (.tmp 172) rfl r e0 ⟨_, rfl, tq_is _ _ _ _ rfl, Kept.refl _ _, fun _ _ _ _ _ => trivial⟩
                    | 26, ho, hsk =>
                      obtain rfl := Option.some.inj ho
                      have e0 : a'.eval (.tmp 173) = .pointer (some ⟨r, 6, none⟩) := is_tq (hin 25 173 (by kernel_rfl) (by kernel_rfl)) rfl
                      exact o_load2 (.tmp 173) rfl _ _ e0 (fits_cell ((unhide HRH).kept hk2 (by simp)) 6 _ rfl) ⟨_, rfl, tq_is _ _ _ _ rfl, Kept.refl _ _, fun _ _ _ _ _ => trivial⟩
                    | 27, ho, hsk =>
                      obtain rfl := Option.some.inj ho
                      have e0 : a'.eval (.tmp 170) = .int .i64 P.got := is_tq (hin 22 170 (by kernel_rfl) (by kernel_rfl)) rfl
                      have e1 : a'.eval (.tmp 174) = .int .i64 P.got := is_tq (hin 26 174 (by kernel_rfl) (by kernel_rfl)) rfl
                      exact o_eqlT2 (.tmp 170) (.tmp 174) rfl _ _ true (by simp) e0 e1 ⟨_, rfl, tq_is _ _ _ _ rfl, Kept.refl _ _, fun _ _ _ _ _ => trivial⟩
                    | 28, ho, hsk =>
                      obtain rfl := Option.some.inj ho
                      have e0 : a'.eval (.tmp 168) = .bool true := is_tq (hin 20 168 (by kernel_rfl) (by kernel_rfl)) rfl
                      have e1 : a'.eval (.tmp 175) = .bool true := is_tq (hin 27 175 (by kernel_rfl) (by kernel_rfl)) rfl
                      exact o_pick (.tmp 168) (.tmp 175) rfl _ e0 e1 ⟨_, rfl, tq_is _ _ _ _ rfl, Kept.refl _ _, fun _ _ _ _ _ => trivial⟩
                    | 29, ho, hsk =>
                      obtain rfl := Option.some.inj ho
                      have e0 : a'.eval (.tmp 176) = .bool true := is_tq (hin 28 176 (by kernel_rfl) (by kernel_rfl)) rfl
                      exact wp_move (.tmp 176) rfl _ e0 ⟨_, rfl, tq_is _ _ _ _ rfl, Kept.refl _ _, fun _ _ _ _ _ => trivial⟩
                    | 30, ho, hsk =>
                      obtain rfl := Option.some.inj ho
                      refine wp_callF 11 _ _ rfl #[] (by simp) (cf11 _ _) ((known11 _).mono ?_)
                      rintro e w3 ⟨rfl, hk3⟩
                      exact ⟨_, rfl, _, rfl, tq_is _ _ _ _ rfl, hk3, fun _ _ _ _ _ => trivial⟩
                    | 31, ho, hsk =>
                      obtain rfl := Option.some.inj ho
                      have e0 : a'.eval (.tmp 177) = .bool true := is_tq (hin 29 177 (by kernel_rfl) (by kernel_rfl)) rfl
                      have e1 : a'.eval (.tmp 178) = .bool true := is_tq (hin 30 178 (by kernel_rfl) (by kernel_rfl)) rfl
                      exact o_pick (.tmp 177) (.tmp 178) rfl _ e0 e1 ⟨_, rfl, tq_is _ _ _ _ rfl, Kept.refl _ _, fun _ _ _ _ _ => trivial⟩
                    | 32, ho, hsk =>
                      obtain rfl := Option.some.inj ho
                      have e0 : a'.eval (.tmp 179) = .bool true := is_tq (hin 31 179 (by kernel_rfl) (by kernel_rfl)) rfl
                      exact wp_assignV (.tmp 179) rfl _ e0 ⟨_, rfl, tq_is _ _ _ _ rfl, Kept.refl _ _, fun _ _ _ _ _ => trivial⟩
                  intro X9 hk9
                  replace hk9 : Kept [] w9 X9 := ⟨hk9.os, hk9.tape, hk9.output, hk9.size, hk9.block⟩
                  simp only [valsQ, List.map_cons, List.map_nil, Option.getD_some, List.take_succ_cons, List.take_zero, putAll, Act.put, List.setIfInBounds_toArray, List.set_cons_succ, List.set_cons_zero]
                  refine wpAny_done (by kernel_rfl) ?_ _
                  replace QD := hide ((unhide QD).step hk9)
                  clear hk9
                  go_wp2_with fail
                  go_ret
                  exact ⟨rfl, (unhide QD).s.k⟩
                | true =>
                  cases g3 : decide ((P.told : Int) = (Q.told : Int)) with
                  | false =>
                    have H1 := hide g1
                    have H2 := hide g2
                    have H3 := hide g3
                    have HSAME : Hid (sameB P Q = false) := same_no (by
                      rintro ⟨z1, z2, z3, z4, z5⟩
                      simp [z2] at g3)
                    clear g1 g2 g3
                    refine wp_region_any mixed (wpAny_tq 63 rfl (by kernel_rfl) [some (P0 r), some (P0 r), some (.pointer (some ⟨r, 4, none⟩)), some (.int .i64 P.known), some (.pointer (some ⟨q, 4, none⟩)), some (.int .i64 Q.known), some (.bool true), some (.bool true), some (P0 r), some (P0 r), some (.pointer (some ⟨r, 5, none⟩)), some (.int .i64 P.told), some (P0 r), some (P0 r), some (.pointer (some ⟨r, 4, none⟩)), some (.int .i64 P.known), some (.int .i64 (max (P.told : Int) (P.known : Int))), some (.pointer (some ⟨q, 5, none⟩)), some (.int .i64 Q.told), some (.pointer (some ⟨q, 4, none⟩)), some (.int .i64 Q.known), some (.int .i64 (max (Q.told : Int) (Q.known : Int))), some (.bool true), some (.bool true), some (.bool true), some (P0 r), some (P0 r), some (.pointer (some ⟨r, 5, none⟩)), some (.int .i64 P.told), some (.pointer (some ⟨q, 5, none⟩)), some (.int .i64 Q.told), some (.bool false), some (.bool false), some (.bool false), none, none, none, none, none, none, none, some (.bool false), some (.bool false), none, none, none, none, none, none, none, some (.bool false), some (.bool false), none, none, none, none, none, none, none, none, none, some (.bool false), some (.bool false)] rfl (by kernel_rfl) (by kernel_rfl) ?_ ?_)
                    · intro i o' hi hsk ho a' w2 hout hin hk2
                      replace hk2 : Kept [] wr w2 := ⟨hk2.os, hk2.tape, hk2.output, hk2.size, hk2.block⟩
                      match i, ho, hsk with
                      | 0, ho, hsk =>
                        obtain rfl := Option.some.inj ho
                        exact wp_move (.tmp 7) rfl _ ((hout 7 (by kernel_rfl)).trans rfl) ⟨_, rfl, tq_is _ _ _ _ rfl, Kept.refl _ _, fun _ _ _ _ _ => trivial⟩
                      | 1, ho, hsk =>
                        obtain rfl := Option.some.inj ho
                        have e0 : a'.eval (.tmp 86) = P0 r := is_tq (hin 0 86 (by kernel_rfl) (by kernel_rfl)) rfl
                        exact o_nil (.tmp 86) rfl _ e0 ⟨_, rfl, tq_is _ _ _ _ rfl, Kept.refl _ _, fun _ _ _ _ _ => trivial⟩
                      | 2, ho, hsk =>
                        obtain rfl := Option.some.inj ho
                        have e0 : a'.eval (.tmp 87) = P0 r := is_tq (hin 1 87 (by kernel_rfl) (by kernel_rfl)) rfl
                        exact o_fld32_4 (.tmp 87) rfl r e0 ⟨_, rfl, tq_is _ _ _ _ rfl, Kept.refl _ _, fun _ _ _ _ _ => trivial⟩
                      | 3, ho, hsk =>
                        obtain rfl := Option.some.inj ho
                        have e0 : a'.eval (.tmp 88) = .pointer (some ⟨r, 4, none⟩) := is_tq (hin 2 88 (by kernel_rfl) (by kernel_rfl)) rfl
                        exact o_load3 (.tmp 88) rfl _ _ e0 (fits_cell ((unhide HRH).kept hk2 (by simp)) 4 _ rfl) ⟨_, rfl, tq_is _ _ _ _ rfl, Kept.refl _ _, fun _ _ _ _ _ => trivial⟩
                      | 4, ho, hsk =>
                        obtain rfl := Option.some.inj ho
                        exact o_fld32_4 (.tmp 10) rfl q ((hout 10 (by kernel_rfl)).trans rfl) ⟨_, rfl, tq_is _ _ _ _ rfl, Kept.refl _ _, fun _ _ _ _ _ => trivial⟩
                      | 5, ho, hsk =>
                        obtain rfl := Option.some.inj ho
                        have e0 : a'.eval (.tmp 90) = .pointer (some ⟨q, 4, none⟩) := is_tq (hin 4 90 (by kernel_rfl) (by kernel_rfl)) rfl
                        exact o_load3 (.tmp 90) rfl _ _ e0 (fits_cell ((unhide HQH).kept hk2 (by simp)) 4 _ rfl) ⟨_, rfl, tq_is _ _ _ _ rfl, Kept.refl _ _, fun _ _ _ _ _ => trivial⟩
                      | 6, ho, hsk =>
                        obtain rfl := Option.some.inj ho
                        have e0 : a'.eval (.tmp 89) = .int .i64 P.known := is_tq (hin 3 89 (by kernel_rfl) (by kernel_rfl)) rfl
                        have e1 : a'.eval (.tmp 91) = .int .i64 Q.known := is_tq (hin 5 91 (by kernel_rfl) (by kernel_rfl)) rfl
                        exact o_eqlT3 (.tmp 89) (.tmp 91) rfl _ _ true (unhide H1) e0 e1 ⟨_, rfl, tq_is _ _ _ _ rfl, Kept.refl _ _, fun _ _ _ _ _ => trivial⟩
                      | 7, ho, hsk =>
                        obtain rfl := Option.some.inj ho
                        have e0 : a'.eval (.tmp 92) = .bool true := is_tq (hin 6 92 (by kernel_rfl) (by kernel_rfl)) rfl
                        exact wp_move (.tmp 92) rfl _ e0 ⟨_, rfl, tq_is _ _ _ _ rfl, Kept.refl _ _, fun _ _ _ _ _ => trivial⟩
                      | 8, ho, hsk =>
                        obtain rfl := Option.some.inj ho
                        exact wp_move (.tmp 7) rfl _ ((hout 7 (by kernel_rfl)).trans rfl) ⟨_, rfl, tq_is _ _ _ _ rfl, Kept.refl _ _, fun _ _ _ _ _ => trivial⟩
                      | 9, ho, hsk =>
                        obtain rfl := Option.some.inj ho
                        have e0 : a'.eval (.tmp 94) = P0 r := is_tq (hin 8 94 (by kernel_rfl) (by kernel_rfl)) rfl
                        exact o_nil (.tmp 94) rfl _ e0 ⟨_, rfl, tq_is _ _ _ _ rfl, Kept.refl _ _, fun _ _ _ _ _ => trivial⟩
                      | 10, ho, hsk =>
                        obtain rfl := Option.some.inj ho
                        have e0 : a'.eval (.tmp 95) = P0 r := is_tq (hin 9 95 (by kernel_rfl) (by kernel_rfl)) rfl
                        exact o_fld32_5 (.tmp 95) rfl r e0 ⟨_, rfl, tq_is _ _ _ _ rfl, Kept.refl _ _, fun _ _ _ _ _ => trivial⟩
                      | 11, ho, hsk =>
                        obtain rfl := Option.some.inj ho
                        have e0 : a'.eval (.tmp 96) = .pointer (some ⟨r, 5, none⟩) := is_tq (hin 10 96 (by kernel_rfl) (by kernel_rfl)) rfl
                        exact o_load3 (.tmp 96) rfl _ _ e0 (fits_cell ((unhide HRH).kept hk2 (by simp)) 5 _ rfl) ⟨_, rfl, tq_is _ _ _ _ rfl, Kept.refl _ _, fun _ _ _ _ _ => trivial⟩
                      | 12, ho, hsk =>
                        obtain rfl := Option.some.inj ho
                        exact wp_move (.tmp 7) rfl _ ((hout 7 (by kernel_rfl)).trans rfl) ⟨_, rfl, tq_is _ _ _ _ rfl, Kept.refl _ _, fun _ _ _ _ _ => trivial⟩
                      | 13, ho, hsk =>
                        obtain rfl := Option.some.inj ho
                        have e0 : a'.eval (.tmp 98) = P0 r := is_tq (hin 12 98 (by kernel_rfl) (by kernel_rfl)) rfl
                        exact o_nil (.tmp 98) rfl _ e0 ⟨_, rfl, tq_is _ _ _ _ rfl, Kept.refl _ _, fun _ _ _ _ _ => trivial⟩
                      | 14, ho, hsk =>
                        obtain rfl := Option.some.inj ho
                        have e0 : a'.eval (.tmp 99) = P0 r := is_tq (hin 13 99 (by kernel_rfl) (by kernel_rfl)) rfl
                        exact o_fld32_4 (.tmp 99) rfl r e0 ⟨_, rfl, tq_is _ _ _ _ rfl, Kept.refl _ _, fun _ _ _ _ _ => trivial⟩
                      | 15, ho, hsk =>
                        obtain rfl := Option.some.inj ho
                        have e0 : a'.eval (.tmp 100) = .pointer (some ⟨r, 4, none⟩) := is_tq (hin 14 100 (by kernel_rfl) (by kernel_rfl)) rfl
                        exact o_load3 (.tmp 100) rfl _ _ e0 (fits_cell ((unhide HRH).kept hk2 (by simp)) 4 _ rfl) ⟨_, rfl, tq_is _ _ _ _ rfl, Kept.refl _ _, fun _ _ _ _ _ => trivial⟩
                      | 16, ho, hsk =>
                        obtain rfl := Option.some.inj ho
                        have e0 : a'.eval (.tmp 97) = .int .i64 P.told := is_tq (hin 11 97 (by kernel_rfl) (by kernel_rfl)) rfl
                        have e1 : a'.eval (.tmp 101) = .int .i64 P.known := is_tq (hin 15 101 (by kernel_rfl) (by kernel_rfl)) rfl
                        exact o_max3 (.tmp 97) (.tmp 101) rfl _ _ e0 e1 ⟨_, rfl, tq_is _ _ _ _ rfl, Kept.refl _ _, fun _ _ _ _ _ => trivial⟩
                      | 17, ho, hsk =>
                        obtain rfl := Option.some.inj ho
                        exact o_fld32_5 (.tmp 10) rfl q ((hout 10 (by kernel_rfl)).trans rfl) ⟨_, rfl, tq_is _ _ _ _ rfl, Kept.refl _ _, fun _ _ _ _ _ => trivial⟩
                      | 18, ho, hsk =>
                        obtain rfl := Option.some.inj ho
                        have e0 : a'.eval (.tmp 103) = .pointer (some ⟨q, 5, none⟩) := is_tq (hin 17 103 (by kernel_rfl) (by kernel_rfl)) rfl
                        exact o_load3 (.tmp 103) rfl _ _ e0 (fits_cell ((unhide HQH).kept hk2 (by simp)) 5 _ rfl) ⟨_, rfl, tq_is _ _ _ _ rfl, Kept.refl _ _, fun _ _ _ _ _ => trivial⟩
                      | 19, ho, hsk =>
                        obtain rfl := Option.some.inj ho
                        exact o_fld32_4 (.tmp 10) rfl q ((hout 10 (by kernel_rfl)).trans rfl) ⟨_, rfl, tq_is _ _ _ _ rfl, Kept.refl _ _, fun _ _ _ _ _ => trivial⟩
                      | 20, ho, hsk =>
                        obtain rfl := Option.some.inj ho
                        have e0 : a'.eval (.tmp 105) = .pointer (some ⟨q, 4, none⟩) := is_tq (hin 19 105 (by kernel_rfl) (by kernel_rfl)) rfl
                        exact o_load3 (.tmp 105) rfl _ _ e0 (fits_cell ((unhide HQH).kept hk2 (by simp)) 4 _ rfl) ⟨_, rfl, tq_is _ _ _ _ rfl, Kept.refl _ _, fun _ _ _ _ _ => trivial⟩
                      | 21, ho, hsk =>
                        obtain rfl := Option.some.inj ho
                        have e0 : a'.eval (.tmp 104) = .int .i64 Q.told := is_tq (hin 18 104 (by kernel_rfl) (by kernel_rfl)) rfl
                        have e1 : a'.eval (.tmp 106) = .int .i64 Q.known := is_tq (hin 20 106 (by kernel_rfl) (by kernel_rfl)) rfl
                        exact o_max3 (.tmp 104) (.tmp 106) rfl _ _ e0 e1 ⟨_, rfl, tq_is _ _ _ _ rfl, Kept.refl _ _, fun _ _ _ _ _ => trivial⟩
                      | 22, ho, hsk =>
                        obtain rfl := Option.some.inj ho
                        have e0 : a'.eval (.tmp 102) = .int .i64 (max (P.told : Int) (P.known : Int)) := is_tq (hin 16 102 (by kernel_rfl) (by kernel_rfl)) rfl
                        have e1 : a'.eval (.tmp 107) = .int .i64 (max (Q.told : Int) (Q.known : Int)) := is_tq (hin 21 107 (by kernel_rfl) (by kernel_rfl)) rfl
                        exact o_eqlT3 (.tmp 102) (.tmp 107) rfl _ _ true (unhide H2) e0 e1 ⟨_, rfl, tq_is _ _ _ _ rfl, Kept.refl _ _, fun _ _ _ _ _ => trivial⟩
                      | 23, ho, hsk =>
                        obtain rfl := Option.some.inj ho
                        have e0 : a'.eval (.tmp 93) = .bool true := is_tq (hin 7 93 (by kernel_rfl) (by kernel_rfl)) rfl
                        have e1 : a'.eval (.tmp 108) = .bool true := is_tq (hin 22 108 (by kernel_rfl) (by kernel_rfl)) rfl
                        exact o_pick (.tmp 93) (.tmp 108) rfl _ e0 e1 ⟨_, rfl, tq_is _ _ _ _ rfl, Kept.refl _ _, fun _ _ _ _ _ => trivial⟩
                      | 24, ho, hsk =>
                        obtain rfl := Option.some.inj ho
                        have e0 : a'.eval (.tmp 109) = .bool true := is_tq (hin 23 109 (by kernel_rfl) (by kernel_rfl)) rfl
                        exact wp_move (.tmp 109) rfl _ e0 ⟨_, rfl, tq_is _ _ _ _ rfl, Kept.refl _ _, fun _ _ _ _ _ => trivial⟩
                      | 25, ho, hsk =>
                        obtain rfl := Option.some.inj ho
                        exact wp_move (.tmp 7) rfl _ ((hout 7 (by kernel_rfl)).trans rfl) ⟨_, rfl, tq_is _ _ _ _ rfl, Kept.refl _ _, fun _ _ _ _ _ => trivial⟩
                      | 26, ho, hsk =>
                        obtain rfl := Option.some.inj ho
                        have e0 : a'.eval (.tmp 111) = P0 r := is_tq (hin 25 111 (by kernel_rfl) (by kernel_rfl)) rfl
                        exact o_nil (.tmp 111) rfl _ e0 ⟨_, rfl, tq_is _ _ _ _ rfl, Kept.refl _ _, fun _ _ _ _ _ => trivial⟩
                      | 27, ho, hsk =>
                        obtain rfl := Option.some.inj ho
                        have e0 : a'.eval (.tmp 112) = P0 r := is_tq (hin 26 112 (by kernel_rfl) (by kernel_rfl)) rfl
                        exact o_fld32_5 (.tmp 112) rfl r e0 ⟨_, rfl, tq_is _ _ _ _ rfl, Kept.refl _ _, fun _ _ _ _ _ => trivial⟩
                      | 28, ho, hsk =>
                        obtain rfl := Option.some.inj ho
                        have e0 : a'.eval (.tmp 113) = .pointer (some ⟨r, 5, none⟩) := is_tq (hin 27 113 (by kernel_rfl) (by kernel_rfl)) rfl
                        exact o_load3 (.tmp 113) rfl _ _ e0 (fits_cell ((unhide HRH).kept hk2 (by simp)) 5 _ rfl) ⟨_, rfl, tq_is _ _ _ _ rfl, Kept.refl _ _, fun _ _ _ _ _ => trivial⟩
                      | 29, ho, hsk =>
                        obtain rfl := Option.some.inj ho
                        exact o_fld32_5 (.tmp 10) rfl q ((hout 10 (by kernel_rfl)).trans rfl) ⟨_, rfl, tq_is _ _ _ _ rfl, Kept.refl _ _, fun _ _ _ _ _ => trivial⟩
                      | 30, ho, hsk =>
                        obtain rfl := Option.some.inj ho
                        have e0 : a'.eval (.tmp 115) = .pointer (some ⟨q, 5, none⟩) := is_tq (hin 29 115 (by kernel_rfl) (by kernel_rfl)) rfl
                        exact o_load3 (.tmp 115) rfl _ _ e0 (fits_cell ((unhide HQH).kept hk2 (by simp)) 5 _ rfl) ⟨_, rfl, tq_is _ _ _ _ rfl, Kept.refl _ _, fun _ _ _ _ _ => trivial⟩
                      | 31, ho, hsk =>
                        obtain rfl := Option.some.inj ho
                        have e0 : a'.eval (.tmp 114) = .int .i64 P.told := is_tq (hin 28 114 (by kernel_rfl) (by kernel_rfl)) rfl
                        have e1 : a'.eval (.tmp 116) = .int .i64 Q.told := is_tq (hin 30 116 (by kernel_rfl) (by kernel_rfl)) rfl
                        exact o_eqlT3 (.tmp 114) (.tmp 116) rfl _ _ false (unhide H3) e0 e1 ⟨_, rfl, tq_is _ _ _ _ rfl, Kept.refl _ _, fun _ _ _ _ _ => trivial⟩
                      | 32, ho, hsk =>
                        obtain rfl := Option.some.inj ho
                        have e0 : a'.eval (.tmp 110) = .bool true := is_tq (hin 24 110 (by kernel_rfl) (by kernel_rfl)) rfl
                        have e1 : a'.eval (.tmp 117) = .bool false := is_tq (hin 31 117 (by kernel_rfl) (by kernel_rfl)) rfl
                        exact o_pick (.tmp 110) (.tmp 117) rfl _ e0 e1 ⟨_, rfl, tq_is _ _ _ _ rfl, Kept.refl _ _, fun _ _ _ _ _ => trivial⟩
                      | 33, ho, hsk =>
                        obtain rfl := Option.some.inj ho
                        have e0 : a'.eval (.tmp 118) = .bool false := is_tq (hin 32 118 (by kernel_rfl) (by kernel_rfl)) rfl
                        exact wp_move (.tmp 118) rfl _ e0 ⟨_, rfl, tq_is _ _ _ _ rfl, Kept.refl _ _, fun _ _ _ _ _ => trivial⟩
                      | 34, ho, hsk =>
                        cases hsk
                      | 35, ho, hsk =>
                        cases hsk
                      | 36, ho, hsk =>
                        cases hsk
                      | 37, ho, hsk =>
                        cases hsk
                      | 38, ho, hsk =>
                        cases hsk
                      | 39, ho, hsk =>
                        cases hsk
                      | 40, ho, hsk =>
                        cases hsk
                      | 41, ho, hsk =>
                        obtain rfl := Option.some.inj ho
                        have e0 : a'.eval (.tmp 119) = .bool false := is_tq (hin 33 119 (by kernel_rfl) (by kernel_rfl)) rfl
                        exact o_pickN (.tmp 119) (.tmp 126) rfl e0 ⟨_, rfl, tq_is _ _ _ _ rfl, Kept.refl _ _, fun _ _ _ _ _ => trivial⟩
                      | 42, ho, hsk =>
                        obtain rfl := Option.some.inj ho
                        have e0 : a'.eval (.tmp 127) = .bool false := is_tq (hin 41 127 (by kernel_rfl) (by kernel_rfl)) rfl
                        exact wp_move (.tmp 127) rfl _ e0 ⟨_, rfl, tq_is _ _ _ _ rfl, Kept.refl _ _, fun _ _ _ _ _ => trivial⟩
                      | 43, ho, hsk =>
                        cases hsk
                      | 44, ho, hsk =>
                        cases hsk
                      | 45, ho, hsk =>
                        cases hsk
                      | 46, ho, hsk =>
                        cases hsk
                      | 47, ho, hsk =>
                        cases hsk
                      | 48, ho, hsk =>
                        cases hsk
                      | 49, ho, hsk =>
                        cases hsk
                      | 50, ho, hsk =>
                        obtain rfl := Option.some.inj ho
                        have e0 : a'.eval (.tmp 128) = .bool false := is_tq (hin 42 128 (by kernel_rfl) (by kernel_rfl)) rfl
                        exact o_pickN (.tmp 128) (.tmp 135) rfl e0 ⟨_, rfl, tq_is _ _ _ _ rfl, Kept.refl _ _, fun _ _ _ _ _ => trivial⟩
                      | 51, ho, hsk =>
                        obtain rfl := Option.some.inj ho
                        have e0 : a'.eval (.tmp 136) = .bool false := is_tq (hin 50 136 (by kernel_rfl) (by kernel_rfl)) rfl
                        exact wp_move (.tmp 136) rfl _ e0 ⟨_, rfl, tq_is _ _ _ _ rfl, Kept.refl _ _, fun _ _ _ _ _ => trivial⟩
                      | 52, ho, hsk =>
                        cases hsk
                      | 53, ho, hsk =>
                        cases hsk
                      | 54, ho, hsk =>
                        cases hsk
                      | 55, ho, hsk =>
                        cases hsk
                      | 56, ho, hsk =>
                        cases hsk
                      | 57, ho, hsk =>
                        cases hsk
                      | 58, ho, hsk =>
                        cases hsk
                      | 59, ho, hsk =>
                        cases hsk
                      | 60, ho, hsk =>
                        cases hsk
                      | 61, ho, hsk =>
                        obtain rfl := Option.some.inj ho
                        have e0 : a'.eval (.tmp 137) = .bool false := is_tq (hin 51 137 (by kernel_rfl) (by kernel_rfl)) rfl
                        exact o_pickN (.tmp 137) (.tmp 146) rfl e0 ⟨_, rfl, tq_is _ _ _ _ rfl, Kept.refl _ _, fun _ _ _ _ _ => trivial⟩
                      | 62, ho, hsk =>
                        obtain rfl := Option.some.inj ho
                        have e0 : a'.eval (.tmp 147) = .bool false := is_tq (hin 61 147 (by kernel_rfl) (by kernel_rfl)) rfl
                        exact wp_assignV (.tmp 147) rfl _ e0 ⟨_, rfl, tq_is _ _ _ _ rfl, Kept.refl _ _, fun _ _ _ _ _ => trivial⟩
                    intro w9 hk9
                    replace hk9 : Kept [] wr w9 := ⟨hk9.os, hk9.tape, hk9.output, hk9.size, hk9.block⟩
                    simp only [valsQ, List.map_cons, List.map_nil, Option.getD_some, Option.getD_none, List.take_succ_cons, List.take_zero, putAll, Act.put, List.setIfInBounds_toArray, List.set_cons_succ, List.set_cons_zero]
                    refine wpAny_done (by kernel_rfl) ?_ _
                    replace QD := hide ((unhide QD).step hk9)
                    replace HRH := hide (unhide QD).rx.head
                    clear hk9 HQH
                    go_wp2_with fail
                    refine wp_region_any mixed (wpAny_tq 33 rfl (by kernel_rfl) [some (P0 b), some (P0 c), some (.bool false), some (.bool false), some (.bool true), some (.bool true), some (P0 b), some (.int .i64 ws.length), some (P0 r), some (P0 r), some (.pointer (some ⟨r, 3, none⟩)), some (rv), some (.int .i64 rs.length), some (P0 r), some (P0 r), some (.pointer (some ⟨r, 4, none⟩)), some (.int .i64 P.known), some (.int .i64 ws.length), some (.bool true), some (.bool true), some (.bool true), some (P0 b), some (.int .i64 P.got), some (P0 r), some (P0 r), some (.pointer (some ⟨r, 6, none⟩)), some (.int .i64 P.got), some (.bool true), some (.bool true), some (.bool true), some (.bool true), some (.bool true), some (.bool true)] rfl (by kernel_rfl) (by kernel_rfl) ?_ ?_)
                    · intro i o' hi hsk ho a' w2 hout hin hk2
                      replace hk2 : Kept [] w9 w2 := ⟨hk2.os, hk2.tape, hk2.output, hk2.size, hk2.block⟩
                      match i, ho, hsk with
                      | 0, ho, hsk =>
                        obtain rfl := Option.some.inj ho
                        exact wp_move (.tmp 5) rfl _ ((hout 5 (by kernel_rfl)).trans rfl) ⟨_, rfl, tq_is _ _ _ _ rfl, Kept.refl _ _, fun _ _ _ _ _ => trivial⟩
                      | 1, ho, hsk =>
                        obtain rfl := Option.some.inj ho
                        exact wp_move (.tmp 9) rfl _ ((hout 9 (by kernel_rfl)).trans rfl) ⟨_, rfl, tq_is _ _ _ _ rfl, Kept.refl _ _, fun _ _ _ _ _ => trivial⟩
                      | 2, ho, hsk =>
                        obtain rfl := Option.some.inj ho
                        have e0 : a'.eval (.tmp 148) = P0 b := is_tq (hin 0 148 (by kernel_rfl) (by kernel_rfl)) rfl
                        have e1 : a'.eval (.tmp 149) = P0 c := is_tq (hin 1 149 (by kernel_rfl) (by kernel_rfl)) rfl
                        refine wp_callF 28 _ _ rfl #[P0 b, P0 c] (by simp [e0, e1]) (cf28 _ _) ((k_same b c _ _ _ _ P Q false (unhide HSAME) _ ((unhide QD).s.sx.kept0 hk2) ((unhide QD).cp.sx.kept0 hk2)).mono ?_)
                        rintro e w3 ⟨rfl, hk3⟩
                        exact ⟨_, rfl, _, rfl, tq_is _ _ _ _ rfl, hk3, fun _ _ _ _ _ => trivial⟩
                      | 3, ho, hsk =>
                        obtain rfl := Option.some.inj ho
                        exact wp_move (.tmp 12) rfl _ ((hout 12 (by kernel_rfl)).trans rfl) ⟨_, rfl, tq_is _ _ _ _ rfl, Kept.refl _ _, fun _ _ _ _ _ => trivial⟩
                      | 4, ho, hsk =>
                        obtain rfl := Option.some.inj ho
                        have e0 : a'.eval (.tmp 150) = .bool false := is_tq (hin 2 150 (by kernel_rfl) (by kernel_rfl)) rfl
                        have e1 : a'.eval (.tmp 151) = .bool false := is_tq (hin 3 151 (by kernel_rfl) (by kernel_rfl)) rfl
                        exact o_eqlT4 (.tmp 150) (.tmp 151) rfl _ _ true (by simp) e0 e1 ⟨_, rfl, tq_is _ _ _ _ rfl, Kept.refl _ _, fun _ _ _ _ _ => trivial⟩
                      | 5, ho, hsk =>
                        obtain rfl := Option.some.inj ho
                        have e0 : a'.eval (.tmp 152) = .bool true := is_tq (hin 4 152 (by kernel_rfl) (by kernel_rfl)) rfl
                        exact wp_move (.tmp 152) rfl _ e0 ⟨_, rfl, tq_is _ _ _ _ rfl, Kept.refl _ _, fun _ _ _ _ _ => trivial⟩
                      | 6, ho, hsk =>
                        obtain rfl := Option.some.inj ho
                        exact wp_move (.tmp 5) rfl _ ((hout 5 (by kernel_rfl)).trans rfl) ⟨_, rfl, tq_is _ _ _ _ rfl, Kept.refl _ _, fun _ _ _ _ _ => trivial⟩
                      | 7, ho, hsk =>
                        obtain rfl := Option.some.inj ho
                        have e0 : a'.eval (.tmp 154) = P0 b := is_tq (hin 6 154 (by kernel_rfl) (by kernel_rfl)) rfl
                        refine wp_callF 22 _ _ rfl #[P0 b] (by simp [e0]) (cf22 _ _) ((waits22 b v ws P _ ((unhide QD).s.sx.kept0 hk2)).mono ?_)
                        rintro e w3 ⟨rfl, q3, rfl⟩
                        exact ⟨_, rfl, _, rfl, tq_is _ _ _ _ rfl, kept_drewN _ _ _, fun _ _ _ _ _ => trivial⟩
                      | 8, ho, hsk =>
                        obtain rfl := Option.some.inj ho
                        exact wp_move (.tmp 7) rfl _ ((hout 7 (by kernel_rfl)).trans rfl) ⟨_, rfl, tq_is _ _ _ _ rfl, Kept.refl _ _, fun _ _ _ _ _ => trivial⟩
                      | 9, ho, hsk =>
                        obtain rfl := Option.some.inj ho
                        have e0 : a'.eval (.tmp 156) = P0 r := is_tq (hin 8 156 (by kernel_rfl) (by kernel_rfl)) rfl
                        exact o_nil (.tmp 156) rfl _ e0 ⟨_, rfl, tq_is _ _ _ _ rfl, Kept.refl _ _, fun _ _ _ _ _ => trivial⟩
                      | 10, ho, hsk =>
                        obtain rfl := Option.some.inj ho
                        have e0 : a'.eval (.tmp 157) = P0 r := is_tq (hin 9 157 (by kernel_rfl) (by kernel_rfl)) rfl
                        exact o_fld32_3 (.tmp 157) rfl r e0 ⟨_, rfl, tq_is _ _ _ _ rfl, Kept.refl _ _, fun _ _ _ _ _ => trivial⟩
                      | 11, ho, hsk =>
                        obtain rfl := Option.some.inj ho
                        have e0 : a'.eval (.tmp 158) = .pointer (some ⟨r, 3, none⟩) := is_tq (hin 10 158 (by kernel_rfl) (by kernel_rfl)) rfl
                        exact o_load30 (.tmp 158) rfl _ _ e0 (fits_cell ((unhide HRH).kept hk2 (by simp)) 3 _ rfl) ⟨_, rfl, tq_is _ _ _ _ rfl, Kept.refl _ _, fun _ _ _ _ _ => trivial⟩
                      | 12, ho, hsk =>
                        obtain rfl := Option.some.inj ho
                        have e0 : a'.eval (.tmp 159) = rv := is_tq (hin 11 159 (by kernel_rfl) (by kernel_rfl)) rfl
                        exact o_len30 (.tmp 159) rfl ro rs.length rc (by rw [e0]; exact unhide HRV) ⟨_, rfl, tq_is _ _ _ _ rfl, Kept.refl _ _, fun _ _ _ _ _ => trivial⟩
                      | 13, ho, hsk =>
                        obtain rfl := Option.some.inj ho
                        exact wp_move (.tmp 7) rfl _ ((hout 7 (by kernel_rfl)).trans rfl) ⟨_, rfl, tq_is _ _ _ _ rfl, Kept.refl _ _, fun _ _ _ _ _ => trivial⟩
                      | 14, ho, hsk =>
                        obtain rfl := Option.some.inj ho
                        have e0 : a'.eval (.tmp 161) = P0 r := is_tq (hin 13 161 (by kernel_rfl) (by kernel_rfl)) rfl
                        exact o_nil (.tmp 161) rfl _ e0 ⟨_, rfl, tq_is _ _ _ _ rfl, Kept.refl _ _, fun _ _ _ _ _ => trivial⟩
                      | 15, ho, hsk =>
                        obtain rfl := Option.some.inj ho
                        have e0 : a'.eval (.tmp 162) = P0 r := is_tq (hin 14 162 (by kernel_rfl) (by kernel_rfl)) rfl
                        exact o_fld32_4 (.tmp 162) rfl r e0 ⟨_, rfl, tq_is _ _ _ _ rfl, Kept.refl _ _, fun _ _ _ _ _ => trivial⟩
                      | 16, ho, hsk =>
                        obtain rfl := Option.some.inj ho
                        have e0 : a'.eval (.tmp 163) = .pointer (some ⟨r, 4, none⟩) := is_tq (hin 15 163 (by kernel_rfl) (by kernel_rfl)) rfl
                        exact o_load3 (.tmp 163) rfl _ _ e0 (fits_cell ((unhide HRH).kept hk2 (by simp)) 4 _ rfl) ⟨_, rfl, tq_is _ _ _ _ rfl, Kept.refl _ _, fun _ _ _ _ _ => trivial⟩
                      | 17, ho, hsk =>
                        obtain rfl := Option.some.inj ho
                        have e0 : a'.eval (.tmp 160) = .int .i64 rs.length := is_tq (hin 12 160 (by kernel_rfl) (by kernel_rfl)) rfl
                        have e1 : a'.eval (.tmp 164) = .int .i64 P.known := is_tq (hin 16 164 (by kernel_rfl) (by kernel_rfl)) rfl
                        refine o_sub3 (.tmp 160) (.tmp 164) rfl _ _ (by have := unhide HLE; omega) e0 e1 ?_
                        rw [(unhide HLE).1]
                        exact ⟨_, rfl, tq_is _ _ _ _ rfl, Kept.refl _ _, fun _ _ _ _ _ => trivial⟩
                      | 18, ho, hsk =>
                        obtain rfl := Option.some.inj ho
                        have e0 : a'.eval (.tmp 155) = .int .i64 ws.length := is_tq (hin 7 155 (by kernel_rfl) (by kernel_rfl)) rfl
                        have e1 : a'.eval (.tmp 165) = .int .i64 ws.length := is_tq (hin 17 165 (by kernel_rfl) (by kernel_rfl)) rfl
                        exact o_eqlT3 (.tmp 155) (.tmp 165) rfl _ _ true (by simp) e0 e1 ⟨_, rfl, tq_is _ _ _ _ rfl, Kept.refl _ _, fun _ _ _ _ _ => trivial⟩
                      | 19, ho, hsk =>
                        obtain rfl := Option.some.inj ho
                        have e0 : a'.eval (.tmp 153) = .bool true := is_tq (hin 5 153 (by kernel_rfl) (by kernel_rfl)) rfl
                        have e1 : a'.eval (.tmp 166) = .bool true := is_tq (hin 18 166 (by kernel_rfl) (by kernel_rfl)) rfl
                        exact o_pick (.tmp 153) (.tmp 166) rfl _ e0 e1 ⟨_, rfl, tq_is _ _ _ _ rfl, Kept.refl _ _, fun _ _ _ _ _ => trivial⟩
                      | 20, ho, hsk =>
                        obtain rfl := Option.some.inj ho
                        have e0 : a'.eval (.tmp 167) = .bool true := is_tq (hin 19 167 (by kernel_rfl) (by kernel_rfl)) rfl
                        exact wp_move (.tmp 167) rfl _ e0 ⟨_, rfl, tq_is _ _ _ _ rfl, Kept.refl _ _, fun _ _ _ _ _ => trivial⟩
                      | 21, ho, hsk =>
                        obtain rfl := Option.some.inj ho
                        exact wp_move (.tmp 5) rfl _ ((hout 5 (by kernel_rfl)).trans rfl) ⟨_, rfl, tq_is _ _ _ _ rfl, Kept.refl _ _, fun _ _ _ _ _ => trivial⟩
                      | 22, ho, hsk =>
                        obtain rfl := Option.some.inj ho
                        have e0 : a'.eval (.tmp 169) = P0 b := is_tq (hin 21 169 (by kernel_rfl) (by kernel_rfl)) rfl
                        refine wp_callF 23 _ _ rfl #[P0 b] (by simp [e0]) (cf23 _ _) ((got23 b v ws P _ ((unhide QD).s.sx.kept0 hk2)).mono ?_)
                        rintro e w3 ⟨rfl, q3, rfl⟩
                        exact ⟨_, rfl, _, rfl, tq_is _ _ _ _ rfl, kept_drewN _ _ _, fun _ _ _ _ _ => trivial⟩
                      | 23, ho, hsk =>
                        obtain rfl := Option.some.inj ho
                        exact wp_move (.tmp 7) rfl _ ((hout 7 (by kernel_rfl)).trans rfl) ⟨_, rfl, tq_is _ _ _ _ rfl, Kept.refl _ _, fun _ _ _ _ _ => trivial⟩
                      | 24, ho, hsk =>
                        obtain rfl := Option.some.inj ho
                        have e0 : a'.eval (.tmp 171) = P0 r := is_tq (hin 23 171 (by kernel_rfl) (by kernel_rfl)) rfl
                        exact o_nil (.tmp 171) rfl _ e0 ⟨_, rfl, tq_is _ _ _ _ rfl, Kept.refl _ _, fun _ _ _ _ _ => trivial⟩
                      | 25, ho, hsk =>
                        obtain rfl := Option.some.inj ho
                        have e0 : a'.eval (.tmp 172) = P0 r := is_tq (hin 24 172 (by kernel_rfl) (by kernel_rfl)) rfl
                        exact o_fld32_6 (.tmp 172) rfl r e0 ⟨_, rfl, tq_is _ _ _ _ rfl, Kept.refl _ _, fun _ _ _ _ _ => trivial⟩
                      | 26, ho, hsk =>
                        obtain rfl := Option.some.inj ho
                        have e0 : a'.eval (.tmp 173) = .pointer (some ⟨r, 6, none⟩) := is_tq (hin 25 173 (by kernel_rfl) (by kernel_rfl)) rfl
                        exact o_load2 (.tmp 173) rfl _ _ e0 (fits_cell ((unhide HRH).kept hk2 (by simp)) 6 _ rfl) ⟨_, rfl, tq_is _ _ _ _ rfl, Kept.refl _ _, fun _ _ _ _ _ => trivial⟩
                      | 27, ho, hsk =>
                        obtain rfl := Option.some.inj ho
                        have e0 : a'.eval (.tmp 170) = .int .i64 P.got := is_tq (hin 22 170 (by kernel_rfl) (by kernel_rfl)) rfl
                        have e1 : a'.eval (.tmp 174) = .int .i64 P.got := is_tq (hin 26 174 (by kernel_rfl) (by kernel_rfl)) rfl
                        exact o_eqlT2 (.tmp 170) (.tmp 174) rfl _ _ true (by simp) e0 e1 ⟨_, rfl, tq_is _ _ _ _ rfl, Kept.refl _ _, fun _ _ _ _ _ => trivial⟩
                      | 28, ho, hsk =>
                        obtain rfl := Option.some.inj ho
                        have e0 : a'.eval (.tmp 168) = .bool true := is_tq (hin 20 168 (by kernel_rfl) (by kernel_rfl)) rfl
                        have e1 : a'.eval (.tmp 175) = .bool true := is_tq (hin 27 175 (by kernel_rfl) (by kernel_rfl)) rfl
                        exact o_pick (.tmp 168) (.tmp 175) rfl _ e0 e1 ⟨_, rfl, tq_is _ _ _ _ rfl, Kept.refl _ _, fun _ _ _ _ _ => trivial⟩
                      | 29, ho, hsk =>
                        obtain rfl := Option.some.inj ho
                        have e0 : a'.eval (.tmp 176) = .bool true := is_tq (hin 28 176 (by kernel_rfl) (by kernel_rfl)) rfl
                        exact wp_move (.tmp 176) rfl _ e0 ⟨_, rfl, tq_is _ _ _ _ rfl, Kept.refl _ _, fun _ _ _ _ _ => trivial⟩
                      | 30, ho, hsk =>
                        obtain rfl := Option.some.inj ho
                        refine wp_callF 11 _ _ rfl #[] (by simp) (cf11 _ _) ((known11 _).mono ?_)
                        rintro e w3 ⟨rfl, hk3⟩
                        exact ⟨_, rfl, _, rfl, tq_is _ _ _ _ rfl, hk3, fun _ _ _ _ _ => trivial⟩
                      | 31, ho, hsk =>
                        obtain rfl := Option.some.inj ho
                        have e0 : a'.eval (.tmp 177) = .bool true := is_tq (hin 29 177 (by kernel_rfl) (by kernel_rfl)) rfl
                        have e1 : a'.eval (.tmp 178) = .bool true := is_tq (hin 30 178 (by kernel_rfl) (by kernel_rfl)) rfl
                        exact o_pick (.tmp 177) (.tmp 178) rfl _ e0 e1 ⟨_, rfl, tq_is _ _ _ _ rfl, Kept.refl _ _, fun _ _ _ _ _ => trivial⟩
                      | 32, ho, hsk =>
                        obtain rfl := Option.some.inj ho
                        have e0 : a'.eval (.tmp 179) = .bool true := is_tq (hin 31 179 (by kernel_rfl) (by kernel_rfl)) rfl
                        exact wp_assignV (.tmp 179) rfl _ e0 ⟨_, rfl, tq_is _ _ _ _ rfl, Kept.refl _ _, fun _ _ _ _ _ => trivial⟩
                    intro X9 hk9
                    replace hk9 : Kept [] w9 X9 := ⟨hk9.os, hk9.tape, hk9.output, hk9.size, hk9.block⟩
                    simp only [valsQ, List.map_cons, List.map_nil, Option.getD_some, List.take_succ_cons, List.take_zero, putAll, Act.put, List.setIfInBounds_toArray, List.set_cons_succ, List.set_cons_zero]
                    refine wpAny_done (by kernel_rfl) ?_ _
                    replace QD := hide ((unhide QD).step hk9)
                    clear hk9
                    go_wp2_with fail
                    go_ret
                    exact ⟨rfl, (unhide QD).s.k⟩
                  | true =>
                    cases g4 : decide (P.got = Q.got) with
                    | false =>
                      have H1 := hide g1
                      have H2 := hide g2
                      have H3 := hide g3
                      have H4 := hide g4
                      have HSAME : Hid (sameB P Q = false) := same_no (by
                        rintro ⟨z1, z2, z3, z4, z5⟩
                        simp [z3] at g4)
                      clear g1 g2 g3 g4
                      refine wp_region_any mixed (wpAny_tq 63 rfl (by kernel_rfl) [some (P0 r), some (P0 r), some (.pointer (some ⟨r, 4, none⟩)), some (.int .i64 P.known), some (.pointer (some ⟨q, 4, none⟩)), some (.int .i64 Q.known), some (.bool true), some (.bool true), some (P0 r), some (P0 r), some (.pointer (some ⟨r, 5, none⟩)), some (.int .i64 P.told), some (P0 r), some (P0 r), some (.pointer (some ⟨r, 4, none⟩)), some (.int .i64 P.known), some (.int .i64 (max (P.told : Int) (P.known : Int))), some (.pointer (some ⟨q, 5, none⟩)), some (.int .i64 Q.told), some (.pointer (some ⟨q, 4, none⟩)), some (.int .i64 Q.known), some (.int .i64 (max (Q.told : Int) (Q.known : Int))), some (.bool true), some (.bool true), some (.bool true), some (P0 r), some (P0 r), some (.pointer (some ⟨r, 5, none⟩)), some (.int .i64 P.told), some (.pointer (some ⟨q, 5, none⟩)), some (.int .i64 Q.told), some (.bool true), some (.bool true), some (.bool true), some (P0 r), some (P0 r), some (.pointer (some ⟨r, 6, none⟩)), some (.int .i64 P.got), some (.pointer (some ⟨q, 6, none⟩)), some (.int .i64 Q.got), some (.bool false), some (.bool false), some (.bool false), none, none, none, none, none, none, none, some (.bool false), some (.bool false), none, none, none, none, none, none, none, none, none, some (.bool false), some (.bool false)] rfl (by kernel_rfl) (by kernel_rfl) ?_ ?_)
                      · intro i o' hi hsk ho a' w2 hout hin hk2
                        replace hk2 : Kept [] wr w2 := ⟨hk2.os, hk2.tape, hk2.output, hk2.size, hk2.block⟩
                        match i, ho, hsk with
                        | 0, ho, hsk =>
                          obtain rfl := Option.some.inj ho
                          exact wp_move (.tmp 7) rfl _ ((hout 7 (by kernel_rfl)).trans rfl) ⟨_, rfl, tq_is _ _ _ _ rfl, Kept.refl _ _, fun _ _ _ _ _ => trivial⟩
                        | 1, ho, hsk =>
                          obtain rfl := Option.some.inj ho
                          have e0 : a'.eval (.tmp 86) = P0 r := is_tq (hin 0 86 (by kernel_rfl) (by kernel_rfl)) rfl
                          exact o_nil (.tmp 86) rfl _ e0 ⟨_, rfl, tq_is _ _ _ _ rfl, Kept.refl _ _, fun _ _ _ _ _ => trivial⟩
                        | 2, ho, hsk =>
                          obtain rfl := Option.some.inj ho
                          have e0 : a'.eval (.tmp 87) = P0 r := is_tq (hin 1 87 (by kernel_rfl) (by kernel_rfl)) rfl
                          exact o_fld32_4 (.tmp 87) rfl r e0 ⟨_, rfl, tq_is _ _ _ _ rfl, Kept.refl _ _, fun _ _ _ _ _ => trivial⟩
                        | 3, ho, hsk =>
                          obtain rfl := Option.some.inj ho
                          have e0 : a'.eval (.tmp 88) = .pointer (some ⟨r, 4, none⟩) := is_tq (hin 2 88 (by kernel_rfl) (by kernel_rfl)) rfl
                          exact o_load3 (.tmp 88) rfl _ _ e0 (fits_cell ((unhide HRH).kept hk2 (by simp)) 4 _ rfl) ⟨_, rfl, tq_is _ _ _ _ rfl, Kept.refl _ _, fun _ _ _ _ _ => trivial⟩
                        | 4, ho, hsk =>
                          obtain rfl := Option.some.inj ho
                          exact o_fld32_4 (.tmp 10) rfl q ((hout 10 (by kernel_rfl)).trans rfl) ⟨_, rfl, tq_is _ _ _ _ rfl, Kept.refl _ _, fun _ _ _ _ _ => trivial⟩
                        | 5, ho, hsk =>
                          obtain rfl := Option.some.inj ho
                          have e0 : a'.eval (.tmp 90) = .pointer (some ⟨q, 4, none⟩) := is_tq (hin 4 90 (by kernel_rfl) (by kernel_rfl)) rfl
                          exact o_load3 (.tmp 90) rfl _ _ e0 (fits_cell ((unhide HQH).kept hk2 (by simp)) 4 _ rfl) ⟨_, rfl, tq_is _ _ _ _ rfl, Kept.refl _ _, fun _ _ _ _ _ => trivial⟩
                        | 6, ho, hsk =>
                          obtain rfl := Option.some.inj ho
                          have e0 : a'.eval (.tmp 89) = .int .i64 P.known := is_tq (hin 3 89 (by kernel_rfl) (by kernel_rfl)) rfl
                          have e1 : a'.eval (.tmp 91) = .int .i64 Q.known := is_tq (hin 5 91 (by kernel_rfl) (by kernel_rfl)) rfl
                          exact o_eqlT3 (.tmp 89) (.tmp 91) rfl _ _ true (unhide H1) e0 e1 ⟨_, rfl, tq_is _ _ _ _ rfl, Kept.refl _ _, fun _ _ _ _ _ => trivial⟩
                        | 7, ho, hsk =>
                          obtain rfl := Option.some.inj ho
                          have e0 : a'.eval (.tmp 92) = .bool true := is_tq (hin 6 92 (by kernel_rfl) (by kernel_rfl)) rfl
                          exact wp_move (.tmp 92) rfl _ e0 ⟨_, rfl, tq_is _ _ _ _ rfl, Kept.refl _ _, fun _ _ _ _ _ => trivial⟩
                        | 8, ho, hsk =>
                          obtain rfl := Option.some.inj ho
                          exact wp_move (.tmp 7) rfl _ ((hout 7 (by kernel_rfl)).trans rfl) ⟨_, rfl, tq_is _ _ _ _ rfl, Kept.refl _ _, fun _ _ _ _ _ => trivial⟩
                        | 9, ho, hsk =>
                          obtain rfl := Option.some.inj ho
                          have e0 : a'.eval (.tmp 94) = P0 r := is_tq (hin 8 94 (by kernel_rfl) (by kernel_rfl)) rfl
                          exact o_nil (.tmp 94) rfl _ e0 ⟨_, rfl, tq_is _ _ _ _ rfl, Kept.refl _ _, fun _ _ _ _ _ => trivial⟩
                        | 10, ho, hsk =>
                          obtain rfl := Option.some.inj ho
                          have e0 : a'.eval (.tmp 95) = P0 r := is_tq (hin 9 95 (by kernel_rfl) (by kernel_rfl)) rfl
                          exact o_fld32_5 (.tmp 95) rfl r e0 ⟨_, rfl, tq_is _ _ _ _ rfl, Kept.refl _ _, fun _ _ _ _ _ => trivial⟩
                        | 11, ho, hsk =>
                          obtain rfl := Option.some.inj ho
                          have e0 : a'.eval (.tmp 96) = .pointer (some ⟨r, 5, none⟩) := is_tq (hin 10 96 (by kernel_rfl) (by kernel_rfl)) rfl
                          exact o_load3 (.tmp 96) rfl _ _ e0 (fits_cell ((unhide HRH).kept hk2 (by simp)) 5 _ rfl) ⟨_, rfl, tq_is _ _ _ _ rfl, Kept.refl _ _, fun _ _ _ _ _ => trivial⟩
                        | 12, ho, hsk =>
                          obtain rfl := Option.some.inj ho
                          exact wp_move (.tmp 7) rfl _ ((hout 7 (by kernel_rfl)).trans rfl) ⟨_, rfl, tq_is _ _ _ _ rfl, Kept.refl _ _, fun _ _ _ _ _ => trivial⟩
                        | 13, ho, hsk =>
                          obtain rfl := Option.some.inj ho
                          have e0 : a'.eval (.tmp 98) = P0 r := is_tq (hin 12 98 (by kernel_rfl) (by kernel_rfl)) rfl
                          exact o_nil (.tmp 98) rfl _ e0 ⟨_, rfl, tq_is _ _ _ _ rfl, Kept.refl _ _, fun _ _ _ _ _ => trivial⟩
                        | 14, ho, hsk =>
                          obtain rfl := Option.some.inj ho
                          have e0 : a'.eval (.tmp 99) = P0 r := is_tq (hin 13 99 (by kernel_rfl) (by kernel_rfl)) rfl
                          exact o_fld32_4 (.tmp 99) rfl r e0 ⟨_, rfl, tq_is _ _ _ _ rfl, Kept.refl _ _, fun _ _ _ _ _ => trivial⟩
                        | 15, ho, hsk =>
                          obtain rfl := Option.some.inj ho
                          have e0 : a'.eval (.tmp 100) = .pointer (some ⟨r, 4, none⟩) := is_tq (hin 14 100 (by kernel_rfl) (by kernel_rfl)) rfl
                          exact o_load3 (.tmp 100) rfl _ _ e0 (fits_cell ((unhide HRH).kept hk2 (by simp)) 4 _ rfl) ⟨_, rfl, tq_is _ _ _ _ rfl, Kept.refl _ _, fun _ _ _ _ _ => trivial⟩
                        | 16, ho, hsk =>
                          obtain rfl := Option.some.inj ho
                          have e0 : a'.eval (.tmp 97) = .int .i64 P.told := is_tq (hin 11 97 (by kernel_rfl) (by kernel_rfl)) rfl
                          have e1 : a'.eval (.tmp 101) = .int .i64 P.known := is_tq (hin 15 101 (by kernel_rfl) (by kernel_rfl)) rfl
                          exact o_max3 (.tmp 97) (.tmp 101) rfl _ _ e0 e1 ⟨_, rfl, tq_is _ _ _ _ rfl, Kept.refl _ _, fun _ _ _ _ _ => trivial⟩
                        | 17, ho, hsk =>
                          obtain rfl := Option.some.inj ho
                          exact o_fld32_5 (.tmp 10) rfl q ((hout 10 (by kernel_rfl)).trans rfl) ⟨_, rfl, tq_is _ _ _ _ rfl, Kept.refl _ _, fun _ _ _ _ _ => trivial⟩
                        | 18, ho, hsk =>
                          obtain rfl := Option.some.inj ho
                          have e0 : a'.eval (.tmp 103) = .pointer (some ⟨q, 5, none⟩) := is_tq (hin 17 103 (by kernel_rfl) (by kernel_rfl)) rfl
                          exact o_load3 (.tmp 103) rfl _ _ e0 (fits_cell ((unhide HQH).kept hk2 (by simp)) 5 _ rfl) ⟨_, rfl, tq_is _ _ _ _ rfl, Kept.refl _ _, fun _ _ _ _ _ => trivial⟩
                        | 19, ho, hsk =>
                          obtain rfl := Option.some.inj ho
                          exact o_fld32_4 (.tmp 10) rfl q ((hout 10 (by kernel_rfl)).trans rfl) ⟨_, rfl, tq_is _ _ _ _ rfl, Kept.refl _ _, fun _ _ _ _ _ => trivial⟩
                        | 20, ho, hsk =>
                          obtain rfl := Option.some.inj ho
                          have e0 : a'.eval (.tmp 105) = .pointer (some ⟨q, 4, none⟩) := is_tq (hin 19 105 (by kernel_rfl) (by kernel_rfl)) rfl
                          exact o_load3 (.tmp 105) rfl _ _ e0 (fits_cell ((unhide HQH).kept hk2 (by simp)) 4 _ rfl) ⟨_, rfl, tq_is _ _ _ _ rfl, Kept.refl _ _, fun _ _ _ _ _ => trivial⟩
                        | 21, ho, hsk =>
                          obtain rfl := Option.some.inj ho
                          have e0 : a'.eval (.tmp 104) = .int .i64 Q.told := is_tq (hin 18 104 (by kernel_rfl) (by kernel_rfl)) rfl
                          have e1 : a'.eval (.tmp 106) = .int .i64 Q.known := is_tq (hin 20 106 (by kernel_rfl) (by kernel_rfl)) rfl
                          exact o_max3 (.tmp 104) (.tmp 106) rfl _ _ e0 e1 ⟨_, rfl, tq_is _ _ _ _ rfl, Kept.refl _ _, fun _ _ _ _ _ => trivial⟩
                        | 22, ho, hsk =>
                          obtain rfl := Option.some.inj ho
                          have e0 : a'.eval (.tmp 102) = .int .i64 (max (P.told : Int) (P.known : Int)) := is_tq (hin 16 102 (by kernel_rfl) (by kernel_rfl)) rfl
                          have e1 : a'.eval (.tmp 107) = .int .i64 (max (Q.told : Int) (Q.known : Int)) := is_tq (hin 21 107 (by kernel_rfl) (by kernel_rfl)) rfl
                          exact o_eqlT3 (.tmp 102) (.tmp 107) rfl _ _ true (unhide H2) e0 e1 ⟨_, rfl, tq_is _ _ _ _ rfl, Kept.refl _ _, fun _ _ _ _ _ => trivial⟩
                        | 23, ho, hsk =>
                          obtain rfl := Option.some.inj ho
                          have e0 : a'.eval (.tmp 93) = .bool true := is_tq (hin 7 93 (by kernel_rfl) (by kernel_rfl)) rfl
                          have e1 : a'.eval (.tmp 108) = .bool true := is_tq (hin 22 108 (by kernel_rfl) (by kernel_rfl)) rfl
                          exact o_pick (.tmp 93) (.tmp 108) rfl _ e0 e1 ⟨_, rfl, tq_is _ _ _ _ rfl, Kept.refl _ _, fun _ _ _ _ _ => trivial⟩
                        | 24, ho, hsk =>
                          obtain rfl := Option.some.inj ho
                          have e0 : a'.eval (.tmp 109) = .bool true := is_tq (hin 23 109 (by kernel_rfl) (by kernel_rfl)) rfl
                          exact wp_move (.tmp 109) rfl _ e0 ⟨_, rfl, tq_is _ _ _ _ rfl, Kept.refl _ _, fun _ _ _ _ _ => trivial⟩
                        | 25, ho, hsk =>
                          obtain rfl := Option.some.inj ho
                          exact wp_move (.tmp 7) rfl _ ((hout 7 (by kernel_rfl)).trans rfl) ⟨_, rfl, tq_is _ _ _ _ rfl, Kept.refl _ _, fun _ _ _ _ _ => trivial⟩
                        | 26, ho, hsk =>
                          obtain rfl := Option.some.inj ho
                          have e0 : a'.eval (.tmp 111) = P0 r := is_tq (hin 25 111 (by kernel_rfl) (by kernel_rfl)) rfl
                          exact o_nil (.tmp 111) rfl _ e0 ⟨_, rfl, tq_is _ _ _ _ rfl, Kept.refl _ _, fun _ _ _ _ _ => trivial⟩
                        | 27, ho, hsk =>
                          obtain rfl := Option.some.inj ho
                          have e0 : a'.eval (.tmp 112) = P0 r := is_tq (hin 26 112 (by kernel_rfl) (by kernel_rfl)) rfl
                          exact o_fld32_5 (.tmp 112) rfl r e0 ⟨_, rfl, tq_is _ _ _ _ rfl, Kept.refl _ _, fun _ _ _ _ _ => trivial⟩
                        | 28, ho, hsk =>
                          obtain rfl := Option.some.inj ho
                          have e0 : a'.eval (.tmp 113) = .pointer (some ⟨r, 5, none⟩) := is_tq (hin 27 113 (by kernel_rfl) (by kernel_rfl)) rfl
                          exact o_load3 (.tmp 113) rfl _ _ e0 (fits_cell ((unhide HRH).kept hk2 (by simp)) 5 _ rfl) ⟨_, rfl, tq_is _ _ _ _ rfl, Kept.refl _ _, fun _ _ _ _ _ => trivial⟩
                        | 29, ho, hsk =>
                          obtain rfl := Option.some.inj ho
                          exact o_fld32_5 (.tmp 10) rfl q ((hout 10 (by kernel_rfl)).trans rfl) ⟨_, rfl, tq_is _ _ _ _ rfl, Kept.refl _ _, fun _ _ _ _ _ => trivial⟩
                        | 30, ho, hsk =>
                          obtain rfl := Option.some.inj ho
                          have e0 : a'.eval (.tmp 115) = .pointer (some ⟨q, 5, none⟩) := is_tq (hin 29 115 (by kernel_rfl) (by kernel_rfl)) rfl
                          exact o_load3 (.tmp 115) rfl _ _ e0 (fits_cell ((unhide HQH).kept hk2 (by simp)) 5 _ rfl) ⟨_, rfl, tq_is _ _ _ _ rfl, Kept.refl _ _, fun _ _ _ _ _ => trivial⟩
                        | 31, ho, hsk =>
                          obtain rfl := Option.some.inj ho
                          have e0 : a'.eval (.tmp 114) = .int .i64 P.told := is_tq (hin 28 114 (by kernel_rfl) (by kernel_rfl)) rfl
                          have e1 : a'.eval (.tmp 116) = .int .i64 Q.told := is_tq (hin 30 116 (by kernel_rfl) (by kernel_rfl)) rfl
                          exact o_eqlT3 (.tmp 114) (.tmp 116) rfl _ _ true (unhide H3) e0 e1 ⟨_, rfl, tq_is _ _ _ _ rfl, Kept.refl _ _, fun _ _ _ _ _ => trivial⟩
                        | 32, ho, hsk =>
                          obtain rfl := Option.some.inj ho
                          have e0 : a'.eval (.tmp 110) = .bool true := is_tq (hin 24 110 (by kernel_rfl) (by kernel_rfl)) rfl
                          have e1 : a'.eval (.tmp 117) = .bool true := is_tq (hin 31 117 (by kernel_rfl) (by kernel_rfl)) rfl
                          exact o_pick (.tmp 110) (.tmp 117) rfl _ e0 e1 ⟨_, rfl, tq_is _ _ _ _ rfl, Kept.refl _ _, fun _ _ _ _ _ => trivial⟩
                        | 33, ho, hsk =>
                          obtain rfl := Option.some.inj ho
                          have e0 : a'.eval (.tmp 118) = .bool true := is_tq (hin 32 118 (by kernel_rfl) (by kernel_rfl)) rfl
                          exact wp_move (.tmp 118) rfl _ e0 ⟨_, rfl, tq_is _ _ _ _ rfl, Kept.refl _ _, fun _ _ _ _ _ => trivial⟩
                        | 34, ho, hsk =>
                          obtain rfl := Option.some.inj ho
                          exact wp_move (.tmp 7) rfl _ ((hout 7 (by kernel_rfl)).trans rfl) ⟨_, rfl, tq_is _ _ _ _ rfl, Kept.refl _ _, fun _ _ _ _ _ => trivial⟩
                        | 35, ho, hsk =>
                          obtain rfl := Option.some.inj ho
                          have e0 : a'.eval (.tmp 120) = P0 r := is_tq (hin 34 120 (by kernel_rfl) (by kernel_rfl)) rfl
                          exact o_nil (.tmp 120) rfl _ e0 ⟨_, rfl, tq_is _ _ _ _ rfl, Kept.refl _ _, fun _ _ _ _ _ => trivial⟩
                        | 36, ho, hsk =>
                          obtain rfl := Option.some.inj ho
                          have e0 : a'.eval (.tmp 121) = P0 r := is_tq (hin 35 121 (by kernel_rfl) (by kernel_rfl)) rfl
                          exact o_fld32_6 (.tmp 121) rfl r e0 ⟨_, rfl, tq_is _ _ _ _ rfl, Kept.refl _ _, fun _ _ _ _ _ => trivial⟩
                        | 37, ho, hsk =>
                          obtain rfl := Option.some.inj ho
                          have e0 : a'.eval (.tmp 122) = .pointer (some ⟨r, 6, none⟩) := is_tq (hin 36 122 (by kernel_rfl) (by kernel_rfl)) rfl
                          exact o_load2 (.tmp 122) rfl _ _ e0 (fits_cell ((unhide HRH).kept hk2 (by simp)) 6 _ rfl) ⟨_, rfl, tq_is _ _ _ _ rfl, Kept.refl _ _, fun _ _ _ _ _ => trivial⟩
                        | 38, ho, hsk =>
                          obtain rfl := Option.some.inj ho
                          exact o_fld32_6 (.tmp 10) rfl q ((hout 10 (by kernel_rfl)).trans rfl) ⟨_, rfl, tq_is _ _ _ _ rfl, Kept.refl _ _, fun _ _ _ _ _ => trivial⟩
                        | 39, ho, hsk =>
                          obtain rfl := Option.some.inj ho
                          have e0 : a'.eval (.tmp 124) = .pointer (some ⟨q, 6, none⟩) := is_tq (hin 38 124 (by kernel_rfl) (by kernel_rfl)) rfl
                          exact o_load2 (.tmp 124) rfl _ _ e0 (fits_cell ((unhide HQH).kept hk2 (by simp)) 6 _ rfl) ⟨_, rfl, tq_is _ _ _ _ rfl, Kept.refl _ _, fun _ _ _ _ _ => trivial⟩
                        | 40, ho, hsk =>
                          obtain rfl := Option.some.inj ho
                          have e0 : a'.eval (.tmp 123) = .int .i64 P.got := is_tq (hin 37 123 (by kernel_rfl) (by kernel_rfl)) rfl
                          have e1 : a'.eval (.tmp 125) = .int .i64 Q.got := is_tq (hin 39 125 (by kernel_rfl) (by kernel_rfl)) rfl
                          exact o_eqlT2 (.tmp 123) (.tmp 125) rfl _ _ false (unhide H4) e0 e1 ⟨_, rfl, tq_is _ _ _ _ rfl, Kept.refl _ _, fun _ _ _ _ _ => trivial⟩
                        | 41, ho, hsk =>
                          obtain rfl := Option.some.inj ho
                          have e0 : a'.eval (.tmp 119) = .bool true := is_tq (hin 33 119 (by kernel_rfl) (by kernel_rfl)) rfl
                          have e1 : a'.eval (.tmp 126) = .bool false := is_tq (hin 40 126 (by kernel_rfl) (by kernel_rfl)) rfl
                          exact o_pick (.tmp 119) (.tmp 126) rfl _ e0 e1 ⟨_, rfl, tq_is _ _ _ _ rfl, Kept.refl _ _, fun _ _ _ _ _ => trivial⟩
                        | 42, ho, hsk =>
                          obtain rfl := Option.some.inj ho
                          have e0 : a'.eval (.tmp 127) = .bool false := is_tq (hin 41 127 (by kernel_rfl) (by kernel_rfl)) rfl
                          exact wp_move (.tmp 127) rfl _ e0 ⟨_, rfl, tq_is _ _ _ _ rfl, Kept.refl _ _, fun _ _ _ _ _ => trivial⟩
                        | 43, ho, hsk =>
                          cases hsk
                        | 44, ho, hsk =>
                          cases hsk
                        | 45, ho, hsk =>
                          cases hsk
                        | 46, ho, hsk =>
                          cases hsk
                        | 47, ho, hsk =>
                          cases hsk
                        | 48, ho, hsk =>
                          cases hsk
                        | 49, ho, hsk =>
                          cases hsk
                        | 50, ho, hsk =>
                          obtain rfl := Option.some.inj ho
                          have e0 : a'.eval (.tmp 128) = .bool false := is_tq (hin 42 128 (by kernel_rfl) (by kernel_rfl)) rfl
                          exact o_pickN (.tmp 128) (.tmp 135) rfl e0 ⟨_, rfl, tq_is _ _ _ _ rfl, Kept.refl _ _, fun _ _ _ _ _ => trivial⟩
                        | 51, ho, hsk =>
                          obtain rfl := Option.some.inj ho
                          have e0 : a'.eval (.tmp 136) = .bool false := is_tq (hin 50 136 (by kernel_rfl) (by kernel_rfl)) rfl
                          exact wp_move (.tmp 136) rfl _ e0 ⟨_, rfl, tq_is _ _ _ _ rfl, Kept.refl _ _, fun _ _ _ _ _ => trivial⟩
                        | 52, ho, hsk =>
                          cases hsk
                        | 53, ho, hsk =>
                          cases hsk
                        | 54, ho, hsk =>
                          cases hsk
                        | 55, ho, hsk =>
                          cases hsk
                        | 56, ho, hsk =>
                          cases hsk
                        | 57, ho, hsk =>
                          cases hsk
                        | 58, ho, hsk =>
                          cases hsk
                        | 59, ho, hsk =>
                          cases hsk
                        | 60, ho, hsk =>
                          cases hsk
                        | 61, ho, hsk =>
                          obtain rfl := Option.some.inj ho
                          have e0 : a'.eval (.tmp 137) = .bool false := is_tq (hin 51 137 (by kernel_rfl) (by kernel_rfl)) rfl
                          exact o_pickN (.tmp 137) (.tmp 146) rfl e0 ⟨_, rfl, tq_is _ _ _ _ rfl, Kept.refl _ _, fun _ _ _ _ _ => trivial⟩
                        | 62, ho, hsk =>
                          obtain rfl := Option.some.inj ho
                          have e0 : a'.eval (.tmp 147) = .bool false := is_tq (hin 61 147 (by kernel_rfl) (by kernel_rfl)) rfl
                          exact wp_assignV (.tmp 147) rfl _ e0 ⟨_, rfl, tq_is _ _ _ _ rfl, Kept.refl _ _, fun _ _ _ _ _ => trivial⟩
                      intro w9 hk9
                      replace hk9 : Kept [] wr w9 := ⟨hk9.os, hk9.tape, hk9.output, hk9.size, hk9.block⟩
                      simp only [valsQ, List.map_cons, List.map_nil, Option.getD_some, Option.getD_none, List.take_succ_cons, List.take_zero, putAll, Act.put, List.setIfInBounds_toArray, List.set_cons_succ, List.set_cons_zero]
                      refine wpAny_done (by kernel_rfl) ?_ _
                      replace QD := hide ((unhide QD).step hk9)
                      replace HRH := hide (unhide QD).rx.head
                      clear hk9 HQH
                      go_wp2_with fail
                      refine wp_region_any mixed (wpAny_tq 33 rfl (by kernel_rfl) [some (P0 b), some (P0 c), some (.bool false), some (.bool false), some (.bool true), some (.bool true), some (P0 b), some (.int .i64 ws.length), some (P0 r), some (P0 r), some (.pointer (some ⟨r, 3, none⟩)), some (rv), some (.int .i64 rs.length), some (P0 r), some (P0 r), some (.pointer (some ⟨r, 4, none⟩)), some (.int .i64 P.known), some (.int .i64 ws.length), some (.bool true), some (.bool true), some (.bool true), some (P0 b), some (.int .i64 P.got), some (P0 r), some (P0 r), some (.pointer (some ⟨r, 6, none⟩)), some (.int .i64 P.got), some (.bool true), some (.bool true), some (.bool true), some (.bool true), some (.bool true), some (.bool true)] rfl (by kernel_rfl) (by kernel_rfl) ?_ ?_)
                      · intro i o' hi hsk ho a' w2 hout hin hk2
                        replace hk2 : Kept [] w9 w2 := ⟨hk2.os, hk2.tape, hk2.output, hk2.size, hk2.block⟩
                        match i, ho, hsk with
                        | 0, ho, hsk =>
                          obtain rfl := Option.some.inj ho
                          exact wp_move (.tmp 5) rfl _ ((hout 5 (by kernel_rfl)).trans rfl) ⟨_, rfl, tq_is _ _ _ _ rfl, Kept.refl _ _, fun _ _ _ _ _ => trivial⟩
                        | 1, ho, hsk =>
                          obtain rfl := Option.some.inj ho
                          exact wp_move (.tmp 9) rfl _ ((hout 9 (by kernel_rfl)).trans rfl) ⟨_, rfl, tq_is _ _ _ _ rfl, Kept.refl _ _, fun _ _ _ _ _ => trivial⟩
                        | 2, ho, hsk =>
                          obtain rfl := Option.some.inj ho
                          have e0 : a'.eval (.tmp 148) = P0 b := is_tq (hin 0 148 (by kernel_rfl) (by kernel_rfl)) rfl
                          have e1 : a'.eval (.tmp 149) = P0 c := is_tq (hin 1 149 (by kernel_rfl) (by kernel_rfl)) rfl
                          refine wp_callF 28 _ _ rfl #[P0 b, P0 c] (by simp [e0, e1]) (cf28 _ _) ((k_same b c _ _ _ _ P Q false (unhide HSAME) _ ((unhide QD).s.sx.kept0 hk2) ((unhide QD).cp.sx.kept0 hk2)).mono ?_)
                          rintro e w3 ⟨rfl, hk3⟩
                          exact ⟨_, rfl, _, rfl, tq_is _ _ _ _ rfl, hk3, fun _ _ _ _ _ => trivial⟩
                        | 3, ho, hsk =>
                          obtain rfl := Option.some.inj ho
                          exact wp_move (.tmp 12) rfl _ ((hout 12 (by kernel_rfl)).trans rfl) ⟨_, rfl, tq_is _ _ _ _ rfl, Kept.refl _ _, fun _ _ _ _ _ => trivial⟩
                        | 4, ho, hsk =>
                          obtain rfl := Option.some.inj ho
                          have e0 : a'.eval (.tmp 150) = .bool false := is_tq (hin 2 150 (by kernel_rfl) (by kernel_rfl)) rfl
                          have e1 : a'.eval (.tmp 151) = .bool false := is_tq (hin 3 151 (by kernel_rfl) (by kernel_rfl)) rfl
                          exact o_eqlT4 (.tmp 150) (.tmp 151) rfl _ _ true (by simp) e0 e1 ⟨_, rfl, tq_is _ _ _ _ rfl, Kept.refl _ _, fun _ _ _ _ _ => trivial⟩
                        | 5, ho, hsk =>
                          obtain rfl := Option.some.inj ho
                          have e0 : a'.eval (.tmp 152) = .bool true := is_tq (hin 4 152 (by kernel_rfl) (by kernel_rfl)) rfl
                          exact wp_move (.tmp 152) rfl _ e0 ⟨_, rfl, tq_is _ _ _ _ rfl, Kept.refl _ _, fun _ _ _ _ _ => trivial⟩
                        | 6, ho, hsk =>
                          obtain rfl := Option.some.inj ho
                          exact wp_move (.tmp 5) rfl _ ((hout 5 (by kernel_rfl)).trans rfl) ⟨_, rfl, tq_is _ _ _ _ rfl, Kept.refl _ _, fun _ _ _ _ _ => trivial⟩
                        | 7, ho, hsk =>
                          obtain rfl := Option.some.inj ho
                          have e0 : a'.eval (.tmp 154) = P0 b := is_tq (hin 6 154 (by kernel_rfl) (by kernel_rfl)) rfl
                          refine wp_callF 22 _ _ rfl #[P0 b] (by simp [e0]) (cf22 _ _) ((waits22 b v ws P _ ((unhide QD).s.sx.kept0 hk2)).mono ?_)
                          rintro e w3 ⟨rfl, q3, rfl⟩
                          exact ⟨_, rfl, _, rfl, tq_is _ _ _ _ rfl, kept_drewN _ _ _, fun _ _ _ _ _ => trivial⟩
                        | 8, ho, hsk =>
                          obtain rfl := Option.some.inj ho
                          exact wp_move (.tmp 7) rfl _ ((hout 7 (by kernel_rfl)).trans rfl) ⟨_, rfl, tq_is _ _ _ _ rfl, Kept.refl _ _, fun _ _ _ _ _ => trivial⟩
                        | 9, ho, hsk =>
                          obtain rfl := Option.some.inj ho
                          have e0 : a'.eval (.tmp 156) = P0 r := is_tq (hin 8 156 (by kernel_rfl) (by kernel_rfl)) rfl
                          exact o_nil (.tmp 156) rfl _ e0 ⟨_, rfl, tq_is _ _ _ _ rfl, Kept.refl _ _, fun _ _ _ _ _ => trivial⟩
                        | 10, ho, hsk =>
                          obtain rfl := Option.some.inj ho
                          have e0 : a'.eval (.tmp 157) = P0 r := is_tq (hin 9 157 (by kernel_rfl) (by kernel_rfl)) rfl
                          exact o_fld32_3 (.tmp 157) rfl r e0 ⟨_, rfl, tq_is _ _ _ _ rfl, Kept.refl _ _, fun _ _ _ _ _ => trivial⟩
                        | 11, ho, hsk =>
                          obtain rfl := Option.some.inj ho
                          have e0 : a'.eval (.tmp 158) = .pointer (some ⟨r, 3, none⟩) := is_tq (hin 10 158 (by kernel_rfl) (by kernel_rfl)) rfl
                          exact o_load30 (.tmp 158) rfl _ _ e0 (fits_cell ((unhide HRH).kept hk2 (by simp)) 3 _ rfl) ⟨_, rfl, tq_is _ _ _ _ rfl, Kept.refl _ _, fun _ _ _ _ _ => trivial⟩
                        | 12, ho, hsk =>
                          obtain rfl := Option.some.inj ho
                          have e0 : a'.eval (.tmp 159) = rv := is_tq (hin 11 159 (by kernel_rfl) (by kernel_rfl)) rfl
                          exact o_len30 (.tmp 159) rfl ro rs.length rc (by rw [e0]; exact unhide HRV) ⟨_, rfl, tq_is _ _ _ _ rfl, Kept.refl _ _, fun _ _ _ _ _ => trivial⟩
                        | 13, ho, hsk =>
                          obtain rfl := Option.some.inj ho
                          exact wp_move (.tmp 7) rfl _ ((hout 7 (by kernel_rfl)).trans rfl) ⟨_, rfl, tq_is _ _ _ _ rfl, Kept.refl _ _, fun _ _ _ _ _ => trivial⟩
                        | 14, ho, hsk =>
                          obtain rfl := Option.some.inj ho
                          have e0 : a'.eval (.tmp 161) = P0 r := is_tq (hin 13 161 (by kernel_rfl) (by kernel_rfl)) rfl
                          exact o_nil (.tmp 161) rfl _ e0 ⟨_, rfl, tq_is _ _ _ _ rfl, Kept.refl _ _, fun _ _ _ _ _ => trivial⟩
                        | 15, ho, hsk =>
                          obtain rfl := Option.some.inj ho
                          have e0 : a'.eval (.tmp 162) = P0 r := is_tq (hin 14 162 (by kernel_rfl) (by kernel_rfl)) rfl
                          exact o_fld32_4 (.tmp 162) rfl r e0 ⟨_, rfl, tq_is _ _ _ _ rfl, Kept.refl _ _, fun _ _ _ _ _ => trivial⟩
                        | 16, ho, hsk =>
                          obtain rfl := Option.some.inj ho
                          have e0 : a'.eval (.tmp 163) = .pointer (some ⟨r, 4, none⟩) := is_tq (hin 15 163 (by kernel_rfl) (by kernel_rfl)) rfl
                          exact o_load3 (.tmp 163) rfl _ _ e0 (fits_cell ((unhide HRH).kept hk2 (by simp)) 4 _ rfl) ⟨_, rfl, tq_is _ _ _ _ rfl, Kept.refl _ _, fun _ _ _ _ _ => trivial⟩
                        | 17, ho, hsk =>
                          obtain rfl := Option.some.inj ho
                          have e0 : a'.eval (.tmp 160) = .int .i64 rs.length := is_tq (hin 12 160 (by kernel_rfl) (by kernel_rfl)) rfl
                          have e1 : a'.eval (.tmp 164) = .int .i64 P.known := is_tq (hin 16 164 (by kernel_rfl) (by kernel_rfl)) rfl
                          refine o_sub3 (.tmp 160) (.tmp 164) rfl _ _ (by have := unhide HLE; omega) e0 e1 ?_
                          rw [(unhide HLE).1]
                          exact ⟨_, rfl, tq_is _ _ _ _ rfl, Kept.refl _ _, fun _ _ _ _ _ => trivial⟩
                        | 18, ho, hsk =>
                          obtain rfl := Option.some.inj ho
                          have e0 : a'.eval (.tmp 155) = .int .i64 ws.length := is_tq (hin 7 155 (by kernel_rfl) (by kernel_rfl)) rfl
                          have e1 : a'.eval (.tmp 165) = .int .i64 ws.length := is_tq (hin 17 165 (by kernel_rfl) (by kernel_rfl)) rfl
                          exact o_eqlT3 (.tmp 155) (.tmp 165) rfl _ _ true (by simp) e0 e1 ⟨_, rfl, tq_is _ _ _ _ rfl, Kept.refl _ _, fun _ _ _ _ _ => trivial⟩
                        | 19, ho, hsk =>
                          obtain rfl := Option.some.inj ho
                          have e0 : a'.eval (.tmp 153) = .bool true := is_tq (hin 5 153 (by kernel_rfl) (by kernel_rfl)) rfl
                          have e1 : a'.eval (.tmp 166) = .bool true := is_tq (hin 18 166 (by kernel_rfl) (by kernel_rfl)) rfl
                          exact o_pick (.tmp 153) (.tmp 166) rfl _ e0 e1 ⟨_, rfl, tq_is _ _ _ _ rfl, Kept.refl _ _, fun _ _ _ _ _ => trivial⟩
                        | 20, ho, hsk =>
                          obtain rfl := Option.some.inj ho
                          have e0 : a'.eval (.tmp 167) = .bool true := is_tq (hin 19 167 (by kernel_rfl) (by kernel_rfl)) rfl
                          exact wp_move (.tmp 167) rfl _ e0 ⟨_, rfl, tq_is _ _ _ _ rfl, Kept.refl _ _, fun _ _ _ _ _ => trivial⟩
                        | 21, ho, hsk =>
                          obtain rfl := Option.some.inj ho
                          exact wp_move (.tmp 5) rfl _ ((hout 5 (by kernel_rfl)).trans rfl) ⟨_, rfl, tq_is _ _ _ _ rfl, Kept.refl _ _, fun _ _ _ _ _ => trivial⟩
                        | 22, ho, hsk =>
                          obtain rfl := Option.some.inj ho
                          have e0 : a'.eval (.tmp 169) = P0 b := is_tq (hin 21 169 (by kernel_rfl) (by kernel_rfl)) rfl
                          refine wp_callF 23 _ _ rfl #[P0 b] (by simp [e0]) (cf23 _ _) ((got23 b v ws P _ ((unhide QD).s.sx.kept0 hk2)).mono ?_)
                          rintro e w3 ⟨rfl, q3, rfl⟩
                          exact ⟨_, rfl, _, rfl, tq_is _ _ _ _ rfl, kept_drewN _ _ _, fun _ _ _ _ _ => trivial⟩
                        | 23, ho, hsk =>
                          obtain rfl := Option.some.inj ho
                          exact wp_move (.tmp 7) rfl _ ((hout 7 (by kernel_rfl)).trans rfl) ⟨_, rfl, tq_is _ _ _ _ rfl, Kept.refl _ _, fun _ _ _ _ _ => trivial⟩
                        | 24, ho, hsk =>
                          obtain rfl := Option.some.inj ho
                          have e0 : a'.eval (.tmp 171) = P0 r := is_tq (hin 23 171 (by kernel_rfl) (by kernel_rfl)) rfl
                          exact o_nil (.tmp 171) rfl _ e0 ⟨_, rfl, tq_is _ _ _ _ rfl, Kept.refl _ _, fun _ _ _ _ _ => trivial⟩
                        | 25, ho, hsk =>
                          obtain rfl := Option.some.inj ho
                          have e0 : a'.eval (.tmp 172) = P0 r := is_tq (hin 24 172 (by kernel_rfl) (by kernel_rfl)) rfl
                          exact o_fld32_6 (.tmp 172) rfl r e0 ⟨_, rfl, tq_is _ _ _ _ rfl, Kept.refl _ _, fun _ _ _ _ _ => trivial⟩
                        | 26, ho, hsk =>
                          obtain rfl := Option.some.inj ho
                          have e0 : a'.eval (.tmp 173) = .pointer (some ⟨r, 6, none⟩) := is_tq (hin 25 173 (by kernel_rfl) (by kernel_rfl)) rfl
                          exact o_load2 (.tmp 173) rfl _ _ e0 (fits_cell ((unhide HRH).kept hk2 (by simp)) 6 _ rfl) ⟨_, rfl, tq_is _ _ _ _ rfl, Kept.refl _ _, fun _ _ _ _ _ => trivial⟩
                        | 27, ho, hsk =>
                          obtain rfl := Option.some.inj ho
                          have e0 : a'.eval (.tmp 170) = .int .i64 P.got := is_tq (hin 22 170 (by kernel_rfl) (by kernel_rfl)) rfl
                          have e1 : a'.eval (.tmp 174) = .int .i64 P.got := is_tq (hin 26 174 (by kernel_rfl) (by kernel_rfl)) rfl
                          exact o_eqlT2 (.tmp 170) (.tmp 174) rfl _ _ true (by simp) e0 e1 ⟨_, rfl, tq_is _ _ _ _ rfl, Kept.refl _ _, fun _ _ _ _ _ => trivial⟩
                        | 28, ho, hsk =>
                          obtain rfl := Option.some.inj ho
                          have e0 : a'.eval (.tmp 168) = .bool true := is_tq (hin 20 168 (by kernel_rfl) (by kernel_rfl)) rfl
                          have e1 : a'.eval (.tmp 175) = .bool true := is_tq (hin 27 175 (by kernel_rfl) (by kernel_rfl)) rfl
                          exact o_pick (.tmp 168) (.tmp 175) rfl _ e0 e1 ⟨_, rfl, tq_is _ _ _ _ rfl, Kept.refl _ _, fun _ _ _ _ _ => trivial⟩
                        | 29, ho, hsk =>
                          obtain rfl := Option.some.inj ho
                          have e0 : a'.eval (.tmp 176) = .bool true := is_tq (hin 28 176 (by kernel_rfl) (by kernel_rfl)) rfl
                          exact wp_move (.tmp 176) rfl _ e0 ⟨_, rfl, tq_is _ _ _ _ rfl, Kept.refl _ _, fun _ _ _ _ _ => trivial⟩
                        | 30, ho, hsk =>
                          obtain rfl := Option.some.inj ho
                          refine wp_callF 11 _ _ rfl #[] (by simp) (cf11 _ _) ((known11 _).mono ?_)
                          rintro e w3 ⟨rfl, hk3⟩
                          exact ⟨_, rfl, _, rfl, tq_is _ _ _ _ rfl, hk3, fun _ _ _ _ _ => trivial⟩
                        | 31, ho, hsk =>
                          obtain rfl := Option.some.inj ho
                          have e0 : a'.eval (.tmp 177) = .bool true := is_tq (hin 29 177 (by kernel_rfl) (by kernel_rfl)) rfl
                          have e1 : a'.eval (.tmp 178) = .bool true := is_tq (hin 30 178 (by kernel_rfl) (by kernel_rfl)) rfl
                          exact o_pick (.tmp 177) (.tmp 178) rfl _ e0 e1 ⟨_, rfl, tq_is _ _ _ _ rfl, Kept.refl _ _, fun _ _ _ _ _ => trivial⟩
                        | 32, ho, hsk =>
                          obtain rfl := Option.some.inj ho
                          have e0 : a'.eval (.tmp 179) = .bool true := is_tq (hin 31 179 (by kernel_rfl) (by kernel_rfl)) rfl
                          exact wp_assignV (.tmp 179) rfl _ e0 ⟨_, rfl, tq_is _ _ _ _ rfl, Kept.refl _ _, fun _ _ _ _ _ => trivial⟩
                      intro X9 hk9
                      replace hk9 : Kept [] w9 X9 := ⟨hk9.os, hk9.tape, hk9.output, hk9.size, hk9.block⟩
                      simp only [valsQ, List.map_cons, List.map_nil, Option.getD_some, List.take_succ_cons, List.take_zero, putAll, Act.put, List.setIfInBounds_toArray, List.set_cons_succ, List.set_cons_zero]
                      refine wpAny_done (by kernel_rfl) ?_ _
                      replace QD := hide ((unhide QD).step hk9)
                      clear hk9
                      go_wp2_with fail
                      go_ret
                      exact ⟨rfl, (unhide QD).s.k⟩
                    | true =>
                      cases g5 : decide (P.owes = Q.owes) with
                      | false =>
                        have H1 := hide g1
                        have H2 := hide g2
                        have H3 := hide g3
                        have H4 := hide g4
                        have H5 := hide g5
                        have HSAME : Hid (sameB P Q = false) := same_no (by
                          rintro ⟨z1, z2, z3, z4, z5⟩
                          simp [z4] at g5)
                        clear g1 g2 g3 g4 g5
                        refine wp_region_any mixed (wpAny_tq 63 rfl (by kernel_rfl) [some (P0 r), some (P0 r), some (.pointer (some ⟨r, 4, none⟩)), some (.int .i64 P.known), some (.pointer (some ⟨q, 4, none⟩)), some (.int .i64 Q.known), some (.bool true), some (.bool true), some (P0 r), some (P0 r), some (.pointer (some ⟨r, 5, none⟩)), some (.int .i64 P.told), some (P0 r), some (P0 r), some (.pointer (some ⟨r, 4, none⟩)), some (.int .i64 P.known), some (.int .i64 (max (P.told : Int) (P.known : Int))), some (.pointer (some ⟨q, 5, none⟩)), some (.int .i64 Q.told), some (.pointer (some ⟨q, 4, none⟩)), some (.int .i64 Q.known), some (.int .i64 (max (Q.told : Int) (Q.known : Int))), some (.bool true), some (.bool true), some (.bool true), some (P0 r), some (P0 r), some (.pointer (some ⟨r, 5, none⟩)), some (.int .i64 P.told), some (.pointer (some ⟨q, 5, none⟩)), some (.int .i64 Q.told), some (.bool true), some (.bool true), some (.bool true), some (P0 r), some (P0 r), some (.pointer (some ⟨r, 6, none⟩)), some (.int .i64 P.got), some (.pointer (some ⟨q, 6, none⟩)), some (.int .i64 Q.got), some (.bool true), some (.bool true), some (.bool true), some (P0 r), some (P0 r), some (.pointer (some ⟨r, 7, none⟩)), some (.bool P.owes), some (.pointer (some ⟨q, 7, none⟩)), some (.bool Q.owes), some (.bool false), some (.bool false), some (.bool false), none, none, none, none, none, none, none, none, none, some (.bool false), some (.bool false)] rfl (by kernel_rfl) (by kernel_rfl) ?_ ?_)
                        · intro i o' hi hsk ho a' w2 hout hin hk2
                          replace hk2 : Kept [] wr w2 := ⟨hk2.os, hk2.tape, hk2.output, hk2.size, hk2.block⟩
                          match i, ho, hsk with
                          | 0, ho, hsk =>
                            obtain rfl := Option.some.inj ho
                            exact wp_move (.tmp 7) rfl _ ((hout 7 (by kernel_rfl)).trans rfl) ⟨_, rfl, tq_is _ _ _ _ rfl, Kept.refl _ _, fun _ _ _ _ _ => trivial⟩
                          | 1, ho, hsk =>
                            obtain rfl := Option.some.inj ho
                            have e0 : a'.eval (.tmp 86) = P0 r := is_tq (hin 0 86 (by kernel_rfl) (by kernel_rfl)) rfl
                            exact o_nil (.tmp 86) rfl _ e0 ⟨_, rfl, tq_is _ _ _ _ rfl, Kept.refl _ _, fun _ _ _ _ _ => trivial⟩
                          | 2, ho, hsk =>
                            obtain rfl := Option.some.inj ho
                            have e0 : a'.eval (.tmp 87) = P0 r := is_tq (hin 1 87 (by kernel_rfl) (by kernel_rfl)) rfl
                            exact o_fld32_4 (.tmp 87) rfl r e0 ⟨_, rfl, tq_is _ _ _ _ rfl, Kept.refl _ _, fun _ _ _ _ _ => trivial⟩
                          | 3, ho, hsk =>
                            obtain rfl := Option.some.inj ho
                            have e0 : a'.eval (.tmp 88) = .pointer (some ⟨r, 4, none⟩) := is_tq (hin 2 88 (by kernel_rfl) (by kernel_rfl)) rfl
                            exact o_load3 (.tmp 88) rfl _ _ e0 (fits_cell ((unhide HRH).kept hk2 (by simp)) 4 _ rfl) ⟨_, rfl, tq_is _ _ _ _ rfl, Kept.refl _ _, fun _ _ _ _ _ => trivial⟩
                          | 4, ho, hsk =>
                            obtain rfl := Option.some.inj ho
                            exact o_fld32_4 (.tmp 10) rfl q ((hout 10 (by kernel_rfl)).trans rfl) ⟨_, rfl, tq_is _ _ _ _ rfl, Kept.refl _ _, fun _ _ _ _ _ => trivial⟩
                          | 5, ho, hsk =>
                            obtain rfl := Option.some.inj ho
                            have e0 : a'.eval (.tmp 90) = .pointer (some ⟨q, 4, none⟩) := is_tq (hin 4 90 (by kernel_rfl) (by kernel_rfl)) rfl
                            exact o_load3 (.tmp 90) rfl _ _ e0 (fits_cell ((unhide HQH).kept hk2 (by simp)) 4 _ rfl) ⟨_, rfl, tq_is _ _ _ _ rfl, Kept.refl _ _, fun _ _ _ _ _ => trivial⟩
                          | 6, ho, hsk =>
                            obtain rfl := Option.some.inj ho
                            have e0 : a'.eval (.tmp 89) = .int .i64 P.known := is_tq (hin 3 89 (by kernel_rfl) (by kernel_rfl)) rfl
                            have e1 : a'.eval (.tmp 91) = .int .i64 Q.known := is_tq (hin 5 91 (by kernel_rfl) (by kernel_rfl)) rfl
                            exact o_eqlT3 (.tmp 89) (.tmp 91) rfl _ _ true (unhide H1) e0 e1 ⟨_, rfl, tq_is _ _ _ _ rfl, Kept.refl _ _, fun _ _ _ _ _ => trivial⟩
                          | 7, ho, hsk =>
                            obtain rfl := Option.some.inj ho
                            have e0 : a'.eval (.tmp 92) = .bool true := is_tq (hin 6 92 (by kernel_rfl) (by kernel_rfl)) rfl
                            exact wp_move (.tmp 92) rfl _ e0 ⟨_, rfl, tq_is _ _ _ _ rfl, Kept.refl _ _, fun _ _ _ _ _ => trivial⟩
                          | 8, ho, hsk =>
                            obtain rfl := Option.some.inj ho
                            exact wp_move (.tmp 7) rfl _ ((hout 7 (by kernel_rfl)).trans rfl) ⟨_, rfl, tq_is _ _ _ _ rfl, Kept.refl _ _, fun _ _ _ _ _ => trivial⟩
                          | 9, ho, hsk =>
                            obtain rfl := Option.some.inj ho
                            have e0 : a'.eval (.tmp 94) = P0 r := is_tq (hin 8 94 (by kernel_rfl) (by kernel_rfl)) rfl
                            exact o_nil (.tmp 94) rfl _ e0 ⟨_, rfl, tq_is _ _ _ _ rfl, Kept.refl _ _, fun _ _ _ _ _ => trivial⟩
                          | 10, ho, hsk =>
                            obtain rfl := Option.some.inj ho
                            have e0 : a'.eval (.tmp 95) = P0 r := is_tq (hin 9 95 (by kernel_rfl) (by kernel_rfl)) rfl
                            exact o_fld32_5 (.tmp 95) rfl r e0 ⟨_, rfl, tq_is _ _ _ _ rfl, Kept.refl _ _, fun _ _ _ _ _ => trivial⟩
                          | 11, ho, hsk =>
                            obtain rfl := Option.some.inj ho
                            have e0 : a'.eval (.tmp 96) = .pointer (some ⟨r, 5, none⟩) := is_tq (hin 10 96 (by kernel_rfl) (by kernel_rfl)) rfl
                            exact o_load3 (.tmp 96) rfl _ _ e0 (fits_cell ((unhide HRH).kept hk2 (by simp)) 5 _ rfl) ⟨_, rfl, tq_is _ _ _ _ rfl, Kept.refl _ _, fun _ _ _ _ _ => trivial⟩
                          | 12, ho, hsk =>
                            obtain rfl := Option.some.inj ho
                            exact wp_move (.tmp 7) rfl _ ((hout 7 (by kernel_rfl)).trans rfl) ⟨_, rfl, tq_is _ _ _ _ rfl, Kept.refl _ _, fun _ _ _ _ _ => trivial⟩
                          | 13, ho, hsk =>
                            obtain rfl := Option.some.inj ho
                            have e0 : a'.eval (.tmp 98) = P0 r := is_tq (hin 12 98 (by kernel_rfl) (by kernel_rfl)) rfl
                            exact o_nil (.tmp 98) rfl _ e0 ⟨_, rfl, tq_is _ _ _ _ rfl, Kept.refl _ _, fun _ _ _ _ _ => trivial⟩
                          | 14, ho, hsk =>
                            obtain rfl := Option.some.inj ho
                            have e0 : a'.eval (.tmp 99) = P0 r := is_tq (hin 13 99 (by kernel_rfl) (by kernel_rfl)) rfl
                            exact o_fld32_4 (.tmp 99) rfl r e0 ⟨_, rfl, tq_is _ _ _ _ rfl, Kept.refl _ _, fun _ _ _ _ _ => trivial⟩
                          | 15, ho, hsk =>
                            obtain rfl := Option.some.inj ho
                            have e0 : a'.eval (.tmp 100) = .pointer (some ⟨r, 4, none⟩) := is_tq (hin 14 100 (by kernel_rfl) (by kernel_rfl)) rfl
                            exact o_load3 (.tmp 100) rfl _ _ e0 (fits_cell ((unhide HRH).kept hk2 (by simp)) 4 _ rfl) ⟨_, rfl, tq_is _ _ _ _ rfl, Kept.refl _ _, fun _ _ _ _ _ => trivial⟩
                          | 16, ho, hsk =>
                            obtain rfl := Option.some.inj ho
                            have e0 : a'.eval (.tmp 97) = .int .i64 P.told := is_tq (hin 11 97 (by kernel_rfl) (by kernel_rfl)) rfl
                            have e1 : a'.eval (.tmp 101) = .int .i64 P.known := is_tq (hin 15 101 (by kernel_rfl) (by kernel_rfl)) rfl
                            exact o_max3 (.tmp 97) (.tmp 101) rfl _ _ e0 e1 ⟨_, rfl, tq_is _ _ _ _ rfl, Kept.refl _ _, fun _ _ _ _ _ => trivial⟩
                          | 17, ho, hsk =>
                            obtain rfl := Option.some.inj ho
                            exact o_fld32_5 (.tmp 10) rfl q ((hout 10 (by kernel_rfl)).trans rfl) ⟨_, rfl, tq_is _ _ _ _ rfl, Kept.refl _ _, fun _ _ _ _ _ => trivial⟩
                          | 18, ho, hsk =>
                            obtain rfl := Option.some.inj ho
                            have e0 : a'.eval (.tmp 103) = .pointer (some ⟨q, 5, none⟩) := is_tq (hin 17 103 (by kernel_rfl) (by kernel_rfl)) rfl
                            exact o_load3 (.tmp 103) rfl _ _ e0 (fits_cell ((unhide HQH).kept hk2 (by simp)) 5 _ rfl) ⟨_, rfl, tq_is _ _ _ _ rfl, Kept.refl _ _, fun _ _ _ _ _ => trivial⟩
                          | 19, ho, hsk =>
                            obtain rfl := Option.some.inj ho
                            exact o_fld32_4 (.tmp 10) rfl q ((hout 10 (by kernel_rfl)).trans rfl) ⟨_, rfl, tq_is _ _ _ _ rfl, Kept.refl _ _, fun _ _ _ _ _ => trivial⟩
                          | 20, ho, hsk =>
                            obtain rfl := Option.some.inj ho
                            have e0 : a'.eval (.tmp 105) = .pointer (some ⟨q, 4, none⟩) := is_tq (hin 19 105 (by kernel_rfl) (by kernel_rfl)) rfl
                            exact o_load3 (.tmp 105) rfl _ _ e0 (fits_cell ((unhide HQH).kept hk2 (by simp)) 4 _ rfl) ⟨_, rfl, tq_is _ _ _ _ rfl, Kept.refl _ _, fun _ _ _ _ _ => trivial⟩
                          | 21, ho, hsk =>
                            obtain rfl := Option.some.inj ho
                            have e0 : a'.eval (.tmp 104) = .int .i64 Q.told := is_tq (hin 18 104 (by kernel_rfl) (by kernel_rfl)) rfl
                            have e1 : a'.eval (.tmp 106) = .int .i64 Q.known := is_tq (hin 20 106 (by kernel_rfl) (by kernel_rfl)) rfl
                            exact o_max3 (.tmp 104) (.tmp 106) rfl _ _ e0 e1 ⟨_, rfl, tq_is _ _ _ _ rfl, Kept.refl _ _, fun _ _ _ _ _ => trivial⟩
                          | 22, ho, hsk =>
                            obtain rfl := Option.some.inj ho
                            have e0 : a'.eval (.tmp 102) = .int .i64 (max (P.told : Int) (P.known : Int)) := is_tq (hin 16 102 (by kernel_rfl) (by kernel_rfl)) rfl
                            have e1 : a'.eval (.tmp 107) = .int .i64 (max (Q.told : Int) (Q.known : Int)) := is_tq (hin 21 107 (by kernel_rfl) (by kernel_rfl)) rfl
                            exact o_eqlT3 (.tmp 102) (.tmp 107) rfl _ _ true (unhide H2) e0 e1 ⟨_, rfl, tq_is _ _ _ _ rfl, Kept.refl _ _, fun _ _ _ _ _ => trivial⟩
                          | 23, ho, hsk =>
                            obtain rfl := Option.some.inj ho
                            have e0 : a'.eval (.tmp 93) = .bool true := is_tq (hin 7 93 (by kernel_rfl) (by kernel_rfl)) rfl
                            have e1 : a'.eval (.tmp 108) = .bool true := is_tq (hin 22 108 (by kernel_rfl) (by kernel_rfl)) rfl
                            exact o_pick (.tmp 93) (.tmp 108) rfl _ e0 e1 ⟨_, rfl, tq_is _ _ _ _ rfl, Kept.refl _ _, fun _ _ _ _ _ => trivial⟩
                          | 24, ho, hsk =>
                            obtain rfl := Option.some.inj ho
                            have e0 : a'.eval (.tmp 109) = .bool true := is_tq (hin 23 109 (by kernel_rfl) (by kernel_rfl)) rfl
                            exact wp_move (.tmp 109) rfl _ e0 ⟨_, rfl, tq_is _ _ _ _ rfl, Kept.refl _ _, fun _ _ _ _ _ => trivial⟩
                          | 25, ho, hsk =>
                            obtain rfl := Option.some.inj ho
                            exact wp_move (.tmp 7) rfl _ ((hout 7 (by kernel_rfl)).trans rfl) ⟨_, rfl, tq_is _ _ _ _ rfl, Kept.refl _ _, fun _ _ _ _ _ => trivial⟩
                          | 26, ho, hsk =>
                            obtain rfl := Option.some.inj ho
                            have e0 : a'.eval (.tmp 111) = P0 r := is_tq (hin 25 111 (by kernel_rfl) (by kernel_rfl)) rfl
                            exact o_nil (.tmp 111) rfl _ e0 ⟨_, rfl, tq_is _ _ _ _ rfl, Kept.refl _ _, fun _ _ _ _ _ => trivial⟩
                          | 27, ho, hsk =>
                            obtain rfl := Option.some.inj ho
                            have e0 : a'.eval (.tmp 112) = P0 r := is_tq (hin 26 112 (by kernel_rfl) (by kernel_rfl)) rfl
                            exact o_fld32_5 (.tmp 112) rfl r e0 ⟨_, rfl, tq_is _ _ _ _ rfl, Kept.refl _ _, fun _ _ _ _ _ => trivial⟩
                          | 28, ho, hsk =>
                            obtain rfl := Option.some.inj ho
                            have e0 : a'.eval (.tmp 113) = .pointer (some ⟨r, 5, none⟩) := is_tq (hin 27 113 (by kernel_rfl) (by kernel_rfl)) rfl
                            exact o_load3 (.tmp 113) rfl _ _ e0 (fits_cell ((unhide HRH).kept hk2 (by simp)) 5 _ rfl) ⟨_, rfl, tq_is _ _ _ _ rfl, Kept.refl _ _, fun _ _ _ _ _ => trivial⟩
                          | 29, ho, hsk =>
                            obtain rfl := Option.some.inj ho
                            exact o_fld32_5 (.tmp 10) rfl q ((hout 10 (by kernel_rfl)).trans rfl) ⟨_, rfl, tq_is _ _ _ _ rfl, Kept.refl _ _, fun _ _ _ _ _ => trivial⟩
                          | 30, ho, hsk =>
                            obtain rfl := Option.some.inj ho
                            have e0 : a'.eval (.tmp 115) = .pointer (some ⟨q, 5, none⟩) := is_tq (hin 29 115 (by kernel_rfl) (by kernel_rfl)) rfl
                            exact o_load3 (.tmp 115) rfl _ _ e0 (fits_cell ((unhide HQH).kept hk2 (by simp)) 5 _ rfl) ⟨_, rfl, tq_is _ _ _ _ rfl, Kept.refl _ _, fun _ _ _ _ _ => trivial⟩
                          | 31, ho, hsk =>
                            obtain rfl := Option.some.inj ho
                            have e0 : a'.eval (.tmp 114) = .int .i64 P.told := is_tq (hin 28 114 (by kernel_rfl) (by kernel_rfl)) rfl
                            have e1 : a'.eval (.tmp 116) = .int .i64 Q.told := is_tq (hin 30 116 (by kernel_rfl) (by kernel_rfl)) rfl
                            exact o_eqlT3 (.tmp 114) (.tmp 116) rfl _ _ true (unhide H3) e0 e1 ⟨_, rfl, tq_is _ _ _ _ rfl, Kept.refl _ _, fun _ _ _ _ _ => trivial⟩
                          | 32, ho, hsk =>
                            obtain rfl := Option.some.inj ho
                            have e0 : a'.eval (.tmp 110) = .bool true := is_tq (hin 24 110 (by kernel_rfl) (by kernel_rfl)) rfl
                            have e1 : a'.eval (.tmp 117) = .bool true := is_tq (hin 31 117 (by kernel_rfl) (by kernel_rfl)) rfl
                            exact o_pick (.tmp 110) (.tmp 117) rfl _ e0 e1 ⟨_, rfl, tq_is _ _ _ _ rfl, Kept.refl _ _, fun _ _ _ _ _ => trivial⟩
                          | 33, ho, hsk =>
                            obtain rfl := Option.some.inj ho
                            have e0 : a'.eval (.tmp 118) = .bool true := is_tq (hin 32 118 (by kernel_rfl) (by kernel_rfl)) rfl
                            exact wp_move (.tmp 118) rfl _ e0 ⟨_, rfl, tq_is _ _ _ _ rfl, Kept.refl _ _, fun _ _ _ _ _ => trivial⟩
                          | 34, ho, hsk =>
                            obtain rfl := Option.some.inj ho
                            exact wp_move (.tmp 7) rfl _ ((hout 7 (by kernel_rfl)).trans rfl) ⟨_, rfl, tq_is _ _ _ _ rfl, Kept.refl _ _, fun _ _ _ _ _ => trivial⟩
                          | 35, ho, hsk =>
                            obtain rfl := Option.some.inj ho
                            have e0 : a'.eval (.tmp 120) = P0 r := is_tq (hin 34 120 (by kernel_rfl) (by kernel_rfl)) rfl
                            exact o_nil (.tmp 120) rfl _ e0 ⟨_, rfl, tq_is _ _ _ _ rfl, Kept.refl _ _, fun _ _ _ _ _ => trivial⟩
                          | 36, ho, hsk =>
                            obtain rfl := Option.some.inj ho
                            have e0 : a'.eval (.tmp 121) = P0 r := is_tq (hin 35 121 (by kernel_rfl) (by kernel_rfl)) rfl
                            exact o_fld32_6 (.tmp 121) rfl r e0 ⟨_, rfl, tq_is _ _ _ _ rfl, Kept.refl _ _, fun _ _ _ _ _ => trivial⟩
                          | 37, ho, hsk =>
                            obtain rfl := Option.some.inj ho
                            have e0 : a'.eval (.tmp 122) = .pointer (some ⟨r, 6, none⟩) := is_tq (hin 36 122 (by kernel_rfl) (by kernel_rfl)) rfl
                            exact o_load2 (.tmp 122) rfl _ _ e0 (fits_cell ((unhide HRH).kept hk2 (by simp)) 6 _ rfl) ⟨_, rfl, tq_is _ _ _ _ rfl, Kept.refl _ _, fun _ _ _ _ _ => trivial⟩
                          | 38, ho, hsk =>
                            obtain rfl := Option.some.inj ho
                            exact o_fld32_6 (.tmp 10) rfl q ((hout 10 (by kernel_rfl)).trans rfl) ⟨_, rfl, tq_is _ _ _ _ rfl, Kept.refl _ _, fun _ _ _ _ _ => trivial⟩
                          | 39, ho, hsk =>
                            obtain rfl := Option.some.inj ho
                            have e0 : a'.eval (.tmp 124) = .pointer (some ⟨q, 6, none⟩) := is_tq (hin 38 124 (by kernel_rfl) (by kernel_rfl)) rfl
                            exact o_load2 (.tmp 124) rfl _ _ e0 (fits_cell ((unhide HQH).kept hk2 (by simp)) 6 _ rfl) ⟨_, rfl, tq_is _ _ _ _ rfl, Kept.refl _ _, fun _ _ _ _ _ => trivial⟩
                          | 40, ho, hsk =>
                            obtain rfl := Option.some.inj ho
                            have e0 : a'.eval (.tmp 123) = .int .i64 P.got := is_tq (hin 37 123 (by kernel_rfl) (by kernel_rfl)) rfl
                            have e1 : a'.eval (.tmp 125) = .int .i64 Q.got := is_tq (hin 39 125 (by kernel_rfl) (by kernel_rfl)) rfl
                            exact o_eqlT2 (.tmp 123) (.tmp 125) rfl _ _ true (unhide H4) e0 e1 ⟨_, rfl, tq_is _ _ _ _ rfl, Kept.refl _ _, fun _ _ _ _ _ => trivial⟩
                          | 41, ho, hsk =>
                            obtain rfl := Option.some.inj ho
                            have e0 : a'.eval (.tmp 119) = .bool true := is_tq (hin 33 119 (by kernel_rfl) (by kernel_rfl)) rfl
                            have e1 : a'.eval (.tmp 126) = .bool true := is_tq (hin 40 126 (by kernel_rfl) (by kernel_rfl)) rfl
                            exact o_pick (.tmp 119) (.tmp 126) rfl _ e0 e1 ⟨_, rfl, tq_is _ _ _ _ rfl, Kept.refl _ _, fun _ _ _ _ _ => trivial⟩
                          | 42, ho, hsk =>
                            obtain rfl := Option.some.inj ho
                            have e0 : a'.eval (.tmp 127) = .bool true := is_tq (hin 41 127 (by kernel_rfl) (by kernel_rfl)) rfl
                            exact wp_move (.tmp 127) rfl _ e0 ⟨_, rfl, tq_is _ _ _ _ rfl, Kept.refl _ _, fun _ _ _ _ _ => trivial⟩
                          | 43, ho, hsk =>
                            obtain rfl := Option.some.inj ho
                            exact wp_move (.tmp 7) rfl _ ((hout 7 (by kernel_rfl)).trans rfl) ⟨_, rfl, tq_is _ _ _ _ rfl, Kept.refl _ _, fun _ _ _ _ _ => trivial⟩
                          | 44, ho, hsk =>
                            obtain rfl := Option.some.inj ho
                            have e0 : a'.eval (.tmp 129) = P0 r := is_tq (hin 43 129 (by kernel_rfl) (by kernel_rfl)) rfl
                            exact o_nil (.tmp 129) rfl _ e0 ⟨_, rfl, tq_is _ _ _ _ rfl, Kept.refl _ _, fun _ _ _ _ _ => trivial⟩
                          | 45, ho, hsk =>
                            obtain rfl := Option.some.inj ho
                            have e0 : a'.eval (.tmp 130) = P0 r := is_tq (hin 44 130 (by kernel_rfl) (by kernel_rfl)) rfl
                            exact o_fld32_7 (.tmp 130) rfl r e0 ⟨_, rfl, tq_is _ _ _ _ rfl, Kept.refl _ _, fun _ _ _ _ _ => trivial⟩
                          | 46, ho, hsk =>
                            obtain rfl := Option.some.inj ho
                            have e0 : a'.eval (.tmp 131) = .pointer (some ⟨r, 7, none⟩) := is_tq (hin 45 131 (by kernel_rfl) (by kernel_rfl)) rfl
                            exact o_load4 (.tmp 131) rfl _ _ e0 (fits_cell ((unhide HRH).kept hk2 (by simp)) 7 _ rfl) ⟨_, rfl, tq_is _ _ _ _ rfl, Kept.refl _ _, fun _ _ _ _ _ => trivial⟩
                          | 47, ho, hsk =>
                            obtain rfl := Option.some.inj ho
                            exact o_fld32_7 (.tmp 10) rfl q ((hout 10 (by kernel_rfl)).trans rfl) ⟨_, rfl, tq_is _ _ _ _ rfl, Kept.refl _ _, fun _ _ _ _ _ => trivial⟩
                          | 48, ho, hsk =>
                            obtain rfl := Option.some.inj ho
                            have e0 : a'.eval (.tmp 133) = .pointer (some ⟨q, 7, none⟩) := is_tq (hin 47 133 (by kernel_rfl) (by kernel_rfl)) rfl
                            exact o_load4 (.tmp 133) rfl _ _ e0 (fits_cell ((unhide HQH).kept hk2 (by simp)) 7 _ rfl) ⟨_, rfl, tq_is _ _ _ _ rfl, Kept.refl _ _, fun _ _ _ _ _ => trivial⟩
                          | 49, ho, hsk =>
                            obtain rfl := Option.some.inj ho
                            have e0 : a'.eval (.tmp 132) = .bool P.owes := is_tq (hin 46 132 (by kernel_rfl) (by kernel_rfl)) rfl
                            have e1 : a'.eval (.tmp 134) = .bool Q.owes := is_tq (hin 48 134 (by kernel_rfl) (by kernel_rfl)) rfl
                            exact o_eqlT4 (.tmp 132) (.tmp 134) rfl _ _ false (unhide H5) e0 e1 ⟨_, rfl, tq_is _ _ _ _ rfl, Kept.refl _ _, fun _ _ _ _ _ => trivial⟩
                          | 50, ho, hsk =>
                            obtain rfl := Option.some.inj ho
                            have e0 : a'.eval (.tmp 128) = .bool true := is_tq (hin 42 128 (by kernel_rfl) (by kernel_rfl)) rfl
                            have e1 : a'.eval (.tmp 135) = .bool false := is_tq (hin 49 135 (by kernel_rfl) (by kernel_rfl)) rfl
                            exact o_pick (.tmp 128) (.tmp 135) rfl _ e0 e1 ⟨_, rfl, tq_is _ _ _ _ rfl, Kept.refl _ _, fun _ _ _ _ _ => trivial⟩
                          | 51, ho, hsk =>
                            obtain rfl := Option.some.inj ho
                            have e0 : a'.eval (.tmp 136) = .bool false := is_tq (hin 50 136 (by kernel_rfl) (by kernel_rfl)) rfl
                            exact wp_move (.tmp 136) rfl _ e0 ⟨_, rfl, tq_is _ _ _ _ rfl, Kept.refl _ _, fun _ _ _ _ _ => trivial⟩
                          | 52, ho, hsk =>
                            cases hsk
                          | 53, ho, hsk =>
                            cases hsk
                          | 54, ho, hsk =>
                            cases hsk
                          | 55, ho, hsk =>
                            cases hsk
                          | 56, ho, hsk =>
                            cases hsk
                          | 57, ho, hsk =>
                            cases hsk
                          | 58, ho, hsk =>
                            cases hsk
                          | 59, ho, hsk =>
                            cases hsk
                          | 60, ho, hsk =>
                            cases hsk
                          | 61, ho, hsk =>
                            obtain rfl := Option.some.inj ho
                            have e0 : a'.eval (.tmp 137) = .bool false := is_tq (hin 51 137 (by kernel_rfl) (by kernel_rfl)) rfl
                            exact o_pickN (.tmp 137) (.tmp 146) rfl e0 ⟨_, rfl, tq_is _ _ _ _ rfl, Kept.refl _ _, fun _ _ _ _ _ => trivial⟩
                          | 62, ho, hsk =>
                            obtain rfl := Option.some.inj ho
                            have e0 : a'.eval (.tmp 147) = .bool false := is_tq (hin 61 147 (by kernel_rfl) (by kernel_rfl)) rfl
                            exact wp_assignV (.tmp 147) rfl _ e0 ⟨_, rfl, tq_is _ _ _ _ rfl, Kept.refl _ _, fun _ _ _ _ _ => trivial⟩
                        intro w9 hk9
                        replace hk9 : Kept [] wr w9 := ⟨hk9.os, hk9.tape, hk9.output, hk9.size, hk9.block⟩
                        simp only [valsQ, List.map_cons, List.map_nil, Option.getD_some, Option.getD_none, List.take_succ_cons, List.take_zero, putAll, Act.put, List.setIfInBounds_toArray, List.set_cons_succ, List.set_cons_zero]
                        refine wpAny_done (by kernel_rfl) ?_ _
                        replace QD := hide ((unhide QD).step hk9)
                        replace HRH := hide (unhide QD).rx.head
                        clear hk9 HQH
                        go_wp2_with fail
                        refine wp_region_any mixed (wpAny_tq 33 rfl (by kernel_rfl) [some (P0 b), some (P0 c), some (.bool false), some (.bool false), some (.bool true), some (.bool true), some (P0 b), some (.int .i64 ws.length), some (P0 r), some (P0 r), some (.pointer (some ⟨r, 3, none⟩)), some (rv), some (.int .i64 rs.length), some (P0 r), some (P0 r), some (.pointer (some ⟨r, 4, none⟩)), some (.int .i64 P.known), some (.int .i64 ws.length), some (.bool true), some (.bool true), some (.bool true), some (P0 b), some (.int .i64 P.got), some (P0 r), some (P0 r), some (.pointer (some ⟨r, 6, none⟩)), some (.int .i64 P.got), some (.bool true), some (.bool true), some (.bool true), some (.bool true), some (.bool true), some (.bool true)] rfl (by kernel_rfl) (by kernel_rfl) ?_ ?_)
                        · intro i o' hi hsk ho a' w2 hout hin hk2
                          replace hk2 : Kept [] w9 w2 := ⟨hk2.os, hk2.tape, hk2.output, hk2.size, hk2.block⟩
                          match i, ho, hsk with
                          | 0, ho, hsk =>
                            obtain rfl := Option.some.inj ho
                            exact wp_move (.tmp 5) rfl _ ((hout 5 (by kernel_rfl)).trans rfl) ⟨_, rfl, tq_is _ _ _ _ rfl, Kept.refl _ _, fun _ _ _ _ _ => trivial⟩
                          | 1, ho, hsk =>
                            obtain rfl := Option.some.inj ho
                            exact wp_move (.tmp 9) rfl _ ((hout 9 (by kernel_rfl)).trans rfl) ⟨_, rfl, tq_is _ _ _ _ rfl, Kept.refl _ _, fun _ _ _ _ _ => trivial⟩
                          | 2, ho, hsk =>
                            obtain rfl := Option.some.inj ho
                            have e0 : a'.eval (.tmp 148) = P0 b := is_tq (hin 0 148 (by kernel_rfl) (by kernel_rfl)) rfl
                            have e1 : a'.eval (.tmp 149) = P0 c := is_tq (hin 1 149 (by kernel_rfl) (by kernel_rfl)) rfl
                            refine wp_callF 28 _ _ rfl #[P0 b, P0 c] (by simp [e0, e1]) (cf28 _ _) ((k_same b c _ _ _ _ P Q false (unhide HSAME) _ ((unhide QD).s.sx.kept0 hk2) ((unhide QD).cp.sx.kept0 hk2)).mono ?_)
                            rintro e w3 ⟨rfl, hk3⟩
                            exact ⟨_, rfl, _, rfl, tq_is _ _ _ _ rfl, hk3, fun _ _ _ _ _ => trivial⟩
                          | 3, ho, hsk =>
                            obtain rfl := Option.some.inj ho
                            exact wp_move (.tmp 12) rfl _ ((hout 12 (by kernel_rfl)).trans rfl) ⟨_, rfl, tq_is _ _ _ _ rfl, Kept.refl _ _, fun _ _ _ _ _ => trivial⟩
                          | 4, ho, hsk =>
                            obtain rfl := Option.some.inj ho
                            have e0 : a'.eval (.tmp 150) = .bool false := is_tq (hin 2 150 (by kernel_rfl) (by kernel_rfl)) rfl
                            have e1 : a'.eval (.tmp 151) = .bool false := is_tq (hin 3 151 (by kernel_rfl) (by kernel_rfl)) rfl
                            exact o_eqlT4 (.tmp 150) (.tmp 151) rfl _ _ true (by simp) e0 e1 ⟨_, rfl, tq_is _ _ _ _ rfl, Kept.refl _ _, fun _ _ _ _ _ => trivial⟩
                          | 5, ho, hsk =>
                            obtain rfl := Option.some.inj ho
                            have e0 : a'.eval (.tmp 152) = .bool true := is_tq (hin 4 152 (by kernel_rfl) (by kernel_rfl)) rfl
                            exact wp_move (.tmp 152) rfl _ e0 ⟨_, rfl, tq_is _ _ _ _ rfl, Kept.refl _ _, fun _ _ _ _ _ => trivial⟩
                          | 6, ho, hsk =>
                            obtain rfl := Option.some.inj ho
                            exact wp_move (.tmp 5) rfl _ ((hout 5 (by kernel_rfl)).trans rfl) ⟨_, rfl, tq_is _ _ _ _ rfl, Kept.refl _ _, fun _ _ _ _ _ => trivial⟩
                          | 7, ho, hsk =>
                            obtain rfl := Option.some.inj ho
                            have e0 : a'.eval (.tmp 154) = P0 b := is_tq (hin 6 154 (by kernel_rfl) (by kernel_rfl)) rfl
                            refine wp_callF 22 _ _ rfl #[P0 b] (by simp [e0]) (cf22 _ _) ((waits22 b v ws P _ ((unhide QD).s.sx.kept0 hk2)).mono ?_)
                            rintro e w3 ⟨rfl, q3, rfl⟩
                            exact ⟨_, rfl, _, rfl, tq_is _ _ _ _ rfl, kept_drewN _ _ _, fun _ _ _ _ _ => trivial⟩
                          | 8, ho, hsk =>
                            obtain rfl := Option.some.inj ho
                            exact wp_move (.tmp 7) rfl _ ((hout 7 (by kernel_rfl)).trans rfl) ⟨_, rfl, tq_is _ _ _ _ rfl, Kept.refl _ _, fun _ _ _ _ _ => trivial⟩
                          | 9, ho, hsk =>
                            obtain rfl := Option.some.inj ho
                            have e0 : a'.eval (.tmp 156) = P0 r := is_tq (hin 8 156 (by kernel_rfl) (by kernel_rfl)) rfl
                            exact o_nil (.tmp 156) rfl _ e0 ⟨_, rfl, tq_is _ _ _ _ rfl, Kept.refl _ _, fun _ _ _ _ _ => trivial⟩
                          | 10, ho, hsk =>
                            obtain rfl := Option.some.inj ho
                            have e0 : a'.eval (.tmp 157) = P0 r := is_tq (hin 9 157 (by kernel_rfl) (by kernel_rfl)) rfl
                            exact o_fld32_3 (.tmp 157) rfl r e0 ⟨_, rfl, tq_is _ _ _ _ rfl, Kept.refl _ _, fun _ _ _ _ _ => trivial⟩
                          | 11, ho, hsk =>
                            obtain rfl := Option.some.inj ho
                            have e0 : a'.eval (.tmp 158) = .pointer (some ⟨r, 3, none⟩) := is_tq (hin 10 158 (by kernel_rfl) (by kernel_rfl)) rfl
                            exact o_load30 (.tmp 158) rfl _ _ e0 (fits_cell ((unhide HRH).kept hk2 (by simp)) 3 _ rfl) ⟨_, rfl, tq_is _ _ _ _ rfl, Kept.refl _ _, fun _ _ _ _ _ => trivial⟩
                          | 12, ho, hsk =>
                            obtain rfl := Option.some.inj ho
                            have e0 : a'.eval (.tmp 159) = rv := is_tq (hin 11 159 (by kernel_rfl) (by kernel_rfl)) rfl
                            exact o_len30 (.tmp 159) rfl ro rs.length rc (by rw [e0]; exact unhide HRV) ⟨_, rfl, tq_is _ _ _ _ rfl, Kept.refl _ _, fun _ _ _ _ _ => trivial⟩
                          | 13, ho, hsk =>
                            obtain rfl := Option.some.inj ho
                            exact wp_move (.tmp 7) rfl _ ((hout 7 (by kernel_rfl)).trans rfl) ⟨_, rfl, tq_is _ _ _ _ rfl, Kept.refl _ _, fun _ _ _ _ _ => trivial⟩
                          | 14, ho, hsk =>
                            obtain rfl := Option.some.inj ho
                            have e0 : a'.eval (.tmp 161) = P0 r := is_tq (hin 13 161 (by kernel_rfl) (by kernel_rfl)) rfl
                            exact o_nil (.tmp 161) rfl _ e0 ⟨_, rfl, tq_is _ _ _ _ rfl, Kept.refl _ _, fun _ _ _ _ _ => trivial⟩
                          | 15, ho, hsk =>
                            obtain rfl := Option.some.inj ho
                            have e0 : a'.eval (.tmp 162) = P0 r := is_tq (hin 14 162 (by kernel_rfl) (by kernel_rfl)) rfl
                            exact o_fld32_4 (.tmp 162) rfl r e0 ⟨_, rfl, tq_is _ _ _ _ rfl, Kept.refl _ _, fun _ _ _ _ _ => trivial⟩
                          | 16, ho, hsk =>
                            obtain rfl := Option.some.inj ho
                            have e0 : a'.eval (.tmp 163) = .pointer (some ⟨r, 4, none⟩) := is_tq (hin 15 163 (by kernel_rfl) (by kernel_rfl)) rfl
                            exact o_load3 (.tmp 163) rfl _ _ e0 (fits_cell ((unhide HRH).kept hk2 (by simp)) 4 _ rfl) ⟨_, rfl, tq_is _ _ _ _ rfl, Kept.refl _ _, fun _ _ _ _ _ => trivial⟩
                          | 17, ho, hsk =>
                            obtain rfl := Option.some.inj ho
                            have e0 : a'.eval (.tmp 160) = .int .i64 rs.length := is_tq (hin 12 160 (by kernel_rfl) (by kernel_rfl)) rfl
                            have e1 : a'.eval (.tmp 164) = .int .i64 P.known := is_tq (hin 16 164 (by kernel_rfl) (by kernel_rfl)) rfl
                            refine o_sub3 (.tmp 160) (.tmp 164) rfl _ _ (by have := unhide HLE; omega) e0 e1 ?_
                            rw [(unhide HLE).1]
                            exact ⟨_, rfl, tq_is _ _ _ _ rfl, Kept.refl _ _, fun _ _ _ _ _ => trivial⟩
                          | 18, ho, hsk =>
                            obtain rfl := Option.some.inj ho
                            have e0 : a'.eval (.tmp 155) = .int .i64 ws.length := is_tq (hin 7 155 (by kernel_rfl) (by kernel_rfl)) rfl
                            have e1 : a'.eval (.tmp 165) = .int .i64 ws.length := is_tq (hin 17 165 (by kernel_rfl) (by kernel_rfl)) rfl
                            exact o_eqlT3 (.tmp 155) (.tmp 165) rfl _ _ true (by simp) e0 e1 ⟨_, rfl, tq_is _ _ _ _ rfl, Kept.refl _ _, fun _ _ _ _ _ => trivial⟩
                          | 19, ho, hsk =>
                            obtain rfl := Option.some.inj ho
                            have e0 : a'.eval (.tmp 153) = .bool true := is_tq (hin 5 153 (by kernel_rfl) (by kernel_rfl)) rfl
                            have e1 : a'.eval (.tmp 166) = .bool true := is_tq (hin 18 166 (by kernel_rfl) (by kernel_rfl)) rfl
                            exact o_pick (.tmp 153) (.tmp 166) rfl _ e0 e1 ⟨_, rfl, tq_is _ _ _ _ rfl, Kept.refl _ _, fun _ _ _ _ _ => trivial⟩
                          | 20, ho, hsk =>
                            obtain rfl := Option.some.inj ho
                            have e0 : a'.eval (.tmp 167) = .bool true := is_tq (hin 19 167 (by kernel_rfl) (by kernel_rfl)) rfl
                            exact wp_move (.tmp 167) rfl _ e0 ⟨_, rfl, tq_is _ _ _ _ rfl, Kept.refl _ _, fun _ _ _ _ _ => trivial⟩
                          | 21, ho, hsk =>
                            obtain rfl := Option.some.inj ho
                            exact wp_move (.tmp 5) rfl _ ((hout 5 (by kernel_rfl)).trans rfl) ⟨_, rfl, tq_is _ _ _ _ rfl, Kept.refl _ _, fun _ _ _ _ _ => trivial⟩
                          | 22, ho, hsk =>
                            obtain rfl := Option.some.inj ho
                            have e0 : a'.eval (.tmp 169) = P0 b := is_tq (hin 21 169 (by kernel_rfl) (by kernel_rfl)) rfl
                            refine wp_callF 23 _ _ rfl #[P0 b] (by simp [e0]) (cf23 _ _) ((got23 b v ws P _ ((unhide QD).s.sx.kept0 hk2)).mono ?_)
                            rintro e w3 ⟨rfl, q3, rfl⟩
                            exact ⟨_, rfl, _, rfl, tq_is _ _ _ _ rfl, kept_drewN _ _ _, fun _ _ _ _ _ => trivial⟩
                          | 23, ho, hsk =>
                            obtain rfl := Option.some.inj ho
                            exact wp_move (.tmp 7) rfl _ ((hout 7 (by kernel_rfl)).trans rfl) ⟨_, rfl, tq_is _ _ _ _ rfl, Kept.refl _ _, fun _ _ _ _ _ => trivial⟩
                          | 24, ho, hsk =>
                            obtain rfl := Option.some.inj ho
                            have e0 : a'.eval (.tmp 171) = P0 r := is_tq (hin 23 171 (by kernel_rfl) (by kernel_rfl)) rfl
                            exact o_nil (.tmp 171) rfl _ e0 ⟨_, rfl, tq_is _ _ _ _ rfl, Kept.refl _ _, fun _ _ _ _ _ => trivial⟩
                          | 25, ho, hsk =>
                            obtain rfl := Option.some.inj ho
                            have e0 : a'.eval (.tmp 172) = P0 r := is_tq (hin 24 172 (by kernel_rfl) (by kernel_rfl)) rfl
                            exact o_fld32_6 (.tmp 172) rfl r e0 ⟨_, rfl, tq_is _ _ _ _ rfl, Kept.refl _ _, fun _ _ _ _ _ => trivial⟩
                          | 26, ho, hsk =>
                            obtain rfl := Option.some.inj ho
                            have e0 : a'.eval (.tmp 173) = .pointer (some ⟨r, 6, none⟩) := is_tq (hin 25 173 (by kernel_rfl) (by kernel_rfl)) rfl
                            exact o_load2 (.tmp 173) rfl _ _ e0 (fits_cell ((unhide HRH).kept hk2 (by simp)) 6 _ rfl) ⟨_, rfl, tq_is _ _ _ _ rfl, Kept.refl _ _, fun _ _ _ _ _ => trivial⟩
                          | 27, ho, hsk =>
                            obtain rfl := Option.some.inj ho
                            have e0 : a'.eval (.tmp 170) = .int .i64 P.got := is_tq (hin 22 170 (by kernel_rfl) (by kernel_rfl)) rfl
                            have e1 : a'.eval (.tmp 174) = .int .i64 P.got := is_tq (hin 26 174 (by kernel_rfl) (by kernel_rfl)) rfl
                            exact o_eqlT2 (.tmp 170) (.tmp 174) rfl _ _ true (by simp) e0 e1 ⟨_, rfl, tq_is _ _ _ _ rfl, Kept.refl _ _, fun _ _ _ _ _ => trivial⟩
                          | 28, ho, hsk =>
                            obtain rfl := Option.some.inj ho
                            have e0 : a'.eval (.tmp 168) = .bool true := is_tq (hin 20 168 (by kernel_rfl) (by kernel_rfl)) rfl
                            have e1 : a'.eval (.tmp 175) = .bool true := is_tq (hin 27 175 (by kernel_rfl) (by kernel_rfl)) rfl
                            exact o_pick (.tmp 168) (.tmp 175) rfl _ e0 e1 ⟨_, rfl, tq_is _ _ _ _ rfl, Kept.refl _ _, fun _ _ _ _ _ => trivial⟩
                          | 29, ho, hsk =>
                            obtain rfl := Option.some.inj ho
                            have e0 : a'.eval (.tmp 176) = .bool true := is_tq (hin 28 176 (by kernel_rfl) (by kernel_rfl)) rfl
                            exact wp_move (.tmp 176) rfl _ e0 ⟨_, rfl, tq_is _ _ _ _ rfl, Kept.refl _ _, fun _ _ _ _ _ => trivial⟩
                          | 30, ho, hsk =>
                            obtain rfl := Option.some.inj ho
                            refine wp_callF 11 _ _ rfl #[] (by simp) (cf11 _ _) ((known11 _).mono ?_)
                            rintro e w3 ⟨rfl, hk3⟩
                            exact ⟨_, rfl, _, rfl, tq_is _ _ _ _ rfl, hk3, fun _ _ _ _ _ => trivial⟩
                          | 31, ho, hsk =>
                            obtain rfl := Option.some.inj ho
                            have e0 : a'.eval (.tmp 177) = .bool true := is_tq (hin 29 177 (by kernel_rfl) (by kernel_rfl)) rfl
                            have e1 : a'.eval (.tmp 178) = .bool true := is_tq (hin 30 178 (by kernel_rfl) (by kernel_rfl)) rfl
                            exact o_pick (.tmp 177) (.tmp 178) rfl _ e0 e1 ⟨_, rfl, tq_is _ _ _ _ rfl, Kept.refl _ _, fun _ _ _ _ _ => trivial⟩
                          | 32, ho, hsk =>
                            obtain rfl := Option.some.inj ho
                            have e0 : a'.eval (.tmp 179) = .bool true := is_tq (hin 31 179 (by kernel_rfl) (by kernel_rfl)) rfl
                            exact wp_assignV (.tmp 179) rfl _ e0 ⟨_, rfl, tq_is _ _ _ _ rfl, Kept.refl _ _, fun _ _ _ _ _ => trivial⟩
                        intro X9 hk9
                        replace hk9 : Kept [] w9 X9 := ⟨hk9.os, hk9.tape, hk9.output, hk9.size, hk9.block⟩
                        simp only [valsQ, List.map_cons, List.map_nil, Option.getD_some, List.take_succ_cons, List.take_zero, putAll, Act.put, List.setIfInBounds_toArray, List.set_cons_succ, List.set_cons_zero]
                        refine wpAny_done (by kernel_rfl) ?_ _
                        replace QD := hide ((unhide QD).step hk9)
                        clear hk9
                        go_wp2_with fail
                        go_ret
                        exact ⟨rfl, (unhide QD).s.k⟩
                      | true =>
                        cases g6 : decide ((rs.length : Int) = (wq.length : Int)) with
                        | false =>
                          have H1 := hide g1
                          have H2 := hide g2
                          have H3 := hide g3
                          have H4 := hide g4
                          have H5 := hide g5
                          have H6 := hide g6
                          have HSAME : Hid (sameB P Q = false) := same_no (by
                            rintro ⟨z1, z2, z3, z4, z5⟩
                            have y1 := (unhide QD).rx.len; have y2 := (unhide QD).qx.len; have y3 := z5 (unhide QD).rx.ok.known (unhide QD).qx.ok.known; rw [y1, y2, y3] at g6; simp at g6)
                          clear g1 g2 g3 g4 g5 g6
                          refine wp_region_any mixed (wpAny_tq 63 rfl (by kernel_rfl) [some (P0 r), some (P0 r), some (.pointer (some ⟨r, 4, none⟩)), some (.int .i64 P.known), some (.pointer (some ⟨q, 4, none⟩)), some (.int .i64 Q.known), some (.bool true), some (.bool true), some (P0 r), some (P0 r), some (.pointer (some ⟨r, 5, none⟩)), some (.int .i64 P.told), some (P0 r), some (P0 r), some (.pointer (some ⟨r, 4, none⟩)), some (.int .i64 P.known), some (.int .i64 (max (P.told : Int) (P.known : Int))), some (.pointer (some ⟨q, 5, none⟩)), some (.int .i64 Q.told), some (.pointer (some ⟨q, 4, none⟩)), some (.int .i64 Q.known), some (.int .i64 (max (Q.told : Int) (Q.known : Int))), some (.bool true), some (.bool true), some (.bool true), some (P0 r), some (P0 r), some (.pointer (some ⟨r, 5, none⟩)), some (.int .i64 P.told), some (.pointer (some ⟨q, 5, none⟩)), some (.int .i64 Q.told), some (.bool true), some (.bool true), some (.bool true), some (P0 r), some (P0 r), some (.pointer (some ⟨r, 6, none⟩)), some (.int .i64 P.got), some (.pointer (some ⟨q, 6, none⟩)), some (.int .i64 Q.got), some (.bool true), some (.bool true), some (.bool true), some (P0 r), some (P0 r), some (.pointer (some ⟨r, 7, none⟩)), some (.bool P.owes), some (.pointer (some ⟨q, 7, none⟩)), some (.bool Q.owes), some (.bool true), some (.bool true), some (.bool true), some (P0 r), some (P0 r), some (.pointer (some ⟨r, 3, none⟩)), some (rv), some (.int .i64 rs.length), some (.pointer (some ⟨q, 3, none⟩)), some (vq), some (.int .i64 wq.length), some (.bool false), some (.bool false), some (.bool false)] rfl (by kernel_rfl) (by kernel_rfl) ?_ ?_)
                          · intro i o' hi hsk ho a' w2 hout hin hk2
                            replace hk2 : Kept [] wr w2 := ⟨hk2.os, hk2.tape, hk2.output, hk2.size, hk2.block⟩
                            match i, ho, hsk with
                            | 0, ho, hsk =>
                              obtain rfl := Option.some.inj ho
                              exact wp_move (.tmp 7) rfl _ ((hout 7 (by kernel_rfl)).trans rfl) ⟨_, rfl, tq_is _ _ _ _ rfl, Kept.refl _ _, fun _ _ _ _ _ => trivial⟩
                            | 1, ho, hsk =>
                              obtain rfl := Option.some.inj ho
                              have e0 : a'.eval (.tmp 86) = P0 r := is_tq (hin 0 86 (by kernel_rfl) (by kernel_rfl)) rfl
                              exact o_nil (.tmp 86) rfl _ e0 ⟨_, rfl, tq_is _ _ _ _ rfl, Kept.refl _ _, fun _ _ _ _ _ => trivial⟩
                            | 2, ho, hsk =>
                              obtain rfl := Option.some.inj ho
                              have e0 : a'.eval (.tmp 87) = P0 r := is_tq (hin 1 87 (by kernel_rfl) (by kernel_rfl)) rfl
                              exact o_fld32_4 (.tmp 87) rfl r e0 ⟨_, rfl, tq_is _ _ _ _ rfl, Kept.refl _ _, fun _ _ _ _ _ => trivial⟩
                            | 3, ho, hsk =>
                              obtain rfl := Option.some.inj ho
                              have e0 : a'.eval (.tmp 88) = .pointer (some ⟨r, 4, none⟩) := is_tq (hin 2 88 (by kernel_rfl) (by kernel_rfl)) rfl
                              exact o_load3 (.tmp 88) rfl _ _ e0 (fits_cell ((unhide HRH).kept hk2 (by simp)) 4 _ rfl) ⟨_, rfl, tq_is _ _ _ _ rfl, Kept.refl _ _, fun _ _ _ _ _ => trivial⟩
                            | 4, ho, hsk =>
                              obtain rfl := Option.some.inj ho
                              exact o_fld32_4 (.tmp 10) rfl q ((hout 10 (by kernel_rfl)).trans rfl) ⟨_, rfl, tq_is _ _ _ _ rfl, Kept.refl _ _, fun _ _ _ _ _ => trivial⟩
                            | 5, ho, hsk =>
                              obtain rfl := Option.some.inj ho
                              have e0 : a'.eval (.tmp 90) = .pointer (some ⟨q, 4, none⟩) := is_tq (hin 4 90 (by kernel_rfl) (by kernel_rfl)) rfl
                              exact o_load3 (.tmp 90) rfl _ _ e0 (fits_cell ((unhide HQH).kept hk2 (by simp)) 4 _ rfl) ⟨_, rfl, tq_is _ _ _ _ rfl, Kept.refl _ _, fun _ _ _ _ _ => trivial⟩
                            | 6, ho, hsk =>
                              obtain rfl := Option.some.inj ho
                              have e0 : a'.eval (.tmp 89) = .int .i64 P.known := is_tq (hin 3 89 (by kernel_rfl) (by kernel_rfl)) rfl
                              have e1 : a'.eval (.tmp 91) = .int .i64 Q.known := is_tq (hin 5 91 (by kernel_rfl) (by kernel_rfl)) rfl
                              exact o_eqlT3 (.tmp 89) (.tmp 91) rfl _ _ true (unhide H1) e0 e1 ⟨_, rfl, tq_is _ _ _ _ rfl, Kept.refl _ _, fun _ _ _ _ _ => trivial⟩
                            | 7, ho, hsk =>
                              obtain rfl := Option.some.inj ho
                              have e0 : a'.eval (.tmp 92) = .bool true := is_tq (hin 6 92 (by kernel_rfl) (by kernel_rfl)) rfl
                              exact wp_move (.tmp 92) rfl _ e0 ⟨_, rfl, tq_is _ _ _ _ rfl, Kept.refl _ _, fun _ _ _ _ _ => trivial⟩
                            | 8, ho, hsk =>
                              obtain rfl := Option.some.inj ho
                              exact wp_move (.tmp 7) rfl _ ((hout 7 (by kernel_rfl)).trans rfl) ⟨_, rfl, tq_is _ _ _ _ rfl, Kept.refl _ _, fun _ _ _ _ _ => trivial⟩
                            | 9, ho, hsk =>
                              obtain rfl := Option.some.inj ho
                              have e0 : a'.eval (.tmp 94) = P0 r := is_tq (hin 8 94 (by kernel_rfl) (by kernel_rfl)) rfl
                              exact o_nil (.tmp 94) rfl _ e0 ⟨_, rfl, tq_is _ _ _ _ rfl, Kept.refl _ _, fun _ _ _ _ _ => trivial⟩
                            | 10, ho, hsk =>
                              obtain rfl := Option.some.inj ho
                              have e0 : a'.eval (.tmp 95) = P0 r := is_tq (hin 9 95 (by kernel_rfl) (by kernel_rfl)) rfl
                              exact o_fld32_5 (.tmp 95) rfl r e0 ⟨_, rfl, tq_is _ _ _ _ rfl, Kept.refl _ _, fun _ _ _ _ _ => trivial⟩
                            | 11, ho, hsk =>
                              obtain rfl := Option.some.inj ho
                              have e0 : a'.eval (.tmp 96) = .pointer (some ⟨r, 5, none⟩) := is_tq (hin 10 96 (by kernel_rfl) (by kernel_rfl)) rfl
                              exact o_load3 (.tmp 96) rfl _ _ e0 (fits_cell ((unhide HRH).kept hk2 (by simp)) 5 _ rfl) ⟨_, rfl, tq_is _ _ _ _ rfl, Kept.refl _ _, fun _ _ _ _ _ => trivial⟩
                            | 12, ho, hsk =>
                              obtain rfl := Option.some.inj ho
                              exact wp_move (.tmp 7) rfl _ ((hout 7 (by kernel_rfl)).trans rfl) ⟨_, rfl, tq_is _ _ _ _ rfl, Kept.refl _ _, fun _ _ _ _ _ => trivial⟩
                            | 13, ho, hsk =>
                              obtain rfl := Option.some.inj ho
                              have e0 : a'.eval (.tmp 98) = P0 r := is_tq (hin 12 98 (by kernel_rfl) (by kernel_rfl)) rfl
                              exact o_nil (.tmp 98) rfl _ e0 ⟨_, rfl, tq_is _ _ _ _ rfl, Kept.refl _ _, fun _ _ _ _ _ => trivial⟩
                            | 14, ho, hsk =>
                              obtain rfl := Option.some.inj ho
                              have e0 : a'.eval (.tmp 99) = P0 r := is_tq (hin 13 99 (by kernel_rfl) (by kernel_rfl)) rfl
                              exact o_fld32_4 (.tmp 99) rfl r e0 ⟨_, rfl, tq_is _ _ _ _ rfl, Kept.refl _ _, fun _ _ _ _ _ => trivial⟩
                            | 15, ho, hsk =>
                              obtain rfl := Option.some.inj ho
                              have e0 : a'.eval (.tmp 100) = .pointer (some ⟨r, 4, none⟩) := is_tq (hin 14 100 (by kernel_rfl) (by kernel_rfl)) rfl
                              exact o_load3 (.tmp 100) rfl _ _ e0 (fits_cell ((unhide HRH).kept hk2 (by simp)) 4 _ rfl) ⟨_, rfl, tq_is _ _ _ _ rfl, Kept.refl _ _, fun _ _ _ _ _ => trivial⟩
                            | 16, ho, hsk =>
                              obtain rfl := Option.some.inj ho
                              have e0 : a'.eval (.tmp 97) = .int .i64 P.told := is_tq (hin 11 97 (by kernel_rfl) (by kernel_rfl)) rfl
                              have e1 : a'.eval (.tmp 101) = .int .i64 P.known := is_tq (hin 15 101 (by kernel_rfl) (by kernel_rfl)) rfl
                              exact o_max3 (.tmp 97) (.tmp 101) rfl _ _ e0 e1 ⟨_, rfl, tq_is _ _ _ _ rfl, Kept.refl _ _, fun _ _ _ _ _ => trivial⟩
                            | 17, ho, hsk =>
                              obtain rfl := Option.some.inj ho
                              exact o_fld32_5 (.tmp 10) rfl q ((hout 10 (by kernel_rfl)).trans rfl) ⟨_, rfl, tq_is _ _ _ _ rfl, Kept.refl _ _, fun _ _ _ _ _ => trivial⟩
                            | 18, ho, hsk =>
                              obtain rfl := Option.some.inj ho
                              have e0 : a'.eval (.tmp 103) = .pointer (some ⟨q, 5, none⟩) := is_tq (hin 17 103 (by kernel_rfl) (by kernel_rfl)) rfl
                              exact o_load3 (.tmp 103) rfl _ _ e0 (fits_cell ((unhide HQH).kept hk2 (by simp)) 5 _ rfl) ⟨_, rfl, tq_is _ _ _ _ rfl, Kept.refl _ _, fun _ _ _ _ _ => trivial⟩
                            | 19, ho, hsk =>
                              obtain rfl := Option.some.inj ho
                              exact o_fld32_4 (.tmp 10) rfl q ((hout 10 (by kernel_rfl)).trans rfl) ⟨_, rfl, tq_is _ _ _ _ rfl, Kept.refl _ _, fun _ _ _ _ _ => trivial⟩
                            | 20, ho, hsk =>
                              obtain rfl := Option.some.inj ho
                              have e0 : a'.eval (.tmp 105) = .pointer (some ⟨q, 4, none⟩) := is_tq (hin 19 105 (by kernel_rfl) (by kernel_rfl)) rfl
                              exact o_load3 (.tmp 105) rfl _ _ e0 (fits_cell ((unhide HQH).kept hk2 (by simp)) 4 _ rfl) ⟨_, rfl, tq_is _ _ _ _ rfl, Kept.refl _ _, fun _ _ _ _ _ => trivial⟩
                            | 21, ho, hsk =>
                              obtain rfl := Option.some.inj ho
                              have e0 : a'.eval (.tmp 104) = .int .i64 Q.told := is_tq (hin 18 104 (by kernel_rfl) (by kernel_rfl)) rfl
                              have e1 : a'.eval (.tmp 106) = .int .i64 Q.known := is_tq (hin 20 106 (by kernel_rfl) (by kernel_rfl)) rfl
                              exact o_max3 (.tmp 104) (.tmp 106) rfl _ _ e0 e1 ⟨_, rfl, tq_is _ _ _ _ rfl, Kept.refl _ _, fun _ _ _ _ _ => trivial⟩
                            | 22, ho, hsk =>
                              obtain rfl := Option.some.inj ho
                              have e0 : a'.eval (.tmp 102) = .int .i64 (max (P.told : Int) (P.known : Int)) := is_tq (hin 16 102 (by kernel_rfl) (by kernel_rfl)) rfl
                              have e1 : a'.eval (.tmp 107) = .int .i64 (max (Q.told : Int) (Q.known : Int)) := is_tq (hin 21 107 (by kernel_rfl) (by kernel_rfl)) rfl
                              exact o_eqlT3 (.tmp 102) (.tmp 107) rfl _ _ true (unhide H2) e0 e1 ⟨_, rfl, tq_is _ _ _ _ rfl, Kept.refl _ _, fun _ _ _ _ _ => trivial⟩
                            | 23, ho, hsk =>
                              obtain rfl := Option.some.inj ho
                              have e0 : a'.eval (.tmp 93) = .bool true := is_tq (hin 7 93 (by kernel_rfl) (by kernel_rfl)) rfl
                              have e1 : a'.eval (.tmp 108) = .bool true := is_tq (hin 22 108 (by kernel_rfl) (by kernel_rfl)) rfl
                              exact o_pick (.tmp 93) (.tmp 108) rfl _ e0 e1 ⟨_, rfl, tq_is _ _ _ _ rfl, Kept.refl _ _, fun _ _ _ _ _ => trivial⟩
                            | 24, ho, hsk =>
                              obtain rfl := Option.some.inj ho
                              have e0 : a'.eval (.tmp 109) = .bool true := is_tq (hin 23 109 (by kernel_rfl) (by kernel_rfl)) rfl
                              exact wp_move (.tmp 109) rfl _ e0 ⟨_, rfl, tq_is _ _ _ _ rfl, Kept.refl _ _, fun _ _ _ _ _ => trivial⟩
                            | 25, ho, hsk =>
                              obtain rfl := Option.some.inj ho
                              exact wp_move (.tmp 7) rfl _ ((hout 7 (by kernel_rfl)).trans rfl) ⟨_, rfl, tq_is _ _ _ _ rfl, Kept.refl _ _, fun _ _ _ _ _ => trivial⟩
                            | 26, ho, hsk =>
                              obtain rfl := Option.some.inj ho
                              have e0 : a'.eval (.tmp 111) = P0 r := is_tq (hin 25 111 (by kernel_rfl) (by kernel_rfl)) rfl
                              exact o_nil (.tmp 111) rfl _ e0 ⟨_, rfl, tq_is _ _ _ _ rfl, Kept.refl _ _, fun _ _ _ _ _ => trivial⟩
                            | 27, ho, hsk =>
                              obtain rfl := Option.some.inj ho
                              have e0 : a'.eval (.tmp 112) = P0 r := is_tq (hin 26 112 (by kernel_rfl) (by kernel_rfl)) rfl
                              exact o_fld32_5 (.tmp 112) rfl r e0 ⟨_, rfl, tq_is _ _ _ _ rfl, Kept.refl _ _, fun _ _ _ _ _ => trivial⟩
                            | 28, ho, hsk =>
                              obtain rfl := Option.some.inj ho
                              have e0 : a'.eval (.tmp 113) = .pointer (some ⟨r, 5, none⟩) := is_tq (hin 27 113 (by kernel_rfl) (by kernel_rfl)) rfl
                              exact o_load3 (.tmp 113) rfl _ _ e0 (fits_cell ((unhide HRH).kept hk2 (by simp)) 5 _ rfl) ⟨_, rfl, tq_is _ _ _ _ rfl, Kept.refl _ _, fun _ _ _ _ _ => trivial⟩
                            | 29, ho, hsk =>
                              obtain rfl := Option.some.inj ho
                              exact o_fld32_5 (.tmp 10) rfl q ((hout 10 (by kernel_rfl)).trans rfl) ⟨_, rfl, tq_is _ _ _ _ rfl, Kept.refl _ _, fun _ _ _ _ _ => trivial⟩
                            | 30, ho, hsk =>
                              obtain rfl := Option.some.inj ho
                              have e0 : a'.eval (.tmp 115) = .pointer (some ⟨q, 5, none⟩) := is_tq (hin 29 115 (by kernel_rfl) (by kernel_rfl)) rfl
                              exact o_load3 (.tmp 115) rfl _ _ e0 (fits_cell ((unhide HQH).kept hk2 (by simp)) 5 _ rfl) ⟨_, rfl, tq_is _ _ _ _ rfl, Kept.refl _ _, fun _ _ _ _ _ => trivial⟩
                            | 31, ho, hsk =>
                              obtain rfl := Option.some.inj ho
                              have e0 : a'.eval (.tmp 114) = .int .i64 P.told := is_tq (hin 28 114 (by kernel_rfl) (by kernel_rfl)) rfl
                              have e1 : a'.eval (.tmp 116) = .int .i64 Q.told := is_tq (hin 30 116 (by kernel_rfl) (by kernel_rfl)) rfl
                              exact o_eqlT3 (.tmp 114) (.tmp 116) rfl _ _ true (unhide H3) e0 e1 ⟨_, rfl, tq_is _ _ _ _ rfl, Kept.refl _ _, fun _ _ _ _ _ => trivial⟩
                            | 32, ho, hsk =>
                              obtain rfl := Option.some.inj ho
                              have e0 : a'.eval (.tmp 110) = .bool true := is_tq (hin 24 110 (by kernel_rfl) (by kernel_rfl)) rfl
                              have e1 : a'.eval (.tmp 117) = .bool true := is_tq (hin 31 117 (by kernel_rfl) (by kernel_rfl)) rfl
                              exact o_pick (.tmp 110) (.tmp 117) rfl _ e0 e1 ⟨_, rfl, tq_is _ _ _ _ rfl, Kept.refl _ _, fun _ _ _ _ _ => trivial⟩
                            | 33, ho, hsk =>
                              obtain rfl := Option.some.inj ho
                              have e0 : a'.eval (.tmp 118) = .bool true := is_tq (hin 32 118 (by kernel_rfl) (by kernel_rfl)) rfl
                              exact wp_move (.tmp 118) rfl _ e0 ⟨_, rfl, tq_is _ _ _ _ rfl, Kept.refl _ _, fun _ _ _ _ _ => trivial⟩
                            | 34, ho, hsk =>
                              obtain rfl := Option.some.inj ho
                              exact wp_move (.tmp 7) rfl _ ((hout 7 (by kernel_rfl)).trans rfl) ⟨_, rfl, tq_is _ _ _ _ rfl, Kept.refl _ _, fun _ _ _ _ _ => trivial⟩
                            | 35, ho, hsk =>
                              obtain rfl := Option.some.inj ho
                              have e0 : a'.eval (.tmp 120) = P0 r := is_tq (hin 34 120 (by kernel_rfl) (by kernel_rfl)) rfl
                              exact o_nil (.tmp 120) rfl _ e0 ⟨_, rfl, tq_is _ _ _ _ rfl, Kept.refl _ _, fun _ _ _ _ _ => trivial⟩
                            | 36, ho, hsk =>
                              obtain rfl := Option.some.inj ho
                              have e0 : a'.eval (.tmp 121) = P0 r := is_tq (hin 35 121 (by kernel_rfl) (by kernel_rfl)) rfl
                              exact o_fld32_6 (.tmp 121) rfl r e0 ⟨_, rfl, tq_is _ _ _ _ rfl, Kept.refl _ _, fun _ _ _ _ _ => trivial⟩
                            | 37, ho, hsk =>
                              obtain rfl := Option.some.inj ho
                              have e0 : a'.eval (.tmp 122) = .pointer (some ⟨r, 6, none⟩) := is_tq (hin 36 122 (by kernel_rfl) (by kernel_rfl)) rfl
                              exact o_load2 (.tmp 122) rfl _ _ e0 (fits_cell ((unhide HRH).kept hk2 (by simp)) 6 _ rfl) ⟨_, rfl, tq_is _ _ _ _ rfl, Kept.refl _ _, fun _ _ _ _ _ => trivial⟩
                            | 38, ho, hsk =>
                              obtain rfl := Option.some.inj ho
                              exact o_fld32_6 (.tmp 10) rfl q ((hout 10 (by kernel_rfl)).trans rfl) ⟨_, rfl, tq_is _ _ _ _ rfl, Kept.refl _ _, fun _ _ _ _ _ => trivial⟩
                            | 39, ho, hsk =>
                              obtain rfl := Option.some.inj ho
                              have e0 : a'.eval (.tmp 124) = .pointer (some ⟨q, 6, none⟩) := is_tq (hin 38 124 (by kernel_rfl) (by kernel_rfl)) rfl
                              exact o_load2 (.tmp 124) rfl _ _ e0 (fits_cell ((unhide HQH).kept hk2 (by simp)) 6 _ rfl) ⟨_, rfl, tq_is _ _ _ _ rfl, Kept.refl _ _, fun _ _ _ _ _ => trivial⟩
                            | 40, ho, hsk =>
                              obtain rfl := Option.some.inj ho
                              have e0 : a'.eval (.tmp 123) = .int .i64 P.got := is_tq (hin 37 123 (by kernel_rfl) (by kernel_rfl)) rfl
                              have e1 : a'.eval (.tmp 125) = .int .i64 Q.got := is_tq (hin 39 125 (by kernel_rfl) (by kernel_rfl)) rfl
                              exact o_eqlT2 (.tmp 123) (.tmp 125) rfl _ _ true (unhide H4) e0 e1 ⟨_, rfl, tq_is _ _ _ _ rfl, Kept.refl _ _, fun _ _ _ _ _ => trivial⟩
                            | 41, ho, hsk =>
                              obtain rfl := Option.some.inj ho
                              have e0 : a'.eval (.tmp 119) = .bool true := is_tq (hin 33 119 (by kernel_rfl) (by kernel_rfl)) rfl
                              have e1 : a'.eval (.tmp 126) = .bool true := is_tq (hin 40 126 (by kernel_rfl) (by kernel_rfl)) rfl
                              exact o_pick (.tmp 119) (.tmp 126) rfl _ e0 e1 ⟨_, rfl, tq_is _ _ _ _ rfl, Kept.refl _ _, fun _ _ _ _ _ => trivial⟩
                            | 42, ho, hsk =>
                              obtain rfl := Option.some.inj ho
                              have e0 : a'.eval (.tmp 127) = .bool true := is_tq (hin 41 127 (by kernel_rfl) (by kernel_rfl)) rfl
                              exact wp_move (.tmp 127) rfl _ e0 ⟨_, rfl, tq_is _ _ _ _ rfl, Kept.refl _ _, fun _ _ _ _ _ => trivial⟩
                            | 43, ho, hsk =>
                              obtain rfl := Option.some.inj ho
                              exact wp_move (.tmp 7) rfl _ ((hout 7 (by kernel_rfl)).trans rfl) ⟨_, rfl, tq_is _ _ _ _ rfl, Kept.refl _ _, fun _ _ _ _ _ => trivial⟩
                            | 44, ho, hsk =>
                              obtain rfl := Option.some.inj ho
                              have e0 : a'.eval (.tmp 129) = P0 r := is_tq (hin 43 129 (by kernel_rfl) (by kernel_rfl)) rfl
                              exact o_nil (.tmp 129) rfl _ e0 ⟨_, rfl, tq_is _ _ _ _ rfl, Kept.refl _ _, fun _ _ _ _ _ => trivial⟩
                            | 45, ho, hsk =>
                              obtain rfl := Option.some.inj ho
                              have e0 : a'.eval (.tmp 130) = P0 r := is_tq (hin 44 130 (by kernel_rfl) (by kernel_rfl)) rfl
                              exact o_fld32_7 (.tmp 130) rfl r e0 ⟨_, rfl, tq_is _ _ _ _ rfl, Kept.refl _ _, fun _ _ _ _ _ => trivial⟩
                            | 46, ho, hsk =>
                              obtain rfl := Option.some.inj ho
                              have e0 : a'.eval (.tmp 131) = .pointer (some ⟨r, 7, none⟩) := is_tq (hin 45 131 (by kernel_rfl) (by kernel_rfl)) rfl
                              exact o_load4 (.tmp 131) rfl _ _ e0 (fits_cell ((unhide HRH).kept hk2 (by simp)) 7 _ rfl) ⟨_, rfl, tq_is _ _ _ _ rfl, Kept.refl _ _, fun _ _ _ _ _ => trivial⟩
                            | 47, ho, hsk =>
                              obtain rfl := Option.some.inj ho
                              exact o_fld32_7 (.tmp 10) rfl q ((hout 10 (by kernel_rfl)).trans rfl) ⟨_, rfl, tq_is _ _ _ _ rfl, Kept.refl _ _, fun _ _ _ _ _ => trivial⟩
                            | 48, ho, hsk =>
                              obtain rfl := Option.some.inj ho
                              have e0 : a'.eval (.tmp 133) = .pointer (some ⟨q, 7, none⟩) := is_tq (hin 47 133 (by kernel_rfl) (by kernel_rfl)) rfl
                              exact o_load4 (.tmp 133) rfl _ _ e0 (fits_cell ((unhide HQH).kept hk2 (by simp)) 7 _ rfl) ⟨_, rfl, tq_is _ _ _ _ rfl, Kept.refl _ _, fun _ _ _ _ _ => trivial⟩
                            | 49, ho, hsk =>
                              obtain rfl := Option.some.inj ho
                              have e0 : a'.eval (.tmp 132) = .bool P.owes := is_tq (hin 46 132 (by kernel_rfl) (by kernel_rfl)) rfl
                              have e1 : a'.eval (.tmp 134) = .bool Q.owes := is_tq (hin 48 134 (by kernel_rfl) (by kernel_rfl)) rfl
                              exact o_eqlT4 (.tmp 132) (.tmp 134) rfl _ _ true (unhide H5) e0 e1 ⟨_, rfl, tq_is _ _ _ _ rfl, Kept.refl _ _, fun _ _ _ _ _ => trivial⟩
                            | 50, ho, hsk =>
                              obtain rfl := Option.some.inj ho
                              have e0 : a'.eval (.tmp 128) = .bool true := is_tq (hin 42 128 (by kernel_rfl) (by kernel_rfl)) rfl
                              have e1 : a'.eval (.tmp 135) = .bool true := is_tq (hin 49 135 (by kernel_rfl) (by kernel_rfl)) rfl
                              exact o_pick (.tmp 128) (.tmp 135) rfl _ e0 e1 ⟨_, rfl, tq_is _ _ _ _ rfl, Kept.refl _ _, fun _ _ _ _ _ => trivial⟩
                            | 51, ho, hsk =>
                              obtain rfl := Option.some.inj ho
                              have e0 : a'.eval (.tmp 136) = .bool true := is_tq (hin 50 136 (by kernel_rfl) (by kernel_rfl)) rfl
                              exact wp_move (.tmp 136) rfl _ e0 ⟨_, rfl, tq_is _ _ _ _ rfl, Kept.refl _ _, fun _ _ _ _ _ => trivial⟩
                            | 52, ho, hsk =>
                              obtain rfl := Option.some.inj ho
                              exact wp_move (.tmp 7) rfl _ ((hout 7 (by kernel_rfl)).trans rfl) ⟨_, rfl, tq_is _ _ _ _ rfl, Kept.refl _ _, fun _ _ _ _ _ => trivial⟩
                            | 53, ho, hsk =>
                              obtain rfl := Option.some.inj ho
                              have e0 : a'.eval (.tmp 138) = P0 r := is_tq (hin 52 138 (by kernel_rfl) (by kernel_rfl)) rfl
                              exact o_nil (.tmp 138) rfl _ e0 ⟨_, rfl, tq_is _ _ _ _ rfl, Kept.refl _ _, fun _ _ _ _ _ => trivial⟩
                            | 54, ho, hsk =>
                              obtain rfl := Option.some.inj ho
                              have e0 : a'.eval (.tmp 139) = P0 r := is_tq (hin 53 139 (by kernel_rfl) (by kernel_rfl)) rfl
                              exact o_fld32_3 (.tmp 139) rfl r e0 ⟨_, rfl, tq_is _ _ _ _ rfl, Kept.refl _ _, fun _ _ _ _ _ => trivial⟩
                            | 55, ho, hsk =>
                              obtain rfl := Option.some.inj ho
                              have e0 : a'.eval (.tmp 140) = .pointer (some ⟨r, 3, none⟩) := is_tq (hin 54 140 (by kernel_rfl) (by kernel_rfl)) rfl
                              exact o_load30 (.tmp 140) rfl _ _ e0 (fits_cell ((unhide HRH).kept hk2 (by simp)) 3 _ rfl) ⟨_, rfl, tq_is _ _ _ _ rfl, Kept.refl _ _, fun _ _ _ _ _ => trivial⟩
                            | 56, ho, hsk =>
                              obtain rfl := Option.some.inj ho
                              have e0 : a'.eval (.tmp 141) = rv := is_tq (hin 55 141 (by kernel_rfl) (by kernel_rfl)) rfl
                              exact o_len30 (.tmp 141) rfl ro rs.length rc (by rw [e0]; exact unhide HRV) ⟨_, rfl, tq_is _ _ _ _ rfl, Kept.refl _ _, fun _ _ _ _ _ => trivial⟩
                            | 57, ho, hsk =>
                              obtain rfl := Option.some.inj ho
                              exact o_fld32_3 (.tmp 10) rfl q ((hout 10 (by kernel_rfl)).trans rfl) ⟨_, rfl, tq_is _ _ _ _ rfl, Kept.refl _ _, fun _ _ _ _ _ => trivial⟩
                            | 58, ho, hsk =>
                              obtain rfl := Option.some.inj ho
                              have e0 : a'.eval (.tmp 143) = .pointer (some ⟨q, 3, none⟩) := is_tq (hin 57 143 (by kernel_rfl) (by kernel_rfl)) rfl
                              exact o_load30 (.tmp 143) rfl _ _ e0 (fits_cell ((unhide HQH).kept hk2 (by simp)) 3 _ rfl) ⟨_, rfl, tq_is _ _ _ _ rfl, Kept.refl _ _, fun _ _ _ _ _ => trivial⟩
                            | 59, ho, hsk =>
                              obtain rfl := Option.some.inj ho
                              have e0 : a'.eval (.tmp 144) = vq := is_tq (hin 58 144 (by kernel_rfl) (by kernel_rfl)) rfl
                              exact o_len30 (.tmp 144) rfl qo wq.length qc (by rw [e0]; exact unhide HQV) ⟨_, rfl, tq_is _ _ _ _ rfl, Kept.refl _ _, fun _ _ _ _ _ => trivial⟩
                            | 60, ho, hsk =>
                              obtain rfl := Option.some.inj ho
                              have e0 : a'.eval (.tmp 142) = .int .i64 rs.length := is_tq (hin 56 142 (by kernel_rfl) (by kernel_rfl)) rfl
                              have e1 : a'.eval (.tmp 145) = .int .i64 wq.length := is_tq (hin 59 145 (by kernel_rfl) (by kernel_rfl)) rfl
                              exact o_eqlT3 (.tmp 142) (.tmp 145) rfl _ _ false (unhide H6) e0 e1 ⟨_, rfl, tq_is _ _ _ _ rfl, Kept.refl _ _, fun _ _ _ _ _ => trivial⟩
                            | 61, ho, hsk =>
                              obtain rfl := Option.some.inj ho
                              have e0 : a'.eval (.tmp 137) = .bool true := is_tq (hin 51 137 (by kernel_rfl) (by kernel_rfl)) rfl
                              have e1 : a'.eval (.tmp 146) = .bool false := is_tq (hin 60 146 (by kernel_rfl) (by kernel_rfl)) rfl
                              exact o_pick (.tmp 137) (.tmp 146) rfl _ e0 e1 ⟨_, rfl, tq_is _ _ _ _ rfl, Kept.refl _ _, fun _ _ _ _ _ => trivial⟩
                            | 62, ho, hsk =>
                              obtain rfl := Option.some.inj ho
                              have e0 : a'.eval (.tmp 147) = .bool false := is_tq (hin 61 147 (by kernel_rfl) (by kernel_rfl)) rfl
                              exact wp_assignV (.tmp 147) rfl _ e0 ⟨_, rfl, tq_is _ _ _ _ rfl, Kept.refl _ _, fun _ _ _ _ _ => trivial⟩
                          intro w9 hk9
                          replace hk9 : Kept [] wr w9 := ⟨hk9.os, hk9.tape, hk9.output, hk9.size, hk9.block⟩
                          simp only [valsQ, List.map_cons, List.map_nil, Option.getD_some, List.take_succ_cons, List.take_zero, putAll, Act.put, List.setIfInBounds_toArray, List.set_cons_succ, List.set_cons_zero]
                          refine wpAny_done (by kernel_rfl) ?_ _
                          replace QD := hide ((unhide QD).step hk9)
                          replace HRH := hide (unhide QD).rx.head
                          clear hk9 HQH
                          go_wp2_with fail
                          refine wp_region_any mixed (wpAny_tq 33 rfl (by kernel_rfl) [some (P0 b), some (P0 c), some (.bool false), some (.bool false), some (.bool true), some (.bool true), some (P0 b), some (.int .i64 ws.length), some (P0 r), some (P0 r), some (.pointer (some ⟨r, 3, none⟩)), some (rv), some (.int .i64 rs.length), some (P0 r), some (P0 r), some (.pointer (some ⟨r, 4, none⟩)), some (.int .i64 P.known), some (.int .i64 ws.length), some (.bool true), some (.bool true), some (.bool true), some (P0 b), some (.int .i64 P.got), some (P0 r), some (P0 r), some (.pointer (some ⟨r, 6, none⟩)), some (.int .i64 P.got), some (.bool true), some (.bool true), some (.bool true), some (.bool true), some (.bool true), some (.bool true)] rfl (by kernel_rfl) (by kernel_rfl) ?_ ?_)
                          · intro i o' hi hsk ho a' w2 hout hin hk2
                            replace hk2 : Kept [] w9 w2 := ⟨hk2.os, hk2.tape, hk2.output, hk2.size, hk2.block⟩
                            match i, ho, hsk with
                            | 0, ho, hsk =>
                              obtain rfl := Option.some.inj ho
                              exact wp_move (.tmp 5) rfl _ ((hout 5 (by kernel_rfl)).trans rfl) ⟨_, rfl, tq_is _ _ _ _ rfl, Kept.refl _ _, fun _ _ _ _ _ => trivial⟩
                            | 1, ho, hsk =>
                              obtain rfl := Option.some.inj ho
                              exact wp_move (.tmp 9) rfl _ ((hout 9 (by kernel_rfl)).trans rfl) ⟨_, rfl, tq_is _ _ _ _ rfl, Kept.refl _ _, fun _ _ _ _ _ => trivial⟩
                            | 2, ho, hsk =>
                              obtain rfl := Option.some.inj ho
                              have e0 : a'.eval (.tmp 148) = P0 b := is_tq (hin 0 148 (by kernel_rfl) (by kernel_rfl)) rfl
                              have e1 : a'.eval (.tmp 149) = P0 c := is_tq (hin 1 149 (by kernel_rfl) (by kernel_rfl)) rfl
                              refine wp_callF 28 _ _ rfl #[P0 b, P0 c] (by simp [e0, e1]) (cf28 _ _) ((k_same b c _ _ _ _ P Q false (unhide HSAME) _ ((unhide QD).s.sx.kept0 hk2) ((unhide QD).cp.sx.kept0 hk2)).mono ?_)
                              rintro e w3 ⟨rfl, hk3⟩
                              exact ⟨_, rfl, _, rfl, tq_is _ _ _ _ rfl, hk3, fun _ _ _ _ _ => trivial⟩
                            | 3, ho, hsk =>
                              obtain rfl := Option.some.inj ho
                              exact wp_move (.tmp 12) rfl _ ((hout 12 (by kernel_rfl)).trans rfl) ⟨_, rfl, tq_is _ _ _ _ rfl, Kept.refl _ _, fun _ _ _ _ _ => trivial⟩
                            | 4, ho, hsk =>
                              obtain rfl := Option.some.inj ho
                              have e0 : a'.eval (.tmp 150) = .bool false := is_tq (hin 2 150 (by kernel_rfl) (by kernel_rfl)) rfl
                              have e1 : a'.eval (.tmp 151) = .bool false := is_tq (hin 3 151 (by kernel_rfl) (by kernel_rfl)) rfl
                              exact o_eqlT4 (.tmp 150) (.tmp 151) rfl _ _ true (by simp) e0 e1 ⟨_, rfl, tq_is _ _ _ _ rfl, Kept.refl _ _, fun _ _ _ _ _ => trivial⟩
                            | 5, ho, hsk =>
                              obtain rfl := Option.some.inj ho
                              have e0 : a'.eval (.tmp 152) = .bool true := is_tq (hin 4 152 (by kernel_rfl) (by kernel_rfl)) rfl
                              exact wp_move (.tmp 152) rfl _ e0 ⟨_, rfl, tq_is _ _ _ _ rfl, Kept.refl _ _, fun _ _ _ _ _ => trivial⟩
                            | 6, ho, hsk =>
                              obtain rfl := Option.some.inj ho
                              exact wp_move (.tmp 5) rfl _ ((hout 5 (by kernel_rfl)).trans rfl) ⟨_, rfl, tq_is _ _ _ _ rfl, Kept.refl _ _, fun _ _ _ _ _ => trivial⟩
                            | 7, ho, hsk =>
                              obtain rfl := Option.some.inj ho
                              have e0 : a'.eval (.tmp 154) = P0 b := is_tq (hin 6 154 (by kernel_rfl) (by kernel_rfl)) rfl
                              refine wp_callF 22 _ _ rfl #[P0 b] (by simp [e0]) (cf22 _ _) ((waits22 b v ws P _ ((unhide QD).s.sx.kept0 hk2)).mono ?_)
                              rintro e w3 ⟨rfl, q3, rfl⟩
                              exact ⟨_, rfl, _, rfl, tq_is _ _ _ _ rfl, kept_drewN _ _ _, fun _ _ _ _ _ => trivial⟩
                            | 8, ho, hsk =>
                              obtain rfl := Option.some.inj ho
                              exact wp_move (.tmp 7) rfl _ ((hout 7 (by kernel_rfl)).trans rfl) ⟨_, rfl, tq_is _ _ _ _ rfl, Kept.refl _ _, fun _ _ _ _ _ => trivial⟩
                            | 9, ho, hsk =>
                              obtain rfl := Option.some.inj ho
                              have e0 : a'.eval (.tmp 156) = P0 r := is_tq (hin 8 156 (by kernel_rfl) (by kernel_rfl)) rfl
                              exact o_nil (.tmp 156) rfl _ e0 ⟨_, rfl, tq_is _ _ _ _ rfl, Kept.refl _ _, fun _ _ _ _ _ => trivial⟩
                            | 10, ho, hsk =>
                              obtain rfl := Option.some.inj ho
                              have e0 : a'.eval (.tmp 157) = P0 r := is_tq (hin 9 157 (by kernel_rfl) (by kernel_rfl)) rfl
                              exact o_fld32_3 (.tmp 157) rfl r e0 ⟨_, rfl, tq_is _ _ _ _ rfl, Kept.refl _ _, fun _ _ _ _ _ => trivial⟩
                            | 11, ho, hsk =>
                              obtain rfl := Option.some.inj ho
                              have e0 : a'.eval (.tmp 158) = .pointer (some ⟨r, 3, none⟩) := is_tq (hin 10 158 (by kernel_rfl) (by kernel_rfl)) rfl
                              exact o_load30 (.tmp 158) rfl _ _ e0 (fits_cell ((unhide HRH).kept hk2 (by simp)) 3 _ rfl) ⟨_, rfl, tq_is _ _ _ _ rfl, Kept.refl _ _, fun _ _ _ _ _ => trivial⟩
                            | 12, ho, hsk =>
                              obtain rfl := Option.some.inj ho
                              have e0 : a'.eval (.tmp 159) = rv := is_tq (hin 11 159 (by kernel_rfl) (by kernel_rfl)) rfl
                              exact o_len30 (.tmp 159) rfl ro rs.length rc (by rw [e0]; exact unhide HRV) ⟨_, rfl, tq_is _ _ _ _ rfl, Kept.refl _ _, fun _ _ _ _ _ => trivial⟩
                            | 13, ho, hsk =>
                              obtain rfl := Option.some.inj ho
                              exact wp_move (.tmp 7) rfl _ ((hout 7 (by kernel_rfl)).trans rfl) ⟨_, rfl, tq_is _ _ _ _ rfl, Kept.refl _ _, fun _ _ _ _ _ => trivial⟩
                            | 14, ho, hsk =>
                              obtain rfl := Option.some.inj ho
                              have e0 : a'.eval (.tmp 161) = P0 r := is_tq (hin 13 161 (by kernel_rfl) (by kernel_rfl)) rfl
                              exact o_nil (.tmp 161) rfl _ e0 ⟨_, rfl, tq_is _ _ _ _ rfl, Kept.refl _ _, fun _ _ _ _ _ => trivial⟩
                            | 15, ho, hsk =>
                              obtain rfl := Option.some.inj ho
                              have e0 : a'.eval (.tmp 162) = P0 r := is_tq (hin 14 162 (by kernel_rfl) (by kernel_rfl)) rfl
                              exact o_fld32_4 (.tmp 162) rfl r e0 ⟨_, rfl, tq_is _ _ _ _ rfl, Kept.refl _ _, fun _ _ _ _ _ => trivial⟩
                            | 16, ho, hsk =>
                              obtain rfl := Option.some.inj ho
                              have e0 : a'.eval (.tmp 163) = .pointer (some ⟨r, 4, none⟩) := is_tq (hin 15 163 (by kernel_rfl) (by kernel_rfl)) rfl
                              exact o_load3 (.tmp 163) rfl _ _ e0 (fits_cell ((unhide HRH).kept hk2 (by simp)) 4 _ rfl) ⟨_, rfl, tq_is _ _ _ _ rfl, Kept.refl _ _, fun _ _ _ _ _ => trivial⟩
                            | 17, ho, hsk =>
                              obtain rfl := Option.some.inj ho
                              have e0 : a'.eval (.tmp 160) = .int .i64 rs.length := is_tq (hin 12 160 (by kernel_rfl) (by kernel_rfl)) rfl
                              have e1 : a'.eval (.tmp 164) = .int .i64 P.known := is_tq (hin 16 164 (by kernel_rfl) (by kernel_rfl)) rfl
                              refine o_sub3 (.tmp 160) (.tmp 164) rfl _ _ (by have := unhide HLE; omega) e0 e1 ?_
                              rw [(unhide HLE).1]
                              exact ⟨_, rfl, tq_is _ _ _ _ rfl, Kept.refl _ _, fun _ _ _ _ _ => trivial⟩
                            | 18, ho, hsk =>
                              obtain rfl := Option.some.inj ho
                              have e0 : a'.eval (.tmp 155) = .int .i64 ws.length := is_tq (hin 7 155 (by kernel_rfl) (by kernel_rfl)) rfl
                              have e1 : a'.eval (.tmp 165) = .int .i64 ws.length := is_tq (hin 17 165 (by kernel_rfl) (by kernel_rfl)) rfl
                              exact o_eqlT3 (.tmp 155) (.tmp 165) rfl _ _ true (by simp) e0 e1 ⟨_, rfl, tq_is _ _ _ _ rfl, Kept.refl _ _, fun _ _ _ _ _ => trivial⟩
                            | 19, ho, hsk =>
                              obtain rfl := Option.some.inj ho
                              have e0 : a'.eval (.tmp 153) = .bool true := is_tq (hin 5 153 (by kernel_rfl) (by kernel_rfl)) rfl
                              have e1 : a'.eval (.tmp 166) = .bool true := is_tq (hin 18 166 (by kernel_rfl) (by kernel_rfl)) rfl
                              exact o_pick (.tmp 153) (.tmp 166) rfl _ e0 e1 ⟨_, rfl, tq_is _ _ _ _ rfl, Kept.refl _ _, fun _ _ _ _ _ => trivial⟩
                            | 20, ho, hsk =>
                              obtain rfl := Option.some.inj ho
                              have e0 : a'.eval (.tmp 167) = .bool true := is_tq (hin 19 167 (by kernel_rfl) (by kernel_rfl)) rfl
                              exact wp_move (.tmp 167) rfl _ e0 ⟨_, rfl, tq_is _ _ _ _ rfl, Kept.refl _ _, fun _ _ _ _ _ => trivial⟩
                            | 21, ho, hsk =>
                              obtain rfl := Option.some.inj ho
                              exact wp_move (.tmp 5) rfl _ ((hout 5 (by kernel_rfl)).trans rfl) ⟨_, rfl, tq_is _ _ _ _ rfl, Kept.refl _ _, fun _ _ _ _ _ => trivial⟩
                            | 22, ho, hsk =>
                              obtain rfl := Option.some.inj ho
                              have e0 : a'.eval (.tmp 169) = P0 b := is_tq (hin 21 169 (by kernel_rfl) (by kernel_rfl)) rfl
                              refine wp_callF 23 _ _ rfl #[P0 b] (by simp [e0]) (cf23 _ _) ((got23 b v ws P _ ((unhide QD).s.sx.kept0 hk2)).mono ?_)
                              rintro e w3 ⟨rfl, q3, rfl⟩
                              exact ⟨_, rfl, _, rfl, tq_is _ _ _ _ rfl, kept_drewN _ _ _, fun _ _ _ _ _ => trivial⟩
                            | 23, ho, hsk =>
                              obtain rfl := Option.some.inj ho
                              exact wp_move (.tmp 7) rfl _ ((hout 7 (by kernel_rfl)).trans rfl) ⟨_, rfl, tq_is _ _ _ _ rfl, Kept.refl _ _, fun _ _ _ _ _ => trivial⟩
                            | 24, ho, hsk =>
                              obtain rfl := Option.some.inj ho
                              have e0 : a'.eval (.tmp 171) = P0 r := is_tq (hin 23 171 (by kernel_rfl) (by kernel_rfl)) rfl
                              exact o_nil (.tmp 171) rfl _ e0 ⟨_, rfl, tq_is _ _ _ _ rfl, Kept.refl _ _, fun _ _ _ _ _ => trivial⟩
                            | 25, ho, hsk =>
                              obtain rfl := Option.some.inj ho
                              have e0 : a'.eval (.tmp 172) = P0 r := is_tq (hin 24 172 (by kernel_rfl) (by kernel_rfl)) rfl
                              exact o_fld32_6 (.tmp 172) rfl r e0 ⟨_, rfl, tq_is _ _ _ _ rfl, Kept.refl _ _, fun _ _ _ _ _ => trivial⟩
                            | 26, ho, hsk =>
                              obtain rfl := Option.some.inj ho
                              have e0 : a'.eval (.tmp 173) = .pointer (some ⟨r, 6, none⟩) := is_tq (hin 25 173 (by kernel_rfl) (by kernel_rfl)) rfl
                              exact o_load2 (.tmp 173) rfl _ _ e0 (fits_cell ((unhide HRH).kept hk2 (by simp)) 6 _ rfl) ⟨_, rfl, tq_is _ _ _ _ rfl, Kept.refl _ _, fun _ _ _ _ _ => trivial⟩
                            | 27, ho, hsk =>
                              obtain rfl := Option.some.inj ho
                              have e0 : a'.eval (.tmp 170) = .int .i64 P.got := is_tq (hin 22 170 (by kernel_rfl) (by kernel_rfl)) rfl
                              have e1 : a'.eval (.tmp 174) = .int .i64 P.got := is_tq (hin 26 174 (by kernel_rfl) (by kernel_rfl)) rfl
                              exact o_eqlT2 (.tmp 170) (.tmp 174) rfl _ _ true (by simp) e0 e1 ⟨_, rfl, tq_is _ _ _ _ rfl, Kept.refl _ _, fun _ _ _ _ _ => trivial⟩
                            | 28, ho, hsk =>
                              obtain rfl := Option.some.inj ho
                              have e0 : a'.eval (.tmp 168) = .bool true := is_tq (hin 20 168 (by kernel_rfl) (by kernel_rfl)) rfl
                              have e1 : a'.eval (.tmp 175) = .bool true := is_tq (hin 27 175 (by kernel_rfl) (by kernel_rfl)) rfl
                              exact o_pick (.tmp 168) (.tmp 175) rfl _ e0 e1 ⟨_, rfl, tq_is _ _ _ _ rfl, Kept.refl _ _, fun _ _ _ _ _ => trivial⟩
                            | 29, ho, hsk =>
                              obtain rfl := Option.some.inj ho
                              have e0 : a'.eval (.tmp 176) = .bool true := is_tq (hin 28 176 (by kernel_rfl) (by kernel_rfl)) rfl
                              exact wp_move (.tmp 176) rfl _ e0 ⟨_, rfl, tq_is _ _ _ _ rfl, Kept.refl _ _, fun _ _ _ _ _ => trivial⟩
                            | 30, ho, hsk =>
                              obtain rfl := Option.some.inj ho
                              refine wp_callF 11 _ _ rfl #[] (by simp) (cf11 _ _) ((known11 _).mono ?_)
                              rintro e w3 ⟨rfl, hk3⟩
                              exact ⟨_, rfl, _, rfl, tq_is _ _ _ _ rfl, hk3, fun _ _ _ _ _ => trivial⟩
                            | 31, ho, hsk =>
                              obtain rfl := Option.some.inj ho
                              have e0 : a'.eval (.tmp 177) = .bool true := is_tq (hin 29 177 (by kernel_rfl) (by kernel_rfl)) rfl
                              have e1 : a'.eval (.tmp 178) = .bool true := is_tq (hin 30 178 (by kernel_rfl) (by kernel_rfl)) rfl
                              exact o_pick (.tmp 177) (.tmp 178) rfl _ e0 e1 ⟨_, rfl, tq_is _ _ _ _ rfl, Kept.refl _ _, fun _ _ _ _ _ => trivial⟩
                            | 32, ho, hsk =>
                              obtain rfl := Option.some.inj ho
                              have e0 : a'.eval (.tmp 179) = .bool true := is_tq (hin 31 179 (by kernel_rfl) (by kernel_rfl)) rfl
                              exact wp_assignV (.tmp 179) rfl _ e0 ⟨_, rfl, tq_is _ _ _ _ rfl, Kept.refl _ _, fun _ _ _ _ _ => trivial⟩
                          intro X9 hk9
                          replace hk9 : Kept [] w9 X9 := ⟨hk9.os, hk9.tape, hk9.output, hk9.size, hk9.block⟩
                          simp only [valsQ, List.map_cons, List.map_nil, Option.getD_some, List.take_succ_cons, List.take_zero, putAll, Act.put, List.setIfInBounds_toArray, List.set_cons_succ, List.set_cons_zero]
                          refine wpAny_done (by kernel_rfl) ?_ _
                          replace QD := hide ((unhide QD).step hk9)
                          clear hk9
                          go_wp2_with fail
                          go_ret
                          exact ⟨rfl, (unhide QD).s.k⟩
                        | true =>
                          have H1 := hide g1
                          have H2 := hide g2
                          have H3 := hide g3
                          have H4 := hide g4
                          have H5 := hide g5
                          have H6 := hide g6
                          have HSAME : Hid (sameB P Q = true) := same_yes (unhide HEX) (by simp at g1; omega) (by simp at g3; omega) (by simpa using g4) (by simpa using g5) (by have h1 := (unhide QD).rx.len; have h2 := (unhide QD).qx.len; simp at g6; omega)
                          clear g1 g2 g3 g4 g5 g6
                          refine wp_region_any mixed (wpAny_tq 63 rfl (by kernel_rfl) [some (P0 r), some (P0 r), some (.pointer (some ⟨r, 4, none⟩)), some (.int .i64 P.known), some (.pointer (some ⟨q, 4, none⟩)), some (.int .i64 Q.known), some (.bool true), some (.bool true), some (P0 r), some (P0 r), some (.pointer (some ⟨r, 5, none⟩)), some (.int .i64 P.told), some (P0 r), some (P0 r), some (.pointer (some ⟨r, 4, none⟩)), some (.int .i64 P.known), some (.int .i64 (max (P.told : Int) (P.known : Int))), some (.pointer (some ⟨q, 5, none⟩)), some (.int .i64 Q.told), some (.pointer (some ⟨q, 4, none⟩)), some (.int .i64 Q.known), some (.int .i64 (max (Q.told : Int) (Q.known : Int))), some (.bool true), some (.bool true), some (.bool true), some (P0 r), some (P0 r), some (.pointer (some ⟨r, 5, none⟩)), some (.int .i64 P.told), some (.pointer (some ⟨q, 5, none⟩)), some (.int .i64 Q.told), some (.bool true), some (.bool true), some (.bool true), some (P0 r), some (P0 r), some (.pointer (some ⟨r, 6, none⟩)), some (.int .i64 P.got), some (.pointer (some ⟨q, 6, none⟩)), some (.int .i64 Q.got), some (.bool true), some (.bool true), some (.bool true), some (P0 r), some (P0 r), some (.pointer (some ⟨r, 7, none⟩)), some (.bool P.owes), some (.pointer (some ⟨q, 7, none⟩)), some (.bool Q.owes), some (.bool true), some (.bool true), some (.bool true), some (P0 r), some (P0 r), some (.pointer (some ⟨r, 3, none⟩)), some (rv), some (.int .i64 rs.length), some (.pointer (some ⟨q, 3, none⟩)), some (vq), some (.int .i64 wq.length), some (.bool true), some (.bool true), some (.bool true)] rfl (by kernel_rfl) (by kernel_rfl) ?_ ?_)
                          · intro i o' hi hsk ho a' w2 hout hin hk2
                            replace hk2 : Kept [] wr w2 := ⟨hk2.os, hk2.tape, hk2.output, hk2.size, hk2.block⟩
                            match i, ho, hsk with
                            | 0, ho, hsk =>
                              obtain rfl := Option.some.inj ho
                              exact wp_move (.tmp 7) rfl _ ((hout 7 (by kernel_rfl)).trans rfl) ⟨_, rfl, tq_is _ _ _ _ rfl, Kept.refl _ _, fun _ _ _ _ _ => trivial⟩
                            | 1, ho, hsk =>
                              obtain rfl := Option.some.inj ho
                              have e0 : a'.eval (.tmp 86) = P0 r := is_tq (hin 0 86 (by kernel_rfl) (by kernel_rfl)) rfl
                              exact o_nil (.tmp 86) rfl _ e0 ⟨_, rfl, tq_is _ _ _ _ rfl, Kept.refl _ _, fun _ _ _ _ _ => trivial⟩
                            | 2, ho, hsk =>
                              obtain rfl := Option.some.inj ho
                              have e0 : a'.eval (.tmp 87) = P0 r := is_tq (hin 1 87 (by kernel_rfl) (by kernel_rfl)) rfl
                              exact o_fld32_4 (.tmp 87) rfl r e0 ⟨_, rfl, tq_is _ _ _ _ rfl, Kept.refl _ _, fun _ _ _ _ _ => trivial⟩
                            | 3, ho, hsk =>
                              obtain rfl := Option.some.inj ho
                              have e0 : a'.eval (.tmp 88) = .pointer (some ⟨r, 4, none⟩) := is_tq (hin 2 88 (by kernel_rfl) (by kernel_rfl)) rfl
                              exact o_load3 (.tmp 88) rfl _ _ e0 (fits_cell ((unhide HRH).kept hk2 (by simp)) 4 _ rfl) ⟨_, rfl, tq_is _ _ _ _ rfl, Kept.refl _ _, fun _ _ _ _ _ => trivial⟩
                            | 4, ho, hsk =>
                              obtain rfl := Option.some.inj ho
                              exact o_fld32_4 (.tmp 10) rfl q ((hout 10 (by kernel_rfl)).trans rfl) ⟨_, rfl, tq_is _ _ _ _ rfl, Kept.refl _ _, fun _ _ _ _ _ => trivial⟩
                            | 5, ho, hsk =>
                              obtain rfl := Option.some.inj ho
                              have e0 : a'.eval (.tmp 90) = .pointer (some ⟨q, 4, none⟩) := is_tq (hin 4 90 (by kernel_rfl) (by kernel_rfl)) rfl
                              exact o_load3 (.tmp 90) rfl _ _ e0 (fits_cell ((unhide HQH).kept hk2 (by simp)) 4 _ rfl) ⟨_, rfl, tq_is _ _ _ _ rfl, Kept.refl _ _, fun _ _ _ _ _ => trivial⟩
                            | 6, ho, hsk =>
                              obtain rfl := Option.some.inj ho
                              have e0 : a'.eval (.tmp 89) = .int .i64 P.known := is_tq (hin 3 89 (by kernel_rfl) (by kernel_rfl)) rfl
                              have e1 : a'.eval (.tmp 91) = .int .i64 Q.known := is_tq (hin 5 91 (by kernel_rfl) (by kernel_rfl)) rfl
                              exact o_eqlT3 (.tmp 89) (.tmp 91) rfl _ _ true (unhide H1) e0 e1 ⟨_, rfl, tq_is _ _ _ _ rfl, Kept.refl _ _, fun _ _ _ _ _ => trivial⟩
                            | 7, ho, hsk =>
                              obtain rfl := Option.some.inj ho
                              have e0 : a'.eval (.tmp 92) = .bool true := is_tq (hin 6 92 (by kernel_rfl) (by kernel_rfl)) rfl
                              exact wp_move (.tmp 92) rfl _ e0 ⟨_, rfl, tq_is _ _ _ _ rfl, Kept.refl _ _, fun _ _ _ _ _ => trivial⟩
                            | 8, ho, hsk =>
                              obtain rfl := Option.some.inj ho
                              exact wp_move (.tmp 7) rfl _ ((hout 7 (by kernel_rfl)).trans rfl) ⟨_, rfl, tq_is _ _ _ _ rfl, Kept.refl _ _, fun _ _ _ _ _ => trivial⟩
                            | 9, ho, hsk =>
                              obtain rfl := Option.some.inj ho
                              have e0 : a'.eval (.tmp 94) = P0 r := is_tq (hin 8 94 (by kernel_rfl) (by kernel_rfl)) rfl
                              exact o_nil (.tmp 94) rfl _ e0 ⟨_, rfl, tq_is _ _ _ _ rfl, Kept.refl _ _, fun _ _ _ _ _ => trivial⟩
                            | 10, ho, hsk =>
                              obtain rfl := Option.some.inj ho
                              have e0 : a'.eval (.tmp 95) = P0 r := is_tq (hin 9 95 (by kernel_rfl) (by kernel_rfl)) rfl
                              exact o_fld32_5 (.tmp 95) rfl r e0 ⟨_, rfl, tq_is _ _ _ _ rfl, Kept.refl _ _, fun _ _ _ _ _ => trivial⟩
                            | 11, ho, hsk =>
                              obtain rfl := Option.some.inj ho
                              have e0 : a'.eval (.tmp 96) = .pointer (some ⟨r, 5, none⟩) := is_tq (hin 10 96 (by kernel_rfl) (by kernel_rfl)) rfl
                              exact o_load3 (.tmp 96) rfl _ _ e0 (fits_cell ((unhide HRH).kept hk2 (by simp)) 5 _ rfl) ⟨_, rfl, tq_is _ _ _ _ rfl, Kept.refl _ _, fun _ _ _ _ _ => trivial⟩
                            | 12, ho, hsk =>
                              obtain rfl := Option.some.inj ho
                              exact wp_move (.tmp 7) rfl _ ((hout 7 (by kernel_rfl)).trans rfl) ⟨_, rfl, tq_is _ _ _ _ rfl, Kept.refl _ _, fun _ _ _ _ _ => trivial⟩
                            | 13, ho, hsk =>
                              obtain rfl := Option.some.inj ho
                              have e0 : a'.eval (.tmp 98) = P0 r := is_tq (hin 12 98 (by kernel_rfl) (by kernel_rfl)) rfl
                              exact o_nil (.tmp 98) rfl _ e0 ⟨_, rfl, tq_is _ _ _ _ rfl, Kept.refl _ _, fun _ _ _ _ _ => trivial⟩
                            | 14, ho, hsk =>
                              obtain rfl := Option.some.inj ho
                              have e0 : a'.eval (.tmp 99) = P0 r := is_tq (hin 13 99 (by kernel_rfl) (by kernel_rfl)) rfl
                              exact o_fld32_4 (.tmp 99) rfl r e0 ⟨_, rfl, tq_is _ _ _ _ rfl, Kept.refl _ _, fun _ _ _ _ _ => trivial⟩
                            | 15, ho, hsk =>
                              obtain rfl := Option.some.inj ho
                              have e0 : a'.eval (.tmp 100) = .pointer (some ⟨r, 4, none⟩) := is_tq (hin 14 100 (by kernel_rfl) (by kernel_rfl)) rfl
                              exact o_load3 (.tmp 100) rfl _ _ e0 (fits_cell ((unhide HRH).kept hk2 (by simp)) 4 _ rfl) ⟨_, rfl, tq_is _ _ _ _ rfl, Kept.refl _ _, fun _ _ _ _ _ => trivial⟩
                            | 16, ho, hsk =>
                              obtain rfl := Option.some.inj ho
                              have e0 : a'.eval (.tmp 97) = .int .i64 P.told := is_tq (hin 11 97 (by kernel_rfl) (by kernel_rfl)) rfl
                              have e1 : a'.eval (.tmp 101) = .int .i64 P.known := is_tq (hin 15 101 (by kernel_rfl) (by kernel_rfl)) rfl
                              exact o_max3 (.tmp 97) (.tmp 101) rfl _ _ e0 e1 ⟨_, rfl, tq_is _ _ _ _ rfl, Kept.refl _ _, fun _ _ _ _ _ => trivial⟩
                            | 17, ho, hsk =>
                              obtain rfl := Option.some.inj ho
                              exact o_fld32_5 (.tmp 10) rfl q ((hout 10 (by kernel_rfl)).trans rfl) ⟨_, rfl, tq_is _ _ _ _ rfl, Kept.refl _ _, fun _ _ _ _ _ => trivial⟩
                            | 18, ho, hsk =>
                              obtain rfl := Option.some.inj ho
                              have e0 : a'.eval (.tmp 103) = .pointer (some ⟨q, 5, none⟩) := is_tq (hin 17 103 (by kernel_rfl) (by kernel_rfl)) rfl
                              exact o_load3 (.tmp 103) rfl _ _ e0 (fits_cell ((unhide HQH).kept hk2 (by simp)) 5 _ rfl) ⟨_, rfl, tq_is _ _ _ _ rfl, Kept.refl _ _, fun _ _ _ _ _ => trivial⟩
                            | 19, ho, hsk =>
                              obtain rfl := Option.some.inj ho
                              exact o_fld32_4 (.tmp 10) rfl q ((hout 10 (by kernel_rfl)).trans rfl) ⟨_, rfl, tq_is _ _ _ _ rfl, Kept.refl _ _, fun _ _ _ _ _ => trivial⟩
                            | 20, ho, hsk =>
                              obtain rfl := Option.some.inj ho
                              have e0 : a'.eval (.tmp 105) = .pointer (some ⟨q, 4, none⟩) := is_tq (hin 19 105 (by kernel_rfl) (by kernel_rfl)) rfl
                              exact o_load3 (.tmp 105) rfl _ _ e0 (fits_cell ((unhide HQH).kept hk2 (by simp)) 4 _ rfl) ⟨_, rfl, tq_is _ _ _ _ rfl, Kept.refl _ _, fun _ _ _ _ _ => trivial⟩
                            | 21, ho, hsk =>
                              obtain rfl := Option.some.inj ho
                              have e0 : a'.eval (.tmp 104) = .int .i64 Q.told := is_tq (hin 18 104 (by kernel_rfl) (by kernel_rfl)) rfl
                              have e1 : a'.eval (.tmp 106) = .int .i64 Q.known := is_tq (hin 20 106 (by kernel_rfl) (by kernel_rfl)) rfl
                              exact o_max3 (.tmp 104) (.tmp 106) rfl _ _ e0 e1 ⟨_, rfl, tq_is _ _ _ _ rfl, Kept.refl _ _, fun _ _ _ _ _ => trivial⟩
                            | 22, ho, hsk =>
                              obtain rfl := Option.some.inj ho
                              have e0 : a'.eval (.tmp 102) = .int .i64 (max (P.told : Int) (P.known : Int)) := is_tq (hin 16 102 (by kernel_rfl) (by kernel_rfl)) rfl
                              have e1 : a'.eval (.tmp 107) = .int .i64 (max (Q.told : Int) (Q.known : Int)) := is_tq (hin 21 107 (by kernel_rfl) (by kernel_rfl)) rfl
                              exact o_eqlT3 (.tmp 102) (.tmp 107) rfl _ _ true (unhide H2) e0 e1 ⟨_, rfl, tq_is _ _ _ _ rfl, Kept.refl _ _, fun _ _ _ _ _ => trivial⟩
                            | 23, ho, hsk =>
                              obtain rfl := Option.some.inj ho
                              have e0 : a'.eval (.tmp 93) = .bool true := is_tq (hin 7 93 (by kernel_rfl) (by kernel_rfl)) rfl
                              have e1 : a'.eval (.tmp 108) = .bool true := is_tq (hin 22 108 (by kernel_rfl) (by kernel_rfl)) rfl
                              exact o_pick (.tmp 93) (.tmp 108) rfl _ e0 e1 ⟨_, rfl, tq_is _ _ _ _ rfl, Kept.refl _ _, fun _ _ _ _ _ => trivial⟩
                            | 24, ho, hsk =>
                              obtain rfl := Option.some.inj ho
                              have e0 : a'.eval (.tmp 109) = .bool true := is_tq (hin 23 109 (by kernel_rfl) (by kernel_rfl)) rfl
                              exact wp_move (.tmp 109) rfl _ e0 ⟨_, rfl, tq_is _ _ _ _ rfl, Kept.refl _ _, fun _ _ _ _ _ => trivial⟩
                            | 25, ho, hsk =>
                              obtain rfl := Option.some.inj ho
                              exact wp_move (.tmp 7) rfl _ ((hout 7 (by kernel_rfl)).trans rfl) ⟨_, rfl, tq_is _ _ _ _ rfl, Kept.refl _ _, fun _ _ _ _ _ => trivial⟩
                            | 26, ho, hsk =>
                              obtain rfl := Option.some.inj ho
                              have e0 : a'.eval (.tmp 111) = P0 r := is_tq (hin 25 111 (by kernel_rfl) (by kernel_rfl)) rfl
                              exact o_nil (.tmp 111) rfl _ e0 ⟨_, rfl, tq_is _ _ _ _ rfl, Kept.refl _ _, fun _ _ _ _ _ => trivial⟩
                            | 27, ho, hsk =>
                              obtain rfl := Option.some.inj ho
                              have e0 : a'.eval (.tmp 112) = P0 r := is_tq (hin 26 112 (by kernel_rfl) (by kernel_rfl)) rfl
                              exact o_fld32_5 (.tmp 112) rfl r e0 ⟨_, rfl, tq_is _ _ _ _ rfl, Kept.refl _ _, fun _ _ _ _ _ => trivial⟩
                            | 28, ho, hsk =>
                              obtain rfl := Option.some.inj ho
                              have e0 : a'.eval (.tmp 113) = .pointer (some ⟨r, 5, none⟩) := is_tq (hin 27 113 (by kernel_rfl) (by kernel_rfl)) rfl
                              exact o_load3 (.tmp 113) rfl _ _ e0 (fits_cell ((unhide HRH).kept hk2 (by simp)) 5 _ rfl) ⟨_, rfl, tq_is _ _ _ _ rfl, Kept.refl _ _, fun _ _ _ _ _ => trivial⟩
                            | 29, ho, hsk =>
                              obtain rfl := Option.some.inj ho
                              exact o_fld32_5 (.tmp 10) rfl q ((hout 10 (by kernel_rfl)).trans rfl) ⟨_, rfl, tq_is _ _ _ _ rfl, Kept.refl _ _, fun _ _ _ _ _ => trivial⟩
                            | 30, ho, hsk =>
                              obtain rfl := Option.some.inj ho
                              have e0 : a'.eval (.tmp 115) = .pointer (some ⟨q, 5, none⟩) := is_tq (hin 29 115 (by kernel_rfl) (by kernel_rfl)) rfl
                              exact o_load3 (.tmp 115) rfl _ _ e0 (fits_cell ((unhide HQH).kept hk2 (by simp)) 5 _ rfl) ⟨_, rfl, tq_is _ _ _ _ rfl, Kept.refl _ _, fun _ _ _ _ _ => trivial⟩
                            | 31, ho, hsk =>
                              obtain rfl := Option.some.inj ho
                              have e0 : a'.eval (.tmp 114) = .int .i64 P.told := is_tq (hin 28 114 (by kernel_rfl) (by kernel_rfl)) rfl
                              have e1 : a'.eval (.tmp 116) = .int .i64 Q.told := is_tq (hin 30 116 (by kernel_rfl) (by kernel_rfl)) rfl
                              exact o_eqlT3 (.tmp 114) (.tmp 116) rfl _ _ true (unhide H3) e0 e1 ⟨_, rfl, tq_is _ _ _ _ rfl, Kept.refl _ _, fun _ _ _ _ _ => trivial⟩
                            | 32, ho, hsk =>
                              obtain rfl := Option.some.inj ho
                              have e0 : a'.eval (.tmp 110) = .bool true := is_tq (hin 24 110 (by kernel_rfl) (by kernel_rfl)) rfl
                              have e1 : a'.eval (.tmp 117) = .bool true := is_tq (hin 31 117 (by kernel_rfl) (by kernel_rfl)) rfl
                              exact o_pick (.tmp 110) (.tmp 117) rfl _ e0 e1 ⟨_, rfl, tq_is _ _ _ _ rfl, Kept.refl _ _, fun _ _ _ _ _ => trivial⟩
                            | 33, ho, hsk =>
                              obtain rfl := Option.some.inj ho
                              have e0 : a'.eval (.tmp 118) = .bool true := is_tq (hin 32 118 (by kernel_rfl) (by kernel_rfl)) rfl
                              exact wp_move (.tmp 118) rfl _ e0 ⟨_, rfl, tq_is _ _ _ _ rfl, Kept.refl _ _, fun _ _ _ _ _ => trivial⟩
                            | 34, ho, hsk =>
                              obtain rfl := Option.some.inj ho
                              exact wp_move (.tmp 7) rfl _ ((hout 7 (by kernel_rfl)).trans rfl) ⟨_, rfl, tq_is _ _ _ _ rfl, Kept.refl _ _, fun _ _ _ _ _ => trivial⟩
                            | 35, ho, hsk =>
                              obtain rfl := Option.some.inj ho
                              have e0 : a'.eval (.tmp 120) = P0 r := is_tq (hin 34 120 (by kernel_rfl) (by kernel_rfl)) rfl
                              exact o_nil (.tmp 120) rfl _ e0 ⟨_, rfl, tq_is _ _ _ _ rfl, Kept.refl _ _, fun _ _ _ _ _ => trivial⟩
                            | 36, ho, hsk =>
                              obtain rfl := Option.some.inj ho
                              have e0 : a'.eval (.tmp 121) = P0 r := is_tq (hin 35 121 (by kernel_rfl) (by kernel_rfl)) rfl
                              exact o_fld32_6 (.tmp 121) rfl r e0 ⟨_, rfl, tq_is _ _ _ _ rfl, Kept.refl _ _, fun _ _ _ _ _ => trivial⟩
                            | 37, ho, hsk =>
                              obtain rfl := Option.some.inj ho
                              have e0 : a'.eval (.tmp 122) = .pointer (some ⟨r, 6, none⟩) := is_tq (hin 36 122 (by kernel_rfl) (by kernel_rfl)) rfl
                              exact o_load2 (.tmp 122) rfl _ _ e0 (fits_cell ((unhide HRH).kept hk2 (by simp)) 6 _ rfl) ⟨_, rfl, tq_is _ _ _ _ rfl, Kept.refl _ _, fun _ _ _ _ _ => trivial⟩
                            | 38, ho, hsk =>
                              obtain rfl := Option.some.inj ho
                              exact o_fld32_6 (.tmp 10) rfl q ((hout 10 (by kernel_rfl)).trans rfl) ⟨_, rfl, tq_is _ _ _ _ rfl, Kept.refl _ _, fun _ _ _ _ _ => trivial⟩
                            | 39, ho, hsk =>
                              obtain rfl := Option.some.inj ho
                              have e0 : a'.eval (.tmp 124) = .pointer (some ⟨q, 6, none⟩) := is_tq (hin 38 124 (by kernel_rfl) (by kernel_rfl)) rfl
                              exact o_load2 (.tmp 124) rfl _ _ e0 (fits_cell ((unhide HQH).kept hk2 (by simp)) 6 _ rfl) ⟨_, rfl, tq_is _ _ _ _ rfl, Kept.refl _ _, fun _ _ _ _ _ => trivial⟩
                            | 40, ho, hsk =>
                              obtain rfl := Option.some.inj ho
                              have e0 : a'.eval (.tmp 123) = .int .i64 P.got := is_tq (hin 37 123 (by kernel_rfl) (by kernel_rfl)) rfl
                              have e1 : a'.eval (.tmp 125) = .int .i64 Q.got := is_tq (hin 39 125 (by kernel_rfl) (by kernel_rfl)) rfl
                              exact o_eqlT2 (.tmp 123) (.tmp 125) rfl _ _ true (unhide H4) e0 e1 ⟨_, rfl, tq_is _ _ _ _ rfl, Kept.refl _ _, fun _ _ _ _ _ => trivial⟩
                            | 41, ho, hsk =>
                              obtain rfl := Option.some.inj ho
                              have e0 : a'.eval (.tmp 119) = .bool true := is_tq (hin 33 119 (by kernel_rfl) (by kernel_rfl)) rfl
                              have e1 : a'.eval (.tmp 126) = .bool true := is_tq (hin 40 126 (by kernel_rfl) (by kernel_rfl)) rfl
                              exact o_pick (.tmp 119) (.tmp 126) rfl _ e0 e1 ⟨_, rfl, tq_is _ _ _ _ rfl, Kept.refl _ _, fun _ _ _ _ _ => trivial⟩
                            | 42, ho, hsk =>
                              obtain rfl := Option.some.inj ho
                              have e0 : a'.eval (.tmp 127) = .bool true := is_tq (hin 41 127 (by kernel_rfl) (by kernel_rfl)) rfl
                              exact wp_move (.tmp 127) rfl _ e0 ⟨_, rfl, tq_is _ _ _ _ rfl, Kept.refl _ _, fun _ _ _ _ _ => trivial⟩
                            | 43, ho, hsk =>
                              obtain rfl := Option.some.inj ho
                              exact wp_move (.tmp 7) rfl _ ((hout 7 (by kernel_rfl)).trans rfl) ⟨_, rfl, tq_is _ _ _ _ rfl, Kept.refl _ _, fun _ _ _ _ _ => trivial⟩
                            | 44, ho, hsk =>
                              obtain rfl := Option.some.inj ho
                              have e0 : a'.eval (.tmp 129) = P0 r := is_tq (hin 43 129 (by kernel_rfl) (by kernel_rfl)) rfl
                              exact o_nil (.tmp 129) rfl _ e0 ⟨_, rfl, tq_is _ _ _ _ rfl, Kept.refl _ _, fun _ _ _ _ _ => trivial⟩
                            | 45, ho, hsk =>
                              obtain rfl := Option.some.inj ho
                              have e0 : a'.eval (.tmp 130) = P0 r := is_tq (hin 44 130 (by kernel_rfl) (by kernel_rfl)) rfl
                              exact o_fld32_7 (.tmp 130) rfl r e0 ⟨_, rfl, tq_is _ _ _ _ rfl, Kept.refl _ _, fun _ _ _ _ _ => trivial⟩
                            | 46, ho, hsk =>
                              obtain rfl := Option.some.inj ho
                              have e0 : a'.eval (.tmp 131) = .pointer (some ⟨r, 7, none⟩) := is_tq (hin 45 131 (by kernel_rfl) (by kernel_rfl)) rfl
                              exact o_load4 (.tmp 131) rfl _ _ e0 (fits_cell ((unhide HRH).kept hk2 (by simp)) 7 _ rfl) ⟨_, rfl, tq_is _ _ _ _ rfl, Kept.refl _ _, fun _ _ _ _ _ => trivial⟩
                            | 47, ho, hsk =>
                              obtain rfl := Option.some.inj ho
                              exact o_fld32_7 (.tmp 10) rfl q ((hout 10 (by kernel_rfl)).trans rfl) ⟨_, rfl, tq_is _ _ _ _ rfl, Kept.refl _ _, fun _ _ _ _ _ => trivial⟩
                            | 48, ho, hsk =>
                              obtain rfl := Option.some.inj ho
                              have e0 : a'.eval (.tmp 133) = .pointer (some ⟨q, 7, none⟩) := is_tq (hin 47 133 (by kernel_rfl) (by kernel_rfl)) rfl
                              exact o_load4 (.tmp 133) rfl _ _ e0 (fits_cell ((unhide HQH).kept hk2 (by simp)) 7 _ rfl) ⟨_, rfl, tq_is _ _ _ _ rfl, Kept.refl _ _, fun _ _ _ _ _ => trivial⟩
                            | 49, ho, hsk =>
                              obtain rfl := Option.some.inj ho
                              have e0 : a'.eval (.tmp 132) = .bool P.owes := is_tq (hin 46 132 (by kernel_rfl) (by kernel_rfl)) rfl
                              have e1 : a'.eval (.tmp 134) = .bool Q.owes := is_tq (hin 48 134 (by kernel_rfl) (by kernel_rfl)) rfl
                              exact o_eqlT4 (.tmp 132) (.tmp 134) rfl _ _ true (unhide H5) e0 e1 ⟨_, rfl, tq_is _ _ _ _ rfl, Kept.refl _ _, fun _ _ _ _ _ => trivial⟩
                            | 50, ho, hsk =>
                              obtain rfl := Option.some.inj ho
                              have e0 : a'.eval (.tmp 128) = .bool true := is_tq (hin 42 128 (by kernel_rfl) (by kernel_rfl)) rfl
                              have e1 : a'.eval (.tmp 135) = .bool true := is_tq (hin 49 135 (by kernel_rfl) (by kernel_rfl)) rfl
                              exact o_pick (.tmp 128) (.tmp 135) rfl _ e0 e1 ⟨_, rfl, tq_is _ _ _ _ rfl, Kept.refl _ _, fun _ _ _ _ _ => trivial⟩
                            | 51, ho, hsk =>
                              obtain rfl := Option.some.inj ho
                              have e0 : a'.eval (.tmp 136) = .bool true := is_tq (hin 50 136 (by kernel_rfl) (by kernel_rfl)) rfl
                              exact wp_move (.tmp 136) rfl _ e0 ⟨_, rfl, tq_is _ _ _ _ rfl, Kept.refl _ _, fun _ _ _ _ _ => trivial⟩
                            | 52, ho, hsk =>
                              obtain rfl := Option.some.inj ho
                              exact wp_move (.tmp 7) rfl _ ((hout 7 (by kernel_rfl)).trans rfl) ⟨_, rfl, tq_is _ _ _ _ rfl, Kept.refl _ _, fun _ _ _ _ _ => trivial⟩
                            | 53, ho, hsk =>
                              obtain rfl := Option.some.inj ho
                              have e0 : a'.eval (.tmp 138) = P0 r := is_tq (hin 52 138 (by kernel_rfl) (by kernel_rfl)) rfl
                              exact o_nil (.tmp 138) rfl _ e0 ⟨_, rfl, tq_is _ _ _ _ rfl, Kept.refl _ _, fun _ _ _ _ _ => trivial⟩
                            | 54, ho, hsk =>
                              obtain rfl := Option.some.inj ho
                              have e0 : a'.eval (.tmp 139) = P0 r := is_tq (hin 53 139 (by kernel_rfl) (by kernel_rfl)) rfl
                              exact o_fld32_3 (.tmp 139) rfl r e0 ⟨_, rfl, tq_is _ _ _ _ rfl, Kept.refl _ _, fun _ _ _ _ _ => trivial⟩
                            | 55, ho, hsk =>
                              obtain rfl := Option.some.inj ho
                              have e0 : a'.eval (.tmp 140) = .pointer (some ⟨r, 3, none⟩) := is_tq (hin 54 140 (by kernel_rfl) (by kernel_rfl)) rfl
                              exact o_load30 (.tmp 140) rfl _ _ e0 (fits_cell ((unhide HRH).kept hk2 (by simp)) 3 _ rfl) ⟨_, rfl, tq_is _ _ _ _ rfl, Kept.refl _ _, fun _ _ _ _ _ => trivial⟩
                            | 56, ho, hsk =>
                              obtain rfl := Option.some.inj ho
                              have e0 : a'.eval (.tmp 141) = rv := is_tq (hin 55 141 (by kernel_rfl) (by kernel_rfl)) rfl
                              exact o_len30 (.tmp 141) rfl ro rs.length rc (by rw [e0]; exact unhide HRV) ⟨_, rfl, tq_is _ _ _ _ rfl, Kept.refl _ _, fun _ _ _ _ _ => trivial⟩
                            | 57, ho, hsk =>
                              obtain rfl := Option.some.inj ho
                              exact o_fld32_3 (.tmp 10) rfl q ((hout 10 (by kernel_rfl)).trans rfl) ⟨_, rfl, tq_is _ _ _ _ rfl, Kept.refl _ _, fun _ _ _ _ _ => trivial⟩
                            | 58, ho, hsk =>
                              obtain rfl := Option.some.inj ho
                              have e0 : a'.eval (.tmp 143) = .pointer (some ⟨q, 3, none⟩) := is_tq (hin 57 143 (by kernel_rfl) (by kernel_rfl)) rfl
                              exact o_load30 (.tmp 143) rfl _ _ e0 (fits_cell ((unhide HQH).kept hk2 (by simp)) 3 _ rfl) ⟨_, rfl, tq_is _ _ _ _ rfl, Kept.refl _ _, fun _ _ _ _ _ => trivial⟩
                            | 59, ho, hsk =>
                              obtain rfl := Option.some.inj ho
                              have e0 : a'.eval (.tmp 144) = vq := is_tq (hin 58 144 (by kernel_rfl) (by kernel_rfl)) rfl
                              exact o_len30 (.tmp 144) rfl qo wq.length qc (by rw [e0]; exact unhide HQV) ⟨_, rfl, tq_is _ _ _ _ rfl, Kept.refl _ _, fun _ _ _ _ _ => trivial⟩
                            | 60, ho, hsk =>
                              obtain rfl := Option.some.inj ho
                              have e0 : a'.eval (.tmp 142) = .int .i64 rs.length := is_tq (hin 56 142 (by kernel_rfl) (by kernel_rfl)) rfl
                              have e1 : a'.eval (.tmp 145) = .int .i64 wq.length := is_tq (hin 59 145 (by kernel_rfl) (by kernel_rfl)) rfl
                              exact o_eqlT3 (.tmp 142) (.tmp 145) rfl _ _ true (unhide H6) e0 e1 ⟨_, rfl, tq_is _ _ _ _ rfl, Kept.refl _ _, fun _ _ _ _ _ => trivial⟩
                            | 61, ho, hsk =>
                              obtain rfl := Option.some.inj ho
                              have e0 : a'.eval (.tmp 137) = .bool true := is_tq (hin 51 137 (by kernel_rfl) (by kernel_rfl)) rfl
                              have e1 : a'.eval (.tmp 146) = .bool true := is_tq (hin 60 146 (by kernel_rfl) (by kernel_rfl)) rfl
                              exact o_pick (.tmp 137) (.tmp 146) rfl _ e0 e1 ⟨_, rfl, tq_is _ _ _ _ rfl, Kept.refl _ _, fun _ _ _ _ _ => trivial⟩
                            | 62, ho, hsk =>
                              obtain rfl := Option.some.inj ho
                              have e0 : a'.eval (.tmp 147) = .bool true := is_tq (hin 61 147 (by kernel_rfl) (by kernel_rfl)) rfl
                              exact wp_assignV (.tmp 147) rfl _ e0 ⟨_, rfl, tq_is _ _ _ _ rfl, Kept.refl _ _, fun _ _ _ _ _ => trivial⟩
                          intro w9 hk9
                          replace hk9 : Kept [] wr w9 := ⟨hk9.os, hk9.tape, hk9.output, hk9.size, hk9.block⟩
                          simp only [valsQ, List.map_cons, List.map_nil, Option.getD_some, List.take_succ_cons, List.take_zero, putAll, Act.put, List.setIfInBounds_toArray, List.set_cons_succ, List.set_cons_zero]
                          refine wpAny_done (by kernel_rfl) ?_ _
                          replace QD := hide ((unhide QD).step hk9)
                          replace HRH := hide (unhide QD).rx.head
                          clear hk9 HQH
                          go_wp2_with fail
                          refine wp_region_any mixed (wpAny_tq 33 rfl (by kernel_rfl) [some (P0 b), some (P0 c), some (.bool true), some (.bool true), some (.bool true), some (.bool true), some (P0 b), some (.int .i64 ws.length), some (P0 r), some (P0 r), some (.pointer (some ⟨r, 3, none⟩)), some (rv), some (.int .i64 rs.length), some (P0 r), some (P0 r), some (.pointer (some ⟨r, 4, none⟩)), some (.int .i64 P.known), some (.int .i64 ws.length), some (.bool true), some (.bool true), some (.bool true), some (P0 b), some (.int .i64 P.got), some (P0 r), some (P0 r), some (.pointer (some ⟨r, 6, none⟩)), some (.int .i64 P.got), some (.bool true), some (.bool true), some (.bool true), some (.bool true), some (.bool true), some (.bool true)] rfl (by kernel_rfl) (by kernel_rfl) ?_ ?_)
                          · intro i o' hi hsk ho a' w2 hout hin hk2
                            replace hk2 : Kept [] w9 w2 := ⟨hk2.os, hk2.tape, hk2.output, hk2.size, hk2.block⟩
                            match i, ho, hsk with
                            | 0, ho, hsk =>
                              obtain rfl := Option.some.inj ho
                              exact wp_move (.tmp 5) rfl _ ((hout 5 (by kernel_rfl)).trans rfl) ⟨_, rfl, tq_is _ _ _ _ rfl, Kept.refl _ _, fun _ _ _ _ _ => trivial⟩
                            | 1, ho, hsk =>
                              obtain rfl := Option.some.inj ho
                              exact wp_move (.tmp 9) rfl _ ((hout 9 (by kernel_rfl)).trans rfl) ⟨_, rfl, tq_is _ _ _ _ rfl, Kept.refl _ _, fun _ _ _ _ _ => trivial⟩
                            | 2, ho, hsk =>
                              obtain rfl := Option.some.inj ho
                              have e0 : a'.eval (.tmp 148) = P0 b := is_tq (hin 0 148 (by kernel_rfl) (by kernel_rfl)) rfl
                              have e1 : a'.eval (.tmp 149) = P0 c := is_tq (hin 1 149 (by kernel_rfl) (by kernel_rfl)) rfl
                              refine wp_callF 28 _ _ rfl #[P0 b, P0 c] (by simp [e0, e1]) (cf28 _ _) ((k_same b c _ _ _ _ P Q true (unhide HSAME) _ ((unhide QD).s.sx.kept0 hk2) ((unhide QD).cp.sx.kept0 hk2)).mono ?_)
                              rintro e w3 ⟨rfl, hk3⟩
                              exact ⟨_, rfl, _, rfl, tq_is _ _ _ _ rfl, hk3, fun _ _ _ _ _ => trivial⟩
                            | 3, ho, hsk =>
                              obtain rfl := Option.some.inj ho
                              exact wp_move (.tmp 12) rfl _ ((hout 12 (by kernel_rfl)).trans rfl) ⟨_, rfl, tq_is _ _ _ _ rfl, Kept.refl _ _, fun _ _ _ _ _ => trivial⟩
                            | 4, ho, hsk =>
                              obtain rfl := Option.some.inj ho
                              have e0 : a'.eval (.tmp 150) = .bool true := is_tq (hin 2 150 (by kernel_rfl) (by kernel_rfl)) rfl
                              have e1 : a'.eval (.tmp 151) = .bool true := is_tq (hin 3 151 (by kernel_rfl) (by kernel_rfl)) rfl
                              exact o_eqlT4 (.tmp 150) (.tmp 151) rfl _ _ true (by simp) e0 e1 ⟨_, rfl, tq_is _ _ _ _ rfl, Kept.refl _ _, fun _ _ _ _ _ => trivial⟩
                            | 5, ho, hsk =>
                              obtain rfl := Option.some.inj ho
                              have e0 : a'.eval (.tmp 152) = .bool true := is_tq (hin 4 152 (by kernel_rfl) (by kernel_rfl)) rfl
                              exact wp_move (.tmp 152) rfl _ e0 ⟨_, rfl, tq_is _ _ _ _ rfl, Kept.refl _ _, fun _ _ _ _ _ => trivial⟩
                            | 6, ho, hsk =>
                              obtain rfl := Option.some.inj ho
                              exact wp_move (.tmp 5) rfl _ ((hout 5 (by kernel_rfl)).trans rfl) ⟨_, rfl, tq_is _ _ _ _ rfl, Kept.refl _ _, fun _ _ _ _ _ => trivial⟩
                            | 7, ho, hsk =>
                              obtain rfl := Option.some.inj ho
                              have e0 : a'.eval (.tmp 154) = P0 b := is_tq (hin 6 154 (by kernel_rfl) (by kernel_rfl)) rfl
                              refine wp_callF 22 _ _ rfl #[P0 b] (by simp [e0]) (cf22 _ _) ((waits22 b v ws P _ ((unhide QD).s.sx.kept0 hk2)).mono ?_)
                              rintro e w3 ⟨rfl, q3, rfl⟩
                              exact ⟨_, rfl, _, rfl, tq_is _ _ _ _ rfl, kept_drewN _ _ _, fun _ _ _ _ _ => trivial⟩
                            | 8, ho, hsk =>
                              obtain rfl := Option.some.inj ho
                              exact wp_move (.tmp 7) rfl _ ((hout 7 (by kernel_rfl)).trans rfl) ⟨_, rfl, tq_is _ _ _ _ rfl, Kept.refl _ _, fun _ _ _ _ _ => trivial⟩
                            | 9, ho, hsk =>
                              obtain rfl := Option.some.inj ho
                              have e0 : a'.eval (.tmp 156) = P0 r := is_tq (hin 8 156 (by kernel_rfl) (by kernel_rfl)) rfl
                              exact o_nil (.tmp 156) rfl _ e0 ⟨_, rfl, tq_is _ _ _ _ rfl, Kept.refl _ _, fun _ _ _ _ _ => trivial⟩
                            | 10, ho, hsk =>
                              obtain rfl := Option.some.inj ho
                              have e0 : a'.eval (.tmp 157) = P0 r := is_tq (hin 9 157 (by kernel_rfl) (by kernel_rfl)) rfl
                              exact o_fld32_3 (.tmp 157) rfl r e0 ⟨_, rfl, tq_is _ _ _ _ rfl, Kept.refl _ _, fun _ _ _ _ _ => trivial⟩
                            | 11, ho, hsk =>
                              obtain rfl := Option.some.inj ho
                              have e0 : a'.eval (.tmp 158) = .pointer (some ⟨r, 3, none⟩) := is_tq (hin 10 158 (by kernel_rfl) (by kernel_rfl)) rfl
                              exact o_load30 (.tmp 158) rfl _ _ e0 (fits_cell ((unhide HRH).kept hk2 (by simp)) 3 _ rfl) ⟨_, rfl, tq_is _ _ _ _ rfl, Kept.refl _ _, fun _ _ _ _ _ => trivial⟩
                            | 12, ho, hsk =>
                              obtain rfl := Option.some.inj ho
                              have e0 : a'.eval (.tmp 159) = rv := is_tq (hin 11 159 (by kernel_rfl) (by kernel_rfl)) rfl
                              exact o_len30 (.tmp 159) rfl ro rs.length rc (by rw [e0]; exact unhide HRV) ⟨_, rfl, tq_is _ _ _ _ rfl, Kept.refl _ _, fun _ _ _ _ _ => trivial⟩
                            | 13, ho, hsk =>
                              obtain rfl := Option.some.inj ho
                              exact wp_move (.tmp 7) rfl _ ((hout 7 (by kernel_rfl)).trans rfl) ⟨_, rfl, tq_is _ _ _ _ rfl, Kept.refl _ _, fun _ _ _ _ _ => trivial⟩
                            | 14, ho, hsk =>
                              obtain rfl := Option.some.inj ho
                              have e0 : a'.eval (.tmp 161) = P0 r := is_tq (hin 13 161 (by kernel_rfl) (by kernel_rfl)) rfl
                              exact o_nil (.tmp 161) rfl _ e0 ⟨_, rfl, tq_is _ _ _ _ rfl, Kept.refl _ _, fun _ _ _ _ _ => trivial⟩
                            | 15, ho, hsk =>
                              obtain rfl := Option.some.inj ho
                              have e0 : a'.eval (.tmp 162) = P0 r := is_tq (hin 14 162 (by kernel_rfl) (by kernel_rfl)) rfl
                              exact o_fld32_4 (.tmp 162) rfl r e0 ⟨_, rfl, tq_is _ _ _ _ rfl, Kept.refl _ _, fun _ _ _ _ _ => trivial⟩
                            | 16, ho, hsk =>
                              obtain rfl := Option.some.inj ho
                              have e0 : a'.eval (.tmp 163) = .pointer (some ⟨r, 4, none⟩) := is_tq (hin 15 163 (by kernel_rfl) (by kernel_rfl)) rfl
                              exact o_load3 (.tmp 163) rfl _ _ e0 (fits_cell ((unhide HRH).kept hk2 (by simp)) 4 _ rfl) ⟨_, rfl, tq_is _ _ _ _ rfl, Kept.refl _ _, fun _ _ _ _ _ => trivial⟩
                            | 17, ho, hsk =>
                              obtain rfl := Option.some.inj ho
                              have e0 : a'.eval (.tmp 160) = .int .i64 rs.length := is_tq (hin 12 160 (by kernel_rfl) (by kernel_rfl)) rfl
                              have e1 : a'.eval (.tmp 164) = .int .i64 P.known := is_tq (hin 16 164 (by kernel_rfl) (by kernel_rfl)) rfl
                              refine o_sub3 (.tmp 160) (.tmp 164) rfl _ _ (by have := unhide HLE; omega) e0 e1 ?_
                              rw [(unhide HLE).1]
                              exact ⟨_, rfl, tq_is _ _ _ _ rfl, Kept.refl _ _, fun _ _ _ _ _ => trivial⟩
                            | 18, ho, hsk =>
                              obtain rfl := Option.some.inj ho
                              have e0 : a'.eval (.tmp 155) = .int .i64 ws.length := is_tq (hin 7 155 (by kernel_rfl) (by kernel_rfl)) rfl
                              have e1 : a'.eval (.tmp 165) = .int .i64 ws.length := is_tq (hin 17 165 (by kernel_rfl) (by kernel_rfl)) rfl
                              exact o_eqlT3 (.tmp 155) (.tmp 165) rfl _ _ true (by simp) e0 e1 ⟨_, rfl, tq_is _ _ _ _ rfl, Kept.refl _ _, fun _ _ _ _ _ => trivial⟩
                            | 19, ho, hsk =>
                              obtain rfl := Option.some.inj ho
                              have e0 : a'.eval (.tmp 153) = .bool true := is_tq (hin 5 153 (by kernel_rfl) (by kernel_rfl)) rfl
                              have e1 : a'.eval (.tmp 166) = .bool true := is_tq (hin 18 166 (by kernel_rfl) (by kernel_rfl)) rfl
                              exact o_pick (.tmp 153) (.tmp 166) rfl _ e0 e1 ⟨_, rfl, tq_is _ _ _ _ rfl, Kept.refl _ _, fun _ _ _ _ _ => trivial⟩
                            | 20, ho, hsk =>
                              obtain rfl := Option.some.inj ho
                              have e0 : a'.eval (.tmp 167) = .bool true := is_tq (hin 19 167 (by kernel_rfl) (by kernel_rfl)) rfl
                              exact wp_move (.tmp 167) rfl _ e0 ⟨_, rfl, tq_is _ _ _ _ rfl, Kept.refl _ _, fun _ _ _ _ _ => trivial⟩
                            | 21, ho, hsk =>
                              obtain rfl := Option.some.inj ho
                              exact wp_move (.tmp 5) rfl _ ((hout 5 (by kernel_rfl)).trans rfl) ⟨_, rfl, tq_is _ _ _ _ rfl, Kept.refl _ _, fun _ _ _ _ _ => trivial⟩
                            | 22, ho, hsk =>
                              obtain rfl := Option.some.inj ho
                              have e0 : a'.eval (.tmp 169) = P0 b := is_tq (hin 21 169 (by kernel_rfl) (by kernel_rfl)) rfl
                              refine wp_callF 23 _ _ rfl #[P0 b] (by simp [e0]) (cf23 _ _) ((got23 b v ws P _ ((unhide QD).s.sx.kept0 hk2)).mono ?_)
                              rintro e w3 ⟨rfl, q3, rfl⟩
                              exact ⟨_, rfl, _, rfl, tq_is _ _ _ _ rfl, kept_drewN _ _ _, fun _ _ _ _ _ => trivial⟩
                            | 23, ho, hsk =>
                              obtain rfl := Option.some.inj ho
                              exact wp_move (.tmp 7) rfl _ ((hout 7 (by kernel_rfl)).trans rfl) ⟨_, rfl, tq_is _ _ _ _ rfl, Kept.refl _ _, fun _ _ _ _ _ => trivial⟩
                            | 24, ho, hsk =>
                              obtain rfl := Option.some.inj ho
                              have e0 : a'.eval (.tmp 171) = P0 r := is_tq (hin 23 171 (by kernel_rfl) (by kernel_rfl)) rfl
                              exact o_nil (.tmp 171) rfl _ e0 ⟨_, rfl, tq_is _ _ _ _ rfl, Kept.refl _ _, fun _ _ _ _ _ => trivial⟩
                            | 25, ho, hsk =>
                              obtain rfl := Option.some.inj ho
                              have e0 : a'.eval (.tmp 172) = P0 r := is_tq (hin 24 172 (by kernel_rfl) (by kernel_rfl)) rfl
                              exact o_fld32_6 (.tmp 172) rfl r e0 ⟨_, rfl, tq_is _ _ _ _ rfl, Kept.refl _ _, fun _ _ _ _ _ => trivial⟩
                            | 26, ho, hsk =>
                              obtain rfl := Option.some.inj ho
                              have e0 : a'.eval (.tmp 173) = .pointer (some ⟨r, 6, none⟩) := is_tq (hin 25 173 (by kernel_rfl) (by kernel_rfl)) rfl
                              exact o_load2 (.tmp 173) rfl _ _ e0 (fits_cell ((unhide HRH).kept hk2 (by simp)) 6 _ rfl) ⟨_, rfl, tq_is _ _ _ _ rfl, Kept.refl _ _, fun _ _ _ _ _ => trivial⟩
                            | 27, ho, hsk =>
                              obtain rfl := Option.some.inj ho
                              have e0 : a'.eval (.tmp 170) = .int .i64 P.got := is_tq (hin 22 170 (by kernel_rfl) (by kernel_rfl)) rfl
                              have e1 : a'.eval (.tmp 174) = .int .i64 P.got := is_tq (hin 26 174 (by kernel_rfl) (by kernel_rfl)) rfl
                              exact o_eqlT2 (.tmp 170) (.tmp 174) rfl _ _ true (by simp) e0 e1 ⟨_, rfl, tq_is _ _ _ _ rfl, Kept.refl _ _, fun _ _ _ _ _ => trivial⟩
                            | 28, ho, hsk =>
                              obtain rfl := Option.some.inj ho
                              have e0 : a'.eval (.tmp 168) = .bool true := is_tq (hin 20 168 (by kernel_rfl) (by kernel_rfl)) rfl
                              have e1 : a'.eval (.tmp 175) = .bool true := is_tq (hin 27 175 (by kernel_rfl) (by kernel_rfl)) rfl
                              exact o_pick (.tmp 168) (.tmp 175) rfl _ e0 e1 ⟨_, rfl, tq_is _ _ _ _ rfl, Kept.refl _ _, fun _ _ _ _ _ => trivial⟩
                            | 29, ho, hsk =>
                              obtain rfl := Option.some.inj ho
                              have e0 : a'.eval (.tmp 176) = .bool true := is_tq (hin 28 176 (by kernel_rfl) (by kernel_rfl)) rfl
                              exact wp_move (.tmp 176) rfl _ e0 ⟨_, rfl, tq_is _ _ _ _ rfl, Kept.refl _ _, fun _ _ _ _ _ => trivial⟩
                            | 30, ho, hsk =>
                              obtain rfl := Option.some.inj ho
                              refine wp_callF 11 _ _ rfl #[] (by simp) (cf11 _ _) ((known11 _).mono ?_)
                              rintro e w3 ⟨rfl, hk3⟩
                              exact ⟨_, rfl, _, rfl, tq_is _ _ _ _ rfl, hk3, fun _ _ _ _ _ => trivial⟩
                            | 31, ho, hsk =>
                              obtain rfl := Option.some.inj ho
                              have e0 : a'.eval (.tmp 177) = .bool true := is_tq (hin 29 177 (by kernel_rfl) (by kernel_rfl)) rfl
                              have e1 : a'.eval (.tmp 178) = .bool true := is_tq (hin 30 178 (by kernel_rfl) (by kernel_rfl)) rfl
                              exact o_pick (.tmp 177) (.tmp 178) rfl _ e0 e1 ⟨_, rfl, tq_is _ _ _ _ rfl, Kept.refl _ _, fun _ _ _ _ _ => trivial⟩
                            | 32, ho, hsk =>
                              obtain rfl := Option.some.inj ho
                              have e0 : a'.eval (.tmp 179) = .bool true := is_tq (hin 31 179 (by kernel_rfl) (by kernel_rfl)) rfl
                              exact wp_assignV (.tmp 179) rfl _ e0 ⟨_, rfl, tq_is _ _ _ _ rfl, Kept.refl _ _, fun _ _ _ _ _ => trivial⟩
                          intro X9 hk9
                          replace hk9 : Kept [] w9 X9 := ⟨hk9.os, hk9.tape, hk9.output, hk9.size, hk9.block⟩
                          simp only [valsQ, List.map_cons, List.map_nil, Option.getD_some, List.take_succ_cons, List.take_zero, putAll, Act.put, List.setIfInBounds_toArray, List.set_cons_succ, List.set_cons_zero]
                          refine wpAny_done (by kernel_rfl) ?_ _
                          replace QD := hide ((unhide QD).step hk9)
                          clear hk9
                          go_wp2_with fail
                          go_ret
                          exact ⟨rfl, (unhide QD).s.k⟩
    · have hmI2 : (40 : Int) < (m2 : Int) := by omega
      go_enter Try.func7, Try.ntmps7
      go_wp2_with (
          first
          | (go_at_call 11
             refine (known11 _).mono ?_
             rintro e V3 ⟨rfl, hk⟩
             have HK := hide hk
             clear hk))
      go_ret
      exact ⟨rfl, unhide HK⟩
  · have hmI : (40 : Int) < (m : Int) := by omega
    go_enter Try.func7, Try.ntmps7
    go_wp2_with (
        first
        | (go_at_call 11
           refine (known11 _).mono ?_
           rintro e V3 ⟨rfl, hk⟩
           have HK := hide hk
           clear hk))
    go_ret
    exact ⟨rfl, unhide HK⟩

end Go.Proofs.Ythbgnpbkdeofcaa
