/-
  What follows of torn records. The walk of RecordTorn. RecordTorn: the cases are put together.
-/
import Derived.Test.YtkpkiibahfdomaaDoorGetsa
import Derived.Test.YtkpkiibahfdomaaDoorRpure
import Derived.Test.YtkpkiibahfdomaaDoorPgC
import Derived.Test.YtkpkiibahfdomaaDoorGets
import Derived.Test.YtkpkiibahfdomaaDoorKnowa
import Derived.Test.YtkpkiibahfdomaaDoorTblq
import Derived.Test.YtkpkiibahfdomaaDoorPlainr

namespace Go.Proofs.YtkpkiibahfdomaaDoor
open Go.RowKit

/-- The same but for the bodies. -/
def hdsEq (a b : Rec) : Prop := a.nd = b.nd ∧ a.ep = b.ep ∧ a.ls = b.ls ∧ a.pg = b.pg ∧ a.ps = b.ps
def withBd (b : Rec) (s : List Int) : Rec := ⟨b.nd, b.ep, b.ls, b.pg, b.ps, s⟩
theorem recEq_hds (a b : Rec) : recEq (withBd b a.bd) a = true ↔ hdsEq a b := by
  unfold recEq withBd hdsEq
  simp only [Bool.and_eq_true, decide_eq_true_eq]
  constructor
  · rintro ⟨h1, h2, h3, h4, h5, -⟩; exact ⟨h1.symm, h2.symm, h3.symm, h4.symm, h5.symm⟩
  · rintro ⟨h1, h2, h3, h4, h5⟩; exact ⟨h1.symm, h2.symm, h3.symm, h4.symm, h5.symm, trivial⟩
theorem laid_hds {a b : Rec} (ha : isRec a = true) (hb : isRec b = true) {h k : Nat} (e : laidR a h = laidR b k) : hdsEq a b := by
  simp only [isRec, isWrit, Bool.and_eq_true, decide_eq_true_eq] at ha hb
  obtain ⟨⟨n1, n2⟩, ⟨p1, p2⟩, ⟨e1, e2⟩, ⟨l1, l2⟩, s1, s2⟩ := ha
  obtain ⟨⟨m1, m2⟩, ⟨q1, q2⟩, ⟨f1, f2⟩, ⟨k1, k2⟩, t1, t2⟩ := hb
  have a1 := laidR_num1 a h (by omega)
  have a2 := laidR_num2 a h (by omega)
  have a6 := laidR_num6 a h (by omega)
  have a10 := laidR_num10 a h (by omega)
  have b1 := laidR_num1 b k (by omega)
  have b2 := laidR_num2 b k (by omega)
  have b6 := laidR_num6 b k (by omega)
  have b10 := laidR_num10 b k (by omega)
  rw [e] at a1 a2 a6 a10
  refine ⟨?_, ?_, ?_, ?_, ?_⟩ <;> omega
theorem hdsEq.symm {a b : Rec} (h : hdsEq a b) : hdsEq b a := ⟨h.1.symm, h.2.1.symm, h.2.2.1.symm, h.2.2.2.1.symm, h.2.2.2.2.symm⟩
theorem hdsEq.trans {a b c : Rec} (h : hdsEq a b) (k : hdsEq b c) : hdsEq a c := ⟨h.1.trans k.1, h.2.1.trans k.2.1, h.2.2.1.trans k.2.2.1, h.2.2.2.1.trans k.2.2.2.1, h.2.2.2.2.trans k.2.2.2.2⟩
theorem whole_parts {x y : List Int} (hx : Byts 64 x) (hy : Byts 64 y) (h : (getR x y).2 = 0) : isRec (betR x y) = true ∧ laidR (betR x y) 0 = x ∧ laidR (betR x y) 1 = y := by
  unfold getR at h
  split at h
  · next hc =>
    have hb := (betR_ok hx hy).bd
    have l0 := (laidR_byts (r := betR x y) (h := 0) (by omega) hb).len
    obtain ⟨e0, e1⟩ := List.append_inj hc.2 (by rw [l0, hx.len])
    exact ⟨hc.1, e0, e1⟩
  · cases h
theorem whole_torn {a b : Rec} (ha : isRec a = true) (hb : isRec b = true) (sa : Byts 96 a.bd) (sb : Byts 96 b.bd) (hne : ¬ hdsEq a b) : decide ((getR (laidR a 0) (laidR b 1)).2 = 0) = false := by
  apply decide_eq_false
  intro h
  obtain ⟨hI, e0, e1⟩ := whole_parts (laidR_byts (by omega) sa) (laidR_byts (by omega) sb) h
  exact hne ((laid_hds hI ha e0).symm.trans (laid_hds hI hb e1))
theorem whole_first {x y : List Int} (hx : Byts 64 x) (hy : Byts 64 y) {c : Int} (hc : x[0]? = some c) (hne : c ≠ 177) : decide ((getR x y).2 = 0) = false := by
  apply decide_eq_false
  intro h
  obtain ⟨hI, e0, e1⟩ := whole_parts hx hy h
  have := laid_first (betR x y) (h := 0) (by omega)
  rw [e0, hc] at this
  exact hne (by simpa using this)
theorem getD_first {s : List Int} {c : Int} (h : s[0]? = some c) : s.getD 0 0 = c := by
  simp [List.getD, h]
theorem stamp_rec (r : Rec) {h : Nat} (hh : h < 2) : Pg.stampL (laidR r h) = ((0, 0, 0), false) := by
  unfold Pg.stampL
  rw [if_neg]
  rintro ⟨hb, -⟩
  have e := getD_first (laid_first r hh)
  simp only [Pg.isStampB, Pg.hOf, e, Bool.and_eq_true, decide_eq_true_eq] at hb
  have := hb.2.1
  omega
theorem puth_byte (st ep : Int) : (puthR st ep).1[0]? = some 0 ∨ (puthR st ep).1[0]? = some 179 := by
  unfold puthR
  split
  · exact .inl rfl
  · split
    · right; simp [secOf, be]
    · exact .inl rfl
theorem take_rec (r : Rec) {h : Nat} (hh : h < 2) : takeR (laidR r h) = ((0, 0), 12) := by
  unfold takeR
  rw [if_neg]
  rintro ⟨-, e⟩
  have h1 := laid_first r hh
  have h2 := puth_byte (hdR (laidR r h)).1 (hdR (laidR r h)).2
  rw [← e, h1] at h2
  simp only [Option.some.injEq] at h2
  omega
theorem page_rec (p : Int) (r : Rec) (hs : Byts 96 r.bd) : decide ((Pg.getL p (laidR r 0) (laidR r 1)).2 = 0) = false := by
  apply decide_eq_false
  intro h
  obtain ⟨-, e, -⟩ := Pg.get_ok (laidR_byts (by omega) hs) (laidR_byts (by omega) hs) h
  have h1 := laid_first r (h := 0) (by omega)
  rw [e] at h1
  unfold Pg.fstL at h1
  split at h1
  · cases h1
  · cases h1
theorem fst_first {p n : Int} {s : List Int} (hn : n ≠ 0) : (Pg.fstL p n s)[0]? = some 161 := by
  unfold Pg.fstL
  rw [if_neg hn]
  rfl
theorem st_page {x : List Int} (hx : Byts 64 x) (hc : x[0]? = some 161) : stR x = (zrec, 0, false) := by
  have h0 := okH_c hx (h := 0) (by omega) hc (by omega)
  have h1 := okH_c hx (h := 1) (by omega) hc (by omega)
  simp [stR, h0, h1]

end Go.Proofs.YtkpkiibahfdomaaDoor

namespace Go.Proofs.YtkpkiibahfdomaaDoor
open Go.RowKit

theorem zero63 (w : World) : (Instr.alloc 63 true (.tuple #[])).run Tryd.prog w = .ok (P0 w.heap.size) (w.alloc (.cells (stC 0 0 0).toArray 63)) := by kernel_rfl
theorem bd_range {W : World} {b : Nat} {r : Rec} (h : Blk W b 25 (recC r)) : W.rangeAt b 5 (u8s r.bd) := h.rangeIn _ (fun j _ => by simp [recC, Nat.add_comm])
theorem wpStoreBd {ops : Array Oper} {rest : List Oper} {op : Oper} {a : Act} {w : World} {Q : Exit → Act → World → Prop} (hgd : op.guard = none) (x y : Operand) (ho : op.op = .store 23 x y) (hd : op.dst = none) (b : Nat) (r : Rec) (s : List Int) (hx : a.eval x = .pointer (some ⟨b, 5, none⟩)) (hy : a.eval y = aggV (u8s s)) (hr : r.bd.length = 96) (hs : s.length = 96) (hB : Blk w b 25 (recC r))
    (h : ∀ W, Blk W b 25 (recC (withBd r s)) → Kept [b] w W → wpList Tryd.prog ops Q rest a W) : wpList Tryd.prog ops Q (op :: rest) a w := by
  refine wpStoreA row23 hgd x y ho b 5 (u8s s) hx hy (by rw [u8s_len, hs]) (u8s_one s) (hB.there (by rw [recC_len hr]; omega)) ?_
  have hp : Blk w b 25 ([Value.int .i64 r.nd, .int .i64 r.ep, .int .i64 r.ls, .int .i64 r.pg, .int .i64 r.ps] ++ u8s r.bd ++ []) := by rw [List.append_nil]; exact hB
  have hq := hp.part (o := 5) (vs := u8s s) rfl (by rw [u8s_len, u8s_len, hr, hs])
  rw [List.append_nil] at hq
  rw [hd]
  exact h _ hq ((Kept.refl _ _).setCells _ _ (by simp))
section
variable {o : Oper} {a : Act} {w : World} {K : Act → World → Prop} {Q : Exit → Act → World → Prop}
theorem o_fld25 (x : Operand) (ho : o.op = .fieldAddr 25 x 3) (b : Nat) (hx : a.eval x = P0 b) (h : K (a.put o.dst (.pointer (some ⟨b, 3, none⟩))) w) : o.wp Tryd.prog a w K Q := by
  unfold Oper.wp execOp
  simp only [ho, hx]
  simp [go_sem]
  exact h
theorem o_load3 (x : Operand) (ho : o.op = .load 3 x) (p : Addr) (v : Value) (hx : a.eval x = .pointer (some p)) (hc : w.cell? p = some v) (h : K (a.put o.dst v) w) : o.wp Tryd.prog a w K Q := by
  unfold Oper.wp execOp
  simp only [ho, hx]
  simp [go_sem, hc]
  exact h
end
theorem cf30 (vs : Array Value) (w : World) : (callFunc 30 vs).run Tryd.prog w = .ok (.enter 30 vs) w := by kernel_rfl
/-- A region in the text's order, by its table. -/
theorem wp_text_tq {id : Nat} {ops : Array Oper} {Q : Exit → Act → World → Prop} {a0 : Act} {w0 : World} (n : Nat) (hn : ops.size = n) (hok : prefG ops n = true) (us : List (Option Value)) (hu : us.length = n) (hg : guardsQ ops us = true)
    (hsl : ops.all (fun o => match o.dst with | none => true | some t => decide (t < a0.tmps.size)) = true)
    (hop : ∀ (j : Nat) (o : Oper), j < n → skipQ us j = false → ops[j]? = some o → ∀ a w, (∀ t : Nat, (ops.toList.take n).all (fun p => p.dst != some t) = true → a.eval (.tmp t) = a0.eval (.tmp t)) →
      (∀ (i t : Nat), o.after.any (fun e => Region.binds .any e && e.on == i) = true → ops[i]?.bind (·.dst) = some t → tq us i (a.eval (.tmp t)) w) → Kept [] w0 w →
      o.wp Tryd.prog a w (fun a' w' => ∃ v, a' = a.put o.dst v ∧ tq us j v w' ∧ Kept [] w w' ∧ ∀ i u, i < n → i ≠ j → tq us i u w → True) Q)
    (hQ : ∀ w, Kept [] w0 w → Q .normal (putAll a0 (ops.toList.take n) (valsQ us)) w) : (Code.region id ops false).wp Tryd.prog Q a0 w0 := by
  refine wp_region_text n hn hok (tq us) (fun _ _ _ _ => True) (skipQ us) (fun j o i b _ ho hg' => guardsQ_some hg j o i b ho hg') (fun j o _ ho hg' => guardsQ_none hg j o ho hg') (fun j w h => skipQ_undef w h) (fun _ _ _ _ => trivial) (tq_kept us) hsl hop ?_
  intro vs w hlen hv hk
  obtain rfl := vs_tq hv (by omega)
  exact hQ w hk
theorem wpNeqV {ops : Array Oper} {rest : List Oper} {op : Oper} {a : Act} {w : World} {Q : Exit → Act → World → Prop} (T r : Nat) (hG : Tryd.prog.eqGuardType Tryd.prog.depth T = false) (x y : Operand) (hgd : op.guard = none) (ho : op.op = .binOp .neq T x y r) (vs us : List Value) (hx : a.eval x = aggV vs) (hy : a.eval y = aggV us) (c d : Bool) (hd : (!c) = d)
    (he : (Op.equal T (aggV vs) (aggV us)).run Tryd.prog w = .ok c w) (h : wpList Tryd.prog ops Q rest (a.put op.dst (.bool d)) w) : wpList Tryd.prog ops Q (op :: rest) a w := by
  subst hd
  exact wpNeqA T r hG x y hgd ho vs us hx hy c he h
/-- What RecordTorn keeps while it goes. -/
structure Tv (w wr : World) (b3 b4 b5 b7 b9 : Nat) (a b : Rec) (n : Int) (v s t : List Int) : Prop where
  ra : Blk wr b3 25 (recC a)
  rb : Blk wr b4 25 (recC b)
  rv : Blk wr b5 61 (verC n v)
  s : Blk wr b7 30 (u8s s)
  t : Blk wr b9 30 (u8s t)
  first : First wr
  kept : Kept [] w wr
theorem Tv.step {w wr wn : World} {b3 b4 b5 b7 b9 : Nat} {a b : Rec} {n : Int} {v s t : List Int} (h : Tv w wr b3 b4 b5 b7 b9 a b n v s t) (hk : Kept [] wr wn) : Tv w wn b3 b4 b5 b7 b9 a b n v s t :=
  ⟨h.ra.kept hk (by simp), h.rb.kept hk (by simp), h.rv.kept hk (by simp), h.s.kept hk (by simp), h.t.kept hk (by simp), h.first.kept hk, h.kept.trans hk⟩
theorem Tv.far {w wr wn : World} {b3 b4 b5 b7 b9 : Nat} {a b : Rec} {n : Int} {v s t : List Int} (h : Tv w wr b3 b4 b5 b7 b9 a b n v s t) {x : Nat} (hk : Kept [x] wr wn) (hx : w.heap.size ≤ x) (h0 : 0 ≠ x) (hn : b3 ≠ x ∧ b4 ≠ x ∧ b5 ≠ x ∧ b7 ≠ x ∧ b9 ≠ x) : Tv w wn b3 b4 b5 b7 b9 a b n v s t :=
  ⟨h.ra.kept hk (by simp [hn.1]), h.rb.kept hk (by simp [hn.2.1]), h.rv.kept hk (by simp [hn.2.2.1]), h.s.kept hk (by simp [hn.2.2.2.1]), h.t.kept hk (by simp [hn.2.2.2.2]), h.first.keptX hk (by simp [h0]), h.kept.fresh hk (fun i hi hl => by simp at hi; omega)⟩
theorem Tv.apart {w wr : World} {b3 b4 b5 b7 b9 : Nat} {a b : Rec} {n : Int} {v s t : List Int} (h : Tv w wr b3 b4 b5 b7 b9 a b n v s t) {x : Nat} (hx : x = wr.heap.size) : w.heap.size ≤ x ∧ 0 ≠ x ∧ b3 ≠ x ∧ b4 ≠ x ∧ b5 ≠ x ∧ b7 ≠ x ∧ b9 ≠ x := by
  have h1 := h.ra.lt
  have h2 := h.rb.lt
  have h3 := h.rv.lt
  have h4 := h.s.lt
  have h5 := h.t.lt
  have h6 := h.kept.size
  omega

set_option maxHeartbeats 4000000 in
set_option maxRecDepth 100000 in
theorem torn_bad02 (a b : Rec) (n : Int) (v S0 S1 T0 T1 : List Int) (ha : a.bd.length = 96) (hb : b.bd.length = 96) (_ : v.length = 96) (hS0 : S0.length = 64) (hS1 : S1.length = 64) (hT0 : T0.length = 64) (hT1 : T1.length = 64) (P8a : ∀ w, Calls Tryd.prog 8 #[aggV (recC a)] w fun e w' => e = .returned (.tuple #[aggV (u8s (S0 ++ S1)), .int .i64 0]) ∧ Kept [] w w') (P8b : ∀ w, Calls Tryd.prog 8 #[aggV (recC b)] w fun e w' => e = .returned (.tuple #[aggV (u8s (T0 ++ T1)), .int .i64 2]) ∧ Kept [] w w') (w : World) (hF : First w) : Calls Tryd.prog 6 #[aggV (recC a), aggV (recC b), aggV (verC n v)] w fun e w' => e = .returned (.bool true) ∧ Kept [] w w' := by
  have H8a := hide P8a
  have H8b := hide P8b
  have F0 := hide hF
  have KA := hide (Kept.refl [] w)
  clear hF P8a P8b
  have la := recC_len ha
  have lb := recC_len hb
  have lz : (recC zrec).length = 101 := recC_len zrec_ok.bd.len
  have lS : (u8s (S0 ++ S1)).length = 128 := by rw [u8s_len, List.length_append]; omega
  have lT : (u8s (T0 ++ T1)).length = 128 := by rw [u8s_len, List.length_append]; omega
  go_enter Tryd.func6, Tryd.ntmps6
  go_wp2_with (
    first
    | (refine wpBoxV rfl (.tmp 0) rfl (recC a) rfl ?_
       intro W101 b3 e101 B101 K101
       have A := hide B101
       replace KA := hide ((unhide KA).trans K101)
       replace F0 := hide ((unhide F0).kept K101)
       clear e101 B101 K101
       refine Stp.go ?_))
  constructor
  go_wp2_with (
    first
    | (refine wpBoxV rfl (.tmp 1) rfl (recC b) rfl ?_
       intro W102 b4 e102 B102 K102
       have B := hide B102
       replace A := hide ((unhide A).kept K102 (by simp))
       replace KA := hide ((unhide KA).trans K102)
       replace F0 := hide ((unhide F0).kept K102)
       clear e102 B102 K102
       refine Stp.go ?_))
  constructor
  go_wp2_with (
    first
    | (refine wpBoxV rfl (.tmp 2) rfl (verC n v) rfl ?_
       intro W103 b5 e103 B103 K103
       have V := hide B103
       replace A := hide ((unhide A).kept K103 (by simp))
       replace B := hide ((unhide B).kept K103 (by simp))
       replace KA := hide ((unhide KA).trans K103)
       replace F0 := hide ((unhide F0).kept K103)
       clear e103 B103 K103
       refine Stp.go ?_))
  constructor
  go_wp2_with (
    first
    | (go_at_call 15
       refine (known15 _ (unhide F0)).mono ?_
       rintro e W104 ⟨rfl, K104⟩
       replace F0 := hide ((unhide F0).kept K104)
       replace A := hide ((unhide A).kept K104 (by simp))
       replace B := hide ((unhide B).kept K104 (by simp))
       replace V := hide ((unhide V).kept K104 (by simp))
       replace KA := hide ((unhide KA).trans K104)
       clear K104
       refine Stp.go ?_))
  constructor
  go_wp2_with (
    first
    | (refine wpLoadA row25 (by rfl) (.tmp 3) (by rfl) b3 0 (by kernel_rfl) (recC a) la (unhide A).range ?_
       refine Stp.go ?_))
  constructor
  go_wp2_with (
    first
    | (go_at_call 8
       refine (unhide H8a _).mono ?_
       rintro e W105 ⟨rfl, K105⟩
       replace F0 := hide ((unhide F0).kept K105)
       replace A := hide ((unhide A).kept K105 (by simp))
       replace B := hide ((unhide B).kept K105 (by simp))
       replace V := hide ((unhide V).kept K105 (by simp))
       replace KA := hide ((unhide KA).trans K105)
       clear K105 H8a
       refine Stp.go ?_))
  constructor
  go_wp2_with (
    first
    | (refine wpNew row30 (u8s (zs 128)) (by rw [u8s_len]; simp [zs]) zero30 7 (by rfl) (by rfl) (by rfl) (.tmp 25) (by rfl) (by rfl) (by rfl) (u8s (S0 ++ S1)) lS (u8s_one _) (by kernel_rfl) (by kernel_rfl) ?_
       intro W106 b7 e106 B106 K106
       replace F0 := hide ((unhide F0).kept K106)
       replace A := hide ((unhide A).kept K106 (by simp))
       replace B := hide ((unhide B).kept K106 (by simp))
       replace V := hide ((unhide V).kept K106 (by simp))
       replace KA := hide ((unhide KA).trans K106)
       have S := hide B106
       clear e106 B106 K106
       refine Stp.go ?_))
  constructor
  go_wp2_with (
    first
    | (refine wpLoadA row25 (by rfl) (.tmp 4) (by rfl) b4 0 (by kernel_rfl) (recC b) lb (unhide B).range ?_
       refine Stp.go ?_))
  constructor
  go_wp2_with (
    first
    | (go_at_call 8
       refine (unhide H8b _).mono ?_
       rintro e W107 ⟨rfl, K107⟩
       replace F0 := hide ((unhide F0).kept K107)
       replace A := hide ((unhide A).kept K107 (by simp))
       replace B := hide ((unhide B).kept K107 (by simp))
       replace V := hide ((unhide V).kept K107 (by simp))
       replace S := hide ((unhide S).kept K107 (by simp))
       replace KA := hide ((unhide KA).trans K107)
       clear K107 H8b
       refine Stp.go ?_))
  constructor
  go_wp2_with (
    first
    | (refine wpNew row30 (u8s (zs 128)) (by rw [u8s_len]; simp [zs]) zero30 9 (by rfl) (by rfl) (by rfl) (.tmp 30) (by rfl) (by rfl) (by rfl) (u8s (T0 ++ T1)) lT (u8s_one _) (by kernel_rfl) (by kernel_rfl) ?_
       intro W108 b9 e108 B108 K108
       have G : Hid (Tv w W108 b3 b4 b5 b7 b9 a b n v (S0 ++ S1) (T0 ++ T1)) := ⟨(unhide A).kept K108 (by simp), (unhide B).kept K108 (by simp), (unhide V).kept K108 (by simp), (unhide S).kept K108 (by simp), B108, (unhide F0).kept K108, (unhide KA).trans K108⟩
       clear e108 B108 K108 A B V S F0 KA
       refine Stp.go ?_))
  constructor
  go_wp2_with (
    first
    | (go_at_call 11; refine (num11 _ _).mono ?_; rintro e wn ⟨rfl, rfl⟩))
  go_ret
  exact ⟨rfl, (unhide G).kept⟩
set_option maxHeartbeats 4000000 in
set_option maxRecDepth 100000 in
theorem torn_bad20 (a b : Rec) (n : Int) (v S0 S1 T0 T1 : List Int) (ha : a.bd.length = 96) (hb : b.bd.length = 96) (_ : v.length = 96) (hS0 : S0.length = 64) (hS1 : S1.length = 64) (hT0 : T0.length = 64) (hT1 : T1.length = 64) (P8a : ∀ w, Calls Tryd.prog 8 #[aggV (recC a)] w fun e w' => e = .returned (.tuple #[aggV (u8s (S0 ++ S1)), .int .i64 2]) ∧ Kept [] w w') (P8b : ∀ w, Calls Tryd.prog 8 #[aggV (recC b)] w fun e w' => e = .returned (.tuple #[aggV (u8s (T0 ++ T1)), .int .i64 0]) ∧ Kept [] w w') (w : World) (hF : First w) : Calls Tryd.prog 6 #[aggV (recC a), aggV (recC b), aggV (verC n v)] w fun e w' => e = .returned (.bool true) ∧ Kept [] w w' := by
  have H8a := hide P8a
  have H8b := hide P8b
  have F0 := hide hF
  have KA := hide (Kept.refl [] w)
  clear hF P8a P8b
  have la := recC_len ha
  have lb := recC_len hb
  have lz : (recC zrec).length = 101 := recC_len zrec_ok.bd.len
  have lS : (u8s (S0 ++ S1)).length = 128 := by rw [u8s_len, List.length_append]; omega
  have lT : (u8s (T0 ++ T1)).length = 128 := by rw [u8s_len, List.length_append]; omega
  go_enter Tryd.func6, Tryd.ntmps6
  go_wp2_with (
    first
    | (refine wpBoxV rfl (.tmp 0) rfl (recC a) rfl ?_
       intro W101 b3 e101 B101 K101
       have A := hide B101
       replace KA := hide ((unhide KA).trans K101)
       replace F0 := hide ((unhide F0).kept K101)
       clear e101 B101 K101
       refine Stp.go ?_))
  constructor
  go_wp2_with (
    first
    | (refine wpBoxV rfl (.tmp 1) rfl (recC b) rfl ?_
       intro W102 b4 e102 B102 K102
       have B := hide B102
       replace A := hide ((unhide A).kept K102 (by simp))
       replace KA := hide ((unhide KA).trans K102)
       replace F0 := hide ((unhide F0).kept K102)
       clear e102 B102 K102
       refine Stp.go ?_))
  constructor
  go_wp2_with (
    first
    | (refine wpBoxV rfl (.tmp 2) rfl (verC n v) rfl ?_
       intro W103 b5 e103 B103 K103
       have V := hide B103
       replace A := hide ((unhide A).kept K103 (by simp))
       replace B := hide ((unhide B).kept K103 (by simp))
       replace KA := hide ((unhide KA).trans K103)
       replace F0 := hide ((unhide F0).kept K103)
       clear e103 B103 K103
       refine Stp.go ?_))
  constructor
  go_wp2_with (
    first
    | (go_at_call 15
       refine (known15 _ (unhide F0)).mono ?_
       rintro e W104 ⟨rfl, K104⟩
       replace F0 := hide ((unhide F0).kept K104)
       replace A := hide ((unhide A).kept K104 (by simp))
       replace B := hide ((unhide B).kept K104 (by simp))
       replace V := hide ((unhide V).kept K104 (by simp))
       replace KA := hide ((unhide KA).trans K104)
       clear K104
       refine Stp.go ?_))
  constructor
  go_wp2_with (
    first
    | (refine wpLoadA row25 (by rfl) (.tmp 3) (by rfl) b3 0 (by kernel_rfl) (recC a) la (unhide A).range ?_
       refine Stp.go ?_))
  constructor
  go_wp2_with (
    first
    | (go_at_call 8
       refine (unhide H8a _).mono ?_
       rintro e W105 ⟨rfl, K105⟩
       replace F0 := hide ((unhide F0).kept K105)
       replace A := hide ((unhide A).kept K105 (by simp))
       replace B := hide ((unhide B).kept K105 (by simp))
       replace V := hide ((unhide V).kept K105 (by simp))
       replace KA := hide ((unhide KA).trans K105)
       clear K105 H8a
       refine Stp.go ?_))
  constructor
  go_wp2_with (
    first
    | (refine wpNew row30 (u8s (zs 128)) (by rw [u8s_len]; simp [zs]) zero30 7 (by rfl) (by rfl) (by rfl) (.tmp 25) (by rfl) (by rfl) (by rfl) (u8s (S0 ++ S1)) lS (u8s_one _) (by kernel_rfl) (by kernel_rfl) ?_
       intro W106 b7 e106 B106 K106
       replace F0 := hide ((unhide F0).kept K106)
       replace A := hide ((unhide A).kept K106 (by simp))
       replace B := hide ((unhide B).kept K106 (by simp))
       replace V := hide ((unhide V).kept K106 (by simp))
       replace KA := hide ((unhide KA).trans K106)
       have S := hide B106
       clear e106 B106 K106
       refine Stp.go ?_))
  constructor
  go_wp2_with (
    first
    | (refine wpLoadA row25 (by rfl) (.tmp 4) (by rfl) b4 0 (by kernel_rfl) (recC b) lb (unhide B).range ?_
       refine Stp.go ?_))
  constructor
  go_wp2_with (
    first
    | (go_at_call 8
       refine (unhide H8b _).mono ?_
       rintro e W107 ⟨rfl, K107⟩
       replace F0 := hide ((unhide F0).kept K107)
       replace A := hide ((unhide A).kept K107 (by simp))
       replace B := hide ((unhide B).kept K107 (by simp))
       replace V := hide ((unhide V).kept K107 (by simp))
       replace S := hide ((unhide S).kept K107 (by simp))
       replace KA := hide ((unhide KA).trans K107)
       clear K107 H8b
       refine Stp.go ?_))
  constructor
  go_wp2_with (
    first
    | (refine wpNew row30 (u8s (zs 128)) (by rw [u8s_len]; simp [zs]) zero30 9 (by rfl) (by rfl) (by rfl) (.tmp 30) (by rfl) (by rfl) (by rfl) (u8s (T0 ++ T1)) lT (u8s_one _) (by kernel_rfl) (by kernel_rfl) ?_
       intro W108 b9 e108 B108 K108
       have G : Hid (Tv w W108 b3 b4 b5 b7 b9 a b n v (S0 ++ S1) (T0 ++ T1)) := ⟨(unhide A).kept K108 (by simp), (unhide B).kept K108 (by simp), (unhide V).kept K108 (by simp), (unhide S).kept K108 (by simp), B108, (unhide F0).kept K108, (unhide KA).trans K108⟩
       clear e108 B108 K108 A B V S F0 KA
       refine Stp.go ?_))
  constructor
  go_wp2_with (
    first
    | (go_at_call 11; refine (num11 _ _).mono ?_; rintro e wn ⟨rfl, rfl⟩))
  go_ret
  exact ⟨rfl, (unhide G).kept⟩
set_option maxHeartbeats 4000000 in
set_option maxRecDepth 100000 in
theorem torn_bad22 (a b : Rec) (n : Int) (v S0 S1 T0 T1 : List Int) (ha : a.bd.length = 96) (hb : b.bd.length = 96) (_ : v.length = 96) (hS0 : S0.length = 64) (hS1 : S1.length = 64) (hT0 : T0.length = 64) (hT1 : T1.length = 64) (P8a : ∀ w, Calls Tryd.prog 8 #[aggV (recC a)] w fun e w' => e = .returned (.tuple #[aggV (u8s (S0 ++ S1)), .int .i64 2]) ∧ Kept [] w w') (P8b : ∀ w, Calls Tryd.prog 8 #[aggV (recC b)] w fun e w' => e = .returned (.tuple #[aggV (u8s (T0 ++ T1)), .int .i64 2]) ∧ Kept [] w w') (w : World) (hF : First w) : Calls Tryd.prog 6 #[aggV (recC a), aggV (recC b), aggV (verC n v)] w fun e w' => e = .returned (.bool true) ∧ Kept [] w w' := by
  have H8a := hide P8a
  have H8b := hide P8b
  have F0 := hide hF
  have KA := hide (Kept.refl [] w)
  clear hF P8a P8b
  have la := recC_len ha
  have lb := recC_len hb
  have lz : (recC zrec).length = 101 := recC_len zrec_ok.bd.len
  have lS : (u8s (S0 ++ S1)).length = 128 := by rw [u8s_len, List.length_append]; omega
  have lT : (u8s (T0 ++ T1)).length = 128 := by rw [u8s_len, List.length_append]; omega
  go_enter Tryd.func6, Tryd.ntmps6
  go_wp2_with (
    first
    | (refine wpBoxV rfl (.tmp 0) rfl (recC a) rfl ?_
       intro W101 b3 e101 B101 K101
       have A := hide B101
       replace KA := hide ((unhide KA).trans K101)
       replace F0 := hide ((unhide F0).kept K101)
       clear e101 B101 K101
       refine Stp.go ?_))
  constructor
  go_wp2_with (
    first
    | (refine wpBoxV rfl (.tmp 1) rfl (recC b) rfl ?_
       intro W102 b4 e102 B102 K102
       have B := hide B102
       replace A := hide ((unhide A).kept K102 (by simp))
       replace KA := hide ((unhide KA).trans K102)
       replace F0 := hide ((unhide F0).kept K102)
       clear e102 B102 K102
       refine Stp.go ?_))
  constructor
  go_wp2_with (
    first
    | (refine wpBoxV rfl (.tmp 2) rfl (verC n v) rfl ?_
       intro W103 b5 e103 B103 K103
       have V := hide B103
       replace A := hide ((unhide A).kept K103 (by simp))
       replace B := hide ((unhide B).kept K103 (by simp))
       replace KA := hide ((unhide KA).trans K103)
       replace F0 := hide ((unhide F0).kept K103)
       clear e103 B103 K103
       refine Stp.go ?_))
  constructor
  go_wp2_with (
    first
    | (go_at_call 15
       refine (known15 _ (unhide F0)).mono ?_
       rintro e W104 ⟨rfl, K104⟩
       replace F0 := hide ((unhide F0).kept K104)
       replace A := hide ((unhide A).kept K104 (by simp))
       replace B := hide ((unhide B).kept K104 (by simp))
       replace V := hide ((unhide V).kept K104 (by simp))
       replace KA := hide ((unhide KA).trans K104)
       clear K104
       refine Stp.go ?_))
  constructor
  go_wp2_with (
    first
    | (refine wpLoadA row25 (by rfl) (.tmp 3) (by rfl) b3 0 (by kernel_rfl) (recC a) la (unhide A).range ?_
       refine Stp.go ?_))
  constructor
  go_wp2_with (
    first
    | (go_at_call 8
       refine (unhide H8a _).mono ?_
       rintro e W105 ⟨rfl, K105⟩
       replace F0 := hide ((unhide F0).kept K105)
       replace A := hide ((unhide A).kept K105 (by simp))
       replace B := hide ((unhide B).kept K105 (by simp))
       replace V := hide ((unhide V).kept K105 (by simp))
       replace KA := hide ((unhide KA).trans K105)
       clear K105 H8a
       refine Stp.go ?_))
  constructor
  go_wp2_with (
    first
    | (refine wpNew row30 (u8s (zs 128)) (by rw [u8s_len]; simp [zs]) zero30 7 (by rfl) (by rfl) (by rfl) (.tmp 25) (by rfl) (by rfl) (by rfl) (u8s (S0 ++ S1)) lS (u8s_one _) (by kernel_rfl) (by kernel_rfl) ?_
       intro W106 b7 e106 B106 K106
       replace F0 := hide ((unhide F0).kept K106)
       replace A := hide ((unhide A).kept K106 (by simp))
       replace B := hide ((unhide B).kept K106 (by simp))
       replace V := hide ((unhide V).kept K106 (by simp))
       replace KA := hide ((unhide KA).trans K106)
       have S := hide B106
       clear e106 B106 K106
       refine Stp.go ?_))
  constructor
  go_wp2_with (
    first
    | (refine wpLoadA row25 (by rfl) (.tmp 4) (by rfl) b4 0 (by kernel_rfl) (recC b) lb (unhide B).range ?_
       refine Stp.go ?_))
  constructor
  go_wp2_with (
    first
    | (go_at_call 8
       refine (unhide H8b _).mono ?_
       rintro e W107 ⟨rfl, K107⟩
       replace F0 := hide ((unhide F0).kept K107)
       replace A := hide ((unhide A).kept K107 (by simp))
       replace B := hide ((unhide B).kept K107 (by simp))
       replace V := hide ((unhide V).kept K107 (by simp))
       replace S := hide ((unhide S).kept K107 (by simp))
       replace KA := hide ((unhide KA).trans K107)
       clear K107 H8b
       refine Stp.go ?_))
  constructor
  go_wp2_with (
    first
    | (refine wpNew row30 (u8s (zs 128)) (by rw [u8s_len]; simp [zs]) zero30 9 (by rfl) (by rfl) (by rfl) (.tmp 30) (by rfl) (by rfl) (by rfl) (u8s (T0 ++ T1)) lT (u8s_one _) (by kernel_rfl) (by kernel_rfl) ?_
       intro W108 b9 e108 B108 K108
       have G : Hid (Tv w W108 b3 b4 b5 b7 b9 a b n v (S0 ++ S1) (T0 ++ T1)) := ⟨(unhide A).kept K108 (by simp), (unhide B).kept K108 (by simp), (unhide V).kept K108 (by simp), (unhide S).kept K108 (by simp), B108, (unhide F0).kept K108, (unhide KA).trans K108⟩
       clear e108 B108 K108 A B V S F0 KA
       refine Stp.go ?_))
  constructor
  go_wp2_with (
    first
    | (go_at_call 11; refine (num11 _ _).mono ?_; rintro e wn ⟨rfl, rfl⟩))
  go_ret
  exact ⟨rfl, (unhide G).kept⟩
set_option maxHeartbeats 4000000 in
set_option maxRecDepth 100000 in
theorem torn_other_no (a b : Rec) (n : Int) (v S0 S1 T0 T1 : List Int) (ha : a.bd.length = 96) (hb : b.bd.length = 96) (hv : v.length = 96) (hS0 : S0.length = 64) (hS1 : S1.length = 64) (hT0 : T0.length = 64) (hT1 : T1.length = 64) (P8a : ∀ w, Calls Tryd.prog 8 #[aggV (recC a)] w fun e w' => e = .returned (.tuple #[aggV (u8s (S0 ++ S1)), .int .i64 0]) ∧ Kept [] w w') (P8b : ∀ w, Calls Tryd.prog 8 #[aggV (recC b)] w fun e w' => e = .returned (.tuple #[aggV (u8s (T0 ++ T1)), .int .i64 0]) ∧ Kept [] w w') (P270 : ∀ w, Calls Tryd.prog 27 #[aggV (u8s S0)] w fun e w' => e = .returned (.tuple #[aggV (stC 0 0 0), .bool false]) ∧ Kept [] w w') (P120 : ∀ w, First w → Calls Tryd.prog 12 #[aggV (u8s S0)] w fun e w' => e = .returned (.tuple #[aggV (hdC 0 0), .int .i64 12]) ∧ Kept [] w w') (P271 : ∀ w, Calls Tryd.prog 27 #[aggV (u8s S1)] w fun e w' => e = .returned (.tuple #[aggV (stC 0 0 0), .bool false]) ∧ Kept [] w w') (P121 : ∀ w, First w → Calls Tryd.prog 12 #[aggV (u8s S1)] w fun e w' => e = .returned (.tuple #[aggV (hdC 0 0), .int .i64 12]) ∧ Kept [] w w') (P28 : ∀ w, Calls Tryd.prog 28 #[.int .i64 a.pg, aggV (u8s S0), aggV (u8s S1)] w fun e w' => e = .returned (.bool false) ∧ Kept [] w w') (P29 : ∀ w, Calls Tryd.prog 29 #[aggV (verC n v)] w fun e w' => e = .returned (.bool false) ∧ Kept [] w w') (P18a : ∀ w, Calls Tryd.prog 18 #[aggV (u8s S0), aggV (u8s T1)] w fun e w' => e = .returned (.bool false) ∧ Kept [] w w') (P18b : ∀ w, Calls Tryd.prog 18 #[aggV (u8s T0), aggV (u8s S1)] w fun e w' => e = .returned (.bool false) ∧ Kept [] w w') (hd : recEq (withBd b a.bd) a = false) (w : World) (hF : First w) : Calls Tryd.prog 6 #[aggV (recC a), aggV (recC b), aggV (verC n v)] w fun e w' => e = .returned (.bool true) ∧ Kept [] w w' := by
  have H8a := hide P8a
  have H8b := hide P8b
  have H270 := hide P270
  have H120 := hide P120
  have H271 := hide P271
  have H121 := hide P121
  have H28 := hide P28
  have H29 := hide P29
  have H18a := hide P18a
  have H18b := hide P18b
  have F0 := hide hF
  have KA := hide (Kept.refl [] w)
  clear hF P8a P8b P270 P120 P271 P121 P28 P29 P18a P18b
  have la := recC_len ha
  have lb := recC_len hb
  have lz : (recC zrec).length = 101 := recC_len zrec_ok.bd.len
  have lS : (u8s (S0 ++ S1)).length = 128 := by rw [u8s_len, List.length_append]; omega
  have lT : (u8s (T0 ++ T1)).length = 128 := by rw [u8s_len, List.length_append]; omega
  have HD := hide hd
  clear hd
  have lba : (u8s a.bd).length = 96 := by rw [u8s_len, ha]
  have lx : (recC (withBd b a.bd)).length = 101 := recC_len (r := withBd b a.bd) ha
  have l64S0 : (u8s S0).length = 64 := by rw [u8s_len, hS0]
  have l64S1 : (u8s S1).length = 64 := by rw [u8s_len, hS1]
  have l64T0 : (u8s T0).length = 64 := by rw [u8s_len, hT0]
  have l64T1 : (u8s T1).length = 64 := by rw [u8s_len, hT1]
  have lv : (verC n v).length = 97 := verC_len hv
  go_enter Tryd.func6, Tryd.ntmps6
  go_wp2_with (
    first
    | (refine wpBoxV rfl (.tmp 0) rfl (recC a) rfl ?_
       intro W101 b3 e101 B101 K101
       have A := hide B101
       replace KA := hide ((unhide KA).trans K101)
       replace F0 := hide ((unhide F0).kept K101)
       clear e101 B101 K101
       refine Stp.go ?_))
  constructor
  go_wp2_with (
    first
    | (refine wpBoxV rfl (.tmp 1) rfl (recC b) rfl ?_
       intro W102 b4 e102 B102 K102
       have B := hide B102
       replace A := hide ((unhide A).kept K102 (by simp))
       replace KA := hide ((unhide KA).trans K102)
       replace F0 := hide ((unhide F0).kept K102)
       clear e102 B102 K102
       refine Stp.go ?_))
  constructor
  go_wp2_with (
    first
    | (refine wpBoxV rfl (.tmp 2) rfl (verC n v) rfl ?_
       intro W103 b5 e103 B103 K103
       have V := hide B103
       replace A := hide ((unhide A).kept K103 (by simp))
       replace B := hide ((unhide B).kept K103 (by simp))
       replace KA := hide ((unhide KA).trans K103)
       replace F0 := hide ((unhide F0).kept K103)
       clear e103 B103 K103
       refine Stp.go ?_))
  constructor
  go_wp2_with (
    first
    | (go_at_call 15
       refine (known15 _ (unhide F0)).mono ?_
       rintro e W104 ⟨rfl, K104⟩
       replace F0 := hide ((unhide F0).kept K104)
       replace A := hide ((unhide A).kept K104 (by simp))
       replace B := hide ((unhide B).kept K104 (by simp))
       replace V := hide ((unhide V).kept K104 (by simp))
       replace KA := hide ((unhide KA).trans K104)
       clear K104
       refine Stp.go ?_))
  constructor
  go_wp2_with (
    first
    | (refine wpLoadA row25 (by rfl) (.tmp 3) (by rfl) b3 0 (by kernel_rfl) (recC a) la (unhide A).range ?_
       refine Stp.go ?_))
  constructor
  go_wp2_with (
    first
    | (go_at_call 8
       refine (unhide H8a _).mono ?_
       rintro e W105 ⟨rfl, K105⟩
       replace F0 := hide ((unhide F0).kept K105)
       replace A := hide ((unhide A).kept K105 (by simp))
       replace B := hide ((unhide B).kept K105 (by simp))
       replace V := hide ((unhide V).kept K105 (by simp))
       replace KA := hide ((unhide KA).trans K105)
       clear K105 H8a
       refine Stp.go ?_))
  constructor
  go_wp2_with (
    first
    | (refine wpNew row30 (u8s (zs 128)) (by rw [u8s_len]; simp [zs]) zero30 7 (by rfl) (by rfl) (by rfl) (.tmp 25) (by rfl) (by rfl) (by rfl) (u8s (S0 ++ S1)) lS (u8s_one _) (by kernel_rfl) (by kernel_rfl) ?_
       intro W106 b7 e106 B106 K106
       replace F0 := hide ((unhide F0).kept K106)
       replace A := hide ((unhide A).kept K106 (by simp))
       replace B := hide ((unhide B).kept K106 (by simp))
       replace V := hide ((unhide V).kept K106 (by simp))
       replace KA := hide ((unhide KA).trans K106)
       have S := hide B106
       clear e106 B106 K106
       refine Stp.go ?_))
  constructor
  go_wp2_with (
    first
    | (refine wpLoadA row25 (by rfl) (.tmp 4) (by rfl) b4 0 (by kernel_rfl) (recC b) lb (unhide B).range ?_
       refine Stp.go ?_))
  constructor
  go_wp2_with (
    first
    | (go_at_call 8
       refine (unhide H8b _).mono ?_
       rintro e W107 ⟨rfl, K107⟩
       replace F0 := hide ((unhide F0).kept K107)
       replace A := hide ((unhide A).kept K107 (by simp))
       replace B := hide ((unhide B).kept K107 (by simp))
       replace V := hide ((unhide V).kept K107 (by simp))
       replace S := hide ((unhide S).kept K107 (by simp))
       replace KA := hide ((unhide KA).trans K107)
       clear K107 H8b
       refine Stp.go ?_))
  constructor
  go_wp2_with (
    first
    | (refine wpNew row30 (u8s (zs 128)) (by rw [u8s_len]; simp [zs]) zero30 9 (by rfl) (by rfl) (by rfl) (.tmp 30) (by rfl) (by rfl) (by rfl) (u8s (T0 ++ T1)) lT (u8s_one _) (by kernel_rfl) (by kernel_rfl) ?_
       intro W108 b9 e108 B108 K108
       have G : Hid (Tv w W108 b3 b4 b5 b7 b9 a b n v (S0 ++ S1) (T0 ++ T1)) := ⟨(unhide A).kept K108 (by simp), (unhide B).kept K108 (by simp), (unhide V).kept K108 (by simp), (unhide S).kept K108 (by simp), B108, (unhide F0).kept K108, (unhide KA).trans K108⟩
       clear e108 B108 K108 A B V S F0 KA
       refine Stp.go ?_))
  constructor
  go_wp2_with (
    first
    | (go_at_call 11; refine (num11 _ _).mono ?_; rintro e wn ⟨rfl, rfl⟩
       refine Stp.go ?_))
  constructor
  go_wp2_with (
    first
    | (go_at_call 11; refine (num11 _ _).mono ?_; rintro e wn ⟨rfl, rfl⟩
       refine Stp.go ?_))
  constructor
  go_wp2_with (
    first
    | (refine wpLoadA row25 (by rfl) (.tmp 4) (by rfl) b4 0 (by kernel_rfl) (recC b) lb (unhide G).rb.range ?_
       refine Stp.go ?_))
  constructor
  go_wp2_with (
    first
    | (refine wpNew row25 (recC zrec) lz zero25 11 (by rfl) (by rfl) (by rfl) (.tmp 38) (by rfl) (by rfl) (by rfl) (recC b) lb (recC_one _) (by kernel_rfl) (by kernel_rfl) ?_
       intro W109 bx e109 B109 K109
       have Z := hide ((unhide G).apart e109)
       replace G := hide ((unhide G).step K109)
       have M := hide B109
       clear e109 B109 K109
       refine Stp.go ?_))
  constructor
  go_wp2_with (
    first
    | (refine wpLoadA row23 (by rfl) (.tmp 39) (by rfl) b3 5 (by kernel_rfl) (u8s a.bd) lba (bd_range (unhide G).ra) ?_
       refine Stp.go ?_))
  constructor
  go_wp2_with (
    first
    | (refine wpStoreBd (by rfl) (.tmp 41) (.tmp 40) (by rfl) (by rfl) bx b a.bd (by kernel_rfl) (by kernel_rfl) hb ha (unhide M) ?_
       intro W110 B110 K110
       replace G := hide ((unhide G).far K110 (unhide Z).1 (unhide Z).2.1 (unhide Z).2.2)
       replace M := hide B110
       clear B110 K110 Z
       refine Stp.go ?_))
  constructor
  go_wp2_with (
    first
    | (refine wpLoadA row25 (by rfl) (.tmp 11) (by rfl) bx 0 (by kernel_rfl) (recC (withBd b a.bd)) lx (unhide M).range ?_
       refine Stp.go ?_))
  constructor
  go_wp2_with (
    first
    | (refine wpLoadA row25 (by rfl) (.tmp 3) (by rfl) b3 0 (by kernel_rfl) (recC a) la (unhide G).ra.range ?_
       refine Stp.go ?_))
  constructor
  go_wp2_with (
    first
    | (refine wpNeqV 25 25 guard25 (.tmp 42) (.tmp 43) (by rfl) (by rfl) (recC (withBd b a.bd)) (recC a) (by kernel_rfl) (by kernel_rfl) false true rfl (by rw [equal25 _ (withBd b a.bd) a ha ha, unhide HD]) ?_
       refine Stp.go ?_))
  constructor
  go_wp2_with (
    first
    | (refine wpLoadG row29 (.tmp 46) (by rfl) (by kernel_rfl) b7 0 (by kernel_rfl) (u8s S0) l64S0 (pair_l (unhide G).s) ?_
       refine Stp.go ?_))
  constructor
  go_wp2_with (
    first
    | (refine wpLoadG row29 (.tmp 48) (by rfl) (by kernel_rfl) b9 64 (by kernel_rfl) (u8s T1) l64T1 (pair_r hT0 (unhide G).t) ?_
       refine Stp.go ?_))
  constructor
  go_wp2_with (
    first
    | (go_at_call 18
       refine (unhide H18a _).mono ?_
       rintro e W111 ⟨rfl, K111⟩
       replace G := hide ((unhide G).step K111)
       replace M := hide ((unhide M).kept K111 (by simp))
       clear K111 H18a
       refine Stp.go ?_))
  constructor
  go_wp2_with (
    first
    | (refine wpLoadG row29 (.tmp 52) (by rfl) (by kernel_rfl) b9 0 (by kernel_rfl) (u8s T0) l64T0 (pair_l (unhide G).t) ?_
       refine Stp.go ?_))
  constructor
  go_wp2_with (
    first
    | (refine wpLoadG row29 (.tmp 54) (by rfl) (by kernel_rfl) b7 64 (by kernel_rfl) (u8s S1) l64S1 (pair_r hS0 (unhide G).s) ?_
       refine Stp.go ?_))
  constructor
  go_wp2_with (
    first
    | (go_at_call 18
       refine (unhide H18b _).mono ?_
       rintro e W112 ⟨rfl, K112⟩
       replace G := hide ((unhide G).step K112)
       replace M := hide ((unhide M).kept K112 (by simp))
       clear K112 H18b))
  go_loopw [12] (fun i wr => ∃ k : Nat, k ≤ 2 ∧ i = .int .i64 k ∧ Hid (Tv w wr b3 b4 b5 b7 b9 a b n v (S0 ++ S1) (T0 ++ T1))) (fun i _ => 2 - (intOf i).toNat)
  case atStart => exact ⟨0, by omega, rfl, G⟩
  case round =>
    clear G
    obtain ⟨k, hk2, rfl, G⟩ := hrel
    obtain rfl | rfl | rfl : k = 0 ∨ k = 1 ∨ k = 2 := by omega
    · clear hk2
      go_wp2_with (
        first
        | (refine wpLoadA row29 (by rfl) (.tmp 65) (by rfl) b7 0 (by kernel_rfl) (u8s S0) l64S0 (pair_l (unhide G).s) ?_
           refine Stp.go ?_))
      constructor
      go_wp2_with (
        first
        | (go_at_call 27
           refine (unhide H270 _).mono ?_
           rintro e W113 ⟨rfl, K113⟩
           replace G := hide ((unhide G).step K113)
           clear K113
           refine Stp.go ?_))
      constructor
      go_wp2_with (
        first
        | (refine wpNew row63 (stC 0 0 0) rfl zero63 13 (by rfl) (by rfl) (by rfl) (.tmp 68) (by rfl) (by rfl) (by rfl) (stC 0 0 0) rfl (Pg.stC_one _ _ _) (by kernel_rfl) (by kernel_rfl) ?_
           intro W114 c1 e114 B114 K114
           replace G := hide ((unhide G).step K114)
           have M1 := hide B114
           clear e114 B114 K114
           refine Stp.go ?_))
      constructor
      go_wp2_with (
        first
        | (refine wpLoadA row29 (by rfl) (.tmp 72) (by rfl) b7 0 (by kernel_rfl) (u8s S0) l64S0 (pair_l (unhide G).s) ?_
           refine Stp.go ?_))
      constructor
      go_wp2_with (
        first
        | (go_at_call 12
           refine (unhide H120 _ (unhide G).first).mono ?_
           rintro e W115 ⟨rfl, K115⟩
           replace G := hide ((unhide G).step K115)
           clear K115
           refine Stp.go ?_))
      constructor
      go_wp2_with (
        first
        | (refine wpNew row27 (hdC 0 0) rfl zero27 15 (by rfl) (by rfl) (by rfl) (.tmp 75) (by rfl) (by rfl) (by rfl) (hdC 0 0) rfl (hdC_one _ _) (by kernel_rfl) (by kernel_rfl) ?_
           intro W116 c2 e116 B116 K116
           replace G := hide ((unhide G).step K116)
           have M2 := hide B116
           clear e116 B116 K116
           refine Stp.go ?_))
      constructor
      go_wp2_with (
        first
        | (go_at_call 11; refine (num11 _ _).mono ?_; rintro e wn ⟨rfl, rfl⟩))
      go_roundw
      case rel => exact ⟨1, by omega, by go_num, G⟩
      case measure => simp [intOf]
    · clear hk2
      go_wp2_with (
        first
        | (refine wpLoadA row29 (by rfl) (.tmp 65) (by rfl) b7 64 (by kernel_rfl) (u8s S1) l64S1 (pair_r hS0 (unhide G).s) ?_
           refine Stp.go ?_))
      constructor
      go_wp2_with (
        first
        | (go_at_call 27
           refine (unhide H271 _).mono ?_
           rintro e W117 ⟨rfl, K117⟩
           replace G := hide ((unhide G).step K117)
           clear K117
           refine Stp.go ?_))
      constructor
      go_wp2_with (
        first
        | (refine wpNew row63 (stC 0 0 0) rfl zero63 13 (by rfl) (by rfl) (by rfl) (.tmp 68) (by rfl) (by rfl) (by rfl) (stC 0 0 0) rfl (Pg.stC_one _ _ _) (by kernel_rfl) (by kernel_rfl) ?_
           intro W118 c1 e118 B118 K118
           replace G := hide ((unhide G).step K118)
           have M1 := hide B118
           clear e118 B118 K118
           refine Stp.go ?_))
      constructor
      go_wp2_with (
        first
        | (refine wpLoadA row29 (by rfl) (.tmp 72) (by rfl) b7 64 (by kernel_rfl) (u8s S1) l64S1 (pair_r hS0 (unhide G).s) ?_
           refine Stp.go ?_))
      constructor
      go_wp2_with (
        first
        | (go_at_call 12
           refine (unhide H121 _ (unhide G).first).mono ?_
           rintro e W119 ⟨rfl, K119⟩
           replace G := hide ((unhide G).step K119)
           clear K119
           refine Stp.go ?_))
      constructor
      go_wp2_with (
        first
        | (refine wpNew row27 (hdC 0 0) rfl zero27 15 (by rfl) (by rfl) (by rfl) (.tmp 75) (by rfl) (by rfl) (by rfl) (hdC 0 0) rfl (hdC_one _ _) (by kernel_rfl) (by kernel_rfl) ?_
           intro W120 c2 e120 B120 K120
           replace G := hide ((unhide G).step K120)
           have M2 := hide B120
           clear e120 B120 K120
           refine Stp.go ?_))
      constructor
      go_wp2_with (
        first
        | (go_at_call 11; refine (num11 _ _).mono ?_; rintro e wn ⟨rfl, rfl⟩))
      go_roundw
      case rel => exact ⟨2, by omega, by go_num, G⟩
      case measure => simp [intOf]
    · clear hk2
      have cp := fits_cell (unhide G).ra 3 (.int .i64 a.pg) rfl
      go_wp2_with (
        first
        | (refine wpLoadA row29 (by rfl) (.tmp 85) (by rfl) b7 0 (by kernel_rfl) (u8s S0) l64S0 (pair_l (unhide G).s) ?_
           refine Stp.go ?_))
      constructor
      go_wp2_with (
        first
        | (refine wpLoadA row29 (by rfl) (.tmp 87) (by rfl) b7 64 (by kernel_rfl) (u8s S1) l64S1 (pair_r hS0 (unhide G).s) ?_
           refine Stp.go ?_))
      constructor
      go_wp2_with (
        first
        | (go_at_call 28
           refine (unhide H28 _).mono ?_
           rintro e W121 ⟨rfl, K121⟩
           replace G := hide ((unhide G).step K121)
           clear K121
           refine Stp.go ?_))
      constructor
      go_wp2_with (
        first
        | (refine wpLoadA row61 (by rfl) (.tmp 5) (by rfl) b5 0 (by kernel_rfl) (verC n v) lv (unhide G).rv.range ?_
           refine Stp.go ?_))
      constructor
      go_wp2_with (
        first
        | (go_at_call 29
           refine (unhide H29 _).mono ?_
           rintro e W122 ⟨rfl, K122⟩
           replace G := hide ((unhide G).step K122)
           have cv := fits_cell (unhide G).rv 0 (.int .i64 n) rfl
           have cp := fits_cell (unhide G).ra 3 (.int .i64 a.pg) rfl
           clear K122))
      go_ret
      exact ⟨rfl, (unhide G).kept⟩
set_option maxHeartbeats 4000000 in
set_option maxRecDepth 100000 in
theorem torn_other_zero (a b : Rec) (n : Int) (v S0 S1 T0 T1 : List Int) (ha : a.bd.length = 96) (hb : b.bd.length = 96) (hv : v.length = 96) (hS0 : S0.length = 64) (hS1 : S1.length = 64) (hT0 : T0.length = 64) (hT1 : T1.length = 64) (P8a : ∀ w, Calls Tryd.prog 8 #[aggV (recC a)] w fun e w' => e = .returned (.tuple #[aggV (u8s (S0 ++ S1)), .int .i64 0]) ∧ Kept [] w w') (P8b : ∀ w, Calls Tryd.prog 8 #[aggV (recC b)] w fun e w' => e = .returned (.tuple #[aggV (u8s (T0 ++ T1)), .int .i64 0]) ∧ Kept [] w w') (P270 : ∀ w, Calls Tryd.prog 27 #[aggV (u8s S0)] w fun e w' => e = .returned (.tuple #[aggV (stC 0 0 0), .bool false]) ∧ Kept [] w w') (P120 : ∀ w, First w → Calls Tryd.prog 12 #[aggV (u8s S0)] w fun e w' => e = .returned (.tuple #[aggV (hdC 0 0), .int .i64 12]) ∧ Kept [] w w') (P271 : ∀ w, Calls Tryd.prog 27 #[aggV (u8s S1)] w fun e w' => e = .returned (.tuple #[aggV (stC 0 0 0), .bool false]) ∧ Kept [] w w') (P121 : ∀ w, First w → Calls Tryd.prog 12 #[aggV (u8s S1)] w fun e w' => e = .returned (.tuple #[aggV (hdC 0 0), .int .i64 12]) ∧ Kept [] w w') (P28 : ∀ w, Calls Tryd.prog 28 #[.int .i64 a.pg, aggV (u8s S0), aggV (u8s S1)] w fun e w' => e = .returned (.bool false) ∧ Kept [] w w') (P29 : ∀ w, Calls Tryd.prog 29 #[aggV (verC n v)] w fun e w' => e = .returned (.bool true) ∧ Kept [] w w') (P18a : ∀ w, Calls Tryd.prog 18 #[aggV (u8s S0), aggV (u8s T1)] w fun e w' => e = .returned (.bool false) ∧ Kept [] w w') (P18b : ∀ w, Calls Tryd.prog 18 #[aggV (u8s T0), aggV (u8s S1)] w fun e w' => e = .returned (.bool false) ∧ Kept [] w w') (hn : n = 0) (hd : recEq (withBd b a.bd) a = false) (w : World) (hF : First w) : Calls Tryd.prog 6 #[aggV (recC a), aggV (recC b), aggV (verC n v)] w fun e w' => e = .returned (.bool true) ∧ Kept [] w w' := by
  subst hn
  have H8a := hide P8a
  have H8b := hide P8b
  have H270 := hide P270
  have H120 := hide P120
  have H271 := hide P271
  have H121 := hide P121
  have H28 := hide P28
  have H29 := hide P29
  have H18a := hide P18a
  have H18b := hide P18b
  have F0 := hide hF
  have KA := hide (Kept.refl [] w)
  clear hF P8a P8b P270 P120 P271 P121 P28 P29 P18a P18b
  have la := recC_len ha
  have lb := recC_len hb
  have lz : (recC zrec).length = 101 := recC_len zrec_ok.bd.len
  have lS : (u8s (S0 ++ S1)).length = 128 := by rw [u8s_len, List.length_append]; omega
  have lT : (u8s (T0 ++ T1)).length = 128 := by rw [u8s_len, List.length_append]; omega
  have HD := hide hd
  clear hd
  have lba : (u8s a.bd).length = 96 := by rw [u8s_len, ha]
  have lx : (recC (withBd b a.bd)).length = 101 := recC_len (r := withBd b a.bd) ha
  have l64S0 : (u8s S0).length = 64 := by rw [u8s_len, hS0]
  have l64S1 : (u8s S1).length = 64 := by rw [u8s_len, hS1]
  have l64T0 : (u8s T0).length = 64 := by rw [u8s_len, hT0]
  have l64T1 : (u8s T1).length = 64 := by rw [u8s_len, hT1]
  have lv : (verC 0 v).length = 97 := verC_len hv
  go_enter Tryd.func6, Tryd.ntmps6
  go_wp2_with (
    first
    | (refine wpBoxV rfl (.tmp 0) rfl (recC a) rfl ?_
       intro W101 b3 e101 B101 K101
       have A := hide B101
       replace KA := hide ((unhide KA).trans K101)
       replace F0 := hide ((unhide F0).kept K101)
       clear e101 B101 K101
       refine Stp.go ?_))
  constructor
  go_wp2_with (
    first
    | (refine wpBoxV rfl (.tmp 1) rfl (recC b) rfl ?_
       intro W102 b4 e102 B102 K102
       have B := hide B102
       replace A := hide ((unhide A).kept K102 (by simp))
       replace KA := hide ((unhide KA).trans K102)
       replace F0 := hide ((unhide F0).kept K102)
       clear e102 B102 K102
       refine Stp.go ?_))
  constructor
  go_wp2_with (
    first
    | (refine wpBoxV rfl (.tmp 2) rfl (verC 0 v) rfl ?_
       intro W103 b5 e103 B103 K103
       have V := hide B103
       replace A := hide ((unhide A).kept K103 (by simp))
       replace B := hide ((unhide B).kept K103 (by simp))
       replace KA := hide ((unhide KA).trans K103)
       replace F0 := hide ((unhide F0).kept K103)
       clear e103 B103 K103
       refine Stp.go ?_))
  constructor
  go_wp2_with (
    first
    | (go_at_call 15
       refine (known15 _ (unhide F0)).mono ?_
       rintro e W104 ⟨rfl, K104⟩
       replace F0 := hide ((unhide F0).kept K104)
       replace A := hide ((unhide A).kept K104 (by simp))
       replace B := hide ((unhide B).kept K104 (by simp))
       replace V := hide ((unhide V).kept K104 (by simp))
       replace KA := hide ((unhide KA).trans K104)
       clear K104
       refine Stp.go ?_))
  constructor
  go_wp2_with (
    first
    | (refine wpLoadA row25 (by rfl) (.tmp 3) (by rfl) b3 0 (by kernel_rfl) (recC a) la (unhide A).range ?_
       refine Stp.go ?_))
  constructor
  go_wp2_with (
    first
    | (go_at_call 8
       refine (unhide H8a _).mono ?_
       rintro e W105 ⟨rfl, K105⟩
       replace F0 := hide ((unhide F0).kept K105)
       replace A := hide ((unhide A).kept K105 (by simp))
       replace B := hide ((unhide B).kept K105 (by simp))
       replace V := hide ((unhide V).kept K105 (by simp))
       replace KA := hide ((unhide KA).trans K105)
       clear K105 H8a
       refine Stp.go ?_))
  constructor
  go_wp2_with (
    first
    | (refine wpNew row30 (u8s (zs 128)) (by rw [u8s_len]; simp [zs]) zero30 7 (by rfl) (by rfl) (by rfl) (.tmp 25) (by rfl) (by rfl) (by rfl) (u8s (S0 ++ S1)) lS (u8s_one _) (by kernel_rfl) (by kernel_rfl) ?_
       intro W106 b7 e106 B106 K106
       replace F0 := hide ((unhide F0).kept K106)
       replace A := hide ((unhide A).kept K106 (by simp))
       replace B := hide ((unhide B).kept K106 (by simp))
       replace V := hide ((unhide V).kept K106 (by simp))
       replace KA := hide ((unhide KA).trans K106)
       have S := hide B106
       clear e106 B106 K106
       refine Stp.go ?_))
  constructor
  go_wp2_with (
    first
    | (refine wpLoadA row25 (by rfl) (.tmp 4) (by rfl) b4 0 (by kernel_rfl) (recC b) lb (unhide B).range ?_
       refine Stp.go ?_))
  constructor
  go_wp2_with (
    first
    | (go_at_call 8
       refine (unhide H8b _).mono ?_
       rintro e W107 ⟨rfl, K107⟩
       replace F0 := hide ((unhide F0).kept K107)
       replace A := hide ((unhide A).kept K107 (by simp))
       replace B := hide ((unhide B).kept K107 (by simp))
       replace V := hide ((unhide V).kept K107 (by simp))
       replace S := hide ((unhide S).kept K107 (by simp))
       replace KA := hide ((unhide KA).trans K107)
       clear K107 H8b
       refine Stp.go ?_))
  constructor
  go_wp2_with (
    first
    | (refine wpNew row30 (u8s (zs 128)) (by rw [u8s_len]; simp [zs]) zero30 9 (by rfl) (by rfl) (by rfl) (.tmp 30) (by rfl) (by rfl) (by rfl) (u8s (T0 ++ T1)) lT (u8s_one _) (by kernel_rfl) (by kernel_rfl) ?_
       intro W108 b9 e108 B108 K108
       have G : Hid (Tv w W108 b3 b4 b5 b7 b9 a b 0 v (S0 ++ S1) (T0 ++ T1)) := ⟨(unhide A).kept K108 (by simp), (unhide B).kept K108 (by simp), (unhide V).kept K108 (by simp), (unhide S).kept K108 (by simp), B108, (unhide F0).kept K108, (unhide KA).trans K108⟩
       clear e108 B108 K108 A B V S F0 KA
       refine Stp.go ?_))
  constructor
  go_wp2_with (
    first
    | (go_at_call 11; refine (num11 _ _).mono ?_; rintro e wn ⟨rfl, rfl⟩
       refine Stp.go ?_))
  constructor
  go_wp2_with (
    first
    | (go_at_call 11; refine (num11 _ _).mono ?_; rintro e wn ⟨rfl, rfl⟩
       refine Stp.go ?_))
  constructor
  go_wp2_with (
    first
    | (refine wpLoadA row25 (by rfl) (.tmp 4) (by rfl) b4 0 (by kernel_rfl) (recC b) lb (unhide G).rb.range ?_
       refine Stp.go ?_))
  constructor
  go_wp2_with (
    first
    | (refine wpNew row25 (recC zrec) lz zero25 11 (by rfl) (by rfl) (by rfl) (.tmp 38) (by rfl) (by rfl) (by rfl) (recC b) lb (recC_one _) (by kernel_rfl) (by kernel_rfl) ?_
       intro W123 bx e123 B123 K123
       have Z := hide ((unhide G).apart e123)
       replace G := hide ((unhide G).step K123)
       have M := hide B123
       clear e123 B123 K123
       refine Stp.go ?_))
  constructor
  go_wp2_with (
    first
    | (refine wpLoadA row23 (by rfl) (.tmp 39) (by rfl) b3 5 (by kernel_rfl) (u8s a.bd) lba (bd_range (unhide G).ra) ?_
       refine Stp.go ?_))
  constructor
  go_wp2_with (
    first
    | (refine wpStoreBd (by rfl) (.tmp 41) (.tmp 40) (by rfl) (by rfl) bx b a.bd (by kernel_rfl) (by kernel_rfl) hb ha (unhide M) ?_
       intro W124 B124 K124
       replace G := hide ((unhide G).far K124 (unhide Z).1 (unhide Z).2.1 (unhide Z).2.2)
       replace M := hide B124
       clear B124 K124 Z
       refine Stp.go ?_))
  constructor
  go_wp2_with (
    first
    | (refine wpLoadA row25 (by rfl) (.tmp 11) (by rfl) bx 0 (by kernel_rfl) (recC (withBd b a.bd)) lx (unhide M).range ?_
       refine Stp.go ?_))
  constructor
  go_wp2_with (
    first
    | (refine wpLoadA row25 (by rfl) (.tmp 3) (by rfl) b3 0 (by kernel_rfl) (recC a) la (unhide G).ra.range ?_
       refine Stp.go ?_))
  constructor
  go_wp2_with (
    first
    | (refine wpNeqV 25 25 guard25 (.tmp 42) (.tmp 43) (by rfl) (by rfl) (recC (withBd b a.bd)) (recC a) (by kernel_rfl) (by kernel_rfl) false true rfl (by rw [equal25 _ (withBd b a.bd) a ha ha, unhide HD]) ?_
       refine Stp.go ?_))
  constructor
  go_wp2_with (
    first
    | (refine wpLoadG row29 (.tmp 46) (by rfl) (by kernel_rfl) b7 0 (by kernel_rfl) (u8s S0) l64S0 (pair_l (unhide G).s) ?_
       refine Stp.go ?_))
  constructor
  go_wp2_with (
    first
    | (refine wpLoadG row29 (.tmp 48) (by rfl) (by kernel_rfl) b9 64 (by kernel_rfl) (u8s T1) l64T1 (pair_r hT0 (unhide G).t) ?_
       refine Stp.go ?_))
  constructor
  go_wp2_with (
    first
    | (go_at_call 18
       refine (unhide H18a _).mono ?_
       rintro e W125 ⟨rfl, K125⟩
       replace G := hide ((unhide G).step K125)
       replace M := hide ((unhide M).kept K125 (by simp))
       clear K125 H18a
       refine Stp.go ?_))
  constructor
  go_wp2_with (
    first
    | (refine wpLoadG row29 (.tmp 52) (by rfl) (by kernel_rfl) b9 0 (by kernel_rfl) (u8s T0) l64T0 (pair_l (unhide G).t) ?_
       refine Stp.go ?_))
  constructor
  go_wp2_with (
    first
    | (refine wpLoadG row29 (.tmp 54) (by rfl) (by kernel_rfl) b7 64 (by kernel_rfl) (u8s S1) l64S1 (pair_r hS0 (unhide G).s) ?_
       refine Stp.go ?_))
  constructor
  go_wp2_with (
    first
    | (go_at_call 18
       refine (unhide H18b _).mono ?_
       rintro e W126 ⟨rfl, K126⟩
       replace G := hide ((unhide G).step K126)
       replace M := hide ((unhide M).kept K126 (by simp))
       clear K126 H18b))
  go_loopw [12] (fun i wr => ∃ k : Nat, k ≤ 2 ∧ i = .int .i64 k ∧ Hid (Tv w wr b3 b4 b5 b7 b9 a b 0 v (S0 ++ S1) (T0 ++ T1))) (fun i _ => 2 - (intOf i).toNat)
  case atStart => exact ⟨0, by omega, rfl, G⟩
  case round =>
    clear G
    obtain ⟨k, hk2, rfl, G⟩ := hrel
    obtain rfl | rfl | rfl : k = 0 ∨ k = 1 ∨ k = 2 := by omega
    · clear hk2
      go_wp2_with (
        first
        | (refine wpLoadA row29 (by rfl) (.tmp 65) (by rfl) b7 0 (by kernel_rfl) (u8s S0) l64S0 (pair_l (unhide G).s) ?_
           refine Stp.go ?_))
      constructor
      go_wp2_with (
        first
        | (go_at_call 27
           refine (unhide H270 _).mono ?_
           rintro e W127 ⟨rfl, K127⟩
           replace G := hide ((unhide G).step K127)
           clear K127
           refine Stp.go ?_))
      constructor
      go_wp2_with (
        first
        | (refine wpNew row63 (stC 0 0 0) rfl zero63 13 (by rfl) (by rfl) (by rfl) (.tmp 68) (by rfl) (by rfl) (by rfl) (stC 0 0 0) rfl (Pg.stC_one _ _ _) (by kernel_rfl) (by kernel_rfl) ?_
           intro W128 c1 e128 B128 K128
           replace G := hide ((unhide G).step K128)
           have M1 := hide B128
           clear e128 B128 K128
           refine Stp.go ?_))
      constructor
      go_wp2_with (
        first
        | (refine wpLoadA row29 (by rfl) (.tmp 72) (by rfl) b7 0 (by kernel_rfl) (u8s S0) l64S0 (pair_l (unhide G).s) ?_
           refine Stp.go ?_))
      constructor
      go_wp2_with (
        first
        | (go_at_call 12
           refine (unhide H120 _ (unhide G).first).mono ?_
           rintro e W129 ⟨rfl, K129⟩
           replace G := hide ((unhide G).step K129)
           clear K129
           refine Stp.go ?_))
      constructor
      go_wp2_with (
        first
        | (refine wpNew row27 (hdC 0 0) rfl zero27 15 (by rfl) (by rfl) (by rfl) (.tmp 75) (by rfl) (by rfl) (by rfl) (hdC 0 0) rfl (hdC_one _ _) (by kernel_rfl) (by kernel_rfl) ?_
           intro W130 c2 e130 B130 K130
           replace G := hide ((unhide G).step K130)
           have M2 := hide B130
           clear e130 B130 K130
           refine Stp.go ?_))
      constructor
      go_wp2_with (
        first
        | (go_at_call 11; refine (num11 _ _).mono ?_; rintro e wn ⟨rfl, rfl⟩))
      go_roundw
      case rel => exact ⟨1, by omega, by go_num, G⟩
      case measure => simp [intOf]
    · clear hk2
      go_wp2_with (
        first
        | (refine wpLoadA row29 (by rfl) (.tmp 65) (by rfl) b7 64 (by kernel_rfl) (u8s S1) l64S1 (pair_r hS0 (unhide G).s) ?_
           refine Stp.go ?_))
      constructor
      go_wp2_with (
        first
        | (go_at_call 27
           refine (unhide H271 _).mono ?_
           rintro e W131 ⟨rfl, K131⟩
           replace G := hide ((unhide G).step K131)
           clear K131
           refine Stp.go ?_))
      constructor
      go_wp2_with (
        first
        | (refine wpNew row63 (stC 0 0 0) rfl zero63 13 (by rfl) (by rfl) (by rfl) (.tmp 68) (by rfl) (by rfl) (by rfl) (stC 0 0 0) rfl (Pg.stC_one _ _ _) (by kernel_rfl) (by kernel_rfl) ?_
           intro W132 c1 e132 B132 K132
           replace G := hide ((unhide G).step K132)
           have M1 := hide B132
           clear e132 B132 K132
           refine Stp.go ?_))
      constructor
      go_wp2_with (
        first
        | (refine wpLoadA row29 (by rfl) (.tmp 72) (by rfl) b7 64 (by kernel_rfl) (u8s S1) l64S1 (pair_r hS0 (unhide G).s) ?_
           refine Stp.go ?_))
      constructor
      go_wp2_with (
        first
        | (go_at_call 12
           refine (unhide H121 _ (unhide G).first).mono ?_
           rintro e W133 ⟨rfl, K133⟩
           replace G := hide ((unhide G).step K133)
           clear K133
           refine Stp.go ?_))
      constructor
      go_wp2_with (
        first
        | (refine wpNew row27 (hdC 0 0) rfl zero27 15 (by rfl) (by rfl) (by rfl) (.tmp 75) (by rfl) (by rfl) (by rfl) (hdC 0 0) rfl (hdC_one _ _) (by kernel_rfl) (by kernel_rfl) ?_
           intro W134 c2 e134 B134 K134
           replace G := hide ((unhide G).step K134)
           have M2 := hide B134
           clear e134 B134 K134
           refine Stp.go ?_))
      constructor
      go_wp2_with (
        first
        | (go_at_call 11; refine (num11 _ _).mono ?_; rintro e wn ⟨rfl, rfl⟩))
      go_roundw
      case rel => exact ⟨2, by omega, by go_num, G⟩
      case measure => simp [intOf]
    · clear hk2
      have cp := fits_cell (unhide G).ra 3 (.int .i64 a.pg) rfl
      go_wp2_with (
        first
        | (refine wpLoadA row29 (by rfl) (.tmp 85) (by rfl) b7 0 (by kernel_rfl) (u8s S0) l64S0 (pair_l (unhide G).s) ?_
           refine Stp.go ?_))
      constructor
      go_wp2_with (
        first
        | (refine wpLoadA row29 (by rfl) (.tmp 87) (by rfl) b7 64 (by kernel_rfl) (u8s S1) l64S1 (pair_r hS0 (unhide G).s) ?_
           refine Stp.go ?_))
      constructor
      go_wp2_with (
        first
        | (go_at_call 28
           refine (unhide H28 _).mono ?_
           rintro e W135 ⟨rfl, K135⟩
           replace G := hide ((unhide G).step K135)
           clear K135
           refine Stp.go ?_))
      constructor
      go_wp2_with (
        first
        | (refine wpLoadA row61 (by rfl) (.tmp 5) (by rfl) b5 0 (by kernel_rfl) (verC 0 v) lv (unhide G).rv.range ?_
           refine Stp.go ?_))
      constructor
      go_wp2_with (
        first
        | (go_at_call 29
           refine (unhide H29 _).mono ?_
           rintro e W136 ⟨rfl, K136⟩
           replace G := hide ((unhide G).step K136)
           have cv := fits_cell (unhide G).rv 0 (.int .i64 0) rfl
           have cp := fits_cell (unhide G).ra 3 (.int .i64 a.pg) rfl
           clear K136))
      go_ret
      exact ⟨rfl, (unhide G).kept⟩
set_option maxHeartbeats 4000000 in
set_option maxRecDepth 100000 in
theorem torn_other_yes (a b : Rec) (n : Int) (v S0 S1 T0 T1 : List Int) (ha : a.bd.length = 96) (hb : b.bd.length = 96) (hv : v.length = 96) (hS0 : S0.length = 64) (hS1 : S1.length = 64) (hT0 : T0.length = 64) (hT1 : T1.length = 64) (P8a : ∀ w, Calls Tryd.prog 8 #[aggV (recC a)] w fun e w' => e = .returned (.tuple #[aggV (u8s (S0 ++ S1)), .int .i64 0]) ∧ Kept [] w w') (P8b : ∀ w, Calls Tryd.prog 8 #[aggV (recC b)] w fun e w' => e = .returned (.tuple #[aggV (u8s (T0 ++ T1)), .int .i64 0]) ∧ Kept [] w w') (P270 : ∀ w, Calls Tryd.prog 27 #[aggV (u8s S0)] w fun e w' => e = .returned (.tuple #[aggV (stC 0 0 0), .bool false]) ∧ Kept [] w w') (P120 : ∀ w, First w → Calls Tryd.prog 12 #[aggV (u8s S0)] w fun e w' => e = .returned (.tuple #[aggV (hdC 0 0), .int .i64 12]) ∧ Kept [] w w') (P271 : ∀ w, Calls Tryd.prog 27 #[aggV (u8s S1)] w fun e w' => e = .returned (.tuple #[aggV (stC 0 0 0), .bool false]) ∧ Kept [] w w') (P121 : ∀ w, First w → Calls Tryd.prog 12 #[aggV (u8s S1)] w fun e w' => e = .returned (.tuple #[aggV (hdC 0 0), .int .i64 12]) ∧ Kept [] w w') (P28 : ∀ w, Calls Tryd.prog 28 #[.int .i64 a.pg, aggV (u8s S0), aggV (u8s S1)] w fun e w' => e = .returned (.bool false) ∧ Kept [] w w') (P29 : ∀ w, Calls Tryd.prog 29 #[aggV (verC n v)] w fun e w' => e = .returned (.bool true) ∧ Kept [] w w') (P18a : ∀ w, Calls Tryd.prog 18 #[aggV (u8s S0), aggV (u8s T1)] w fun e w' => e = .returned (.bool false) ∧ Kept [] w w') (P18b : ∀ w, Calls Tryd.prog 18 #[aggV (u8s T0), aggV (u8s S1)] w fun e w' => e = .returned (.bool false) ∧ Kept [] w w') (hn : ¬ n = 0) (X Y : List Int) (P30a : ∀ w, Calls Tryd.prog 30 #[.int .i64 a.pg, aggV (verC n v), .int .i64 0] w fun e w' => e = .returned (aggV (u8s X)) ∧ Kept [] w w') (P30b : ∀ w, Calls Tryd.prog 30 #[.int .i64 a.pg, aggV (verC n v), .int .i64 1] w fun e w' => e = .returned (aggV (u8s Y)) ∧ Kept [] w w') (P20 : ∀ w, Calls Tryd.prog 20 #[aggV (u8s X)] w fun e w' => e = .returned (.tuple #[aggV (recC zrec), .int .i64 0, .bool false]) ∧ Kept [] w w') (P18c : ∀ w, Calls Tryd.prog 18 #[aggV (u8s X), aggV (u8s Y)] w fun e w' => e = .returned (.bool false) ∧ Kept [] w w') (hd : recEq (withBd b a.bd) a = false) (w : World) (hF : First w) : Calls Tryd.prog 6 #[aggV (recC a), aggV (recC b), aggV (verC n v)] w fun e w' => e = .returned (.bool true) ∧ Kept [] w w' := by
  have H8a := hide P8a
  have H8b := hide P8b
  have H270 := hide P270
  have H120 := hide P120
  have H271 := hide P271
  have H121 := hide P121
  have H28 := hide P28
  have H29 := hide P29
  have H18a := hide P18a
  have H18b := hide P18b
  have H30a := hide P30a
  have H30b := hide P30b
  have H20 := hide P20
  have H18c := hide P18c
  have F0 := hide hF
  have KA := hide (Kept.refl [] w)
  clear hF P8a P8b P270 P120 P271 P121 P28 P29 P18a P18b P30a P30b P20 P18c
  have la := recC_len ha
  have lb := recC_len hb
  have lz : (recC zrec).length = 101 := recC_len zrec_ok.bd.len
  have lS : (u8s (S0 ++ S1)).length = 128 := by rw [u8s_len, List.length_append]; omega
  have lT : (u8s (T0 ++ T1)).length = 128 := by rw [u8s_len, List.length_append]; omega
  have HD := hide hd
  clear hd
  have lba : (u8s a.bd).length = 96 := by rw [u8s_len, ha]
  have lx : (recC (withBd b a.bd)).length = 101 := recC_len (r := withBd b a.bd) ha
  have l64S0 : (u8s S0).length = 64 := by rw [u8s_len, hS0]
  have l64S1 : (u8s S1).length = 64 := by rw [u8s_len, hS1]
  have l64T0 : (u8s T0).length = 64 := by rw [u8s_len, hT0]
  have l64T1 : (u8s T1).length = 64 := by rw [u8s_len, hT1]
  have lv : (verC n v).length = 97 := verC_len hv
  go_enter Tryd.func6, Tryd.ntmps6
  go_wp2_with (
    first
    | (refine wpBoxV rfl (.tmp 0) rfl (recC a) rfl ?_
       intro W101 b3 e101 B101 K101
       have A := hide B101
       replace KA := hide ((unhide KA).trans K101)
       replace F0 := hide ((unhide F0).kept K101)
       clear e101 B101 K101
       refine Stp.go ?_))
  constructor
  go_wp2_with (
    first
    | (refine wpBoxV rfl (.tmp 1) rfl (recC b) rfl ?_
       intro W102 b4 e102 B102 K102
       have B := hide B102
       replace A := hide ((unhide A).kept K102 (by simp))
       replace KA := hide ((unhide KA).trans K102)
       replace F0 := hide ((unhide F0).kept K102)
       clear e102 B102 K102
       refine Stp.go ?_))
  constructor
  go_wp2_with (
    first
    | (refine wpBoxV rfl (.tmp 2) rfl (verC n v) rfl ?_
       intro W103 b5 e103 B103 K103
       have V := hide B103
       replace A := hide ((unhide A).kept K103 (by simp))
       replace B := hide ((unhide B).kept K103 (by simp))
       replace KA := hide ((unhide KA).trans K103)
       replace F0 := hide ((unhide F0).kept K103)
       clear e103 B103 K103
       refine Stp.go ?_))
  constructor
  go_wp2_with (
    first
    | (go_at_call 15
       refine (known15 _ (unhide F0)).mono ?_
       rintro e W104 ⟨rfl, K104⟩
       replace F0 := hide ((unhide F0).kept K104)
       replace A := hide ((unhide A).kept K104 (by simp))
       replace B := hide ((unhide B).kept K104 (by simp))
       replace V := hide ((unhide V).kept K104 (by simp))
       replace KA := hide ((unhide KA).trans K104)
       clear K104
       refine Stp.go ?_))
  constructor
  go_wp2_with (
    first
    | (refine wpLoadA row25 (by rfl) (.tmp 3) (by rfl) b3 0 (by kernel_rfl) (recC a) la (unhide A).range ?_
       refine Stp.go ?_))
  constructor
  go_wp2_with (
    first
    | (go_at_call 8
       refine (unhide H8a _).mono ?_
       rintro e W105 ⟨rfl, K105⟩
       replace F0 := hide ((unhide F0).kept K105)
       replace A := hide ((unhide A).kept K105 (by simp))
       replace B := hide ((unhide B).kept K105 (by simp))
       replace V := hide ((unhide V).kept K105 (by simp))
       replace KA := hide ((unhide KA).trans K105)
       clear K105 H8a
       refine Stp.go ?_))
  constructor
  go_wp2_with (
    first
    | (refine wpNew row30 (u8s (zs 128)) (by rw [u8s_len]; simp [zs]) zero30 7 (by rfl) (by rfl) (by rfl) (.tmp 25) (by rfl) (by rfl) (by rfl) (u8s (S0 ++ S1)) lS (u8s_one _) (by kernel_rfl) (by kernel_rfl) ?_
       intro W106 b7 e106 B106 K106
       replace F0 := hide ((unhide F0).kept K106)
       replace A := hide ((unhide A).kept K106 (by simp))
       replace B := hide ((unhide B).kept K106 (by simp))
       replace V := hide ((unhide V).kept K106 (by simp))
       replace KA := hide ((unhide KA).trans K106)
       have S := hide B106
       clear e106 B106 K106
       refine Stp.go ?_))
  constructor
  go_wp2_with (
    first
    | (refine wpLoadA row25 (by rfl) (.tmp 4) (by rfl) b4 0 (by kernel_rfl) (recC b) lb (unhide B).range ?_
       refine Stp.go ?_))
  constructor
  go_wp2_with (
    first
    | (go_at_call 8
       refine (unhide H8b _).mono ?_
       rintro e W107 ⟨rfl, K107⟩
       replace F0 := hide ((unhide F0).kept K107)
       replace A := hide ((unhide A).kept K107 (by simp))
       replace B := hide ((unhide B).kept K107 (by simp))
       replace V := hide ((unhide V).kept K107 (by simp))
       replace S := hide ((unhide S).kept K107 (by simp))
       replace KA := hide ((unhide KA).trans K107)
       clear K107 H8b
       refine Stp.go ?_))
  constructor
  go_wp2_with (
    first
    | (refine wpNew row30 (u8s (zs 128)) (by rw [u8s_len]; simp [zs]) zero30 9 (by rfl) (by rfl) (by rfl) (.tmp 30) (by rfl) (by rfl) (by rfl) (u8s (T0 ++ T1)) lT (u8s_one _) (by kernel_rfl) (by kernel_rfl) ?_
       intro W108 b9 e108 B108 K108
       have G : Hid (Tv w W108 b3 b4 b5 b7 b9 a b n v (S0 ++ S1) (T0 ++ T1)) := ⟨(unhide A).kept K108 (by simp), (unhide B).kept K108 (by simp), (unhide V).kept K108 (by simp), (unhide S).kept K108 (by simp), B108, (unhide F0).kept K108, (unhide KA).trans K108⟩
       clear e108 B108 K108 A B V S F0 KA
       refine Stp.go ?_))
  constructor
  go_wp2_with (
    first
    | (go_at_call 11; refine (num11 _ _).mono ?_; rintro e wn ⟨rfl, rfl⟩
       refine Stp.go ?_))
  constructor
  go_wp2_with (
    first
    | (go_at_call 11; refine (num11 _ _).mono ?_; rintro e wn ⟨rfl, rfl⟩
       refine Stp.go ?_))
  constructor
  go_wp2_with (
    first
    | (refine wpLoadA row25 (by rfl) (.tmp 4) (by rfl) b4 0 (by kernel_rfl) (recC b) lb (unhide G).rb.range ?_
       refine Stp.go ?_))
  constructor
  go_wp2_with (
    first
    | (refine wpNew row25 (recC zrec) lz zero25 11 (by rfl) (by rfl) (by rfl) (.tmp 38) (by rfl) (by rfl) (by rfl) (recC b) lb (recC_one _) (by kernel_rfl) (by kernel_rfl) ?_
       intro W137 bx e137 B137 K137
       have Z := hide ((unhide G).apart e137)
       replace G := hide ((unhide G).step K137)
       have M := hide B137
       clear e137 B137 K137
       refine Stp.go ?_))
  constructor
  go_wp2_with (
    first
    | (refine wpLoadA row23 (by rfl) (.tmp 39) (by rfl) b3 5 (by kernel_rfl) (u8s a.bd) lba (bd_range (unhide G).ra) ?_
       refine Stp.go ?_))
  constructor
  go_wp2_with (
    first
    | (refine wpStoreBd (by rfl) (.tmp 41) (.tmp 40) (by rfl) (by rfl) bx b a.bd (by kernel_rfl) (by kernel_rfl) hb ha (unhide M) ?_
       intro W138 B138 K138
       replace G := hide ((unhide G).far K138 (unhide Z).1 (unhide Z).2.1 (unhide Z).2.2)
       replace M := hide B138
       clear B138 K138 Z
       refine Stp.go ?_))
  constructor
  go_wp2_with (
    first
    | (refine wpLoadA row25 (by rfl) (.tmp 11) (by rfl) bx 0 (by kernel_rfl) (recC (withBd b a.bd)) lx (unhide M).range ?_
       refine Stp.go ?_))
  constructor
  go_wp2_with (
    first
    | (refine wpLoadA row25 (by rfl) (.tmp 3) (by rfl) b3 0 (by kernel_rfl) (recC a) la (unhide G).ra.range ?_
       refine Stp.go ?_))
  constructor
  go_wp2_with (
    first
    | (refine wpNeqV 25 25 guard25 (.tmp 42) (.tmp 43) (by rfl) (by rfl) (recC (withBd b a.bd)) (recC a) (by kernel_rfl) (by kernel_rfl) false true rfl (by rw [equal25 _ (withBd b a.bd) a ha ha, unhide HD]) ?_
       refine Stp.go ?_))
  constructor
  go_wp2_with (
    first
    | (refine wpLoadG row29 (.tmp 46) (by rfl) (by kernel_rfl) b7 0 (by kernel_rfl) (u8s S0) l64S0 (pair_l (unhide G).s) ?_
       refine Stp.go ?_))
  constructor
  go_wp2_with (
    first
    | (refine wpLoadG row29 (.tmp 48) (by rfl) (by kernel_rfl) b9 64 (by kernel_rfl) (u8s T1) l64T1 (pair_r hT0 (unhide G).t) ?_
       refine Stp.go ?_))
  constructor
  go_wp2_with (
    first
    | (go_at_call 18
       refine (unhide H18a _).mono ?_
       rintro e W139 ⟨rfl, K139⟩
       replace G := hide ((unhide G).step K139)
       replace M := hide ((unhide M).kept K139 (by simp))
       clear K139 H18a
       refine Stp.go ?_))
  constructor
  go_wp2_with (
    first
    | (refine wpLoadG row29 (.tmp 52) (by rfl) (by kernel_rfl) b9 0 (by kernel_rfl) (u8s T0) l64T0 (pair_l (unhide G).t) ?_
       refine Stp.go ?_))
  constructor
  go_wp2_with (
    first
    | (refine wpLoadG row29 (.tmp 54) (by rfl) (by kernel_rfl) b7 64 (by kernel_rfl) (u8s S1) l64S1 (pair_r hS0 (unhide G).s) ?_
       refine Stp.go ?_))
  constructor
  go_wp2_with (
    first
    | (go_at_call 18
       refine (unhide H18b _).mono ?_
       rintro e W140 ⟨rfl, K140⟩
       replace G := hide ((unhide G).step K140)
       replace M := hide ((unhide M).kept K140 (by simp))
       clear K140 H18b))
  go_loopw [12] (fun i wr => ∃ k : Nat, k ≤ 2 ∧ i = .int .i64 k ∧ Hid (Tv w wr b3 b4 b5 b7 b9 a b n v (S0 ++ S1) (T0 ++ T1))) (fun i _ => 2 - (intOf i).toNat)
  case atStart => exact ⟨0, by omega, rfl, G⟩
  case round =>
    clear G
    obtain ⟨k, hk2, rfl, G⟩ := hrel
    obtain rfl | rfl | rfl : k = 0 ∨ k = 1 ∨ k = 2 := by omega
    · clear hk2
      go_wp2_with (
        first
        | (refine wpLoadA row29 (by rfl) (.tmp 65) (by rfl) b7 0 (by kernel_rfl) (u8s S0) l64S0 (pair_l (unhide G).s) ?_
           refine Stp.go ?_))
      constructor
      go_wp2_with (
        first
        | (go_at_call 27
           refine (unhide H270 _).mono ?_
           rintro e W141 ⟨rfl, K141⟩
           replace G := hide ((unhide G).step K141)
           clear K141
           refine Stp.go ?_))
      constructor
      go_wp2_with (
        first
        | (refine wpNew row63 (stC 0 0 0) rfl zero63 13 (by rfl) (by rfl) (by rfl) (.tmp 68) (by rfl) (by rfl) (by rfl) (stC 0 0 0) rfl (Pg.stC_one _ _ _) (by kernel_rfl) (by kernel_rfl) ?_
           intro W142 c1 e142 B142 K142
           replace G := hide ((unhide G).step K142)
           have M1 := hide B142
           clear e142 B142 K142
           refine Stp.go ?_))
      constructor
      go_wp2_with (
        first
        | (refine wpLoadA row29 (by rfl) (.tmp 72) (by rfl) b7 0 (by kernel_rfl) (u8s S0) l64S0 (pair_l (unhide G).s) ?_
           refine Stp.go ?_))
      constructor
      go_wp2_with (
        first
        | (go_at_call 12
           refine (unhide H120 _ (unhide G).first).mono ?_
           rintro e W143 ⟨rfl, K143⟩
           replace G := hide ((unhide G).step K143)
           clear K143
           refine Stp.go ?_))
      constructor
      go_wp2_with (
        first
        | (refine wpNew row27 (hdC 0 0) rfl zero27 15 (by rfl) (by rfl) (by rfl) (.tmp 75) (by rfl) (by rfl) (by rfl) (hdC 0 0) rfl (hdC_one _ _) (by kernel_rfl) (by kernel_rfl) ?_
           intro W144 c2 e144 B144 K144
           replace G := hide ((unhide G).step K144)
           have M2 := hide B144
           clear e144 B144 K144
           refine Stp.go ?_))
      constructor
      go_wp2_with (
        first
        | (go_at_call 11; refine (num11 _ _).mono ?_; rintro e wn ⟨rfl, rfl⟩))
      go_roundw
      case rel => exact ⟨1, by omega, by go_num, G⟩
      case measure => simp [intOf]
    · clear hk2
      go_wp2_with (
        first
        | (refine wpLoadA row29 (by rfl) (.tmp 65) (by rfl) b7 64 (by kernel_rfl) (u8s S1) l64S1 (pair_r hS0 (unhide G).s) ?_
           refine Stp.go ?_))
      constructor
      go_wp2_with (
        first
        | (go_at_call 27
           refine (unhide H271 _).mono ?_
           rintro e W145 ⟨rfl, K145⟩
           replace G := hide ((unhide G).step K145)
           clear K145
           refine Stp.go ?_))
      constructor
      go_wp2_with (
        first
        | (refine wpNew row63 (stC 0 0 0) rfl zero63 13 (by rfl) (by rfl) (by rfl) (.tmp 68) (by rfl) (by rfl) (by rfl) (stC 0 0 0) rfl (Pg.stC_one _ _ _) (by kernel_rfl) (by kernel_rfl) ?_
           intro W146 c1 e146 B146 K146
           replace G := hide ((unhide G).step K146)
           have M1 := hide B146
           clear e146 B146 K146
           refine Stp.go ?_))
      constructor
      go_wp2_with (
        first
        | (refine wpLoadA row29 (by rfl) (.tmp 72) (by rfl) b7 64 (by kernel_rfl) (u8s S1) l64S1 (pair_r hS0 (unhide G).s) ?_
           refine Stp.go ?_))
      constructor
      go_wp2_with (
        first
        | (go_at_call 12
           refine (unhide H121 _ (unhide G).first).mono ?_
           rintro e W147 ⟨rfl, K147⟩
           replace G := hide ((unhide G).step K147)
           clear K147
           refine Stp.go ?_))
      constructor
      go_wp2_with (
        first
        | (refine wpNew row27 (hdC 0 0) rfl zero27 15 (by rfl) (by rfl) (by rfl) (.tmp 75) (by rfl) (by rfl) (by rfl) (hdC 0 0) rfl (hdC_one _ _) (by kernel_rfl) (by kernel_rfl) ?_
           intro W148 c2 e148 B148 K148
           replace G := hide ((unhide G).step K148)
           have M2 := hide B148
           clear e148 B148 K148
           refine Stp.go ?_))
      constructor
      go_wp2_with (
        first
        | (go_at_call 11; refine (num11 _ _).mono ?_; rintro e wn ⟨rfl, rfl⟩))
      go_roundw
      case rel => exact ⟨2, by omega, by go_num, G⟩
      case measure => simp [intOf]
    · clear hk2
      have cp := fits_cell (unhide G).ra 3 (.int .i64 a.pg) rfl
      go_wp2_with (
        first
        | (refine wpLoadA row29 (by rfl) (.tmp 85) (by rfl) b7 0 (by kernel_rfl) (u8s S0) l64S0 (pair_l (unhide G).s) ?_
           refine Stp.go ?_))
      constructor
      go_wp2_with (
        first
        | (refine wpLoadA row29 (by rfl) (.tmp 87) (by rfl) b7 64 (by kernel_rfl) (u8s S1) l64S1 (pair_r hS0 (unhide G).s) ?_
           refine Stp.go ?_))
      constructor
      go_wp2_with (
        first
        | (go_at_call 28
           refine (unhide H28 _).mono ?_
           rintro e W149 ⟨rfl, K149⟩
           replace G := hide ((unhide G).step K149)
           clear K149
           refine Stp.go ?_))
      constructor
      go_wp2_with (
        first
        | (refine wpLoadA row61 (by rfl) (.tmp 5) (by rfl) b5 0 (by kernel_rfl) (verC n v) lv (unhide G).rv.range ?_
           refine Stp.go ?_))
      constructor
      go_wp2_with (
        first
        | (go_at_call 29
           refine (unhide H29 _).mono ?_
           rintro e W150 ⟨rfl, K150⟩
           replace G := hide ((unhide G).step K150)
           have cv := fits_cell (unhide G).rv 0 (.int .i64 n) rfl
           have cp := fits_cell (unhide G).ra 3 (.int .i64 a.pg) rfl
           clear K150
           refine Stp.go ?_))
      constructor
      go_wp2_with (
        first
        | (refine wpLoadA row61 (by rfl) (.tmp 5) (by rfl) b5 0 (by kernel_rfl) (verC n v) lv (unhide G).rv.range ?_
           refine Stp.go ?_))
      constructor
      go_wp2_with (
        first
        | (go_at_call 30
           refine (unhide H30a _).mono ?_
           rintro e W151 ⟨rfl, K151⟩
           replace G := hide ((unhide G).step K151)
           clear K151 cv cp
           refine Stp.go ?_))
      constructor
      go_wp2_with (
        first
        | (go_at_call 20
           refine (unhide H20 _).mono ?_
           rintro e W152 ⟨rfl, K152⟩
           replace G := hide ((unhide G).step K152)
           clear K152
           refine Stp.go ?_))
      constructor
      go_wp2_with (
        first
        | (refine wpNew row25 (recC zrec) lz zero25 17 (by rfl) (by rfl) (by rfl) (.tmp 104) (by rfl) (by rfl) (by rfl) (recC zrec) lz (recC_one _) (by kernel_rfl) (by kernel_rfl) ?_
           intro W153 c3 e153 B153 K153
           replace G := hide ((unhide G).step K153)
           have M3 := hide B153
           clear e153 B153 K153))
      refine wp_region_any mixed (wpAny_tq 15 rfl (by kernel_rfl) [some (.bool false), some (.bool true), some (.bool true), some (.pointer (some ⟨b3, 3, none⟩)), some (.int .i64 a.pg), some (aggV (verC n v)), some (aggV (u8s X)), some (.pointer (some ⟨b3, 3, none⟩)), some (.int .i64 a.pg), some (aggV (verC n v)), some (aggV (u8s Y)), some (.bool false), some (.bool true), some (.bool true), some (.bool true)] rfl (by kernel_rfl) (by kernel_rfl) ?_ ?_)
      · intro i o' hi hsk ho a' w2 hout hin hk2
        replace hk2 : Kept [] W153 w2 := ⟨hk2.os, hk2.tape, hk2.output, hk2.size, hk2.block⟩
        match i, ho, hsk with
        | 0, ho, hsk =>
          obtain rfl := Option.some.inj ho
          exact wp_move (.tmp 19) rfl _ ((hout 19 (by kernel_rfl)).trans rfl) ⟨_, rfl, tq_is _ _ _ _ rfl, Kept.refl _ _, fun _ _ _ _ _ => trivial⟩
        | 1, ho, hsk =>
          obtain rfl := Option.some.inj ho
          have e0 : a'.eval (.tmp 107) = .bool false := is_tq (hin 0 107 (by kernel_rfl) (by kernel_rfl)) rfl
          exact o_not (.tmp 107) rfl _ e0 ⟨_, rfl, tq_is _ _ _ _ rfl, Kept.refl _ _, fun _ _ _ _ _ => trivial⟩
        | 2, ho, hsk =>
          obtain rfl := Option.some.inj ho
          have e0 : a'.eval (.tmp 108) = .bool true := is_tq (hin 1 108 (by kernel_rfl) (by kernel_rfl)) rfl
          exact wp_move (.tmp 108) rfl _ e0 ⟨_, rfl, tq_is _ _ _ _ rfl, Kept.refl _ _, fun _ _ _ _ _ => trivial⟩
        | 3, ho, hsk =>
          obtain rfl := Option.some.inj ho
          exact o_fld25 (.tmp 3) rfl b3 ((hout 3 (by kernel_rfl)).trans rfl) ⟨_, rfl, tq_is _ _ _ _ rfl, Kept.refl _ _, fun _ _ _ _ _ => trivial⟩
        | 4, ho, hsk =>
          obtain rfl := Option.some.inj ho
          have e0 : a'.eval (.tmp 110) = .pointer (some ⟨b3, 3, none⟩) := is_tq (hin 3 110 (by kernel_rfl) (by kernel_rfl)) rfl
          exact o_load3 (.tmp 110) rfl ⟨b3, 3, none⟩ _ e0 (fits_cell ((unhide G).ra.kept hk2 (by simp)) 3 (.int .i64 a.pg) rfl) ⟨_, rfl, tq_is _ _ _ _ rfl, Kept.refl _ _, fun _ _ _ _ _ => trivial⟩
        | 5, ho, hsk =>
          obtain rfl := Option.some.inj ho
          exact wp_loadA row61 (.tmp 5) rfl b5 0 ((hout 5 (by kernel_rfl)).trans rfl) (verC n v) lv ((unhide G).rv.kept hk2 (by simp)).range ⟨_, rfl, tq_is _ _ _ _ rfl, Kept.refl _ _, fun _ _ _ _ _ => trivial⟩
        | 6, ho, hsk =>
          obtain rfl := Option.some.inj ho
          have e0 : a'.eval (.tmp 111) = .int .i64 a.pg := is_tq (hin 4 111 (by kernel_rfl) (by kernel_rfl)) rfl
          have e1 : a'.eval (.tmp 112) = aggV (verC n v) := is_tq (hin 5 112 (by kernel_rfl) (by kernel_rfl)) rfl
          refine wp_callF 30 _ _ rfl #[.int .i64 a.pg, aggV (verC n v), .int .i64 0] (by simp [e0, e1]; rfl) (cf30 _ _) ((unhide H30a _).mono ?_)
          rintro e w3 ⟨rfl, hk3⟩
          exact ⟨_, rfl, _, rfl, tq_is _ _ _ _ rfl, hk3, fun _ _ _ _ _ => trivial⟩
        | 7, ho, hsk =>
          obtain rfl := Option.some.inj ho
          exact o_fld25 (.tmp 3) rfl b3 ((hout 3 (by kernel_rfl)).trans rfl) ⟨_, rfl, tq_is _ _ _ _ rfl, Kept.refl _ _, fun _ _ _ _ _ => trivial⟩
        | 8, ho, hsk =>
          obtain rfl := Option.some.inj ho
          have e0 : a'.eval (.tmp 114) = .pointer (some ⟨b3, 3, none⟩) := is_tq (hin 7 114 (by kernel_rfl) (by kernel_rfl)) rfl
          exact o_load3 (.tmp 114) rfl ⟨b3, 3, none⟩ _ e0 (fits_cell ((unhide G).ra.kept hk2 (by simp)) 3 (.int .i64 a.pg) rfl) ⟨_, rfl, tq_is _ _ _ _ rfl, Kept.refl _ _, fun _ _ _ _ _ => trivial⟩
        | 9, ho, hsk =>
          obtain rfl := Option.some.inj ho
          exact wp_loadA row61 (.tmp 5) rfl b5 0 ((hout 5 (by kernel_rfl)).trans rfl) (verC n v) lv ((unhide G).rv.kept hk2 (by simp)).range ⟨_, rfl, tq_is _ _ _ _ rfl, Kept.refl _ _, fun _ _ _ _ _ => trivial⟩
        | 10, ho, hsk =>
          obtain rfl := Option.some.inj ho
          have e0 : a'.eval (.tmp 115) = .int .i64 a.pg := is_tq (hin 8 115 (by kernel_rfl) (by kernel_rfl)) rfl
          have e1 : a'.eval (.tmp 116) = aggV (verC n v) := is_tq (hin 9 116 (by kernel_rfl) (by kernel_rfl)) rfl
          refine wp_callF 30 _ _ rfl #[.int .i64 a.pg, aggV (verC n v), .int .i64 1] (by simp [e0, e1]; rfl) (cf30 _ _) ((unhide H30b _).mono ?_)
          rintro e w3 ⟨rfl, hk3⟩
          exact ⟨_, rfl, _, rfl, tq_is _ _ _ _ rfl, hk3, fun _ _ _ _ _ => trivial⟩
        | 11, ho, hsk =>
          obtain rfl := Option.some.inj ho
          have e0 : a'.eval (.tmp 113) = aggV (u8s X) := is_tq (hin 6 113 (by kernel_rfl) (by kernel_rfl)) rfl
          have e1 : a'.eval (.tmp 117) = aggV (u8s Y) := is_tq (hin 10 117 (by kernel_rfl) (by kernel_rfl)) rfl
          refine wp_callF 18 _ _ rfl #[aggV (u8s X), aggV (u8s Y)] (by simp [e0, e1]) (cf18 _ _) ((unhide H18c _).mono ?_)
          rintro e w3 ⟨rfl, hk3⟩
          exact ⟨_, rfl, _, rfl, tq_is _ _ _ _ rfl, hk3, fun _ _ _ _ _ => trivial⟩
        | 12, ho, hsk =>
          obtain rfl := Option.some.inj ho
          have e0 : a'.eval (.tmp 118) = .bool false := is_tq (hin 11 118 (by kernel_rfl) (by kernel_rfl)) rfl
          exact o_not (.tmp 118) rfl _ e0 ⟨_, rfl, tq_is _ _ _ _ rfl, Kept.refl _ _, fun _ _ _ _ _ => trivial⟩
        | 13, ho, hsk =>
          obtain rfl := Option.some.inj ho
          have e0 : a'.eval (.tmp 109) = .bool true := is_tq (hin 2 109 (by kernel_rfl) (by kernel_rfl)) rfl
          have e1 : a'.eval (.tmp 119) = .bool true := is_tq (hin 12 119 (by kernel_rfl) (by kernel_rfl)) rfl
          exact o_pick (.tmp 109) (.tmp 119) rfl _ e0 e1 ⟨_, rfl, tq_is _ _ _ _ rfl, Kept.refl _ _, fun _ _ _ _ _ => trivial⟩
        | 14, ho, hsk =>
          obtain rfl := Option.some.inj ho
          have e0 : a'.eval (.tmp 120) = .bool true := is_tq (hin 13 120 (by kernel_rfl) (by kernel_rfl)) rfl
          exact wp_assignV (.tmp 120) rfl _ e0 ⟨_, rfl, tq_is _ _ _ _ rfl, Kept.refl _ _, fun _ _ _ _ _ => trivial⟩
      intro w9 hk9
      replace hk9 : Kept [] W153 w9 := ⟨hk9.os, hk9.tape, hk9.output, hk9.size, hk9.block⟩
      simp only [valsQ, List.map_cons, List.map_nil, Option.getD_some, List.take_succ_cons, List.take_zero, putAll, Act.put, List.setIfInBounds_toArray, List.set_cons_succ, List.set_cons_zero]
      refine wpAny_done (by kernel_rfl) ?_ _
      go_wp2_with fail
      go_ret
      exact ⟨rfl, (unhide G).kept.trans hk9⟩
set_option maxHeartbeats 4000000 in
set_option maxRecDepth 100000 in
theorem torn_same_no (a b : Rec) (n : Int) (v S0 S1 T0 T1 : List Int) (ha : a.bd.length = 96) (hb : b.bd.length = 96) (hv : v.length = 96) (hS0 : S0.length = 64) (hS1 : S1.length = 64) (hT0 : T0.length = 64) (hT1 : T1.length = 64) (P8a : ∀ w, Calls Tryd.prog 8 #[aggV (recC a)] w fun e w' => e = .returned (.tuple #[aggV (u8s (S0 ++ S1)), .int .i64 0]) ∧ Kept [] w w') (P8b : ∀ w, Calls Tryd.prog 8 #[aggV (recC b)] w fun e w' => e = .returned (.tuple #[aggV (u8s (T0 ++ T1)), .int .i64 0]) ∧ Kept [] w w') (P270 : ∀ w, Calls Tryd.prog 27 #[aggV (u8s S0)] w fun e w' => e = .returned (.tuple #[aggV (stC 0 0 0), .bool false]) ∧ Kept [] w w') (P120 : ∀ w, First w → Calls Tryd.prog 12 #[aggV (u8s S0)] w fun e w' => e = .returned (.tuple #[aggV (hdC 0 0), .int .i64 12]) ∧ Kept [] w w') (P271 : ∀ w, Calls Tryd.prog 27 #[aggV (u8s S1)] w fun e w' => e = .returned (.tuple #[aggV (stC 0 0 0), .bool false]) ∧ Kept [] w w') (P121 : ∀ w, First w → Calls Tryd.prog 12 #[aggV (u8s S1)] w fun e w' => e = .returned (.tuple #[aggV (hdC 0 0), .int .i64 12]) ∧ Kept [] w w') (P28 : ∀ w, Calls Tryd.prog 28 #[.int .i64 a.pg, aggV (u8s S0), aggV (u8s S1)] w fun e w' => e = .returned (.bool false) ∧ Kept [] w w') (P29 : ∀ w, Calls Tryd.prog 29 #[aggV (verC n v)] w fun e w' => e = .returned (.bool false) ∧ Kept [] w w') (hd : recEq (withBd b a.bd) a = true) (w : World) (hF : First w) : Calls Tryd.prog 6 #[aggV (recC a), aggV (recC b), aggV (verC n v)] w fun e w' => e = .returned (.bool true) ∧ Kept [] w w' := by
  have H8a := hide P8a
  have H8b := hide P8b
  have H270 := hide P270
  have H120 := hide P120
  have H271 := hide P271
  have H121 := hide P121
  have H28 := hide P28
  have H29 := hide P29
  have F0 := hide hF
  have KA := hide (Kept.refl [] w)
  clear hF P8a P8b P270 P120 P271 P121 P28 P29
  have la := recC_len ha
  have lb := recC_len hb
  have lz : (recC zrec).length = 101 := recC_len zrec_ok.bd.len
  have lS : (u8s (S0 ++ S1)).length = 128 := by rw [u8s_len, List.length_append]; omega
  have lT : (u8s (T0 ++ T1)).length = 128 := by rw [u8s_len, List.length_append]; omega
  have HD := hide hd
  clear hd
  have lba : (u8s a.bd).length = 96 := by rw [u8s_len, ha]
  have lx : (recC (withBd b a.bd)).length = 101 := recC_len (r := withBd b a.bd) ha
  have l64S0 : (u8s S0).length = 64 := by rw [u8s_len, hS0]
  have l64S1 : (u8s S1).length = 64 := by rw [u8s_len, hS1]
  have l64T0 : (u8s T0).length = 64 := by rw [u8s_len, hT0]
  have l64T1 : (u8s T1).length = 64 := by rw [u8s_len, hT1]
  have lv : (verC n v).length = 97 := verC_len hv
  go_enter Tryd.func6, Tryd.ntmps6
  go_wp2_with (
    first
    | (refine wpBoxV rfl (.tmp 0) rfl (recC a) rfl ?_
       intro W101 b3 e101 B101 K101
       have A := hide B101
       replace KA := hide ((unhide KA).trans K101)
       replace F0 := hide ((unhide F0).kept K101)
       clear e101 B101 K101
       refine Stp.go ?_))
  constructor
  go_wp2_with (
    first
    | (refine wpBoxV rfl (.tmp 1) rfl (recC b) rfl ?_
       intro W102 b4 e102 B102 K102
       have B := hide B102
       replace A := hide ((unhide A).kept K102 (by simp))
       replace KA := hide ((unhide KA).trans K102)
       replace F0 := hide ((unhide F0).kept K102)
       clear e102 B102 K102
       refine Stp.go ?_))
  constructor
  go_wp2_with (
    first
    | (refine wpBoxV rfl (.tmp 2) rfl (verC n v) rfl ?_
       intro W103 b5 e103 B103 K103
       have V := hide B103
       replace A := hide ((unhide A).kept K103 (by simp))
       replace B := hide ((unhide B).kept K103 (by simp))
       replace KA := hide ((unhide KA).trans K103)
       replace F0 := hide ((unhide F0).kept K103)
       clear e103 B103 K103
       refine Stp.go ?_))
  constructor
  go_wp2_with (
    first
    | (go_at_call 15
       refine (known15 _ (unhide F0)).mono ?_
       rintro e W104 ⟨rfl, K104⟩
       replace F0 := hide ((unhide F0).kept K104)
       replace A := hide ((unhide A).kept K104 (by simp))
       replace B := hide ((unhide B).kept K104 (by simp))
       replace V := hide ((unhide V).kept K104 (by simp))
       replace KA := hide ((unhide KA).trans K104)
       clear K104
       refine Stp.go ?_))
  constructor
  go_wp2_with (
    first
    | (refine wpLoadA row25 (by rfl) (.tmp 3) (by rfl) b3 0 (by kernel_rfl) (recC a) la (unhide A).range ?_
       refine Stp.go ?_))
  constructor
  go_wp2_with (
    first
    | (go_at_call 8
       refine (unhide H8a _).mono ?_
       rintro e W105 ⟨rfl, K105⟩
       replace F0 := hide ((unhide F0).kept K105)
       replace A := hide ((unhide A).kept K105 (by simp))
       replace B := hide ((unhide B).kept K105 (by simp))
       replace V := hide ((unhide V).kept K105 (by simp))
       replace KA := hide ((unhide KA).trans K105)
       clear K105 H8a
       refine Stp.go ?_))
  constructor
  go_wp2_with (
    first
    | (refine wpNew row30 (u8s (zs 128)) (by rw [u8s_len]; simp [zs]) zero30 7 (by rfl) (by rfl) (by rfl) (.tmp 25) (by rfl) (by rfl) (by rfl) (u8s (S0 ++ S1)) lS (u8s_one _) (by kernel_rfl) (by kernel_rfl) ?_
       intro W106 b7 e106 B106 K106
       replace F0 := hide ((unhide F0).kept K106)
       replace A := hide ((unhide A).kept K106 (by simp))
       replace B := hide ((unhide B).kept K106 (by simp))
       replace V := hide ((unhide V).kept K106 (by simp))
       replace KA := hide ((unhide KA).trans K106)
       have S := hide B106
       clear e106 B106 K106
       refine Stp.go ?_))
  constructor
  go_wp2_with (
    first
    | (refine wpLoadA row25 (by rfl) (.tmp 4) (by rfl) b4 0 (by kernel_rfl) (recC b) lb (unhide B).range ?_
       refine Stp.go ?_))
  constructor
  go_wp2_with (
    first
    | (go_at_call 8
       refine (unhide H8b _).mono ?_
       rintro e W107 ⟨rfl, K107⟩
       replace F0 := hide ((unhide F0).kept K107)
       replace A := hide ((unhide A).kept K107 (by simp))
       replace B := hide ((unhide B).kept K107 (by simp))
       replace V := hide ((unhide V).kept K107 (by simp))
       replace S := hide ((unhide S).kept K107 (by simp))
       replace KA := hide ((unhide KA).trans K107)
       clear K107 H8b
       refine Stp.go ?_))
  constructor
  go_wp2_with (
    first
    | (refine wpNew row30 (u8s (zs 128)) (by rw [u8s_len]; simp [zs]) zero30 9 (by rfl) (by rfl) (by rfl) (.tmp 30) (by rfl) (by rfl) (by rfl) (u8s (T0 ++ T1)) lT (u8s_one _) (by kernel_rfl) (by kernel_rfl) ?_
       intro W108 b9 e108 B108 K108
       have G : Hid (Tv w W108 b3 b4 b5 b7 b9 a b n v (S0 ++ S1) (T0 ++ T1)) := ⟨(unhide A).kept K108 (by simp), (unhide B).kept K108 (by simp), (unhide V).kept K108 (by simp), (unhide S).kept K108 (by simp), B108, (unhide F0).kept K108, (unhide KA).trans K108⟩
       clear e108 B108 K108 A B V S F0 KA
       refine Stp.go ?_))
  constructor
  go_wp2_with (
    first
    | (go_at_call 11; refine (num11 _ _).mono ?_; rintro e wn ⟨rfl, rfl⟩
       refine Stp.go ?_))
  constructor
  go_wp2_with (
    first
    | (go_at_call 11; refine (num11 _ _).mono ?_; rintro e wn ⟨rfl, rfl⟩
       refine Stp.go ?_))
  constructor
  go_wp2_with (
    first
    | (refine wpLoadA row25 (by rfl) (.tmp 4) (by rfl) b4 0 (by kernel_rfl) (recC b) lb (unhide G).rb.range ?_
       refine Stp.go ?_))
  constructor
  go_wp2_with (
    first
    | (refine wpNew row25 (recC zrec) lz zero25 11 (by rfl) (by rfl) (by rfl) (.tmp 38) (by rfl) (by rfl) (by rfl) (recC b) lb (recC_one _) (by kernel_rfl) (by kernel_rfl) ?_
       intro W154 bx e154 B154 K154
       have Z := hide ((unhide G).apart e154)
       replace G := hide ((unhide G).step K154)
       have M := hide B154
       clear e154 B154 K154
       refine Stp.go ?_))
  constructor
  go_wp2_with (
    first
    | (refine wpLoadA row23 (by rfl) (.tmp 39) (by rfl) b3 5 (by kernel_rfl) (u8s a.bd) lba (bd_range (unhide G).ra) ?_
       refine Stp.go ?_))
  constructor
  go_wp2_with (
    first
    | (refine wpStoreBd (by rfl) (.tmp 41) (.tmp 40) (by rfl) (by rfl) bx b a.bd (by kernel_rfl) (by kernel_rfl) hb ha (unhide M) ?_
       intro W155 B155 K155
       replace G := hide ((unhide G).far K155 (unhide Z).1 (unhide Z).2.1 (unhide Z).2.2)
       replace M := hide B155
       clear B155 K155 Z
       refine Stp.go ?_))
  constructor
  go_wp2_with (
    first
    | (refine wpLoadA row25 (by rfl) (.tmp 11) (by rfl) bx 0 (by kernel_rfl) (recC (withBd b a.bd)) lx (unhide M).range ?_
       refine Stp.go ?_))
  constructor
  go_wp2_with (
    first
    | (refine wpLoadA row25 (by rfl) (.tmp 3) (by rfl) b3 0 (by kernel_rfl) (recC a) la (unhide G).ra.range ?_
       refine Stp.go ?_))
  constructor
  go_wp2_with (
    first
    | (refine wpNeqV 25 25 guard25 (.tmp 42) (.tmp 43) (by rfl) (by rfl) (recC (withBd b a.bd)) (recC a) (by kernel_rfl) (by kernel_rfl) true false rfl (by rw [equal25 _ (withBd b a.bd) a ha ha, unhide HD]) ?_
       refine Stp.go ?_))
  constructor
  refine wpList_plain (by rfl) fun K hK => wp_move (.tmp 44) (by rfl) (.bool false) (by kernel_rfl) (hK _ _ ?_)
  clear hK K
  simp only [Act.put, List.setIfInBounds_toArray, List.set_cons_succ, List.set_cons_zero]
  go_skip
  refine wpList_plain (by rfl) fun K hK => o_pickN (.tmp 45) (.tmp 57) (by rfl) (by kernel_rfl) (hK _ _ ?_)
  clear hK K
  go_wp2_with fail
  go_loopw [12] (fun i wr => ∃ k : Nat, k ≤ 2 ∧ i = .int .i64 k ∧ Hid (Tv w wr b3 b4 b5 b7 b9 a b n v (S0 ++ S1) (T0 ++ T1))) (fun i _ => 2 - (intOf i).toNat)
  case atStart => exact ⟨0, by omega, rfl, G⟩
  case round =>
    clear G
    obtain ⟨k, hk2, rfl, G⟩ := hrel
    obtain rfl | rfl | rfl : k = 0 ∨ k = 1 ∨ k = 2 := by omega
    · clear hk2
      go_wp2_with (
        first
        | (refine wpLoadA row29 (by rfl) (.tmp 65) (by rfl) b7 0 (by kernel_rfl) (u8s S0) l64S0 (pair_l (unhide G).s) ?_
           refine Stp.go ?_))
      constructor
      go_wp2_with (
        first
        | (go_at_call 27
           refine (unhide H270 _).mono ?_
           rintro e W156 ⟨rfl, K156⟩
           replace G := hide ((unhide G).step K156)
           clear K156
           refine Stp.go ?_))
      constructor
      go_wp2_with (
        first
        | (refine wpNew row63 (stC 0 0 0) rfl zero63 13 (by rfl) (by rfl) (by rfl) (.tmp 68) (by rfl) (by rfl) (by rfl) (stC 0 0 0) rfl (Pg.stC_one _ _ _) (by kernel_rfl) (by kernel_rfl) ?_
           intro W157 c1 e157 B157 K157
           replace G := hide ((unhide G).step K157)
           have M1 := hide B157
           clear e157 B157 K157
           refine Stp.go ?_))
      constructor
      go_wp2_with (
        first
        | (refine wpLoadA row29 (by rfl) (.tmp 72) (by rfl) b7 0 (by kernel_rfl) (u8s S0) l64S0 (pair_l (unhide G).s) ?_
           refine Stp.go ?_))
      constructor
      go_wp2_with (
        first
        | (go_at_call 12
           refine (unhide H120 _ (unhide G).first).mono ?_
           rintro e W158 ⟨rfl, K158⟩
           replace G := hide ((unhide G).step K158)
           clear K158
           refine Stp.go ?_))
      constructor
      go_wp2_with (
        first
        | (refine wpNew row27 (hdC 0 0) rfl zero27 15 (by rfl) (by rfl) (by rfl) (.tmp 75) (by rfl) (by rfl) (by rfl) (hdC 0 0) rfl (hdC_one _ _) (by kernel_rfl) (by kernel_rfl) ?_
           intro W159 c2 e159 B159 K159
           replace G := hide ((unhide G).step K159)
           have M2 := hide B159
           clear e159 B159 K159
           refine Stp.go ?_))
      constructor
      go_wp2_with (
        first
        | (go_at_call 11; refine (num11 _ _).mono ?_; rintro e wn ⟨rfl, rfl⟩))
      go_roundw
      case rel => exact ⟨1, by omega, by go_num, G⟩
      case measure => simp [intOf]
    · clear hk2
      go_wp2_with (
        first
        | (refine wpLoadA row29 (by rfl) (.tmp 65) (by rfl) b7 64 (by kernel_rfl) (u8s S1) l64S1 (pair_r hS0 (unhide G).s) ?_
           refine Stp.go ?_))
      constructor
      go_wp2_with (
        first
        | (go_at_call 27
           refine (unhide H271 _).mono ?_
           rintro e W160 ⟨rfl, K160⟩
           replace G := hide ((unhide G).step K160)
           clear K160
           refine Stp.go ?_))
      constructor
      go_wp2_with (
        first
        | (refine wpNew row63 (stC 0 0 0) rfl zero63 13 (by rfl) (by rfl) (by rfl) (.tmp 68) (by rfl) (by rfl) (by rfl) (stC 0 0 0) rfl (Pg.stC_one _ _ _) (by kernel_rfl) (by kernel_rfl) ?_
           intro W161 c1 e161 B161 K161
           replace G := hide ((unhide G).step K161)
           have M1 := hide B161
           clear e161 B161 K161
           refine Stp.go ?_))
      constructor
      go_wp2_with (
        first
        | (refine wpLoadA row29 (by rfl) (.tmp 72) (by rfl) b7 64 (by kernel_rfl) (u8s S1) l64S1 (pair_r hS0 (unhide G).s) ?_
           refine Stp.go ?_))
      constructor
      go_wp2_with (
        first
        | (go_at_call 12
           refine (unhide H121 _ (unhide G).first).mono ?_
           rintro e W162 ⟨rfl, K162⟩
           replace G := hide ((unhide G).step K162)
           clear K162
           refine Stp.go ?_))
      constructor
      go_wp2_with (
        first
        | (refine wpNew row27 (hdC 0 0) rfl zero27 15 (by rfl) (by rfl) (by rfl) (.tmp 75) (by rfl) (by rfl) (by rfl) (hdC 0 0) rfl (hdC_one _ _) (by kernel_rfl) (by kernel_rfl) ?_
           intro W163 c2 e163 B163 K163
           replace G := hide ((unhide G).step K163)
           have M2 := hide B163
           clear e163 B163 K163
           refine Stp.go ?_))
      constructor
      go_wp2_with (
        first
        | (go_at_call 11; refine (num11 _ _).mono ?_; rintro e wn ⟨rfl, rfl⟩))
      go_roundw
      case rel => exact ⟨2, by omega, by go_num, G⟩
      case measure => simp [intOf]
    · clear hk2
      have cp := fits_cell (unhide G).ra 3 (.int .i64 a.pg) rfl
      go_wp2_with (
        first
        | (refine wpLoadA row29 (by rfl) (.tmp 85) (by rfl) b7 0 (by kernel_rfl) (u8s S0) l64S0 (pair_l (unhide G).s) ?_
           refine Stp.go ?_))
      constructor
      go_wp2_with (
        first
        | (refine wpLoadA row29 (by rfl) (.tmp 87) (by rfl) b7 64 (by kernel_rfl) (u8s S1) l64S1 (pair_r hS0 (unhide G).s) ?_
           refine Stp.go ?_))
      constructor
      go_wp2_with (
        first
        | (go_at_call 28
           refine (unhide H28 _).mono ?_
           rintro e W164 ⟨rfl, K164⟩
           replace G := hide ((unhide G).step K164)
           clear K164
           refine Stp.go ?_))
      constructor
      go_wp2_with (
        first
        | (refine wpLoadA row61 (by rfl) (.tmp 5) (by rfl) b5 0 (by kernel_rfl) (verC n v) lv (unhide G).rv.range ?_
           refine Stp.go ?_))
      constructor
      go_wp2_with (
        first
        | (go_at_call 29
           refine (unhide H29 _).mono ?_
           rintro e W165 ⟨rfl, K165⟩
           replace G := hide ((unhide G).step K165)
           have cv := fits_cell (unhide G).rv 0 (.int .i64 n) rfl
           have cp := fits_cell (unhide G).ra 3 (.int .i64 a.pg) rfl
           clear K165))
      go_ret
      exact ⟨rfl, (unhide G).kept⟩
set_option maxHeartbeats 4000000 in
set_option maxRecDepth 100000 in
theorem torn_same_zero (a b : Rec) (n : Int) (v S0 S1 T0 T1 : List Int) (ha : a.bd.length = 96) (hb : b.bd.length = 96) (hv : v.length = 96) (hS0 : S0.length = 64) (hS1 : S1.length = 64) (hT0 : T0.length = 64) (hT1 : T1.length = 64) (P8a : ∀ w, Calls Tryd.prog 8 #[aggV (recC a)] w fun e w' => e = .returned (.tuple #[aggV (u8s (S0 ++ S1)), .int .i64 0]) ∧ Kept [] w w') (P8b : ∀ w, Calls Tryd.prog 8 #[aggV (recC b)] w fun e w' => e = .returned (.tuple #[aggV (u8s (T0 ++ T1)), .int .i64 0]) ∧ Kept [] w w') (P270 : ∀ w, Calls Tryd.prog 27 #[aggV (u8s S0)] w fun e w' => e = .returned (.tuple #[aggV (stC 0 0 0), .bool false]) ∧ Kept [] w w') (P120 : ∀ w, First w → Calls Tryd.prog 12 #[aggV (u8s S0)] w fun e w' => e = .returned (.tuple #[aggV (hdC 0 0), .int .i64 12]) ∧ Kept [] w w') (P271 : ∀ w, Calls Tryd.prog 27 #[aggV (u8s S1)] w fun e w' => e = .returned (.tuple #[aggV (stC 0 0 0), .bool false]) ∧ Kept [] w w') (P121 : ∀ w, First w → Calls Tryd.prog 12 #[aggV (u8s S1)] w fun e w' => e = .returned (.tuple #[aggV (hdC 0 0), .int .i64 12]) ∧ Kept [] w w') (P28 : ∀ w, Calls Tryd.prog 28 #[.int .i64 a.pg, aggV (u8s S0), aggV (u8s S1)] w fun e w' => e = .returned (.bool false) ∧ Kept [] w w') (P29 : ∀ w, Calls Tryd.prog 29 #[aggV (verC n v)] w fun e w' => e = .returned (.bool true) ∧ Kept [] w w') (hn : n = 0) (hd : recEq (withBd b a.bd) a = true) (w : World) (hF : First w) : Calls Tryd.prog 6 #[aggV (recC a), aggV (recC b), aggV (verC n v)] w fun e w' => e = .returned (.bool true) ∧ Kept [] w w' := by
  subst hn
  have H8a := hide P8a
  have H8b := hide P8b
  have H270 := hide P270
  have H120 := hide P120
  have H271 := hide P271
  have H121 := hide P121
  have H28 := hide P28
  have H29 := hide P29
  have F0 := hide hF
  have KA := hide (Kept.refl [] w)
  clear hF P8a P8b P270 P120 P271 P121 P28 P29
  have la := recC_len ha
  have lb := recC_len hb
  have lz : (recC zrec).length = 101 := recC_len zrec_ok.bd.len
  have lS : (u8s (S0 ++ S1)).length = 128 := by rw [u8s_len, List.length_append]; omega
  have lT : (u8s (T0 ++ T1)).length = 128 := by rw [u8s_len, List.length_append]; omega
  have HD := hide hd
  clear hd
  have lba : (u8s a.bd).length = 96 := by rw [u8s_len, ha]
  have lx : (recC (withBd b a.bd)).length = 101 := recC_len (r := withBd b a.bd) ha
  have l64S0 : (u8s S0).length = 64 := by rw [u8s_len, hS0]
  have l64S1 : (u8s S1).length = 64 := by rw [u8s_len, hS1]
  have l64T0 : (u8s T0).length = 64 := by rw [u8s_len, hT0]
  have l64T1 : (u8s T1).length = 64 := by rw [u8s_len, hT1]
  have lv : (verC 0 v).length = 97 := verC_len hv
  go_enter Tryd.func6, Tryd.ntmps6
  go_wp2_with (
    first
    | (refine wpBoxV rfl (.tmp 0) rfl (recC a) rfl ?_
       intro W101 b3 e101 B101 K101
       have A := hide B101
       replace KA := hide ((unhide KA).trans K101)
       replace F0 := hide ((unhide F0).kept K101)
       clear e101 B101 K101
       refine Stp.go ?_))
  constructor
  go_wp2_with (
    first
    | (refine wpBoxV rfl (.tmp 1) rfl (recC b) rfl ?_
       intro W102 b4 e102 B102 K102
       have B := hide B102
       replace A := hide ((unhide A).kept K102 (by simp))
       replace KA := hide ((unhide KA).trans K102)
       replace F0 := hide ((unhide F0).kept K102)
       clear e102 B102 K102
       refine Stp.go ?_))
  constructor
  go_wp2_with (
    first
    | (refine wpBoxV rfl (.tmp 2) rfl (verC 0 v) rfl ?_
       intro W103 b5 e103 B103 K103
       have V := hide B103
       replace A := hide ((unhide A).kept K103 (by simp))
       replace B := hide ((unhide B).kept K103 (by simp))
       replace KA := hide ((unhide KA).trans K103)
       replace F0 := hide ((unhide F0).kept K103)
       clear e103 B103 K103
       refine Stp.go ?_))
  constructor
  go_wp2_with (
    first
    | (go_at_call 15
       refine (known15 _ (unhide F0)).mono ?_
       rintro e W104 ⟨rfl, K104⟩
       replace F0 := hide ((unhide F0).kept K104)
       replace A := hide ((unhide A).kept K104 (by simp))
       replace B := hide ((unhide B).kept K104 (by simp))
       replace V := hide ((unhide V).kept K104 (by simp))
       replace KA := hide ((unhide KA).trans K104)
       clear K104
       refine Stp.go ?_))
  constructor
  go_wp2_with (
    first
    | (refine wpLoadA row25 (by rfl) (.tmp 3) (by rfl) b3 0 (by kernel_rfl) (recC a) la (unhide A).range ?_
       refine Stp.go ?_))
  constructor
  go_wp2_with (
    first
    | (go_at_call 8
       refine (unhide H8a _).mono ?_
       rintro e W105 ⟨rfl, K105⟩
       replace F0 := hide ((unhide F0).kept K105)
       replace A := hide ((unhide A).kept K105 (by simp))
       replace B := hide ((unhide B).kept K105 (by simp))
       replace V := hide ((unhide V).kept K105 (by simp))
       replace KA := hide ((unhide KA).trans K105)
       clear K105 H8a
       refine Stp.go ?_))
  constructor
  go_wp2_with (
    first
    | (refine wpNew row30 (u8s (zs 128)) (by rw [u8s_len]; simp [zs]) zero30 7 (by rfl) (by rfl) (by rfl) (.tmp 25) (by rfl) (by rfl) (by rfl) (u8s (S0 ++ S1)) lS (u8s_one _) (by kernel_rfl) (by kernel_rfl) ?_
       intro W106 b7 e106 B106 K106
       replace F0 := hide ((unhide F0).kept K106)
       replace A := hide ((unhide A).kept K106 (by simp))
       replace B := hide ((unhide B).kept K106 (by simp))
       replace V := hide ((unhide V).kept K106 (by simp))
       replace KA := hide ((unhide KA).trans K106)
       have S := hide B106
       clear e106 B106 K106
       refine Stp.go ?_))
  constructor
  go_wp2_with (
    first
    | (refine wpLoadA row25 (by rfl) (.tmp 4) (by rfl) b4 0 (by kernel_rfl) (recC b) lb (unhide B).range ?_
       refine Stp.go ?_))
  constructor
  go_wp2_with (
    first
    | (go_at_call 8
       refine (unhide H8b _).mono ?_
       rintro e W107 ⟨rfl, K107⟩
       replace F0 := hide ((unhide F0).kept K107)
       replace A := hide ((unhide A).kept K107 (by simp))
       replace B := hide ((unhide B).kept K107 (by simp))
       replace V := hide ((unhide V).kept K107 (by simp))
       replace S := hide ((unhide S).kept K107 (by simp))
       replace KA := hide ((unhide KA).trans K107)
       clear K107 H8b
       refine Stp.go ?_))
  constructor
  go_wp2_with (
    first
    | (refine wpNew row30 (u8s (zs 128)) (by rw [u8s_len]; simp [zs]) zero30 9 (by rfl) (by rfl) (by rfl) (.tmp 30) (by rfl) (by rfl) (by rfl) (u8s (T0 ++ T1)) lT (u8s_one _) (by kernel_rfl) (by kernel_rfl) ?_
       intro W108 b9 e108 B108 K108
       have G : Hid (Tv w W108 b3 b4 b5 b7 b9 a b 0 v (S0 ++ S1) (T0 ++ T1)) := ⟨(unhide A).kept K108 (by simp), (unhide B).kept K108 (by simp), (unhide V).kept K108 (by simp), (unhide S).kept K108 (by simp), B108, (unhide F0).kept K108, (unhide KA).trans K108⟩
       clear e108 B108 K108 A B V S F0 KA
       refine Stp.go ?_))
  constructor
  go_wp2_with (
    first
    | (go_at_call 11; refine (num11 _ _).mono ?_; rintro e wn ⟨rfl, rfl⟩
       refine Stp.go ?_))
  constructor
  go_wp2_with (
    first
    | (go_at_call 11; refine (num11 _ _).mono ?_; rintro e wn ⟨rfl, rfl⟩
       refine Stp.go ?_))
  constructor
  go_wp2_with (
    first
    | (refine wpLoadA row25 (by rfl) (.tmp 4) (by rfl) b4 0 (by kernel_rfl) (recC b) lb (unhide G).rb.range ?_
       refine Stp.go ?_))
  constructor
  go_wp2_with (
    first
    | (refine wpNew row25 (recC zrec) lz zero25 11 (by rfl) (by rfl) (by rfl) (.tmp 38) (by rfl) (by rfl) (by rfl) (recC b) lb (recC_one _) (by kernel_rfl) (by kernel_rfl) ?_
       intro W166 bx e166 B166 K166
       have Z := hide ((unhide G).apart e166)
       replace G := hide ((unhide G).step K166)
       have M := hide B166
       clear e166 B166 K166
       refine Stp.go ?_))
  constructor
  go_wp2_with (
    first
    | (refine wpLoadA row23 (by rfl) (.tmp 39) (by rfl) b3 5 (by kernel_rfl) (u8s a.bd) lba (bd_range (unhide G).ra) ?_
       refine Stp.go ?_))
  constructor
  go_wp2_with (
    first
    | (refine wpStoreBd (by rfl) (.tmp 41) (.tmp 40) (by rfl) (by rfl) bx b a.bd (by kernel_rfl) (by kernel_rfl) hb ha (unhide M) ?_
       intro W167 B167 K167
       replace G := hide ((unhide G).far K167 (unhide Z).1 (unhide Z).2.1 (unhide Z).2.2)
       replace M := hide B167
       clear B167 K167 Z
       refine Stp.go ?_))
  constructor
  go_wp2_with (
    first
    | (refine wpLoadA row25 (by rfl) (.tmp 11) (by rfl) bx 0 (by kernel_rfl) (recC (withBd b a.bd)) lx (unhide M).range ?_
       refine Stp.go ?_))
  constructor
  go_wp2_with (
    first
    | (refine wpLoadA row25 (by rfl) (.tmp 3) (by rfl) b3 0 (by kernel_rfl) (recC a) la (unhide G).ra.range ?_
       refine Stp.go ?_))
  constructor
  go_wp2_with (
    first
    | (refine wpNeqV 25 25 guard25 (.tmp 42) (.tmp 43) (by rfl) (by rfl) (recC (withBd b a.bd)) (recC a) (by kernel_rfl) (by kernel_rfl) true false rfl (by rw [equal25 _ (withBd b a.bd) a ha ha, unhide HD]) ?_
       refine Stp.go ?_))
  constructor
  refine wpList_plain (by rfl) fun K hK => wp_move (.tmp 44) (by rfl) (.bool false) (by kernel_rfl) (hK _ _ ?_)
  clear hK K
  simp only [Act.put, List.setIfInBounds_toArray, List.set_cons_succ, List.set_cons_zero]
  go_skip
  refine wpList_plain (by rfl) fun K hK => o_pickN (.tmp 45) (.tmp 57) (by rfl) (by kernel_rfl) (hK _ _ ?_)
  clear hK K
  go_wp2_with fail
  go_loopw [12] (fun i wr => ∃ k : Nat, k ≤ 2 ∧ i = .int .i64 k ∧ Hid (Tv w wr b3 b4 b5 b7 b9 a b 0 v (S0 ++ S1) (T0 ++ T1))) (fun i _ => 2 - (intOf i).toNat)
  case atStart => exact ⟨0, by omega, rfl, G⟩
  case round =>
    clear G
    obtain ⟨k, hk2, rfl, G⟩ := hrel
    obtain rfl | rfl | rfl : k = 0 ∨ k = 1 ∨ k = 2 := by omega
    · clear hk2
      go_wp2_with (
        first
        | (refine wpLoadA row29 (by rfl) (.tmp 65) (by rfl) b7 0 (by kernel_rfl) (u8s S0) l64S0 (pair_l (unhide G).s) ?_
           refine Stp.go ?_))
      constructor
      go_wp2_with (
        first
        | (go_at_call 27
           refine (unhide H270 _).mono ?_
           rintro e W168 ⟨rfl, K168⟩
           replace G := hide ((unhide G).step K168)
           clear K168
           refine Stp.go ?_))
      constructor
      go_wp2_with (
        first
        | (refine wpNew row63 (stC 0 0 0) rfl zero63 13 (by rfl) (by rfl) (by rfl) (.tmp 68) (by rfl) (by rfl) (by rfl) (stC 0 0 0) rfl (Pg.stC_one _ _ _) (by kernel_rfl) (by kernel_rfl) ?_
           intro W169 c1 e169 B169 K169
           replace G := hide ((unhide G).step K169)
           have M1 := hide B169
           clear e169 B169 K169
           refine Stp.go ?_))
      constructor
      go_wp2_with (
        first
        | (refine wpLoadA row29 (by rfl) (.tmp 72) (by rfl) b7 0 (by kernel_rfl) (u8s S0) l64S0 (pair_l (unhide G).s) ?_
           refine Stp.go ?_))
      constructor
      go_wp2_with (
        first
        | (go_at_call 12
           refine (unhide H120 _ (unhide G).first).mono ?_
           rintro e W170 ⟨rfl, K170⟩
           replace G := hide ((unhide G).step K170)
           clear K170
           refine Stp.go ?_))
      constructor
      go_wp2_with (
        first
        | (refine wpNew row27 (hdC 0 0) rfl zero27 15 (by rfl) (by rfl) (by rfl) (.tmp 75) (by rfl) (by rfl) (by rfl) (hdC 0 0) rfl (hdC_one _ _) (by kernel_rfl) (by kernel_rfl) ?_
           intro W171 c2 e171 B171 K171
           replace G := hide ((unhide G).step K171)
           have M2 := hide B171
           clear e171 B171 K171
           refine Stp.go ?_))
      constructor
      go_wp2_with (
        first
        | (go_at_call 11; refine (num11 _ _).mono ?_; rintro e wn ⟨rfl, rfl⟩))
      go_roundw
      case rel => exact ⟨1, by omega, by go_num, G⟩
      case measure => simp [intOf]
    · clear hk2
      go_wp2_with (
        first
        | (refine wpLoadA row29 (by rfl) (.tmp 65) (by rfl) b7 64 (by kernel_rfl) (u8s S1) l64S1 (pair_r hS0 (unhide G).s) ?_
           refine Stp.go ?_))
      constructor
      go_wp2_with (
        first
        | (go_at_call 27
           refine (unhide H271 _).mono ?_
           rintro e W172 ⟨rfl, K172⟩
           replace G := hide ((unhide G).step K172)
           clear K172
           refine Stp.go ?_))
      constructor
      go_wp2_with (
        first
        | (refine wpNew row63 (stC 0 0 0) rfl zero63 13 (by rfl) (by rfl) (by rfl) (.tmp 68) (by rfl) (by rfl) (by rfl) (stC 0 0 0) rfl (Pg.stC_one _ _ _) (by kernel_rfl) (by kernel_rfl) ?_
           intro W173 c1 e173 B173 K173
           replace G := hide ((unhide G).step K173)
           have M1 := hide B173
           clear e173 B173 K173
           refine Stp.go ?_))
      constructor
      go_wp2_with (
        first
        | (refine wpLoadA row29 (by rfl) (.tmp 72) (by rfl) b7 64 (by kernel_rfl) (u8s S1) l64S1 (pair_r hS0 (unhide G).s) ?_
           refine Stp.go ?_))
      constructor
      go_wp2_with (
        first
        | (go_at_call 12
           refine (unhide H121 _ (unhide G).first).mono ?_
           rintro e W174 ⟨rfl, K174⟩
           replace G := hide ((unhide G).step K174)
           clear K174
           refine Stp.go ?_))
      constructor
      go_wp2_with (
        first
        | (refine wpNew row27 (hdC 0 0) rfl zero27 15 (by rfl) (by rfl) (by rfl) (.tmp 75) (by rfl) (by rfl) (by rfl) (hdC 0 0) rfl (hdC_one _ _) (by kernel_rfl) (by kernel_rfl) ?_
           intro W175 c2 e175 B175 K175
           replace G := hide ((unhide G).step K175)
           have M2 := hide B175
           clear e175 B175 K175
           refine Stp.go ?_))
      constructor
      go_wp2_with (
        first
        | (go_at_call 11; refine (num11 _ _).mono ?_; rintro e wn ⟨rfl, rfl⟩))
      go_roundw
      case rel => exact ⟨2, by omega, by go_num, G⟩
      case measure => simp [intOf]
    · clear hk2
      have cp := fits_cell (unhide G).ra 3 (.int .i64 a.pg) rfl
      go_wp2_with (
        first
        | (refine wpLoadA row29 (by rfl) (.tmp 85) (by rfl) b7 0 (by kernel_rfl) (u8s S0) l64S0 (pair_l (unhide G).s) ?_
           refine Stp.go ?_))
      constructor
      go_wp2_with (
        first
        | (refine wpLoadA row29 (by rfl) (.tmp 87) (by rfl) b7 64 (by kernel_rfl) (u8s S1) l64S1 (pair_r hS0 (unhide G).s) ?_
           refine Stp.go ?_))
      constructor
      go_wp2_with (
        first
        | (go_at_call 28
           refine (unhide H28 _).mono ?_
           rintro e W176 ⟨rfl, K176⟩
           replace G := hide ((unhide G).step K176)
           clear K176
           refine Stp.go ?_))
      constructor
      go_wp2_with (
        first
        | (refine wpLoadA row61 (by rfl) (.tmp 5) (by rfl) b5 0 (by kernel_rfl) (verC 0 v) lv (unhide G).rv.range ?_
           refine Stp.go ?_))
      constructor
      go_wp2_with (
        first
        | (go_at_call 29
           refine (unhide H29 _).mono ?_
           rintro e W177 ⟨rfl, K177⟩
           replace G := hide ((unhide G).step K177)
           have cv := fits_cell (unhide G).rv 0 (.int .i64 0) rfl
           have cp := fits_cell (unhide G).ra 3 (.int .i64 a.pg) rfl
           clear K177))
      go_ret
      exact ⟨rfl, (unhide G).kept⟩
set_option maxHeartbeats 4000000 in
set_option maxRecDepth 100000 in
theorem torn_same_yes (a b : Rec) (n : Int) (v S0 S1 T0 T1 : List Int) (ha : a.bd.length = 96) (hb : b.bd.length = 96) (hv : v.length = 96) (hS0 : S0.length = 64) (hS1 : S1.length = 64) (hT0 : T0.length = 64) (hT1 : T1.length = 64) (P8a : ∀ w, Calls Tryd.prog 8 #[aggV (recC a)] w fun e w' => e = .returned (.tuple #[aggV (u8s (S0 ++ S1)), .int .i64 0]) ∧ Kept [] w w') (P8b : ∀ w, Calls Tryd.prog 8 #[aggV (recC b)] w fun e w' => e = .returned (.tuple #[aggV (u8s (T0 ++ T1)), .int .i64 0]) ∧ Kept [] w w') (P270 : ∀ w, Calls Tryd.prog 27 #[aggV (u8s S0)] w fun e w' => e = .returned (.tuple #[aggV (stC 0 0 0), .bool false]) ∧ Kept [] w w') (P120 : ∀ w, First w → Calls Tryd.prog 12 #[aggV (u8s S0)] w fun e w' => e = .returned (.tuple #[aggV (hdC 0 0), .int .i64 12]) ∧ Kept [] w w') (P271 : ∀ w, Calls Tryd.prog 27 #[aggV (u8s S1)] w fun e w' => e = .returned (.tuple #[aggV (stC 0 0 0), .bool false]) ∧ Kept [] w w') (P121 : ∀ w, First w → Calls Tryd.prog 12 #[aggV (u8s S1)] w fun e w' => e = .returned (.tuple #[aggV (hdC 0 0), .int .i64 12]) ∧ Kept [] w w') (P28 : ∀ w, Calls Tryd.prog 28 #[.int .i64 a.pg, aggV (u8s S0), aggV (u8s S1)] w fun e w' => e = .returned (.bool false) ∧ Kept [] w w') (P29 : ∀ w, Calls Tryd.prog 29 #[aggV (verC n v)] w fun e w' => e = .returned (.bool true) ∧ Kept [] w w') (hn : ¬ n = 0) (X Y : List Int) (P30a : ∀ w, Calls Tryd.prog 30 #[.int .i64 a.pg, aggV (verC n v), .int .i64 0] w fun e w' => e = .returned (aggV (u8s X)) ∧ Kept [] w w') (P30b : ∀ w, Calls Tryd.prog 30 #[.int .i64 a.pg, aggV (verC n v), .int .i64 1] w fun e w' => e = .returned (aggV (u8s Y)) ∧ Kept [] w w') (P20 : ∀ w, Calls Tryd.prog 20 #[aggV (u8s X)] w fun e w' => e = .returned (.tuple #[aggV (recC zrec), .int .i64 0, .bool false]) ∧ Kept [] w w') (P18c : ∀ w, Calls Tryd.prog 18 #[aggV (u8s X), aggV (u8s Y)] w fun e w' => e = .returned (.bool false) ∧ Kept [] w w') (hd : recEq (withBd b a.bd) a = true) (w : World) (hF : First w) : Calls Tryd.prog 6 #[aggV (recC a), aggV (recC b), aggV (verC n v)] w fun e w' => e = .returned (.bool true) ∧ Kept [] w w' := by
  have H8a := hide P8a
  have H8b := hide P8b
  have H270 := hide P270
  have H120 := hide P120
  have H271 := hide P271
  have H121 := hide P121
  have H28 := hide P28
  have H29 := hide P29
  have H30a := hide P30a
  have H30b := hide P30b
  have H20 := hide P20
  have H18c := hide P18c
  have F0 := hide hF
  have KA := hide (Kept.refl [] w)
  clear hF P8a P8b P270 P120 P271 P121 P28 P29 P30a P30b P20 P18c
  have la := recC_len ha
  have lb := recC_len hb
  have lz : (recC zrec).length = 101 := recC_len zrec_ok.bd.len
  have lS : (u8s (S0 ++ S1)).length = 128 := by rw [u8s_len, List.length_append]; omega
  have lT : (u8s (T0 ++ T1)).length = 128 := by rw [u8s_len, List.length_append]; omega
  have HD := hide hd
  clear hd
  have lba : (u8s a.bd).length = 96 := by rw [u8s_len, ha]
  have lx : (recC (withBd b a.bd)).length = 101 := recC_len (r := withBd b a.bd) ha
  have l64S0 : (u8s S0).length = 64 := by rw [u8s_len, hS0]
  have l64S1 : (u8s S1).length = 64 := by rw [u8s_len, hS1]
  have l64T0 : (u8s T0).length = 64 := by rw [u8s_len, hT0]
  have l64T1 : (u8s T1).length = 64 := by rw [u8s_len, hT1]
  have lv : (verC n v).length = 97 := verC_len hv
  go_enter Tryd.func6, Tryd.ntmps6
  go_wp2_with (
    first
    | (refine wpBoxV rfl (.tmp 0) rfl (recC a) rfl ?_
       intro W101 b3 e101 B101 K101
       have A := hide B101
       replace KA := hide ((unhide KA).trans K101)
       replace F0 := hide ((unhide F0).kept K101)
       clear e101 B101 K101
       refine Stp.go ?_))
  constructor
  go_wp2_with (
    first
    | (refine wpBoxV rfl (.tmp 1) rfl (recC b) rfl ?_
       intro W102 b4 e102 B102 K102
       have B := hide B102
       replace A := hide ((unhide A).kept K102 (by simp))
       replace KA := hide ((unhide KA).trans K102)
       replace F0 := hide ((unhide F0).kept K102)
       clear e102 B102 K102
       refine Stp.go ?_))
  constructor
  go_wp2_with (
    first
    | (refine wpBoxV rfl (.tmp 2) rfl (verC n v) rfl ?_
       intro W103 b5 e103 B103 K103
       have V := hide B103
       replace A := hide ((unhide A).kept K103 (by simp))
       replace B := hide ((unhide B).kept K103 (by simp))
       replace KA := hide ((unhide KA).trans K103)
       replace F0 := hide ((unhide F0).kept K103)
       clear e103 B103 K103
       refine Stp.go ?_))
  constructor
  go_wp2_with (
    first
    | (go_at_call 15
       refine (known15 _ (unhide F0)).mono ?_
       rintro e W104 ⟨rfl, K104⟩
       replace F0 := hide ((unhide F0).kept K104)
       replace A := hide ((unhide A).kept K104 (by simp))
       replace B := hide ((unhide B).kept K104 (by simp))
       replace V := hide ((unhide V).kept K104 (by simp))
       replace KA := hide ((unhide KA).trans K104)
       clear K104
       refine Stp.go ?_))
  constructor
  go_wp2_with (
    first
    | (refine wpLoadA row25 (by rfl) (.tmp 3) (by rfl) b3 0 (by kernel_rfl) (recC a) la (unhide A).range ?_
       refine Stp.go ?_))
  constructor
  go_wp2_with (
    first
    | (go_at_call 8
       refine (unhide H8a _).mono ?_
       rintro e W105 ⟨rfl, K105⟩
       replace F0 := hide ((unhide F0).kept K105)
       replace A := hide ((unhide A).kept K105 (by simp))
       replace B := hide ((unhide B).kept K105 (by simp))
       replace V := hide ((unhide V).kept K105 (by simp))
       replace KA := hide ((unhide KA).trans K105)
       clear K105 H8a
       refine Stp.go ?_))
  constructor
  go_wp2_with (
    first
    | (refine wpNew row30 (u8s (zs 128)) (by rw [u8s_len]; simp [zs]) zero30 7 (by rfl) (by rfl) (by rfl) (.tmp 25) (by rfl) (by rfl) (by rfl) (u8s (S0 ++ S1)) lS (u8s_one _) (by kernel_rfl) (by kernel_rfl) ?_
       intro W106 b7 e106 B106 K106
       replace F0 := hide ((unhide F0).kept K106)
       replace A := hide ((unhide A).kept K106 (by simp))
       replace B := hide ((unhide B).kept K106 (by simp))
       replace V := hide ((unhide V).kept K106 (by simp))
       replace KA := hide ((unhide KA).trans K106)
       have S := hide B106
       clear e106 B106 K106
       refine Stp.go ?_))
  constructor
  go_wp2_with (
    first
    | (refine wpLoadA row25 (by rfl) (.tmp 4) (by rfl) b4 0 (by kernel_rfl) (recC b) lb (unhide B).range ?_
       refine Stp.go ?_))
  constructor
  go_wp2_with (
    first
    | (go_at_call 8
       refine (unhide H8b _).mono ?_
       rintro e W107 ⟨rfl, K107⟩
       replace F0 := hide ((unhide F0).kept K107)
       replace A := hide ((unhide A).kept K107 (by simp))
       replace B := hide ((unhide B).kept K107 (by simp))
       replace V := hide ((unhide V).kept K107 (by simp))
       replace S := hide ((unhide S).kept K107 (by simp))
       replace KA := hide ((unhide KA).trans K107)
       clear K107 H8b
       refine Stp.go ?_))
  constructor
  go_wp2_with (
    first
    | (refine wpNew row30 (u8s (zs 128)) (by rw [u8s_len]; simp [zs]) zero30 9 (by rfl) (by rfl) (by rfl) (.tmp 30) (by rfl) (by rfl) (by rfl) (u8s (T0 ++ T1)) lT (u8s_one _) (by kernel_rfl) (by kernel_rfl) ?_
       intro W108 b9 e108 B108 K108
       have G : Hid (Tv w W108 b3 b4 b5 b7 b9 a b n v (S0 ++ S1) (T0 ++ T1)) := ⟨(unhide A).kept K108 (by simp), (unhide B).kept K108 (by simp), (unhide V).kept K108 (by simp), (unhide S).kept K108 (by simp), B108, (unhide F0).kept K108, (unhide KA).trans K108⟩
       clear e108 B108 K108 A B V S F0 KA
       refine Stp.go ?_))
  constructor
  go_wp2_with (
    first
    | (go_at_call 11; refine (num11 _ _).mono ?_; rintro e wn ⟨rfl, rfl⟩
       refine Stp.go ?_))
  constructor
  go_wp2_with (
    first
    | (go_at_call 11; refine (num11 _ _).mono ?_; rintro e wn ⟨rfl, rfl⟩
       refine Stp.go ?_))
  constructor
  go_wp2_with (
    first
    | (refine wpLoadA row25 (by rfl) (.tmp 4) (by rfl) b4 0 (by kernel_rfl) (recC b) lb (unhide G).rb.range ?_
       refine Stp.go ?_))
  constructor
  go_wp2_with (
    first
    | (refine wpNew row25 (recC zrec) lz zero25 11 (by rfl) (by rfl) (by rfl) (.tmp 38) (by rfl) (by rfl) (by rfl) (recC b) lb (recC_one _) (by kernel_rfl) (by kernel_rfl) ?_
       intro W178 bx e178 B178 K178
       have Z := hide ((unhide G).apart e178)
       replace G := hide ((unhide G).step K178)
       have M := hide B178
       clear e178 B178 K178
       refine Stp.go ?_))
  constructor
  go_wp2_with (
    first
    | (refine wpLoadA row23 (by rfl) (.tmp 39) (by rfl) b3 5 (by kernel_rfl) (u8s a.bd) lba (bd_range (unhide G).ra) ?_
       refine Stp.go ?_))
  constructor
  go_wp2_with (
    first
    | (refine wpStoreBd (by rfl) (.tmp 41) (.tmp 40) (by rfl) (by rfl) bx b a.bd (by kernel_rfl) (by kernel_rfl) hb ha (unhide M) ?_
       intro W179 B179 K179
       replace G := hide ((unhide G).far K179 (unhide Z).1 (unhide Z).2.1 (unhide Z).2.2)
       replace M := hide B179
       clear B179 K179 Z
       refine Stp.go ?_))
  constructor
  go_wp2_with (
    first
    | (refine wpLoadA row25 (by rfl) (.tmp 11) (by rfl) bx 0 (by kernel_rfl) (recC (withBd b a.bd)) lx (unhide M).range ?_
       refine Stp.go ?_))
  constructor
  go_wp2_with (
    first
    | (refine wpLoadA row25 (by rfl) (.tmp 3) (by rfl) b3 0 (by kernel_rfl) (recC a) la (unhide G).ra.range ?_
       refine Stp.go ?_))
  constructor
  go_wp2_with (
    first
    | (refine wpNeqV 25 25 guard25 (.tmp 42) (.tmp 43) (by rfl) (by rfl) (recC (withBd b a.bd)) (recC a) (by kernel_rfl) (by kernel_rfl) true false rfl (by rw [equal25 _ (withBd b a.bd) a ha ha, unhide HD]) ?_
       refine Stp.go ?_))
  constructor
  refine wpList_plain (by rfl) fun K hK => wp_move (.tmp 44) (by rfl) (.bool false) (by kernel_rfl) (hK _ _ ?_)
  clear hK K
  simp only [Act.put, List.setIfInBounds_toArray, List.set_cons_succ, List.set_cons_zero]
  go_skip
  refine wpList_plain (by rfl) fun K hK => o_pickN (.tmp 45) (.tmp 57) (by rfl) (by kernel_rfl) (hK _ _ ?_)
  clear hK K
  go_wp2_with fail
  go_loopw [12] (fun i wr => ∃ k : Nat, k ≤ 2 ∧ i = .int .i64 k ∧ Hid (Tv w wr b3 b4 b5 b7 b9 a b n v (S0 ++ S1) (T0 ++ T1))) (fun i _ => 2 - (intOf i).toNat)
  case atStart => exact ⟨0, by omega, rfl, G⟩
  case round =>
    clear G
    obtain ⟨k, hk2, rfl, G⟩ := hrel
    obtain rfl | rfl | rfl : k = 0 ∨ k = 1 ∨ k = 2 := by omega
    · clear hk2
      go_wp2_with (
        first
        | (refine wpLoadA row29 (by rfl) (.tmp 65) (by rfl) b7 0 (by kernel_rfl) (u8s S0) l64S0 (pair_l (unhide G).s) ?_
           refine Stp.go ?_))
      constructor
      go_wp2_with (
        first
        | (go_at_call 27
           refine (unhide H270 _).mono ?_
           rintro e W180 ⟨rfl, K180⟩
           replace G := hide ((unhide G).step K180)
           clear K180
           refine Stp.go ?_))
      constructor
      go_wp2_with (
        first
        | (refine wpNew row63 (stC 0 0 0) rfl zero63 13 (by rfl) (by rfl) (by rfl) (.tmp 68) (by rfl) (by rfl) (by rfl) (stC 0 0 0) rfl (Pg.stC_one _ _ _) (by kernel_rfl) (by kernel_rfl) ?_
           intro W181 c1 e181 B181 K181
           replace G := hide ((unhide G).step K181)
           have M1 := hide B181
           clear e181 B181 K181
           refine Stp.go ?_))
      constructor
      go_wp2_with (
        first
        | (refine wpLoadA row29 (by rfl) (.tmp 72) (by rfl) b7 0 (by kernel_rfl) (u8s S0) l64S0 (pair_l (unhide G).s) ?_
           refine Stp.go ?_))
      constructor
      go_wp2_with (
        first
        | (go_at_call 12
           refine (unhide H120 _ (unhide G).first).mono ?_
           rintro e W182 ⟨rfl, K182⟩
           replace G := hide ((unhide G).step K182)
           clear K182
           refine Stp.go ?_))
      constructor
      go_wp2_with (
        first
        | (refine wpNew row27 (hdC 0 0) rfl zero27 15 (by rfl) (by rfl) (by rfl) (.tmp 75) (by rfl) (by rfl) (by rfl) (hdC 0 0) rfl (hdC_one _ _) (by kernel_rfl) (by kernel_rfl) ?_
           intro W183 c2 e183 B183 K183
           replace G := hide ((unhide G).step K183)
           have M2 := hide B183
           clear e183 B183 K183
           refine Stp.go ?_))
      constructor
      go_wp2_with (
        first
        | (go_at_call 11; refine (num11 _ _).mono ?_; rintro e wn ⟨rfl, rfl⟩))
      go_roundw
      case rel => exact ⟨1, by omega, by go_num, G⟩
      case measure => simp [intOf]
    · clear hk2
      go_wp2_with (
        first
        | (refine wpLoadA row29 (by rfl) (.tmp 65) (by rfl) b7 64 (by kernel_rfl) (u8s S1) l64S1 (pair_r hS0 (unhide G).s) ?_
           refine Stp.go ?_))
      constructor
      go_wp2_with (
        first
        | (go_at_call 27
           refine (unhide H271 _).mono ?_
           rintro e W184 ⟨rfl, K184⟩
           replace G := hide ((unhide G).step K184)
           clear K184
           refine Stp.go ?_))
      constructor
      go_wp2_with (
        first
        | (refine wpNew row63 (stC 0 0 0) rfl zero63 13 (by rfl) (by rfl) (by rfl) (.tmp 68) (by rfl) (by rfl) (by rfl) (stC 0 0 0) rfl (Pg.stC_one _ _ _) (by kernel_rfl) (by kernel_rfl) ?_
           intro W185 c1 e185 B185 K185
           replace G := hide ((unhide G).step K185)
           have M1 := hide B185
           clear e185 B185 K185
           refine Stp.go ?_))
      constructor
      go_wp2_with (
        first
        | (refine wpLoadA row29 (by rfl) (.tmp 72) (by rfl) b7 64 (by kernel_rfl) (u8s S1) l64S1 (pair_r hS0 (unhide G).s) ?_
           refine Stp.go ?_))
      constructor
      go_wp2_with (
        first
        | (go_at_call 12
           refine (unhide H121 _ (unhide G).first).mono ?_
           rintro e W186 ⟨rfl, K186⟩
           replace G := hide ((unhide G).step K186)
           clear K186
           refine Stp.go ?_))
      constructor
      go_wp2_with (
        first
        | (refine wpNew row27 (hdC 0 0) rfl zero27 15 (by rfl) (by rfl) (by rfl) (.tmp 75) (by rfl) (by rfl) (by rfl) (hdC 0 0) rfl (hdC_one _ _) (by kernel_rfl) (by kernel_rfl) ?_
           intro W187 c2 e187 B187 K187
           replace G := hide ((unhide G).step K187)
           have M2 := hide B187
           clear e187 B187 K187
           refine Stp.go ?_))
      constructor
      go_wp2_with (
        first
        | (go_at_call 11; refine (num11 _ _).mono ?_; rintro e wn ⟨rfl, rfl⟩))
      go_roundw
      case rel => exact ⟨2, by omega, by go_num, G⟩
      case measure => simp [intOf]
    · clear hk2
      have cp := fits_cell (unhide G).ra 3 (.int .i64 a.pg) rfl
      go_wp2_with (
        first
        | (refine wpLoadA row29 (by rfl) (.tmp 85) (by rfl) b7 0 (by kernel_rfl) (u8s S0) l64S0 (pair_l (unhide G).s) ?_
           refine Stp.go ?_))
      constructor
      go_wp2_with (
        first
        | (refine wpLoadA row29 (by rfl) (.tmp 87) (by rfl) b7 64 (by kernel_rfl) (u8s S1) l64S1 (pair_r hS0 (unhide G).s) ?_
           refine Stp.go ?_))
      constructor
      go_wp2_with (
        first
        | (go_at_call 28
           refine (unhide H28 _).mono ?_
           rintro e W188 ⟨rfl, K188⟩
           replace G := hide ((unhide G).step K188)
           clear K188
           refine Stp.go ?_))
      constructor
      go_wp2_with (
        first
        | (refine wpLoadA row61 (by rfl) (.tmp 5) (by rfl) b5 0 (by kernel_rfl) (verC n v) lv (unhide G).rv.range ?_
           refine Stp.go ?_))
      constructor
      go_wp2_with (
        first
        | (go_at_call 29
           refine (unhide H29 _).mono ?_
           rintro e W189 ⟨rfl, K189⟩
           replace G := hide ((unhide G).step K189)
           have cv := fits_cell (unhide G).rv 0 (.int .i64 n) rfl
           have cp := fits_cell (unhide G).ra 3 (.int .i64 a.pg) rfl
           clear K189
           refine Stp.go ?_))
      constructor
      go_wp2_with (
        first
        | (refine wpLoadA row61 (by rfl) (.tmp 5) (by rfl) b5 0 (by kernel_rfl) (verC n v) lv (unhide G).rv.range ?_
           refine Stp.go ?_))
      constructor
      go_wp2_with (
        first
        | (go_at_call 30
           refine (unhide H30a _).mono ?_
           rintro e W190 ⟨rfl, K190⟩
           replace G := hide ((unhide G).step K190)
           clear K190 cv cp
           refine Stp.go ?_))
      constructor
      go_wp2_with (
        first
        | (go_at_call 20
           refine (unhide H20 _).mono ?_
           rintro e W191 ⟨rfl, K191⟩
           replace G := hide ((unhide G).step K191)
           clear K191
           refine Stp.go ?_))
      constructor
      go_wp2_with (
        first
        | (refine wpNew row25 (recC zrec) lz zero25 17 (by rfl) (by rfl) (by rfl) (.tmp 104) (by rfl) (by rfl) (by rfl) (recC zrec) lz (recC_one _) (by kernel_rfl) (by kernel_rfl) ?_
           intro W192 c3 e192 B192 K192
           replace G := hide ((unhide G).step K192)
           have M3 := hide B192
           clear e192 B192 K192))
      refine wp_region_any mixed (wpAny_tq 15 rfl (by kernel_rfl) [some (.bool false), some (.bool true), some (.bool true), some (.pointer (some ⟨b3, 3, none⟩)), some (.int .i64 a.pg), some (aggV (verC n v)), some (aggV (u8s X)), some (.pointer (some ⟨b3, 3, none⟩)), some (.int .i64 a.pg), some (aggV (verC n v)), some (aggV (u8s Y)), some (.bool false), some (.bool true), some (.bool true), some (.bool true)] rfl (by kernel_rfl) (by kernel_rfl) ?_ ?_)
      · intro i o' hi hsk ho a' w2 hout hin hk2
        replace hk2 : Kept [] W192 w2 := ⟨hk2.os, hk2.tape, hk2.output, hk2.size, hk2.block⟩
        match i, ho, hsk with
        | 0, ho, hsk =>
          obtain rfl := Option.some.inj ho
          exact wp_move (.tmp 19) rfl _ ((hout 19 (by kernel_rfl)).trans rfl) ⟨_, rfl, tq_is _ _ _ _ rfl, Kept.refl _ _, fun _ _ _ _ _ => trivial⟩
        | 1, ho, hsk =>
          obtain rfl := Option.some.inj ho
          have e0 : a'.eval (.tmp 107) = .bool false := is_tq (hin 0 107 (by kernel_rfl) (by kernel_rfl)) rfl
          exact o_not (.tmp 107) rfl _ e0 ⟨_, rfl, tq_is _ _ _ _ rfl, Kept.refl _ _, fun _ _ _ _ _ => trivial⟩
        | 2, ho, hsk =>
          obtain rfl := Option.some.inj ho
          have e0 : a'.eval (.tmp 108) = .bool true := is_tq (hin 1 108 (by kernel_rfl) (by kernel_rfl)) rfl
          exact wp_move (.tmp 108) rfl _ e0 ⟨_, rfl, tq_is _ _ _ _ rfl, Kept.refl _ _, fun _ _ _ _ _ => trivial⟩
        | 3, ho, hsk =>
          obtain rfl := Option.some.inj ho
          exact o_fld25 (.tmp 3) rfl b3 ((hout 3 (by kernel_rfl)).trans rfl) ⟨_, rfl, tq_is _ _ _ _ rfl, Kept.refl _ _, fun _ _ _ _ _ => trivial⟩
        | 4, ho, hsk =>
          obtain rfl := Option.some.inj ho
          have e0 : a'.eval (.tmp 110) = .pointer (some ⟨b3, 3, none⟩) := is_tq (hin 3 110 (by kernel_rfl) (by kernel_rfl)) rfl
          exact o_load3 (.tmp 110) rfl ⟨b3, 3, none⟩ _ e0 (fits_cell ((unhide G).ra.kept hk2 (by simp)) 3 (.int .i64 a.pg) rfl) ⟨_, rfl, tq_is _ _ _ _ rfl, Kept.refl _ _, fun _ _ _ _ _ => trivial⟩
        | 5, ho, hsk =>
          obtain rfl := Option.some.inj ho
          exact wp_loadA row61 (.tmp 5) rfl b5 0 ((hout 5 (by kernel_rfl)).trans rfl) (verC n v) lv ((unhide G).rv.kept hk2 (by simp)).range ⟨_, rfl, tq_is _ _ _ _ rfl, Kept.refl _ _, fun _ _ _ _ _ => trivial⟩
        | 6, ho, hsk =>
          obtain rfl := Option.some.inj ho
          have e0 : a'.eval (.tmp 111) = .int .i64 a.pg := is_tq (hin 4 111 (by kernel_rfl) (by kernel_rfl)) rfl
          have e1 : a'.eval (.tmp 112) = aggV (verC n v) := is_tq (hin 5 112 (by kernel_rfl) (by kernel_rfl)) rfl
          refine wp_callF 30 _ _ rfl #[.int .i64 a.pg, aggV (verC n v), .int .i64 0] (by simp [e0, e1]; rfl) (cf30 _ _) ((unhide H30a _).mono ?_)
          rintro e w3 ⟨rfl, hk3⟩
          exact ⟨_, rfl, _, rfl, tq_is _ _ _ _ rfl, hk3, fun _ _ _ _ _ => trivial⟩
        | 7, ho, hsk =>
          obtain rfl := Option.some.inj ho
          exact o_fld25 (.tmp 3) rfl b3 ((hout 3 (by kernel_rfl)).trans rfl) ⟨_, rfl, tq_is _ _ _ _ rfl, Kept.refl _ _, fun _ _ _ _ _ => trivial⟩
        | 8, ho, hsk =>
          obtain rfl := Option.some.inj ho
          have e0 : a'.eval (.tmp 114) = .pointer (some ⟨b3, 3, none⟩) := is_tq (hin 7 114 (by kernel_rfl) (by kernel_rfl)) rfl
          exact o_load3 (.tmp 114) rfl ⟨b3, 3, none⟩ _ e0 (fits_cell ((unhide G).ra.kept hk2 (by simp)) 3 (.int .i64 a.pg) rfl) ⟨_, rfl, tq_is _ _ _ _ rfl, Kept.refl _ _, fun _ _ _ _ _ => trivial⟩
        | 9, ho, hsk =>
          obtain rfl := Option.some.inj ho
          exact wp_loadA row61 (.tmp 5) rfl b5 0 ((hout 5 (by kernel_rfl)).trans rfl) (verC n v) lv ((unhide G).rv.kept hk2 (by simp)).range ⟨_, rfl, tq_is _ _ _ _ rfl, Kept.refl _ _, fun _ _ _ _ _ => trivial⟩
        | 10, ho, hsk =>
          obtain rfl := Option.some.inj ho
          have e0 : a'.eval (.tmp 115) = .int .i64 a.pg := is_tq (hin 8 115 (by kernel_rfl) (by kernel_rfl)) rfl
          have e1 : a'.eval (.tmp 116) = aggV (verC n v) := is_tq (hin 9 116 (by kernel_rfl) (by kernel_rfl)) rfl
          refine wp_callF 30 _ _ rfl #[.int .i64 a.pg, aggV (verC n v), .int .i64 1] (by simp [e0, e1]; rfl) (cf30 _ _) ((unhide H30b _).mono ?_)
          rintro e w3 ⟨rfl, hk3⟩
          exact ⟨_, rfl, _, rfl, tq_is _ _ _ _ rfl, hk3, fun _ _ _ _ _ => trivial⟩
        | 11, ho, hsk =>
          obtain rfl := Option.some.inj ho
          have e0 : a'.eval (.tmp 113) = aggV (u8s X) := is_tq (hin 6 113 (by kernel_rfl) (by kernel_rfl)) rfl
          have e1 : a'.eval (.tmp 117) = aggV (u8s Y) := is_tq (hin 10 117 (by kernel_rfl) (by kernel_rfl)) rfl
          refine wp_callF 18 _ _ rfl #[aggV (u8s X), aggV (u8s Y)] (by simp [e0, e1]) (cf18 _ _) ((unhide H18c _).mono ?_)
          rintro e w3 ⟨rfl, hk3⟩
          exact ⟨_, rfl, _, rfl, tq_is _ _ _ _ rfl, hk3, fun _ _ _ _ _ => trivial⟩
        | 12, ho, hsk =>
          obtain rfl := Option.some.inj ho
          have e0 : a'.eval (.tmp 118) = .bool false := is_tq (hin 11 118 (by kernel_rfl) (by kernel_rfl)) rfl
          exact o_not (.tmp 118) rfl _ e0 ⟨_, rfl, tq_is _ _ _ _ rfl, Kept.refl _ _, fun _ _ _ _ _ => trivial⟩
        | 13, ho, hsk =>
          obtain rfl := Option.some.inj ho
          have e0 : a'.eval (.tmp 109) = .bool true := is_tq (hin 2 109 (by kernel_rfl) (by kernel_rfl)) rfl
          have e1 : a'.eval (.tmp 119) = .bool true := is_tq (hin 12 119 (by kernel_rfl) (by kernel_rfl)) rfl
          exact o_pick (.tmp 109) (.tmp 119) rfl _ e0 e1 ⟨_, rfl, tq_is _ _ _ _ rfl, Kept.refl _ _, fun _ _ _ _ _ => trivial⟩
        | 14, ho, hsk =>
          obtain rfl := Option.some.inj ho
          have e0 : a'.eval (.tmp 120) = .bool true := is_tq (hin 13 120 (by kernel_rfl) (by kernel_rfl)) rfl
          exact wp_assignV (.tmp 120) rfl _ e0 ⟨_, rfl, tq_is _ _ _ _ rfl, Kept.refl _ _, fun _ _ _ _ _ => trivial⟩
      intro w9 hk9
      replace hk9 : Kept [] W192 w9 := ⟨hk9.os, hk9.tape, hk9.output, hk9.size, hk9.block⟩
      simp only [valsQ, List.map_cons, List.map_nil, Option.getD_some, List.take_succ_cons, List.take_zero, putAll, Act.put, List.setIfInBounds_toArray, List.set_cons_succ, List.set_cons_zero]
      refine wpAny_done (by kernel_rfl) ?_ _
      go_wp2_with fail
      go_ret
      exact ⟨rfl, (unhide G).kept.trans hk9⟩

end Go.Proofs.YtkpkiibahfdomaaDoor

namespace Go.Proofs.YtkpkiibahfdomaaDoor
open Go.RowKit

theorem torn6 (a b : Rec) (ha : a.Ok) (hb : b.Ok) (n : Int) (v : List Int) (hv : Byts 96 v) (w : World) (hF : First w) : Calls Tryd.prog 6 #[aggV (recC a), aggV (recC b), aggV (verC n v)] w fun e w' => e = .returned (.bool true) ∧ Kept [] w w' := by
  have P8a := fun w => put8 a ha.bd w
  have P8b := fun w => put8 b hb.bd w
  have la := ha.bd.len
  have lb := hb.bd.len
  have lv := hv.len
  have zz : zs 128 = zs 64 ++ zs 64 := rfl
  have hz : (zs 64).length = 64 := by simp [zs]
  have la0 := (laidR_byts (r := a) (h := 0) (by omega) ha.bd)
  have la1 := (laidR_byts (r := a) (h := 1) (by omega) ha.bd)
  have lb0 := (laidR_byts (r := b) (h := 0) (by omega) hb.bd)
  have lb1 := (laidR_byts (r := b) (h := 1) (by omega) hb.bd)
  cases hA : isRec a with
  | false =>
    have ea : putR a = (zs 64 ++ zs 64, 2) := by rw [← zz]; simp [putR, hA]
    rw [ea] at P8a
    cases hB : isRec b with
    | false =>
      have eb : putR b = (zs 64 ++ zs 64, 2) := by rw [← zz]; simp [putR, hB]
      rw [eb] at P8b
      exact torn_bad22 a b n v _ _ _ _ la lb lv hz hz hz hz P8a P8b w hF
    | true =>
      have eb : putR b = (laidR b 0 ++ laidR b 1, 0) := by simp [putR, hB]
      rw [eb] at P8b
      exact torn_bad20 a b n v _ _ _ _ la lb lv hz hz lb0.len lb1.len P8a P8b w hF
  | true =>
    have ea : putR a = (laidR a 0 ++ laidR a 1, 0) := by simp [putR, hA]
    rw [ea] at P8a
    cases hB : isRec b with
    | false =>
      have eb : putR b = (zs 64 ++ zs 64, 2) := by rw [← zz]; simp [putR, hB]
      rw [eb] at P8b
      exact torn_bad02 a b n v _ _ _ _ la lb lv la0.len la1.len hz hz P8a P8b w hF
    | true =>
      have eb : putR b = (laidR b 0 ++ laidR b 1, 0) := by simp [putR, hB]
      rw [eb] at P8b
      have P270 := fun w => Pg.stamp16 (laidR a 0) la0 w
      rw [stamp_rec a (by omega)] at P270
      have P271 := fun w => Pg.stamp16 (laidR a 1) la1 w
      rw [stamp_rec a (by omega)] at P271
      have P120 := fun w hF => takehead12 (laidR a 0) la0 w hF
      rw [take_rec a (by omega)] at P120
      have P121 := fun w hF => takehead12 (laidR a 1) la1 w hF
      rw [take_rec a (by omega)] at P121
      have P28 := fun w => Pg.whole14 a.pg (laidR a 0) (laidR a 1) la0 la1 w
      rw [page_rec a.pg a ha.bd] at P28
      have P29 := fun w => Pg.may9 n v lv w
      cases hD : recEq (withBd b a.bd) a with
      | true =>
        cases hM : Pg.mayB n v with
        | false =>
          rw [hM] at P29
          exact torn_same_no a b n v _ _ _ _ la lb lv la0.len la1.len lb0.len lb1.len P8a P8b P270 P120 P271 P121 P28 P29 hD w hF
        | true =>
          rw [hM] at P29
          by_cases hn : n = 0
          · exact torn_same_zero a b n v _ _ _ _ la lb lv la0.len la1.len lb0.len lb1.len P8a P8b P270 P120 P271 P121 P28 P29 hn hD w hF
          · have hr : 0 ≤ n ∧ n ≤ 2147483647 := by simp only [Pg.mayB, decide_eq_true_eq] at hM; omega
            have fx := Pg.fst_byts (p := a.pg) (n := n) hv
            have fy := Pg.snd_byts (p := a.pg) (n := n) hv
            have P20 := fun w => stamp20 (Pg.fstL a.pg n v) fx w
            rw [st_page fx (fst_first hn)] at P20
            have P18 := fun w => whole18 (Pg.fstL a.pg n v) (Pg.sndL a.pg n v) fx fy w
            rw [whole_first fx fy (fst_first hn) (by omega)] at P18
            exact torn_same_yes a b n v _ _ _ _ la lb lv la0.len la1.len lb0.len lb1.len P8a P8b P270 P120 P271 P121 P28 P29 hn _ _ (fun w => Pg.half_fst a.pg n v hv hr w) (fun w => Pg.half_snd a.pg n v hv hr w) P20 P18 hD w hF
      | false =>
        have hne : ¬ hdsEq a b := fun h => by rw [(recEq_hds a b).2 h] at hD; cases hD
        have Q18a := fun w => whole18 (laidR a 0) (laidR b 1) la0 lb1 w
        rw [whole_torn hA hB ha.bd hb.bd hne] at Q18a
        have Q18b := fun w => whole18 (laidR b 0) (laidR a 1) lb0 la1 w
        rw [whole_torn hB hA hb.bd ha.bd (fun h => hne h.symm)] at Q18b
        cases hM : Pg.mayB n v with
        | false =>
          rw [hM] at P29
          exact torn_other_no a b n v _ _ _ _ la lb lv la0.len la1.len lb0.len lb1.len P8a P8b P270 P120 P271 P121 P28 P29 Q18a Q18b hD w hF
        | true =>
          rw [hM] at P29
          by_cases hn : n = 0
          · exact torn_other_zero a b n v _ _ _ _ la lb lv la0.len la1.len lb0.len lb1.len P8a P8b P270 P120 P271 P121 P28 P29 Q18a Q18b hn hD w hF
          · have hr : 0 ≤ n ∧ n ≤ 2147483647 := by simp only [Pg.mayB, decide_eq_true_eq] at hM; omega
            have fx := Pg.fst_byts (p := a.pg) (n := n) hv
            have fy := Pg.snd_byts (p := a.pg) (n := n) hv
            have P20 := fun w => stamp20 (Pg.fstL a.pg n v) fx w
            rw [st_page fx (fst_first hn)] at P20
            have P18 := fun w => whole18 (Pg.fstL a.pg n v) (Pg.sndL a.pg n v) fx fy w
            rw [whole_first fx fy (fst_first hn) (by omega)] at P18
            exact torn_other_yes a b n v _ _ _ _ la lb lv la0.len la1.len lb0.len lb1.len P8a P8b P270 P120 P271 P121 P28 P29 Q18a Q18b hn _ _ (fun w => Pg.half_fst a.pg n v hv hr w) (fun w => Pg.half_snd a.pg n v hv hr w) P20 P18 hD w hF

end Go.Proofs.YtkpkiibahfdomaaDoor
