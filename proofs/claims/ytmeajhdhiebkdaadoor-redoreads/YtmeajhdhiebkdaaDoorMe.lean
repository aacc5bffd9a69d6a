/-
  What RedoReads leans on.
-/
import Derived.Test.YtmeajhdhiebkdaaDoorLw
import Derived.Test.YtmeajhdhiebkdaaDoorLl
import Derived.Test.YtmeajhdhiebkdaaDoorLj
import Derived.RangeFuncNested
import Derived.RangeFuncWrites
import Derived.Test.YtmeajhdhiebkdaaDoorMc
import Derived.Test.YtmeajhdhiebkdaaDoorMd

/-
  slices.Clone of records, and Records of a log that stands.
-/
namespace Go.Proofs.YtmeajhdhiebkdaaDoor
set_option maxRecDepth 100000
open Go.RowKit

theorem wpAppM {ops : Array Oper} {rest : List Oper} {op : Oper} {a : Act} {w : World} {Q : Exit → Act → World → Prop} (hgd : op.guard = none) (s x : Operand) (ho : op.op = .call { callee := .builtin .append, args := #[s, x], argTypes := #[37, 37] }) (base : Nat) (v : Value) (hs : a.eval s = v) (hO : w.ownsRow base 45 101 v 0 []) (ad : Addr) (m c : Nat) (news : List Value) (hx : a.eval x = .slice (some ad) m c) (hl : news.length = m * 101) (hnews : ∀ j u, news[j]? = some u → w.cell? (ad.add j) = some u) (hone : ∀ u ∈ news, u.oneCell' = true) (hm : m ≤ 1000) (hb : base ≤ w.heap.size)
    (h : ∀ v' w', w'.ownsRow base 45 101 v' m news → Kept v.ownBlock.toList w w' → wpList Tryd.prog ops Q rest (a.put op.dst v') w') : wpList Tryd.prog ops Q (op :: rest) a w :=
  wpList_plain hgd fun K hK => by
    obtain ⟨i, hi, hz0, hz1, hz2⟩ := info_parts Tryd.info45
    obtain ⟨v', w', hr, g2, g3, _, _⟩ := run_append_own_at (P := Tryd.prog) w base 37 op.type 45 i _ 101 136 Tryd.sl37 hi hz0 hz1 hz2 rfl (by decide) v 0 [] hO ad m c news hl hnews hone (by unfold maxLen; omega) (by omega) hb
    rw [Nat.zero_add, List.nil_append] at g2
    unfold Oper.wp execOp
    simp only [ho, resolve, invoke, builtin, Sem.run_bind, Sem.run_pure, Result.andThen_ok, List.map_toArray, List.map_cons, List.map_nil, hs, hx, hr]
    exact hK _ _ (h v' w' g2 (Kept.of_grown g3 (fun k e _ => by rw [e]; simp)))
theorem bs37e (w : World) : (Instr.buildSlice 37 0 #[]).run Tryd.prog w = .ok (.slice (some ⟨w.heap.size, 0, none⟩) 0 0) (w.alloc (.cells #[] 45)) := by kernel_rfl
theorem wpBs37e {ops : Array Oper} {rest : List Oper} {op : Oper} {a : Act} {w : World} {Q : Exit → Act → World → Prop} (hgd : op.guard = none) (ho : op.op = .buildSlice 37 0 #[])
    (h : ∀ W g, g = w.heap.size → W.ownsRow w.heap.size 45 101 (.slice (some ⟨g, 0, none⟩) 0 0) 0 [] → Kept [] w W → wpList Tryd.prog ops Q rest (a.put op.dst (.slice (some ⟨g, 0, none⟩) 0 0)) W) : wpList Tryd.prog ops Q (op :: rest) a w :=
  wpList_plain hgd fun K hK => by
    unfold Oper.wp execOp
    simp only [ho, List.map_toArray, List.map_nil, Sem.run_bind, bs37e, Result.andThen_ok]
    exact hK _ _ (h _ _ rfl ⟨rfl, .inr ⟨w.heap.size, 0, #[], rfl, Nat.le_refl _, heap_alloc_new w _, Nat.le_refl _, by decide, rfl, rfl⟩⟩ ((Kept.refl _ _).alloc _))
theorem clone51 (v : Value) (R : List Rc.Rec) (w : World) (h : OwnO w v R.length (cellsR R)) (hm : R.length ≤ 1000) :
    Calls Tryd.prog 51 #[v] w fun e w' => ∃ v', e = .returned v' ∧ OwnO w' v' R.length (cellsR R) ∧ (∀ k, v'.ownBlock = some k → w.heap.size ≤ k) ∧ Kept [] w w' := by
  have hone : ∀ u ∈ cellsR R, u.oneCell' = true := by
    intro u hu
    simp only [cellsR, List.mem_flatten, List.mem_map] at hu
    obtain ⟨l, ⟨r, _, rfl⟩, hl⟩ := hu
    exact recC_one r u hl
  have hlen := h.len
  obtain ⟨ao, c, hv, _, hnil⟩ := h.sl
  subst hv
  obtain ⟨m, hme⟩ : ∃ m, R.length = m := ⟨_, rfl⟩
  rw [hme] at h hlen hm ⊢
  cases ao with
  | none =>
    obtain rfl : c = 0 := hnil rfl
    obtain rfl : m = 0 := by
      rcases h.lie with ⟨_, h1⟩ | ⟨g, off, cap, cur, h1, _⟩
      · exact h1
      · cases h1
    have hq : ∀ W, Sem.run Tryd.prog (binOp BinOp.eql 37 (.slice none 0 0) (.slice none 0 0)) W = .ok (.bool true) W := fun W => by kernel_rfl
    have HO := hide h
    clear h
    go_enter Tryd.func51, Tryd.ntmps51
    go_wp2_with fail
    go_ret
    exact ⟨_, rfl, unhide HO, (fun k e => by cases e), Kept.refl _ _⟩
  | some ad =>
    have HO := hide h
    have HL := hide hlen
    have HN := hide hone
    have hq : ∀ W, Sem.run Tryd.prog (binOp BinOp.eql 37 (.slice (some ad) m c) (.slice none 0 0)) W = .ok (.bool false) W := fun W => by kernel_rfl
    clear h hlen hone hnil
    go_enter Tryd.func51, Tryd.ntmps51
    go_wp2_with (
      first
      | (refine wpBs37e (by rfl) (by rfl) ?_
         intro W1 g1 e1 B1 K1
         have HB := hide B1
         have HK := hide K1
         have HE : Hid (w.heap.size ≤ g1) := by rw [e1]; exact (Nat.le_refl _ : w.heap.size ≤ w.heap.size)
         clear e1 B1 K1
         refine Stp.go ?_))
    constructor
    go_wp2_with (
      first
      | (refine wpAppM (by rfl) (.tmp 5) (.tmp 6) (by rfl) w.heap.size _ (by kernel_rfl) (unhide HB) ad m c (cellsR R) (by kernel_rfl) (unhide HL) (fun j u hj => (OwnO.kept (unhide HO) (unhide HK) (by simp)).cell hj) (unhide HN) hm (unhide HK).size ?_
         intro v4 W4 B4 K4
         have HB4 := hide B4
         have HK4 : Hid (Kept [] w W4) := (unhide HK).fresh K4 (fun i hi hl => by have := unhide HE; simp [Value.ownBlock] at hi; omega)
         clear B4 K4
         refine Stp.go ?_))
    constructor
    go_wp2_with fail
    go_ret
    refine ⟨_, rfl, own_O (unhide HB4), fun k e => ?_, unhide HK4⟩
    rcases (unhide HB4).2 with ⟨h1, _⟩ | ⟨g, cap, cur, h1, h2, _⟩
    · rw [h1] at e; cases e
    · rw [h1] at e; cases e; exact h2
theorem rz37 (w : World) : (Instr.alloc 37 true (.tuple #[])).run Tryd.prog w = .ok (P0 w.heap.size) (w.alloc (.cells [Value.slice none 0 0].toArray 37)) := by kernel_rfl
/-- Records of a log that stands: a row of its own. -/
theorem recs29 (l b g : Nat) (rv : Value) (D : Dv.Dev) (L : Lo) (w : World) (h : Lt w l b g rv D L) : Calls Tryd.prog 29 #[P0 l] w fun e w' => ∃ c u, e = .returned (.func (.func 52) #[] #[P0 c]) ∧ Blk w' c 37 [u] ∧ OwnO w' u L.R.length (cellsR L.R) ∧ (∀ k, u.ownBlock = some k → w.heap.size ≤ k) ∧ w.heap.size ≤ c ∧ Kept [] w w' := by
  have HL := hide h
  have HS : Hid (L.R.length ≤ 1000) := by have := h.lo; show _ ≤ _; omega
  clear h
  go_enter Tryd.func29, Tryd.ntmps29
  go_wp2_with (
    first
    | (refine wpAllocW [.slice none 0 0] (fun w => rz37 w) 3 (by rfl) (by rfl) (by rfl) ?_
       intro W2 c ec B2 K2
       have HB := hide B2
       have HK := hide K2
       have HG : Hid (w.heap.size ≤ c) := by rw [ec]; exact (Nat.le_refl _ : w.heap.size ≤ w.heap.size)
       replace HL := hide ((unhide HL).kept0 K2)
       have hc9 := (unhide HL).cells.2.2.2.2.2.1
       clear ec B2 K2
       refine Stp.go ?_))
  constructor
  go_wp2_with (
    first
    | (go_at_call 33
       refine (none33 l b g rv D L _ (unhide HL)).mono ?_
       rintro e W3 ⟨rfl, hw9⟩
       replace hw9 := hw9.symm
       subst hw9
       refine Stp.go ?_))
  constructor
  go_wp2_with (
    first
    | (go_at_call 51
       refine (clone51 rv L.R _ (unhide HL).row (unhide HS)).mono ?_
       rintro e W4 ⟨u, rfl, hO, hu, K4⟩
       have HO := hide hO
       have HU := hide hu
       obtain ⟨ro, rc, hur, _, _⟩ := hO.sl
       have HUR := hide hur
       replace HB := hide ((unhide HB).kept K4 (by simp))
       have HZ := hide (unhide HK).size
       replace HK := hide ((unhide HK).trans K4)
       clear hO hu hur K4 hc9
       refine Stp.go ?_))
  constructor
  go_wp2_with (
    first
    | (refine wpSt37 (by rfl) (.tmp 3) (.tmp 11) (by rfl) (by rfl) c 0 37 [.slice none 0 0] u (by kernel_rfl) (by kernel_rfl) ⟨_, _, _, unhide HUR⟩ (unhide HB) (by simp) ?_
       intro W5 B5 K5
       have HB5 : Hid (Blk W5 c 37 [u]) := B5
       have HO5 : Hid (OwnO W5 u L.R.length (cellsR L.R)) := (unhide HO).kept K5 (fun k e hm => by
         simp at hm
         subst hm
         obtain ⟨cs, hcs⟩ := (unhide HO).block _ e
         have h9 := unhide HB
         unfold Blk at h9
         rw [h9] at hcs
         injection hcs with hcs
         injection hcs with _ hcs
         exact absurd hcs (by decide))
       have HK5 : Hid (Kept [] w W5) := (unhide HK).fresh K5 (fun i hi hl => by have := unhide HG; simp at hi; omega)
       clear B5 K5
       refine Stp.go ?_))
  constructor
  go_wp2_with fail
  go_ret
  exact ⟨c, u, rfl, unhide HB5, unhide HO5, (fun k e => Nat.le_trans (unhide HZ) (unhide HU k e)), unhide HG, unhide HK5⟩

end Go.Proofs.YtmeajhdhiebkdaaDoor

/-
  The records of a log, gone over: the iterator.
-/
namespace Go.Proofs.YtmeajhdhiebkdaaDoor
set_option maxRecDepth 100000
open Go.RowKit Go.Shelf
attribute [local go_sem] Oper.semAt_some

theorem inIdx37 {F : Fence} {n : Nat} {ops : Array Oper} {rest : List Oper} {o : Oper} {a : Act} {w : World} {Q : Exit → Act → World → Prop} (hF : ∀ f, F.fn f) (hw : Region.wanted o (yielded ops a.tmps) = true) (x y : Operand) (ho : o.op = .indexAddr 37 x y) (hsem : o.semAt F.round a.eval = execOp a.eval o) (g off m c k : Nat) (hk : k < m) (hx : a.eval x = .slice (some ⟨g, off, none⟩) m c) (hy : a.eval y = .int .i64 k)
    (h : wpListIn F n Tryd.prog ops Q rest (a.put o.dst (.pointer (some ⟨g, off + k * 101, none⟩))) w) : wpListIn F n Tryd.prog ops Q (o :: rest) a w := by
  refine wpListIn_want hw (wpIn_value (v := .pointer (some ⟨g, off + k * 101, none⟩)) hF hsem ?_ h)
  unfold execOp
  simp only [ho, hx, hy]
  simp [go_sem, hk, Addr.add_lit]
set_option maxHeartbeats 4000000 in
/-- Going over a row of records: what is handed on is told by its place; the caller's fact holds the row. -/
theorem rec_in (n : Nat) (hn : 1 ≤ n) (lp c : Nat) (u : Value) (R : List Rc.Rec) (W : World) (hc : Blk W c 37 [u]) (hb : ∀ r ∈ R, Rc.Byts 96 r.bd) (hR : R.length ≤ 1000)
    (I Ix : Nat → World → Prop) (hI : ∀ k A B, I k A → A.grownBy B none → I k B) (hIO : ∀ k A, I k A → OwnO A u R.length (cellsR R))
    (hY : ∀ k r W1, R[k]? = some r → I k W1 → YieldAt Fence.wide (n - 1) Tryd.prog lp #[aggV (Rc.recC r)] W1 fun e W' => (e = .returned (.bool true) ∧ I (k + 1) W') ∨ (e = .returned (.bool false) ∧ Ix (k + 1) W'))
    (h0 : I 0 W) :
    CallsIn Fence.wide n Tryd.prog 52 #[.func (.yield lp) #[] #[], P0 c] W fun e W' => (∃ v, e = .returned v) ∧ (I R.length W' ∨ ∃ k, k < R.length ∧ Ix (k + 1) W') := by
  have hFw := wideF
  obtain ⟨ro, rc, hu, _, _⟩ := (hIO 0 W h0).sl
  subst hu
  have c1 := fits_cell hc 0 _ rfl
  obtain ⟨m, hme⟩ : ∃ m, R.length = m := ⟨_, rfl⟩
  have HI0 := hide h0
  have HIO := hide hIO
  have HB := hide hb
  have HME := hide hme
  rw [hme] at c1 hR ⊢
  rw [callsIn_wide]
  clear hc h0 hme hIO hb
  go_enter Tryd.func52, Tryd.ntmps52
  go_wp2_with fail
  rw [← wpIn_wide (n := n)]
  gi_loopw [7] (fun i w1 => ∃ k : Nat, k ≤ m ∧ i = .int .i64 k ∧ Hid (I k w1)) (fun i _ => m - (intOf i).toNat)
  case atStart => exact ⟨0, by omega, rfl, HI0⟩
  case round =>
    clear HI0 c1
    obtain ⟨k, hkm, rfl, HI⟩ := hrel
    by_cases hlt : (k : Int) < (m : Int)
    · have hkn : k < m := by omega
      have hkR : k < R.length := by rw [unhide HME]; exact hkn
      obtain ⟨r, hr⟩ : ∃ r, R[k]? = some r := ⟨_, List.getElem?_eq_getElem hkR⟩
      have hO := unhide HIO k wr (unhide HI)
      obtain ⟨gb, off, c9, hu9, hrg⟩ := OwnO.rec_at hO (unhide HB) hkR
      rw [(List.getElem?_eq_some_iff.1 hr).2] at hrg
      rw [unhide HME] at hu9
      injection hu9 with hu1 hu2 hu3
      subst hu1
      have hrb := unhide HB r (List.mem_iff_getElem?.2 ⟨k, hr⟩)
      have HLr := hide (recC_len hrb)
      have HRG := hide hrg
      have HSK := hide hr
      clear hO hu2 hu3 hrg hrb hr
      gi_wp2_with (
        first
        | (refine inIdx37 wideF (by rfl) (.tmp 5) (.tmp 7) (by rfl) (by rfl) gb off m rc k hkn (by rfl) (by rfl) ?_)
        | (refine inLoadA row45 wideF (by rfl) (.tmp 9) (by rfl) (by rfl) gb (off + k * 101) (by rfl) (Rc.recC r) (unhide HLr) (unhide HRG) ?_)
        | (refine inNew row45 (Rc.recC Rc.zrec) (recC_len (r := Rc.zrec) (Rc.zs_byts 96)) (fun w => Rc.zero25 w) 4 (by rfl) wideF (by rfl) (by rfl) (by rfl) (.tmp 10) (by rfl) (by rfl) (fun _ => by rfl) (by rfl) (Rc.recC r) (unhide HLr) (recC_one r) (by rfl) (by rfl) ?_
           intro W7 q4 e4 B4 K4
           have HB4 := hide B4
           have hI7 := hI _ _ _ (unhide HI) (grown_of_kept K4)
           obtain ⟨fn, tmps, assign, body, hy, hR9⟩ := hY k r W7 (unhide HSK) hI7
           have hR' := hide hR9
           clear hR9 hI7
           clear e4 B4 K4)
        | (refine inLoadA row45 wideF (by rfl) (.tmp 4) (by rfl) (by rfl) q4 0 (by rfl) (Rc.recC r) (unhide HLr) (unhide HB4).range ?_))
      refine (unhide hR').mono ?_
      rintro e W8 (⟨rfl, hI8⟩ | ⟨rfl, hX8⟩)
      · have HI8 := hide hI8
        clear hI8 hR' hy
        gi_wp2
        go_roundw
        case rel => exact ⟨k + 1, by omega, by go_num, HI8⟩
        case measure => simp [intOf]; omega
      · have HX8 := hide hX8
        clear hX8 hR' hy
        gi_wp2
        refine bodyPost_ret (results_none rfl _ _ _) rfl ?_
        exact ⟨⟨_, rfl⟩, .inr ⟨k, hkn, unhide HX8⟩⟩
    · gi_wp2_with fail
      go_end0
      refine ⟨⟨_, rfl⟩, .inl ?_⟩
      rw [show m = k by omega]
      exact unhide HI

end Go.Proofs.YtmeajhdhiebkdaaDoor

/-
  A range over the records of a log: the round is told what it gets.
-/
namespace Go.Proofs.YtmeajhdhiebkdaaDoor
set_option maxRecDepth 100000
open Go.RowKit Go.Shelf

theorem wp_rangeR (c : Nat) (u : Value) (S : List Rc.Rec) {gv : Operand} {ps : Array Tmp} {assign body : Code} {Q : Exit → Act → World → Prop} {a : Act} {w : World}
    (hg : a.eval gv = .func (.func 52) #[] #[P0 c]) (hps : ps.size = 1) (hc : Blk w c 37 [u]) (hb : ∀ r ∈ S, Rc.Byts 96 r.bd) (hSl : S.length ≤ 1000)
    (I : List Rc.Rec → World → Prop) (Ix : Code → List Rc.Rec → World → Prop) (hI : OwnFrom w.heap.size I) (hIO : ∀ s A, I s A → OwnO A u S.length (cellsR S)) (hIx : ∀ c, OwnFrom w.heap.size (Ix c)) (h0 : I [] w)
    (Fr : Nat → Rc.Rec → Act → World → Prop) (hFr : ∀ k x a', OwnFrom w.heap.size (fun (_ : Unit) W => Fr k x a' W))
    (hassign : ∀ (l : Nat) (k : Nat) (x : Rc.Rec) (W : World) (K : Act → World → Prop), I (S.take k) W → S[k]? = some x → (∀ a' W', Kept [] W W' → Fr k x a' W' → K a' W') →
      assign.wpIn (Fence.wide.inRound l) 1 Tryd.prog (Exit.then K (fun _ _ _ => False)) { tmps := (ps.zip #[aggV (Rc.recC x)]).foldl (fun t (p, v) => t.setIfInBounds p v) a.tmps, defers := [] } W)
    (hbody : ∀ (l : Nat) (k : Nat) (x : Rc.Rec) (a' : Act) (W : World), S[k]? = some x → Fr k x a' W → body.wpIn (Fence.wide.inRound l) 1 Tryd.prog (ownPostG w.heap.size (fun _ _ => True) I Ix (S.take (k + 1)) W) a' W)
    (hdone : ∀ (D : Nat) (W : World), w.heap.size ≤ D → I S W → W.heap[D]? = some (.deferred (some [])) → Q .normal { a with defers := { target := .collected D, args := #[] } :: a.defers } W)
    (hstop : ∀ (D : Nat) (c : Code) (k : Nat) (W : World), w.heap.size ≤ D → k < S.length → Ix c (S.take (k + 1)) W → W.heap[D]? = some (.deferred (some [])) → c.wpIn Fence.wide 3 Tryd.prog Q { a with defers := { target := .collected D, args := #[] } :: a.defers } W) :
    (Code.rangeFunc gv ps assign body).wpIn Fence.wide 3 Tryd.prog Q a w := by
  refine wpIn_rangeFunc ?_
  intro fn hfn
  obtain ⟨bk, hbk⟩ : ∃ bk : LoopState → Option Code → Loop, bk = fun st pe => { state := st, pending := pe, fn := fn, tmps := a.tmps, params := ps, assign := assign, body := body, defers := w.heap.size } := ⟨_, rfl⟩
  obtain ⟨V, hV⟩ : ∃ V, (w.alloc (.deferred (some []))).alloc (.loop (bk .ready none)) = V := ⟨_, rfl⟩
  have kV : Kept [] w V := by rw [← hV]; exact ((Kept.refl _ _).alloc _).alloc _
  have dV : V.heap[w.heap.size]? = some (.deferred (some [])) := by rw [← hV]; exact heap_alloc_old (heap_alloc_new w _)
  have lV : V.heap[w.heap.size + 1]? = some (.loop (bk .ready none)) := by
    rw [← hV]
    have e : (w.alloc (.deferred (some []))).heap.size = w.heap.size + 1 := World.size_alloc _ _
    rw [← e]
    exact heap_alloc_new _ _
  refine ⟨w.heap.size + 1, [{ target := .collected w.heap.size, args := #[] }], V, { target := .fn (.func 52) #[P0 c], args := #[.func (.yield (w.heap.size + 1)) #[] #[]] }, V, 52, #[.func (.yield (w.heap.size + 1)) #[] #[], P0 c], V, ?_, ?_, fun _ _ => trivial, ?_, fun _ => by omega, ?_⟩
  · rw [← hV, hbk]
    exact run_enterLoop_outer fn a.tmps ps assign body
  · simp only [resolve, hg]
    simp [go_sem]
  · simp [invoke, go_sem]
  -- what the iterator keeps for us: the invariant, and the book as it stands
  have hlaid := rec_in 2 (by omega) (w.heap.size + 1) c u S V (hc.kept kV (by simp)) hb hSl
    (fun k W => I (S.take k) W ∧ W.heap[w.heap.size + 1]? = some (.loop (bk .ready none)) ∧ W.heap[w.heap.size]? = some (.deferred (some [])))
    (fun k W => ∃ c, Ix c (S.take k) W ∧ W.heap[w.heap.size + 1]? = some (.loop (bk .done (some c))) ∧ W.heap[w.heap.size]? = some (.deferred (some [])))
  refine (hlaid ?_ (fun k A h => hIO _ A h.1) ?_ ⟨?_, lV, dV⟩).mono ?_
  · rintro s A B ⟨g1, g2, g3⟩ hg
    have hk : Kept [] A B := Kept.of_grown hg (fun k e => by cases e)
    exact ⟨hI _ A B none g1 hg (fun r e => by cases e), hk.heap g2 (by simp), hk.heap g3 (by simp)⟩
  · rintro k x W hx ⟨g1, g2, g3⟩
    have hy := run_yield (P := Tryd.prog) (args := #[aggV (Rc.recC x)]) g2 (by rw [hbk]; show 1 = ps.size; exact hps.symm)
    rw [hbk] at hy
    refine ⟨fn, _, assign, body, hy, roundIn_of_wpIn hfn (hassign _ k x W _ g1 hx fun a' W' hk hF => ?_)⟩
    have l' := hk.heap g2 (by simp)
    have d' := hk.heap g3 (by simp)
    refine ⟨_, run_beginRound l' (by rw [hbk]), ?_⟩
    have l2 : (W'.putObj (w.heap.size + 1) (.loop { bk .ready none with state := .busy })).heap[w.heap.size + 1]? = some (.loop { bk .ready none with state := .busy }) := World.putObj_heap_same (lt_of_block l')
    have d2 : (W'.putObj (w.heap.size + 1) (.loop { bk .ready none with state := .busy })).heap[w.heap.size]? = some (.deferred (some [])) := (World.putObj_heap_other (by omega)).trans d'
    refine wpIn_mono (hbody _ k x a' _ hx ((hFr k x a').putObj (s := ()) _ hF (by omega) l' rfl)) ?_
    -- how a round ends
    have ends : ∀ (jump : Option Code) (W3 : World), KeepsFrom w.heap.size (W'.putObj (w.heap.size + 1) (.loop { bk .ready none with state := .busy })) W3 → ∃ W4, (Instr.endRound (w.heap.size + 1) jump).run Tryd.prog W3 = .ok (.bool jump.isNone) W4 ∧ W4 = W3.putObj (w.heap.size + 1) (.loop (bk (if jump.isNone then .ready else .done) jump)) ∧ (∃ o : Obj, W3.heap[w.heap.size + 1]? = some o ∧ o.isCells = false) ∧ W4.heap[w.heap.size + 1]? = some (.loop (bk (if jump.isNone then .ready else .done) jump)) ∧ W4.heap[w.heap.size]? = some (.deferred (some [])) := by
      intro jump W3 hk3
      have l3 := hk3.same _ _ (by omega) l2 rfl
      have d3 := hk3.same _ _ (Nat.le_refl _) d2 rfl
      have hr := run_endRound (P := Tryd.prog) jump l3
      refine ⟨_, hr, by rw [hbk], ⟨_, l3, rfl⟩, ?_, (World.putObj_heap_other (by omega)).trans d3⟩
      rw [World.putObj_heap_same (lt_of_block l3), hbk]
    intro e a3 W3 hp
    cases e with
    | normal =>
      obtain ⟨k3, -, i3⟩ := hp
      obtain ⟨W4, hr, e4, ⟨o3, l3, c3⟩, l4, d4⟩ := ends none W3 k3
      subst e4
      exact ⟨_, _, hr, .inl ⟨rfl, ⟨hI.putObj _ i3 (by omega) l3 c3, l4, d4⟩⟩⟩
    | ret =>
      obtain ⟨k3, i3⟩ := hp
      obtain ⟨W4, hr, e4, ⟨o3, l3, c3⟩, l4, d4⟩ := ends (some .ret) W3 k3
      subst e4
      exact ⟨_, _, hr, .inr ⟨rfl, _, (hIx _).putObj _ i3 (by omega) l3 c3, l4, d4⟩⟩
    | exit id =>
      obtain ⟨k3, i3⟩ := hp
      obtain ⟨W4, hr, e4, ⟨o3, l3, c3⟩, l4, d4⟩ := ends (some (.exit id)) W3 k3
      subst e4
      exact ⟨_, _, hr, .inr ⟨rfl, _, (hIx _).putObj _ i3 (by omega) l3 c3, l4, d4⟩⟩
    | goto t =>
      obtain ⟨k3, i3⟩ := hp
      obtain ⟨W4, hr, e4, ⟨o3, l3, c3⟩, l4, d4⟩ := ends (some (.goto t)) W3 k3
      subst e4
      exact ⟨_, _, hr, .inr ⟨rfl, _, (hIx _).putObj _ i3 (by omega) l3 c3, l4, d4⟩⟩
    | panic ch => exact hp.elim
    | outgrown => exact hp.elim
  · rw [← hV]
    exact hI.alloc _ (hI.alloc _ h0)
  · rintro e W2 ⟨⟨u, rfl⟩, h⟩
    rcases h with ⟨i2, l2, d2⟩ | ⟨k, hk, cd, i2, l2, d2⟩
    · rw [List.take_length] at i2
      have hr := run_endLoop (P := Tryd.prog) l2 (by rw [hbk]; simp)
      rw [hbk] at hr
      exact ⟨none, _, hr, hdone _ _ (Nat.le_refl _) (hI.putObj _ i2 (by omega) l2 rfl) ((World.putObj_heap_other (by omega)).trans d2)⟩
    · have hr := run_endLoop (P := Tryd.prog) l2 (by rw [hbk]; simp)
      rw [hbk] at hr
      exact ⟨some cd, _, hr, hstop _ cd k _ (Nat.le_refl _) hk ((hIx cd).putObj _ i2 (by omega) l2 rfl) ((World.putObj_heap_other (by omega)).trans d2)⟩

end Go.Proofs.YtmeajhdhiebkdaaDoor

/-
  What RedoReads leans on.
-/
namespace Go.Proofs.YtmeajhdhiebkdaaDoor
set_option maxRecDepth 100000
open Go.ChangeShapes Go.WideShapes Go.ChangeAt Go.RowKit Go.Joins Go.Deep Go.Shelf

theorem fieldsS : ∃ f0 f1 f2 f3 : Field, Tryd.prog.underlying 66 = some (.struct #[f0, f1, f2, f3]) ∧ (f0.type = 3 ∧ f0.offset = 0) ∧ (f1.type = 3 ∧ f1.offset = 1) ∧ (f2.type = 28 ∧ f2.offset = 2) ∧ f3.type = 2 ∧ f3.offset = 99 :=
  ⟨_, _, _, _, Tryd.underlying66, ⟨rfl, rfl⟩, ⟨rfl, rfl⟩, ⟨rfl, rfl⟩, rfl, rfl⟩
theorem four_of {α : Type} {l : List α} (h : l.length = 4) : ∃ a b c d, l = [a, b, c, d] := by
  match l, h with
  | [a, b, c, d], _ => exact ⟨a, b, c, d, rfl⟩
theorem two_then {α : Type} {l : List α} {n : Nat} (h : l.length = n + 2) : ∃ a b r, l = a :: b :: r := by
  match l, h with
  | a :: b :: r, _ => exact ⟨a, b, r, rfl⟩
  | [], h => simp at h
  | [_], h => simp at h
/-- A step that came in. -/
theorem stp_cells {H : Type} {enc : TypeId × Value → H} {W : World} (fuel : Nat) (cs : List Value) (x : DataW H × List MemPlace) (h : DataW.trod enc Tryd.prog W 0 (fun _ => true) true fuel 66 cs = some x) : ∃ s : St, cs = s.C ∧ s.Ok := by
  obtain ⟨f0, f1, f2, f3, hu, ⟨t0, o0⟩, ⟨t1, o1⟩, ⟨t2, o2⟩, t3, o3⟩ := fieldsS
  obtain ⟨xs, n, _, ex, hl, hlen, hf⟩ := DataW.trod_struct hu h
  obtain ⟨y0, y1, y2, y3, rfl⟩ := four_of hlen
  have c2 : Tryd.prog.cellsOf 2 = 1 := by kernel_rfl
  have c3 : Tryd.prog.cellsOf 3 = 1 := by kernel_rfl
  have c28 : Tryd.prog.cellsOf 28 = 97 := by kernel_rfl
  have c66 : Tryd.prog.cellsOf 66 = 100 := by kernel_rfl
  have h0 := hf 0 f0 rfl
  have h1 := hf 1 f1 rfl
  have h2 := hf 2 f2 rfl
  have h3 := hf 3 f3 rfl
  rw [t0, o0, c3] at h0
  rw [t1, o1, c3] at h1
  rw [t2, o2, c28] at h2
  rw [t3, o3, c2] at h3
  rw [c66] at hl
  obtain ⟨a0, a1, rs, rfl⟩ := two_then (n := 98) hl
  obtain ⟨v0, e0, _, w0⟩ := DataW.trod_int Tryd.underlying3 h0
  obtain ⟨v1, e1, _, w1⟩ := DataW.trod_int Tryd.underlying3 h1
  obtain ⟨v3, e3, _, w3⟩ := DataW.trod_int Tryd.underlying2 h3
  obtain ⟨q, e2, hq⟩ := ver_cells _ _ _ h2
  have hrl : rs.length = 98 := by simpa using hl
  simp only [List.drop_zero, List.take_succ_cons, List.take_zero, List.drop_succ_cons, List.cons.injEq, and_true] at e0 e1
  have e2' : rs.take 97 = q.C := e2
  have e3' : (rs.drop 97).take 1 = [.int .i64 v3] := e3
  have e4 : rs = rs.take 97 ++ (rs.drop 97).take 1 := by
    rw [List.take_of_length_le (l := rs.drop 97) (by rw [List.length_drop]; omega), List.take_append_drop]
  refine ⟨⟨v0, v1, q.ps, q.bd, v3⟩, ?_, hq.bd, bounds_i64 w0, bounds_i64 w1, bounds_i64 w3⟩
  rw [e4, e2', e3', e0, e1]
  rfl
theorem stps_open {H : Type} {enc : TypeId × Value → H} {W : World} {fuel : Nat} {v : Value} {x : DataW H × List MemPlace} (h : DataW.trod enc Tryd.prog W 0 (fun _ => true) true fuel 64 [v] = some x) :
    ∃ (ao : Option Addr) (c : Nat) (l : List St), v = .slice ao l.length c ∧ (ao = none → l = [] ∧ c = 0) ∧ RowS St.C 100 W ao l ∧ (∀ r ∈ l, r.Ok) :=
  rows_open St.C St.Ok 100 64 66 Tryd.underlying64 (by kernel_rfl) (fun x _ => ⟨_, rfl⟩) stp_cells h
theorem st_at {W : World} {ao : Option Addr} {l : List St} (h : RowS St.C 100 W ao l) {k : Nat} {x : St} (hx : l[k]? = some x) : ∃ b o, ao = some ⟨b, o, none⟩ ∧ W.rangeAt b (o + k * 100) x.C := by
  obtain ⟨b, o, e, h1⟩ := h k x hx
  exact ⟨b, o, e, fun j u hj => h1 j u hj⟩
theorem st_len {x : St} (h : x.Ok) : x.C.length = 100 := by simp [St.C, u8s_len, h.bd.len]
theorem st_one (x : St) : ∀ u ∈ x.C, u.oneCell' = true := by
  intro u hu
  simp only [St.C, List.mem_cons, List.mem_append, List.not_mem_nil, or_false] at hu
  rcases hu with rfl | rfl | rfl | hu | rfl
  · rfl
  · rfl
  · rfl
  · exact u8s_one _ u hu
  · rfl
theorem row66 : Row 66 100 := ⟨_, Tryd.underlying66, rfl, by kernel_rfl⟩
def zst : St := ⟨0, 0, 0, Rc.zs 96, 0⟩
theorem zero66 (w : World) : (Instr.alloc 66 true (.tuple #[])).run Tryd.prog w = .ok (P0 w.heap.size) (w.alloc (.cells zst.C.toArray 66)) := by kernel_rfl
theorem alloc2 (w : World) : (Instr.alloc 2 true (.tuple #[])).run Tryd.prog w = .ok (P0 w.heap.size) (w.alloc (.cells [Value.int .i64 0].toArray 2)) := by kernel_rfl
theorem alloc3 (w : World) : (Instr.alloc 3 true (.tuple #[])).run Tryd.prog w = .ok (P0 w.heap.size) (w.alloc (.cells [Value.int .i64 0].toArray 3)) := by kernel_rfl
theorem alloc4 (w : World) : (Instr.alloc 4 true (.tuple #[])).run Tryd.prog w = .ok (P0 w.heap.size) (w.alloc (.cells [Value.bool false].toArray 4)) := by kernel_rfl
section
variable {ops : Array Oper} {rest : List Oper} {op : Oper} {a : Act} {w : World} {Q : Exit → Act → World → Prop}
theorem wpStV {T : Nat} (u v : Value) (hst : ∀ (w : World) (b : Nat) (u : Value), Blk w b T [u] → (storeVar T ⟨b, 0, none⟩ v).run Tryd.prog w = .ok () (w.setCell ⟨b, 0, none⟩ v)) (hgd : op.guard = none) (x y : Operand) (ho : op.op = .store T x y) (hd : op.dst = none)
    (b : Nat) (hx : a.eval x = P0 b) (hy : a.eval y = v) (hb : Blk w b T [u]) (h : ∀ W, Blk W b T [v] → Kept [b] w W → wpList Tryd.prog ops Q rest a W) : wpList Tryd.prog ops Q (op :: rest) a w :=
  wpList_plain hgd fun K hK => by
    unfold Oper.wp execOp
    simp only [ho, hx, hy, Instr.storeAt, Instr.sureAddr, Sem.run_bind, Sem.run_pure, Result.andThen_ok, hst _ _ _ hb]
    refine hK _ _ ?_
    rw [hd]
    exact h _ (hb.set (i := 0) v) ((Kept.refl _ _).setCell (by simp) _)
theorem wpIdx64 (hgd : op.guard = none) (x y : Operand) (ho : op.op = .indexAddr 64 x y) (g off m c k : Nat) (hk : k < m) (hx : a.eval x = .slice (some ⟨g, off, none⟩) m c) (hy : a.eval y = .int .i64 k) (h : wpList Tryd.prog ops Q rest (a.put op.dst (.pointer (some ⟨g, off + k * 100, none⟩))) w) : wpList Tryd.prog ops Q (op :: rest) a w :=
  wpList_plain hgd fun _ hK => by
    unfold Oper.wp execOp
    simp only [ho, hx, hy]
    simp [go_sem, hk, Addr.add_lit]
    exact hK _ _ h
end
theorem st2 (n : Int) (w : World) (b : Nat) (u : Value) (h : Blk w b 2 [u]) : (storeVar 2 ⟨b, 0, none⟩ (.int .i64 n)).run Tryd.prog w = .ok () (w.setCell ⟨b, 0, none⟩ (.int .i64 n)) := by
  have hc := fits_cell h 0 _ rfl
  have hf := h.frozen 0
  simp [storeVar, go_sem, hc, hf]
theorem st3 (n : Int) (w : World) (b : Nat) (u : Value) (h : Blk w b 3 [u]) : (storeVar 3 ⟨b, 0, none⟩ (.int .i64 n)).run Tryd.prog w = .ok () (w.setCell ⟨b, 0, none⟩ (.int .i64 n)) := by
  have hc := fits_cell h 0 _ rfl
  have hf := h.frozen 0
  simp [storeVar, go_sem, hc, hf]
theorem st4 (n : Bool) (w : World) (b : Nat) (u : Value) (h : Blk w b 4 [u]) : (storeVar 4 ⟨b, 0, none⟩ (.bool n)).run Tryd.prog w = .ok () (w.setCell ⟨b, 0, none⟩ (.bool n)) := by
  have hc := fits_cell h 0 _ rfl
  have hf := h.frozen 0
  simp [storeVar, go_sem, hc, hf]
theorem st37v (ao : Option Addr) (m c : Nat) (w : World) (b : Nat) (u : Value) (h : Blk w b 37 [u]) : (storeVar 37 ⟨b, 0, none⟩ (.slice ao m c)).run Tryd.prog w = .ok () (w.setCell ⟨b, 0, none⟩ (.slice ao m c)) := st37 w b 37 0 [u] ao m c h (by simp)
/-- The marks that ranges leave. -/
def marks (Ds : List Nat) : List Deferred := Ds.map fun D => { target := .collected D, args := #[] }
structure Mks (w W : World) (Ds : List Nat) : Prop where
  nd : Ds.Nodup
  ats : ∀ D ∈ Ds, w.heap.size ≤ D ∧ W.heap[D]? = some (.deferred (some []))
theorem Mks.kept {w W W' : World} {Ds : List Nat} {X : List Nat} (h : Mks w W Ds) (hk : Kept X W W') (hX : ∀ b ∈ X, ∃ T cs, W.heap[b]? = some (.cells cs T (0, 0))) : Mks w W' Ds := ⟨h.nd, fun D hD => ⟨(h.ats D hD).1, hk.heap (h.ats D hD).2 (fun hm => by
  obtain ⟨T, cs, e⟩ := hX D hm
  rw [(h.ats D hD).2] at e
  cases e)⟩⟩
theorem Mks.kept0 {w W W' : World} {Ds : List Nat} (h : Mks w W Ds) (hk : Kept [] W W') : Mks w W' Ds := h.kept hk (by simp)
theorem Mks.cons {w W : World} {Ds : List Nat} {D : Nat} {W0 : World} (h : Mks w W0 Ds) (hk : ∀ D ∈ Ds, W.heap[D]? = W0.heap[D]?) (h1 : W0.heap.size ≤ D) (h2 : w.heap.size ≤ D) (h3 : W.heap[D]? = some (.deferred (some []))) : Mks w W (D :: Ds) := by
  refine ⟨List.nodup_cons.2 ⟨fun hm => ?_, h.nd⟩, fun D' hD' => ?_⟩
  · have := lt_of_block (h.ats D hm).2
    omega
  · rcases List.mem_cons.1 hD' with rfl | hD'
    · exact ⟨h2, h3⟩
    · exact ⟨(h.ats D' hD').1, by rw [hk D' hD']; exact (h.ats D' hD').2⟩
theorem res6 (w : World) (b : Nat) (v : Bool) (tmps : Array Value) (h6 : tmps[6]?.getD undef = P0 b) (hb : Blk w b 4 [.bool v]) : (results Tryd.f6 tmps).run Tryd.prog w = .ok (.bool v) w := by
  have hc := fits_cell hb 0 _ rfl
  simp [results, Tryd.results6, h6, asAddr, go_sem, hc]
/-- How the law leaves: all marks are taken. -/
theorem leaves6 {w : World} {br : Nat} {tmps : Array Value} (h6 : tmps[6]?.getD undef = P0 br) : ∀ (Ds : List Nat) (W : World), Mks w W Ds → Blk W br 4 [.bool true] → Kept [] w W →
    LeavesInM Fence.wide 3 Tryd.prog Tryd.f6 tmps (fun e w' => e = .returned (.bool true) ∧ Kept [] w w') (marks Ds) .returning W := by
  intro Ds
  induction Ds with
  | nil => exact fun W _ hb hk => ⟨_, res6 _ _ _ _ h6 hb, rfl, hk⟩
  | cons D Ds ih =>
    intro W hm hb hk
    obtain ⟨g1, g2⟩ := hm.ats D (by simp)
    have hb1 : Blk (W.putObj D (.deferred none)) br 4 [.bool true] := blk_grown hb (grownBy_putObj' W D _) (fun r e => by cases e; exact ⟨_, g2, rfl⟩)
    have k1 : Kept [] w (W.putObj D (.deferred none)) := kept_kept (B := w.heap.size) hk (grownBy_putObj' _ D (.deferred none)) (Nat.le_refl _) (fun r e => by cases e; exact g1)
    refine ⟨by simp, .inl ⟨_, _, rfl, run_takeDeferred g2, ih _ ⟨(List.nodup_cons.1 hm.nd).2, fun D' hD' => ⟨(hm.ats D' (by simp [hD'])).1, ?_⟩⟩ hb1 k1⟩⟩
    rw [World.putObj_heap_other (fun e => (List.nodup_cons.1 hm.nd).1 (by rw [← e]; exact hD'))]
    exact (hm.ats D' (by simp [hD'])).2
/-- What RedoReads keeps of the log. -/
structure Rq (J : Ar.Job) (nd : Int) (k : Nat) (D : Dv.Dev) (L : Lo) : Prop where
  hol : Hol D L
  J : L.J = J
  nd : L.nd = nd
  ep : L.ep = 1
  nx : L.st + L.R.length ≤ k + 1
theorem Rq.more {J : Ar.Job} {nd : Int} {k m : Nat} {D : Dv.Dev} {L : Lo} (h : Rq J nd k D L) (hk : k ≤ m) : Rq J nd m D L := ⟨h.hol, h.J, h.nd, h.ep, by have := h.nx; omega⟩
theorem rq0 {J : Ar.Job} {nd : Int} (hm : J.may = true) (hn : 0 ≤ nd ∧ nd < J.n) : Rq J nd 0 (eJ J) (openL J nd 1 1 []) := ⟨(hol0J hm hn).1, rfl, rfl, rfl, by show (1 : Int) + 0 ≤ _; omega⟩
theorem Rq.app {J : Ar.Job} {nd : Int} {k : Nat} {D : Dv.Dev} {L : Lo} (hq : Rq J nd k D L) (p : Int) (x : Ve) (hx : Rc.Byts 96 x.bd) : Rq J nd (k + 1) D (L.app p x.ps x.bd).1 := by
  refine ⟨hq.hol.app p x.ps x.bd hx, ?_, ?_, ?_, ?_⟩ <;> unfold Lo.app <;> split
  · exact hq.J
  · split
    · exact hq.J
    · exact hq.J
  · exact hq.nd
  · split
    · exact hq.nd
    · exact hq.nd
  · exact hq.ep
  · split
    · exact hq.ep
    · exact hq.ep
  · have := hq.nx
    show L.st + (L.R.length : Int) ≤ _
    omega
  · have := hq.nx
    split
    · show L.st + (L.R.length : Int) ≤ _
      omega
    · show L.st + ((L.R ++ [L.recN p x.ps x.bd]).length : Int) ≤ _
      rw [List.length_append]
      simp
      omega
theorem Rq.flush {J : Ar.Job} {nd : Int} {k : Nat} {D : Dv.Dev} {L : Lo} (hq : Rq J nd k D L) : Rq J nd (k + 1) (L.flush D).1 (L.atF (L.flush D).2.1) := by
  have h2 := hq.hol.flush.2.2
  rw [hq.hol.flush.2.1]
  exact ⟨h2, hq.J, hq.nd, hq.ep, by have := hq.nx; show L.st + (L.R.length : Int) ≤ _; omega⟩
theorem Rq.cut {J : Ar.Job} {nd : Int} {k : Nat} {D : Dv.Dev} {L : Lo} (hq : Rq J nd k D L) (s : Int) : Rq J nd (k + 1) (L.cut D s).1 (L.cut D s).2.1 := by
  cases hc : L.mayC s with
  | true =>
    obtain ⟨e1, e2⟩ := hq.hol.cutTo s hc
    rw [e1]
    refine ⟨e2, hq.J, hq.nd, hq.ep, ?_⟩
    have h2 := hq.nx
    have h3 := hq.hol.fl
    simp only [Lo.mayC, decide_eq_true_eq] at hc
    show s + ((L.R.drop (s - L.st).toNat).length : Int) ≤ _
    rw [List.length_drop]
    omega
  | false =>
    have e1 : L.cut D s = (D, L, 2) := by unfold Lo.cut; rw [hc, if_pos rfl]
    rw [e1]
    exact hq.more (by omega)
theorem Lt.cell3 {W : World} {l b g : Nat} {rv : Value} {D : Dv.Dev} {L : Lo} (h : Lt W l b g rv D L) : ∀ i ∈ [l, b, g], ∃ T cs, W.heap[i]? = some (.cells cs T (0, 0)) := by
  obtain ⟨cap, d1, ex, d2, _⟩ := h.dev.lay
  intro i hi
  simp only [List.mem_cons, List.not_mem_nil, or_false] at hi
  rcases hi with rfl | rfl | rfl
  · exact ⟨_, _, h.head⟩
  · exact ⟨_, _, d1⟩
  · exact ⟨_, _, d2⟩
theorem rm_app {J : Ar.Job} {nd : Int} {k : Nat} {w w0 W : World} {Ds : List Nat} {l b g : Nat} {D : Dv.Dev} {L : Lo} (p : Int) (x : Ve) (hx : Rc.Byts 96 x.bd) (h : Ka w0 W l b g D L) (hq : Rq J nd k D L) (hm : Mks w W Ds) : Calls Tryd.prog 16 #[P0 l, .int .i64 p, aggV x.C] W fun e w' => ∃ (n c : Int) (L' : Lo), e = .returned (.tuple #[.int .i64 n, .int .i64 c]) ∧ Ka w0 w' l b g D L' ∧ Rq J nd (k + 1) D L' ∧ Mks w w' Ds := by
  obtain ⟨rv, h1, h2⟩ := h.lt
  refine (append16 l b g rv D L p x.ps x.bd W h1 hx).mono ?_
  rintro e w' ⟨rv', rfl, h3, hk, h4⟩
  refine ⟨_, _, _, rfl, ⟨⟨rv', h3, fun k e => ?_⟩, h.k.fresh hk (fun i hi hl => ?_), h.gl, h.gb, h.gg⟩, hq.app p x hx, hm.kept hk fun i hi => ?_⟩
  · rcases h4 k e with h5 | h5
    · exact h2 k h5
    · have := h.k.size; omega
  · rcases List.mem_cons.1 hi with rfl | hi
    · have := h.gl; omega
    · have := h2 i (by simpa using hi); omega
  · rcases List.mem_cons.1 hi with rfl | hi
    · exact ⟨_, _, h1.head⟩
    · obtain ⟨cs, hc⟩ := h1.row.block i (by simpa using hi)
      exact ⟨_, _, hc⟩
theorem rm_flush {J : Ar.Job} {nd : Int} {k : Nat} {w w0 W : World} {Ds : List Nat} {l b g : Nat} {D : Dv.Dev} {L : Lo} (h : Ka w0 W l b g D L) (hq : Rq J nd k D L) (hm : Mks w W Ds) : Calls Tryd.prog 13 #[P0 l] W fun e w' => ∃ (c : Int) (D' : Dv.Dev) (L' : Lo), e = .returned (.int .i64 c) ∧ Ka w0 w' l b g D' L' ∧ Rq J nd (k + 1) D' L' ∧ Mks w w' Ds := by
  obtain ⟨rv, h1, h2⟩ := h.lt
  refine (flush13 l b g rv D L W h1).mono ?_
  rintro e w' ⟨rfl, h3, hk⟩
  refine ⟨_, _, _, rfl, ⟨⟨rv, h3, h2⟩, h.k.fresh hk (fun i hi hl => ?_), h.gl, h.gb, h.gg⟩, hq.flush, hm.kept hk h1.cell3⟩
  have := h.gl; have := h.gb; have := h.gg
  simp at hi
  omega
theorem rm_cut {J : Ar.Job} {nd : Int} {k : Nat} {w w0 W : World} {Ds : List Nat} {l b g : Nat} {D : Dv.Dev} {L : Lo} (hF : Rc.First w0) (s : Int) (h : Ka w0 W l b g D L) (hq : Rq J nd k D L) (hm : Mks w W Ds) : Calls Tryd.prog 14 #[P0 l, .int .i64 s] W fun e w' => ∃ (c : Int) (D' : Dv.Dev) (L' : Lo), e = .returned (.int .i64 c) ∧ Ka w0 w' l b g D' L' ∧ Rq J nd (k + 1) D' L' ∧ Mks w w' Ds := by
  obtain ⟨rv, h1, h2⟩ := h.lt
  refine (cut14 l b g rv D L s W h1 (h.first hF)).mono ?_
  rintro e w' ⟨rv', rfl, h3, hk, h4⟩
  refine ⟨_, _, _, rfl, ⟨⟨rv', h3, fun k e => h2 k (by rw [← h4]; exact e)⟩, h.k.fresh hk (fun i hi hl => ?_), h.gl, h.gb, h.gg⟩, hq.cut s, hm.kept hk h1.cell3⟩
  have := h.gl; have := h.gb; have := h.gg
  simp at hi
  omega
theorem st_ver {W : World} {q : Nat} {x : St} (h : Blk W q 66 x.C) (hx : x.Ok) : W.rangeAt q 2 (verC x.ps x.bd) := fun j u hj => by
  have hj2 : j < 97 := by have := (List.getElem?_eq_some_iff.1 hj).1; simp [verC, u8s_len, hx.bd.len] at this; omega
  rw [h.cell]
  show (x.C)[2 + j]? = some u
  have e : x.C = .int .i64 x.kd :: .int .i64 x.pg :: (verC x.ps x.bd ++ [.int .i64 x.n]) := rfl
  rw [e, show 2 + j = j + 1 + 1 by omega, List.getElem?_cons_succ, List.getElem?_cons_succ, List.getElem?_append_left (by simp [verC, u8s_len, hx.bd.len]; omega)]
  exact hj
theorem st_n {W : World} {q : Nat} {x : St} (h : Blk W q 66 x.C) (hx : x.Ok) : W.cell? ⟨q, 99, none⟩ = some (.int .i64 x.n) := by
  rw [h.cell]
  show (x.C)[99]? = _
  have e : x.C = .int .i64 x.kd :: .int .i64 x.pg :: (verC x.ps x.bd ++ [.int .i64 x.n]) := rfl
  rw [e, show 99 = 97 + 1 + 1 from rfl, List.getElem?_cons_succ, List.getElem?_cons_succ, List.getElem?_append_right (by simp [verC, u8s_len, hx.bd.len])]
  simp [verC, u8s_len, hx.bd.len]
theorem rq_read {J : Ar.Job} {nd : Int} {k : Nat} {w0 W : World} {l b g : Nat} {D : Dv.Dev} {L : Lo} (hF : Rc.First w0) (h : Ka w0 W l b g D L) (hq : Rq J nd k D L) : Calls Tryd.prog 20 #[P0 b, aggV (Ar.jobC J), .int .i64 nd] W fun e w' => ∃ (ro : Option Addr) (rc : Nat), e = .returned (.tuple #[.int .i64 L.st, .slice ro L.fl rc, .int .i64 0]) ∧ OwnO w' (.slice ro L.fl rc) L.fl (cellsR (L.R.take L.fl)) ∧ Kept [] W w' := by
  have h9 := read20 b g D J nd W h.kd.dev (h.first hF)
  have h8 := hq.hol.look
  rw [hq.J, hq.nd] at h8
  rw [h8] at h9
  refine h9.mono ?_
  rintro e w' ⟨v, rfl, h1, _, h2⟩
  have hl : (L.R.take L.fl).length = L.fl := by rw [List.length_take]; have := hq.hol.fl; omega
  replace h1 : OwnO w' v (L.R.take L.fl).length (cellsR (L.R.take L.fl)) := h1
  rw [hl] at h1
  obtain ⟨ro, rc, rfl, _, _⟩ := h1.sl
  exact ⟨ro, rc, rfl, h1, h2⟩
section
variable {o : Oper} {a : Act} {w : World} {K : Act → World → Prop} {Q : Exit → Act → World → Prop}
theorem o_geqt2 (x y : Operand) (ho : o.op = .binOp .geq 2 x y 2) (m n : Int) (r : Bool) (hr : decide (n ≤ m) = r) (hx : a.eval x = .int .i64 m) (hy : a.eval y = .int .i64 n) (h : K (a.put o.dst (.bool r)) w) : o.wp Tryd.prog a w K Q := by
  unfold Oper.wp execOp
  simp only [ho, hx, hy]
  simp [go_sem, hr]
  exact h
theorem o_subt2 (x y : Operand) (ho : o.op = .binOp .sub 2 x y 2) (m n r : Int) (hr : m - n = r) (hb : -9223372036854775808 ≤ r ∧ r ≤ 9223372036854775807) (hx : a.eval x = .int .i64 m) (hy : a.eval y = .int .i64 n) (h : K (a.put o.dst (.int .i64 r)) w) : o.wp Tryd.prog a w K Q := by
  have hw : IntKind.i64.wrap r = r := by rw [IntKind.wrap_i64]; omega
  unfold Oper.wp execOp
  simp only [ho, hx, hy]
  simp [go_sem, hr, hw]
  exact h
theorem o_neqc2 (x : Operand) (c : Int) (ho : o.op = .binOp .neq 2 x (.const (.int .i64 c)) 2) (m : Int) (r : Bool) (hr : decide (m = c) = r) (hx : a.eval x = .int .i64 m) (h : K (a.put o.dst (.bool (!r))) w) : o.wp Tryd.prog a w K Q := by
  have hb : (m != c) = !r := by rw [← hr]; rfl
  unfold Oper.wp execOp
  simp only [ho, hx]
  simp [go_sem, hb]
  exact h
theorem o_fldo45_0 (x : Operand) (ho : o.op = .fieldAddr 45 x 0) (b i : Nat) (hx : a.eval x = .pointer (some ⟨b, i, none⟩)) (h : K (a.put o.dst (.pointer (some ⟨b, i + 0, none⟩))) w) : o.wp Tryd.prog a w K Q := by
  unfold Oper.wp execOp
  simp only [ho, hx]
  simp [go_sem, Addr.add_lit]
  exact h
theorem o_fldo45_2 (x : Operand) (ho : o.op = .fieldAddr 45 x 2) (b i : Nat) (hx : a.eval x = .pointer (some ⟨b, i, none⟩)) (h : K (a.put o.dst (.pointer (some ⟨b, i + 2, none⟩))) w) : o.wp Tryd.prog a w K Q := by
  unfold Oper.wp execOp
  simp only [ho, hx]
  simp [go_sem, Addr.add_lit]
  exact h
end

end Go.Proofs.YtmeajhdhiebkdaaDoor
