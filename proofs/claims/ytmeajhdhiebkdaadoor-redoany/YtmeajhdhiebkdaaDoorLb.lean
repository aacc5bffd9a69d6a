/-
  Append: a record in memory.
-/
import Derived.Test.YtmeajhdhiebkdaaDoorLa
import Derived.Great.BuildSlice
namespace Go.Proofs.YtmeajhdhiebkdaaDoor
set_option maxRecDepth 100000
open Go.RowKit

theorem fold_set (pre : List Value) : ∀ (ys mid : List Value) (i : Nat) (done : List Value), mid.length = ys.length → done.length = i → (ys.zipIdx i).foldl (fun cs x => cs.setIfInBounds (pre.length + x.snd) x.fst) (pre ++ done ++ mid).toArray = (pre ++ done ++ ys).toArray := by
  intro ys
  induction ys with
  | nil =>
    intro mid i done hm _
    obtain rfl : mid = [] := List.eq_nil_of_length_eq_zero hm
    rfl
  | cons y ys ih =>
    intro mid i done hm hd
    cases mid with
    | nil => simp at hm
    | cons m mid =>
      rw [List.zipIdx_cons, List.foldl_cons]
      have e : (pre ++ done ++ m :: mid).toArray.setIfInBounds (pre.length + i) y = (pre ++ (done ++ [y]) ++ mid).toArray := by
        rw [List.setIfInBounds_toArray, List.append_assoc, List.set_append_right _ _ (by omega), Nat.add_sub_cancel_left, ← hd, List.set_append_right _ _ (Nat.le_refl _), Nat.sub_self]
        simp
      simp only [e]
      rw [ih mid (i + 1) (done ++ [y]) (by simpa using hm) (by simp [hd])]
      simp
theorem run_buildR (w : World) (a b c d e : Int) (bd : List Int) (h : bd.length = 96) : (Instr.build 45 #[(0, .int .i64 a), (1, .int .i64 b), (2, .int .i64 c), (3, .int .i64 d), (4, .int .i64 e), (5, aggV (u8s bd))]).run Tryd.prog w = .ok (aggV (.int .i64 a :: .int .i64 b :: .int .i64 c :: .int .i64 d :: .int .i64 e :: u8s bd)) w := by
  have hl : (u8s bd).length = 96 := by rw [u8s_len, h]
  have hz : (((((Tryd.zeroCells45.setIfInBounds 0 (Value.int .i64 a)).setIfInBounds 1 (Value.int .i64 b)).setIfInBounds 2 (Value.int .i64 c)).setIfInBounds 3 (Value.int .i64 d)).setIfInBounds 4 (Value.int .i64 e)) = ([Value.int .i64 a, .int .i64 b, .int .i64 c, .int .i64 d, .int .i64 e] ++ [] ++ List.replicate 96 (Value.int .u8 0)).toArray := by kernel_rfl
  have hf := fold_set [Value.int .i64 a, .int .i64 b, .int .i64 c, .int .i64 d, .int .i64 e] (u8s bd) (List.replicate 96 (Value.int .u8 0)) 0 [] (by rw [hl, List.length_replicate]) rfl
  unfold Instr.build
  simp [go_sem, run_underlying Tryd.underlying45, aggV]
  rw [hz]
  rw [if_neg (by rw [hl]; omega)]
  simp only [List.length_cons, List.length_nil, Nat.zero_add, Nat.reduceAdd] at hf
  rw [hf]
  rfl
theorem fillR (arr : Array Value) (ha : arr.size = 101) (vs : List Value) (h : vs.length = 101) : Instr.fill (fun i => some (i * 101, 101)) arr [(0, aggV vs)] = some vs.toArray := by
  have hf := fold_set [] vs arr.toList 0 [] (by rw [Array.length_toList, ha, h]) rfl
  have hc : (Value.agg vs.toArray).cells = vs.toArray := rfl
  simp [Instr.fill, aggV, hc, h, ha]
  simpa using hf
theorem bsR (w : World) (vs : List Value) (h : vs.length = 101) : (Instr.buildSlice 37 1 #[(0, aggV vs)]).run Tryd.prog w = .ok (.slice (some ⟨w.heap.size, 0, none⟩) 1 1) (w.alloc (.cells vs.toArray 45)) := by
  obtain ⟨i, hi, hz0, hz1, _⟩ := info_parts Tryd.info45
  refine run_buildSlice (P := Tryd.prog) w 37 45 1 #[(0, aggV vs)] vs.toArray i _ Tryd.sl37 hi hz0 (by rw [hz1]; decide) (by rw [hz1]; decide) ?_
  rw [hz1]
  exact fillR _ (by simp) vs h
theorem keepG {St : (Nat → Bool) → (Nat → Value) → World → Prop} {l : Array Bool} {vs : Nat → Value} {j : Nat} {v : Value} {w : World} (sp : List Nat) (hloc : ∀ b b' vs vs' W, (∀ i ∈ sp, b i = b' i ∧ vs i = vs' i) → St b vs W → St b' vs' W) (hj : j < l.size) (hn : sp.all (fun i => i != j) = true) (h : St (fun i => l.getD i false) vs w) : St (fun i => (l.setIfInBounds j true).getD i false) (fun i => if i = j then v else vs i) w := by
  refine hloc _ _ _ _ _ (fun i hi => ?_) h
  have hne : i ≠ j := by have := List.all_eq_true.1 hn i hi; simpa using this
  exact ⟨by rw [getD_setD hj]; simp [hne], by simp [hne]⟩
theorem nextG {St : (Nat → Bool) → (Nat → Value) → World → Prop} {l : Array Bool} {vs : Nat → Value} {j : Nat} {v : Value} {w : World} (hj : j < l.size) (h : St (fun i => if i = j then true else l.getD i false) (fun i => if i = j then v else vs i) w) : St (fun i => (l.setIfInBounds j true).getD i false) (fun i => if i = j then v else vs i) w := by
  have e : (fun i => (l.setIfInBounds j true).getD i false) = (fun i => if i = j then true else l.getD i false) := by
    funext i
    exact getD_setD hj false
  rw [e]
  exact h
def verC (ps : Int) (bd : List Int) : List Value := .int .i64 ps :: u8s bd
def Lo.recN (L : Lo) (p ps : Int) (bd : List Int) : Rc.Rec := ⟨L.nd, L.ep, L.st + L.R.length, p, ps, bd⟩
def Lo.more (L : Lo) (r : Rc.Rec) : Lo := ⟨L.J, L.nd, L.ep, L.st, L.R ++ [r], L.fl⟩
def Lo.mayA (L : Lo) (p ps : Int) : Bool := decide (0 ≤ p ∧ p ≤ L.J.p - 1) && decide (1 ≤ ps ∧ ps ≤ 2147483647)
def Lo.app (L : Lo) (p ps : Int) (bd : List Int) : Lo × Int × Int := if L.mayA p ps = false then (L, 0, 2) else if L.room = 0 then (L, 0, 5) else (L.more (L.recN p ps bd), L.st + L.R.length, 0)
theorem cellsR_app (R : List Rc.Rec) (r : Rc.Rec) : cellsR (R ++ [r]) = cellsR R ++ Rc.recC r := by simp [cellsR]
theorem recC_len {r : Rc.Rec} (h : Rc.Byts 96 r.bd) : (Rc.recC r).length = 101 := by
  have := h.1
  simp [Rc.recC, u8s_len, this]
theorem recC_one (r : Rc.Rec) : ∀ u ∈ Rc.recC r, u.oneCell' = true := by
  intro u hu
  simp only [Rc.recC, List.mem_cons] at hu
  rcases hu with rfl | rfl | rfl | rfl | rfl | hu
  · rfl
  · rfl
  · rfl
  · rfl
  · rfl
  · exact u8s_one _ u hu
section
variable {o : Oper} {a : Act} {w : World} {K : Act → World → Prop} {Q : Exit → Act → World → Prop}
theorem st37 (w : World) (b TT i : Nat) (us : List Value) (ao : Option Addr) (m c : Nat) (h : Blk w b TT us) (hi : i < us.length) : (storeVar 37 ⟨b, i, none⟩ (.slice ao m c)).run Tryd.prog w = .ok () (w.setCell ⟨b, i, none⟩ (.slice ao m c)) := by
  have hc := h.cell i
  rw [List.getElem?_eq_getElem hi] at hc
  have hf := h.frozen i
  simp [storeVar, go_sem, hc, hf]
theorem o_st37 (x y : Operand) (ho : o.op = .store 37 x y) (_ : o.dst = none) (b i TT : Nat) (us : List Value) (v : Value) (hx : a.eval x = .pointer (some ⟨b, i, none⟩)) (hy : a.eval y = v) (hv : ∃ ao m c, v = .slice ao m c) (hB : Blk w b TT us) (hi : i < us.length)
    (h : ∀ W, Blk W b TT (us.set i v) → Kept [b] w W → K (a.put o.dst undef) W) : o.wp Tryd.prog a w K Q := by
  obtain ⟨ao, m, c, rfl⟩ := hv
  have hst := st37 w b TT i us ao m c hB hi
  have hr := h _ (hB.set (i := i) (.slice ao m c)) ((Kept.refl _ _).setCell (by simp) _)
  unfold Oper.wp execOp
  simp only [ho, hx, hy, Instr.storeAt, Instr.sureAddr, Sem.run_bind, Sem.run_pure, Result.andThen_ok, hst]
  exact hr
theorem o_appO (s x : Operand) (ho : o.op = .call { callee := .builtin .append, args := #[s, x], argTypes := #[37, 37] }) (v : Value) (n : Nat) (xs : List Value) (hs : a.eval s = v) (hO : OwnO w v n xs) (p : Nat) (news : List Value) (hx : a.eval x = .slice (some ⟨p, 0, none⟩) 1 1) (hB : Blk w p 45 news) (hl : news.length = 101) (hone : ∀ u ∈ news, u.oneCell' = true) (hn : n ≤ 1000)
    (h : ∀ v' w', OwnO w' v' (n + 1) (xs ++ news) → Kept v.ownBlock.toList w w' → (∀ k, v'.ownBlock = some k → v.ownBlock = some k ∨ w.heap.size ≤ k) → K (a.put o.dst v') w') : o.wp Tryd.prog a w K Q := by
  obtain ⟨v', w', hr, h1, h2, h3⟩ := run_appO w o.type v n xs hO ⟨p, 0, none⟩ 1 news hl (fun j u hj => by rw [Addr.add_lit, Nat.zero_add, hB.cell]; exact hj) hone hn
  unfold Oper.wp execOp
  simp only [ho, resolve, invoke, builtin, Sem.run_bind, Sem.run_pure, Result.andThen_ok, List.map_toArray, List.map_cons, List.map_nil, hs, hx, hr]
  exact h v' w' h1 h2 h3
theorem o_bsR (x : Operand) (ho : o.op = .buildSlice 37 1 #[(0, x)]) (vs : List Value) (hl : vs.length = 101) (hx : a.eval x = aggV vs) (h : K (a.put o.dst (.slice (some ⟨w.heap.size, 0, none⟩) 1 1)) (w.alloc (.cells vs.toArray 45))) : o.wp Tryd.prog a w K Q := by
  unfold Oper.wp execOp
  simp only [ho, List.map_toArray, List.map_cons, List.map_nil, hx, Sem.run_bind, bsR w vs hl, Result.andThen_ok]
  exact h
theorem o_bldR (x0 x1 x2 x3 x4 x5 : Operand) (ho : o.op = .build 45 #[(0, x0), (1, x1), (2, x2), (3, x3), (4, x4), (5, x5)]) (r : Rc.Rec) (hb : r.bd.length = 96) (h0 : a.eval x0 = .int .i64 r.nd) (h1 : a.eval x1 = .int .i64 r.ep) (h2 : a.eval x2 = .int .i64 r.ls) (h3 : a.eval x3 = .int .i64 r.pg) (h4 : a.eval x4 = .int .i64 r.ps) (h5 : a.eval x5 = aggV (u8s r.bd)) (h : K (a.put o.dst (aggV (Rc.recC r))) w) : o.wp Tryd.prog a w K Q := by
  unfold Oper.wp execOp
  simp only [ho, List.map_toArray, List.map_cons, List.map_nil, h0, h1, h2, h3, h4, h5, Sem.run_bind, run_buildR w _ _ _ _ _ _ hb, Result.andThen_ok]
  exact h
theorem o_fld28_0 (x : Operand) (ho : o.op = .fieldAddr 28 x 0) (b : Nat) (hx : a.eval x = P0 b) (h : K (a.put o.dst (.pointer (some ⟨b, 0, none⟩))) w) : o.wp Tryd.prog a w K Q := by
  unfold Oper.wp execOp
  simp only [ho, hx]
  simp [go_sem]
  exact h
theorem o_fld28_1 (x : Operand) (ho : o.op = .fieldAddr 28 x 1) (b : Nat) (hx : a.eval x = P0 b) (h : K (a.put o.dst (.pointer (some ⟨b, 1, none⟩))) w) : o.wp Tryd.prog a w K Q := by
  unfold Oper.wp execOp
  simp only [ho, hx]
  simp [go_sem]
  exact h
end
theorem row26 : Row 26 96 := ⟨_, Tryd.underlying26, rfl, by kernel_rfl⟩
/-- What Append's region keeps. -/
@[reducible] def S16 (V : World) (l b : Nat) (L : Lo) (rv : Value) (r : Rc.Rec) (d : Nat → Bool) (vs : Nat → Value) (W : World) : Prop :=
  (d 24 = false → (d 21 = false → Kept [] V W) ∧ (d 20 = true → d 21 = false → ∃ p, vs 20 = .slice (some ⟨p, 0, none⟩) 1 1 ∧ Blk W p 45 (Rc.recC r)) ∧ (d 21 = true → OwnO W (vs 21) (L.R.length + 1) (cellsR L.R ++ Rc.recC r) ∧ Kept rv.ownBlock.toList V W ∧ ∀ k, (vs 21).ownBlock = some k → rv.ownBlock = some k ∨ V.heap.size ≤ k)) ∧
  (d 24 = true → ∃ rv', OwnO W rv' (L.R.length + 1) (cellsR L.R ++ Rc.recC r) ∧ Blk W l 72 (logC b L rv') ∧ Kept (l :: rv.ownBlock.toList) V W ∧ ∀ k, rv'.ownBlock = some k → rv.ownBlock = some k ∨ V.heap.size ≤ k)
theorem S16.loc {V : World} {l b : Nat} {L : Lo} {rv : Value} {r : Rc.Rec} : ∀ d d' vs vs' W, (∀ i ∈ [20, 21, 24], d i = d' i ∧ vs i = vs' i) → S16 V l b L rv r d vs W → S16 V l b L rv r d' vs' W := by
  intro d d' vs vs' W H h
  have e0 := H 20 (by simp)
  have e1 := H 21 (by simp)
  have e4 := H 24 (by simp)
  unfold S16 at h ⊢
  rw [← e0.1, ← e0.2, ← e1.1, ← e1.2, ← e4.1]
  exact h
theorem Dv.Dv.kept0 {W W' : World} {b g : Nat} {D : Dv.Dev} (h : Dv.Dv W b g D) (hk : Kept [] W W') : Dv.Dv W' b g D := h.kept hk (by simp) (by simp)
theorem Lt.kept0 {W W' : World} {l b g : Nat} {rv : Value} {D : Dv.Dev} {L : Lo} (h : Lt W l b g rv D L) (hk : Kept [] W W') : Lt W' l b g rv D L := ⟨h.head.kept hk (by simp), h.dev.kept hk (by simp) (by simp), h.row.kept hk (by simp), h.recs, h.may, h.node, h.ep, h.st, h.nx, h.fl, h.many⟩
set_option maxHeartbeats 2000000 in
theorem app_arg1 (l b g : Nat) (rv : Value) (D : Dv.Dev) (L : Lo) (p ps : Int) (bd : List Int) (w : World) (h : Lt w l b g rv D L) (_ : Rc.Byts 96 bd) (hno : decide (0 ≤ p ∧ p ≤ L.J.p - 1) = false) : Calls Tryd.prog 16 #[P0 l, .int .i64 p, aggV (verC ps bd)] w fun e w' => e = .returned (.tuple #[.int .i64 0, .int .i64 2]) ∧ Kept [] w w' := by
  obtain ⟨ro, rc, rfl⟩ := h.sl
  have HL := hide h
  have h5 := h.may
  simp only [Ar.Job.may, decide_eq_true_eq] at h5
  clear h
  have P39 := hide (fun W => from39 0 p (L.J.p - 1) W)
  rw [hno] at P39
  clear hno
  go_enter Tryd.func16, Tryd.ntmps16
  go_wp2_with (
    first
    | (refine wpBoxV (by rfl) (.tmp 2) (by rfl) (verC ps bd) (by kernel_rfl) ?_
       intro V1 p5 e5 B5 K5
       have HX := hide B5
       have HK := hide K5
       have hx0 := fits_cell B5 0 (.int .i64 ps) rfl
       replace HL := hide ((unhide HL).kept0 K5)
       have hcp := fits_cell (unhide HL).head 2 _ rfl
       clear e5 B5 K5
       refine Stp.go ?_))
  constructor
  go_wp2_with (
    first
    | (go_at_call 33
       refine (none33 l b g _ D L _ (unhide HL)).mono ?_
       rintro e w' ⟨rfl, hw9⟩
       obtain rfl := hw9.symm
       clear hw9
       refine Stp.go ?_))
  constructor
  go_wp2_with (
    first
    | (go_at_call 39
       refine (unhide P39 _).mono ?_
       rintro e w' ⟨rfl, hw9⟩
       obtain rfl := hw9.symm
       clear hw9))
  go_ret2
  exact ⟨rfl, unhide HK⟩
set_option maxHeartbeats 2000000 in
theorem app_arg2 (l b g : Nat) (rv : Value) (D : Dv.Dev) (L : Lo) (p ps : Int) (bd : List Int) (w : World) (h : Lt w l b g rv D L) (_ : Rc.Byts 96 bd) (hyes : decide (0 ≤ p ∧ p ≤ L.J.p - 1) = true) (hno : decide (1 ≤ ps ∧ ps ≤ 2147483647) = false) : Calls Tryd.prog 16 #[P0 l, .int .i64 p, aggV (verC ps bd)] w fun e w' => e = .returned (.tuple #[.int .i64 0, .int .i64 2]) ∧ Kept [] w w' := by
  obtain ⟨ro, rc, rfl⟩ := h.sl
  have HL := hide h
  have h5 := h.may
  simp only [Ar.Job.may, decide_eq_true_eq] at h5
  clear h
  have P39 := hide (fun W => from39 0 p (L.J.p - 1) W)
  have P32 := hide (fun W => from32 1 ps 2147483647 W)
  rw [hyes] at P39
  rw [hno] at P32
  clear hno hyes
  go_enter Tryd.func16, Tryd.ntmps16
  go_wp2_with (
    first
    | (refine wpBoxV (by rfl) (.tmp 2) (by rfl) (verC ps bd) (by kernel_rfl) ?_
       intro V1 p5 e5 B5 K5
       have HX := hide B5
       have HK := hide K5
       have hx0 := fits_cell B5 0 (.int .i64 ps) rfl
       replace HL := hide ((unhide HL).kept0 K5)
       have hcp := fits_cell (unhide HL).head 2 _ rfl
       clear e5 B5 K5
       refine Stp.go ?_))
  constructor
  go_wp2_with (
    first
    | (go_at_call 33
       refine (none33 l b g _ D L _ (unhide HL)).mono ?_
       rintro e w' ⟨rfl, hw9⟩
       obtain rfl := hw9.symm
       clear hw9
       refine Stp.go ?_))
  constructor
  go_wp2_with (
    first
    | (go_at_call 39
       refine (unhide P39 _).mono ?_
       rintro e w' ⟨rfl, hw9⟩
       obtain rfl := hw9.symm
       clear hw9
       refine Stp.go ?_))
  constructor
  go_wp2_with (
    first
    | (go_at_call 32
       refine (unhide P32 _).mono ?_
       rintro e w' ⟨rfl, hw9⟩
       obtain rfl := hw9.symm
       clear hw9))
  go_ret2
  exact ⟨rfl, unhide HK⟩
set_option maxHeartbeats 2000000 in
theorem app_full (l b g : Nat) (rv : Value) (D : Dv.Dev) (L : Lo) (p ps : Int) (bd : List Int) (w : World) (h : Lt w l b g rv D L) (_ : Rc.Byts 96 bd) (hyes : decide (0 ≤ p ∧ p ≤ L.J.p - 1) = true) (hno : decide (1 ≤ ps ∧ ps ≤ 2147483647) = true) (hf : L.room = 0) : Calls Tryd.prog 16 #[P0 l, .int .i64 p, aggV (verC ps bd)] w fun e w' => e = .returned (.tuple #[.int .i64 0, .int .i64 5]) ∧ Kept [] w w' := by
  obtain ⟨ro, rc, rfl⟩ := h.sl
  have HL := hide h
  have h5 := h.may
  simp only [Ar.Job.may, decide_eq_true_eq] at h5
  clear h
  have P39 := hide (fun W => from39 0 p (L.J.p - 1) W)
  have P32 := hide (fun W => from32 1 ps 2147483647 W)
  rw [hyes] at P39
  rw [hno] at P32
  clear hno hyes
  go_enter Tryd.func16, Tryd.ntmps16
  go_wp2_with (
    first
    | (refine wpBoxV (by rfl) (.tmp 2) (by rfl) (verC ps bd) (by kernel_rfl) ?_
       intro V1 p5 e5 B5 K5
       have HX := hide B5
       have HK := hide K5
       have hx0 := fits_cell B5 0 (.int .i64 ps) rfl
       replace HL := hide ((unhide HL).kept0 K5)
       have hcp := fits_cell (unhide HL).head 2 _ rfl
       clear e5 B5 K5
       refine Stp.go ?_))
  constructor
  go_wp2_with (
    first
    | (go_at_call 33
       refine (none33 l b g _ D L _ (unhide HL)).mono ?_
       rintro e w' ⟨rfl, hw9⟩
       obtain rfl := hw9.symm
       clear hw9
       refine Stp.go ?_))
  constructor
  go_wp2_with (
    first
    | (go_at_call 39
       refine (unhide P39 _).mono ?_
       rintro e w' ⟨rfl, hw9⟩
       obtain rfl := hw9.symm
       clear hw9
       refine Stp.go ?_))
  constructor
  go_wp2_with (
    first
    | (go_at_call 32
       refine (unhide P32 _).mono ?_
       rintro e w' ⟨rfl, hw9⟩
       obtain rfl := hw9.symm
       clear hw9
       refine Stp.go ?_))
  constructor
  go_wp2_with (
    first
    | (go_at_call 12
       refine (room12 l b g _ D L _ (unhide HL)).mono ?_
       rintro e V2 ⟨rfl, hk⟩
       rw [hf]
       replace HL := hide ((unhide HL).kept0 hk)
       replace HX := hide ((unhide HX).kept hk (by simp))
       replace HK := hide ((unhide HK).trans hk)
       clear hk hx0 hcp))
  go_ret2
  exact ⟨rfl, unhide HK⟩
theorem app_lt {w V W : World} {l b g : Nat} {rv rv' : Value} {D : Dv.Dev} {L : Lo} {p ps : Int} {bd : List Int} (h : Lt V l b g rv D L) (hbd : Rc.Byts 96 bd) (hroom : ¬ L.room = 0) (hk : Kept [] w V) (h1 : OwnO W rv' (L.R.length + 1) (cellsR L.R ++ Rc.recC (L.recN p ps bd))) (h2 : Blk W l 72 (logC b L rv')) (h3 : Kept (l :: rv.ownBlock.toList) V W) (h4 : ∀ k, rv'.ownBlock = some k → rv.ownBlock = some k ∨ V.heap.size ≤ k) :
    Lt W l b g rv' D (L.more (L.recN p ps bd)) ∧ Kept (l :: rv.ownBlock.toList) w W ∧ ∀ k, rv'.ownBlock = some k → rv.ownBlock = some k ∨ w.heap.size ≤ k := by
  have hb : b ∉ l :: rv.ownBlock.toList ∧ g ∉ l :: rv.ownBlock.toList := by
    obtain ⟨cap, hd, ex, hbo, _⟩ := h.dev.lay
    have hl := h.head
    unfold Blk at hl
    constructor
    · intro hm
      rcases List.mem_cons.1 hm with rfl | hm
      · unfold Dv.Head at hd
        rw [hl] at hd
        injection hd with hd
        injection hd with _ hd
        exact absurd hd (by decide)
      · rw [Option.mem_toList] at hm
        obtain ⟨cs, hc⟩ := h.row.block b hm
        unfold Dv.Head at hd
        rw [hd] at hc
        injection hc with hc
        injection hc with _ hc
        exact absurd hc (by decide)
    · intro hm
      rcases List.mem_cons.1 hm with rfl | hm
      · rw [hl] at hbo
        injection hbo with hbo
        injection hbo with _ hbo
        exact absurd hbo (by decide)
      · rw [Option.mem_toList] at hm
        obtain ⟨cs, hc⟩ := h.row.block g hm
        rw [hbo] at hc
        injection hc with hc
        injection hc with _ hc
        exact absurd hc (by decide)
  have hnx : L.st + L.R.length ≠ 2147483647 := fun e => hroom (by unfold Lo.room; rw [if_pos e])
  have hrm : ¬ L.J.l - (L.R.length : Int) = 0 := fun e => hroom (by unfold Lo.room; rw [if_neg hnx, e])
  have hx := h.nx
  have hm := h.many
  have hfl := h.fl
  have hlen : (L.more (L.recN p ps bd)).R.length = L.R.length + 1 := by simp [Lo.more]
  refine ⟨⟨h2, h.dev.kept h3 hb.1 hb.2, ?_, fun r hr => ?_, h.may, h.node, h.ep, h.st, ?_, ?_, ?_⟩, (hk.mono (by simp)).trans h3, fun k hk2 => ?_⟩
  · rw [hlen]
    show OwnO W rv' (L.R.length + 1) (cellsR (L.R ++ [L.recN p ps bd]))
    rw [cellsR_app]
    exact h1
  · rcases List.mem_append.1 (show r ∈ L.R ++ [L.recN p ps bd] from hr) with hr | hr
    · exact h.recs r hr
    · simp at hr
      subst hr
      exact hbd
  · rw [hlen]
    show L.st + ((L.R.length + 1 : Nat) : Int) ≤ 2147483647
    omega
  · rw [hlen]
    show L.fl ≤ L.R.length + 1
    omega
  · rw [hlen]
    show ((L.R.length + 1 : Nat) : Int) ≤ L.J.l
    omega
  · rcases h4 k hk2 with e | e
    · exact .inl e
    · exact .inr (by have := hk.size; omega)
set_option maxHeartbeats 4000000 in
theorem app_yes (l b g : Nat) (rv : Value) (D : Dv.Dev) (L : Lo) (p ps : Int) (bd : List Int) (w : World) (h : Lt w l b g rv D L) (hbd : Rc.Byts 96 bd) (hyes : decide (0 ≤ p ∧ p ≤ L.J.p - 1) = true) (hno : decide (1 ≤ ps ∧ ps ≤ 2147483647) = true) (hf : ¬ L.room = 0) : Calls Tryd.prog 16 #[P0 l, .int .i64 p, aggV (verC ps bd)] w fun e w' => ∃ rv', e = .returned (.tuple #[.int .i64 (L.st + L.R.length), .int .i64 0]) ∧ Lt w' l b g rv' D (L.more (L.recN p ps bd)) ∧ Kept (l :: rv.ownBlock.toList) w w' ∧ ∀ k, rv'.ownBlock = some k → rv.ownBlock = some k ∨ w.heap.size ≤ k := by
  obtain ⟨ro, rc, rfl⟩ := h.sl
  have HL := hide h
  have h5 := h.may
  simp only [Ar.Job.may, decide_eq_true_eq] at h5
  clear h
  have P39 := hide (fun W => from39 0 p (L.J.p - 1) W)
  have P32 := hide (fun W => from32 1 ps 2147483647 W)
  have hf2 : (L.room == 0) = false := by simp [hf]
  rw [hyes] at P39
  rw [hno] at P32
  have HBD := hide hbd
  have HB96 : Hid ((L.recN p ps bd).bd.length = 96) := hbd.1
  have HBL : Hid ((u8s bd).length = 96) := by rw [u8s_len]; exact hbd.1
  have HRL := hide (recC_len (r := L.recN p ps bd) hbd)
  have HLO := hide (unhide HL).lo
  have HROOM := hide hf
  clear hno hyes hbd
  go_enter Tryd.func16, Tryd.ntmps16
  go_wp2_with (
    first
    | (refine wpBoxV (by rfl) (.tmp 2) (by rfl) (verC ps bd) (by kernel_rfl) ?_
       intro V1 p5 e5 B5 K5
       have HX := hide B5
       have HK := hide K5
       have hx0 := fits_cell B5 0 (.int .i64 ps) rfl
       replace HL := hide ((unhide HL).kept0 K5)
       have hcp := fits_cell (unhide HL).head 2 _ rfl
       clear e5 B5 K5
       refine Stp.go ?_))
  constructor
  go_wp2_with (
    first
    | (go_at_call 33
       refine (none33 l b g _ D L _ (unhide HL)).mono ?_
       rintro e w' ⟨rfl, hw9⟩
       obtain rfl := hw9.symm
       clear hw9
       refine Stp.go ?_))
  constructor
  go_wp2_with (
    first
    | (go_at_call 39
       refine (unhide P39 _).mono ?_
       rintro e w' ⟨rfl, hw9⟩
       obtain rfl := hw9.symm
       clear hw9
       refine Stp.go ?_))
  constructor
  go_wp2_with (
    first
    | (go_at_call 32
       refine (unhide P32 _).mono ?_
       rintro e w' ⟨rfl, hw9⟩
       obtain rfl := hw9.symm
       clear hw9
       refine Stp.go ?_))
  constructor
  go_wp2_with (
    first
    | (go_at_call 12
       refine (room12 l b g _ D L _ (unhide HL)).mono ?_
       rintro e V2 ⟨rfl, hk⟩
       replace HL := hide ((unhide HL).kept0 hk)
       replace HX := hide ((unhide HX).kept hk (by simp))
       replace HK := hide ((unhide HK).trans hk)
       clear hk hx0 hcp
       refine Stp.go ?_))
  constructor
  go_wp2_with (
    first
    | (go_at_call 23
       refine (next23 l b g _ D L _ (unhide HL)).mono ?_
       rintro e V3 ⟨rfl, hk⟩
       replace HL := hide ((unhide HL).kept0 hk)
       replace HX := hide ((unhide HX).kept hk (by simp))
       replace HK := hide ((unhide HK).trans hk)
       clear hk
       refine Stp.go ?_))
  constructor
  have HH := hide (unhide HL).head
  have HO := hide (unhide HL).row
  have HNL : Hid (l ∉ (Value.slice ro L.R.length rc).ownBlock.toList) := by
    rw [Option.mem_toList]
    intro e
    obtain ⟨cs, hc⟩ := (unhide HO).block l e
    have h1 := unhide HH
    unfold Blk at h1
    rw [h1] at hc
    injection hc with hc
    injection hc with _ hc
    exact absurd hc (by decide)
  go_wp2_with fail
  refine wp_region_any mixed (wpAny_gx 25 rfl (by kernel_rfl) [some (P0 l), some (P0 l), some (P0 l), some (.pointer (some ⟨l, 9, none⟩)), some (.slice ro L.R.length rc), some (P0 l), some (P0 l), some (.pointer (some ⟨l, 6, none⟩)), some (.int .i64 L.nd), some (P0 l), some (P0 l), some (.pointer (some ⟨l, 7, none⟩)), some (.int .i64 L.ep), some (.int .i64 (L.st + L.R.length)), some (.int .i64 p), some (.pointer (some ⟨p5, 0, none⟩)), some (.int .i64 ps), some (.pointer (some ⟨p5, 1, none⟩)), some (aggV (u8s bd)), some (aggV (Rc.recC (L.recN p ps bd))), none, none, some (P0 l), some (.pointer (some ⟨l, 9, none⟩)), none] rfl (by kernel_rfl) (fun l_ vs W => (S16 V3 l b L (.slice ro L.R.length rc) (L.recN p ps bd)) (fun i => l_.getD i false) vs W) (⟨fun _ => ⟨fun _ => ⟨rfl, rfl, rfl, Nat.le_refl _, fun _ _ _ => rfl⟩, (fun h => by cases h), fun h => by cases h⟩, fun h => by cases h⟩) ?_ ?_)
  · intro ix o' hi ho a' w2 l_ vs hls hlf hJ hout hin hdep hnot
    match ix, ho with
    | 0, ho =>
      obtain rfl := Option.some.inj ho
      have e0 := hout 0 (by kernel_rfl)
      replace e0 : a'.eval (.tmp 0) = _ := e0.trans rfl
      exact wp_move (.tmp 0) rfl _ e0 ⟨_, rfl, told_of rfl, keepG (St := (S16 V3 l b L (.slice ro L.R.length rc) (L.recN p ps bd))) [20, 21, 24] S16.loc (by omega) (by decide) hJ⟩
    | 1, ho =>
      obtain rfl := Option.some.inj ho
      have e0 := hout 0 (by kernel_rfl)
      replace e0 : a'.eval (.tmp 0) = _ := e0.trans rfl
      exact wp_move (.tmp 0) rfl _ e0 ⟨_, rfl, told_of rfl, keepG (St := (S16 V3 l b L (.slice ro L.R.length rc) (L.recN p ps bd))) [20, 21, 24] S16.loc (by omega) (by decide) hJ⟩
    | 2, ho =>
      obtain rfl := Option.some.inj ho
      have e0 : a'.eval (.tmp 35) = P0 l := by have h9 := hin 1 35 (by kernel_rfl) (by kernel_rfl); exact h9.1.trans (told_is _ h9.2 rfl)
      exact o_nil (.tmp 35) rfl _ e0 ⟨_, rfl, told_of rfl, keepG (St := (S16 V3 l b L (.slice ro L.R.length rc) (L.recN p ps bd))) [20, 21, 24] S16.loc (by omega) (by decide) hJ⟩
    | 3, ho =>
      obtain rfl := Option.some.inj ho
      have e0 : a'.eval (.tmp 36) = P0 l := by have h9 := hin 2 36 (by kernel_rfl) (by kernel_rfl); exact h9.1.trans (told_is _ h9.2 rfl)
      exact o_fld72_5 (.tmp 36) rfl _ e0 ⟨_, rfl, told_of rfl, keepG (St := (S16 V3 l b L (.slice ro L.R.length rc) (L.recN p ps bd))) [20, 21, 24] S16.loc (by omega) (by decide) hJ⟩
    | 4, ho =>
      obtain rfl := Option.some.inj ho
      have e0 : a'.eval (.tmp 37) = .pointer (some ⟨l, 9, none⟩) := by have h9 := hin 3 37 (by kernel_rfl) (by kernel_rfl); exact h9.1.trans (told_is _ h9.2 rfl)
      exact q_load37 (.tmp 37) rfl _ _ e0 (fits_cell ((unhide HH).kept ((hJ.1 (hnot 24 (by kernel_rfl))).1 (hnot 21 (by kernel_rfl))) (by simp)) 9 _ rfl) ⟨_, rfl, told_of rfl, keepG (St := (S16 V3 l b L (.slice ro L.R.length rc) (L.recN p ps bd))) [20, 21, 24] S16.loc (by omega) (by decide) hJ⟩
    | 5, ho =>
      obtain rfl := Option.some.inj ho
      have e0 := hout 0 (by kernel_rfl)
      replace e0 : a'.eval (.tmp 0) = _ := e0.trans rfl
      exact wp_move (.tmp 0) rfl _ e0 ⟨_, rfl, told_of rfl, keepG (St := (S16 V3 l b L (.slice ro L.R.length rc) (L.recN p ps bd))) [20, 21, 24] S16.loc (by omega) (by decide) hJ⟩
    | 6, ho =>
      obtain rfl := Option.some.inj ho
      have e0 : a'.eval (.tmp 39) = P0 l := by have h9 := hin 5 39 (by kernel_rfl) (by kernel_rfl); exact h9.1.trans (told_is _ h9.2 rfl)
      exact o_nil (.tmp 39) rfl _ e0 ⟨_, rfl, told_of rfl, keepG (St := (S16 V3 l b L (.slice ro L.R.length rc) (L.recN p ps bd))) [20, 21, 24] S16.loc (by omega) (by decide) hJ⟩
    | 7, ho =>
      obtain rfl := Option.some.inj ho
      have e0 : a'.eval (.tmp 40) = P0 l := by have h9 := hin 6 40 (by kernel_rfl) (by kernel_rfl); exact h9.1.trans (told_is _ h9.2 rfl)
      exact o_fld72_2 (.tmp 40) rfl _ e0 ⟨_, rfl, told_of rfl, keepG (St := (S16 V3 l b L (.slice ro L.R.length rc) (L.recN p ps bd))) [20, 21, 24] S16.loc (by omega) (by decide) hJ⟩
    | 8, ho =>
      obtain rfl := Option.some.inj ho
      have e0 : a'.eval (.tmp 41) = .pointer (some ⟨l, 6, none⟩) := by have h9 := hin 7 41 (by kernel_rfl) (by kernel_rfl); exact h9.1.trans (told_is _ h9.2 rfl)
      exact q_load3 (.tmp 41) rfl _ _ e0 (fits_cell ((unhide HH).kept ((hJ.1 (hnot 24 (by kernel_rfl))).1 (hnot 21 (by kernel_rfl))) (by simp)) 6 _ rfl) ⟨_, rfl, told_of rfl, keepG (St := (S16 V3 l b L (.slice ro L.R.length rc) (L.recN p ps bd))) [20, 21, 24] S16.loc (by omega) (by decide) hJ⟩
    | 9, ho =>
      obtain rfl := Option.some.inj ho
      have e0 := hout 0 (by kernel_rfl)
      replace e0 : a'.eval (.tmp 0) = _ := e0.trans rfl
      exact wp_move (.tmp 0) rfl _ e0 ⟨_, rfl, told_of rfl, keepG (St := (S16 V3 l b L (.slice ro L.R.length rc) (L.recN p ps bd))) [20, 21, 24] S16.loc (by omega) (by decide) hJ⟩
    | 10, ho =>
      obtain rfl := Option.some.inj ho
      have e0 : a'.eval (.tmp 43) = P0 l := by have h9 := hin 9 43 (by kernel_rfl) (by kernel_rfl); exact h9.1.trans (told_is _ h9.2 rfl)
      exact o_nil (.tmp 43) rfl _ e0 ⟨_, rfl, told_of rfl, keepG (St := (S16 V3 l b L (.slice ro L.R.length rc) (L.recN p ps bd))) [20, 21, 24] S16.loc (by omega) (by decide) hJ⟩
    | 11, ho =>
      obtain rfl := Option.some.inj ho
      have e0 : a'.eval (.tmp 44) = P0 l := by have h9 := hin 10 44 (by kernel_rfl) (by kernel_rfl); exact h9.1.trans (told_is _ h9.2 rfl)
      exact o_fld72_3 (.tmp 44) rfl _ e0 ⟨_, rfl, told_of rfl, keepG (St := (S16 V3 l b L (.slice ro L.R.length rc) (L.recN p ps bd))) [20, 21, 24] S16.loc (by omega) (by decide) hJ⟩
    | 12, ho =>
      obtain rfl := Option.some.inj ho
      have e0 : a'.eval (.tmp 45) = .pointer (some ⟨l, 7, none⟩) := by have h9 := hin 11 45 (by kernel_rfl) (by kernel_rfl); exact h9.1.trans (told_is _ h9.2 rfl)
      exact q_load2 (.tmp 45) rfl _ _ e0 (fits_cell ((unhide HH).kept ((hJ.1 (hnot 24 (by kernel_rfl))).1 (hnot 21 (by kernel_rfl))) (by simp)) 7 _ rfl) ⟨_, rfl, told_of rfl, keepG (St := (S16 V3 l b L (.slice ro L.R.length rc) (L.recN p ps bd))) [20, 21, 24] S16.loc (by omega) (by decide) hJ⟩
    | 13, ho =>
      obtain rfl := Option.some.inj ho
      have e0 := hout 8 (by kernel_rfl)
      replace e0 : a'.eval (.tmp 8) = _ := e0.trans rfl
      exact wp_move (.tmp 8) rfl _ e0 ⟨_, rfl, told_of rfl, keepG (St := (S16 V3 l b L (.slice ro L.R.length rc) (L.recN p ps bd))) [20, 21, 24] S16.loc (by omega) (by decide) hJ⟩
    | 14, ho =>
      obtain rfl := Option.some.inj ho
      have e0 := hout 1 (by kernel_rfl)
      replace e0 : a'.eval (.tmp 1) = _ := e0.trans rfl
      exact wp_move (.tmp 1) rfl _ e0 ⟨_, rfl, told_of rfl, keepG (St := (S16 V3 l b L (.slice ro L.R.length rc) (L.recN p ps bd))) [20, 21, 24] S16.loc (by omega) (by decide) hJ⟩
    | 15, ho =>
      obtain rfl := Option.some.inj ho
      have e0 := hout 5 (by kernel_rfl)
      replace e0 : a'.eval (.tmp 5) = _ := e0.trans rfl
      exact o_fld28_0 (.tmp 5) rfl _ e0 ⟨_, rfl, told_of rfl, keepG (St := (S16 V3 l b L (.slice ro L.R.length rc) (L.recN p ps bd))) [20, 21, 24] S16.loc (by omega) (by decide) hJ⟩
    | 16, ho =>
      obtain rfl := Option.some.inj ho
      have e0 : a'.eval (.tmp 49) = .pointer (some ⟨p5, 0, none⟩) := by have h9 := hin 15 49 (by kernel_rfl) (by kernel_rfl); exact h9.1.trans (told_is _ h9.2 rfl)
      exact q_load2 (.tmp 49) rfl _ _ e0 (fits_cell ((unhide HX).kept ((hJ.1 (hnot 24 (by kernel_rfl))).1 (hnot 21 (by kernel_rfl))) (by simp)) 0 _ rfl) ⟨_, rfl, told_of rfl, keepG (St := (S16 V3 l b L (.slice ro L.R.length rc) (L.recN p ps bd))) [20, 21, 24] S16.loc (by omega) (by decide) hJ⟩
    | 17, ho =>
      obtain rfl := Option.some.inj ho
      have e0 := hout 5 (by kernel_rfl)
      replace e0 : a'.eval (.tmp 5) = _ := e0.trans rfl
      exact o_fld28_1 (.tmp 5) rfl _ e0 ⟨_, rfl, told_of rfl, keepG (St := (S16 V3 l b L (.slice ro L.R.length rc) (L.recN p ps bd))) [20, 21, 24] S16.loc (by omega) (by decide) hJ⟩
    | 18, ho =>
      obtain rfl := Option.some.inj ho
      have e0 : a'.eval (.tmp 51) = .pointer (some ⟨p5, 1, none⟩) := by have h9 := hin 17 51 (by kernel_rfl) (by kernel_rfl); exact h9.1.trans (told_is _ h9.2 rfl)
      exact wp_loadA row26 (.tmp 51) rfl p5 1 e0 (u8s bd) (unhide HBL) (((unhide HX).kept ((hJ.1 (hnot 24 (by kernel_rfl))).1 (hnot 21 (by kernel_rfl))) (by simp)).rangeIn (o := 1) (u8s bd) (fun j _ => by rw [Nat.add_comm]; rfl)) ⟨_, rfl, told_of rfl, keepG (St := (S16 V3 l b L (.slice ro L.R.length rc) (L.recN p ps bd))) [20, 21, 24] S16.loc (by omega) (by decide) hJ⟩
    | 19, ho =>
      obtain rfl := Option.some.inj ho
      have e0 : a'.eval (.tmp 42) = .int .i64 L.nd := by have h9 := hin 8 42 (by kernel_rfl) (by kernel_rfl); exact h9.1.trans (told_is _ h9.2 rfl)
      have e1 : a'.eval (.tmp 46) = .int .i64 L.ep := by have h9 := hin 12 46 (by kernel_rfl) (by kernel_rfl); exact h9.1.trans (told_is _ h9.2 rfl)
      have e2 : a'.eval (.tmp 47) = .int .i64 (L.st + L.R.length) := by have h9 := hin 13 47 (by kernel_rfl) (by kernel_rfl); exact h9.1.trans (told_is _ h9.2 rfl)
      have e3 : a'.eval (.tmp 48) = .int .i64 p := by have h9 := hin 14 48 (by kernel_rfl) (by kernel_rfl); exact h9.1.trans (told_is _ h9.2 rfl)
      have e4 : a'.eval (.tmp 50) = .int .i64 ps := by have h9 := hin 16 50 (by kernel_rfl) (by kernel_rfl); exact h9.1.trans (told_is _ h9.2 rfl)
      have e5 : a'.eval (.tmp 52) = aggV (u8s bd) := by have h9 := hin 18 52 (by kernel_rfl) (by kernel_rfl); exact h9.1.trans (told_is _ h9.2 rfl)
      exact o_bldR (.tmp 42) (.tmp 46) (.tmp 47) (.tmp 48) (.tmp 50) (.tmp 52) rfl (L.recN p ps bd) (unhide HB96) e0 e1 e2 e3 e4 e5 ⟨_, rfl, told_of rfl, keepG (St := (S16 V3 l b L (.slice ro L.R.length rc) (L.recN p ps bd))) [20, 21, 24] S16.loc (by omega) (by decide) hJ⟩
    | 20, ho =>
      obtain rfl := Option.some.inj ho
      have e0 : a'.eval (.tmp 53) = aggV (Rc.recC (L.recN p ps bd)) := by have h9 := hin 19 53 (by kernel_rfl) (by kernel_rfl); exact h9.1.trans (told_is _ h9.2 rfl)
      refine o_bsR (.tmp 53) rfl (Rc.recC (L.recN p ps bd)) (unhide HRL) e0 ?_
      exact ⟨_, rfl, told_no rfl, nextG (St := (S16 V3 l b L (.slice ro L.R.length rc) (L.recN p ps bd))) (by omega) ⟨fun h24 => ⟨fun _ => ((hJ.1 (hnot 24 (by kernel_rfl))).1 (hnot 21 (by kernel_rfl))).alloc _, fun _ _ => ⟨w2.heap.size, rfl, Blk.new w2 45 _⟩, fun h21 => by have h9 : l_.getD 21 false = true := h21; rw [hnot 21 (by kernel_rfl)] at h9; cases h9⟩, fun h24 => by have h9 : l_.getD 24 false = true := h24; rw [hnot 24 (by kernel_rfl)] at h9; cases h9⟩⟩
    | 21, ho =>
      obtain rfl := Option.some.inj ho
      have e0 : a'.eval (.tmp 38) = .slice ro L.R.length rc := by have h9 := hin 4 38 (by kernel_rfl) (by kernel_rfl); exact h9.1.trans (told_is _ h9.2 rfl)
      have e1 : a'.eval (.tmp 54) = vs 20 := (hin 20 54 (by kernel_rfl) (by kernel_rfl)).1
      obtain ⟨q, hq, hBq⟩ := (hJ.1 (hnot 24 (by kernel_rfl))).2.1 (hdep 20 (by kernel_rfl)) hlf
      have hk0 := (hJ.1 (hnot 24 (by kernel_rfl))).1 hlf
      exact o_appO (.tmp 38) (.tmp 54) rfl (.slice ro L.R.length rc) L.R.length (cellsR L.R) e0 ((unhide HO).kept hk0 (by simp)) q (Rc.recC (L.recN p ps bd)) (e1.trans hq) hBq (unhide HRL) (recC_one _) (by have := unhide HLO; omega) fun v' w' h1 h2 h3 => ⟨_, rfl, told_no rfl, nextG (St := (S16 V3 l b L (.slice ro L.R.length rc) (L.recN p ps bd))) (by omega) ⟨fun h24 => ⟨(fun h => by cases h), (fun _ h => by cases h), fun _ => ⟨h1, (hk0.mono (by simp)).trans h2, fun k hk => by rcases h3 k hk with e | e; exact .inl e; exact .inr (by have := hk0.size; omega)⟩⟩, fun h24 => by have h9 : l_.getD 24 false = true := h24; rw [hnot 24 (by kernel_rfl)] at h9; cases h9⟩⟩
    | 22, ho =>
      obtain rfl := Option.some.inj ho
      have e0 : a'.eval (.tmp 34) = P0 l := by have h9 := hin 0 34 (by kernel_rfl) (by kernel_rfl); exact h9.1.trans (told_is _ h9.2 rfl)
      exact o_nil (.tmp 34) rfl _ e0 ⟨_, rfl, told_of rfl, keepG (St := (S16 V3 l b L (.slice ro L.R.length rc) (L.recN p ps bd))) [20, 21, 24] S16.loc (by omega) (by decide) hJ⟩
    | 23, ho =>
      obtain rfl := Option.some.inj ho
      have e0 : a'.eval (.tmp 56) = P0 l := by have h9 := hin 22 56 (by kernel_rfl) (by kernel_rfl); exact h9.1.trans (told_is _ h9.2 rfl)
      exact o_fld72_5 (.tmp 56) rfl _ e0 ⟨_, rfl, told_of rfl, keepG (St := (S16 V3 l b L (.slice ro L.R.length rc) (L.recN p ps bd))) [20, 21, 24] S16.loc (by omega) (by decide) hJ⟩
    | 24, ho =>
      obtain rfl := Option.some.inj ho
      have e0 : a'.eval (.tmp 57) = .pointer (some ⟨l, 9, none⟩) := by have h9 := hin 23 57 (by kernel_rfl) (by kernel_rfl); exact h9.1.trans (told_is _ h9.2 rfl)
      have e1 : a'.eval (.tmp 55) = vs 21 := (hin 21 55 (by kernel_rfl) (by kernel_rfl)).1
      obtain ⟨h1, h2, h3⟩ := (hJ.1 hlf).2.2 (hdep 21 (by kernel_rfl))
      have hB9 := (unhide HH).kept h2 (unhide HNL)
      obtain ⟨ao9, c9, e9, _, _⟩ := h1.sl
      exact o_st37 (.tmp 57) (.tmp 55) rfl rfl l 9 72 _ (vs 21) e0 e1 ⟨ao9, _, c9, e9⟩ hB9 (by simp [logC]) fun W hBW hkW => ⟨_, rfl, told_no rfl, nextG (St := (S16 V3 l b L (.slice ro L.R.length rc) (L.recN p ps bd))) (by omega) ⟨(fun h => by cases h), fun _ => ⟨vs 21, h1.kept hkW (fun k hk hm => by simp at hm; subst hm; obtain ⟨cs, hc⟩ := h1.block k hk; unfold Blk at hB9; rw [hB9] at hc; injection hc with hc; injection hc with _ hc; exact absurd hc (by decide)), hBW, (h2.mono (fun k hk => List.mem_cons_of_mem _ hk)).trans (hkW.mono (by simp)), h3⟩⟩⟩
  intro l_ vs w9 hl hJ htold
  have t0 : vs 0 = P0 l := told_is _ (htold 0 (by decide)) rfl
  have t1 : vs 1 = P0 l := told_is _ (htold 1 (by decide)) rfl
  have t2 : vs 2 = P0 l := told_is _ (htold 2 (by decide)) rfl
  have t3 : vs 3 = .pointer (some ⟨l, 9, none⟩) := told_is _ (htold 3 (by decide)) rfl
  have t4 : vs 4 = .slice ro L.R.length rc := told_is _ (htold 4 (by decide)) rfl
  have t5 : vs 5 = P0 l := told_is _ (htold 5 (by decide)) rfl
  have t6 : vs 6 = P0 l := told_is _ (htold 6 (by decide)) rfl
  have t7 : vs 7 = .pointer (some ⟨l, 6, none⟩) := told_is _ (htold 7 (by decide)) rfl
  have t8 : vs 8 = .int .i64 L.nd := told_is _ (htold 8 (by decide)) rfl
  have t9 : vs 9 = P0 l := told_is _ (htold 9 (by decide)) rfl
  have t10 : vs 10 = P0 l := told_is _ (htold 10 (by decide)) rfl
  have t11 : vs 11 = .pointer (some ⟨l, 7, none⟩) := told_is _ (htold 11 (by decide)) rfl
  have t12 : vs 12 = .int .i64 L.ep := told_is _ (htold 12 (by decide)) rfl
  have t13 : vs 13 = .int .i64 (L.st + L.R.length) := told_is _ (htold 13 (by decide)) rfl
  have t14 : vs 14 = .int .i64 p := told_is _ (htold 14 (by decide)) rfl
  have t15 : vs 15 = .pointer (some ⟨p5, 0, none⟩) := told_is _ (htold 15 (by decide)) rfl
  have t16 : vs 16 = .int .i64 ps := told_is _ (htold 16 (by decide)) rfl
  have t17 : vs 17 = .pointer (some ⟨p5, 1, none⟩) := told_is _ (htold 17 (by decide)) rfl
  have t18 : vs 18 = aggV (u8s bd) := told_is _ (htold 18 (by decide)) rfl
  have t19 : vs 19 = aggV (Rc.recC (L.recN p ps bd)) := told_is _ (htold 19 (by decide)) rfl
  have t22 : vs 22 = P0 l := told_is _ (htold 22 (by decide)) rfl
  have t23 : vs 23 = .pointer (some ⟨l, 9, none⟩) := told_is _ (htold 23 (by decide)) rfl
  rw [show (List.range 25).map vs = [vs 0, vs 1, vs 2, vs 3, vs 4, vs 5, vs 6, vs 7, vs 8, vs 9, vs 10, vs 11, vs 12, vs 13, vs 14, vs 15, vs 16, vs 17, vs 18, vs 19, vs 20, vs 21, vs 22, vs 23, vs 24] from rfl]
  simp only [t0, t1, t2, t3, t4, t5, t6, t7, t8, t9, t10, t11, t12, t13, t14, t15, t16, t17, t18, t19, t22, t23, putAll, Act.put, List.setIfInBounds_toArray, List.set_cons_succ, List.set_cons_zero]
  clear t0 t1 t2 t3 t4 t5 t6 t7 t8 t9 t10 t11 t12 t13 t14 t15 t16 t17 t18 t19 t22 t23 htold
  obtain ⟨rv', h1, h2, h3, h4⟩ := hJ.2 (hl 24 (by decide))
  have HR := hide (app_lt (unhide HL) (unhide HBD) (unhide HROOM) (unhide HK) h1 h2 h3 h4)
  clear hJ hl h1 h2 h3 h4
  go_wp2_with fail
  go_ret2
  exact ⟨rv', rfl, unhide HR⟩
theorem append16 (l b g : Nat) (rv : Value) (D : Dv.Dev) (L : Lo) (p ps : Int) (bd : List Int) (w : World) (h : Lt w l b g rv D L) (hbd : Rc.Byts 96 bd) : Calls Tryd.prog 16 #[P0 l, .int .i64 p, aggV (verC ps bd)] w fun e w' => ∃ rv', e = .returned (.tuple #[.int .i64 (L.app p ps bd).2.1, .int .i64 (L.app p ps bd).2.2]) ∧ Lt w' l b g rv' D (L.app p ps bd).1 ∧ Kept (l :: rv.ownBlock.toList) w w' ∧ ∀ k, rv'.ownBlock = some k → rv.ownBlock = some k ∨ w.heap.size ≤ k := by
  unfold Lo.app Lo.mayA
  cases h1 : decide (0 ≤ p ∧ p ≤ L.J.p - 1) with
  | false =>
    rw [if_pos (by simp)]
    exact (app_arg1 l b g rv D L p ps bd w h hbd h1).mono (by rintro e w' ⟨rfl, hk⟩; exact ⟨rv, rfl, h.kept0 hk, hk.mono (by simp), fun k e => .inl e⟩)
  | true =>
    cases h2 : decide (1 ≤ ps ∧ ps ≤ 2147483647) with
    | false =>
      rw [if_pos (by simp)]
      exact (app_arg2 l b g rv D L p ps bd w h hbd h1 h2).mono (by rintro e w' ⟨rfl, hk⟩; exact ⟨rv, rfl, h.kept0 hk, hk.mono (by simp), fun k e => .inl e⟩)
    | true =>
      rw [if_neg (by simp)]
      by_cases hf : L.room = 0
      · rw [if_pos hf]
        exact (app_full l b g rv D L p ps bd w h hbd h1 h2 hf).mono (by rintro e w' ⟨rfl, hk⟩; exact ⟨rv, rfl, h.kept0 hk, hk.mono (by simp), fun k e => .inl e⟩)
      · rw [if_neg hf]
        exact app_yes l b g rv D L p ps bd w h hbd h1 h2 hf

end Go.Proofs.YtmeajhdhiebkdaaDoor
