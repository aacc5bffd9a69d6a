/-
  Facts over blocks; single operations.
-/
import Derived.Test.YthihladmifpokaaPb
import Derived.BigQuiet
namespace Go.Proofs.Ythihladmifpokaa
set_option maxRecDepth 100000
set_option linter.unusedSimpArgs false
open Go.RowKit

structure Mm (X : List Nat) (w0 w : World) (bs : List (Nat × Nat × List Value)) : Prop where
  kept : Kept X w0 w
  blk : ∀ x ∈ bs, Blk w x.1 x.2.1 x.2.2
  own : ∀ x ∈ bs, x.1 < w0.heap.size → x.1 ∈ X
  nd : (bs.map (·.1)).Nodup
theorem Mm.init {X : List Nat} {w : World} : Mm X w w [] := ⟨Kept.refl _ _, (fun x hx => by cases hx), (fun x hx => by cases hx), List.nodup_nil⟩
theorem Mm.one {w : World} {b T : Nat} {vs : List Value} (h : Blk w b T vs) : Mm [b] w w [(b, T, vs)] := ⟨Kept.refl _ _, (fun x hx => by simp at hx; subst hx; exact h), (fun x hx _ => by simp at hx; subst hx; simp), by simp⟩
theorem Mm.two {w : World} {b T c U : Nat} {vs us : List Value} (h : Blk w b T vs) (k : Blk w c U us) (hne : b ≠ c) : Mm [b, c] w w [(b, T, vs), (c, U, us)] :=
  ⟨Kept.refl _ _, (fun x hx => by simp at hx; rcases hx with rfl | rfl; exact h; exact k), (fun x hx _ => by simp at hx; rcases hx with rfl | rfl <;> simp), by simp [hne]⟩
variable {X : List Nat}
theorem Mm.step {w0 w w' : World} {bs : List (Nat × Nat × List Value)} (h : Mm X w0 w bs) (hk : Kept [] w w') : Mm X w0 w' bs :=
  ⟨h.kept.trans (hk.mono (by simp)), fun x hx => (h.blk x hx).kept hk (by simp), h.own, h.nd⟩
theorem Mm.drew {w0 W : World} {bs : List (Nat × Nat × List Value)} (h : Mm X w0 W bs) : Mm X w0 W.drew bs := ⟨h.kept.drew, fun x hx => (h.blk x hx).drew, h.own, h.nd⟩
theorem Mm.new {w0 w W : World} {bs : List (Nat × Nat × List Value)} {b T : Nat} {vs : List Value} (h : Mm X w0 w bs) (hb : b = w.heap.size) (B : Blk W b T vs) (K : Kept [] w W) : Mm X w0 W (bs ++ [(b, T, vs)]) := by
  have h' := h.step K
  have hs := h.kept.size
  refine ⟨h'.kept, ?_, ?_, ?_⟩
  · intro x hx
    rcases List.mem_append.1 hx with hx | hx
    · exact h'.blk x hx
    · simp at hx; subst hx
      exact B
  · intro x hx hl
    rcases List.mem_append.1 hx with hx | hx
    · exact h.own x hx hl
    · simp at hx; subst hx
      simp at hl; omega
  · rw [List.map_append, List.nodup_append]
    refine ⟨h.nd, by simp, ?_⟩
    intro a ha c hc
    simp at hc; subst hc
    obtain ⟨x, hx, rfl⟩ := List.mem_map.1 ha
    have := (h.blk x hx).lt
    omega
theorem Mm.at {w0 w : World} {bs : List (Nat × Nat × List Value)} (h : Mm X w0 w bs) (i : Nat) (x : Nat × Nat × List Value) (hx : bs[i]? = some x) : Blk w x.1 x.2.1 x.2.2 := h.blk x (List.mem_of_getElem? hx)
theorem Mm.mut {w0 w w' : World} {bs : List (Nat × Nat × List Value)} (h : Mm X w0 w bs) (i : Nat) {b T : Nat} {us vs : List Value} (hi : bs[i]? = some (b, T, us)) (hk : Kept [b] w w') (hB : Blk w' b T vs) : Mm X w0 w' (bs.set i (b, T, vs)) := by
  have h0 := h.own _ (List.mem_of_getElem? hi)
  refine ⟨h.kept.fresh hk (fun k hk' hl => by simp at hk'; subst hk'; exact h0 hl), ?_, ?_, ?_⟩
  · intro x hx
    obtain ⟨j, hj, rfl⟩ := List.getElem_of_mem hx
    rw [List.length_set] at hj
    by_cases hij : i = j
    · subst hij
      rw [List.getElem_set_self]
      exact hB
    · rw [List.getElem_set_ne hij]
      have hm := h.blk bs[j] (List.getElem_mem hj)
      refine hm.kept hk ?_
      simp only [List.mem_singleton]
      intro e
      have h1 := (List.getElem?_eq_some_iff.1 hi)
      obtain ⟨hi', hi''⟩ := h1
      have := List.pairwise_iff_getElem.1 h.nd
      rcases Nat.lt_or_gt_of_ne hij with hlt | hlt
      · have := this i j (by simpa using hi') (by simpa using hj) hlt
        simp [hi''] at this
        exact this e.symm
      · have := this j i (by simpa using hj) (by simpa using hi') hlt
        simp [hi''] at this
        exact this e
  · intro x hx hl
    obtain ⟨j, hj, rfl⟩ := List.getElem_of_mem hx
    rw [List.length_set] at hj
    by_cases hij : i = j
    · subst hij
      rw [List.getElem_set_self] at hl ⊢
      exact h0 hl
    · rw [List.getElem_set_ne hij] at hl ⊢
      exact h.own bs[j] (List.getElem_mem hj) hl
  · have : (bs.set i (b, T, vs)).map (·.1) = bs.map (·.1) := by
      rw [List.map_set]
      apply List.ext_getElem?
      intro j
      by_cases hij : i = j
      · subst hij
        have h1 := (List.getElem?_eq_some_iff.1 hi)
        obtain ⟨hi', hi''⟩ := h1
        simp [hi', hi'']
      · rw [List.getElem?_set_ne hij]
    rw [this]; exact h.nd
theorem Mm.sets {w0 w : World} {bs : List (Nat × Nat × List Value)} (h : Mm X w0 w bs) (i : Nat) {b T : Nat} {us : List Value} (hi : bs[i]? = some (b, T, us)) (vs : List Value) (hl : us.length = vs.length) : Mm X w0 (w.setCells b 0 vs) (bs.set i (b, T, vs)) :=
  h.mut i hi ((Kept.refl _ _).setCells _ _ (by simp)) ((h.at i _ hi).put hl)
theorem Mm.less {w0 w : World} {bs cs : List (Nat × Nat × List Value)} (h : Mm X w0 w bs) (hs : List.Sublist cs bs) : Mm X w0 w cs :=
  ⟨h.kept, fun x hx => h.blk x (hs.subset hx), fun x hx => h.own x (hs.subset hx), h.nd.sublist (hs.map _)⟩
theorem Kept.drop {w w' : World} {b T : Nat} {vs : List Value} (h : Kept [b] w w') (h1 : Blk w b T vs) (h2 : Blk w' b T vs) : Kept [] w w' :=
  ⟨h.os, h.tape, h.output, h.size, fun k hk _ => by
    by_cases e : k = b
    · subst e; rw [show w'.heap[k]? = _ from h2, show w.heap[k]? = _ from h1]
    · exact h.block k hk (by simpa using e)⟩
section
variable {ops : Array Oper} {rest : List Oper} {op : Oper} {a : Act} {w w0 : World} {Q : Exit → Act → World → Prop} {bs : List (Nat × Nat × List Value)}
theorem wpStoreM {T n : Nat} (hT : Row T n) (hgd : op.guard = none) (x y : Operand) (ho : op.op = .store T x y) (hd : op.dst = none) (b i : Nat) (vs : List Value) (hx : a.eval x = P0 b) (hy : a.eval y = aggV vs) (hl : vs.length = n) (h1 : ∀ v ∈ vs, v.oneCell' = true) (hM : Mm X w0 w bs) {us : List Value} (hi : bs[i]? = some (b, T, us)) (hu : us.length = n)
    (h : ∀ W, Mm X w0 W (bs.set i (b, T, vs)) → wpList Try.prog ops Q rest a W) : wpList Try.prog ops Q (op :: rest) a w := by
  refine wpStoreA hT hgd x y ho b 0 vs hx hy hl h1 ((hM.at i _ hi).there (by simp [hu])) ?_
  rw [hd]
  exact h _ (hM.sets i hi vs (by omega))
theorem storeVar1 {T : Nat} (hi : (Try.prog.info? T).map (·.size) = some 1) {w : World} {b off TT : Nat} {us : List Value} (hB : Blk w b TT us) (hl : off < us.length) (v : Value) (h1 : v.oneCell' = true) (hc1 : v.cells = #[v]) : (storeVar T ⟨b, off, none⟩ v).run Try.prog w = .ok () (w.setCell ⟨b, off, none⟩ v) := by
  have hc := hB.cell off
  rw [List.getElem?_eq_getElem hl] at hc
  have hf := hB.frozen off
  have g1 : ∀ j, j < [v].length → (w.cell? ⟨b, off + 0 + j, none⟩).isSome = true := by
    intro j hj
    have e : j = 0 := by simpa using hj
    subst e
    simp [hc]
  have g2 : ∀ j, j < [v].length → w.frozen? ⟨b, off + 0 + j, none⟩ = false := by
    intro j hj
    have e : j = 0 := by simpa using hj
    subst e
    simpa using hf
  have := run_storeCells_cells (P := Try.prog) b off [v] 0 w g1 g2 (fun u hu => by simp at hu; subst hu; exact h1)
  cases hq : Try.prog.info? T with
  | none => simp [hq] at hi
  | some i =>
    have hs : i.size = 1 := by simpa [hq] using hi
    simp [storeVar, hc1, sizeOf, typeInfo, hq, hs]
    simpa [World.setCells] using this
def One (v : Value) : Prop := v.oneCell' = true ∧ v.cells = #[v]
theorem wpStoreM1 {T : Nat} (hs : (Try.prog.info? T).map (·.size) = some 1) (hgd : op.guard = none) (x y : Operand) (ho : op.op = .store T x y) (hd : op.dst = none) (b off i : Nat) (v : Value) (h1 : One v) (hx : a.eval x = .pointer (some ⟨b, off, none⟩)) (hy : a.eval y = v) (hM : Mm X w0 w bs) {TT : Nat} {us : List Value} (hi : bs[i]? = some (b, TT, us)) (hl : off < us.length)
    (h : ∀ W, Mm X w0 W (bs.set i (b, TT, us.set off v)) → wpList Try.prog ops Q rest a W) : wpList Try.prog ops Q (op :: rest) a w :=
  wpList_plain hgd fun K hK => by
    have hst := storeVar1 hs (hM.at i _ hi) hl v h1.1 h1.2
    unfold Oper.wp execOp
    simp only [ho, hx, hy, Instr.storeAt, Instr.sureAddr, Sem.run_bind, Sem.run_pure, Result.andThen_ok, hst]
    refine hK _ _ ?_
    rw [hd]
    exact h _ (hM.mut i hi ((Kept.refl _ _).setCell (by simp) v) ((hM.at i _ hi).set v))
end
theorem one_int (κ : IntKind) (n : Int) : One (.int κ n) := ⟨rfl, rfl⟩
theorem one_bool (b : Bool) : One (.bool b) := ⟨rfl, rfl⟩
theorem keepG {St : (Nat → Bool) → (Nat → Value) → World → Prop} {l : Array Bool} {vs : Nat → Value} {j : Nat} {v : Value} {w : World} (sp : List Nat) (hloc : ∀ b b' vs vs' W, (∀ i ∈ sp, b i = b' i ∧ vs i = vs' i) → St b vs W → St b' vs' W) (hj : j < l.size) (hn : sp.all (fun i => i != j) = true) (h : St (fun i => l.getD i false) vs w) : St (fun i => (l.setIfInBounds j true).getD i false) (fun i => if i = j then v else vs i) w := by
  refine hloc _ _ _ _ _ (fun i hi => ?_) h
  have hne : i ≠ j := by have := List.all_eq_true.1 hn i hi; simpa using this
  exact ⟨by rw [getD_setD hj]; simp [hne], by simp [hne]⟩
theorem nextG {St : (Nat → Bool) → (Nat → Value) → World → Prop} {l : Array Bool} {vs : Nat → Value} {j : Nat} {v : Value} {w : World} (hj : j < l.size) (h : St (fun i => if i = j then true else l.getD i false) (fun i => if i = j then v else vs i) w) : St (fun i => (l.setIfInBounds j true).getD i false) (fun i => if i = j then v else vs i) w := by
  have e : (fun i => (l.setIfInBounds j true).getD i false) = (fun i => if i = j then true else l.getD i false) := by
    funext i
    exact getD_setD hj false
  rw [e]
  exact h
theorem wpLoadG {ops : Array Oper} {rest : List Oper} {op : Oper} {a : Act} {w : World} {Q : Exit → Act → World → Prop} {T n : Nat} (hT : Row T n) (x : Operand) (ho : op.op = .load T x) (hw : Region.wanted op (yielded ops a.tmps) = true) (b off : Nat) (hx : a.eval x = .pointer (some ⟨b, off, none⟩)) (vs : List Value) (hl : vs.length = n) (hA : w.rangeAt b off vs)
    (h : wpList Try.prog ops Q rest (a.put op.dst (aggV vs)) w) : wpList Try.prog ops Q (op :: rest) a w :=
  BigFrame.wpList_want hw fun _ hK => wp_loadA hT x ho b off hx vs hl hA (hK _ _ h)
theorem o_eqlA (T r : Nat) (hG : Try.prog.eqGuardType Try.prog.depth T = false) {o : Oper} {a : Act} {w : World} {K : Act → World → Prop} {Q : Exit → Act → World → Prop} (x y : Operand) (ho : o.op = .binOp .eql T x y r) (vs us : List Value) (hx : a.eval x = aggV vs) (hy : a.eval y = aggV us) (c : Bool)
    (he : (Op.equal T (aggV vs) (aggV us)).run Try.prog w = .ok c w) (h : K (a.put o.dst (.bool c)) w) : o.wp Try.prog a w K Q := by
  unfold Oper.wp execOp
  simp only [aggV] at he hx hy
  have hg : (eqGuard .eql T x y (.agg vs.toArray) (.agg us.toArray)).run Try.prog w = .ok () w := by simp [eqGuard, Sem.run_bind, hG]
  have hb : (binOp BinOp.eql T (.agg vs.toArray) (.agg us.toArray)).run Try.prog w = .ok (.bool c) w := by simp only [binOp, Sem.run_bind, he, Result.andThen_ok, Sem.run_pure]
  simp only [ho, hx, hy, Sem.run_bind, hg, hb, Result.andThen_ok]
  exact h
theorem o_neqA (T r : Nat) (hG : Try.prog.eqGuardType Try.prog.depth T = false) {o : Oper} {a : Act} {w : World} {K : Act → World → Prop} {Q : Exit → Act → World → Prop} (x y : Operand) (ho : o.op = .binOp .neq T x y r) (vs us : List Value) (hx : a.eval x = aggV vs) (hy : a.eval y = aggV us) (c : Bool)
    (he : (Op.equal T (aggV vs) (aggV us)).run Try.prog w = .ok c w) (h : K (a.put o.dst (.bool (!c))) w) : o.wp Try.prog a w K Q := by
  unfold Oper.wp execOp
  simp only [aggV] at he hx hy
  have hg : (eqGuard .neq T x y (.agg vs.toArray) (.agg us.toArray)).run Try.prog w = .ok () w := by simp [eqGuard, Sem.run_bind, hG]
  have hb : (binOp BinOp.neq T (.agg vs.toArray) (.agg us.toArray)).run Try.prog w = .ok (.bool (!c)) w := by simp only [binOp, Sem.run_bind, he, Result.andThen_ok, Sem.run_pure]
  simp only [ho, hx, hy, Sem.run_bind, hg, hb, Result.andThen_ok]
  exact h
theorem wp_text_tq {id : Nat} {ops : Array Oper} {Q : Exit → Act → World → Prop} {a0 : Act} {w0 : World} (n : Nat) (hn : ops.size = n) (hok : prefG ops n = true) (us : List (Option Value)) (hu : us.length = n) (hg : guardsQ ops us = true)
    (hsl : ops.all (fun o => match o.dst with | none => true | some t => decide (t < a0.tmps.size)) = true)
    (hop : ∀ (j : Nat) (o : Oper), j < n → skipQ us j = false → ops[j]? = some o → ∀ a w, (∀ t : Nat, (ops.toList.take n).all (fun p => p.dst != some t) = true → a.eval (.tmp t) = a0.eval (.tmp t)) →
      (∀ (i t : Nat), o.after.any (fun e => Region.binds .any e && e.on == i) = true → ops[i]?.bind (·.dst) = some t → tq us i (a.eval (.tmp t)) w) → Kept [] w0 w →
      o.wp Try.prog a w (fun a' w' => ∃ v, a' = a.put o.dst v ∧ tq us j v w' ∧ Kept [] w w' ∧ ∀ i u, i < n → i ≠ j → tq us i u w → True) Q)
    (hQ : ∀ w, Kept [] w0 w → Q .normal (putAll a0 (ops.toList.take n) (valsQ us)) w) : (Code.region id ops false).wp Try.prog Q a0 w0 := by
  refine wp_region_text n hn hok (tq us) (fun _ _ _ _ => True) (skipQ us) (fun j o i b _ ho hg' => guardsQ_some hg j o i b ho hg') (fun j o _ ho hg' => guardsQ_none hg j o ho hg') (fun j w h => skipQ_undef w h) (fun _ _ _ _ => trivial) (tq_kept us) hsl hop ?_
  intro vs w hlen hv hk
  obtain rfl := vs_tq hv (by omega)
  exact hQ w hk
section
variable {o : Oper} {a : Act} {w : World} {K : Act → World → Prop} {Q : Exit → Act → World → Prop}
theorem o_nil (x : Operand) (ho : o.op = .nilCheck x) (p : Addr) (hx : a.eval x = .pointer (some p)) (h : K (a.put o.dst (.pointer (some p))) w) : o.wp Try.prog a w K Q := by
  unfold Oper.wp execOp
  simp only [ho, hx]
  simp [go_sem]
  exact h
theorem o_load3 (x : Operand) (ho : o.op = .load 3 x) (p : Addr) (v : Value) (hx : a.eval x = .pointer (some p)) (hc : w.cell? p = some v) (h : K (a.put o.dst v) w) : o.wp Try.prog a w K Q := by
  unfold Oper.wp execOp
  simp only [ho, hx]
  simp [go_sem, hc]
  exact h
theorem o_load4 (x : Operand) (ho : o.op = .load 4 x) (p : Addr) (v : Value) (hx : a.eval x = .pointer (some p)) (hc : w.cell? p = some v) (h : K (a.put o.dst v) w) : o.wp Try.prog a w K Q := by
  unfold Oper.wp execOp
  simp only [ho, hx]
  simp [go_sem, hc]
  exact h
theorem c_eql2 (x y : Operand) (ho : o.op = .binOp .eql 2 x y 2) (m n : Int) (r : Bool) (hr : decide (m = n) = r) (hx : a.eval x = .int .i64 m) (hy : a.eval y = .int .i64 n) (h : K (a.put o.dst (.bool r)) w) : o.wp Try.prog a w K Q := by
  unfold Oper.wp execOp
  simp only [ho, hx, hy]
  have hb : (m == n) = r := by rw [← hr]; rfl
  simp [go_sem, hb]
  exact h
theorem c_eql3 (x y : Operand) (ho : o.op = .binOp .eql 3 x y 3) (m n : Int) (r : Bool) (hr : decide (m = n) = r) (hx : a.eval x = .int .i64 m) (hy : a.eval y = .int .i64 n) (h : K (a.put o.dst (.bool r)) w) : o.wp Try.prog a w K Q := by
  unfold Oper.wp execOp
  simp only [ho, hx, hy]
  have hb : (m == n) = r := by rw [← hr]; rfl
  simp [go_sem, hb]
  exact h
theorem c_neq2 (x y : Operand) (ho : o.op = .binOp .neq 2 x y 2) (m n : Int) (r : Bool) (hr : decide (m = n) = r) (hx : a.eval x = .int .i64 m) (hy : a.eval y = .int .i64 n) (h : K (a.put o.dst (.bool (!r))) w) : o.wp Try.prog a w K Q := by
  unfold Oper.wp execOp
  simp only [ho, hx, hy]
  have hb : (m != n) = !r := by rw [← hr]; rfl
  simp [go_sem, hb]
  exact h
theorem c_neq3 (x y : Operand) (ho : o.op = .binOp .neq 3 x y 3) (m n : Int) (r : Bool) (hr : decide (m = n) = r) (hx : a.eval x = .int .i64 m) (hy : a.eval y = .int .i64 n) (h : K (a.put o.dst (.bool (!r))) w) : o.wp Try.prog a w K Q := by
  unfold Oper.wp execOp
  simp only [ho, hx, hy]
  have hb : (m != n) = !r := by rw [← hr]; rfl
  simp [go_sem, hb]
  exact h
theorem c_lss2 (x y : Operand) (ho : o.op = .binOp .lss 2 x y 2) (m n : Int) (r : Bool) (hr : decide (m < n) = r) (hx : a.eval x = .int .i64 m) (hy : a.eval y = .int .i64 n) (h : K (a.put o.dst (.bool r)) w) : o.wp Try.prog a w K Q := by
  unfold Oper.wp execOp
  simp only [ho, hx, hy]
  subst hr
  simp [go_sem]
  exact h
theorem c_lss3 (x y : Operand) (ho : o.op = .binOp .lss 3 x y 3) (m n : Int) (r : Bool) (hr : decide (m < n) = r) (hx : a.eval x = .int .i64 m) (hy : a.eval y = .int .i64 n) (h : K (a.put o.dst (.bool r)) w) : o.wp Try.prog a w K Q := by
  unfold Oper.wp execOp
  simp only [ho, hx, hy]
  subst hr
  simp [go_sem]
  exact h
theorem c_gtr2 (x y : Operand) (ho : o.op = .binOp .gtr 2 x y 2) (m n : Int) (r : Bool) (hr : decide (m > n) = r) (hx : a.eval x = .int .i64 m) (hy : a.eval y = .int .i64 n) (h : K (a.put o.dst (.bool r)) w) : o.wp Try.prog a w K Q := by
  unfold Oper.wp execOp
  simp only [ho, hx, hy]
  subst hr
  simp [go_sem]
  exact h
theorem c_gtr3 (x y : Operand) (ho : o.op = .binOp .gtr 3 x y 3) (m n : Int) (r : Bool) (hr : decide (m > n) = r) (hx : a.eval x = .int .i64 m) (hy : a.eval y = .int .i64 n) (h : K (a.put o.dst (.bool r)) w) : o.wp Try.prog a w K Q := by
  unfold Oper.wp execOp
  simp only [ho, hx, hy]
  subst hr
  simp [go_sem]
  exact h
theorem c_geq2 (x y : Operand) (ho : o.op = .binOp .geq 2 x y 2) (m n : Int) (r : Bool) (hr : decide (m ≥ n) = r) (hx : a.eval x = .int .i64 m) (hy : a.eval y = .int .i64 n) (h : K (a.put o.dst (.bool r)) w) : o.wp Try.prog a w K Q := by
  unfold Oper.wp execOp
  simp only [ho, hx, hy]
  subst hr
  simp [go_sem]
  exact h
theorem c_geq3 (x y : Operand) (ho : o.op = .binOp .geq 3 x y 3) (m n : Int) (r : Bool) (hr : decide (m ≥ n) = r) (hx : a.eval x = .int .i64 m) (hy : a.eval y = .int .i64 n) (h : K (a.put o.dst (.bool r)) w) : o.wp Try.prog a w K Q := by
  unfold Oper.wp execOp
  simp only [ho, hx, hy]
  subst hr
  simp [go_sem]
  exact h
theorem c_leq2 (x y : Operand) (ho : o.op = .binOp .leq 2 x y 2) (m n : Int) (r : Bool) (hr : decide (m ≤ n) = r) (hx : a.eval x = .int .i64 m) (hy : a.eval y = .int .i64 n) (h : K (a.put o.dst (.bool r)) w) : o.wp Try.prog a w K Q := by
  unfold Oper.wp execOp
  simp only [ho, hx, hy]
  subst hr
  simp [go_sem]
  exact h
theorem c_leq3 (x y : Operand) (ho : o.op = .binOp .leq 3 x y 3) (m n : Int) (r : Bool) (hr : decide (m ≤ n) = r) (hx : a.eval x = .int .i64 m) (hy : a.eval y = .int .i64 n) (h : K (a.put o.dst (.bool r)) w) : o.wp Try.prog a w K Q := by
  unfold Oper.wp execOp
  simp only [ho, hx, hy]
  subst hr
  simp [go_sem]
  exact h
theorem c_add3 (x y : Operand) (ho : o.op = .binOp .add 3 x y 3) (m n : Int) (hm : -1000000000 ≤ m + n ∧ m + n ≤ 1000000000) (hx : a.eval x = .int .i64 m) (hy : a.eval y = .int .i64 n) (h : K (a.put o.dst (.int .i64 (m + n))) w) : o.wp Try.prog a w K Q := by
  unfold Oper.wp execOp
  simp only [ho, hx, hy]
  have e : IntKind.i64.wrap (m + n) = m + n := by rw [IntKind.wrap_i64]; omega
  simp [go_sem, e]
  exact h
theorem wp_buildZ {T : Nat} (vs : List Value) (hr : ∀ w : World, (Instr.build T #[]).run Try.prog w = .ok (aggV vs) w) (ho : o.op = .build T #[]) (h : K (a.put o.dst (aggV vs)) w) : o.wp Try.prog a w K Q := by
  unfold Oper.wp execOp
  simp only [ho, Array.map_empty, Sem.run_bind, hr, Result.andThen_ok]
  exact h
theorem c_eql4 (x y : Operand) (ho : o.op = .binOp .eql 4 x y 4) (p q r : Bool) (hr : (p == q) = r) (hx : a.eval x = .bool p) (hy : a.eval y = .bool q) (h : K (a.put o.dst (.bool r)) w) : o.wp Try.prog a w K Q := by
  unfold Oper.wp execOp
  simp only [ho, hx, hy]
  have hb : (p == q) = r := hr
  simp [go_sem, hb]
  exact h
theorem c_neq4 (x y : Operand) (ho : o.op = .binOp .neq 4 x y 4) (p q r : Bool) (hr : (p == q) = r) (hx : a.eval x = .bool p) (hy : a.eval y = .bool q) (h : K (a.put o.dst (.bool (!r))) w) : o.wp Try.prog a w K Q := by
  unfold Oper.wp execOp
  simp only [ho, hx, hy]
  have hb : (p == q) = r := hr
  simp [go_sem, bne, hb]
  exact h
end
section
variable {o : Oper} {a : Act} {w w0 : World} {K : Act → World → Prop} {Q : Exit → Act → World → Prop} {bs : List (Nat × Nat × List Value)}
theorem o_st1 {T : Nat} (hs : (Try.prog.info? T).map (·.size) = some 1) (x y : Operand) (ho : o.op = .store T x y) (hd : o.dst = none) (b off i : Nat) (v : Value) (h1 : One v) (hx : a.eval x = .pointer (some ⟨b, off, none⟩)) (hy : a.eval y = v) (hM : Mm X w0 w bs) {TT : Nat} {us us' : List Value} (hi : bs[i]? = some (b, TT, us)) (hl : off < us.length) (he : us.set off v = us')
    (h : ∀ W, Mm X w0 W (bs.set i (b, TT, us')) → K a W) : o.wp Try.prog a w K Q := by
  subst he
  have hst := storeVar1 hs (hM.at i _ hi) hl v h1.1 h1.2
  unfold Oper.wp execOp
  simp only [ho, hx, hy, Instr.storeAt, Instr.sureAddr, Sem.run_bind, Sem.run_pure, Result.andThen_ok, hst]
  show K (a.put o.dst undef) _
  rw [hd]
  exact h _ (hM.mut i hi ((Kept.refl _ _).setCell (by simp) v) ((hM.at i _ hi).set v))
theorem o_stN {T n : Nat} (hT : Row T n) (x y : Operand) (ho : o.op = .store T x y) (hd : o.dst = none) (b off i : Nat) (vs : List Value) (hx : a.eval x = .pointer (some ⟨b, off, none⟩)) (hy : a.eval y = aggV vs) (hl : vs.length = n) (h1 : ∀ v ∈ vs, v.oneCell' = true) (hM : Mm X w0 w bs) {TT : Nat} {us us' : List Value} (hi : bs[i]? = some (b, TT, us)) (hu : off + n ≤ us.length) (he : ∀ W, Blk W b TT us → Blk (W.setCells b off vs) b TT us')
    (h : ∀ W, Mm X w0 W (bs.set i (b, TT, us')) → K a W) : o.wp Try.prog a w K Q := by
  refine wp_storeN hT x y ho hd b off vs hx hy hl h1 ((hM.at i _ hi).there hu) ?_
  exact h _ (hM.mut i hi ((Kept.refl _ _).setCells _ _ (by simp)) (he _ (hM.at i _ hi)))
end
section
variable {ops : Array Oper} {rest : List Oper} {op : Oper} {a : Act} {w w0 : World} {Q : Exit → Act → World → Prop} {bs : List (Nat × Nat × List Value)}
theorem wpSt1 {T : Nat} (hs : (Try.prog.info? T).map (·.size) = some 1) (hgd : op.guard = none) (x y : Operand) (ho : op.op = .store T x y) (hd : op.dst = none) (b off i : Nat) (v : Value) (h1 : One v) (hx : a.eval x = .pointer (some ⟨b, off, none⟩)) (hy : a.eval y = v) (hM : Mm X w0 w bs) {TT : Nat} {us us' : List Value} (hi : bs[i]? = some (b, TT, us)) (hl : off < us.length) (he : us.set off v = us')
    (h : ∀ W, Mm X w0 W (bs.set i (b, TT, us')) → wpList Try.prog ops Q rest a W) : wpList Try.prog ops Q (op :: rest) a w :=
  wpList_plain hgd fun _ hK => o_st1 hs x y ho hd b off i v h1 hx hy hM hi hl he (fun W hW => hK _ _ (h W hW))
theorem wpStN {T n : Nat} (hT : Row T n) (hgd : op.guard = none) (x y : Operand) (ho : op.op = .store T x y) (hd : op.dst = none) (b off i : Nat) (vs : List Value) (hx : a.eval x = .pointer (some ⟨b, off, none⟩)) (hy : a.eval y = aggV vs) (hl : vs.length = n) (h1 : ∀ v ∈ vs, v.oneCell' = true) (hM : Mm X w0 w bs) {TT : Nat} {us us' : List Value} (hi : bs[i]? = some (b, TT, us)) (hu : off + n ≤ us.length) (he : ∀ W, Blk W b TT us → Blk (W.setCells b off vs) b TT us')
    (h : ∀ W, Mm X w0 W (bs.set i (b, TT, us')) → wpList Try.prog ops Q rest a W) : wpList Try.prog ops Q (op :: rest) a w :=
  wpList_plain hgd fun _ hK => o_stN hT x y ho hd b off i vs hx hy hl h1 hM hi hu he (fun W hW => hK _ _ (h W hW))
end
@[reducible] def SD1 (X : List Nat) (w : World) (mk : Bool → List (Nat × Nat × List Value)) (k : Nat) (d : Nat → Bool) (_ : Nat → Value) (W : World) : Prop := Mm X w W (mk (d k))
theorem SD1.loc {X : List Nat} {w : World} {mk : Bool → List (Nat × Nat × List Value)} {k : Nat} : ∀ d d' vs vs' W, (∀ i ∈ [k], d i = d' i ∧ vs i = vs' i) → SD1 X w mk k d vs W → SD1 X w mk k d' vs' W := by
  intro d d' vs vs' W H h
  have e0 := (H k (by simp)).1
  unfold SD1 at h ⊢
  rw [← e0]
  exact h
theorem SD1.no {X : List Nat} {w : World} {mk : Bool → List (Nat × Nat × List Value)} {k : Nat} {d : Nat → Bool} {vs : Nat → Value} {W : World} (h : SD1 X w mk k d vs W) (hd : d k = false) : Mm X w W (mk false) := by rw [← hd]; exact h
theorem SD1.yes {X : List Nat} {w : World} {mk : Bool → List (Nat × Nat × List Value)} {k : Nat} {d : Nat → Bool} {vs : Nat → Value} {W : World} (h : SD1 X w mk k d vs W) (hd : d k = true) : Mm X w W (mk true) := by rw [← hd]; exact h
@[reducible] def SD2 (X : List Nat) (w : World) (mk : Bool → Bool → List (Nat × Nat × List Value)) (k k2 : Nat) (d : Nat → Bool) (_ : Nat → Value) (W : World) : Prop := Mm X w W (mk (d k) (d k2))
theorem SD2.loc {X : List Nat} {w : World} {mk : Bool → Bool → List (Nat × Nat × List Value)} {k k2 : Nat} : ∀ d d' vs vs' W, (∀ i ∈ [k, k2], d i = d' i ∧ vs i = vs' i) → SD2 X w mk k k2 d vs W → SD2 X w mk k k2 d' vs' W := by
  intro d d' vs vs' W H h
  have e0 := (H k (by simp)).1
  have e1 := (H k2 (by simp)).1
  unfold SD2 at h ⊢
  rw [← e0, ← e1]
  exact h
theorem SD2.no {X : List Nat} {w : World} {mk : Bool → Bool → List (Nat × Nat × List Value)} {k k2 : Nat} {d : Nat → Bool} {vs : Nat → Value} {W : World} (h : SD2 X w mk k k2 d vs W) (hd : d k = false) : Mm X w W (mk false (d k2)) := by rw [← hd]; exact h
theorem SD2.no2 {X : List Nat} {w : World} {mk : Bool → Bool → List (Nat × Nat × List Value)} {k k2 : Nat} {d : Nat → Bool} {vs : Nat → Value} {W : World} (h : SD2 X w mk k k2 d vs W) (hd : d k2 = false) : Mm X w W (mk (d k) false) := by rw [← hd]; exact h
theorem SD2.yes {X : List Nat} {w : World} {mk : Bool → Bool → List (Nat × Nat × List Value)} {k k2 : Nat} {d : Nat → Bool} {vs : Nat → Value} {W : World} (h : SD2 X w mk k k2 d vs W) (hd : d k = true) (hd2 : d k2 = true) : Mm X w W (mk true true) := by have h9 := h; unfold SD2 at h9; rw [hd, hd2] at h9; exact h9

section
variable {ops : Array Oper} {rest : List Oper} {op o : Oper} {a : Act} {w : World} {K : Act → World → Prop} {Q : Exit → Act → World → Prop}
theorem o_load50 (x : Operand) (ho : o.op = .load 50 x) (p : Addr) (v : Value) (hx : a.eval x = .pointer (some p)) (hc : w.cell? p = some v) (h : K (a.put o.dst v) w) : o.wp Try.prog a w K Q := by
  unfold Oper.wp execOp
  simp only [ho, hx]
  simp [go_sem, hc]
  exact h
theorem o_load25 (x : Operand) (ho : o.op = .load 25 x) (p : Addr) (v : Value) (hx : a.eval x = .pointer (some p)) (hc : w.cell? p = some v) (h : K (a.put o.dst v) w) : o.wp Try.prog a w K Q := by
  unfold Oper.wp execOp
  simp only [ho, hx]
  simp [go_sem, hc]
  exact h
theorem o_load28 (x : Operand) (ho : o.op = .load 28 x) (p : Addr) (v : Value) (hx : a.eval x = .pointer (some p)) (hc : w.cell? p = some v) (h : K (a.put o.dst v) w) : o.wp Try.prog a w K Q := by
  unfold Oper.wp execOp
  simp only [ho, hx]
  simp [go_sem, hc]
  exact h
theorem o_load72 (x : Operand) (ho : o.op = .load 72 x) (p : Addr) (v : Value) (hx : a.eval x = .pointer (some p)) (hc : w.cell? p = some v) (h : K (a.put o.dst v) w) : o.wp Try.prog a w K Q := by
  unfold Oper.wp execOp
  simp only [ho, hx]
  simp [go_sem, hc]
  exact h
theorem wpLd50 (hgd : op.guard = none) (x : Operand) (ho : op.op = .load 50 x) (p : Addr) (v : Value) (hx : a.eval x = .pointer (some p)) (hc : w.cell? p = some v) (h : wpList Try.prog ops Q rest (a.put op.dst v) w) : wpList Try.prog ops Q (op :: rest) a w :=
  wpList_plain hgd fun _ hK => o_load50 x ho p v hx hc (hK _ _ h)
theorem wpLd50W (hw : Region.wanted op (yielded ops a.tmps) = true) (x : Operand) (ho : op.op = .load 50 x) (p : Addr) (v : Value) (hx : a.eval x = .pointer (some p)) (hc : w.cell? p = some v) (h : wpList Try.prog ops Q rest (a.put op.dst v) w) : wpList Try.prog ops Q (op :: rest) a w :=
  BigFrame.wpList_want hw fun _ hK => o_load50 x ho p v hx hc (hK _ _ h)
theorem wpLd25 (hgd : op.guard = none) (x : Operand) (ho : op.op = .load 25 x) (p : Addr) (v : Value) (hx : a.eval x = .pointer (some p)) (hc : w.cell? p = some v) (h : wpList Try.prog ops Q rest (a.put op.dst v) w) : wpList Try.prog ops Q (op :: rest) a w :=
  wpList_plain hgd fun _ hK => o_load25 x ho p v hx hc (hK _ _ h)
theorem wpLd25W (hw : Region.wanted op (yielded ops a.tmps) = true) (x : Operand) (ho : op.op = .load 25 x) (p : Addr) (v : Value) (hx : a.eval x = .pointer (some p)) (hc : w.cell? p = some v) (h : wpList Try.prog ops Q rest (a.put op.dst v) w) : wpList Try.prog ops Q (op :: rest) a w :=
  BigFrame.wpList_want hw fun _ hK => o_load25 x ho p v hx hc (hK _ _ h)
theorem o_fld52_0 (x : Operand) (ho : o.op = .fieldAddr 52 x 0) (b i j : Nat) (hj : i = j) (hx : a.eval x = .pointer (some ⟨b, i, none⟩)) (h : K (a.put o.dst (.pointer (some ⟨b, j, none⟩))) w) : o.wp Try.prog a w K Q := by
  subst hj
  unfold Oper.wp execOp
  simp only [ho, hx]
  simp [go_sem]
  exact h
theorem o_fld54_0 (x : Operand) (ho : o.op = .fieldAddr 54 x 0) (b i j : Nat) (hj : i = j) (hx : a.eval x = .pointer (some ⟨b, i, none⟩)) (h : K (a.put o.dst (.pointer (some ⟨b, j, none⟩))) w) : o.wp Try.prog a w K Q := by
  subst hj
  unfold Oper.wp execOp
  simp only [ho, hx]
  simp [go_sem]
  exact h
theorem o_fld54_1 (x : Operand) (ho : o.op = .fieldAddr 54 x 1) (b i j : Nat) (hj : i + 1 = j) (hx : a.eval x = .pointer (some ⟨b, i, none⟩)) (h : K (a.put o.dst (.pointer (some ⟨b, j, none⟩))) w) : o.wp Try.prog a w K Q := by
  subst hj
  unfold Oper.wp execOp
  simp only [ho, hx]
  simp [go_sem]
  exact h
theorem o_fld54_2 (x : Operand) (ho : o.op = .fieldAddr 54 x 2) (b i j : Nat) (hj : i + 2 = j) (hx : a.eval x = .pointer (some ⟨b, i, none⟩)) (h : K (a.put o.dst (.pointer (some ⟨b, j, none⟩))) w) : o.wp Try.prog a w K Q := by
  subst hj
  unfold Oper.wp execOp
  simp only [ho, hx]
  simp [go_sem]
  exact h
theorem o_fld67_0 (x : Operand) (ho : o.op = .fieldAddr 67 x 0) (b i j : Nat) (hj : i = j) (hx : a.eval x = .pointer (some ⟨b, i, none⟩)) (h : K (a.put o.dst (.pointer (some ⟨b, j, none⟩))) w) : o.wp Try.prog a w K Q := by
  subst hj
  unfold Oper.wp execOp
  simp only [ho, hx]
  simp [go_sem]
  exact h
theorem o_fld67_1 (x : Operand) (ho : o.op = .fieldAddr 67 x 1) (b i j : Nat) (hj : i + 1 = j) (hx : a.eval x = .pointer (some ⟨b, i, none⟩)) (h : K (a.put o.dst (.pointer (some ⟨b, j, none⟩))) w) : o.wp Try.prog a w K Q := by
  subst hj
  unfold Oper.wp execOp
  simp only [ho, hx]
  simp [go_sem]
  exact h
theorem o_lookU (x y : Operand) (ho : o.op = .lookup 50 x y true) (mb : Nat) (L : List Mk) (p s : Int) (u : Int) (f : Bool) (hu : lookV p s L = u) (hf : (placeOf p s L 0).isSome = f) (hM : MapAt w mb L) (hx : a.eval x = .map (some mb)) (hy : a.eval y = aggV (keyC p s)) (h : K (a.put o.dst (.tuple #[.int .i64 u, .bool f])) w) : o.wp Try.prog a w K Q := by
  have hr := run_look w mb L p s hM
  rw [hu, hf] at hr
  unfold Oper.wp execOp
  simp only [ho, hx, hy, Sem.run_bind, hr, Result.andThen_ok]
  exact h
theorem o_len50 (x : Operand) (ho : o.op = .call { callee := .builtin .len, args := #[x], argTypes := #[50] }) (mb : Nat) (L : List Mk) (hx : a.eval x = .map (some mb)) (hM : MapAt w mb L) (h : K (a.put o.dst (.int .i64 (L.length : Int))) w) : o.wp Try.prog a w K Q := by
  have hr := run_len w mb L o.type hM
  unfold Oper.wp execOp
  simp only [ho, resolve, invoke, builtin, Sem.run_bind, Sem.run_pure, Result.andThen_ok, List.map_toArray, List.map_cons, List.map_nil, hx, hr]
  exact h
theorem o_len50z (x : Operand) (ho : o.op = .call { callee := .builtin .len, args := #[x], argTypes := #[50] }) (hx : a.eval x = .map none) (h : K (a.put o.dst (.int .i64 0)) w) : o.wp Try.prog a w K Q := by
  have hr : (Builtin.len_ #[50] o.type #[.map none]).run Try.prog w = .ok (.int .i64 0) w := by
    unfold Builtin.len_
    simp [Sem.run_bind, run_underlying map50, goInt]
  unfold Oper.wp execOp
  simp only [ho, resolve, invoke, builtin, Sem.run_bind, Sem.run_pure, Result.andThen_ok, List.map_toArray, List.map_cons, List.map_nil, hx, hr]
  exact h
theorem wpLen50 (hgd : op.guard = none) (x : Operand) (ho : op.op = .call { callee := .builtin .len, args := #[x], argTypes := #[50] }) (mb : Nat) (L : List Mk) (hx : a.eval x = .map (some mb)) (hM : MapAt w mb L) (h : wpList Try.prog ops Q rest (a.put op.dst (.int .i64 (L.length : Int))) w) : wpList Try.prog ops Q (op :: rest) a w :=
  wpList_plain hgd fun _ hK => o_len50 x ho mb L hx hM (hK _ _ h)
end

end Go.Proofs.Ythihladmifpokaa
