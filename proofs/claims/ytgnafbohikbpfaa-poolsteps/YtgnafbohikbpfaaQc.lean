/-
  Blocks kept in mind; single operations; maps.
-/
import Derived.Test.YtgnafbohikbpfaaQb
import Derived.OwnWalk
import Derived.MapKept
import Derived.WalkSpells
import Derived.Laws.AppendOwn
import Derived.Laws.AppendOwnNone
namespace Go.Proofs.Ytgnafbohikbpfaa
set_option maxRecDepth 100000
set_option linter.unusedSimpArgs false
open Go.RowKit

structure Mm (X : List Nat) (w0 w : World) (bs : List (Nat × Nat × List Value)) : Prop where
  kept : Kept X w0 w
  blk : ∀ x ∈ bs, Blk w x.1 x.2.1 x.2.2
  own : ∀ x ∈ bs, x.1 < w0.heap.size → x.1 ∈ X
  nd : (bs.map (·.1)).Nodup
theorem Mm.init {X : List Nat} {w : World} : Mm X w w [] := ⟨Kept.refl _ _, (fun x hx => by cases hx), (fun x hx => by cases hx), List.nodup_nil⟩
theorem Mm.one {w : World} {b T : Nat} {vs : List Value} (h : Blk w b T vs) : Mm [b] w w [(b, T, vs)] := ⟨Kept.refl _ _, (fun x hx => by simp at hx; subst hx; exact h), (fun x hx _ => by simp at hx; subst hx; simp), by simp⟩
theorem Mm.two {w : World} {b T c U : Nat} {vs us : List Value} (h : Blk w b T vs) (k : Blk w c U us) (hne : b ≠ c) : Mm [b, c] w w [(b, T, vs), (c, U, us)] :=
  ⟨Kept.refl _ _, (fun x hx => by simp at hx; rcases hx with rfl | rfl; exact h; exact k), (fun x hx _ => by simp at hx; rcases hx with rfl | rfl <;> simp), by simp [hne]⟩
variable {X : List Nat}
theorem Mm.step {w0 w w' : World} {bs : List (Nat × Nat × List Value)} (h : Mm X w0 w bs) (hk : Kept [] w w') : Mm X w0 w' bs :=
  ⟨h.kept.trans (hk.mono (by simp)), fun x hx => (h.blk x hx).kept hk (by simp), h.own, h.nd⟩
theorem Mm.drew {w0 W : World} {bs : List (Nat × Nat × List Value)} (h : Mm X w0 W bs) : Mm X w0 W.drew bs := ⟨h.kept.drew, fun x hx => (h.blk x hx).drew, h.own, h.nd⟩
theorem Mm.new {w0 w W : World} {bs : List (Nat × Nat × List Value)} {b T : Nat} {vs : List Value} (h : Mm X w0 w bs) (hb : b = w.heap.size) (B : Blk W b T vs) (K : Kept [] w W) : Mm X w0 W (bs ++ [(b, T, vs)]) := by
  have h' := h.step K
  have hs := h.kept.size
  refine ⟨h'.kept, ?_, ?_, ?_⟩
  · intro x hx
    rcases List.mem_append.1 hx with hx | hx
    · exact h'.blk x hx
    · simp at hx; subst hx
      exact B
  · intro x hx hl
    rcases List.mem_append.1 hx with hx | hx
    · exact h.own x hx hl
    · simp at hx; subst hx
      simp at hl; omega
  · rw [List.map_append, List.nodup_append]
    refine ⟨h.nd, by simp, ?_⟩
    intro a ha c hc
    simp at hc; subst hc
    obtain ⟨x, hx, rfl⟩ := List.mem_map.1 ha
    have := (h.blk x hx).lt
    omega
theorem Mm.at {w0 w : World} {bs : List (Nat × Nat × List Value)} (h : Mm X w0 w bs) (i : Nat) (x : Nat × Nat × List Value) (hx : bs[i]? = some x) : Blk w x.1 x.2.1 x.2.2 := h.blk x (List.mem_of_getElem? hx)
theorem Mm.mut {w0 w w' : World} {bs : List (Nat × Nat × List Value)} (h : Mm X w0 w bs) (i : Nat) {b T : Nat} {us vs : List Value} (hi : bs[i]? = some (b, T, us)) (hk : Kept [b] w w') (hB : Blk w' b T vs) : Mm X w0 w' (bs.set i (b, T, vs)) := by
  have h0 := h.own _ (List.mem_of_getElem? hi)
  refine ⟨h.kept.fresh hk (fun k hk' hl => by simp at hk'; subst hk'; exact h0 hl), ?_, ?_, ?_⟩
  · intro x hx
    obtain ⟨j, hj, rfl⟩ := List.getElem_of_mem hx
    rw [List.length_set] at hj
    by_cases hij : i = j
    · subst hij
      rw [List.getElem_set_self]
      exact hB
    · rw [List.getElem_set_ne hij]
      have hm := h.blk bs[j] (List.getElem_mem hj)
      refine hm.kept hk ?_
      simp only [List.mem_singleton]
      intro e
      have h1 := (List.getElem?_eq_some_iff.1 hi)
      obtain ⟨hi', hi''⟩ := h1
      have := List.pairwise_iff_getElem.1 h.nd
      rcases Nat.lt_or_gt_of_ne hij with hlt | hlt
      · have := this i j (by simpa using hi') (by simpa using hj) hlt
        simp [hi''] at this
        exact this e.symm
      · have := this j i (by simpa using hj) (by simpa using hi') hlt
        simp [hi''] at this
        exact this e
  · intro x hx hl
    obtain ⟨j, hj, rfl⟩ := List.getElem_of_mem hx
    rw [List.length_set] at hj
    by_cases hij : i = j
    · subst hij
      rw [List.getElem_set_self] at hl ⊢
      exact h0 hl
    · rw [List.getElem_set_ne hij] at hl ⊢
      exact h.own bs[j] (List.getElem_mem hj) hl
  · have : (bs.set i (b, T, vs)).map (·.1) = bs.map (·.1) := by
      rw [List.map_set]
      apply List.ext_getElem?
      intro j
      by_cases hij : i = j
      · subst hij
        have h1 := (List.getElem?_eq_some_iff.1 hi)
        obtain ⟨hi', hi''⟩ := h1
        simp [hi', hi'']
      · rw [List.getElem?_set_ne hij]
    rw [this]; exact h.nd
theorem Mm.sets {w0 w : World} {bs : List (Nat × Nat × List Value)} (h : Mm X w0 w bs) (i : Nat) {b T : Nat} {us : List Value} (hi : bs[i]? = some (b, T, us)) (vs : List Value) (hl : us.length = vs.length) : Mm X w0 (w.setCells b 0 vs) (bs.set i (b, T, vs)) :=
  h.mut i hi ((Kept.refl _ _).setCells _ _ (by simp)) ((h.at i _ hi).put hl)
theorem Mm.less {w0 w : World} {bs cs : List (Nat × Nat × List Value)} (h : Mm X w0 w bs) (hs : List.Sublist cs bs) : Mm X w0 w cs :=
  ⟨h.kept, fun x hx => h.blk x (hs.subset hx), fun x hx => h.own x (hs.subset hx), h.nd.sublist (hs.map _)⟩
theorem Kept.drop {w w' : World} {b T : Nat} {vs : List Value} (h : Kept [b] w w') (h1 : Blk w b T vs) (h2 : Blk w' b T vs) : Kept [] w w' :=
  ⟨h.os, h.tape, h.output, h.size, fun k hk _ => by
    by_cases e : k = b
    · subst e; rw [show w'.heap[k]? = _ from h2, show w.heap[k]? = _ from h1]
    · exact h.block k hk (by simpa using e)⟩
section
variable {ops : Array Oper} {rest : List Oper} {op : Oper} {a : Act} {w w0 : World} {Q : Exit → Act → World → Prop} {bs : List (Nat × Nat × List Value)}
theorem wpStoreM {T n : Nat} (hT : Row T n) (hgd : op.guard = none) (x y : Operand) (ho : op.op = .store T x y) (hd : op.dst = none) (b i : Nat) (vs : List Value) (hx : a.eval x = P0 b) (hy : a.eval y = aggV vs) (hl : vs.length = n) (h1 : ∀ v ∈ vs, v.oneCell' = true) (hM : Mm X w0 w bs) {us : List Value} (hi : bs[i]? = some (b, T, us)) (hu : us.length = n)
    (h : ∀ W, Mm X w0 W (bs.set i (b, T, vs)) → wpList Try.prog ops Q rest a W) : wpList Try.prog ops Q (op :: rest) a w := by
  refine wpStoreA hT hgd x y ho b 0 vs hx hy hl h1 ((hM.at i _ hi).there (by simp [hu])) ?_
  rw [hd]
  exact h _ (hM.sets i hi vs (by omega))
theorem storeVar1 {T : Nat} (hi : (Try.prog.info? T).map (·.size) = some 1) {w : World} {b off TT : Nat} {us : List Value} (hB : Blk w b TT us) (hl : off < us.length) (v : Value) (h1 : v.oneCell' = true) (hc1 : v.cells = #[v]) : (storeVar T ⟨b, off, none⟩ v).run Try.prog w = .ok () (w.setCell ⟨b, off, none⟩ v) := by
  have hc := hB.cell off
  rw [List.getElem?_eq_getElem hl] at hc
  have hf := hB.frozen off
  have g1 : ∀ j, j < [v].length → (w.cell? ⟨b, off + 0 + j, none⟩).isSome = true := by
    intro j hj
    have e : j = 0 := by simpa using hj
    subst e
    simp [hc]
  have g2 : ∀ j, j < [v].length → w.frozen? ⟨b, off + 0 + j, none⟩ = false := by
    intro j hj
    have e : j = 0 := by simpa using hj
    subst e
    simpa using hf
  have := run_storeCells_cells (P := Try.prog) b off [v] 0 w g1 g2 (fun u hu => by simp at hu; subst hu; exact h1)
  cases hq : Try.prog.info? T with
  | none => simp [hq] at hi
  | some i =>
    have hs : i.size = 1 := by simpa [hq] using hi
    simp [storeVar, hc1, sizeOf, typeInfo, hq, hs]
    simpa [World.setCells] using this
def One (v : Value) : Prop := v.oneCell' = true ∧ v.cells = #[v]
theorem wpStoreM1 {T : Nat} (hs : (Try.prog.info? T).map (·.size) = some 1) (hgd : op.guard = none) (x y : Operand) (ho : op.op = .store T x y) (hd : op.dst = none) (b off i : Nat) (v : Value) (h1 : One v) (hx : a.eval x = .pointer (some ⟨b, off, none⟩)) (hy : a.eval y = v) (hM : Mm X w0 w bs) {TT : Nat} {us : List Value} (hi : bs[i]? = some (b, TT, us)) (hl : off < us.length)
    (h : ∀ W, Mm X w0 W (bs.set i (b, TT, us.set off v)) → wpList Try.prog ops Q rest a W) : wpList Try.prog ops Q (op :: rest) a w :=
  wpList_plain hgd fun K hK => by
    have hst := storeVar1 hs (hM.at i _ hi) hl v h1.1 h1.2
    unfold Oper.wp execOp
    simp only [ho, hx, hy, Instr.storeAt, Instr.sureAddr, Sem.run_bind, Sem.run_pure, Result.andThen_ok, hst]
    refine hK _ _ ?_
    rw [hd]
    exact h _ (hM.mut i hi ((Kept.refl _ _).setCell (by simp) v) ((hM.at i _ hi).set v))
end
theorem one_int (κ : IntKind) (n : Int) : One (.int κ n) := ⟨rfl, rfl⟩
theorem one_bool (b : Bool) : One (.bool b) := ⟨rfl, rfl⟩
theorem keepG {St : (Nat → Bool) → (Nat → Value) → World → Prop} {l : Array Bool} {vs : Nat → Value} {j : Nat} {v : Value} {w : World} (sp : List Nat) (hloc : ∀ b b' vs vs' W, (∀ i ∈ sp, b i = b' i ∧ vs i = vs' i) → St b vs W → St b' vs' W) (hj : j < l.size) (hn : sp.all (fun i => i != j) = true) (h : St (fun i => l.getD i false) vs w) : St (fun i => (l.setIfInBounds j true).getD i false) (fun i => if i = j then v else vs i) w := by
  refine hloc _ _ _ _ _ (fun i hi => ?_) h
  have hne : i ≠ j := by have := List.all_eq_true.1 hn i hi; simpa using this
  exact ⟨by rw [getD_setD hj]; simp [hne], by simp [hne]⟩
theorem nextG {St : (Nat → Bool) → (Nat → Value) → World → Prop} {l : Array Bool} {vs : Nat → Value} {j : Nat} {v : Value} {w : World} (hj : j < l.size) (h : St (fun i => if i = j then true else l.getD i false) (fun i => if i = j then v else vs i) w) : St (fun i => (l.setIfInBounds j true).getD i false) (fun i => if i = j then v else vs i) w := by
  have e : (fun i => (l.setIfInBounds j true).getD i false) = (fun i => if i = j then true else l.getD i false) := by
    funext i
    exact getD_setD hj false
  rw [e]
  exact h
theorem wpLoadG {ops : Array Oper} {rest : List Oper} {op : Oper} {a : Act} {w : World} {Q : Exit → Act → World → Prop} {T n : Nat} (hT : Row T n) (x : Operand) (ho : op.op = .load T x) (hw : Region.wanted op (yielded ops a.tmps) = true) (b off : Nat) (hx : a.eval x = .pointer (some ⟨b, off, none⟩)) (vs : List Value) (hl : vs.length = n) (hA : w.rangeAt b off vs)
    (h : wpList Try.prog ops Q rest (a.put op.dst (aggV vs)) w) : wpList Try.prog ops Q (op :: rest) a w :=
  BigFrame.wpList_want hw fun _ hK => wp_loadA hT x ho b off hx vs hl hA (hK _ _ h)
theorem o_eqlA (T r : Nat) (hG : Try.prog.eqGuardType Try.prog.depth T = false) {o : Oper} {a : Act} {w : World} {K : Act → World → Prop} {Q : Exit → Act → World → Prop} (x y : Operand) (ho : o.op = .binOp .eql T x y r) (vs us : List Value) (hx : a.eval x = aggV vs) (hy : a.eval y = aggV us) (c : Bool)
    (he : (Op.equal T (aggV vs) (aggV us)).run Try.prog w = .ok c w) (h : K (a.put o.dst (.bool c)) w) : o.wp Try.prog a w K Q := by
  unfold Oper.wp execOp
  simp only [aggV] at he hx hy
  have hg : (eqGuard .eql T x y (.agg vs.toArray) (.agg us.toArray)).run Try.prog w = .ok () w := by simp [eqGuard, Sem.run_bind, hG]
  have hb : (binOp BinOp.eql T (.agg vs.toArray) (.agg us.toArray)).run Try.prog w = .ok (.bool c) w := by simp only [binOp, Sem.run_bind, he, Result.andThen_ok, Sem.run_pure]
  simp only [ho, hx, hy, Sem.run_bind, hg, hb, Result.andThen_ok]
  exact h
theorem o_neqA (T r : Nat) (hG : Try.prog.eqGuardType Try.prog.depth T = false) {o : Oper} {a : Act} {w : World} {K : Act → World → Prop} {Q : Exit → Act → World → Prop} (x y : Operand) (ho : o.op = .binOp .neq T x y r) (vs us : List Value) (hx : a.eval x = aggV vs) (hy : a.eval y = aggV us) (c : Bool)
    (he : (Op.equal T (aggV vs) (aggV us)).run Try.prog w = .ok c w) (h : K (a.put o.dst (.bool (!c))) w) : o.wp Try.prog a w K Q := by
  unfold Oper.wp execOp
  simp only [aggV] at he hx hy
  have hg : (eqGuard .neq T x y (.agg vs.toArray) (.agg us.toArray)).run Try.prog w = .ok () w := by simp [eqGuard, Sem.run_bind, hG]
  have hb : (binOp BinOp.neq T (.agg vs.toArray) (.agg us.toArray)).run Try.prog w = .ok (.bool (!c)) w := by simp only [binOp, Sem.run_bind, he, Result.andThen_ok, Sem.run_pure]
  simp only [ho, hx, hy, Sem.run_bind, hg, hb, Result.andThen_ok]
  exact h
theorem wp_text_tq {id : Nat} {ops : Array Oper} {Q : Exit → Act → World → Prop} {a0 : Act} {w0 : World} (n : Nat) (hn : ops.size = n) (hok : prefG ops n = true) (us : List (Option Value)) (hu : us.length = n) (hg : guardsQ ops us = true)
    (hsl : ops.all (fun o => match o.dst with | none => true | some t => decide (t < a0.tmps.size)) = true)
    (hop : ∀ (j : Nat) (o : Oper), j < n → skipQ us j = false → ops[j]? = some o → ∀ a w, (∀ t : Nat, (ops.toList.take n).all (fun p => p.dst != some t) = true → a.eval (.tmp t) = a0.eval (.tmp t)) →
      (∀ (i t : Nat), o.after.any (fun e => Region.binds .any e && e.on == i) = true → ops[i]?.bind (·.dst) = some t → tq us i (a.eval (.tmp t)) w) → Kept [] w0 w →
      o.wp Try.prog a w (fun a' w' => ∃ v, a' = a.put o.dst v ∧ tq us j v w' ∧ Kept [] w w' ∧ ∀ i u, i < n → i ≠ j → tq us i u w → True) Q)
    (hQ : ∀ w, Kept [] w0 w → Q .normal (putAll a0 (ops.toList.take n) (valsQ us)) w) : (Code.region id ops false).wp Try.prog Q a0 w0 := by
  refine wp_region_text n hn hok (tq us) (fun _ _ _ _ => True) (skipQ us) (fun j o i b _ ho hg' => guardsQ_some hg j o i b ho hg') (fun j o _ ho hg' => guardsQ_none hg j o ho hg') (fun j w h => skipQ_undef w h) (fun _ _ _ _ => trivial) (tq_kept us) hsl hop ?_
  intro vs w hlen hv hk
  obtain rfl := vs_tq hv (by omega)
  exact hQ w hk
section
variable {o : Oper} {a : Act} {w : World} {K : Act → World → Prop} {Q : Exit → Act → World → Prop}
theorem o_nil (x : Operand) (ho : o.op = .nilCheck x) (p : Addr) (hx : a.eval x = .pointer (some p)) (h : K (a.put o.dst (.pointer (some p))) w) : o.wp Try.prog a w K Q := by
  unfold Oper.wp execOp
  simp only [ho, hx]
  simp [go_sem]
  exact h
theorem o_load3 (x : Operand) (ho : o.op = .load 3 x) (p : Addr) (v : Value) (hx : a.eval x = .pointer (some p)) (hc : w.cell? p = some v) (h : K (a.put o.dst v) w) : o.wp Try.prog a w K Q := by
  unfold Oper.wp execOp
  simp only [ho, hx]
  simp [go_sem, hc]
  exact h
theorem o_load4 (x : Operand) (ho : o.op = .load 4 x) (p : Addr) (v : Value) (hx : a.eval x = .pointer (some p)) (hc : w.cell? p = some v) (h : K (a.put o.dst v) w) : o.wp Try.prog a w K Q := by
  unfold Oper.wp execOp
  simp only [ho, hx]
  simp [go_sem, hc]
  exact h
theorem o_load33 (x : Operand) (ho : o.op = .load 33 x) (p : Addr) (v : Value) (hx : a.eval x = .pointer (some p)) (hc : w.cell? p = some v) (h : K (a.put o.dst v) w) : o.wp Try.prog a w K Q := by
  unfold Oper.wp execOp
  simp only [ho, hx]
  simp [go_sem, hc]
  exact h
theorem o_load24 (x : Operand) (ho : o.op = .load 24 x) (p : Addr) (v : Value) (hx : a.eval x = .pointer (some p)) (hc : w.cell? p = some v) (h : K (a.put o.dst v) w) : o.wp Try.prog a w K Q := by
  unfold Oper.wp execOp
  simp only [ho, hx]
  simp [go_sem, hc]
  exact h
theorem o_load68 (x : Operand) (ho : o.op = .load 68 x) (p : Addr) (v : Value) (hx : a.eval x = .pointer (some p)) (hc : w.cell? p = some v) (h : K (a.put o.dst v) w) : o.wp Try.prog a w K Q := by
  unfold Oper.wp execOp
  simp only [ho, hx]
  simp [go_sem, hc]
  exact h
theorem o_load71 (x : Operand) (ho : o.op = .load 71 x) (p : Addr) (v : Value) (hx : a.eval x = .pointer (some p)) (hc : w.cell? p = some v) (h : K (a.put o.dst v) w) : o.wp Try.prog a w K Q := by
  unfold Oper.wp execOp
  simp only [ho, hx]
  simp [go_sem, hc]
  exact h
theorem o_load23 (x : Operand) (ho : o.op = .load 23 x) (p : Addr) (v : Value) (hx : a.eval x = .pointer (some p)) (hc : w.cell? p = some v) (h : K (a.put o.dst v) w) : o.wp Try.prog a w K Q := by
  unfold Oper.wp execOp
  simp only [ho, hx]
  simp [go_sem, hc]
  exact h
theorem o_load27 (x : Operand) (ho : o.op = .load 27 x) (p : Addr) (v : Value) (hx : a.eval x = .pointer (some p)) (hc : w.cell? p = some v) (h : K (a.put o.dst v) w) : o.wp Try.prog a w K Q := by
  unfold Oper.wp execOp
  simp only [ho, hx]
  simp [go_sem, hc]
  exact h
theorem o_fld70_0 (x : Operand) (ho : o.op = .fieldAddr 70 x 0) (b i j : Nat) (hj : i = j) (hx : a.eval x = .pointer (some ⟨b, i, none⟩)) (h : K (a.put o.dst (.pointer (some ⟨b, j, none⟩))) w) : o.wp Try.prog a w K Q := by
  subst hj
  unfold Oper.wp execOp
  simp only [ho, hx]
  simp [go_sem]
  exact h
theorem o_fld70_1 (x : Operand) (ho : o.op = .fieldAddr 70 x 1) (b i j : Nat) (hj : i + 1664 = j) (hx : a.eval x = .pointer (some ⟨b, i, none⟩)) (h : K (a.put o.dst (.pointer (some ⟨b, j, none⟩))) w) : o.wp Try.prog a w K Q := by
  subst hj
  unfold Oper.wp execOp
  simp only [ho, hx]
  simp [go_sem]
  exact h
theorem o_fld70_2 (x : Operand) (ho : o.op = .fieldAddr 70 x 2) (b i j : Nat) (hj : i + 1665 = j) (hx : a.eval x = .pointer (some ⟨b, i, none⟩)) (h : K (a.put o.dst (.pointer (some ⟨b, j, none⟩))) w) : o.wp Try.prog a w K Q := by
  subst hj
  unfold Oper.wp execOp
  simp only [ho, hx]
  simp [go_sem]
  exact h
theorem o_fld70_3 (x : Operand) (ho : o.op = .fieldAddr 70 x 3) (b i j : Nat) (hj : i + 1666 = j) (hx : a.eval x = .pointer (some ⟨b, i, none⟩)) (h : K (a.put o.dst (.pointer (some ⟨b, j, none⟩))) w) : o.wp Try.prog a w K Q := by
  subst hj
  unfold Oper.wp execOp
  simp only [ho, hx]
  simp [go_sem]
  exact h
theorem o_fld73_0 (x : Operand) (ho : o.op = .fieldAddr 73 x 0) (b i j : Nat) (hj : i = j) (hx : a.eval x = .pointer (some ⟨b, i, none⟩)) (h : K (a.put o.dst (.pointer (some ⟨b, j, none⟩))) w) : o.wp Try.prog a w K Q := by
  subst hj
  unfold Oper.wp execOp
  simp only [ho, hx]
  simp [go_sem]
  exact h
theorem o_fld73_1 (x : Operand) (ho : o.op = .fieldAddr 73 x 1) (b i j : Nat) (hj : i + 1 = j) (hx : a.eval x = .pointer (some ⟨b, i, none⟩)) (h : K (a.put o.dst (.pointer (some ⟨b, j, none⟩))) w) : o.wp Try.prog a w K Q := by
  subst hj
  unfold Oper.wp execOp
  simp only [ho, hx]
  simp [go_sem]
  exact h
theorem o_fld66_0 (x : Operand) (ho : o.op = .fieldAddr 66 x 0) (b i j : Nat) (hj : i = j) (hx : a.eval x = .pointer (some ⟨b, i, none⟩)) (h : K (a.put o.dst (.pointer (some ⟨b, j, none⟩))) w) : o.wp Try.prog a w K Q := by
  subst hj
  unfold Oper.wp execOp
  simp only [ho, hx]
  simp [go_sem]
  exact h
theorem o_fld66_1 (x : Operand) (ho : o.op = .fieldAddr 66 x 1) (b i j : Nat) (hj : i + 102 = j) (hx : a.eval x = .pointer (some ⟨b, i, none⟩)) (h : K (a.put o.dst (.pointer (some ⟨b, j, none⟩))) w) : o.wp Try.prog a w K Q := by
  subst hj
  unfold Oper.wp execOp
  simp only [ho, hx]
  simp [go_sem]
  exact h
theorem o_fld66_2 (x : Operand) (ho : o.op = .fieldAddr 66 x 2) (b i j : Nat) (hj : i + 103 = j) (hx : a.eval x = .pointer (some ⟨b, i, none⟩)) (h : K (a.put o.dst (.pointer (some ⟨b, j, none⟩))) w) : o.wp Try.prog a w K Q := by
  subst hj
  unfold Oper.wp execOp
  simp only [ho, hx]
  simp [go_sem]
  exact h
theorem o_fld84_0 (x : Operand) (ho : o.op = .fieldAddr 84 x 0) (b i j : Nat) (hj : i = j) (hx : a.eval x = .pointer (some ⟨b, i, none⟩)) (h : K (a.put o.dst (.pointer (some ⟨b, j, none⟩))) w) : o.wp Try.prog a w K Q := by
  subst hj
  unfold Oper.wp execOp
  simp only [ho, hx]
  simp [go_sem]
  exact h
theorem o_fld84_1 (x : Operand) (ho : o.op = .fieldAddr 84 x 1) (b i j : Nat) (hj : i + 1 = j) (hx : a.eval x = .pointer (some ⟨b, i, none⟩)) (h : K (a.put o.dst (.pointer (some ⟨b, j, none⟩))) w) : o.wp Try.prog a w K Q := by
  subst hj
  unfold Oper.wp execOp
  simp only [ho, hx]
  simp [go_sem]
  exact h
theorem o_fld84_2 (x : Operand) (ho : o.op = .fieldAddr 84 x 2) (b i j : Nat) (hj : i + 103 = j) (hx : a.eval x = .pointer (some ⟨b, i, none⟩)) (h : K (a.put o.dst (.pointer (some ⟨b, j, none⟩))) w) : o.wp Try.prog a w K Q := by
  subst hj
  unfold Oper.wp execOp
  simp only [ho, hx]
  simp [go_sem]
  exact h
theorem o_fld84_3 (x : Operand) (ho : o.op = .fieldAddr 84 x 3) (b i j : Nat) (hj : i + 104 = j) (hx : a.eval x = .pointer (some ⟨b, i, none⟩)) (h : K (a.put o.dst (.pointer (some ⟨b, j, none⟩))) w) : o.wp Try.prog a w K Q := by
  subst hj
  unfold Oper.wp execOp
  simp only [ho, hx]
  simp [go_sem]
  exact h
theorem o_fld39_0 (x : Operand) (ho : o.op = .fieldAddr 39 x 0) (b i j : Nat) (hj : i = j) (hx : a.eval x = .pointer (some ⟨b, i, none⟩)) (h : K (a.put o.dst (.pointer (some ⟨b, j, none⟩))) w) : o.wp Try.prog a w K Q := by
  subst hj
  unfold Oper.wp execOp
  simp only [ho, hx]
  simp [go_sem]
  exact h
theorem o_fld39_1 (x : Operand) (ho : o.op = .fieldAddr 39 x 1) (b i j : Nat) (hj : i + 1 = j) (hx : a.eval x = .pointer (some ⟨b, i, none⟩)) (h : K (a.put o.dst (.pointer (some ⟨b, j, none⟩))) w) : o.wp Try.prog a w K Q := by
  subst hj
  unfold Oper.wp execOp
  simp only [ho, hx]
  simp [go_sem]
  exact h
theorem o_fld39_2 (x : Operand) (ho : o.op = .fieldAddr 39 x 2) (b i j : Nat) (hj : i + 2 = j) (hx : a.eval x = .pointer (some ⟨b, i, none⟩)) (h : K (a.put o.dst (.pointer (some ⟨b, j, none⟩))) w) : o.wp Try.prog a w K Q := by
  subst hj
  unfold Oper.wp execOp
  simp only [ho, hx]
  simp [go_sem]
  exact h
theorem o_fld39_3 (x : Operand) (ho : o.op = .fieldAddr 39 x 3) (b i j : Nat) (hj : i + 3 = j) (hx : a.eval x = .pointer (some ⟨b, i, none⟩)) (h : K (a.put o.dst (.pointer (some ⟨b, j, none⟩))) w) : o.wp Try.prog a w K Q := by
  subst hj
  unfold Oper.wp execOp
  simp only [ho, hx]
  simp [go_sem]
  exact h
theorem o_fld39_4 (x : Operand) (ho : o.op = .fieldAddr 39 x 4) (b i j : Nat) (hj : i + 4 = j) (hx : a.eval x = .pointer (some ⟨b, i, none⟩)) (h : K (a.put o.dst (.pointer (some ⟨b, j, none⟩))) w) : o.wp Try.prog a w K Q := by
  subst hj
  unfold Oper.wp execOp
  simp only [ho, hx]
  simp [go_sem]
  exact h
theorem o_fld39_5 (x : Operand) (ho : o.op = .fieldAddr 39 x 5) (b i j : Nat) (hj : i + 101 = j) (hx : a.eval x = .pointer (some ⟨b, i, none⟩)) (h : K (a.put o.dst (.pointer (some ⟨b, j, none⟩))) w) : o.wp Try.prog a w K Q := by
  subst hj
  unfold Oper.wp execOp
  simp only [ho, hx]
  simp [go_sem]
  exact h
theorem o_fld37_0 (x : Operand) (ho : o.op = .fieldAddr 37 x 0) (b i j : Nat) (hj : i = j) (hx : a.eval x = .pointer (some ⟨b, i, none⟩)) (h : K (a.put o.dst (.pointer (some ⟨b, j, none⟩))) w) : o.wp Try.prog a w K Q := by
  subst hj
  unfold Oper.wp execOp
  simp only [ho, hx]
  simp [go_sem]
  exact h
theorem o_fld37_1 (x : Operand) (ho : o.op = .fieldAddr 37 x 1) (b i j : Nat) (hj : i + 1 = j) (hx : a.eval x = .pointer (some ⟨b, i, none⟩)) (h : K (a.put o.dst (.pointer (some ⟨b, j, none⟩))) w) : o.wp Try.prog a w K Q := by
  subst hj
  unfold Oper.wp execOp
  simp only [ho, hx]
  simp [go_sem]
  exact h
theorem o_idx67 (x y : Operand) (ho : o.op = .indexAddr 67 x y) (b i n j : Nat) (hn : n < 16) (hj : i + n * 104 = j) (hx : a.eval x = .pointer (some ⟨b, i, none⟩)) (hy : a.eval y = .int .i64 n) (h : K (a.put o.dst (.pointer (some ⟨b, j, none⟩))) w) : o.wp Try.prog a w K Q := by
  subst hj
  unfold Oper.wp execOp
  simp only [ho, hx, hy]
  have h1 : (n : Int) < 16 := by omega
  simp [go_sem, hn, h1]
  exact h
theorem o_idx71 (x y : Operand) (ho : o.op = .indexAddr 71 x y) (g m c n j : Nat) (hn : n < m) (hj : n * 105 = j) (hx : a.eval x = .slice (some ⟨g, 0, none⟩) m c) (hy : a.eval y = .int .i64 n) (h : K (a.put o.dst (.pointer (some ⟨g, j, none⟩))) w) : o.wp Try.prog a w K Q := by
  subst hj
  unfold Oper.wp execOp
  simp only [ho, hx, hy]
  have h1 : (n : Int) < (m : Int) := by omega
  simp [go_sem, hn, h1]
  exact h
theorem c_eql2 (x y : Operand) (ho : o.op = .binOp .eql 2 x y 2) (m n : Int) (r : Bool) (hr : decide (m = n) = r) (hx : a.eval x = .int .i64 m) (hy : a.eval y = .int .i64 n) (h : K (a.put o.dst (.bool r)) w) : o.wp Try.prog a w K Q := by
  unfold Oper.wp execOp
  simp only [ho, hx, hy]
  have hb : (m == n) = r := by rw [← hr]; rfl
  simp [go_sem, hb]
  exact h
theorem c_eql3 (x y : Operand) (ho : o.op = .binOp .eql 3 x y 3) (m n : Int) (r : Bool) (hr : decide (m = n) = r) (hx : a.eval x = .int .i64 m) (hy : a.eval y = .int .i64 n) (h : K (a.put o.dst (.bool r)) w) : o.wp Try.prog a w K Q := by
  unfold Oper.wp execOp
  simp only [ho, hx, hy]
  have hb : (m == n) = r := by rw [← hr]; rfl
  simp [go_sem, hb]
  exact h
theorem c_neq2 (x y : Operand) (ho : o.op = .binOp .neq 2 x y 2) (m n : Int) (r : Bool) (hr : decide (m = n) = r) (hx : a.eval x = .int .i64 m) (hy : a.eval y = .int .i64 n) (h : K (a.put o.dst (.bool (!r))) w) : o.wp Try.prog a w K Q := by
  unfold Oper.wp execOp
  simp only [ho, hx, hy]
  have hb : (m != n) = !r := by rw [← hr]; rfl
  simp [go_sem, hb]
  exact h
theorem c_neq3 (x y : Operand) (ho : o.op = .binOp .neq 3 x y 3) (m n : Int) (r : Bool) (hr : decide (m = n) = r) (hx : a.eval x = .int .i64 m) (hy : a.eval y = .int .i64 n) (h : K (a.put o.dst (.bool (!r))) w) : o.wp Try.prog a w K Q := by
  unfold Oper.wp execOp
  simp only [ho, hx, hy]
  have hb : (m != n) = !r := by rw [← hr]; rfl
  simp [go_sem, hb]
  exact h
theorem c_lss2 (x y : Operand) (ho : o.op = .binOp .lss 2 x y 2) (m n : Int) (r : Bool) (hr : decide (m < n) = r) (hx : a.eval x = .int .i64 m) (hy : a.eval y = .int .i64 n) (h : K (a.put o.dst (.bool r)) w) : o.wp Try.prog a w K Q := by
  unfold Oper.wp execOp
  simp only [ho, hx, hy]
  subst hr
  simp [go_sem]
  exact h
theorem c_lss3 (x y : Operand) (ho : o.op = .binOp .lss 3 x y 3) (m n : Int) (r : Bool) (hr : decide (m < n) = r) (hx : a.eval x = .int .i64 m) (hy : a.eval y = .int .i64 n) (h : K (a.put o.dst (.bool r)) w) : o.wp Try.prog a w K Q := by
  unfold Oper.wp execOp
  simp only [ho, hx, hy]
  subst hr
  simp [go_sem]
  exact h
theorem c_gtr2 (x y : Operand) (ho : o.op = .binOp .gtr 2 x y 2) (m n : Int) (r : Bool) (hr : decide (m > n) = r) (hx : a.eval x = .int .i64 m) (hy : a.eval y = .int .i64 n) (h : K (a.put o.dst (.bool r)) w) : o.wp Try.prog a w K Q := by
  unfold Oper.wp execOp
  simp only [ho, hx, hy]
  subst hr
  simp [go_sem]
  exact h
theorem c_gtr3 (x y : Operand) (ho : o.op = .binOp .gtr 3 x y 3) (m n : Int) (r : Bool) (hr : decide (m > n) = r) (hx : a.eval x = .int .i64 m) (hy : a.eval y = .int .i64 n) (h : K (a.put o.dst (.bool r)) w) : o.wp Try.prog a w K Q := by
  unfold Oper.wp execOp
  simp only [ho, hx, hy]
  subst hr
  simp [go_sem]
  exact h
theorem c_geq2 (x y : Operand) (ho : o.op = .binOp .geq 2 x y 2) (m n : Int) (r : Bool) (hr : decide (m ≥ n) = r) (hx : a.eval x = .int .i64 m) (hy : a.eval y = .int .i64 n) (h : K (a.put o.dst (.bool r)) w) : o.wp Try.prog a w K Q := by
  unfold Oper.wp execOp
  simp only [ho, hx, hy]
  subst hr
  simp [go_sem]
  exact h
theorem c_geq3 (x y : Operand) (ho : o.op = .binOp .geq 3 x y 3) (m n : Int) (r : Bool) (hr : decide (m ≥ n) = r) (hx : a.eval x = .int .i64 m) (hy : a.eval y = .int .i64 n) (h : K (a.put o.dst (.bool r)) w) : o.wp Try.prog a w K Q := by
  unfold Oper.wp execOp
  simp only [ho, hx, hy]
  subst hr
  simp [go_sem]
  exact h
theorem c_leq2 (x y : Operand) (ho : o.op = .binOp .leq 2 x y 2) (m n : Int) (r : Bool) (hr : decide (m ≤ n) = r) (hx : a.eval x = .int .i64 m) (hy : a.eval y = .int .i64 n) (h : K (a.put o.dst (.bool r)) w) : o.wp Try.prog a w K Q := by
  unfold Oper.wp execOp
  simp only [ho, hx, hy]
  subst hr
  simp [go_sem]
  exact h
theorem c_leq3 (x y : Operand) (ho : o.op = .binOp .leq 3 x y 3) (m n : Int) (r : Bool) (hr : decide (m ≤ n) = r) (hx : a.eval x = .int .i64 m) (hy : a.eval y = .int .i64 n) (h : K (a.put o.dst (.bool r)) w) : o.wp Try.prog a w K Q := by
  unfold Oper.wp execOp
  simp only [ho, hx, hy]
  subst hr
  simp [go_sem]
  exact h
theorem c_eql33 (x y : Operand) (ho : o.op = .binOp .eql 33 x y 33) (m n : Int) (r : Bool) (hr : decide (m = n) = r) (hx : a.eval x = .int .i64 m) (hy : a.eval y = .int .i64 n) (h : K (a.put o.dst (.bool r)) w) : o.wp Try.prog a w K Q := by
  unfold Oper.wp execOp
  simp only [ho, hx, hy]
  have hb : (m == n) = r := by rw [← hr]; rfl
  simp [go_sem, hb]
  exact h
theorem c_eql24 (x y : Operand) (ho : o.op = .binOp .eql 24 x y 24) (m n : Int) (r : Bool) (hr : decide (m = n) = r) (hx : a.eval x = .int .i64 m) (hy : a.eval y = .int .i64 n) (h : K (a.put o.dst (.bool r)) w) : o.wp Try.prog a w K Q := by
  unfold Oper.wp execOp
  simp only [ho, hx, hy]
  have hb : (m == n) = r := by rw [← hr]; rfl
  simp [go_sem, hb]
  exact h
theorem c_neq33 (x y : Operand) (ho : o.op = .binOp .neq 33 x y 33) (m n : Int) (r : Bool) (hr : decide (m = n) = r) (hx : a.eval x = .int .i64 m) (hy : a.eval y = .int .i64 n) (h : K (a.put o.dst (.bool (!r))) w) : o.wp Try.prog a w K Q := by
  unfold Oper.wp execOp
  simp only [ho, hx, hy]
  have hb : (m != n) = !r := by rw [← hr]; rfl
  simp [go_sem, hb]
  exact h
theorem c_neq24 (x y : Operand) (ho : o.op = .binOp .neq 24 x y 24) (m n : Int) (r : Bool) (hr : decide (m = n) = r) (hx : a.eval x = .int .i64 m) (hy : a.eval y = .int .i64 n) (h : K (a.put o.dst (.bool (!r))) w) : o.wp Try.prog a w K Q := by
  unfold Oper.wp execOp
  simp only [ho, hx, hy]
  have hb : (m != n) = !r := by rw [← hr]; rfl
  simp [go_sem, hb]
  exact h
theorem c_add3 (x y : Operand) (ho : o.op = .binOp .add 3 x y 3) (m n : Int) (hm : -1000000000 ≤ m + n ∧ m + n ≤ 1000000000) (hx : a.eval x = .int .i64 m) (hy : a.eval y = .int .i64 n) (h : K (a.put o.dst (.int .i64 (m + n))) w) : o.wp Try.prog a w K Q := by
  unfold Oper.wp execOp
  simp only [ho, hx, hy]
  have e : IntKind.i64.wrap (m + n) = m + n := by rw [IntKind.wrap_i64]; omega
  simp [go_sem, e]
  exact h
theorem wp_buildZ {T : Nat} (vs : List Value) (hr : ∀ w : World, (Instr.build T #[]).run Try.prog w = .ok (aggV vs) w) (ho : o.op = .build T #[]) (h : K (a.put o.dst (aggV vs)) w) : o.wp Try.prog a w K Q := by
  unfold Oper.wp execOp
  simp only [ho, Array.map_empty, Sem.run_bind, hr, Result.andThen_ok]
  exact h
theorem c_eql4 (x y : Operand) (ho : o.op = .binOp .eql 4 x y 4) (p q r : Bool) (hr : (p == q) = r) (hx : a.eval x = .bool p) (hy : a.eval y = .bool q) (h : K (a.put o.dst (.bool r)) w) : o.wp Try.prog a w K Q := by
  unfold Oper.wp execOp
  simp only [ho, hx, hy]
  have hb : (p == q) = r := hr
  simp [go_sem, hb]
  exact h
theorem c_neq4 (x y : Operand) (ho : o.op = .binOp .neq 4 x y 4) (p q r : Bool) (hr : (p == q) = r) (hx : a.eval x = .bool p) (hy : a.eval y = .bool q) (h : K (a.put o.dst (.bool (!r))) w) : o.wp Try.prog a w K Q := by
  unfold Oper.wp execOp
  simp only [ho, hx, hy]
  have hb : (p == q) = r := hr
  simp [go_sem, bne, hb]
  exact h
end
section
variable {o : Oper} {a : Act} {w w0 : World} {K : Act → World → Prop} {Q : Exit → Act → World → Prop} {bs : List (Nat × Nat × List Value)}
theorem o_st1 {T : Nat} (hs : (Try.prog.info? T).map (·.size) = some 1) (x y : Operand) (ho : o.op = .store T x y) (hd : o.dst = none) (b off i : Nat) (v : Value) (h1 : One v) (hx : a.eval x = .pointer (some ⟨b, off, none⟩)) (hy : a.eval y = v) (hM : Mm X w0 w bs) {TT : Nat} {us us' : List Value} (hi : bs[i]? = some (b, TT, us)) (hl : off < us.length) (he : us.set off v = us')
    (h : ∀ W, Mm X w0 W (bs.set i (b, TT, us')) → K a W) : o.wp Try.prog a w K Q := by
  subst he
  have hst := storeVar1 hs (hM.at i _ hi) hl v h1.1 h1.2
  unfold Oper.wp execOp
  simp only [ho, hx, hy, Instr.storeAt, Instr.sureAddr, Sem.run_bind, Sem.run_pure, Result.andThen_ok, hst]
  show K (a.put o.dst undef) _
  rw [hd]
  exact h _ (hM.mut i hi ((Kept.refl _ _).setCell (by simp) v) ((hM.at i _ hi).set v))
theorem o_stN {T n : Nat} (hT : Row T n) (x y : Operand) (ho : o.op = .store T x y) (hd : o.dst = none) (b off i : Nat) (vs : List Value) (hx : a.eval x = .pointer (some ⟨b, off, none⟩)) (hy : a.eval y = aggV vs) (hl : vs.length = n) (h1 : ∀ v ∈ vs, v.oneCell' = true) (hM : Mm X w0 w bs) {TT : Nat} {us us' : List Value} (hi : bs[i]? = some (b, TT, us)) (hu : off + n ≤ us.length) (he : ∀ W, Blk W b TT us → Blk (W.setCells b off vs) b TT us')
    (h : ∀ W, Mm X w0 W (bs.set i (b, TT, us')) → K a W) : o.wp Try.prog a w K Q := by
  refine wp_storeN hT x y ho hd b off vs hx hy hl h1 ((hM.at i _ hi).there hu) ?_
  exact h _ (hM.mut i hi ((Kept.refl _ _).setCells _ _ (by simp)) (he _ (hM.at i _ hi)))
end
section
variable {ops : Array Oper} {rest : List Oper} {op : Oper} {a : Act} {w w0 : World} {Q : Exit → Act → World → Prop} {bs : List (Nat × Nat × List Value)}
theorem wpSt1 {T : Nat} (hs : (Try.prog.info? T).map (·.size) = some 1) (hgd : op.guard = none) (x y : Operand) (ho : op.op = .store T x y) (hd : op.dst = none) (b off i : Nat) (v : Value) (h1 : One v) (hx : a.eval x = .pointer (some ⟨b, off, none⟩)) (hy : a.eval y = v) (hM : Mm X w0 w bs) {TT : Nat} {us us' : List Value} (hi : bs[i]? = some (b, TT, us)) (hl : off < us.length) (he : us.set off v = us')
    (h : ∀ W, Mm X w0 W (bs.set i (b, TT, us')) → wpList Try.prog ops Q rest a W) : wpList Try.prog ops Q (op :: rest) a w :=
  wpList_plain hgd fun _ hK => o_st1 hs x y ho hd b off i v h1 hx hy hM hi hl he (fun W hW => hK _ _ (h W hW))
theorem wpStN {T n : Nat} (hT : Row T n) (hgd : op.guard = none) (x y : Operand) (ho : op.op = .store T x y) (hd : op.dst = none) (b off i : Nat) (vs : List Value) (hx : a.eval x = .pointer (some ⟨b, off, none⟩)) (hy : a.eval y = aggV vs) (hl : vs.length = n) (h1 : ∀ v ∈ vs, v.oneCell' = true) (hM : Mm X w0 w bs) {TT : Nat} {us us' : List Value} (hi : bs[i]? = some (b, TT, us)) (hu : off + n ≤ us.length) (he : ∀ W, Blk W b TT us → Blk (W.setCells b off vs) b TT us')
    (h : ∀ W, Mm X w0 W (bs.set i (b, TT, us')) → wpList Try.prog ops Q rest a W) : wpList Try.prog ops Q (op :: rest) a w :=
  wpList_plain hgd fun _ hK => o_stN hT x y ho hd b off i vs hx hy hl h1 hM hi hu he (fun W hW => hK _ _ (h W hW))
theorem wpLd68 (hgd : op.guard = none) (x : Operand) (ho : op.op = .load 68 x) (p : Addr) (v : Value) (hx : a.eval x = .pointer (some p)) (hc : w.cell? p = some v) (h : wpList Try.prog ops Q rest (a.put op.dst v) w) : wpList Try.prog ops Q (op :: rest) a w :=
  wpList_plain hgd fun _ hK => o_load68 x ho p v hx hc (hK _ _ h)
theorem wpLd68W (hw : Region.wanted op (yielded ops a.tmps) = true) (x : Operand) (ho : op.op = .load 68 x) (p : Addr) (v : Value) (hx : a.eval x = .pointer (some p)) (hc : w.cell? p = some v) (h : wpList Try.prog ops Q rest (a.put op.dst v) w) : wpList Try.prog ops Q (op :: rest) a w :=
  BigFrame.wpList_want hw fun _ hK => o_load68 x ho p v hx hc (hK _ _ h)
theorem wpLd71 (hgd : op.guard = none) (x : Operand) (ho : op.op = .load 71 x) (p : Addr) (v : Value) (hx : a.eval x = .pointer (some p)) (hc : w.cell? p = some v) (h : wpList Try.prog ops Q rest (a.put op.dst v) w) : wpList Try.prog ops Q (op :: rest) a w :=
  wpList_plain hgd fun _ hK => o_load71 x ho p v hx hc (hK _ _ h)
theorem wpLd71W (hw : Region.wanted op (yielded ops a.tmps) = true) (x : Operand) (ho : op.op = .load 71 x) (p : Addr) (v : Value) (hx : a.eval x = .pointer (some p)) (hc : w.cell? p = some v) (h : wpList Try.prog ops Q rest (a.put op.dst v) w) : wpList Try.prog ops Q (op :: rest) a w :=
  BigFrame.wpList_want hw fun _ hK => o_load71 x ho p v hx hc (hK _ _ h)
theorem wpLd23 (hgd : op.guard = none) (x : Operand) (ho : op.op = .load 23 x) (p : Addr) (v : Value) (hx : a.eval x = .pointer (some p)) (hc : w.cell? p = some v) (h : wpList Try.prog ops Q rest (a.put op.dst v) w) : wpList Try.prog ops Q (op :: rest) a w :=
  wpList_plain hgd fun _ hK => o_load23 x ho p v hx hc (hK _ _ h)
theorem wpLd23W (hw : Region.wanted op (yielded ops a.tmps) = true) (x : Operand) (ho : op.op = .load 23 x) (p : Addr) (v : Value) (hx : a.eval x = .pointer (some p)) (hc : w.cell? p = some v) (h : wpList Try.prog ops Q rest (a.put op.dst v) w) : wpList Try.prog ops Q (op :: rest) a w :=
  BigFrame.wpList_want hw fun _ hK => o_load23 x ho p v hx hc (hK _ _ h)
theorem wpLd27 (hgd : op.guard = none) (x : Operand) (ho : op.op = .load 27 x) (p : Addr) (v : Value) (hx : a.eval x = .pointer (some p)) (hc : w.cell? p = some v) (h : wpList Try.prog ops Q rest (a.put op.dst v) w) : wpList Try.prog ops Q (op :: rest) a w :=
  wpList_plain hgd fun _ hK => o_load27 x ho p v hx hc (hK _ _ h)
theorem wpLd27W (hw : Region.wanted op (yielded ops a.tmps) = true) (x : Operand) (ho : op.op = .load 27 x) (p : Addr) (v : Value) (hx : a.eval x = .pointer (some p)) (hc : w.cell? p = some v) (h : wpList Try.prog ops Q rest (a.put op.dst v) w) : wpList Try.prog ops Q (op :: rest) a w :=
  BigFrame.wpList_want hw fun _ hK => o_load27 x ho p v hx hc (hK _ _ h)
end
@[reducible] def SD1 (X : List Nat) (w : World) (mk : Bool → List (Nat × Nat × List Value)) (k : Nat) (d : Nat → Bool) (_ : Nat → Value) (W : World) : Prop := Mm X w W (mk (d k))
theorem SD1.loc {X : List Nat} {w : World} {mk : Bool → List (Nat × Nat × List Value)} {k : Nat} : ∀ d d' vs vs' W, (∀ i ∈ [k], d i = d' i ∧ vs i = vs' i) → SD1 X w mk k d vs W → SD1 X w mk k d' vs' W := by
  intro d d' vs vs' W H h
  have e0 := (H k (by simp)).1
  unfold SD1 at h ⊢
  rw [← e0]
  exact h
theorem SD1.no {X : List Nat} {w : World} {mk : Bool → List (Nat × Nat × List Value)} {k : Nat} {d : Nat → Bool} {vs : Nat → Value} {W : World} (h : SD1 X w mk k d vs W) (hd : d k = false) : Mm X w W (mk false) := by rw [← hd]; exact h
theorem SD1.yes {X : List Nat} {w : World} {mk : Bool → List (Nat × Nat × List Value)} {k : Nat} {d : Nat → Bool} {vs : Nat → Value} {W : World} (h : SD1 X w mk k d vs W) (hd : d k = true) : Mm X w W (mk true) := by rw [← hd]; exact h
@[reducible] def SD2 (X : List Nat) (w : World) (mk : Bool → Bool → List (Nat × Nat × List Value)) (k k2 : Nat) (d : Nat → Bool) (_ : Nat → Value) (W : World) : Prop := Mm X w W (mk (d k) (d k2))
theorem SD2.loc {X : List Nat} {w : World} {mk : Bool → Bool → List (Nat × Nat × List Value)} {k k2 : Nat} : ∀ d d' vs vs' W, (∀ i ∈ [k, k2], d i = d' i ∧ vs i = vs' i) → SD2 X w mk k k2 d vs W → SD2 X w mk k k2 d' vs' W := by
  intro d d' vs vs' W H h
  have e0 := (H k (by simp)).1
  have e1 := (H k2 (by simp)).1
  unfold SD2 at h ⊢
  rw [← e0, ← e1]
  exact h
theorem SD2.no {X : List Nat} {w : World} {mk : Bool → Bool → List (Nat × Nat × List Value)} {k k2 : Nat} {d : Nat → Bool} {vs : Nat → Value} {W : World} (h : SD2 X w mk k k2 d vs W) (hd : d k = false) : Mm X w W (mk false (d k2)) := by rw [← hd]; exact h
theorem SD2.no2 {X : List Nat} {w : World} {mk : Bool → Bool → List (Nat × Nat × List Value)} {k k2 : Nat} {d : Nat → Bool} {vs : Nat → Value} {W : World} (h : SD2 X w mk k k2 d vs W) (hd : d k2 = false) : Mm X w W (mk (d k) false) := by rw [← hd]; exact h
theorem SD2.yes {X : List Nat} {w : World} {mk : Bool → Bool → List (Nat × Nat × List Value)} {k k2 : Nat} {d : Nat → Bool} {vs : Nat → Value} {W : World} (h : SD2 X w mk k k2 d vs W) (hd : d k = true) (hd2 : d k2 = true) : Mm X w W (mk true true) := by have h9 := h; unfold SD2 at h9; rw [hd, hd2] at h9; exact h9

/-- An entry: a page, and its place. -/
structure En where
  k : Int
  v : Int
def ents (L : List En) : List (Value × Value) := L.map fun l => (.int .i64 l.k, .int .i64 l.v)
def MapAt (W : World) (mb : Nat) (L : List En) : Prop := ∃ es clock, W.heap[mb]? = some (.map es clock) ∧ es.toList.map (fun e => (e.key, e.val)) = ents L ∧ MapKept.Stamped es clock
theorem MapAt.kept {W W' : World} {mb : Nat} {L : List En} {X : List Nat} (h : MapAt W mb L) (hk : Kept X W W') (hX : mb ∉ X) : MapAt W' mb L := by
  obtain ⟨es, c, h1, h2, hst⟩ := h
  exact ⟨es, c, hk.heap h1 hX, h2, hst⟩
def placeOf (k : Int) : List En → Nat → Option (Nat × En)
  | [], _ => none
  | l :: L, i => if k = l.k then some (i, l) else placeOf k L (i + 1)
theorem placeOf_some {k : Int} : ∀ {L : List En} {i j : Nat} {l : En}, placeOf k L i = some (j, l) → i ≤ j ∧ L[j - i]? = some l ∧ l.k = k := by
  intro L
  induction L with
  | nil => intro i j l h; cases h
  | cons x L ih =>
    intro i j l h
    unfold placeOf at h
    split at h
    · cases h
      exact ⟨Nat.le_refl _, by simp, by omega⟩
    · obtain ⟨h1, h2, h3⟩ := ih h
      refine ⟨by omega, ?_, h3⟩
      rw [show j - i = (j - (i + 1)) + 1 by omega]
      simpa using h2
theorem placeOf_none {k : Int} : ∀ {L : List En} {i : Nat}, placeOf k L i = none → ∀ l ∈ L, l.k ≠ k := by
  intro L
  induction L with
  | nil => intro i h l hl; cases hl
  | cons x L ih =>
    intro i h l hl
    unfold placeOf at h
    split at h
    · cases h
    · rcases List.mem_cons.1 hl with rfl | hl
      · exact fun e => ‹¬ _› e.symm
      · exact ih h l hl
theorem placeOf_no {k : Int} : ∀ {L : List En} {i : Nat}, (∀ l ∈ L, l.k ≠ k) → placeOf k L i = none := by
  intro L
  induction L with
  | nil => intro i _; rfl
  | cons x L ih =>
    intro i h
    unfold placeOf
    rw [if_neg (fun e => h x (List.mem_cons_self ..) e.symm)]
    exact ih fun l hl => h l (List.mem_cons_of_mem _ hl)
theorem find_now (k : Int) : ∀ (L : List En) (es : List MapEntry) (i : Nat), es.map (fun e => (e.key, e.val)) = ents L → Instr.findNow (.int .i64) (.int .i64 k) es i = some ((placeOf k L i).map fun x => (x.1, .int .i64 x.2.v)) := by
  intro L
  induction L with
  | nil => intro es i h; cases es with
    | nil => rfl
    | cons e es => simp [ents] at h
  | cons l L ih =>
    intro es i h
    cases es with
    | nil => simp [ents] at h
    | cons e es =>
      simp only [List.map_cons, ents, List.cons.injEq, Prod.mk.injEq] at h
      obtain ⟨⟨h1, h2⟩, h3⟩ := h
      unfold Instr.findNow placeOf
      rw [h1]
      simp only [Instr.sameNow, if_true]
      by_cases hk : k = l.k
      · simp [hk, h2]
      · rw [if_neg hk]
        have : (k == l.k) = false := by simpa using hk
        simp only [this]
        exact ih es (i + 1) h3
def putB (w : World) (r : Nat) (o : Obj) : World := { w with heap := w.heap.setIfInBounds r o }
theorem get_map {w : World} {r : Nat} {es : Array MapEntry} {c : Nat} (hb : w.heap[r]? = some (.map es c)) : (getObj r).run Try.prog w = .ok (.map es c) w := by simp [getObj, Sem.run, hb]
theorem set_map {w : World} {r : Nat} {es : Array MapEntry} {c : Nat} (o : Obj) (hb : w.heap[r]? = some (.map es c)) : (setObj r o).run Try.prog w = .ok () (putB w r o) := by simp [setObj, Sem.run, hb, putB]
theorem map68 : Try.prog.underlying 68 = some (.map 3 3) := by kernel_rfl
theorem check3 (w : World) (em : Bool) (k : Int) : (Instr.checkKey em 10000 3 (.int .i64 k)).run Try.prog w = .ok () w := by cases em <;> kernel_rfl
theorem find3 (w : World) (k : Int) (L : List En) (es : List MapEntry) (h : es.map (fun e => (e.key, e.val)) = ents L) : (Instr.findKey 3 (.int .i64 k) es).run Try.prog w = .ok ((placeOf k L 0).map fun x => (x.1, .int .i64 x.2.v)) w := by
  unfold Instr.findKey
  simp [Sem.run_bind, run_underlying Try.underlying3, find_now k L es 0 h]
theorem zero3 (w : World) : (zeroValue 3).run Try.prog w = .ok (.int .i64 0) w := by kernel_rfl
/-- What 'l, ok := m[k]' tells. -/
def lookV (k : Int) (L : List En) : Int := match placeOf k L 0 with
  | none => 0
  | some x => x.2.v
theorem run_look (w : World) (mb : Nat) (L : List En) (k : Int) (h : MapAt w mb L) : (Instr.lookup 68 (.map (some mb)) (.int .i64 k) true).run Try.prog w = .ok (.tuple #[.int .i64 (lookV k L), .bool (placeOf k L 0).isSome]) w := by
  obtain ⟨es, c, h1, h2, hst⟩ := h
  unfold Instr.lookup lookV
  simp only [Sem.run_bind, run_underlying map68, Result.andThen_ok, get_map h1, Sem.run_pure, check3, find3 w k L _ h2]
  cases placeOf k L 0 with
  | none => simp
  | some x => simp
theorem Kept.putB {X : List Nat} {a w : World} (h : Kept X a w) {r : Nat} (o : Obj) (hr : r ∈ X) : Kept X a (putB w r o) := by
  refine ⟨h.os, h.tape, h.output, by simp [Ytgnafbohikbpfaa.putB]; exact h.size, fun i hi hx => ?_⟩
  rw [← h.block i hi hx]
  simp only [Ytgnafbohikbpfaa.putB]
  rw [Array.getElem?_setIfInBounds_ne (by intro e; subst e; exact hx hr)]
theorem putB_at {w : World} {r : Nat} {o o' : Obj} (h : w.heap[r]? = some o) : (putB w r o').heap[r]? = some o' := by
  have := (Array.getElem?_eq_some_iff.1 h).1
  simp [putB, this]
theorem run_upd (w : World) (mb : Nat) (L : List En) (l : En) (h : MapAt w mb L) (hn : placeOf l.k L 0 = none) : ∃ w', (Instr.mapUpdate 68 (.map (some mb)) (.int .i64 l.k) (.int .i64 l.v)).run Try.prog w = .ok () w' ∧ MapAt w' mb (L ++ [l]) ∧ Kept [mb] w w' := by
  obtain ⟨es, c, h1, h2, hst⟩ := h
  refine ⟨putB w mb (.map (es.push { key := .int .i64 l.k, val := .int .i64 l.v, born := c }) (c + 1)), ?_, ⟨_, _, putB_at h1, ?_, MapKept.stamped_push hst ?_⟩, (Kept.refl _ _).putB _ (by simp)⟩
  · unfold Instr.mapUpdate
    simp only [Sem.run_bind, run_underlying map68, Result.andThen_ok, get_map h1, check3, find3 w l.k L _ h2, hn, Option.map_none, set_map _ h1]
  · simp [ents, h2]
  · intro x hx e
    have hm : (x.key, x.val) ∈ es.toList.map (fun e => (e.key, e.val)) := List.mem_map.2 ⟨x, hx, rfl⟩
    rw [h2] at hm
    obtain ⟨l', hl', e'⟩ := List.mem_map.1 hm
    have h9 := congrArg Prod.fst e'
    rw [e] at h9
    simp at h9
    exact placeOf_none hn l' hl' h9
theorem ents_erase : ∀ (L : List En) (es : List MapEntry) (i : Nat), es.map (fun e => (e.key, e.val)) = ents L → (es.eraseIdx i).map (fun e => (e.key, e.val)) = ents (L.eraseIdx i) := by
  intro L
  induction L with
  | nil => intro es i h; cases es with
    | nil => rfl
    | cons e es => simp [ents] at h
  | cons l L ih =>
    intro es i h
    cases es with
    | nil => simp [ents] at h
    | cons e es =>
      simp only [List.map_cons, ents, List.cons.injEq] at h
      cases i with
      | zero => exact h.2
      | succ i =>
        simp only [List.eraseIdx_cons_succ, List.map_cons, ents, List.cons.injEq]
        exact ⟨h.1, ih es i h.2⟩
theorem run_del (w : World) (mb : Nat) (L : List En) (k : Int) (i : Nat) (l : En) (h : MapAt w mb L) (hn : placeOf k L 0 = some (i, l)) : ∃ w', (Builtin.delete_ #[68, 3] 0 #[.map (some mb), .int .i64 k]).run Try.prog w = .ok (.tuple #[]) w' ∧ MapAt w' mb (L.eraseIdx i) ∧ Kept [mb] w w' := by
  obtain ⟨es, c, h1, h2, hst⟩ := h
  refine ⟨putB w mb (.map (es.eraseIdxIfInBounds i) c), ?_, ⟨_, _, putB_at h1, ?_, MapKept.stamped_erase hst i⟩, (Kept.refl _ _).putB _ (by simp)⟩
  · unfold Builtin.delete_
    simp [Sem.run_bind, run_underlying map68, get_map h1, check3, find3 w k L _ h2, hn, set_map _ h1, putB]
  · rw [Array.toList_eraseIdxIfInBounds]
    exact ents_erase L _ i h2
theorem map_not_cells {W : World} {mb k : Nat} {L : List En} {cs : Array Value} {e : TypeId} {p : Nat × Nat} (h : MapAt W mb L) (hk : W.heap[k]? = some (.cells cs e p)) : k ≠ mb := by
  obtain ⟨es, c, h1, _⟩ := h
  intro e
  subst e
  rw [h1] at hk
  cases hk
theorem MapAt.drew {W : World} {mb : Nat} {L : List En} (h : MapAt W mb L) : MapAt W.drew mb L := h
theorem MapAt.lt {W : World} {mb : Nat} {L : List En} (h : MapAt W mb L) : mb < W.heap.size := by
  obtain ⟨es, c, h1, _⟩ := h
  exact (Array.getElem?_eq_some_iff.1 h1).1

end Go.Proofs.Ytgnafbohikbpfaa
