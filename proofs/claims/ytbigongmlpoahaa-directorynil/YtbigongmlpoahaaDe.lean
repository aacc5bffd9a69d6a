/-
  ask: what all calls have in common.
-/
import Derived.Test.YtbigongmlpoahaaDd
namespace Go.Proofs.Ytbigongmlpoahaa.D
set_option maxRecDepth 100000
set_option linter.unusedSimpArgs false
open Go.RowKit


@[reducible] def fnV (f : Nat) (cs : Array Value) : Value := .func (.func f) #[] cs
@[reducible] def Ent (f : Nat) : Prop := ∀ (vs : Array Value) (w : World), (callFunc f vs).run Try.prog w = .ok (.enter f vs) w
/-- An order with its page. -/
@[reducible] def poC1 (n : Int) (o : Od) : List Value := .int .i64 n :: o.C
def poC (n : Int) (O : List Od) : List Value := O.flatMap (poC1 n)
theorem poC_app (n : Int) (A B : List Od) : poC n (A ++ B) = poC n A ++ poC n B := by simp [poC]
theorem poC_one (n : Int) (O : List Od) : ∀ v ∈ poC n O, v.oneCell' = true := by
  intro v hv
  unfold poC at hv
  obtain ⟨o, _, hv⟩ := List.mem_flatMap.1 hv
  rcases List.mem_cons.1 hv with rfl | hv
  · rfl
  · exact odC_one [o] v (by simpa [odC] using hv)
theorem poC_sing (n : Int) (o : Od) : poC n [o] = poC1 n o := by simp [poC]
theorem el57 : El 57 76 7 56 := ⟨by kernel_rfl, ⟨aggV (poC1 0 ⟨0, 0, 0, 0, 0, 0⟩), by kernel_rfl, rfl⟩, by omega⟩
theorem build76 (n : Int) (x : Od) (w : World) : (Instr.build 76 #[(0, .int .i64 n), (1, aggV x.C)]).run Try.prog w = .ok (aggV (poC1 n x)) w := by kernel_rfl
theorem bs57 (w : World) (n : Int) (x : Od) : (Instr.buildSlice 57 1 #[(0, aggV (poC1 n x))]).run Try.prog w = .ok (.slice (some ⟨w.heap.size, 0, none⟩) 1 1) (w.alloc (.cells (poC1 n x).toArray 76)) := by kernel_rfl
section
variable {ops : Array Oper} {rest : List Oper} {op o : Oper} {a : Act} {w : World} {K : Act → World → Prop} {Q : Exit → Act → World → Prop}
theorem wpBs57 (hgd : op.guard = none) (y : Operand) (ho : op.op = .buildSlice 57 1 #[(0, y)]) (n : Int) (x : Od) (hy : a.eval y = aggV (poC1 n x)) (h : ∀ W g, g = w.heap.size → Blk W g 76 (poC1 n x) → Kept [] w W → wpList Try.prog ops Q rest (a.put op.dst (.slice (some ⟨g, 0, none⟩) 1 1)) W) : wpList Try.prog ops Q (op :: rest) a w :=
  wpList_plain hgd fun _ hK => by
    unfold Oper.wp execOp
    simp only [ho, List.map_toArray, List.map_cons, List.map_nil, hy, Sem.run_bind, bs57, Result.andThen_ok]
    exact hK _ _ (h _ _ rfl (Blk.new _ _ _) ((Kept.refl _ _).alloc _))
end
/-- A page's lock, turned. -/
def Lk.to (x : Lk) (ln : Value) (r : Lo × List Wi × List Od) : Lk := ⟨x.k, x.p, ln, r.1, r.2.1⟩
def setLk (n : Int) (ln : Value) (r : Lo × List Wi × List Od) (L : List Lk) : List Lk := L.map fun y => if y.k = n then y.to ln r else y
theorem setLk_e (n : Int) (ln : Value) (r : Lo × List Wi × List Od) (L : List Lk) : (setLk n ln r L).map Lk.e = L.map Lk.e := by
  unfold setLk
  rw [List.map_map]
  refine List.map_congr_left fun y _ => ?_
  simp only [Function.comp]
  split <;> rfl
theorem setLk_k (n : Int) (ln : Value) (r : Lo × List Wi × List Od) (L : List Lk) : (setLk n ln r L).map Lk.k = L.map Lk.k := by
  unfold setLk
  rw [List.map_map]
  refine List.map_congr_left fun y _ => ?_
  simp only [Function.comp]
  split <;> rfl
theorem nodup_uniq : ∀ {L : List Lk} {x y : Lk}, (L.map Lk.k).Nodup → x ∈ L → y ∈ L → x.k = y.k → x = y
  | [], _, _, _, h, _, _ => by cases h
  | z :: L, x, y, hd, hx, hy, e => by
    rw [List.map_cons, List.nodup_cons] at hd
    rcases List.mem_cons.1 hx with e1 | h1
    · rcases List.mem_cons.1 hy with e2 | h2
      · rw [e1, e2]
      · exact absurd (List.mem_map.2 ⟨y, h2, by rw [← e, e1]⟩) hd.1
    · rcases List.mem_cons.1 hy with e2 | h2
      · exact absurd (List.mem_map.2 ⟨x, h1, by rw [e, e2]⟩) hd.1
      · exact nodup_uniq hd.2 h1 h2 e
variable {A : Nat} {w W W' : World} {b mb : Nat} {L : List Lk} {v ln : Value} {n : Int}
theorem Dg.apart (h : Dg A W b mb L) {x y : Lk} (hx : x ∈ L) (hy : y ∈ L) (hne : x.k ≠ y.k) : x.Ap y := by
  have hp := h.ap
  have key : ∀ (L : List Lk), L.Pairwise Lk.Ap → x ∈ L → y ∈ L → x.Ap y := by
    intro L
    induction L with
    | nil => intro _ h _; cases h
    | cons z L ih =>
      intro hp hx hy
      obtain ⟨h1, h2⟩ := List.pairwise_cons.1 hp
      rcases List.mem_cons.1 hx with e1 | hx
      · rcases List.mem_cons.1 hy with e2 | hy
        · rw [e1, e2] at hne; exact absurd rfl hne
        · rw [e1]; exact h1 y hy
      · rcases List.mem_cons.1 hy with e2 | hy
        · rw [e2]; exact (h1 x hx).symm
        · exact ih h2 hx hy
  exact key L hp hx hy
/-- A lock's call leaves the directory. -/
theorem Dg.call {x : Lk} {r : Lo × List Wi × List Od} (h : Dg A w b mb L) (hx : x ∈ L) (hB : Blk W x.p 108 (r.1.C ln)) (hW : Ws W ln r.2.1) (hk : Kept (x.p :: spare x.ln) w W) (hg : Grw w x.ln ln) (hgd : Gd (A + 1) r.1 r.2.1) : Dg (A + 1) W b mb (setLk x.k ln r L) := by
  have own : ∀ k, x.ln.ownBlock = some k → ∃ cs, w.heap[k]? = some (.cells cs 38 (0, 0)) := (h.lk x hx).row.block
  have nr : ∀ {k T : Nat} {us : List Value}, Blk w k T us → T ≠ 38 → x.ln.ownBlock ≠ some k := fun {k T us} hB2 hT e => by
    obtain ⟨cs, hc⟩ := own k e
    unfold Blk at hB2
    rw [hB2] at hc
    injection hc with hc
    injection hc with _ hc
    exact hT hc
  have hbx : b ≠ x.p := fun e => by
    have h1 := h.blk
    have h2 := (h.lk x hx).blk
    unfold Blk at h1 h2
    rw [e, h2] at h1
    injection h1 with h1
    injection h1 with _ h1
    exact absurd h1 (by decide)
  have hb : b ∉ x.p :: spare x.ln := fun e => by
    rcases List.mem_cons.1 e with e | e
    · exact hbx e
    · exact nr h.blk (by decide) (spare_own e)
  have hm : mb ∉ x.p :: spare x.ln := fun e => by
    rcases List.mem_cons.1 e with e | e
    · exact map_not_cells h.map (h.lk x hx).blk e.symm
    · obtain ⟨cs, hc⟩ := own mb (spare_own e)
      exact map_not_cells h.map hc rfl
  have oth : ∀ y ∈ L, y.k ≠ x.k → y.p ∉ x.p :: spare x.ln ∧ ∀ i, y.ln.ownBlock = some i → i ∉ x.p :: spare x.ln := by
    intro y hy hne
    have ha := h.apart hy hx hne
    refine ⟨fun e => ?_, fun i hi e => ?_⟩
    · rcases List.mem_cons.1 e with e | e
      · exact ha.1 e
      · exact nr (h.lk y hy).blk (by decide) (spare_own e)
    · rcases List.mem_cons.1 e with e | e
      · obtain ⟨cs, hc⟩ := (h.lk y hy).row.block i hi
        have h2 := (h.lk x hx).blk
        unfold Blk at h2
        rw [e, h2] at hc
        injection hc with hc
        injection hc with _ hc
        exact absurd hc (by decide)
      · exact ha.2 i hi (spare_own e)
  have hlt : ∀ y ∈ L, ∀ k, y.ln.ownBlock = some k → k < w.heap.size := fun y hy k hk2 => (h.lk y hy).row.lt hk2
  refine ⟨h.blk.kept hk hb, by rw [setLk_e]; exact h.map.kept hk hm, fun y hy => ?_, fun y hy => ?_, by rw [setLk_k]; exact h.nd, ?_⟩
  · unfold setLk at hy
    obtain ⟨z, hz, rfl⟩ := List.mem_map.1 hy
    split
    · rename_i e
      obtain rfl : z = x := nodup_uniq h.nd hz hx e
      exact ⟨hB, hW, hgd⟩
    · rename_i e
      have h1 := (h.lk z hz).kept hk (oth z hz e).1 (oth z hz e).2
      exact ⟨h1.blk, h1.row, h1.gd.mono (by omega)⟩
  · unfold setLk at hy
    obtain ⟨z, hz, rfl⟩ := List.mem_map.1 hy
    have h1 := h.may z hz
    split <;> exact h1
  · unfold setLk
    rw [List.pairwise_map]
    refine h.ap.imp_of_mem ?_
    intro y z hy hz hyz
    by_cases e1 : y.k = x.k
    · obtain rfl : y = x := nodup_uniq h.nd hy hx e1
      by_cases e2 : z.k = y.k
      · obtain rfl : z = y := nodup_uniq h.nd hz hx e2
        exact absurd rfl hyz.1
      · rw [if_pos rfl, if_neg e2]
        refine ⟨hyz.1, fun i hi e => ?_⟩
        rcases hg.own i hi with h2 | h2
        · exact hyz.2 i h2 e
        · have := hlt z hz i e; omega
    · by_cases e2 : z.k = x.k
      · obtain rfl : z = x := nodup_uniq h.nd hz hx e2
        rw [if_neg e1, if_pos rfl]
        refine ⟨hyz.1, fun i hi e => ?_⟩
        rcases hg.own i e with h2 | h2
        · exact hyz.2 i hi h2
        · have := hlt y hy i hi; omega
      · rw [if_neg e1, if_neg e2]
        exact hyz

end Go.Proofs.Ytbigongmlpoahaa.D
