/-
  Slices of sectors that are built, as they are written in the text; and laws for single operations.
-/
import Derived.Test.YtffflafalffifaaNew
import Derived.Test.YtffflafalffifaaFloat
import Derived.Great.BuildSlice
import Derived.BigFrame
namespace Go.Proofs.Ytffflafalffifaa
open Go.RowKit

theorem fold_sets (off : Nat) : ∀ (vs pre mid post : List Value) (k : Nat), mid.length = vs.length → pre.length = off + k →
    (vs.zipIdx k).foldl (fun (cs : Array Value) (x : Value × Nat) => cs.setIfInBounds (off + x.2) x.1) (pre ++ mid ++ post).toArray = (pre ++ vs ++ post).toArray := by
  intro vs
  induction vs with
  | nil =>
    intro pre mid post k hm _
    obtain rfl : mid = [] := List.eq_nil_of_length_eq_zero hm
    rfl
  | cons v vs ih =>
    intro pre mid post k hm hp
    cases mid with
    | nil => simp at hm
    | cons m mid =>
      rw [List.zipIdx_cons, List.foldl_cons]
      have h1 : ((pre ++ m :: mid ++ post).toArray).setIfInBounds (off + k) v = ((pre ++ [v]) ++ mid ++ post).toArray := by
        rw [← hp]; simp [List.setIfInBounds_toArray]
      simp only []
      rw [h1, ih (pre ++ [v]) mid post (k + 1) (by simpa using hm) (by simp [hp]; omega)]
      simp

theorem fill_secs : ∀ (L pre : List (List Int)), (∀ s ∈ L, Sec s) → (∀ s ∈ pre, Sec s) →
    Instr.fill (fun i => some (i * 64, 64)) (u8s pre.flatten ++ u8s (noughts L.length).flatten).toArray ((L.zipIdx pre.length).map fun x => (x.2, secV x.1)) = some (u8s (pre ++ L).flatten).toArray := by
  intro L
  induction L with
  | nil => intro pre _ _; simp [Instr.fill, noughts, u8s]
  | cons s L ih =>
    intro pre hL hpre
    have hs := hL s (List.mem_cons_self ..)
    have hpl := flat_len hpre
    have hnl := flat_len (noughts_sec L.length)
    rw [noughts_len] at hnl
    have hn : noughts (s :: L).length = nought :: noughts L.length := by simp [noughts, List.replicate_succ]
    rw [hn, List.flatten_cons, u8s_app, List.zipIdx_cons, List.map_cons]
    simp only [Instr.fill]
    have hc : (secV s).cells = (u8s s).toArray := rfl
    rw [hc]
    have hz : ((u8s s).toArray.size ≠ 64 || pre.length * 64 + (u8s s).toArray.size > (u8s pre.flatten ++ (u8s nought ++ u8s (noughts L.length).flatten)).toArray.size) = false := by
      simp [u8s_len, hs.1, hpl, nought_len, hnl]
    rw [hz]
    simp only [Bool.false_eq_true, if_false]
    have hf : (Array.foldl (fun (cs : Array Value) (x : Value × Nat) => cs.setIfInBounds (pre.length * 64 + x.2) x.1) (u8s pre.flatten ++ (u8s nought ++ u8s (noughts L.length).flatten)).toArray (u8s s).toArray.zipIdx) = (u8s (pre ++ [s]).flatten ++ u8s (noughts L.length).flatten).toArray := by
      rw [← Array.foldl_toList]
      have h := fold_sets (pre.length * 64) (u8s s) (u8s pre.flatten) (u8s nought) (u8s (noughts L.length).flatten) 0 (by rw [u8s_len, u8s_len, hs.1, nought_len]) (by rw [u8s_len, hpl, Nat.add_zero])
      rw [List.append_assoc] at h
      have e : (u8s s).toArray.zipIdx.toList = (u8s s).zipIdx 0 := by simp
      rw [e, h]
      simp [u8s_app]
    rw [hf]
    have := ih (pre ++ [s]) (fun t ht => hL t (List.mem_cons_of_mem _ ht)) (fun t ht => by
      rcases List.mem_append.1 ht with h | h
      · exact hpre t h
      · rw [List.mem_singleton.1 h]; exact hs)
    rw [List.length_append, List.length_singleton] at this
    rw [this]
    simp

/-- A slice of sectors, written out. -/
theorem wp_secs {o : Oper} {a : Act} {w : World} {K : Act → World → Prop} {Q : Exit → Act → World → Prop} (n : Nat) (parts : Array (Nat × Operand)) (ho : o.op = .buildSlice 36 n parts) (L : List (List Int)) (hL : ∀ s ∈ L, Sec s) (hn : L.length = n) (h0 : 0 < n) (h1 : n ≤ 1000)
    (hp : (parts.map fun (i, x) => (i, a.eval x)).toList = (L.zipIdx 0).map fun x => (x.2, secV x.1))
    (h : K (a.put o.dst (.slice (some ⟨w.heap.size, 0, none⟩) n n)) (w.alloc (.cells (u8s L.flatten).toArray 38))) : o.wp Try.prog a w K Q := by
  obtain ⟨i0, hi, hz0, hz1, hz2⟩ := info_parts Try.zero38
  refine wp_buildSlice (P := Try.prog) 36 38 n parts ho (u8s L.flatten).toArray i0 (secV nought) Try.underlying36 hi hz0 (by rw [hz1]; omega) (by rw [hz1]; omega) ?_ h
  rw [hp, hz1]
  have := fill_secs L [] hL (by simp)
  rw [hn] at this
  simp only [List.flatten_nil, List.nil_append, List.length_nil] at this
  have e : ((Array.range (n * 64)).map ((secV nought).cells[· % (secV nought).cells.size]!)) = (u8s [] ++ u8s (noughts n).flatten).toArray := by
    have := made_noughts n
    unfold madeCells at this
    exact this
  rw [e]
  exact this

theorem wpList_secs {ops : Array Oper} {rest : List Oper} {o : Oper} {a : Act} {w : World} {Q : Exit → Act → World → Prop} (hg : o.guard = none) (n : Nat) (parts : Array (Nat × Operand)) (ho : o.op = .buildSlice 36 n parts) (L : List (List Int)) (hL : ∀ s ∈ L, Sec s) (hn : L.length = n) (h0 : 0 < n) (h1 : n ≤ 1000)
    (hp : (parts.map fun (i, x) => (i, a.eval x)).toList = (L.zipIdx 0).map fun x => (x.2, secV x.1))
    (h : wpList Try.prog ops Q rest (a.put o.dst (.slice (some ⟨w.heap.size, 0, none⟩) n n)) (w.alloc (.cells (u8s L.flatten).toArray 38))) : wpList Try.prog ops Q (o :: rest) a w :=
  wpList_plain hg fun _ hK => wp_secs n parts ho L hL hn h0 h1 hp (hK _ _ h)

theorem secs_block {w : World} {g n : Nat} {L : List (List Int)} {ex : List Value} (hL : ∀ s ∈ L, Sec s) (hn : L.length = n) (h : w.heap[g]? = some (.cells (u8s L.flatten ++ ex).toArray 38 (0, 0))) (c : Nat) (hc : n ≤ c) : Secs w (some ⟨g, 0, none⟩) n c L := by
  refine ⟨hn, hL, hc, fun _ => ⟨g, 0, rfl, fun i hi j v hj => ?_⟩⟩
  obtain ⟨pre, post, h2, h3⟩ := flat_range hL i hi
  have hjl : j < (u8s L[i]).length := (List.getElem?_eq_some_iff.1 hj).1
  rw [cell_of_block h, h2, u8s_app, u8s_app, List.append_assoc, List.append_assoc, List.getElem?_toArray, List.getElem?_append_right (by rw [u8s_len]; omega), List.getElem?_append_left (by rw [u8s_len]; omega)]
  rw [u8s_len, h3, ← hj]
  congr 1; omega

theorem secs_new (w : World) (L : List (List Int)) (hL : ∀ s ∈ L, Sec s) : Secs (w.alloc (.cells (u8s L.flatten).toArray 38)) (some ⟨w.heap.size, 0, none⟩) L.length L.length L :=
  secs_block (ex := []) hL rfl (by rw [List.append_nil]; exact heap_alloc_new w _) _ (Nat.le_refl _)

/-- One operation: a sector is loaded. -/
theorem wp_loadS {o : Oper} {a : Act} {w : World} {K : Act → World → Prop} {Q : Exit → Act → World → Prop} (x : Operand) (ho : o.op = .load 38 x) (b off : Nat) (hx : a.eval x = .pointer (some ⟨b, off, none⟩)) (s : List Int) (hs : Sec s) (hA : w.rangeAt b off (u8s s))
    (h : K (a.put o.dst (secV s)) w) : o.wp Try.prog a w K Q :=
  wp_load_mid (P := Try.prog) 38 x ho b off hx (u8s s) _ hA Try.underlying38 rfl (by rw [u8s_len, hs.1]; exact Try.info38) h

/-- One operation: a function is called. -/
theorem wp_callF {P : Program} {o : Oper} {a : Act} {w : World} {K : Act → World → Prop} {Q : Exit → Act → World → Prop} (f : FuncId) (args : Array Operand) (ts : Array TypeId) (ho : o.op = .call { callee := .value (.func f), args := args, argTypes := ts })
    (vs : Array Value) (hv : args.map a.eval = vs) (hcf : (callFunc f vs).run P w = .ok (.enter f vs) w) (h : Calls P f vs w fun e w' => ∃ v, e = .returned v ∧ K (a.put o.dst v) w') : o.wp P a w K Q := by
  subst hv
  unfold Oper.wp execOp
  simp only [ho]
  simp [resolve, invoke, go_sem, hcf]
  refine h.mono ?_
  rintro e w' ⟨v, rfl, hk⟩
  exact hk
theorem cf22 (vs : Array Value) (w : World) : (callFunc 22 vs).run Try.prog w = .ok (.enter 22 vs) w := by kernel_rfl
theorem cf24 (vs : Array Value) (w : World) : (callFunc 24 vs).run Try.prog w = .ok (.enter 24 vs) w := by kernel_rfl
theorem cf25 (vs : Array Value) (w : World) : (callFunc 25 vs).run Try.prog w = .ok (.enter 25 vs) w := by kernel_rfl

theorem eval_tmp (a : Act) (t : Nat) (v : Value) (h : a.tmps[t]? = some v) : a.eval (.tmp t) = v := by
  simp [Act.eval, Array.getD_eq_getD_getElem?, h]

/-- A sector is made; the block's number is said. -/
theorem wpAllocN {ops : Array Oper} {rest : List Oper} {op : Oper} {a : Act} {w : World} {Q : Exit → Act → World → Prop} (hgd : op.guard = none) (ho : op.op = .alloc 38) (n : Nat) (hn : w.heap.size = n)
    (h : wpList Try.prog ops Q rest (a.put op.dst (.pointer (some ⟨n, 0, none⟩))) (w.alloc (.cells (u8s nought).toArray 38))) : wpList Try.prog ops Q (op :: rest) a w := by
  subst hn
  exact wpAllocS hgd ho h

/-- A sector is loaded, at an operation that is guarded. -/
theorem wpLoadG {ops : Array Oper} {rest : List Oper} {op : Oper} {a : Act} {w : World} {Q : Exit → Act → World → Prop} (x : Operand) (ho : op.op = .load 38 x) (hw : Region.wanted op (yielded ops a.tmps) = true)
    (b o : Nat) (hx : a.eval x = .pointer (some ⟨b, o, none⟩)) (s : List Int) (hA : At w b o s) (h : wpList Try.prog ops Q rest (a.put op.dst (secV s)) w) : wpList Try.prog ops Q (op :: rest) a w :=
  BigFrame.wpList_want hw fun _ hK => wp_loadS x ho b o hx s hA.1 hA.2.1 (hK _ _ h)
theorem wpBuildG {ops : Array Oper} {rest : List Oper} {op : Oper} {a : Act} {w : World} {Q : Exit → Act → World → Prop} (ho : op.op = .build 38 #[]) (hw : Region.wanted op (yielded ops a.tmps) = true)
    (h : wpList Try.prog ops Q rest (a.put op.dst (secV nought)) w) : wpList Try.prog ops Q (op :: rest) a w :=
  BigFrame.wpList_want hw fun K hK => by
    unfold Oper.wp execOp
    simp only [ho, Array.map_empty, Sem.run_bind, run_build38, Result.andThen_ok]
    exact hK _ _ h
theorem wpEqlG {ops : Array Oper} {rest : List Oper} {op : Oper} {a : Act} {w : World} {Q : Exit → Act → World → Prop} (x y : Operand) (r : TypeId) (ho : op.op = .binOp .eql 38 x y r) (hw : Region.wanted op (yielded ops a.tmps) = true) (s t : List Int) (hx : a.eval x = secV s) (hy : a.eval y = secV t) (hs : Sec s) (ht : Sec t) (rb : Bool) (hr : decide (s = t) = rb)
    (h : wpList Try.prog ops Q rest (a.put op.dst (.bool rb)) w) : wpList Try.prog ops Q (op :: rest) a w :=
  BigFrame.wpList_want hw fun K hK => by
    subst hr
    unfold Oper.wp execOp
    simp only [ho, hx, hy, Sem.run_bind, guard_secs, eql_secs _ _ _ hs ht, Result.andThen_ok]
    exact hK _ _ h
theorem wpNeqG {ops : Array Oper} {rest : List Oper} {op : Oper} {a : Act} {w : World} {Q : Exit → Act → World → Prop} (x y : Operand) (r : TypeId) (ho : op.op = .binOp .neq 38 x y r) (hw : Region.wanted op (yielded ops a.tmps) = true) (s t : List Int) (hx : a.eval x = secV s) (hy : a.eval y = secV t) (hs : Sec s) (ht : Sec t) (rb : Bool) (hr : (!decide (s = t)) = rb)
    (h : wpList Try.prog ops Q rest (a.put op.dst (.bool rb)) w) : wpList Try.prog ops Q (op :: rest) a w :=
  BigFrame.wpList_want hw fun K hK => by
    subst hr
    unfold Oper.wp execOp
    simp only [ho, hx, hy, Sem.run_bind, guard_secs, neq_secs _ _ _ hs ht, Result.andThen_ok]
    exact hK _ _ h

/-- What is known of an operation's value: it is this one, or a slice of these sectors. -/
inductive Fk where
  | is (v : Value)
  | secs (L : List (List Int))
def Fk.holds (b g : Nat) : Fk → Value → World → Prop
  | .is u, v, _ => v = u
  | .secs L, v, w => ∃ ao c, v = .slice ao L.length c ∧ Secs w ao L.length c L ∧ Away ao [b, g]
theorem Fk.kept {b g : Nat} {f : Fk} {v : Value} {w w' : World} (h : f.holds b g v w) (hk : Kept [b, g] w w') : f.holds b g v w' := by
  cases f with
  | is u => exact h
  | secs L =>
    obtain ⟨ao, c, e, hs, ha⟩ := h
    exact ⟨ao, c, e, hs.kept hk ha, ha⟩
/-- The table of an operation's facts, and of the devices behind so many calls. -/
def tabF (b g : Nat) (T : List Fk) (j : Nat) (v : Value) (w : World) : Prop := (T.getD j (.is undef)).holds b g v w
def tabD (b g : Nat) (T : List Dev) (m : Nat) (w : World) : Prop := ∃ D, T[m]? = some D ∧ Dv w b g D
theorem tabF_kept (b g : Nat) (T : List Fk) (j : Nat) (v : Value) (w w' : World) (h : tabF b g T j v w) (hk : Kept [b, g] w w') : tabF b g T j v w' := Fk.kept h hk
theorem tabD_kept (b g : Nat) (T : List Dev) (m : Nat) (w w' : World) (h : tabD b g T m w) (hk : Kept [] w w') : tabD b g T m w' := by
  obtain ⟨D, e, hd⟩ := h
  exact ⟨D, e, hd.kept hk (by simp) (by simp)⟩
theorem away_new {b g : Nat} {w0 w : World} (hlt : b < w0.heap.size ∧ g < w0.heap.size) (hk : w0.heap.size ≤ w.heap.size) (o : Nat) : Away (some ⟨w.heap.size, o, none⟩) [b, g] := by
  intro h off e
  cases e
  simp; omega

end Go.Proofs.Ytffflafalffifaa
