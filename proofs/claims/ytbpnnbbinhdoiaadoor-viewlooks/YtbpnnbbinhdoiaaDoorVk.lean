/-
  Count and Master: ranges over the members.
-/
import Derived.Test.YtbpnnbbinhdoiaaDoorVj
import Derived.Test.YtbpnnbbinhdoiaaDoorVm
namespace Go.Proofs.YtbpnnbbinhdoiaaDoor
set_option maxRecDepth 100000
open Go.RowKit Go.Shelf
attribute [local go_sem] Oper.semAt_some


theorem blk_grown {W W' : World} {row : Option Nat} {b T : Nat} {us : List Value} (h : Blk W b T us) (hg : W.grownBy W' row) (hr : ∀ r, row = some r → ∃ o : Obj, W.heap[r]? = some o ∧ o.isCells = false) : Blk W' b T us := cells_kept h hg hr
theorem kept_kept {w W W' : World} {row : Option Nat} {B : Nat} (h : Kept [] w W) (hg : W.grownBy W' row) (hB : w.heap.size ≤ B) (hr : ∀ r, row = some r → B ≤ r) : Kept [] w W' :=
  h.fresh (X := row.toList) (Kept.of_grown hg (fun k e _ => by rw [e]; simp)) (fun i hi hl => by rw [Option.mem_toList] at hi; have := hr i hi; omega)
theorem keepsFrom_X {B : Nat} {W W' : World} {X : List Nat} (h : Kept X W W') (hX : ∀ k ∈ X, ∃ cs T p, W.heap[k]? = some (Obj.cells cs T p)) : KeepsFrom B W W' :=
  ⟨h.size, fun k o _ hk hc => by
    rw [h.block k (lt_of_block hk) (fun hm => by obtain ⟨cs, T, p, e⟩ := hX k hm; rw [hk] at e; cases e; simp [Obj.isCells] at hc)]
    exact hk⟩
theorem keepsFrom_of_kept {B : Nat} {W W' : World} (h : Kept [] W W') : KeepsFrom B W W' := keepsFrom_X h (by simp)
theorem KeptJ.keptX {A W W' : World} {X : List Nat} (h : KeptJ A W) (hk : Kept X W W') (hX : ∀ k ∈ X, ∀ cs T p, W.heap[k]? = some (Obj.cells cs T p) → T = 3 ∨ T = 4) : KeptJ A W' := by
  refine ⟨Nat.le_trans h.size hk.size, fun k cs T p h1 h2 hc => ?_⟩
  have h3 := h.block k cs T p h1 h2 hc
  rw [hk.block k (lt_of_block h3) (fun hm => by rcases hX k hm cs T p h3 with e | e; exact h1 e; exact h2 e)]
  exact h3
/-- A number or a truth value is written. -/
theorem keep34 {B : Nat} {W W' : World} {b T : Nat} {us : List Value} (hk : Kept [b] W W') (hB : Blk W b T us) (hT : T = 3 ∨ T = 4) : KeepsFrom B W W' ∧ KeptJ W W' :=
  ⟨keepsFrom_X hk (fun k hm => by simp at hm; subst hm; exact ⟨_, _, _, hB⟩), (KeptJ.refl W).keptX hk (fun k hm cs T' p e => by simp at hm; subst hm; unfold Blk at hB; rw [hB] at e; cases e; exact hT)⟩
theorem KeptJ.keeps {B : Nat} {W W1 W2 : World} (h : KeepsFrom B W W1 ∧ KeptJ W W1) (k : KeepsFrom B W1 W2 ∧ KeptJ W1 W2) : KeepsFrom B W W2 ∧ KeptJ W W2 :=
  ⟨⟨Nat.le_trans h.1.size k.1.size, fun i o hi ho hc => k.1.same i o hi (h.1.same i o hi ho hc) hc⟩, h.2.trans k.2⟩
theorem Mm.grown {w0 W W' : World} {bs : List (Nat × Nat × List Value)} {row : Option Nat} {B : Nat} (h : Mm w0 W bs) (hg : W.grownBy W' row) (hB : w0.heap.size ≤ B) (hr : ∀ r, row = some r → B ≤ r ∧ ∃ o : Obj, W.heap[r]? = some o ∧ o.isCells = false) : Mm w0 W' bs := by
  have hp := h.first0
  exact ⟨kept_kept h.kept hg hB (fun r e => (hr r e).1), h.first.keptX (X := row.toList) (Kept.of_grown hg (fun k e _ => by rw [e]; simp)) (by rw [Option.mem_toList]; intro e; have := (hr 0 e).1; omega), hp, fun x hx => ⟨blk_grown (h.blk x hx).1 hg (fun r e => (hr r e).2), (h.blk x hx).2⟩, h.nd⟩
section
variable {ops : Array Oper} {rest : List Oper} {op : Oper} {a : Act} {w w0 : World} {Q : Exit → Act → World → Prop} {bs : List (Nat × Nat × List Value)}
theorem wpStoreK1 {T : Nat} (hs : (Tryd.prog.info? T).map (·.size) = some 1) (hgd : op.guard = none) (x y : Operand) (ho : op.op = .store T x y) (hd : op.dst = none) (b off i : Nat) (v : Value) (h1 : One v) (hx : a.eval x = .pointer (some ⟨b, off, none⟩)) (hy : a.eval y = v) (hM : Mm w0 w bs) {TT : Nat} {us : List Value} (hi : bs[i]? = some (b, TT, us)) (hl : off < us.length)
    (h : ∀ W, Mm w0 W (bs.set i (b, TT, us.set off v)) → Kept [b] w W → wpList Tryd.prog ops Q rest a W) : wpList Tryd.prog ops Q (op :: rest) a w :=
  wpList_plain hgd fun K hK => by
    have hst := storeVar1 hs (hM.at i _ hi) hl v h1.1 h1.2
    unfold Oper.wp execOp
    simp only [ho, hx, hy, Instr.storeAt, Instr.sureAddr, Sem.run_bind, Sem.run_pure, Result.andThen_ok, hst]
    refine hK _ _ ?_
    rw [hd]
    exact h _ (hM.mut i hi ((Kept.refl _ _).setCell (by simp) v) ((hM.at i _ hi).set v)) ((Kept.refl _ _).setCell (by simp) v)
end
theorem memF_len : ∀ (l : List (Bool × Int)) (i : Nat), (memF i l).length ≤ l.length := by
  intro l
  induction l with
  | nil => intro i; simp [memF]
  | cons m l ih =>
    intro i
    unfold memF
    have := ih (i + 1)
    split <;> simp <;> omega
theorem list_len {v : Vw} (h : v.ms.length = 8) : v.list.length ≤ 8 := by
  unfold Vw.list
  split
  · have := memF_len v.ms 0; omega
  · simp
theorem zero3 (w : World) : (Instr.alloc 3 true (.tuple #[])).run Tryd.prog w = .ok (P0 w.heap.size) (w.alloc (.cells [Value.int .i64 0].toArray 3)) := by kernel_rfl
theorem zero4 (w : World) : (Instr.alloc 4 true (.tuple #[])).run Tryd.prog w = .ok (P0 w.heap.size) (w.alloc (.cells [Value.bool false].toArray 4)) := by kernel_rfl
set_option maxHeartbeats 2000000 in
theorem count_in (v : Vw) (w : World) (hF : First w) (hv : v.ms.length = 8) : CallsIn Fence.wide 3 Tryd.prog 26 #[aggV (vwC v)] w fun e w' => e = .returned (.int .i64 v.list.length) ∧ Kept [] w w' := by
  have hFw := wideF
  obtain ⟨S, hS⟩ : ∃ S, S = v.list := ⟨_, rfl⟩
  have HSL : Hid (S.length ≤ 8) := by show _ ≤ _; rw [hS]; exact list_len hv
  rw [← hS]
  refine callsIn_of_wp_marks Tryd.func26 rfl trivial ?_ rfl
  simp only [Tryd.ntmps26, List.size_toArray, List.length_cons, List.length_nil, Nat.reduceAdd, Nat.reduceSub, Array.replicate_succ, Array.replicate_zero, List.push_toArray, List.append_toArray, List.nil_append, List.cons_append]
  rw [wpIn_wide]
  have M : Hid (Mm w w []) := hide (Mm.init hF)
  go_wp2_with (
    first
    | (refine wpBoxV rfl (.tmp 0) rfl (vwC v) rfl ?_
       intro W1 b1 e1 B1 K1
       replace M : Hid (Mm w W1 [(b1, 26, vwC v)]) := hide ((unhide M).new e1 B1 K1)
       clear e1 B1 K1
       refine Stp.go ?_))
  constructor
  go_wp2_with (
    first
    | (refine wpAllocW ([.int .i64 0]) zero3 3 rfl rfl rfl ?_
       intro W2 b2 e2 B2 K2
       replace M : Hid (Mm w W2 [(b1, 26, vwC v), (b2, 3, [.int .i64 0])]) := hide ((unhide M).new e2 B2 K2)
       clear e2 B2 K2
       refine Stp.go ?_))
  constructor
  go_wp2_with (
    first
    | (refine wpStoreM1 size3 rfl (.tmp 3) (.const (.int .i64 0)) rfl rfl b2 0 1 (.int .i64 0) ⟨rfl, rfl⟩ rfl rfl (unhide M) rfl (by simp) ?_
       intro W3 N3
       replace M : Hid (Mm w W3 [(b1, 26, vwC v), (b2, 3, [.int .i64 0])]) := hide N3
       clear N3
       refine Stp.go ?_))
  constructor
  go_wp2_with (
    first
    | (refine wpLoadA row26 rfl (.tmp 1) rfl b1 0 rfl (vwC v) (vwC_len hv) ((unhide M).at 0 _ rfl).range ?_
       refine Stp.go ?_))
  constructor
  go_wp2_with (
    first
    | (go_at_call 30
       refine (members30 v _).mono ?_
       rintro e W4 ⟨p, rfl, hB, hp, K4⟩
       replace M : Hid (Mm w W4 [(b1, 26, vwC v), (b2, 3, [.int .i64 0])]) := hide ((unhide M).step K4)
       have HP := hide hB
       clear hB hp K4
       refine Stp.go ?_))
  constructor
  go_wp2_with fail
  rw [← wpIn_wide (n := 3)]
  have HW : Hid (w.heap.size ≤ W4.heap.size) := (unhide M).kept.size
  refine wp_rangeM p v S hS rfl rfl (unhide HP) (unhide M).first hv
    (fun pre W => Mm w W [(b1, 26, vwC v), (b2, 3, [.int .i64 pre.length])]) (fun _ _ _ => False) ?hI ?hIx (unhide M)
    (fun k x a' W => Mm w W [(b1, 26, vwC v), (b2, 3, [.int .i64 k])] ∧ a' = { tmps := #[aggV (vwC v), P0 b1, .int .i64 0, P0 b2, aggV (vwC v), .func (.func 40) #[] #[P0 p], .int .i64 x.1, .int .i64 x.2, undef, undef, undef], defers := [] }) ?hFr ?assign ?body ?done ?stop
  case hI =>
    intro s A B row hs hg hr
    exact hs.grown hg (unhide HW) hr
  case hIx =>
    intro c s A B row hs hg hr
    exact hs.elim
  case hFr =>
    intro k x a' s A B row hs hg hr
    exact ⟨hs.1.grown hg (unhide HW) hr, hs.2⟩
  case assign =>
    intro l k x W K hI hx hK
    simp only [List.zip_toArray, List.zip_cons_cons, List.zip_nil_right, List.foldl_toArray, List.foldl_cons, List.foldl_nil, List.setIfInBounds_toArray, List.set_cons_succ, List.set_cons_zero]
    have hlen : (S.take k).length = k := by rw [List.length_take]; have := (List.getElem?_eq_some_iff.1 hx).1; omega
    rw [hlen] at hI
    gi_wp2_with fail
    exact hK _ _ (Kept.refl _ _) ⟨hI, rfl⟩
  case body =>
    rintro l k x a' W hx ⟨hI, rfl⟩
    have hk := (List.getElem?_eq_some_iff.1 hx).1
    have h8 := unhide HSL
    have hlen : (S.take (k + 1)).length = k + 1 := by rw [List.length_take]; omega
    have HLN := hide hlen
    have hkI : (k : Int) ≤ 8 := by omega
    have hk0 : 0 ≤ (k : Int) := by omega
    have hc := fits_cell (hI.at 1 _ rfl) 0 _ rfl
    have HI := hide hI
    clear hI hlen hx hk h8
    gi_wp2_with (
      first
      | (refine listIn_of_list (by rintro ⟨a, w, h⟩; exact h) _ _ _ (noDefer_spec (by kernel_rfl)) ?_
         refine Stp.go ?_))
    constructor
    go_wp2_with (
      first
      | (refine wpStoreK1 size3 (by rfl) (.tmp 3) (.tmp 9) (by rfl) (by rfl) b2 0 1 (.int .i64 (k + 1)) ⟨rfl, rfl⟩ (by rfl) (by rfl) (unhide HI) (by rfl) (by simp) ?_
         intro W9 M9 K9
         have HM9 := hide M9
         have HK9 := hide K9
         clear M9 K9
         refine Stp.go ?_))
    constructor
    go_wp2_with fail
    obtain ⟨q1, q2⟩ := keep34 (B := W4.heap.size) (unhide HK9) ((unhide HI).at 1 _ rfl) (.inl rfl)
    refine ⟨q1, q2, ?_⟩
    show Mm w _ [(b1, 26, vwC v), (b2, 3, [.int .i64 (S.take (k + 1)).length])]
    rw [unhide HLN]
    exact unhide HM9
  case done =>
    rintro E W hE hI hK
    have hc := fits_cell (hI.at 1 _ rfl) 0 _ rfl
    have HI := hide hI
    have HDK := hide hK
    have HDG : Hid (w.heap.size ≤ E) := by have := unhide HW; show _ ≤ _; omega
    clear hI hK hS
    go_wp2_with fail
    have hgr := grownBy_putObj' W E (Obj.deferred none)
    refine (show LeavesInM Fence.wide 3 Tryd.prog Tryd.f26 _ _ [{ target := .collected E, args := #[] }] .returning W from ?_)
    refine ⟨by simp, .inl ⟨_, _, rfl, run_takeDeferred (unhide HDK), ?_⟩⟩
    exact ⟨_, results_tmp rfl _ _ _, rfl, kept_kept (B := w.heap.size) (unhide HI).kept hgr (Nat.le_refl _) (fun r e => by cases e; exact unhide HDG)⟩
  case stop =>
    rintro E c k W hE hk hX hK
    exact hX.elim
theorem count26 (v : Vw) (w : World) (hF : First w) (hv : v.ms.length = 8) : Calls Tryd.prog 26 #[aggV (vwC v)] w fun e w' => e = .returned (.int .i64 v.list.length) ∧ Kept [] w w' := callsIn_wide.1 (count_in v w hF hv)

end Go.Proofs.YtbpnnbbinhdoiaaDoor
