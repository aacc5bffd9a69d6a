/-
  The document's lay: a number into bytes.
-/
import Derived.Test.YtcfflbafclmheaaGreatDoorCr
import Derived.Laws.AppendOwn

/-
  From the walk outside a round to the walk inside one, operation by operation.
-/
namespace Go.Proofs.YtcfflbafclmheaaGreatDoor.Dv
set_option maxRecDepth 100000
open Go.RowKit Go.Shelf

section
variable {l n : Nat} {P : Program} {ops : Array Oper} {Q : Exit → Act → World → Prop}

theorem rowsIn_of_rows {row : String} {args : Array Value} {w : World} {R : Value → World → Prop} (h : Rows P row args w R) : RowsIn (Fence.wide.inRound l) n P row args w R := by
  intro c cs _
  obtain ⟨v, w', hr, hs⟩ := h c cs
  exact ⟨v, w', hr, stepsIn_wide.2 hs⟩

theorem uponIn_of_upon {o : Oper} {a : Act} {K : Act → World → Prop} {r : Result Next} (h : o.upon P a K Q r) : o.uponIn (Fence.wide.inRound l) n P a K Q r := by
  cases r with
  | ok nx w =>
    cases nx <;> first
      | exact h
      | exact ⟨fun h => by simp [Fence.wide] at h, CallsIn.inRound l (callsIn_wide.2 h)⟩
      | exact ⟨fun h => by simp [Fence.wide] at h, rowsIn_of_rows h⟩
      | exact h.elim
  | halt x w => cases x <;> first | exact h | exact h.elim

theorem opIn_of_op {o : Oper} {a : Act} {w : World} {K : Act → World → Prop} (hd : ∀ c, o.op ≠ .defer c) (h : o.wp P a w K Q) : o.wpIn (Fence.wide.inRound l) n P a w K Q := by
  refine ⟨fun f _ => trivial, ?_⟩
  rw [Fence.inRound_round, Oper.semAt_some l _ o hd]
  exact uponIn_of_upon h

/-- No defer statement among them. -/
def noDefer (os : List Oper) : Bool := os.all fun o => match o.op with | .defer _ => false | _ => true
theorem noDefer_spec {os : List Oper} (h : noDefer os = true) : ∀ o ∈ os, ∀ c, o.op ≠ .defer c := by
  intro o ho c e
  have := (List.all_eq_true.1 h) o ho
  rw [e] at this
  simp at this

theorem listIn_of_list (hlo : ¬ LetsOut Q) : ∀ (os : List Oper) (a : Act) (w : World), (∀ o ∈ os, ∀ c, o.op ≠ .defer c) → wpList P ops Q os a w → wpListIn (Fence.wide.inRound l) n P ops Q os a w := by
  intro os
  induction os with
  | nil => intro a w _ h; exact h
  | cons o os ih =>
    intro a w hd h
    unfold wpList at h
    unfold wpListIn
    split
    · rename_i hw
      rw [if_pos hw] at h
      rcases h with h | ⟨_, hl⟩
      · exact opIn_of_op (hd o (List.mem_cons_self ..)) (Oper.wp_mono (fun a w h => ih a w (fun p hp => hd p (List.mem_cons_of_mem _ hp)) h) h)
      · exact absurd hl hlo
    · rename_i hw
      rw [if_neg hw] at h
      exact ⟨fun f _ => trivial, ih _ _ (fun p hp => hd p (List.mem_cons_of_mem _ hp)) h⟩

theorem anyIn_of_any (hlo : ¬ LetsOut Q) (hd : ∀ o ∈ ops, ∀ c, o.op ≠ .defer c) {md : Region.Mode} : ∀ (fuel : Nat) (listed : Array Bool) (a : Act) (w : World), wpAny P md ops Q fuel listed a w → wpAnyIn (Fence.wide.inRound l) n P md ops Q fuel listed a w := by
  intro fuel
  induction fuel with
  | zero => intro listed a w h; exact h
  | succ fuel ih =>
    intro listed a w h
    refine ⟨h.1, fun i hi => ?_⟩
    have := h.2 i hi
    unfold wpOp at this
    unfold wpOpIn
    split
    · rename_i ho
      rw [ho] at this
      exact ih _ _ _ this
    · rename_i o ho
      rw [ho] at this
      simp only at this
      split
      · rename_i hw
        rw [if_pos hw] at this
        rcases this with this | ⟨_, hl⟩
        · exact opIn_of_op (hd o (Array.mem_of_getElem? ho)) (Oper.wp_mono (fun a w h => ih _ a w h) this)
        · exact absurd hl hlo
      · rename_i hw
        rw [if_neg hw] at this
        exact ⟨fun f _ => trivial, ih _ _ _ this⟩
end

theorem all_stops (n : Nat) (hn : 1 ≤ n) (q b g : Nat) (D : Dev) (w : World) (hD : Dv w b g D) (hq : w.cell? ⟨q, 0, none⟩ = some (P0 b)) :
    SeqStopsK Fence.wide n Tryz.prog 114 #[P0 q] Row.vals (KeptC []) (fun ys => ys = rows D.S hD.ok.sec D.S.length) (fun pre => ∃ k, k ≤ D.S.length ∧ 0 < k ∧ pre = rows D.S hD.ok.sec k) D.S.length w := by
  intro l J Jx W hW hJ _ hY h0
  have hk : Kept [] w W := Kept.of_below hW
  exact all58_in n hn l q b g D [] J Jx W (hD.kept hk (by simp) (by simp)) (hk.cell hq (by simp)) (by simp) (fun s A B hs hg => hJ s A B none hs hg (fun r e => by cases e)) hY h0
theorem keptC_b (B : Nat) (W : World) (l : Nat) (o o' : Obj) (_ : B ≤ l) (h : W.heap[l]? = some o) (hc : o.isCells = false) (_ : o.isWalk = false) : KeptC [] W (W.putObj l o') := KeptC.putObj h hc
theorem cf58 (args : Array Value) (w : World) : (callFunc 114 args).run Tryz.prog w = .ok (.enter 114 args) w := by kernel_rfl

/-- A block of cells stays where another kind of block turns. -/
theorem cells_kept {W W' : World} {row : Option Nat} {k : Nat} {cs : Array Value} {t : TypeId} {p : Nat × Nat} (h : W.heap[k]? = some (.cells cs t p)) (hg : W.grownBy W' row) (hr : ∀ r, row = some r → ∃ o : Obj, W.heap[r]? = some o ∧ o.isCells = false) : W'.heap[k]? = some (.cells cs t p) := by
  rw [hg.block k (lt_of_block h) ?_]
  · exact h
  · intro e
    obtain ⟨o, ho, hc⟩ := hr k e.symm
    rw [h] at ho
    cases ho
    simp [Obj.isCells] at hc
theorem kept_kept {w W W' : World} {row : Option Nat} {B : Nat} (h : Kept [] w W) (hg : W.grownBy W' row) (hB : w.heap.size ≤ B) (hr : ∀ r, row = some r → B ≤ r) : Kept [] w W' :=
  ⟨hg.os.trans h.os, hg.tape.trans h.tape, hg.output.trans h.output, Nat.le_trans h.size hg.size, fun k hk hx => (hg.block k (Nat.lt_of_lt_of_le hk h.size) (fun e => by have := hr k e.symm; omega)).trans (h.block k hk hx)⟩

end Go.Proofs.YtcfflbafclmheaaGreatDoor.Dv

/-
  The walks of slices.Equal over sectors, and of Copy.
-/
namespace Go.Proofs.YtcfflbafclmheaaGreatDoor.Dv
set_option maxRecDepth 100000
open Go.RowKit

set_option maxHeartbeats 1000000 in
set_option maxRecDepth 100000 in
theorem equalSs (ao bo : Option Addr) (n c m d : Nat) (L M : List (List Int)) (w : World) (hL : Secs w ao n c L) (hM : Secs w bo m d M) (hn : n ≤ 1000000) (hm : m ≤ 1000000) :
    Calls Tryz.prog 59 #[.slice ao n c, .slice bo m d] w fun e w' => e = .returned (.bool (decide (L = M))) ∧ Kept [] w w' := by
  have hl := hL.len
  have hl2 := hM.len
  by_cases hnm : n = m
  · subst hnm
    go_enter Tryz.func59, Tryz.ntmps59
    go_wp2_with fail
    go_loopw [5, 13] (fun _ i wr => ∃ k : Nat, k ≤ n ∧ i = .int .i64 k ∧ Hid (L.take k = M.take k) ∧ Hid (Kept [] w wr)) (fun _ i _ => n - (intOf i).toNat)
    case atStart => exact ⟨0, by omega, rfl, rfl, Kept.refl _ _⟩
    case round =>
      obtain ⟨k, hk, rfl, hpre, hK⟩ := hrel
      by_cases hlt : k < n
      · obtain ⟨h1, o1, rfl, r1⟩ := hL.lies (by intro e; simp [e] at hl; omega)
        obtain ⟨h2, o2, rfl, r2⟩ := hM.lies (by intro e; simp [e] at hl2; omega)
        have s1 := hL.sec _ (List.getElem_mem (show k < L.length by omega))
        have s2 := hM.sec _ (List.getElem_mem (show k < M.length by omega))
        have q1 : wr.rangeAt h1 (o1 + k * 64) (u8s L[k]) := fun j v hj => (unhide hK).cell (r1 k (by omega) j v hj) (by simp)
        have q2 : wr.rangeAt h2 (o2 + k * 64) (u8s M[k]) := fun j v hj => (unhide hK).cell (r2 k (by omega) j v hj) (by simp)
        have hkI : (k : Int) < (n : Int) := by omega
        have hk0 : (0 : Int) ≤ (k : Int) := by omega
        by_cases he : L[k] = M[k]
        · have hdec : Hid ((!decide (L[k] = M[k])) = false) := by simpa [Hid] using he
          have HE := hide he
          clear he r1 r2
          go_wp2_with fail
          refine wp_region_quiet_lit (by kernel_rfl) (by kernel_rfl) ?_
          repeat (first | (refine quietLoadS rfl (.tmp 18) rfl h1 (o1 + k * 64) rfl L[k] s1 (by rintro _ ⟨_, rfl⟩; exact q1) ?_) | (refine quietLoadS rfl (.tmp 22) rfl h2 (o2 + k * 64) rfl M[k] s2 (by rintro _ ⟨_, rfl⟩; exact q2) ?_) | (refine quietNeqS rfl (.tmp 19) (.tmp 23) _ rfl L[k] M[k] rfl rfl s1 s2 _ (unhide hdec) ?_) | quiet_step (fail))
          refine wpQuiet_nil ?_
          intro _ hw'
          obtain ⟨nq, hw''⟩ := hw'
          subst hw''
          go_wp2_with fail
          go_roundw
          case rel =>
            refine ⟨k + 1, by omega, by go_num, ?_, (unhide hK).drewN _⟩
            show L.take (k + 1) = M.take (k + 1)
            rw [List.take_succ_eq_append_getElem (by omega), List.take_succ_eq_append_getElem (by omega), unhide hpre, unhide HE]
          case measure => simp [intOf]; omega
        · have hdec : Hid ((!decide (L[k] = M[k])) = true) := by simpa [Hid] using he
          have hne : Hid (decide (L = M) = false) := by
            show decide (L = M) = false
            rw [decide_eq_false_iff_not]
            intro e
            exact he (by simp [e])
          clear he r1 r2
          go_wp2_with fail
          refine wp_region_quiet_lit (by kernel_rfl) (by kernel_rfl) ?_
          repeat (first | (refine quietLoadS rfl (.tmp 18) rfl h1 (o1 + k * 64) rfl L[k] s1 (by rintro _ ⟨_, rfl⟩; exact q1) ?_) | (refine quietLoadS rfl (.tmp 22) rfl h2 (o2 + k * 64) rfl M[k] s2 (by rintro _ ⟨_, rfl⟩; exact q2) ?_) | (refine quietNeqS rfl (.tmp 19) (.tmp 23) _ rfl L[k] M[k] rfl rfl s1 s2 _ (unhide hdec) ?_) | quiet_step (fail))
          refine wpQuiet_nil ?_
          intro _ hw'
          obtain ⟨nq, hw''⟩ := hw'
          subst hw''
          go_wp2_with fail
          go_ret
          exact ⟨ret_bool (unhide hne).symm, (unhide hK).drewN _⟩
      · have heq : Hid (decide (L = M) = true) := by
          show decide (L = M) = true
          rw [decide_eq_true_iff]
          have := unhide hpre
          rwa [List.take_of_length_le (by omega), List.take_of_length_le (by omega)] at this
        go_wp2_with fail
        go_ret
        exact ⟨ret_bool (unhide heq).symm, unhide hK⟩
  · have hne : Hid (decide (L = M) = false) := by
      show decide (L = M) = false
      rw [decide_eq_false_iff_not]
      intro e
      rw [e] at hl
      omega
    have hnI : ¬ (n : Int) = (m : Int) := by omega
    go_enter Tryz.func59, Tryz.ntmps59
    go_wp2_with fail
    go_ret
    exact ⟨ret_bool (unhide hne).symm, Kept.refl _ _⟩

end Go.Proofs.YtcfflbafclmheaaGreatDoor.Dv

/-
  The walk of Copy.
-/
namespace Go.Proofs.YtcfflbafclmheaaGreatDoor.Dv
set_option maxRecDepth 100000
open Go.RowKit

/-- A device's head as a value. -/
def devV (D : Dev) (g cap : Nat) : Value := .agg (devCells D g cap).toArray
def zeroD : List Value := [.slice none 0 0, .int .i64 0, .int .i64 0, .int .i64 0, .int .i64 0, .int .i64 0, .int .i64 0, .int .i64 0, .int .i64 0, .int .i64 0, .int .i64 0, .bool false, .int .i64 0, .bool false]
theorem Tryz.info67 : (Tryz.prog.info? 115).map (·.size) = some 14 := by kernel_rfl
theorem run_alloc67 (w : World) : (Instr.alloc 115 true (.tuple #[])).run Tryz.prog w = .ok (.pointer (some ⟨w.heap.size, 0, none⟩)) (w.alloc (.cells zeroD.toArray 115)) := by kernel_rfl
theorem dev_one {D : Dev} (g cap : Nat) : ∀ v ∈ devCells D g cap, v.oneCell' = true := by
  intro v hv
  simp only [devCells, List.mem_append, List.mem_cons, List.mem_map] at hv
  rcases hv with ((rfl | rfl | h) | ⟨x, _, rfl⟩) | rfl | rfl | rfl | rfl | h <;> first | rfl | simp at h

section
variable {ops : Array Oper} {rest : List Oper} {op : Oper} {a : Act} {w : World} {Q : Exit → Act → World → Prop}
theorem wpLoadD (hgd : op.guard = none) (x : Operand) (ho : op.op = .load 115 x) (b g cap : Nat) (D : Dev) (hok : D.Ok) (hx : a.eval x = P0 b) (hh : Head w b g cap D) (h : wpList Tryz.prog ops Q rest (a.put op.dst (devV D g cap)) w) : wpList Tryz.prog ops Q (op :: rest) a w :=
  wpList_load_mid (P := Tryz.prog) hgd 115 x ho b 0 hx (devCells D g cap) _ (fun j v hj => by rw [Nat.zero_add, cell_of_block hh, List.getElem?_toArray]; exact hj) Tryz.underlying115 rfl (by rw [devCells_len hok]; exact Tryz.info67) h
theorem wpAllocD (hgd : op.guard = none) (ho : op.op = .alloc 115) (h : wpList Tryz.prog ops Q rest (a.put op.dst (.pointer (some ⟨w.heap.size, 0, none⟩))) (w.alloc (.cells zeroD.toArray 115))) : wpList Tryz.prog ops Q (op :: rest) a w :=
  wpList_plain hgd fun K hK => by
    unfold Oper.wp execOp
    simp only [ho, Sem.run_bind, run_alloc67, Result.andThen_ok]
    exact hK _ _ h
theorem wpStoreD (hgd : op.guard = none) (x y : Operand) (ho : op.op = .store 115 x y) (b g cap : Nat) (D : Dev) (hok : D.Ok) (hx : a.eval x = P0 b) (hy : a.eval y = devV D g cap) (hA : w.there b 0 14) (h : wpList Tryz.prog ops Q rest (a.put op.dst undef) (w.setCells b 0 (devCells D g cap))) : wpList Tryz.prog ops Q (op :: rest) a w :=
  wpList_store_mid (P := Tryz.prog) hgd 115 x y ho b 0 (devCells D g cap).toArray hx hy (by simpa [devCells_len hok] using hA) (by simp only [List.size_toArray, devCells_len hok]; exact Tryz.info67) (all_oneCell_toArray (dev_one g cap)) h
end

theorem cells_slice (D : Dev) (g cap q cap' : Nat) : devCells D q cap' = (devCells D g cap).set 0 (.slice (some ⟨q, 0, none⟩) D.S.length cap') := by simp [devCells]

set_option maxHeartbeats 1000000 in
set_option maxRecDepth 100000 in
theorem copy21 (b g : Nat) (D : Dev) (w : World) (h : Dv w b g D) :
    Calls Tryz.prog 18 #[P0 b] w fun e w' => ∃ b2 g2, e = .returned (P0 b2) ∧ w.heap.size ≤ b2 ∧ w.heap.size ≤ g2 ∧ Dv w' b2 g2 D ∧ Kept [] w w' := by
  have hok := h.ok
  have hlt := h.lt
  obtain ⟨cap, hh, hbd⟩ := h.lay
  have hN := hide (none_no b g D w h)
  have hZ : Hid ((w.alloc (.cells zeroD.toArray 115)).heap[w.heap.size]? = some (.cells zeroD.toArray 115 (0, 0))) := heap_new rfl
  have hth : Hid ((w.alloc (.cells zeroD.toArray 115)).there w.heap.size 0 14) := fun j hj => ⟨by rw [cell_of_block (unhide hZ), Nat.zero_add, List.getElem?_toArray, List.getElem?_eq_getElem (by simpa [zeroD] using hj)]; rfl, frozen_of_block (unhide hZ) _⟩
  have hkW : Kept [] w ((w.alloc (.cells zeroD.toArray 115)).setCells w.heap.size 0 (devCells D g cap)) := ((Kept.refl _ _).alloc _).setCells _ _ (by omega)
  have hHz : Hid (((w.alloc (.cells zeroD.toArray 115)).setCells w.heap.size 0 (devCells D g cap)).heap[w.heap.size]? = some (.cells (devCells D g cap).toArray 115 (0, 0))) := by
    have := heap_sets (b := w.heap.size) (t := 115) (p := (0, 0)) (devCells D g cap) (w.alloc (.cells zeroD.toArray 115)) 0 [] zeroD [] (by simpa using unhide hZ) rfl (by rw [devCells_len hok]; rfl)
    show _ = _
    rw [this]; simp
  have hDW := h.kept hkW (by simp) (by simp)
  obtain ⟨ex, hb1, hb2, hb3, hb4⟩ := hbd
  have hC := hide (cloneSs (some ⟨g, 0, none⟩) D.S.length cap D.S _ ((secs_block hok.sec rfl hb1 cap hb2).kept hkW (fun _ _ _ => by simp)) (by have := hok.s0; omega) (by have := hok.s1; omega))
  have hc0 : ((w.alloc (.cells zeroD.toArray 115)).setCells w.heap.size 0 (devCells D g cap)).cell? ⟨b, 0, none⟩ = some (.slice (some ⟨g, 0, none⟩) D.S.length cap) := hkW.cell (hh.cells hok).1 (by simp)
  have HH := hide hh
  clear hh hDW
  go_enter Tryz.func18, Tryz.ntmps18
  go_wp2_with fail
  refine (unhide hN).mono ?_
  rintro e w' ⟨rfl, hww⟩
  obtain rfl := hww.symm
  go_wp2_with (first | (refine wpLoadD rfl (.tmp 7) rfl b g cap D hok rfl (unhide HH) ?_) | (refine wpAllocD rfl rfl ?_) | (refine wpStoreD rfl (.tmp 3) (.tmp 8) rfl w.heap.size g cap D hok rfl rfl (unhide hth) ?_))
  refine (unhide hC).mono ?_
  rintro e w2 ⟨q, cap2, ex2, rfl, hq1, hq2, hq3, hq4, hq5, hk2⟩
  have hz2 := hk2.heap (unhide hHz) (by simp)
  have hcz : w2.cell? ⟨w.heap.size, 0, none⟩ = some (.slice (some ⟨g, 0, none⟩) D.S.length cap) := by rw [cell_of_block hz2]; simp [devCells]
  have hfz : w2.frozen? ⟨w.heap.size, 0, none⟩ = false := frozen_of_block hz2 0
  have hsz := hkW.size
  have hzl : w.heap.size < ((w.alloc (.cells zeroD.toArray 115)).setCells w.heap.size 0 (devCells D g cap)).heap.size := lt_of_block (unhide hHz)
  have hkk : Hid (Kept [] w w2) := hkW.trans hk2
  have HZ := hide hz2
  have HQ := hide hq2
  clear hC hN hZ hth hHz hc0 hk2 hz2 hq2 hkW
  go_wp2_with fail
  go_ret
  refine ⟨w.heap.size, q, rfl, Nat.le_refl _, by omega, ⟨hok, by omega, cap2, ?_, ex2, ?_, hq3, hq4, hq5⟩, (unhide hkk).setCell (by simp) _⟩
  · unfold Head
    rw [heap_set (unhide HZ), cells_slice D g cap q cap2, List.setIfInBounds_toArray]
  · exact heap_set_ne (unhide HQ) (by omega)

end Go.Proofs.YtcfflbafclmheaaGreatDoor.Dv

/-
  The walk of Bytes.
-/
namespace Go.Proofs.YtcfflbafclmheaaGreatDoor.Dv
set_option maxRecDepth 100000
open Go.RowKit Go.Shelf
attribute [local go_sem] Oper.semAt_some

theorem all40 (o : Option Addr) (w : World) : Calls Tryz.prog 53 #[.pointer o] w fun e w' => e = .returned (.func (.func 114) #[] #[P0 w.heap.size]) ∧ w' = w.alloc (.cells #[.pointer o] 32) := by
  go_enter Tryz.func53, Tryz.ntmps53
  go_wp2
  go_ret
  exact ⟨rfl, rfl⟩
theorem keepsFrom_of_kept {B : Nat} {W W' : World} (h : Kept [] W W') : KeepsFrom B W W' := (KeepsOthers.of_grownBy (grown_of_kept h) (fun _ _ e => by cases e)).from B
section
variable {ops : Array Oper} {o : Oper} {a : Act} {w : World} {K : Act → World → Prop} {Q : Exit → Act → World → Prop}
theorem wpOp_of {P : Program} {i : Nat} (ho : ops[i]? = some o) (hg : o.guard = none) (h : o.wp P a w K Q) : wpOp P ops Q i K a w := by
  unfold wpOp
  rw [ho]
  have hw : Region.wanted o (yielded ops a.tmps) = true := by simp [Region.wanted, hg]
  simp only [hw, if_true]
  exact .inl h
theorem wp_load42 (x : Operand) (ho : o.op = .load 45 x) (b : Nat) (v : Value) (hx : a.eval x = P0 b) (hc : w.cell? ⟨b, 0, none⟩ = some v) (h : K (a.put o.dst v) w) : o.wp Tryz.prog a w K Q := by
  unfold Oper.wp execOp
  simp only [ho, hx]
  simp [go_sem, hc]
  exact h
theorem wp_slice38 (x : Operand) (ho : o.op = .slice 59 x none none none) (b : Nat) (hx : a.eval x = P0 b) (h : K (a.put o.dst (.slice (some ⟨b, 0, none⟩) 64 64)) w) : o.wp Tryz.prog a w K Q := by
  unfold Oper.wp execOp
  simp only [ho, hx]
  simp [go_sem]
  exact h
theorem wp_store42 (x y : Operand) (ho : o.op = .store 45 x y) (b : Nat) (v : Value) (ao : Option Addr) (m c : Nat) (hx : a.eval x = P0 b) (hy : a.eval y = .slice ao m c) (hc : w.cell? ⟨b, 0, none⟩ = some v) (hf : w.frozen? ⟨b, 0, none⟩ = false) (h : K (a.put o.dst undef) (w.setCell ⟨b, 0, none⟩ (.slice ao m c))) : o.wp Tryz.prog a w K Q := by
  unfold Oper.wp execOp
  simp only [ho, hx, hy]
  simp [go_sem, hc, hf]
  exact h
end

/-- The bytes that came. -/
def flatR (pre : List Row) : List Int := (pre.map Row.s).flatten
theorem flatR_snoc (pre : List Row) (x : Row) : flatR (pre ++ [x]) = flatR pre ++ x.s := by simp [flatR]
theorem flatR_len (pre : List Row) : (flatR pre).length = pre.length * 64 := by
  unfold flatR
  have := flat_len (S := pre.map Row.s) (by intro s hs; obtain ⟨x, _, rfl⟩ := List.mem_map.1 hs; exact x.h)
  rw [this, List.length_map]

/-- What Bytes holds between two rounds. -/
def BI (w : World) (pre : List Row) (W : World) : Prop := ∃ v, W.heap[w.heap.size]? = some (.cells #[v] 45 (0, 0)) ∧ W.ownsRow w.heap.size 5 1 v (flatR pre).length (u8s (flatR pre)) ∧ v.ownBlock ≠ some w.heap.size ∧ Kept [] w W
/-- Where the loop's variable lies. -/
def BA (a0 : Nat → Act) (x : Row) (a' : Act) (W : World) : Prop := ∃ q, W.heap[q]? = some (.cells (u8s x.s).toArray 59 (0, 0)) ∧ a' = a0 q

theorem owns_turn {W W' : World} {row : Option Nat} {base n : Nat} {v : Value} {xs : List Value} (h : W.ownsRow base 5 1 v n xs) (hg : W.grownBy W' row) (hr : ∀ r, row = some r → ∃ o : Obj, W.heap[r]? = some o ∧ o.isCells = false) : W'.ownsRow base 5 1 v n xs := by
  refine ⟨h.1, ?_⟩
  rcases h.2 with h1 | ⟨g, cap, cur, e, h2, h3, h4⟩
  · exact .inl h1
  · exact .inr ⟨g, cap, cur, e, h2, cells_kept h3 hg hr, h4⟩
theorem BI.own {w : World} {B : Nat} (hB : w.heap.size ≤ B) : OwnFrom B (BI w) := by
  intro pre W W' row hs hg hr
  obtain ⟨v, h1, h2, h3, h4⟩ := hs
  exact ⟨v, cells_kept h1 hg (fun r e => (hr r e).2), owns_turn h2 hg (fun r e => (hr r e).2), h3, kept_kept (B := B) h4 hg hB (fun r e => (hr r e).1)⟩
theorem BI.quiet {w W W' : World} {pre : List Row} (h : BI w pre W) (hk : Kept [] W W') : BI w pre W' := by
  obtain ⟨v, h1, h2, h3, h4⟩ := h
  exact ⟨v, hk.heap h1 (by simp), h2.kept (grown_of_kept hk) (by cases v.ownBlock <;> simp), h3, h4.trans hk⟩

end Go.Proofs.YtcfflbafclmheaaGreatDoor.Dv

/-
  The walk of the document's New.
-/
namespace Go.Proofs.YtcfflbafclmheaaGreatDoor.Dv
set_option maxRecDepth 100000
open Go.RowKit

theorem Tryz.zero2 : (Tryz.prog.info? 2).map (fun i => (i.zero, i.size, i.bytes)) = some (some (.int .i64 0), 1, 8) := by kernel_rfl
theorem made_zeros (n : Nat) : madeCells #[Value.int .i64 0] n = Array.replicate n (Value.int .i64 0) := by
  have := made_same 1 (Value.int .i64 0) n (by decide)
  simpa using this

theorem run_makeS (w : World) (n : Nat) (hn : n ≤ 2199023255552) : Sem.run Tryz.prog (Instr.makeSlice 60 (.int .i64 n) (.int .i64 n)) w = .ok (.slice (some ⟨w.heap.size, 0, none⟩) n n) (w.alloc (.cells (u8s (noughts n).flatten).toArray 59)) := by
  obtain ⟨i0, hi, hz0, hz1, hz2⟩ := info_parts Tryz.zero38
  have hr := run_make (P := Tryz.prog) w 60 59 i0 (secV nought) Tryz.underlying60 hi hz0 .i64 .i64 n n (by omega) (by omega) (by rw [hz2]; omega) (by omega)
  have hc : (secV nought).cells = (u8s nought).toArray := rfl
  rw [hz1, Int.toNat_natCast, hc, made_noughts] at hr
  exact hr
theorem run_makeE (w : World) (n : Nat) (hn : n ≤ 2199023255552) : Sem.run Tryz.prog (Instr.makeSlice 61 (.int .i64 n) (.int .i64 n)) w = .ok (.slice (some ⟨w.heap.size, 0, none⟩) n n) (w.alloc (.cells (Array.replicate n (Value.int .i64 0)) 2)) := by
  obtain ⟨i0, hi, hz0, hz1, hz2⟩ := info_parts Tryz.zero2
  have hr := run_make (P := Tryz.prog) w 61 2 i0 (.int .i64 0) Tryz.underlying61 hi hz0 .i64 .i64 n n (by omega) (by omega) (by rw [hz2]; omega) (by omega)
  have hc : (Value.int .i64 0).cells = #[Value.int .i64 0] := rfl
  rw [hz1, Int.toNat_natCast, hc, Nat.mul_one, made_zeros] at hr
  exact hr

theorem r_new_no (x y : Int) (w : World) (h : newB x y = false) : Calls Tryz.prog 36 #[.int .i64 x, .int .i64 y] w fun e w' => e = .returned (.pointer none) ∧ w' = w := by
  have h' : ¬ ((1 ≤ x ∧ x ≤ 4096) ∧ 1 ≤ y ∧ y ≤ 8) := by simpa [newB] using h
  clear h
  go_enter Tryz.func36, Tryz.ntmps36
  go_wp2_with fail
  all_goals first | (go_ret; exact ⟨rfl, rfl⟩) | (exfalso; omega)

theorem take_zeros {N : Nat} (h : N ≤ 8) : (List.replicate 8 (0 : Int)).take N = List.replicate N 0 := by
  rw [List.take_replicate, Nat.min_eq_left h]

theorem rv_new {w : World} {n N r sg eg : Nat} (hn : 1 ≤ n ∧ n ≤ 4096) (hN : 1 ≤ N ∧ N ≤ 8) (hne : r ≠ sg ∧ r ≠ eg ∧ sg ≠ eg)
    (h1 : w.heap[r]? = some (.cells #[.slice (some ⟨sg, 0, none⟩) n n, .slice (some ⟨eg, 0, none⟩) N N, .int .i64 (-1), .bool false, .int .i64 0] 110 (0, 0)))
    (h2 : w.heap[sg]? = some (.cells (u8s (noughts n).flatten).toArray 59 (0, 0))) (h3 : w.heap[eg]? = some (.cells (Array.replicate N (Value.int .i64 0)) 2 (0, 0))) : Rv w r sg eg (newDev n N) := by
  refine ⟨newDev_ok hn hN, hne, n, N, [], ?_, ⟨[], ?_, ?_, ?_, ?_⟩, ?_, Nat.le_refl _⟩
  · rw [h1]; simp [refCells, newDev, noughts_len, Dev.rleft]
  · rw [List.append_nil]; exact h2
  · simp [newDev, noughts_len]
  · simp [newDev, noughts_len]
  · unfold maxLen; omega
  · rw [h3]
    simp only [newDev, take_zeros hN.2, List.append_nil, List.map_replicate]
    simp

set_option maxHeartbeats 1000000 in
set_option maxRecDepth 100000 in
theorem r_new_yes (n N : Nat) (w : World) (h : newB n N = true) : Calls Tryz.prog 36 #[.int .i64 n, .int .i64 N] w fun e w' => ∃ r sg eg, e = .returned (P0 r) ∧ w.heap.size ≤ r ∧ w.heap.size ≤ sg ∧ w.heap.size ≤ eg ∧ Rv w' r sg eg (newDev n N) ∧ Kept [] w w' := by
  have h' : (1 ≤ (n : Int) ∧ (n : Int) ≤ 4096) ∧ 1 ≤ (N : Int) ∧ (N : Int) ≤ 8 := by simpa [newB] using h
  have a1 := h'.1.1
  have a2 := h'.1.2
  have a3 := h'.2.1
  have a4 := h'.2.2
  clear h h'
  go_enter Tryz.func36, Tryz.ntmps36
  go_wp2_with fail
  have m1 := run_makeS w.drew n (by omega)
  have m2 := run_makeE w.drew N (by omega)
  have m3 := run_makeE (w.alloc (.cells (u8s (noughts n).flatten).toArray 59)).drew N (by omega)
  have m4 := run_makeS (w.alloc (.cells (Array.replicate N (Value.int .i64 0)) 2)).drew n (by omega)
  go_region
  all_goals (clear m1 m2 m3 m4; go_wp2_with fail)
  · go_ret
    refine ⟨w.heap.size + 1 + 1, w.heap.size, w.heap.size + 1, rfl, by omega, by omega, by omega, rv_new (by omega) (by omega) (by omega) ?_ ?_ ?_, ((((Kept.refl _ _).alloc _).alloc _).alloc _).drew⟩
    · exact heap_new (by simp)
    · exact heap_alloc_old (heap_alloc_old (heap_new rfl))
    · exact heap_alloc_old (heap_new (by simp))
  · go_ret
    refine ⟨w.heap.size + 1 + 1, w.heap.size + 1, w.heap.size, rfl, by omega, by omega, by omega, rv_new (by omega) (by omega) (by omega) ?_ ?_ ?_, ((((Kept.refl _ _).alloc _).alloc _).alloc _).drew⟩
    · exact heap_new (by simp)
    · exact heap_alloc_old (heap_new (by simp))
    · exact heap_alloc_old (heap_alloc_old (heap_new rfl))

end Go.Proofs.YtcfflbafclmheaaGreatDoor.Dv

/-
  The document's device for a job, all nodes up (NewRef).
-/
namespace Go.Proofs.YtcfflbafclmheaaGreatDoor
set_option maxRecDepth 100000
set_option linter.unusedSimpArgs false
open Go.RowKit
open Le (Mm wpStoreM wpStoreM1)


/-- What is known in the region that makes it. -/
@[reducible] def S11 (w V : World) (D : Dv.Dev) (d : Nat → Bool) (vs : Nat → Value) (W : World) : Prop :=
  Kept [] V W ∧ ∃ r sg eg : Nat, (d 4 = true → vs 4 = P0 r ∧ (w.heap.size ≤ r ∧ w.heap.size ≤ sg ∧ w.heap.size ≤ eg) ∧ Dv.Rv W r sg eg D) ∧ (d 5 = true → vs 5 = P0 r)
theorem S11.loc {w V : World} {D : Dv.Dev} : ∀ d d' vs vs' W, (∀ i ∈ [4, 5], d i = d' i ∧ vs i = vs' i) → S11 w V D d vs W → S11 w V D d' vs' W := by
  intro d d' vs vs' W H h
  have e0 := H 4 (by simp)
  have e1 := H 5 (by simp)
  unfold S11 at h ⊢
  rw [← e0.1, ← e0.2, ← e1.1, ← e1.2]
  exact h
theorem cg36 (vs : Array Value) (w : World) : (callFunc 36 vs).run Tryz.prog w = .ok (.enter 36 vs) w := by kernel_rfl
theorem rv_ne {w : World} {r sg eg q : Nat} {D : Dv.Dev} {vs : List Value} {T : Nat} (h : Dv.Rv w r sg eg D) (hb : Blk w q T vs) (h1 : T ≠ 110) (h2 : T ≠ 59) (h3 : T ≠ 2) : q ∉ [r, sg, eg] := by
  obtain ⟨cap, ecap, ex, a1, ⟨ex', a2, _⟩, a3, _⟩ := h.lay
  unfold Blk at hb
  intro hm
  simp only [List.mem_cons, List.not_mem_nil, or_false] at hm
  rcases hm with rfl | rfl | rfl
  · rw [hb] at a1
    injection a1 with a1
    injection a1 with _ a1
    exact h1 a1
  · rw [hb] at a2
    injection a2 with a2
    injection a2 with _ a2
    exact h2 a2
  · rw [hb] at a3
    injection a3 with a3
    injection a3 with _ a3
    exact h3 a3
set_option maxHeartbeats 4000000 in
theorem newRef11 (J : Ar.Job) (hm : J.may = true) (w : World) : Calls Tryz.prog 11 #[aggV (Ar.jobC J)] w fun e w' => ∃ r sg eg, e = .returned (P0 r) ∧ (w.heap.size ≤ r ∧ w.heap.size ≤ sg ∧ w.heap.size ≤ eg) ∧ Dv.Rv w' r sg eg (ups (Dv.newDev J.sectors.1.toNat J.n.toNat) J.n.toNat) ∧ Kept [] w w' := by
  have P25 := hide (fun W => rsect25 J hm W)
  obtain ⟨n, hn⟩ : ∃ x, x = J.sectors.1.toNat := ⟨_, rfl⟩
  obtain ⟨N, hN⟩ : ∃ x, x = J.n.toNat := ⟨_, rfl⟩
  obtain ⟨D, hDd⟩ : ∃ x, x = Dv.newDev n N := ⟨_, rfl⟩
  have HDD : Hid (D = Dv.newDev n N) := hDd
  have hsec : (n : Int) = J.sectors.1 ∧ 1 ≤ n ∧ n ≤ 4096 := by
    have h9 := hm
    simp only [Ar.Job.may, decide_eq_true_eq] at h9
    have h1 : J.n * (1 + 2 * J.l) ≤ 8 * 129 := Int.mul_le_mul (by omega) (by omega) (by omega) (by omega)
    have h2 : 0 ≤ J.n * (1 + 2 * J.l) := Int.mul_nonneg (by omega) (by omega)
    have e : J.sectors.1 = J.p * 2 + (J.n * (1 + 2 * J.l) + 9) := by unfold Ar.Job.sectors Ar.Job.L; rw [if_pos hm]
    rw [e] at hn ⊢
    omega
  simp only [Ar.Job.may, decide_eq_true_eq] at hm
  have hNn : (N : Int) = J.n := by omega
  have HNB : Hid (Dv.newB n N = true) := by
    show _ = _
    simp only [Dv.newB, decide_eq_true_eq]
    omega
  rw [← hsec.1] at P25
  rw [← hn, ← hN, ← hDd]
  have hN8 : N ≤ 8 := by omega
  have HNN := hide hNn
  clear hn hN hDd hsec hm hNn
  go_enter Tryz.func11, Tryz.ntmps11
  go_wp2_with (
    first
    | (refine wpBoxV (by rfl) (.tmp 0) (by rfl) (Ar.jobC J) (by kernel_rfl) ?_
       intro V q1b e1 B1 K1
       have H1 := hide B1
       have HK := hide K1
       have HCN : Hid (V.cell? ⟨q1b, 0, none⟩ = some (.int .i64 (N : Int))) := by show _ = _; rw [unhide HNN]; exact fits_cell B1 0 _ rfl
       have HG1 : Hid (w.heap.size ≤ q1b) := by rw [e1]; exact (Nat.le_refl _ : w.heap.size ≤ w.heap.size)
       clear e1 B1 K1
       refine Stp.go ?_))
  constructor
  go_wp2_with fail
  refine wp_region_any mixed (wpAny_gx 6 rfl (by kernel_rfl) [some (aggV (Ar.jobC J)), some (.int .i64 (n : Int)), some (.pointer (some ⟨q1b, 0, none⟩)), some (.int .i64 (N : Int)), none, none] rfl (by kernel_rfl) (fun l_ vs W => (S11 w V D) (fun i => l_.getD i false) vs W) (⟨⟨rfl, rfl, rfl, Nat.le_refl _, fun _ _ _ => rfl⟩, 0, 0, 0, (fun h => by cases h), fun h => by cases h⟩) ?_ ?_)
  · intro ix o' hi ho a' w2 l_ vs hls hlf hJ hout hin hdep hnot
    match ix, ho with
    | 0, ho =>
      obtain rfl := Option.some.inj ho
      have e0 := hout 1 (by kernel_rfl)
      replace e0 : a'.eval (.tmp 1) = _ := e0.trans rfl
      exact wp_loadA jrow (.tmp 1) rfl q1b 0 e0 (Ar.jobC J) rfl ((unhide H1).kept hJ.1 (by simp)).range ⟨_, rfl, told_of rfl, Le.keepG (St := (S11 w V D)) [4, 5] S11.loc (by omega) (by decide) hJ⟩
    | 1, ho =>
      obtain rfl := Option.some.inj ho
      have e0 : a'.eval (.tmp 5) = aggV (Ar.jobC J) := by have h9 := hin 0 5 (by kernel_rfl) (by kernel_rfl); exact h9.1.trans (told_is _ h9.2 rfl)
      refine wp_callF 25 _ _ rfl #[aggV (Ar.jobC J)] (by simp [e0]) (cg25 _ _) ((unhide P25 w2).mono ?_)
      rintro e w3 ⟨rfl, hk3⟩
      obtain ⟨hk0, r, sg, eg, g1, g2⟩ := hJ
      exact ⟨_, rfl, _, rfl, told_of rfl, Le.keepG (St := (S11 w V D)) [4, 5] S11.loc (by omega) (by decide) ⟨hk0.trans hk3, r, sg, eg, (fun h => by obtain ⟨q1, q2, q4⟩ := g1 h; exact ⟨q1, q2, q4.kept hk3 (by simp) (by simp) (by simp)⟩), g2⟩⟩
    | 2, ho =>
      obtain rfl := Option.some.inj ho
      have e0 := hout 1 (by kernel_rfl)
      replace e0 : a'.eval (.tmp 1) = _ := e0.trans rfl
      exact o_fldJ_0 (.tmp 1) rfl _ e0 ⟨_, rfl, told_of rfl, Le.keepG (St := (S11 w V D)) [4, 5] S11.loc (by omega) (by decide) hJ⟩
    | 3, ho =>
      obtain rfl := Option.some.inj ho
      have e0 : a'.eval (.tmp 7) = .pointer (some ⟨q1b, 0, none⟩) := by have h9 := hin 2 7 (by kernel_rfl) (by kernel_rfl); exact h9.1.trans (told_is _ h9.2 rfl)
      exact Ar.o_load3 (.tmp 7) rfl _ _ e0 (hJ.1.cell (unhide HCN) (by simp)) ⟨_, rfl, told_of rfl, Le.keepG (St := (S11 w V D)) [4, 5] S11.loc (by omega) (by decide) hJ⟩
    | 4, ho =>
      obtain rfl := Option.some.inj ho
      have e0 : a'.eval (.tmp 6) = .int .i64 (n : Int) := by have h9 := hin 1 6 (by kernel_rfl) (by kernel_rfl); exact h9.1.trans (told_is _ h9.2 rfl)
      have e1 : a'.eval (.tmp 8) = .int .i64 (N : Int) := by have h9 := hin 3 8 (by kernel_rfl) (by kernel_rfl); exact h9.1.trans (told_is _ h9.2 rfl)
      refine wp_callF 36 _ _ rfl #[.int .i64 (n : Int), .int .i64 (N : Int)] (by simp [e0, e1]) (cg36 _ _) ((Dv.r_new_yes n N w2 (unhide HNB)).mono ?_)
      rintro e w3 ⟨r, sg, eg, rfl, hb3, hg3, he3, hD3, hk3⟩
      have hw2 : w.heap.size ≤ w2.heap.size := Nat.le_trans (unhide HK).size hJ.1.size
      exact ⟨_, rfl, _, rfl, told_no rfl, Le.nextG (St := (S11 w V D)) (by omega) ⟨hJ.1.trans hk3, r, sg, eg, (fun _ => ⟨rfl, ⟨by omega, by omega, by omega⟩, by rw [unhide HDD]; exact hD3⟩), (fun h => by have h9 : l_.getD 5 false = true := h; rw [hnot 5 (by kernel_rfl)] at h9; cases h9)⟩⟩
    | 5, ho =>
      obtain rfl := Option.some.inj ho
      have e0 : a'.eval (.tmp 9) = vs 4 := (hin 4 9 (by kernel_rfl) (by kernel_rfl)).1
      obtain ⟨hk0, r, sg, eg, g1, g2⟩ := hJ
      exact wp_assignV (.tmp 9) rfl _ e0 ⟨_, rfl, told_no rfl, Le.nextG (St := (S11 w V D)) (by omega) ⟨hk0, r, sg, eg, (fun h => g1 h), (fun _ => (g1 (hdep 4 (by kernel_rfl))).1)⟩⟩
  intro l_ vs9 V9 hl hJ htold
  have t0 : vs9 0 = aggV (Ar.jobC J) := told_is _ (htold 0 (by decide)) rfl
  have t1 : vs9 1 = .int .i64 (n : Int) := told_is _ (htold 1 (by decide)) rfl
  have t2 : vs9 2 = .pointer (some ⟨q1b, 0, none⟩) := told_is _ (htold 2 (by decide)) rfl
  have t3 : vs9 3 = .int .i64 (N : Int) := told_is _ (htold 3 (by decide)) rfl
  rw [show (List.range 6).map vs9 = [vs9 0, vs9 1, vs9 2, vs9 3, vs9 4, vs9 5] from rfl]
  simp only [t0, t1, t2, t3, putAll, Act.put, List.setIfInBounds_toArray, List.set_cons_succ, List.set_cons_zero]
  clear t0 t1 t2 t3 htold
  obtain ⟨hk0, r, sg, eg, g1, g2⟩ := hJ
  obtain ⟨g5, hb9, hD9⟩ := g1 (hl 4 (by decide))
  rw [g5, g2 (hl 5 (by decide))]
  have HD9 := hide hD9
  have HB9 := hide hb9
  have HC9 : Hid (V9.cell? ⟨q1b, 0, none⟩ = some (.int .i64 (N : Int))) := hk0.cell (unhide HCN) (by simp)
  have HNE : Hid (q1b ∉ [r, eg]) := fun hm => rv_ne hD9 ((unhide H1).kept hk0 (by simp)) (by decide) (by decide) (by decide) (by simp at hm ⊢; omega)
  replace HK := hide ((unhide HK).trans hk0)
  clear hk0 g1 g2 g5 hl hb9 hD9 HCN H1 P25
  go_wp2_with fail
  go_loopw [4] (fun i wr => ∃ k : Nat, k ≤ N ∧ i = .int .i64 k ∧ Hid (Dv.Rv wr r sg eg (ups D k)) ∧ Hid (wr.cell? ⟨q1b, 0, none⟩ = some (.int .i64 (N : Int))) ∧ Hid (Kept [] w wr)) (fun i _ => N - (intOf i).toNat)
  case atStart => exact ⟨0, by omega, rfl, HD9, HC9, HK⟩
  case round =>
    clear HD9 HC9 HK
    obtain ⟨k, hkN, rfl, RD, RC, RK⟩ := hrel
    have hcn := unhide RC
    by_cases hlt : k < N
    · have P19 := hide (Dv.r_up r sg eg (ups D k) k wr (unhide RD))
      go_wp2_with (
        first
        | (go_at_call 23
           refine (unhide P19).mono ?_
           rintro e W8 ⟨rfl, hD8, hk8⟩
           have HD8 := hide hD8
           have HC8 : Hid (W8.cell? ⟨q1b, 0, none⟩ = some (.int .i64 (N : Int))) := hk8.cell hcn (unhide HNE)
           have HK8 : Hid (Kept [] w W8) := (unhide RK).fresh hk8 (fun i hi hl => by have := unhide HB9; simp at hi; omega)
           clear hD8 hk8))
      go_roundw
      case rel => exact ⟨k + 1, by omega, by go_num, HD8, HC8, HK8⟩
      case measure => simp [intOf]; omega
    · obtain rfl : k = N := by omega
      go_wp2_with fail
      go_ret
      exact ⟨r, sg, eg, rfl, unhide HB9, unhide RD, unhide RK⟩

end Go.Proofs.YtcfflbafclmheaaGreatDoor

/-
  The document's May of a job; who may write.
-/
namespace Go.Proofs.YtcfflbafclmheaaGreatDoor
set_option maxRecDepth 100000
set_option linter.unusedSimpArgs false
open Go.RowKit
open Le (Mm wpStoreM wpStoreM1)

set_option maxHeartbeats 2000000 in
theorem rmay_0 (J : Ar.Job) (w : World) (c0 : decide ((2 : Int) ≤ J.n) = false) : Calls Tryz.prog 8 #[aggV (Ar.jobC J)] w fun e w' => e = .returned (.bool false) ∧ Kept [] w w' := by
  have d0 := of_decide_eq_false c0
  go_enter Tryz.func8, Tryz.ntmps8
  go_wp2_with (
    first
    | (refine wpBoxV (by rfl) (.tmp 0) (by rfl) (Ar.jobC J) (by kernel_rfl) ?_
       intro V1 b1 e1 B1 K1
       have HK := hide K1
       have f0 := fits_cell B1 0 (.int .i64 J.n) rfl
       have f1 := fits_cell B1 1 (.int .i64 J.p) rfl
       have f2 := fits_cell B1 2 (.int .i64 J.f) rfl
       have f3 := fits_cell B1 3 (.int .i64 J.l) rfl
       have f4 := fits_cell B1 4 (.int .i64 J.t) rfl
       clear e1 B1 K1
       refine Stp.go ?_))
  constructor
  go_wp2_with fail
  go_ret
  exact ⟨rfl, unhide HK⟩
set_option maxHeartbeats 2000000 in
theorem rmay_1 (J : Ar.Job) (w : World) (c0 : decide ((2 : Int) ≤ J.n) = true) (c1 : decide (J.n ≤ 8) = false) : Calls Tryz.prog 8 #[aggV (Ar.jobC J)] w fun e w' => e = .returned (.bool false) ∧ Kept [] w w' := by
  have d0 := of_decide_eq_true c0
  have d1 := of_decide_eq_false c1
  go_enter Tryz.func8, Tryz.ntmps8
  go_wp2_with (
    first
    | (refine wpBoxV (by rfl) (.tmp 0) (by rfl) (Ar.jobC J) (by kernel_rfl) ?_
       intro V1 b1 e1 B1 K1
       have HK := hide K1
       have f0 := fits_cell B1 0 (.int .i64 J.n) rfl
       have f1 := fits_cell B1 1 (.int .i64 J.p) rfl
       have f2 := fits_cell B1 2 (.int .i64 J.f) rfl
       have f3 := fits_cell B1 3 (.int .i64 J.l) rfl
       have f4 := fits_cell B1 4 (.int .i64 J.t) rfl
       clear e1 B1 K1
       refine Stp.go ?_))
  constructor
  go_wp2_with fail
  go_ret
  exact ⟨rfl, unhide HK⟩
set_option maxHeartbeats 2000000 in
theorem rmay_2 (J : Ar.Job) (w : World) (c0 : decide ((2 : Int) ≤ J.n) = true) (c1 : decide (J.n ≤ 8) = true) (c2 : decide ((1 : Int) ≤ J.p) = false) : Calls Tryz.prog 8 #[aggV (Ar.jobC J)] w fun e w' => e = .returned (.bool false) ∧ Kept [] w w' := by
  have d0 := of_decide_eq_true c0
  have d1 := of_decide_eq_true c1
  have d2 := of_decide_eq_false c2
  go_enter Tryz.func8, Tryz.ntmps8
  go_wp2_with (
    first
    | (refine wpBoxV (by rfl) (.tmp 0) (by rfl) (Ar.jobC J) (by kernel_rfl) ?_
       intro V1 b1 e1 B1 K1
       have HK := hide K1
       have f0 := fits_cell B1 0 (.int .i64 J.n) rfl
       have f1 := fits_cell B1 1 (.int .i64 J.p) rfl
       have f2 := fits_cell B1 2 (.int .i64 J.f) rfl
       have f3 := fits_cell B1 3 (.int .i64 J.l) rfl
       have f4 := fits_cell B1 4 (.int .i64 J.t) rfl
       clear e1 B1 K1
       refine Stp.go ?_))
  constructor
  go_wp2_with fail
  go_ret
  exact ⟨rfl, unhide HK⟩
set_option maxHeartbeats 2000000 in
theorem rmay_3 (J : Ar.Job) (w : World) (c0 : decide ((2 : Int) ≤ J.n) = true) (c1 : decide (J.n ≤ 8) = true) (c2 : decide ((1 : Int) ≤ J.p) = true) (c3 : decide (J.p ≤ 16) = false) : Calls Tryz.prog 8 #[aggV (Ar.jobC J)] w fun e w' => e = .returned (.bool false) ∧ Kept [] w w' := by
  have d0 := of_decide_eq_true c0
  have d1 := of_decide_eq_true c1
  have d2 := of_decide_eq_true c2
  have d3 := of_decide_eq_false c3
  go_enter Tryz.func8, Tryz.ntmps8
  go_wp2_with (
    first
    | (refine wpBoxV (by rfl) (.tmp 0) (by rfl) (Ar.jobC J) (by kernel_rfl) ?_
       intro V1 b1 e1 B1 K1
       have HK := hide K1
       have f0 := fits_cell B1 0 (.int .i64 J.n) rfl
       have f1 := fits_cell B1 1 (.int .i64 J.p) rfl
       have f2 := fits_cell B1 2 (.int .i64 J.f) rfl
       have f3 := fits_cell B1 3 (.int .i64 J.l) rfl
       have f4 := fits_cell B1 4 (.int .i64 J.t) rfl
       clear e1 B1 K1
       refine Stp.go ?_))
  constructor
  go_wp2_with fail
  go_ret
  exact ⟨rfl, unhide HK⟩
set_option maxHeartbeats 2000000 in
theorem rmay_4 (J : Ar.Job) (w : World) (c0 : decide ((2 : Int) ≤ J.n) = true) (c1 : decide (J.n ≤ 8) = true) (c2 : decide ((1 : Int) ≤ J.p) = true) (c3 : decide (J.p ≤ 16) = true) (c4 : decide ((1 : Int) ≤ J.f) = false) : Calls Tryz.prog 8 #[aggV (Ar.jobC J)] w fun e w' => e = .returned (.bool false) ∧ Kept [] w w' := by
  have d0 := of_decide_eq_true c0
  have d1 := of_decide_eq_true c1
  have d2 := of_decide_eq_true c2
  have d3 := of_decide_eq_true c3
  have d4 := of_decide_eq_false c4
  go_enter Tryz.func8, Tryz.ntmps8
  go_wp2_with (
    first
    | (refine wpBoxV (by rfl) (.tmp 0) (by rfl) (Ar.jobC J) (by kernel_rfl) ?_
       intro V1 b1 e1 B1 K1
       have HK := hide K1
       have f0 := fits_cell B1 0 (.int .i64 J.n) rfl
       have f1 := fits_cell B1 1 (.int .i64 J.p) rfl
       have f2 := fits_cell B1 2 (.int .i64 J.f) rfl
       have f3 := fits_cell B1 3 (.int .i64 J.l) rfl
       have f4 := fits_cell B1 4 (.int .i64 J.t) rfl
       clear e1 B1 K1
       refine Stp.go ?_))
  constructor
  go_wp2_with fail
  go_ret
  exact ⟨rfl, unhide HK⟩
set_option maxHeartbeats 2000000 in
theorem rmay_5 (J : Ar.Job) (w : World) (c0 : decide ((2 : Int) ≤ J.n) = true) (c1 : decide (J.n ≤ 8) = true) (c2 : decide ((1 : Int) ≤ J.p) = true) (c3 : decide (J.p ≤ 16) = true) (c4 : decide ((1 : Int) ≤ J.f) = true) (c5 : decide (J.f ≤ 16) = false) : Calls Tryz.prog 8 #[aggV (Ar.jobC J)] w fun e w' => e = .returned (.bool false) ∧ Kept [] w w' := by
  have d0 := of_decide_eq_true c0
  have d1 := of_decide_eq_true c1
  have d2 := of_decide_eq_true c2
  have d3 := of_decide_eq_true c3
  have d4 := of_decide_eq_true c4
  have d5 := of_decide_eq_false c5
  go_enter Tryz.func8, Tryz.ntmps8
  go_wp2_with (
    first
    | (refine wpBoxV (by rfl) (.tmp 0) (by rfl) (Ar.jobC J) (by kernel_rfl) ?_
       intro V1 b1 e1 B1 K1
       have HK := hide K1
       have f0 := fits_cell B1 0 (.int .i64 J.n) rfl
       have f1 := fits_cell B1 1 (.int .i64 J.p) rfl
       have f2 := fits_cell B1 2 (.int .i64 J.f) rfl
       have f3 := fits_cell B1 3 (.int .i64 J.l) rfl
       have f4 := fits_cell B1 4 (.int .i64 J.t) rfl
       clear e1 B1 K1
       refine Stp.go ?_))
  constructor
  go_wp2_with fail
  go_ret
  exact ⟨rfl, unhide HK⟩
set_option maxHeartbeats 2000000 in
theorem rmay_6 (J : Ar.Job) (w : World) (c0 : decide ((2 : Int) ≤ J.n) = true) (c1 : decide (J.n ≤ 8) = true) (c2 : decide ((1 : Int) ≤ J.p) = true) (c3 : decide (J.p ≤ 16) = true) (c4 : decide ((1 : Int) ≤ J.f) = true) (c5 : decide (J.f ≤ 16) = true) (c6 : decide ((2 : Int) ≤ J.l) = false) : Calls Tryz.prog 8 #[aggV (Ar.jobC J)] w fun e w' => e = .returned (.bool false) ∧ Kept [] w w' := by
  have d0 := of_decide_eq_true c0
  have d1 := of_decide_eq_true c1
  have d2 := of_decide_eq_true c2
  have d3 := of_decide_eq_true c3
  have d4 := of_decide_eq_true c4
  have d5 := of_decide_eq_true c5
  have d6 := of_decide_eq_false c6
  go_enter Tryz.func8, Tryz.ntmps8
  go_wp2_with (
    first
    | (refine wpBoxV (by rfl) (.tmp 0) (by rfl) (Ar.jobC J) (by kernel_rfl) ?_
       intro V1 b1 e1 B1 K1
       have HK := hide K1
       have f0 := fits_cell B1 0 (.int .i64 J.n) rfl
       have f1 := fits_cell B1 1 (.int .i64 J.p) rfl
       have f2 := fits_cell B1 2 (.int .i64 J.f) rfl
       have f3 := fits_cell B1 3 (.int .i64 J.l) rfl
       have f4 := fits_cell B1 4 (.int .i64 J.t) rfl
       clear e1 B1 K1
       refine Stp.go ?_))
  constructor
  go_wp2_with fail
  go_ret
  exact ⟨rfl, unhide HK⟩
set_option maxHeartbeats 2000000 in
theorem rmay_7 (J : Ar.Job) (w : World) (c0 : decide ((2 : Int) ≤ J.n) = true) (c1 : decide (J.n ≤ 8) = true) (c2 : decide ((1 : Int) ≤ J.p) = true) (c3 : decide (J.p ≤ 16) = true) (c4 : decide ((1 : Int) ≤ J.f) = true) (c5 : decide (J.f ≤ 16) = true) (c6 : decide ((2 : Int) ≤ J.l) = true) (c7 : decide (J.l ≤ 64) = false) : Calls Tryz.prog 8 #[aggV (Ar.jobC J)] w fun e w' => e = .returned (.bool false) ∧ Kept [] w w' := by
  have d0 := of_decide_eq_true c0
  have d1 := of_decide_eq_true c1
  have d2 := of_decide_eq_true c2
  have d3 := of_decide_eq_true c3
  have d4 := of_decide_eq_true c4
  have d5 := of_decide_eq_true c5
  have d6 := of_decide_eq_true c6
  have d7 := of_decide_eq_false c7
  go_enter Tryz.func8, Tryz.ntmps8
  go_wp2_with (
    first
    | (refine wpBoxV (by rfl) (.tmp 0) (by rfl) (Ar.jobC J) (by kernel_rfl) ?_
       intro V1 b1 e1 B1 K1
       have HK := hide K1
       have f0 := fits_cell B1 0 (.int .i64 J.n) rfl
       have f1 := fits_cell B1 1 (.int .i64 J.p) rfl
       have f2 := fits_cell B1 2 (.int .i64 J.f) rfl
       have f3 := fits_cell B1 3 (.int .i64 J.l) rfl
       have f4 := fits_cell B1 4 (.int .i64 J.t) rfl
       clear e1 B1 K1
       refine Stp.go ?_))
  constructor
  go_wp2_with fail
  go_ret
  exact ⟨rfl, unhide HK⟩
set_option maxHeartbeats 2000000 in
theorem rmay_8 (J : Ar.Job) (w : World) (c0 : decide ((2 : Int) ≤ J.n) = true) (c1 : decide (J.n ≤ 8) = true) (c2 : decide ((1 : Int) ≤ J.p) = true) (c3 : decide (J.p ≤ 16) = true) (c4 : decide ((1 : Int) ≤ J.f) = true) (c5 : decide (J.f ≤ 16) = true) (c6 : decide ((2 : Int) ≤ J.l) = true) (c7 : decide (J.l ≤ 64) = true) (c8 : decide ((2 : Int) ≤ J.t) = false) : Calls Tryz.prog 8 #[aggV (Ar.jobC J)] w fun e w' => e = .returned (.bool false) ∧ Kept [] w w' := by
  have d0 := of_decide_eq_true c0
  have d1 := of_decide_eq_true c1
  have d2 := of_decide_eq_true c2
  have d3 := of_decide_eq_true c3
  have d4 := of_decide_eq_true c4
  have d5 := of_decide_eq_true c5
  have d6 := of_decide_eq_true c6
  have d7 := of_decide_eq_true c7
  have d8 := of_decide_eq_false c8
  go_enter Tryz.func8, Tryz.ntmps8
  go_wp2_with (
    first
    | (refine wpBoxV (by rfl) (.tmp 0) (by rfl) (Ar.jobC J) (by kernel_rfl) ?_
       intro V1 b1 e1 B1 K1
       have HK := hide K1
       have f0 := fits_cell B1 0 (.int .i64 J.n) rfl
       have f1 := fits_cell B1 1 (.int .i64 J.p) rfl
       have f2 := fits_cell B1 2 (.int .i64 J.f) rfl
       have f3 := fits_cell B1 3 (.int .i64 J.l) rfl
       have f4 := fits_cell B1 4 (.int .i64 J.t) rfl
       clear e1 B1 K1
       refine Stp.go ?_))
  constructor
  go_wp2_with fail
  go_ret
  exact ⟨rfl, unhide HK⟩
set_option maxHeartbeats 2000000 in
theorem rmay_9 (J : Ar.Job) (w : World) (c0 : decide ((2 : Int) ≤ J.n) = true) (c1 : decide (J.n ≤ 8) = true) (c2 : decide ((1 : Int) ≤ J.p) = true) (c3 : decide (J.p ≤ 16) = true) (c4 : decide ((1 : Int) ≤ J.f) = true) (c5 : decide (J.f ≤ 16) = true) (c6 : decide ((2 : Int) ≤ J.l) = true) (c7 : decide (J.l ≤ 64) = true) (c8 : decide ((2 : Int) ≤ J.t) = true) (c9 : decide (J.t ≤ 100) = false) : Calls Tryz.prog 8 #[aggV (Ar.jobC J)] w fun e w' => e = .returned (.bool false) ∧ Kept [] w w' := by
  have d0 := of_decide_eq_true c0
  have d1 := of_decide_eq_true c1
  have d2 := of_decide_eq_true c2
  have d3 := of_decide_eq_true c3
  have d4 := of_decide_eq_true c4
  have d5 := of_decide_eq_true c5
  have d6 := of_decide_eq_true c6
  have d7 := of_decide_eq_true c7
  have d8 := of_decide_eq_true c8
  have d9 := of_decide_eq_false c9
  go_enter Tryz.func8, Tryz.ntmps8
  go_wp2_with (
    first
    | (refine wpBoxV (by rfl) (.tmp 0) (by rfl) (Ar.jobC J) (by kernel_rfl) ?_
       intro V1 b1 e1 B1 K1
       have HK := hide K1
       have f0 := fits_cell B1 0 (.int .i64 J.n) rfl
       have f1 := fits_cell B1 1 (.int .i64 J.p) rfl
       have f2 := fits_cell B1 2 (.int .i64 J.f) rfl
       have f3 := fits_cell B1 3 (.int .i64 J.l) rfl
       have f4 := fits_cell B1 4 (.int .i64 J.t) rfl
       clear e1 B1 K1
       refine Stp.go ?_))
  constructor
  go_wp2_with fail
  go_ret
  exact ⟨rfl, unhide HK⟩
set_option maxHeartbeats 2000000 in
theorem rmay_10 (J : Ar.Job) (w : World) (c0 : decide ((2 : Int) ≤ J.n) = true) (c1 : decide (J.n ≤ 8) = true) (c2 : decide ((1 : Int) ≤ J.p) = true) (c3 : decide (J.p ≤ 16) = true) (c4 : decide ((1 : Int) ≤ J.f) = true) (c5 : decide (J.f ≤ 16) = true) (c6 : decide ((2 : Int) ≤ J.l) = true) (c7 : decide (J.l ≤ 64) = true) (c8 : decide ((2 : Int) ≤ J.t) = true) (c9 : decide (J.t ≤ 100) = true) : Calls Tryz.prog 8 #[aggV (Ar.jobC J)] w fun e w' => e = .returned (.bool true) ∧ Kept [] w w' := by
  have d0 := of_decide_eq_true c0
  have d1 := of_decide_eq_true c1
  have d2 := of_decide_eq_true c2
  have d3 := of_decide_eq_true c3
  have d4 := of_decide_eq_true c4
  have d5 := of_decide_eq_true c5
  have d6 := of_decide_eq_true c6
  have d7 := of_decide_eq_true c7
  have d8 := of_decide_eq_true c8
  have d9 := of_decide_eq_true c9
  go_enter Tryz.func8, Tryz.ntmps8
  go_wp2_with (
    first
    | (refine wpBoxV (by rfl) (.tmp 0) (by rfl) (Ar.jobC J) (by kernel_rfl) ?_
       intro V1 b1 e1 B1 K1
       have HK := hide K1
       have f0 := fits_cell B1 0 (.int .i64 J.n) rfl
       have f1 := fits_cell B1 1 (.int .i64 J.p) rfl
       have f2 := fits_cell B1 2 (.int .i64 J.f) rfl
       have f3 := fits_cell B1 3 (.int .i64 J.l) rfl
       have f4 := fits_cell B1 4 (.int .i64 J.t) rfl
       clear e1 B1 K1
       refine Stp.go ?_))
  constructor
  go_wp2_with fail
  go_ret
  exact ⟨rfl, unhide HK⟩
theorem rmay8 (J : Ar.Job) (w : World) : Calls Tryz.prog 8 #[aggV (Ar.jobC J)] w fun e w' => e = .returned (.bool J.may) ∧ Kept [] w w' := by
  by_cases c0 : (2 : Int) ≤ J.n
  · skip
    by_cases c1 : J.n ≤ 8
    · skip
      by_cases c2 : (1 : Int) ≤ J.p
      · skip
        by_cases c3 : J.p ≤ 16
        · skip
          by_cases c4 : (1 : Int) ≤ J.f
          · skip
            by_cases c5 : J.f ≤ 16
            · skip
              by_cases c6 : (2 : Int) ≤ J.l
              · skip
                by_cases c7 : J.l ≤ 64
                · skip
                  by_cases c8 : (2 : Int) ≤ J.t
                  · skip
                    by_cases c9 : J.t ≤ 100
                    · skip
                      have e : J.may = true := by unfold Ar.Job.may; exact decide_eq_true (by omega)
                      rw [e]
                      exact rmay_10 J w (decide_eq_true c0) (decide_eq_true c1) (decide_eq_true c2) (decide_eq_true c3) (decide_eq_true c4) (decide_eq_true c5) (decide_eq_true c6) (decide_eq_true c7) (decide_eq_true c8) (decide_eq_true c9)
                    · have e : J.may = false := by unfold Ar.Job.may; exact decide_eq_false (by omega)
                      rw [e]
                      exact rmay_9 J w (decide_eq_true c0) (decide_eq_true c1) (decide_eq_true c2) (decide_eq_true c3) (decide_eq_true c4) (decide_eq_true c5) (decide_eq_true c6) (decide_eq_true c7) (decide_eq_true c8) (decide_eq_false c9)
                  · have e : J.may = false := by unfold Ar.Job.may; exact decide_eq_false (by omega)
                    rw [e]
                    exact rmay_8 J w (decide_eq_true c0) (decide_eq_true c1) (decide_eq_true c2) (decide_eq_true c3) (decide_eq_true c4) (decide_eq_true c5) (decide_eq_true c6) (decide_eq_true c7) (decide_eq_false c8)
                · have e : J.may = false := by unfold Ar.Job.may; exact decide_eq_false (by omega)
                  rw [e]
                  exact rmay_7 J w (decide_eq_true c0) (decide_eq_true c1) (decide_eq_true c2) (decide_eq_true c3) (decide_eq_true c4) (decide_eq_true c5) (decide_eq_true c6) (decide_eq_false c7)
              · have e : J.may = false := by unfold Ar.Job.may; exact decide_eq_false (by omega)
                rw [e]
                exact rmay_6 J w (decide_eq_true c0) (decide_eq_true c1) (decide_eq_true c2) (decide_eq_true c3) (decide_eq_true c4) (decide_eq_true c5) (decide_eq_false c6)
            · have e : J.may = false := by unfold Ar.Job.may; exact decide_eq_false (by omega)
              rw [e]
              exact rmay_5 J w (decide_eq_true c0) (decide_eq_true c1) (decide_eq_true c2) (decide_eq_true c3) (decide_eq_true c4) (decide_eq_false c5)
          · have e : J.may = false := by unfold Ar.Job.may; exact decide_eq_false (by omega)
            rw [e]
            exact rmay_4 J w (decide_eq_true c0) (decide_eq_true c1) (decide_eq_true c2) (decide_eq_true c3) (decide_eq_false c4)
        · have e : J.may = false := by unfold Ar.Job.may; exact decide_eq_false (by omega)
          rw [e]
          exact rmay_3 J w (decide_eq_true c0) (decide_eq_true c1) (decide_eq_true c2) (decide_eq_false c3)
      · have e : J.may = false := by unfold Ar.Job.may; exact decide_eq_false (by omega)
        rw [e]
        exact rmay_2 J w (decide_eq_true c0) (decide_eq_true c1) (decide_eq_false c2)
    · have e : J.may = false := by unfold Ar.Job.may; exact decide_eq_false (by omega)
      rw [e]
      exact rmay_1 J w (decide_eq_true c0) (decide_eq_false c1)
  · have e : J.may = false := by unfold Ar.Job.may; exact decide_eq_false (by omega)
    rw [e]
    exact rmay_0 J w  (decide_eq_false c0)



/-- Why a node of that epoch may not write. -/
def rwho (D : Dv.Dev) (J : Ar.Job) (n ep : Int) : Int := if n < 0 ∨ J.n ≤ n then 2 else if ep < 1 ∨ (D.epoch n).1 < ep then 2 else if ep < (D.epoch n).1 then 8 else 0
set_option maxHeartbeats 4000000 in
theorem who96 (r sg eg : Nat) (D : Dv.Dev) (J : Ar.Job) (n ep : Int) (w : World) (h : Dv.Rv w r sg eg D) : Calls Tryz.prog 96 #[P0 r, aggV (Ar.jobC J), .int .i64 n, .int .i64 ep] w fun e w' => e = .returned (.int .i64 (rwho D J n ep)) ∧ Kept [] w w' := by
  obtain ⟨hs, hs9⟩ : ∃ x, x = (D.epoch n).1 := ⟨_, rfl⟩
  have HE := hide (fun W (hk : Kept [] w W) => Dv.r_epoch r sg eg D n W (h.kept hk (by simp) (by simp) (by simp)))
  obtain ⟨q, hq⟩ : ∃ x, x = rwho D J n ep := ⟨_, rfl⟩
  have HQ : Hid (q = rwho D J n ep) := hq
  rw [← hq]
  unfold rwho at hq
  rw [← hs9] at hq HE
  obtain ⟨e2, he2⟩ : ∃ x, x = (D.epoch n).2 := ⟨_, rfl⟩
  rw [← he2] at HE
  clear he2 hs9 HQ h
  by_cases c1 : n < 0
  · rw [if_pos (Or.inl c1)] at hq
    subst hq
    go_enter Tryz.func96, Tryz.ntmps96
    go_wp2_with (
      first
      | (refine wpBoxV (by rfl) (.tmp 1) (by rfl) (Ar.jobC J) (by kernel_rfl) ?_
         intro V1 b1 e1 B1 K1
         have f0 := fits_cell B1 0 (.int .i64 J.n) rfl
         have PE := hide (unhide HE V1 K1)
         have HK := hide K1
         clear e1 B1 K1
         refine Stp.go ?_))
    constructor
    go_wp2_with (
      first
      | (go_at_call 37
         refine (unhide PE).mono ?_
         rintro e W8 ⟨rfl, rfl⟩))
    go_ret
    exact ⟨rfl, unhide HK⟩
  · by_cases c2 : J.n ≤ n
    · rw [if_pos (Or.inr c2)] at hq
      subst hq
      go_enter Tryz.func96, Tryz.ntmps96
      go_wp2_with (
        first
        | (refine wpBoxV (by rfl) (.tmp 1) (by rfl) (Ar.jobC J) (by kernel_rfl) ?_
           intro V1 b1 e1 B1 K1
           have f0 := fits_cell B1 0 (.int .i64 J.n) rfl
           have PE := hide (unhide HE V1 K1)
           have HK := hide K1
           clear e1 B1 K1
           refine Stp.go ?_))
      constructor
      go_wp2_with (
        first
        | (go_at_call 37
           refine (unhide PE).mono ?_
           rintro e W8 ⟨rfl, rfl⟩))
      go_ret
      exact ⟨rfl, unhide HK⟩
    · rw [if_neg (by omega)] at hq
      by_cases c3 : ep < 1
      · rw [if_pos (Or.inl c3)] at hq
        subst hq
        go_enter Tryz.func96, Tryz.ntmps96
        go_wp2_with (
          first
          | (refine wpBoxV (by rfl) (.tmp 1) (by rfl) (Ar.jobC J) (by kernel_rfl) ?_
             intro V1 b1 e1 B1 K1
             have f0 := fits_cell B1 0 (.int .i64 J.n) rfl
             have PE := hide (unhide HE V1 K1)
             have HK := hide K1
             clear e1 B1 K1
             refine Stp.go ?_))
        constructor
        go_wp2_with (
          first
          | (go_at_call 37
             refine (unhide PE).mono ?_
             rintro e W8 ⟨rfl, rfl⟩))
        go_ret
        exact ⟨rfl, unhide HK⟩
      · by_cases c4 : hs < ep
        · rw [if_pos (Or.inr c4)] at hq
          subst hq
          go_enter Tryz.func96, Tryz.ntmps96
          go_wp2_with (
            first
            | (refine wpBoxV (by rfl) (.tmp 1) (by rfl) (Ar.jobC J) (by kernel_rfl) ?_
               intro V1 b1 e1 B1 K1
               have f0 := fits_cell B1 0 (.int .i64 J.n) rfl
               have PE := hide (unhide HE V1 K1)
               have HK := hide K1
               clear e1 B1 K1
               refine Stp.go ?_))
          constructor
          go_wp2_with (
            first
            | (go_at_call 37
               refine (unhide PE).mono ?_
               rintro e W8 ⟨rfl, rfl⟩))
          go_ret
          exact ⟨rfl, unhide HK⟩
        · rw [if_neg (by omega)] at hq
          by_cases c5 : ep < hs
          · rw [if_pos c5] at hq
            subst hq
            go_enter Tryz.func96, Tryz.ntmps96
            go_wp2_with (
              first
              | (refine wpBoxV (by rfl) (.tmp 1) (by rfl) (Ar.jobC J) (by kernel_rfl) ?_
                 intro V1 b1 e1 B1 K1
                 have f0 := fits_cell B1 0 (.int .i64 J.n) rfl
                 have PE := hide (unhide HE V1 K1)
                 have HK := hide K1
                 clear e1 B1 K1
                 refine Stp.go ?_))
            constructor
            go_wp2_with (
              first
              | (go_at_call 37
                 refine (unhide PE).mono ?_
                 rintro e W8 ⟨rfl, rfl⟩))
            go_ret
            exact ⟨rfl, unhide HK⟩
          · rw [if_neg c5] at hq
            subst hq
            go_enter Tryz.func96, Tryz.ntmps96
            go_wp2_with (
              first
              | (refine wpBoxV (by rfl) (.tmp 1) (by rfl) (Ar.jobC J) (by kernel_rfl) ?_
                 intro V1 b1 e1 B1 K1
                 have f0 := fits_cell B1 0 (.int .i64 J.n) rfl
                 have PE := hide (unhide HE V1 K1)
                 have HK := hide K1
                 clear e1 B1 K1
                 refine Stp.go ?_))
            constructor
            go_wp2_with (
              first
              | (go_at_call 37
                 refine (unhide PE).mono ?_
                 rintro e W8 ⟨rfl, rfl⟩))
            go_ret
            exact ⟨rfl, unhide HK⟩

end Go.Proofs.YtcfflbafclmheaaGreatDoor

/-
  The document's MayLease.
-/
namespace Go.Proofs.YtcfflbafclmheaaGreatDoor
set_option maxRecDepth 100000
set_option linter.unusedSimpArgs false
open Go.RowKit
open Le (Mm wpStoreM wpStoreM1)

set_option maxHeartbeats 4000000 in
theorem rml_0 (l : Le.Le) (w : World)  (c0 : decide (0 ≤ l.ep) = false) : Calls Tryz.prog 99 #[aggV (Le.Le.C l)] w fun e w' => e = .returned (.bool false) ∧ Kept [] w w' := by
  go_enter Tryz.func99, Tryz.ntmps99
  go_wp2_with (
    first
    | (refine wpBoxV (by rfl) (.tmp 0) (by rfl) (Le.Le.C l) (by kernel_rfl) ?_
       intro V1 b1 e1 B1 K1
       have HK := hide K1
       have f0 := fits_cell B1 0 (.int .i64 l.ep) rfl
       have f1 := fits_cell B1 1 (.int .i64 l.be) rfl
       have f2 := fits_cell B1 2 (.int .i64 l.re) rfl
       clear e1 B1 K1
       refine Stp.go ?_))
  constructor
  go_wp2_with fail
  go_ret
  exact ⟨rfl, unhide HK⟩
set_option maxHeartbeats 4000000 in
theorem rml_1 (l : Le.Le) (w : World) (c0 : decide (0 ≤ l.ep) = true) (c1 : decide (l.ep ≤ 2147483647) = false) : Calls Tryz.prog 99 #[aggV (Le.Le.C l)] w fun e w' => e = .returned (.bool false) ∧ Kept [] w w' := by
  go_enter Tryz.func99, Tryz.ntmps99
  go_wp2_with (
    first
    | (refine wpBoxV (by rfl) (.tmp 0) (by rfl) (Le.Le.C l) (by kernel_rfl) ?_
       intro V1 b1 e1 B1 K1
       have HK := hide K1
       have f0 := fits_cell B1 0 (.int .i64 l.ep) rfl
       have f1 := fits_cell B1 1 (.int .i64 l.be) rfl
       have f2 := fits_cell B1 2 (.int .i64 l.re) rfl
       clear e1 B1 K1
       refine Stp.go ?_))
  constructor
  go_wp2_with fail
  go_ret
  exact ⟨rfl, unhide HK⟩
set_option maxHeartbeats 4000000 in
theorem rml_2 (l : Le.Le) (w : World) (c0 : decide (0 ≤ l.ep) = true) (c1 : decide (l.ep ≤ 2147483647) = true) (c2 : decide (0 ≤ l.be) = false) : Calls Tryz.prog 99 #[aggV (Le.Le.C l)] w fun e w' => e = .returned (.bool false) ∧ Kept [] w w' := by
  go_enter Tryz.func99, Tryz.ntmps99
  go_wp2_with (
    first
    | (refine wpBoxV (by rfl) (.tmp 0) (by rfl) (Le.Le.C l) (by kernel_rfl) ?_
       intro V1 b1 e1 B1 K1
       have HK := hide K1
       have f0 := fits_cell B1 0 (.int .i64 l.ep) rfl
       have f1 := fits_cell B1 1 (.int .i64 l.be) rfl
       have f2 := fits_cell B1 2 (.int .i64 l.re) rfl
       clear e1 B1 K1
       refine Stp.go ?_))
  constructor
  go_wp2_with fail
  go_ret
  exact ⟨rfl, unhide HK⟩
set_option maxHeartbeats 4000000 in
theorem rml_3 (l : Le.Le) (w : World) (c0 : decide (0 ≤ l.ep) = true) (c1 : decide (l.ep ≤ 2147483647) = true) (c2 : decide (0 ≤ l.be) = true) (c3 : decide (l.be ≤ 4611686018427387904) = false) : Calls Tryz.prog 99 #[aggV (Le.Le.C l)] w fun e w' => e = .returned (.bool false) ∧ Kept [] w w' := by
  go_enter Tryz.func99, Tryz.ntmps99
  go_wp2_with (
    first
    | (refine wpBoxV (by rfl) (.tmp 0) (by rfl) (Le.Le.C l) (by kernel_rfl) ?_
       intro V1 b1 e1 B1 K1
       have HK := hide K1
       have f0 := fits_cell B1 0 (.int .i64 l.ep) rfl
       have f1 := fits_cell B1 1 (.int .i64 l.be) rfl
       have f2 := fits_cell B1 2 (.int .i64 l.re) rfl
       clear e1 B1 K1
       refine Stp.go ?_))
  constructor
  go_wp2_with fail
  go_ret
  exact ⟨rfl, unhide HK⟩
set_option maxHeartbeats 4000000 in
theorem rml_4 (l : Le.Le) (w : World) (c0 : decide (0 ≤ l.ep) = true) (c1 : decide (l.ep ≤ 2147483647) = true) (c2 : decide (0 ≤ l.be) = true) (c3 : decide (l.be ≤ 4611686018427387904) = true) (c4 : decide (0 ≤ l.re) = false) : Calls Tryz.prog 99 #[aggV (Le.Le.C l)] w fun e w' => e = .returned (.bool false) ∧ Kept [] w w' := by
  go_enter Tryz.func99, Tryz.ntmps99
  go_wp2_with (
    first
    | (refine wpBoxV (by rfl) (.tmp 0) (by rfl) (Le.Le.C l) (by kernel_rfl) ?_
       intro V1 b1 e1 B1 K1
       have HK := hide K1
       have f0 := fits_cell B1 0 (.int .i64 l.ep) rfl
       have f1 := fits_cell B1 1 (.int .i64 l.be) rfl
       have f2 := fits_cell B1 2 (.int .i64 l.re) rfl
       clear e1 B1 K1
       refine Stp.go ?_))
  constructor
  go_wp2_with fail
  go_ret
  exact ⟨rfl, unhide HK⟩
set_option maxHeartbeats 4000000 in
theorem rml_5 (l : Le.Le) (w : World) (c0 : decide (0 ≤ l.ep) = true) (c1 : decide (l.ep ≤ 2147483647) = true) (c2 : decide (0 ≤ l.be) = true) (c3 : decide (l.be ≤ 4611686018427387904) = true) (c4 : decide (0 ≤ l.re) = true) (c5 : decide (l.re ≤ 4611686018427387904) = false) : Calls Tryz.prog 99 #[aggV (Le.Le.C l)] w fun e w' => e = .returned (.bool false) ∧ Kept [] w w' := by
  go_enter Tryz.func99, Tryz.ntmps99
  go_wp2_with (
    first
    | (refine wpBoxV (by rfl) (.tmp 0) (by rfl) (Le.Le.C l) (by kernel_rfl) ?_
       intro V1 b1 e1 B1 K1
       have HK := hide K1
       have f0 := fits_cell B1 0 (.int .i64 l.ep) rfl
       have f1 := fits_cell B1 1 (.int .i64 l.be) rfl
       have f2 := fits_cell B1 2 (.int .i64 l.re) rfl
       clear e1 B1 K1
       refine Stp.go ?_))
  constructor
  go_wp2_with fail
  go_ret
  exact ⟨rfl, unhide HK⟩
set_option maxHeartbeats 4000000 in
theorem rml_6 (l : Le.Le) (w : World) (c0 : decide (0 ≤ l.ep) = true) (c1 : decide (l.ep ≤ 2147483647) = true) (c2 : decide (0 ≤ l.be) = true) (c3 : decide (l.be ≤ 4611686018427387904) = true) (c4 : decide (0 ≤ l.re) = true) (c5 : decide (l.re ≤ 4611686018427387904) = true) : Calls Tryz.prog 99 #[aggV (Le.Le.C l)] w fun e w' => e = .returned (.bool true) ∧ Kept [] w w' := by
  go_enter Tryz.func99, Tryz.ntmps99
  go_wp2_with (
    first
    | (refine wpBoxV (by rfl) (.tmp 0) (by rfl) (Le.Le.C l) (by kernel_rfl) ?_
       intro V1 b1 e1 B1 K1
       have HK := hide K1
       have f0 := fits_cell B1 0 (.int .i64 l.ep) rfl
       have f1 := fits_cell B1 1 (.int .i64 l.be) rfl
       have f2 := fits_cell B1 2 (.int .i64 l.re) rfl
       clear e1 B1 K1
       refine Stp.go ?_))
  constructor
  go_wp2_with fail
  go_ret
  exact ⟨rfl, unhide HK⟩
theorem mayLease99 (l : Le.Le) (w : World) : Calls Tryz.prog 99 #[aggV (Le.Le.C l)] w fun e w' => e = .returned (.bool l.may) ∧ Kept [] w w' := by
  by_cases c0 : 0 ≤ l.ep
  · skip
    by_cases c1 : l.ep ≤ 2147483647
    · skip
      by_cases c2 : 0 ≤ l.be
      · skip
        by_cases c3 : l.be ≤ 4611686018427387904
        · skip
          by_cases c4 : 0 ≤ l.re
          · skip
            by_cases c5 : l.re ≤ 4611686018427387904
            · skip
              have e : l.may = true := by unfold Le.Le.may; exact decide_eq_true ⟨c0, c1, c2, c3, c4, c5⟩
              rw [e]
              exact rml_6 l w (decide_eq_true c0) (decide_eq_true c1) (decide_eq_true c2) (decide_eq_true c3) (decide_eq_true c4) (decide_eq_true c5)
            · have e : l.may = false := by unfold Le.Le.may; exact decide_eq_false (fun h => c5 h.2.2.2.2.2)
              rw [e]
              exact rml_5 l w (decide_eq_true c0) (decide_eq_true c1) (decide_eq_true c2) (decide_eq_true c3) (decide_eq_true c4) (decide_eq_false c5)
          · have e : l.may = false := by unfold Le.Le.may; exact decide_eq_false (fun h => c4 h.2.2.2.2.1)
            rw [e]
            exact rml_4 l w (decide_eq_true c0) (decide_eq_true c1) (decide_eq_true c2) (decide_eq_true c3) (decide_eq_false c4)
        · have e : l.may = false := by unfold Le.Le.may; exact decide_eq_false (fun h => c3 h.2.2.2.1)
          rw [e]
          exact rml_3 l w (decide_eq_true c0) (decide_eq_true c1) (decide_eq_true c2) (decide_eq_false c3)
      · have e : l.may = false := by unfold Le.Le.may; exact decide_eq_false (fun h => c2 h.2.2.1)
        rw [e]
        exact rml_2 l w (decide_eq_true c0) (decide_eq_true c1) (decide_eq_false c2)
    · have e : l.may = false := by unfold Le.Le.may; exact decide_eq_false (fun h => c1 h.2.1)
      rw [e]
      exact rml_1 l w (decide_eq_true c0) (decide_eq_false c1)
  · have e : l.may = false := by unfold Le.Le.may; exact decide_eq_false (fun h => c0 h.1)
    rw [e]
    exact rml_0 l w  (decide_eq_false c0)

end Go.Proofs.YtcfflbafclmheaaGreatDoor

/-
  The document's said: a number of bytes.
-/
namespace Go.Proofs.YtcfflbafclmheaaGreatDoor
set_option maxRecDepth 100000
set_option linter.unusedSimpArgs false
open Go.RowKit
open Le (Mm wpStoreM wpStoreM1)
namespace Le
set_option maxHeartbeats 2000000 in
theorem said112 (k o : Nat) (s : List Int) (w : World) (hs : Byts 64 s) (ho : o + k ≤ 64) : Calls Tryz.prog 112 #[aggV (u8s s), .int .i64 o, .int .i64 k] w fun e w' => e = .returned (.int .i64 (ofB 0 ((s.drop o).take k))) ∧ Kept [] w w' := by
  have hkI : (k : Int) ≤ 64 := by omega
  have hoI : (o : Int) ≤ 64 := by omega
  go_enter Tryz.func112, Tryz.ntmps112
  have M : Hid (Mm [] w w []) := hide Mm.init
  go_wp2_with (
    first
    | (refine wpBoxV rfl (.tmp 0) rfl (u8s s) rfl ?_
       intro W1 b1 e1 B1 K1
       replace M : Hid (Mm [] w W1 [(b1, 59, u8s s)]) := hide ((unhide M).new e1 B1 K1)
       clear e1 B1 K1
       refine Stp.go ?_))
  constructor
  go_wp2_with fail
  go_loopw [7, 8] (fun xn xi wr => ∃ (j : Nat) (q : Int), j ≤ k ∧ xn = .int .i64 q ∧ xi = .int .i64 j ∧ Hid (I64 q) ∧ Hid (ofB 0 ((s.drop o).take k) = ofB q (((s.drop o).take k).drop j)) ∧ Hid (Mm [] w wr [(b1, 59, u8s s)])) (fun _ i _ => k - (intOf i).toNat)
  case atStart => exact ⟨0, 0, by omega, rfl, rfl, ⟨by decide, by decide⟩, by show _ = _; simp, M⟩
  case round =>
    clear M
    obtain ⟨j, q, hj, rfl, rfl, HQ, HE, M⟩ := hrel
    by_cases hlt : j < k
    · obtain ⟨x, hx⟩ : ∃ x, s[o + j]? = some x := ⟨_, List.getElem?_eq_getElem (by rw [hs.len]; omega)⟩
      have hjk : (j : Int) < (k : Int) := by omega
      have hd : decide ((j : Int) < (k : Int)) = true := by simpa using hjk
      have hx8 := hs.byte x (List.mem_of_getElem? hx)
      have hc : wr.cell? ⟨b1, o + j, none⟩ = some (.int .u8 x) := by
        rw [((unhide M).at 0 _ rfl).cell]
        simp only [u8s, List.getElem?_map]
        rw [hx]
        rfl
      have hq := unhide HQ
      obtain ⟨q1, q2⟩ := hq
      obtain ⟨x1, x2⟩ := hx8
      have HE2 : Hid (ofB 0 ((s.drop o).take k) = ofB (wrap64 (q * 256 + x)) (((s.drop o).take k).drop (j + 1))) := by
        show _ = _
        have h1 : ((s.drop o).take k)[j]? = some x := by rw [List.getElem?_take_of_lt hlt, List.getElem?_drop]; exact hx
        obtain ⟨h2, h3⟩ := List.getElem?_eq_some_iff.1 h1
        rw [unhide HE, List.drop_eq_getElem_cons h2, h3, ofB]
      have hoj : (o : Int) + (j : Int) < 64 := by omega
      have HT : Hid (((o : Int) + (j : Int)).toNat = o + j) := by show _ = _; omega
      clear hx HE
      go_wp2_with fail
      go_roundw
      case rel => exact ⟨j + 1, wrap64 (q * 256 + x), by omega, by rw [wrap_two], by go_num, w64_i _, HE2, M⟩
      case measure => simp [intOf]; omega
    · have hd : decide ((j : Int) < (k : Int)) = false := by simp; omega
      go_wp2_with fail
      go_ret
      have h9 := unhide HE
      have hD : ((s.drop o).take k).drop j = [] := List.drop_of_length_le (by rw [List.length_take]; omega)
      rw [hD, ofB] at h9
      exact ⟨by rw [h9]; rfl, (unhide M).kept⟩

end Le

end Go.Proofs.YtcfflbafclmheaaGreatDoor

/-
  The document's lay: a number into bytes.
-/
namespace Go.Proofs.YtcfflbafclmheaaGreatDoor
set_option maxRecDepth 100000
set_option linter.unusedSimpArgs false
open Go.RowKit
open Le (Mm wpStoreM wpStoreM1)


section
variable {ops : Array Oper} {rest : List Oper} {op : Oper} {a : Act} {w w0 : World} {Q : Exit → Act → World → Prop} {bs : List (Nat × Nat × List Value)}
theorem wpRem256 (hgd : op.guard = none) (x : Operand) (ho : op.op = .binOp .rem 2 x (.const (.int .i64 256)) 2) (m : Int) (hm : 0 ≤ m ∧ m ≤ 9223372036854775807) (hx : a.eval x = .int .i64 m)
    (h : wpList Tryz.prog ops Q rest (a.put op.dst (.int .i64 (m % 256))) w) : wpList Tryz.prog ops Q (op :: rest) a w :=
  wpList_plain hgd fun K hK => by
    have ht : Int.tmod m 256 = m % 256 := Int.tmod_eq_emod_of_nonneg hm.1
    unfold Oper.wp execOp
    simp only [ho, hx]
    simp [go_sem, Act.eval, ht]
    exact hK _ _ h
theorem wpQuo256 (hgd : op.guard = none) (x : Operand) (ho : op.op = .binOp .quo 2 x (.const (.int .i64 256)) 2) (m : Int) (hm : 0 ≤ m ∧ m ≤ 9223372036854775807) (hx : a.eval x = .int .i64 m)
    (h : wpList Tryz.prog ops Q rest (a.put op.dst (.int .i64 (m / 256))) w) : wpList Tryz.prog ops Q (op :: rest) a w :=
  wpList_plain hgd fun K hK => by
    have ht : Int.tdiv m 256 = m / 256 := Int.tdiv_eq_ediv_of_nonneg hm.1
    have hw : IntKind.i64.wrap (m / 256) = m / 256 := by rw [IntKind.wrap_i64]; omega
    unfold Oper.wp execOp
    simp only [ho, hx]
    simp [go_sem, Act.eval, ht, hw]
    exact hK _ _ h
/-- One cell of a block that is kept in mind is written; the cells that it then has are told. -/
theorem wpStoreMT {T TT : Nat} {X : List Nat} {us : List Value} (hs : (Tryz.prog.info? T).map (·.size) = some 1) (hgd : op.guard = none) (x y : Operand) (ho : op.op = .store T x y) (hd : op.dst = none) (b off i : Nat) (v : Value) (h1 : Le.One v) (hx : a.eval x = .pointer (some ⟨b, off, none⟩)) (hy : a.eval y = v) (hM : Mm X w0 w bs) (vs : List Value) (he : us.set off v = vs) (hi : bs[i]? = some (b, TT, us)) (hl : off < us.length)
    (h : ∀ W, Mm X w0 W (bs.set i (b, TT, vs)) → wpList Tryz.prog ops Q rest a W) : wpList Tryz.prog ops Q (op :: rest) a w := by
  subst he
  exact wpStoreM1 hs hgd x y ho hd b off i v h1 hx hy hM hi hl h
end
theorem set_in (A B : List Int) (x y : Int) (n : Nat) (h : A.length = n) : (u8s (A ++ x :: B)).set n (.int .u8 y) = u8s (A ++ y :: B) := by rw [Vi.u8s_set, Vi.set_at _ _ _ _ _ h]
theorem take_succ_get (mid : List Int) (k : Nat) (h : k < mid.length) : ∃ z, mid.take (k + 1) = mid.take k ++ [z] := ⟨mid[k], (List.take_append_getElem h).symm⟩
set_option maxHeartbeats 4000000 in
theorem lay145 (b k o : Nat) (x : Int) (pre mid post : List Int) (w : World) (hB : Blk w b 59 (u8s (pre ++ mid ++ post))) (hp : pre.length = o) (hm : mid.length = k) (hl : (pre ++ mid ++ post).length = 64) (hx : 0 ≤ x ∧ x ≤ 9223372036854775807) : Calls Tryz.prog 145 #[P0 b, .int .i64 o, .int .i64 k, .int .i64 x] w fun e w' => e = .returned (.tuple #[]) ∧ Blk w' b 59 (u8s (pre ++ Vi.be k x ++ post)) ∧ Kept [b] w w' := by
  have hok : o + k ≤ 64 := by simp at hl; omega
  have hkI : (k : Int) ≤ 64 := by omega
  have hoI : (o : Int) ≤ 64 := by omega
  have HM := hide hm
  have HP := hide hp
  have HHL := hide hl
  have M : Hid (Mm [b] w w [(b, 59, u8s (pre ++ (mid.take k ++ []) ++ post))]) := by rw [List.append_nil, List.take_of_length_le (by omega)]; exact Le.Mm.one hB
  obtain ⟨R, hR⟩ : ∃ R, R = Vi.be k x := ⟨_, rfl⟩
  have HR : Hid (R = Vi.be k x ++ []) := by show _ = _; rw [List.append_nil]; exact hR
  rw [← hR]
  clear hR hB hm hp hl
  go_enter Tryz.func145, Tryz.ntmps145
  go_wp2_with fail
  go_loopw [3, 8] (fun xv xi wr => ∃ (j : Nat) (y : Int) (tl : List Int), j ≤ k ∧ xv = .int .i64 y ∧ xi = .int .i64 ((j : Int) - 1) ∧ Hid (0 ≤ y ∧ y ≤ 9223372036854775807) ∧ Hid (R = Vi.be j y ++ tl) ∧ Hid (Mm [b] w wr [(b, 59, u8s (pre ++ (mid.take j ++ tl) ++ post))])) (fun _ i _ => (intOf i + 1).toNat)
  case atStart => exact ⟨k, x, [], by omega, rfl, by go_num, hx, HR, M⟩
  case round =>
    clear M HR
    obtain ⟨j, y, tl, hj, rfl, rfl, HY, HR, M⟩ := hrel
    cases j with
    | zero =>
      have hd : decide (0 ≤ ((0 : Nat) : Int) - 1) = false := by decide
      have h9 := unhide M
      have h8 := unhide HR
      rw [Vi.be, List.nil_append] at h8
      rw [List.take_zero, List.nil_append, ← h8] at h9
      replace M := hide h9
      clear h9 h8 HR
      go_wp2_with fail
      refine bodyPost_end (results_none rfl _ _ _) rfl ?_
      exact ⟨rfl, (unhide M).at 0 _ rfl, (unhide M).kept⟩
    | succ j =>
      have e1 : ((j + 1 : Nat) : Int) - 1 = (j : Int) := by omega
      rw [e1]
      clear e1
      have hoj : (o : Int) + (j : Int) < 64 := by omega
      obtain ⟨z, hz⟩ := take_succ_get mid j (by rw [unhide HM]; omega)
      have HAL : Hid ((pre ++ mid.take j).length = o + j) := by show _ = _; rw [List.length_append, unhide HP, List.length_take, unhide HM]; omega
      have h9 := unhide M
      rw [hz, show pre ++ (mid.take j ++ [z] ++ tl) ++ post = (pre ++ mid.take j) ++ z :: (tl ++ post) by simp] at h9
      replace M := hide h9
      have HLT : Hid (o + j < (u8s ((pre ++ mid.take j) ++ z :: (tl ++ post))).length) := by
        show _ < _
        rw [u8s_len, List.length_append, unhide HAL]; simp
      have HQ2 : Hid (0 ≤ y / 256 ∧ y / 256 ≤ 9223372036854775807) := by have := unhide HY; constructor <;> omega
      have HE2 : Hid (R = Vi.be j (y / 256) ++ (y % 256 :: tl)) := by show _ = _; rw [unhide HR, Vi.be]; simp
      have hyb : 0 ≤ y % 256 ∧ y % 256 < 256 := by omega
      have HT : Hid (((o : Int) + (j : Int)).toNat = o + j) := by show _ = _; omega
      clear h9 HR hz
      go_wp2_with (
        first
        | (refine wpRem256 rfl (.tmp 19) rfl y (unhide HY) rfl ?_
           refine Stp.go ?_))
      constructor
      go_wp2_with (
        first
        | (refine wpStoreMT Le.size5 rfl (.tmp 23) (.tmp 21) rfl rfl b (o + j) 0 (.int .u8 (y % 256)) ⟨rfl, rfl⟩ (by first | rfl | (simp; done)) (by first | rfl | (show Value.int _ _ = _; congr 1; omega)) (unhide M) (u8s ((pre ++ mid.take j) ++ (y % 256) :: (tl ++ post))) (set_in _ _ _ _ _ (unhide HAL)) rfl (unhide HLT) ?_
           intro W61 N61
           replace M : Hid (Mm [b] w W61 [(b, 59, u8s ((pre ++ mid.take j) ++ (y % 256) :: (tl ++ post)))]) := hide N61
           clear N61
           refine Stp.go ?_))
      constructor
      go_wp2_with (
        first
        | (refine wpQuo256 rfl (.tmp 24) rfl y (unhide HY) rfl ?_
           refine Stp.go ?_))
      constructor
      go_wp2_with fail
      go_roundw
      case rel => exact ⟨j, y / 256, y % 256 :: tl, by omega, rfl, by first | rfl | go_num, HQ2, HE2, by have h9 := unhide M; rw [show (pre ++ mid.take j) ++ (y % 256) :: (tl ++ post) = pre ++ (mid.take j ++ (y % 256 :: tl)) ++ post by simp] at h9; exact h9⟩
      case measure => simp [intOf]

end Go.Proofs.YtcfflbafclmheaaGreatDoor
