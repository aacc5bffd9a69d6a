/-
  From the walk outside a round to the walk inside one, operation by operation.
-/
import Derived.Test.YtffflafalffifaaItera
namespace Go.Proofs.Ytffflafalffifaa
open Go.RowKit Go.Shelf

section
variable {l n : Nat} {P : Program} {ops : Array Oper} {Q : Exit → Act → World → Prop}

theorem rowsIn_of_rows {row : String} {args : Array Value} {w : World} {R : Value → World → Prop} (h : Rows P row args w R) : RowsIn (Fence.wide.inRound l) n P row args w R := by
  intro c cs _
  obtain ⟨v, w', hr, hs⟩ := h c cs
  exact ⟨v, w', hr, stepsIn_wide.2 hs⟩

theorem uponIn_of_upon {o : Oper} {a : Act} {K : Act → World → Prop} {r : Result Next} (h : o.upon P a K Q r) : o.uponIn (Fence.wide.inRound l) n P a K Q r := by
  cases r with
  | ok nx w =>
    cases nx <;> first
      | exact h
      | exact ⟨fun h => by simp [Fence.wide] at h, CallsIn.inRound l (callsIn_wide.2 h)⟩
      | exact ⟨fun h => by simp [Fence.wide] at h, rowsIn_of_rows h⟩
      | exact h.elim
  | halt x w => cases x <;> first | exact h | exact h.elim

theorem opIn_of_op {o : Oper} {a : Act} {w : World} {K : Act → World → Prop} (hd : ∀ c, o.op ≠ .defer c) (h : o.wp P a w K Q) : o.wpIn (Fence.wide.inRound l) n P a w K Q := by
  refine ⟨fun f _ => trivial, ?_⟩
  rw [Fence.inRound_round, Oper.semAt_some l _ o hd]
  exact uponIn_of_upon h

/-- No defer statement among them. -/
def noDefer (os : List Oper) : Bool := os.all fun o => match o.op with | .defer _ => false | _ => true
theorem noDefer_spec {os : List Oper} (h : noDefer os = true) : ∀ o ∈ os, ∀ c, o.op ≠ .defer c := by
  intro o ho c e
  have := (List.all_eq_true.1 h) o ho
  rw [e] at this
  simp at this

theorem listIn_of_list (hlo : ¬ LetsOut Q) : ∀ (os : List Oper) (a : Act) (w : World), (∀ o ∈ os, ∀ c, o.op ≠ .defer c) → wpList P ops Q os a w → wpListIn (Fence.wide.inRound l) n P ops Q os a w := by
  intro os
  induction os with
  | nil => intro a w _ h; exact h
  | cons o os ih =>
    intro a w hd h
    unfold wpList at h
    unfold wpListIn
    split
    · rename_i hw
      rw [if_pos hw] at h
      rcases h with h | ⟨_, hl⟩
      · exact opIn_of_op (hd o (List.mem_cons_self ..)) (Oper.wp_mono (fun a w h => ih a w (fun p hp => hd p (List.mem_cons_of_mem _ hp)) h) h)
      · exact absurd hl hlo
    · rename_i hw
      rw [if_neg hw] at h
      exact ⟨fun f _ => trivial, ih _ _ (fun p hp => hd p (List.mem_cons_of_mem _ hp)) h⟩

theorem anyIn_of_any (hlo : ¬ LetsOut Q) (hd : ∀ o ∈ ops, ∀ c, o.op ≠ .defer c) {md : Region.Mode} : ∀ (fuel : Nat) (listed : Array Bool) (a : Act) (w : World), wpAny P md ops Q fuel listed a w → wpAnyIn (Fence.wide.inRound l) n P md ops Q fuel listed a w := by
  intro fuel
  induction fuel with
  | zero => intro listed a w h; exact h
  | succ fuel ih =>
    intro listed a w h
    refine ⟨h.1, fun i hi => ?_⟩
    have := h.2 i hi
    unfold wpOp at this
    unfold wpOpIn
    split
    · rename_i ho
      rw [ho] at this
      exact ih _ _ _ this
    · rename_i o ho
      rw [ho] at this
      simp only at this
      split
      · rename_i hw
        rw [if_pos hw] at this
        rcases this with this | ⟨_, hl⟩
        · exact opIn_of_op (hd o (Array.mem_of_getElem? ho)) (Oper.wp_mono (fun a w h => ih _ a w h) this)
        · exact absurd hl hlo
      · rename_i hw
        rw [if_neg hw] at this
        exact ⟨fun f _ => trivial, ih _ _ _ this⟩
end

theorem all_stops (n : Nat) (hn : 1 ≤ n) (q b g : Nat) (D : Dev) (w : World) (hD : Dv w b g D) (hq : w.cell? ⟨q, 0, none⟩ = some (P0 b)) :
    SeqStopsK Fence.wide n Try.prog 58 #[P0 q] Row.vals (KeptC []) (fun ys => ys = rows D.S hD.ok.sec D.S.length) (fun pre => ∃ k, k ≤ D.S.length ∧ 0 < k ∧ pre = rows D.S hD.ok.sec k) D.S.length w := by
  intro l J Jx W hW hJ _ hY h0
  have hk : Kept [] w W := Kept.of_below hW
  exact all58_in n hn l q b g D [] J Jx W (hD.kept hk (by simp) (by simp)) (hk.cell hq (by simp)) (by simp) (fun s A B hs hg => hJ s A B none hs hg (fun r e => by cases e)) hY h0
theorem all_stops_nil (n : Nat) (q : Nat) (p : Value) (w : World) (h : Sz w p 0) (hq : w.cell? ⟨q, 0, none⟩ = some p) :
    SeqStopsK Fence.wide n Try.prog 58 #[P0 q] Row.vals (KeptC []) (fun ys => ys = []) (fun _ => False) 0 w := by
  intro l J Jx W hW hJ _ hY h0
  have hk : Kept [] w W := Kept.of_below hW
  refine (callsIn_wide.2 (all58_nil q p (.func (.yield l) #[] #[]) W (h.kept hk (by simp)) (hk.cell hq (by simp)))).mono ?_
  rintro e w' ⟨rfl, rfl⟩
  exact ⟨⟨_, rfl⟩, .inl ⟨[], rfl, h0⟩⟩
theorem keptC_b (B : Nat) (W : World) (l : Nat) (o o' : Obj) (_ : B ≤ l) (h : W.heap[l]? = some o) (hc : o.isCells = false) (_ : o.isWalk = false) : KeptC [] W (W.putObj l o') := KeptC.putObj h hc
theorem cf58 (args : Array Value) (w : World) : (callFunc 58 args).run Try.prog w = .ok (.enter 58 args) w := by kernel_rfl

/-- A block of cells stays where another kind of block turns. -/
theorem cells_kept {W W' : World} {row : Option Nat} {k : Nat} {cs : Array Value} {t : TypeId} {p : Nat × Nat} (h : W.heap[k]? = some (.cells cs t p)) (hg : W.grownBy W' row) (hr : ∀ r, row = some r → ∃ o : Obj, W.heap[r]? = some o ∧ o.isCells = false) : W'.heap[k]? = some (.cells cs t p) := by
  rw [hg.block k (lt_of_block h) ?_]
  · exact h
  · intro e
    obtain ⟨o, ho, hc⟩ := hr k e.symm
    rw [h] at ho
    cases ho
    simp [Obj.isCells] at hc
theorem kept_kept {w W W' : World} {row : Option Nat} {B : Nat} (h : Kept [] w W) (hg : W.grownBy W' row) (hB : w.heap.size ≤ B) (hr : ∀ r, row = some r → B ≤ r) : Kept [] w W' :=
  ⟨hg.os.trans h.os, hg.tape.trans h.tape, hg.output.trans h.output, Nat.le_trans h.size hg.size, fun k hk hx => (hg.block k (Nat.lt_of_lt_of_le hk h.size) (fun e => by have := hr k e.symm; omega)).trans (h.block k hk hx)⟩

end Go.Proofs.Ytffflafalffifaa
