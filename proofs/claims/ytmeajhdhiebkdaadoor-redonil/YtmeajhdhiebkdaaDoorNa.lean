/-
  The records of no log: none, gone over.
-/
import Derived.Test.YtmeajhdhiebkdaaDoorLy
import Derived.Test.YtmeajhdhiebkdaaDoorLj
import Derived.Test.YtmeajhdhiebkdaaDoorLq
import Derived.Test.YtmeajhdhiebkdaaDoorLs
namespace Go.Proofs.YtmeajhdhiebkdaaDoor
set_option maxRecDepth 100000
open Go.RowKit Go.Shelf
attribute [local go_sem] Oper.semAt_some

def rcV (c : Nat) : Value := .func (.func 52) #[] #[P0 c]
theorem zero37 (w : World) : (Instr.alloc 37 true (.tuple #[])).run Tryd.prog w = .ok (P0 w.heap.size) (w.alloc (.cells [Value.slice none 0 0].toArray 37)) := by kernel_rfl
theorem recs_z (p : Option Addr) (w : World) (h : Lz p w) : Calls Tryd.prog 29 #[.pointer p] w fun e w' => ∃ c, e = .returned (rcV c) ∧ Blk w' c 37 [.slice none 0 0] ∧ w.heap.size ≤ c ∧ Kept [] w w' := by
  have HZ := hide h
  clear h
  go_enter Tryd.func29, Tryd.ntmps29
  go_wp2_with (
    first
    | (refine wpAllocW [.slice none 0 0] (fun w => zero37 w) 3 (by rfl) (by rfl) (by rfl) ?_
       intro W2 c ec B2 K2
       have HB := hide B2
       have HK := hide K2
       have HG : Hid (w.heap.size ≤ c) := by rw [ec]; exact (Nat.le_refl _ : w.heap.size ≤ w.heap.size)
       have HZ2 : Hid (Lz p W2) := by
         rcases unhide HZ with h1 | ⟨z, h1, h2⟩
         · exact Or.inl h1
         · exact Or.inr ⟨z, h1, K2.cell h2 (by simp)⟩
       clear ec B2 K2
       refine Stp.go ?_))
  constructor
  go_wp2_with (
    first
    | (go_at_call 33
       refine (none_z p _ (unhide HZ2)).mono ?_
       rintro e W3 ⟨rfl, hw9⟩
       replace hw9 := hw9.symm
       subst hw9
       refine Stp.go ?_))
  constructor
  go_wp2_with fail
  go_ret
  exact ⟨c, rfl, unhide HB, unhide HG, unhide HK⟩
theorem rec52_e (n : Nat) (lp c : Nat) (W : World) (hc : Blk W c 37 [.slice none 0 0]) : CallsIn Fence.wide n Tryd.prog 52 #[.func (.yield lp) #[] #[], P0 c] W fun e W' => (∃ v, e = .returned v) ∧ Kept [] W W' := by
  have hFw := wideF
  have c1 := fits_cell hc 0 _ rfl
  rw [callsIn_wide]
  clear hc
  go_enter Tryd.func52, Tryd.ntmps52
  go_wp2_with fail
  rw [← wpIn_wide (n := n)]
  gi_loopw [7] (fun i w1 => i = .int .i64 0 ∧ Hid (Kept [] W w1)) (fun _ _ => 0)
  case atStart => exact ⟨rfl, Kept.refl _ _⟩
  case round =>
    obtain ⟨rfl, HK⟩ := hrel
    gi_wp2_with fail
    go_end0
    exact ⟨⟨_, rfl⟩, unhide HK⟩
theorem wp_rangeE (c : Nat) {gv : Operand} {ps : Array Tmp} {assign body : Code} {Q : Exit → Act → World → Prop} {a : Act} {w : World}
    (hg : a.eval gv = rcV c) (hc : Blk w c 37 [.slice none 0 0])
    (hdone : ∀ (D : Nat) (W : World), w.heap.size ≤ D → Kept [] w W → W.heap[D]? = some (.deferred (some [])) → Q .normal { a with defers := { target := .collected D, args := #[] } :: a.defers } W) :
    (Code.rangeFunc gv ps assign body).wpIn Fence.wide 3 Tryd.prog Q a w := by
  refine wpIn_rangeFunc ?_
  intro fn hfn
  obtain ⟨bk, hbk⟩ : ∃ bk : LoopState → Option Code → Loop, bk = fun st pe => { state := st, pending := pe, fn := fn, tmps := a.tmps, params := ps, assign := assign, body := body, defers := w.heap.size } := ⟨_, rfl⟩
  obtain ⟨V, hV⟩ : ∃ V, (w.alloc (.deferred (some []))).alloc (.loop (bk .ready none)) = V := ⟨_, rfl⟩
  have kV : Kept [] w V := by rw [← hV]; exact ((Kept.refl _ _).alloc _).alloc _
  have dV : V.heap[w.heap.size]? = some (.deferred (some [])) := by rw [← hV]; exact heap_alloc_old (heap_alloc_new w _)
  have lV : V.heap[w.heap.size + 1]? = some (.loop (bk .ready none)) := by
    rw [← hV]
    have e : (w.alloc (.deferred (some []))).heap.size = w.heap.size + 1 := World.size_alloc _ _
    rw [← e]
    exact heap_alloc_new _ _
  refine ⟨w.heap.size + 1, [{ target := .collected w.heap.size, args := #[] }], V, { target := .fn (.func 52) #[P0 c], args := #[.func (.yield (w.heap.size + 1)) #[] #[]] }, V, 52, #[.func (.yield (w.heap.size + 1)) #[] #[], P0 c], V, ?_, ?_, fun _ _ => trivial, ?_, fun _ => by omega, ?_⟩
  · rw [← hV, hbk]
    exact run_enterLoop_outer fn a.tmps ps assign body
  · simp only [resolve, hg, rcV]
    simp [go_sem]
  · simp [invoke, go_sem]
  refine (rec52_e 2 (w.heap.size + 1) c V (hc.kept kV (by simp))).mono ?_
  rintro e W2 ⟨⟨u, rfl⟩, k2⟩
  have l2 := k2.heap lV (by simp)
  have d2 := k2.heap dV (by simp)
  have hr := run_endLoop (P := Tryd.prog) l2 (by rw [hbk]; simp)
  rw [hbk] at hr
  exact ⟨none, _, hr, hdone _ _ (Nat.le_refl _) (kept_kept (B := w.heap.size) (kV.trans k2) (grownBy_putObj' _ _ _) (Nat.le_refl _) (fun r e => by cases e; omega)) ((World.putObj_heap_other (by omega)).trans d2)⟩

end Go.Proofs.YtmeajhdhiebkdaaDoor
