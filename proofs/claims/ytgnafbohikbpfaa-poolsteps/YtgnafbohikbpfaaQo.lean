/-
  What is answered of no pool.
-/
import Derived.Test.YtgnafbohikbpfaaQn
import Derived.RangeFuncNested
import Derived.RangeFuncBound
import Derived.RangeFuncCalls
import Derived.RangeFuncLeaves
import Derived.Shelf.Abstract
import Derived.Shelf.RegionOpen
import Derived.OwnWalkIn
import Derived.TacticsInMore
import Derived.RangeFuncWrites
namespace Go.Proofs.Ytgnafbohikbpfaa
set_option maxRecDepth 100000
set_option linter.unusedSimpArgs false
open Go.RowKit Go.Shelf
attribute [local go_sem] Oper.semAt_some

theorem wideF (f : FuncId) : Fence.wide.fn f := trivial
theorem kept_kept {w W W' : World} {row : Option Nat} {B : Nat} (h : Kept [] w W) (hg : W.grownBy W' row) (hB : w.heap.size ≤ B) (hr : ∀ r, row = some r → B ≤ r) : Kept [] w W' :=
  h.fresh (X := row.toList) (Kept.of_grown hg (fun k e _ => by rw [e]; simp)) (fun i hi hl => by rw [Option.mem_toList] at hi; have := hr i hi; omega)
theorem wpBoxY {ops : Array Oper} {rest : List Oper} {op : Oper} {a : Act} {w : World} {Q : Exit → Act → World → Prop} {T : Nat} (hgd : op.guard = none) (x : Operand) (ho : op.op = .box T x) (lp : Nat) (hx : a.eval x = .func (.yield lp) #[] #[])
    (h : ∀ W b, b = w.heap.size → Blk W b T [.func (.yield lp) #[] #[]] → Kept [] w W → wpList Try.prog ops Q rest (a.put op.dst (P0 b)) W) : wpList Try.prog ops Q (op :: rest) a w :=
  wpList_plain hgd fun _ hK => by
    unfold Oper.wp execOp
    simp only [ho, hx]
    exact hK _ _ (h _ _ rfl (Blk.new w T _) ((Kept.refl _ _).alloc _))

variable {w0 w W W' : World} {b mb : Nat} {P Q : Po} {L : List En} {pg : Int} {q k : Nat}
theorem Nil.ptr {v : Value} (h : Nil w v) : ∃ p, v = .pointer p := by
  rcases h with rfl | ⟨b, rfl, _⟩
  · exact ⟨_, rfl⟩
  · exact ⟨_, rfl⟩
theorem wpBoxQ {ops : Array Oper} {rest : List Oper} {op : Oper} {a : Act} {w : World} {Q : Exit → Act → World → Prop} {T : Nat} (hgd : op.guard = none) (x : Operand) (ho : op.op = .box T x) (p : Option Addr) (hx : a.eval x = .pointer p)
    (h : ∀ W b, b = w.heap.size → Blk W b T [.pointer p] → Kept [] w W → wpList Try.prog ops Q rest (a.put op.dst (P0 b)) W) : wpList Try.prog ops Q (op :: rest) a w :=
  wpList_plain hgd fun _ hK => by
    unfold Oper.wp execOp
    simp only [ho, hx]
    exact hK _ _ (h _ _ rfl (Blk.new w T _) ((Kept.refl _ _).alloc _))
def fnV (F c : Nat) : Value := .func (.func F) #[] #[P0 c]
theorem all40 (p : Option Addr) (w : World) : Calls Try.prog 40 #[.pointer p] w fun e w' => ∃ c, e = .returned (fnV 49 c) ∧ Blk w' c 23 [.pointer p] ∧ w.heap.size ≤ c ∧ Kept [] w w' := by
  go_enter Try.func40, Try.ntmps40
  go_wp2_with (
    first
    | (refine wpBoxQ rfl (.tmp 0) rfl p rfl ?_
       intro W1 c e1 B1 K1
       have HB := hide B1
       have HG : Hid (w.heap.size ≤ c) := by show _ ≤ _; omega
       have HK := hide K1
       clear e1 B1 K1
       refine Stp.go ?_))
  constructor
  go_wp2_with fail
  go_ret
  exact ⟨c, rfl, unhide HB, unhide HG, unhide HK⟩
theorem rising50 (p : Option Addr) (w : World) : Calls Try.prog 50 #[.pointer p] w fun e w' => ∃ c, e = .returned (fnV 55 c) ∧ Blk w' c 23 [.pointer p] ∧ w.heap.size ≤ c ∧ Kept [] w w' := by
  go_enter Try.func50, Try.ntmps50
  go_wp2_with (
    first
    | (refine wpBoxQ rfl (.tmp 0) rfl p rfl ?_
       intro W1 c e1 B1 K1
       have HB := hide B1
       have HG : Hid (w.heap.size ≤ c) := by show _ ≤ _; omega
       have HK := hide K1
       clear e1 B1 K1
       refine Stp.go ?_))
  constructor
  go_wp2_with fail
  go_ret
  exact ⟨c, rfl, unhide HB, unhide HG, unhide HK⟩
/-- Going over the frames of no pool. -/
theorem rising55_e (n lp c : Nat) (v : Value) (W : World) (hc : Blk W c 23 [v]) (hv : Nil W v) : CallsIn Fence.wide n Try.prog 55 #[.func (.yield lp) #[] #[], P0 c] W fun e W' => (∃ u, e = .returned u) ∧ Kept [] W W' := by
  have HC := hide hc
  have HV := hide hv
  have HK := hide (Kept.refl [] W)
  obtain ⟨zc, hzc⟩ : ∃ c, c = fr0.C := ⟨_, rfl⟩
  have HZ39 : Hid (∀ w : World, (Instr.alloc 39 true (.tuple #[])).run Try.prog w = .ok (P0 w.heap.size) (w.alloc (.cells zc.toArray 39))) := fun w => by rw [hzc]; exact zero39 w
  have HLZ : Hid (zc.length = 102 ∧ ∀ v ∈ zc, v.oneCell' = true) := by rw [hzc]; exact ⟨Fr.len _, Fr.one _⟩
  have P15 : Hid (∀ W, Nil W v → ∀ n : Int, Calls Try.prog 15 #[v, .int .i64 n] W fun e w' => e = .returned (.tuple #[aggV zc, .bool false]) ∧ Kept [] W w') := fun W h n => by
    rw [hzc]
    exact look_err W v n 1 (.inl rfl) (fun W2 hk => find42_z W2 v (h.step hk) n)
  clear hc hv hzc
  rw [callsIn_wide]
  go_enter Try.func55, Try.ntmps55
  go_wp2_with fail
  go_loopw [6] (fun i wr => ∃ k : Nat, k ≤ 16 ∧ i = .int .i64 k ∧ Hid (Kept [] W wr)) (fun i _ => 16 - (intOf i).toNat)
  case atStart => exact ⟨0, by omega, rfl, HK⟩
  case round =>
    clear HK
    obtain ⟨k, hk, rfl, HK⟩ := hrel
    by_cases hlt : k < 16
    · have hd : decide ((k : Int) < 16) = true := by simp; omega
      go_wp2_with (
        first
        | (refine wpLd23 rfl (.tmp 1) rfl ⟨c, 0, none⟩ v rfl ((unhide HK).cell (fits_cell (unhide HC) 0 _ rfl) (by simp)) ?_
           refine Stp.go ?_))
      constructor
      go_wp2_with (
        first
        | (go_at_call 15
           refine (unhide P15 _ ((unhide HV).step (unhide HK)) _).mono ?_
           rintro e W2 ⟨rfl, K2⟩
           replace HK := hide ((unhide HK).trans K2)
           clear K2
           refine Stp.go ?_))
      constructor
      go_wp2_with (
        first
        | (refine wpNew row39 zc (unhide HLZ).1 (unhide HZ39) 4 rfl rfl rfl (.tmp 13) rfl rfl rfl zc (unhide HLZ).1 (unhide HLZ).2 (by kernel_rfl) (by kernel_rfl) ?_
           intro W3 g3 e3 B3 K3
           replace HK := hide ((unhide HK).trans K3)
           clear e3 B3 K3
           refine Stp.go ?_))
      constructor
      go_wp2_with fail
      go_roundw
      case rel => exact ⟨k + 1, by omega, by go_num, HK⟩
      case measure => simp [intOf]; omega
    · obtain rfl : k = 16 := by omega
      have hd : decide (((16 : Nat) : Int) < 16) = false := by decide
      go_wp2_with fail
      go_end0
      exact ⟨⟨_, rfl⟩, unhide HK⟩
theorem cg55 (vs : Array Value) (w : World) : (callFunc 55 vs).run Try.prog w = .ok (.enter 55 vs) w := by kernel_rfl
theorem cg49 (vs : Array Value) (w : World) : (callFunc 49 vs).run Try.prog w = .ok (.enter 49 vs) w := by kernel_rfl
/-- A range over what goes over nothing. -/
theorem wp_rangeE (n F c : Nat) {gv : Operand} {ps : Array Tmp} {assign body : Code} {Q : Exit → Act → World → Prop} {a : Act} {w : World}
    (hg : a.eval gv = fnV F c) (hcf : ∀ (vs : Array Value) (w : World), (callFunc F vs).run Try.prog w = .ok (.enter F vs) w) (hI : ∀ lp V, Kept [] w V → CallsIn Fence.wide n Try.prog F #[.func (.yield lp) #[] #[], P0 c] V fun e W' => (∃ v, e = .returned v) ∧ Kept [] V W')
    (hdone : ∀ (D : Nat) (W : World), w.heap.size ≤ D → Kept [] w W → W.heap[D]? = some (.deferred (some [])) → Q .normal { a with defers := { target := .collected D, args := #[] } :: a.defers } W) :
    (Code.rangeFunc gv ps assign body).wpIn Fence.wide (n + 1) Try.prog Q a w := by
  refine wpIn_rangeFunc ?_
  intro fn hfn
  obtain ⟨bk, hbk⟩ : ∃ bk : LoopState → Option Code → Loop, bk = fun st pe => { state := st, pending := pe, fn := fn, tmps := a.tmps, params := ps, assign := assign, body := body, defers := w.heap.size } := ⟨_, rfl⟩
  obtain ⟨V, hV⟩ : ∃ V, (w.alloc (.deferred (some []))).alloc (.loop (bk .ready none)) = V := ⟨_, rfl⟩
  have kV : Kept [] w V := by rw [← hV]; exact ((Kept.refl _ _).alloc _).alloc _
  have dV : V.heap[w.heap.size]? = some (.deferred (some [])) := by rw [← hV]; exact heap_alloc_old (heap_alloc_new w _)
  have lV : V.heap[w.heap.size + 1]? = some (.loop (bk .ready none)) := by
    rw [← hV]
    have e : (w.alloc (.deferred (some []))).heap.size = w.heap.size + 1 := World.size_alloc _ _
    rw [← e]
    exact heap_alloc_new _ _
  refine ⟨w.heap.size + 1, [{ target := .collected w.heap.size, args := #[] }], V, { target := .fn (.func F) #[P0 c], args := #[.func (.yield (w.heap.size + 1)) #[] #[]] }, V, F, #[.func (.yield (w.heap.size + 1)) #[] #[], P0 c], V, ?_, ?_, fun _ _ => trivial, ?_, fun _ => by omega, ?_⟩
  · rw [← hV, hbk]
    exact run_enterLoop_outer fn a.tmps ps assign body
  · simp only [resolve, hg, fnV]
    simp [go_sem]
  · simp [invoke, go_sem]
    exact hcf _ _
  refine (hI (w.heap.size + 1) V kV).mono ?_
  rintro e W2 ⟨⟨u, rfl⟩, k2⟩
  have l2 := k2.heap lV (by simp)
  have d2 := k2.heap dV (by simp)
  have hr := run_endLoop (P := Try.prog) l2 (by rw [hbk]; simp)
  rw [hbk] at hr
  exact ⟨none, _, hr, hdone _ _ (Nat.le_refl _) (kept_kept (B := w.heap.size) (kV.trans k2) (grownBy_putObj' _ _ _) (Nat.le_refl _) (fun r e => by cases e; omega)) ((World.putObj_heap_other (by omega)).trans d2)⟩
theorem all49_e (n lp c : Nat) (p : Option Addr) (w : World) (hc : Blk w c 23 [.pointer p]) (hv : Nil w (.pointer p)) : CallsIn Fence.wide (n + 1) Try.prog 49 #[.func (.yield lp) #[] #[], P0 c] w fun e W' => (∃ v, e = .returned v) ∧ Kept [] w W' := by
  have hFw := wideF
  have HC := hide hc
  have HV := hide hv
  clear hc hv
  refine callsIn_of_wp_marks Try.func49 rfl trivial ?_ rfl
  simp only [Try.ntmps49, List.size_toArray, List.length_cons, List.length_nil, Nat.reduceAdd, Nat.reduceSub, Array.replicate_succ, Array.replicate_zero, List.push_toArray, List.append_toArray, List.nil_append, List.cons_append]
  rw [wpIn_wide]
  go_wp2_with (
    first
    | (refine wpBoxY rfl (.tmp 0) rfl lp rfl ?_
       intro W1 b4 e1 B1 K1
       have HK := hide K1
       clear e1 B1 K1
       refine Stp.go ?_))
  constructor
  go_wp2_with (
    first
    | (refine wpLd23 rfl (.tmp 1) rfl ⟨c, 0, none⟩ (.pointer p) rfl ((unhide HK).cell (fits_cell (unhide HC) 0 _ rfl) (by simp)) ?_
       refine Stp.go ?_))
  constructor
  go_wp2_with (
    first
    | (go_at_call 23
       refine (copy23_z _ ((unhide HV).step (unhide HK))).mono ?_
       rintro e W9 ⟨rfl, q9⟩
       replace q9 := q9.symm
       subst q9
       refine Stp.go ?_))
  constructor
  go_wp2_with (
    first
    | (go_at_call 50
       refine (rising50 none _).mono ?_
       rintro e W2 ⟨c2, rfl, hb2, _, K2⟩
       unfold fnV
       have HB2 := hide hb2
       replace HK := hide ((unhide HK).trans K2)
       clear hb2 K2
       refine Stp.go ?_))
  constructor
  go_wp2_with fail
  rw [← wpIn_wide (n := n + 1)]
  refine wp_rangeE n 55 c2 rfl cg55 (fun lp V hk => rising55_e n lp c2 (.pointer none) V ((unhide HB2).kept hk (by simp)) (.inl rfl)) ?_
  intro D X hD kD hX
  have HK9 := hide ((unhide HK).trans kD)
  have HX := hide hX
  have HDG : Hid (w.heap.size ≤ D) := Nat.le_trans (unhide HK).size hD
  clear kD hX hD
  go_wp2_with fail
  refine (show LeavesInM Fence.wide (n + 1) Try.prog Try.f49 _ _ [{ target := .collected D, args := #[] }] .returning X from ?_)
  refine ⟨by simp, .inl ⟨_, _, rfl, run_takeDeferred (unhide HX), ?_⟩⟩
  exact ⟨_, results_none rfl _ _ _, ⟨_, rfl⟩, kept_kept (B := w.heap.size) (unhide HK9) (grownBy_putObj' X D _) (Nat.le_refl _) (fun r e => by cases e; exact unhide HDG)⟩

end Go.Proofs.Ytgnafbohikbpfaa
