/-
  What is answered of none: the law's own function.
-/
import Derived.Test.YthihladmifpokaaRg
import Derived.Deep.CutBlock
namespace Go.Proofs.Ythihladmifpokaa
set_option maxRecDepth 100000
set_option linter.unusedSimpArgs false
open Go.RowKit Go.Shelf
attribute [local go_sem] Oper.semAt_some


variable {w W W' : World} {u : Value}
theorem blk_grown {W W' : World} {row : Option Nat} {b T : Nat} {us : List Value} (h : Blk W b T us) (hg : W.grownBy W' row) (hr : ∀ r, row = some r → ∃ o : Obj, W.heap[r]? = some o ∧ o.isCells = false) : Blk W' b T us := by
  refine h.kept (Kept.of_grown (X := row.toList) hg (fun k e _ => by rw [e]; simp)) (fun hm => ?_)
  rw [Option.mem_toList] at hm
  obtain ⟨o, h1, h2⟩ := hr b hm
  unfold Blk at h
  rw [h] at h1
  cases h1
  cases h2
theorem wpAlloc4 {ops : Array Oper} {rest : List Oper} {op : Oper} {a : Act} {w : World} {Q : Exit → Act → World → Prop} (d : Nat) (hd : op.dst = some d) (hgd : op.guard = none) (ho : op.op = .alloc 4)
    (h : ∀ W g, g = w.heap.size → Blk W g 4 [.bool false] → Kept [] w W → wpList Try.prog ops Q rest (a.put op.dst (P0 g)) W) : wpList Try.prog ops Q (op :: rest) a w :=
  wpAllocV [Value.bool false] zero4 d hd hgd ho (fun W hW => by subst hW; exact h _ _ rfl (Blk.new w 4 _) ((Kept.refl _ _).alloc _))
theorem Kept.own {w W W' : World} {X : List Nat} (h : Kept [] w W) (k : Kept X W W') (hX : ∀ i ∈ X, w.heap.size ≤ i) : Kept [] w W' := h.fresh k (fun i hi hl => by have := hX i hi; omega)
section
variable {ops : Array Oper} {rest : List Oper} {op : Oper} {a : Act} {w : World} {Q : Exit → Act → World → Prop}
theorem wpStoreV1 {T : Nat} (hs : (Try.prog.info? T).map (·.size) = some 1) (hgd : op.guard = none) (x y : Operand) (ho : op.op = .store T x y) (hd : op.dst = none) (b off : Nat) (v : Value) (h1 : One v) (hx : a.eval x = .pointer (some ⟨b, off, none⟩)) (hy : a.eval y = v) {TT : Nat} {us : List Value} (hB : Blk w b TT us) (hl : off < us.length)
    (h : ∀ W, Blk W b TT (us.set off v) → Kept [b] w W → wpList Try.prog ops Q rest a W) : wpList Try.prog ops Q (op :: rest) a w :=
  wpSt1 hs hgd x y ho hd b off 0 v h1 hx hy (Mm.one hB) rfl hl rfl (fun W hM => h W (hM.at 0 _ rfl) hM.kept)
end
theorem res19 (w : World) (b : Nat) (v : Bool) (tmps : Array Value) (h0 : tmps[2]?.getD undef = P0 b) (hb : Blk w b 4 [.bool v]) : (results Try.f19 tmps).run Try.prog w = .ok (.bool v) w := by
  have hc := fits_cell hb 0 _ rfl
  simp [results, Try.results19, h0, asAddr, go_sem, hc]
theorem one_leaves {w W : World} {D br : Nat} {tmps : Array Value} (h0 : tmps[2]?.getD undef = P0 br) (hb : Blk W br 4 [.bool true]) (hk : Kept [] w W) (h1 : W.heap[D]? = some (.deferred (some []))) (g1 : w.heap.size ≤ D) :
    LeavesInM Fence.wide 3 Try.prog Try.f19 tmps (fun e w' => e = .returned (.bool true) ∧ Kept [] w w') [{ target := .collected D, args := #[] }] .returning W := by
  have hb1 : Blk (W.putObj D (.deferred none)) br 4 [.bool true] := blk_grown hb (grownBy_putObj' W D _) (fun r e => by cases e; exact ⟨_, h1, rfl⟩)
  have k1 : Kept [] w (W.putObj D (.deferred none)) := kept_kept (B := w.heap.size) hk (grownBy_putObj' _ D (.deferred none)) (Nat.le_refl _) (fun r e => by cases e; exact g1)
  refine ⟨by simp, .inl ⟨_, _, rfl, run_takeDeferred h1, ?_⟩⟩
  exact ⟨_, res19 _ _ _ _ h0 hb1, rfl, k1⟩
theorem eq63 (c : Value) (W : World) : Sem.run Try.prog (binOp BinOp.eql 63 (.func (.func 45) #[] #[c]) .nilFunc) W = .ok (.bool false) W := by kernel_rfl
theorem num14 (n : Int) (w : World) : Calls Try.prog 14 #[.int .i64 n] w fun e W => e = .returned (.int .i64 n) ∧ W = w := by
  go_enter Try.func14, Try.ntmps14
  go_wp2
  go_ret
  exact ⟨rfl, rfl⟩
theorem bs23 (w : World) (x y : Int) : (Instr.buildSlice 23 2 #[(0, .int .i64 x), (1, .int .i64 y)]).run Try.prog w = .ok (.slice (some ⟨w.heap.size, 0, none⟩) 2 2) (w.alloc (.cells #[.int .i64 x, .int .i64 y] 2)) := by kernel_rfl
section
variable {ops : Array Oper} {rest : List Oper} {op o : Oper} {a : Act} {w : World} {K : Act → World → Prop} {Q : Exit → Act → World → Prop}
theorem o_bs23 (x y : Operand) (ho : o.op = .buildSlice 23 2 #[(0, x), (1, y)]) (m n : Int) (hx : a.eval x = .int .i64 m) (hy : a.eval y = .int .i64 n) (h : ∀ W g, g = w.heap.size → Blk W g 2 (inC [m, n]) → Kept [] w W → K (a.put o.dst (.slice (some ⟨g, 0, none⟩) 2 2)) W) : o.wp Try.prog a w K Q := by
  unfold Oper.wp execOp
  simp only [ho, List.map_toArray, List.map_cons, List.map_nil, hx, hy, Sem.run_bind, bs23, Result.andThen_ok]
  exact h _ _ rfl (Blk.new _ _ _) ((Kept.refl _ _).alloc _)
theorem wpBs23W (hw : Region.wanted op (yielded ops a.tmps) = true) (x y : Operand) (ho : op.op = .buildSlice 23 2 #[(0, x), (1, y)]) (m n : Int) (hx : a.eval x = .int .i64 m) (hy : a.eval y = .int .i64 n) (h : ∀ W g, g = w.heap.size → Blk W g 2 (inC [m, n]) → Kept [] w W → wpList Try.prog ops Q rest (a.put op.dst (.slice (some ⟨g, 0, none⟩) 2 2)) W) : wpList Try.prog ops Q (op :: rest) a w :=
  BigFrame.wpList_want hw fun _ hK => o_bs23 x y ho m n hx hy (fun W g h1 h2 h3 => hK _ _ (h W g h1 h2 h3))
end
theorem Is.two {g : Nat} {m n : Int} (h : Blk w g 2 (inC [m, n])) : Is w (.slice (some ⟨g, 0, none⟩) 2 2) [m, n] := Rw.made (n := 2) (z := 1) h rfl (by unfold maxLen; omega)
set_option maxHeartbeats 8000000 in
theorem nothing_in (p : Option Addr) (w : World) (hv : Nil w (.pointer p)) : CallsIn Fence.wide 3 Try.prog 19 #[.pointer p] w fun e w' => e = .returned (.bool true) ∧ Kept [] w w' := by
  have hFw := wideF
  have HV := hide hv
  have HK := hide (Kept.refl [] w)
  clear hv
  refine callsIn_of_wp_marks Try.func19 rfl trivial ?_ rfl
  simp only [Try.ntmps19, List.size_toArray, List.length_cons, List.length_nil, Nat.reduceAdd, Nat.reduceSub, Array.replicate_succ, Array.replicate_zero, List.push_toArray, List.append_toArray, List.nil_append, List.cons_append]
  rw [wpIn_wide]
  go_wp2_with (
    first
    | (refine wpAlloc4 2 rfl rfl rfl ?_
       intro W1 gr e1 B1 K1
       have HBR := hide B1
       have HGR : Hid (w.heap.size ≤ gr) := by show _ ≤ _; omega
       replace HK := hide ((unhide HK).trans K1)
       clear e1 B1 K1
       refine Stp.go ?_))
  constructor
  go_wp2_with (
    first
    | (go_at_call 17
       refine (disc17_z ((unhide HV).step (unhide HK))).mono ?_
       rintro e V17 ⟨rfl, K9⟩
       replace HK := hide ((unhide HK).trans K9)
       replace HBR := hide ((unhide HBR).kept K9 (by simp))
       clear K9
       refine Stp.go ?_))
  constructor
  go_wp2_with (
    first
    | (go_at_call 20
       refine (oldest20_z ((unhide HV).step (unhide HK))).mono ?_
       rintro e V20 ⟨rfl, K9⟩
       replace HK := hide ((unhide HK).trans K9)
       replace HBR := hide ((unhide HBR).kept K9 (by simp))
       clear K9
       refine Stp.go ?_))
  constructor
  go_wp2_with (
    first
    | (refine wpNew row54 mk0.C rfl zero54 5 rfl rfl rfl (.tmp 16) rfl rfl rfl mk0.C rfl mk0.one rfl rfl ?_
       intro W3 y e2 B2 K9
       replace HK := hide ((unhide HK).trans K9)
       replace HBR := hide ((unhide HBR).kept K9 (by simp))
       clear e2 B2 K9
       refine Stp.go ?_))
  constructor
  go_wp2_with (
    first
    | (go_at_call 30
       refine (all30 p _).mono ?_
       rintro e W2 ⟨c, rfl, hb2, _, K9⟩
       have HC := hide hb2
       have hq63 := eq63 (P0 c)
       replace HK := hide ((unhide HK).trans K9)
       replace HBR := hide ((unhide HBR).kept K9 (by simp))
       clear hb2 K9
       refine Stp.go ?_))
  constructor
  go_wp2_with fail
  clear hq63
  rw [← wpIn_wide (n := 3)]
  refine wp_rangeE 2 45 c rfl cg45 (fun lp V hk => all45_e 2 lp c _ V ((unhide HC).kept hk (by simp)) (((unhide HV).step (unhide HK)).step hk)) ?_
  intro D X hD kD hX
  have HDG : Hid (w.heap.size ≤ D) := Nat.le_trans (unhide HK).size hD
  replace HK := hide ((unhide HK).trans kD)
  replace HBR := hide ((unhide HBR).kept kD (by simp))
  have HX := hide hX
  clear kD hX hD
  go_upto_region 8 with fail
  try simp only [List.append_eq, List.cons_append, List.nil_append]
  go_wp2_with (
    first
    | (go_at_call 13
       refine (mark13_z ((unhide HV).step (unhide HK))).mono ?_
       rintro e W9 ⟨rfl, q9⟩
       replace q9 := q9.symm
       subst q9
       refine Stp.go ?_))
  constructor
  go_wp2_with (
    first
    | (go_at_call 14
       refine (num14 _ _).mono ?_
       rintro e W9 ⟨rfl, q9⟩
       replace q9 := q9.symm
       subst q9
       refine Stp.go ?_))
  constructor
  go_wp2_with (
    first
    | (go_at_call 14
       refine (num14 _ _).mono ?_
       rintro e W9 ⟨rfl, q9⟩
       replace q9 := q9.symm
       subst q9
       refine Stp.go ?_))
  constructor
  go_wp2_with (
    first
    | (refine wpBs23W (by kernel_rfl) (.const (.int .i64 0)) (.const (.int .i64 5)) rfl 0 5 rfl rfl ?_
       intro V39 g39 e39 B39 K9
       have HI := hide (Is.two B39)
       replace HK := hide ((unhide HK).trans K9)
       replace HBR := hide ((unhide HBR).kept K9 (by simp))
       replace HX := hide (K9.heap (unhide HX) (by simp))
       clear e39 B39 K9
       refine Stp.go ?_))
  constructor
  go_wp2_with (
    first
    | (go_at_call 15
       refine (bound15_z ((unhide HV).step (unhide HK)) (unhide HI) 9).mono ?_
       rintro e V15 ⟨rfl, K9⟩
       rw [show boundF 9 [0, 5] = 5 from by decide]
       replace HK := hide ((unhide HK).trans K9)
       replace HBR := hide ((unhide HBR).kept K9 (by simp))
       replace HX := hide (K9.heap (unhide HX) (by simp))
       clear K9
       refine Stp.go ?_))
  constructor
  go_wp2_with (
    first
    | (go_at_call 16
       refine (has16_z ((unhide HV).step (unhide HK))).mono ?_
       rintro e V16 ⟨rfl, K9⟩
       replace HK := hide ((unhide HK).trans K9)
       replace HBR := hide ((unhide HBR).kept K9 (by simp))
       replace HX := hide (K9.heap (unhide HX) (by simp))
       clear K9
       refine Stp.go ?_))
  constructor
  go_wp2_with (
    first
    | (go_at_call 29
       refine (of29_z ((unhide HV).step (unhide HK))).mono ?_
       rintro e V29 ⟨rfl, K9⟩
       replace HK := hide ((unhide HK).trans K9)
       replace HBR := hide ((unhide HBR).kept K9 (by simp))
       replace HX := hide (K9.heap (unhide HX) (by simp))
       clear K9
       refine Stp.go ?_))
  constructor
  go_wp2_with (
    first
    | (go_at_call 18
       refine (len18_z ((unhide HV).step (unhide HK))).mono ?_
       rintro e W9 ⟨rfl, q9⟩
       replace q9 := q9.symm
       subst q9
       refine Stp.go ?_))
  constructor
  go_wp2_with (
    first
    | (go_at_call 23
       refine (clear23_z ((unhide HV).step (unhide HK))).mono ?_
       rintro e W9 ⟨rfl, q9⟩
       replace q9 := q9.symm
       subst q9
       refine Stp.go ?_))
  constructor
  go_wp2_with (
    first
    | (go_at_call 25
       refine (copy25_z ((unhide HV).step (unhide HK))).mono ?_
       rintro e W9 ⟨rfl, q9⟩
       replace q9 := q9.symm
       subst q9
       refine Stp.go ?_))
  constructor
  go_wp2_with (
    first
    | (go_at_call 11
       refine (same11_zz ((unhide HV).step (unhide HK)) (.inl rfl)).mono ?_
       rintro e V11 ⟨rfl, K9⟩
       replace HK := hide ((unhide HK).trans K9)
       replace HBR := hide ((unhide HBR).kept K9 (by simp))
       replace HX := hide (K9.heap (unhide HX) (by simp))
       clear K9
       refine Stp.go ?_))
  constructor
  go_wp2_with (
    first
    | (refine wpStoreV1 size4 rfl (.tmp 2) (.tmp 72) rfl rfl gr 0 (.bool true) ⟨rfl, rfl⟩ rfl rfl (unhide HBR) (by decide) ?_
       intro W8 B8 K8
       have hM := hide B8
       have HK8 := hide K8
       clear B8 K8
       refine Stp.go ?_))
  constructor
  go_wp2_with fail
  have hX8 : W8.heap[D]? = some (.deferred (some [])) := (unhide HK8).heap (unhide HX) (by
    have h1 := (unhide HBR)
    have h2 := unhide HX
    unfold Blk at h1
    simp
    intro e
    subst e
    rw [h2] at h1
    cases h1)
  refine one_leaves rfl (unhide hM) ?_ hX8 (unhide HDG)
  exact (unhide HK).own (unhide HK8) (by simp; exact unhide HGR)
theorem nothing19 (hv : Nil w u) : Calls Try.prog 19 #[u] w fun e w' => e = .returned (.bool true) ∧ Kept [] w w' := by
  obtain ⟨p, rfl⟩ := hv.ptr
  have h9 := nothing_in p w hv
  rw [callsIn_wide] at h9
  exact h9

end Go.Proofs.Ythihladmifpokaa
