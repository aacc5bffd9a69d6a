/-
  What is answered of no pool: the law's own function.
-/
import Derived.Test.YtgnafbohikbpfaaQo
import Derived.Deep.CutBlock
namespace Go.Proofs.Ytgnafbohikbpfaa
set_option maxRecDepth 100000
set_option linter.unusedSimpArgs false
open Go.RowKit Go.Shelf
attribute [local go_sem] Oper.semAt_some


variable {w0 w W W' : World} {b mb : Nat} {P Q : Po} {L : List En} {pg : Int} {q k : Nat}
theorem blk_grown {W W' : World} {row : Option Nat} {b T : Nat} {us : List Value} (h : Blk W b T us) (hg : W.grownBy W' row) (hr : ∀ r, row = some r → ∃ o : Obj, W.heap[r]? = some o ∧ o.isCells = false) : Blk W' b T us := by
  refine h.kept (Kept.of_grown (X := row.toList) hg (fun k e _ => by rw [e]; simp)) (fun hm => ?_)
  rw [Option.mem_toList] at hm
  obtain ⟨o, h1, h2⟩ := hr b hm
  unfold Blk at h
  rw [h] at h1
  cases h1
  cases h2
theorem zero4 (w : World) : (Instr.alloc 4 true (.tuple #[])).run Try.prog w = .ok (P0 w.heap.size) (w.alloc (.cells [Value.bool false].toArray 4)) := by kernel_rfl
theorem wpAlloc4 {ops : Array Oper} {rest : List Oper} {op : Oper} {a : Act} {w : World} {Q : Exit → Act → World → Prop} (d : Nat) (hd : op.dst = some d) (hgd : op.guard = none) (ho : op.op = .alloc 4)
    (h : ∀ W g, g = w.heap.size → Blk W g 4 [.bool false] → Kept [] w W → wpList Try.prog ops Q rest (a.put op.dst (P0 g)) W) : wpList Try.prog ops Q (op :: rest) a w :=
  wpAllocV [Value.bool false] zero4 d hd hgd ho (fun W hW => by subst hW; exact h _ _ rfl (Blk.new w 4 _) ((Kept.refl _ _).alloc _))
theorem res25 (w : World) (b : Nat) (v : Bool) (tmps : Array Value) (h0 : tmps[2]?.getD undef = P0 b) (hb : Blk w b 4 [.bool v]) : (results Try.f25 tmps).run Try.prog w = .ok (.bool v) w := by
  have hc := fits_cell hb 0 _ rfl
  simp [results, Try.results25, h0, asAddr, go_sem, hc]
theorem one_leaves {w W : World} {D br : Nat} {tmps : Array Value} (h0 : tmps[2]?.getD undef = P0 br) (hb : Blk W br 4 [.bool true]) (hk : Kept [] w W) (h1 : W.heap[D]? = some (.deferred (some []))) (g1 : w.heap.size ≤ D) :
    LeavesInM Fence.wide 3 Try.prog Try.f25 tmps (fun e w' => e = .returned (.bool true) ∧ Kept [] w w') [{ target := .collected D, args := #[] }] .returning W := by
  have hb1 : Blk (W.putObj D (.deferred none)) br 4 [.bool true] := blk_grown hb (grownBy_putObj' W D _) (fun r e => by cases e; exact ⟨_, h1, rfl⟩)
  have k1 : Kept [] w (W.putObj D (.deferred none)) := kept_kept (B := w.heap.size) hk (grownBy_putObj' _ D (.deferred none)) (Nat.le_refl _) (fun r e => by cases e; exact g1)
  refine ⟨by simp, .inl ⟨_, _, rfl, run_takeDeferred h1, ?_⟩⟩
  exact ⟨_, res25 _ _ _ _ h0 hb1, rfl, k1⟩
theorem eq81 (c : Value) (W : World) : Sem.run Try.prog (binOp BinOp.eql 81 (.func (.func 49) #[] #[c]) .nilFunc) W = .ok (.bool false) W := by kernel_rfl
theorem o_eqlN (x : Operand) {o : Oper} {a : Act} {w : World} {K : Act → World → Prop} {Q : Exit → Act → World → Prop} (ho : o.op = .binOp .eql 23 x (.const (.pointer none)) 23) (hx : a.eval x = .pointer none) (h : K (a.put o.dst (.bool true)) w) : o.wp Try.prog a w K Q := by
  unfold Oper.wp execOp
  simp only [ho, hx]
  have h0 : a.eval (.const (.pointer none)) = .pointer none := rfl
  simp [go_sem, h0]
  exact h
theorem cg19 (vs : Array Value) (w : World) : (callFunc 19 vs).run Try.prog w = .ok (.enter 19 vs) w := by kernel_rfl
theorem cg21 (vs : Array Value) (w : World) : (callFunc 21 vs).run Try.prog w = .ok (.enter 21 vs) w := by kernel_rfl
theorem cg26 (vs : Array Value) (w : World) : (callFunc 26 vs).run Try.prog w = .ok (.enter 26 vs) w := by kernel_rfl
theorem cg24 (vs : Array Value) (w : World) : (callFunc 24 vs).run Try.prog w = .ok (.enter 24 vs) w := by kernel_rfl
theorem cg33 (vs : Array Value) (w : World) : (callFunc 33 vs).run Try.prog w = .ok (.enter 33 vs) w := by kernel_rfl
theorem cg23 (vs : Array Value) (w : World) : (callFunc 23 vs).run Try.prog w = .ok (.enter 23 vs) w := by kernel_rfl
theorem cg13 (vs : Array Value) (w : World) : (callFunc 13 vs).run Try.prog w = .ok (.enter 13 vs) w := by kernel_rfl
theorem cg27 (vs : Array Value) (w : World) : (callFunc 27 vs).run Try.prog w = .ok (.enter 27 vs) w := by kernel_rfl
set_option maxHeartbeats 8000000 in
theorem nothing_in (p : Option Addr) (w : World) (hv : Nil w (.pointer p)) : CallsIn Fence.wide 3 Try.prog 25 #[.pointer p] w fun e w' => e = .returned (.bool true) ∧ Kept [] w w' := by
  have hFw := wideF
  have HV := hide hv
  have HK := hide (Kept.refl [] w)
  obtain ⟨zc, hzc⟩ : ∃ c, c = fr0.C := ⟨_, rfl⟩
  obtain ⟨fc, hfc⟩ : ∃ c, c = (frS 1).C := ⟨_, rfl⟩
  have HZ39 : Hid (∀ w : World, (Instr.alloc 39 true (.tuple #[])).run Try.prog w = .ok (P0 w.heap.size) (w.alloc (.cells zc.toArray 39))) := fun w => by rw [hzc]; exact zero39 w
  have HLZ : Hid (zc.length = 102 ∧ ∀ v ∈ zc, v.oneCell' = true) := by rw [hzc]; exact ⟨Fr.len _, Fr.one _⟩
  have PF : Hid (∀ W, Nil W (.pointer p) → ∀ (n : Int) W2, Kept [] W W2 → Calls Try.prog 42 #[.pointer p, .int .i64 n] W2 fun e w' => e = .returned (.tuple #[.pointer none, .int .i64 1]) ∧ w' = W2) := fun W h n W2 hk => find42_z W2 _ (h.step hk) n
  have P15 : Hid (∀ W, Nil W (.pointer p) → ∀ n : Int, Calls Try.prog 15 #[.pointer p, .int .i64 n] W fun e w' => e = .returned (.tuple #[aggV zc, .bool false]) ∧ Kept [] W w') := fun W h n => by rw [hzc]; exact look_err W _ n 1 (.inl rfl) (unhide PF W h n)
  have P18 : Hid (∀ W, Nil W (.pointer p) → ∀ n : Int, Calls Try.prog 18 #[.pointer p, .int .i64 n] W fun e w' => e = .returned (.tuple #[aggV zc, .int .i64 1]) ∧ Kept [] W w') := fun W h n => by rw [hzc]; exact get_err W _ n 1 (.inl rfl) (unhide PF W h n)
  have P22 : Hid (∀ W, Nil W (.pointer p) → ∀ n : Int, Calls Try.prog 22 #[.pointer p, .int .i64 n] W fun e w' => e = .returned (.tuple #[aggV zc, .int .i64 1]) ∧ Kept [] W w') := fun W h n => by rw [hzc]; exact drop_err W _ n 1 (.inl rfl) (unhide PF W h n)
  have P20 : Hid (∀ W, Calls Try.prog 20 #[.int .i64 1] W fun e w' => e = .returned (aggV fc) ∧ Kept [] W w') := fun W => by rw [hfc]; exact frame20 1 W
  have P19 : Hid (∀ W, Nil W (.pointer p) → Calls Try.prog 19 #[.pointer p, aggV fc] W fun e w' => e = .returned (.int .i64 1) ∧ Kept [] W w') := fun W h => by rw [hfc]; exact set19_z _ (frS 1) h
  clear hv hzc hfc
  refine callsIn_of_wp_marks Try.func25 rfl trivial ?_ rfl
  simp only [Try.ntmps25, List.size_toArray, List.length_cons, List.length_nil, Nat.reduceAdd, Nat.reduceSub, Array.replicate_succ, Array.replicate_zero, List.push_toArray, List.append_toArray, List.nil_append, List.cons_append]
  rw [wpIn_wide]
  go_wp2_with (
    first
    | (refine wpAlloc4 2 rfl rfl rfl ?_
       intro W1 gr e1 B1 K1
       have HBR := hide B1
       have HGR : Hid (w.heap.size ≤ gr) := by show _ ≤ _; omega
       replace HK := hide ((unhide HK).trans K1)
       clear e1 B1 K1
       refine Stp.go ?_))
  constructor
  go_wp2_with (
    first
    | (go_at_call 18
       refine (unhide P18 _ ((unhide HV).step (unhide HK)) 0).mono ?_
       rintro e W18 ⟨rfl, K18⟩
       replace HK := hide ((unhide HK).trans K18)
       replace HBR := hide ((unhide HBR).kept K18 (by simp))
       clear K18
       refine Stp.go ?_))
  constructor
  go_wp2_with (
    first
    | (refine wpNew row39 zc (unhide HLZ).1 (unhide HZ39) 3 rfl rfl rfl (.tmp 15) rfl rfl rfl zc (unhide HLZ).1 (unhide HLZ).2 (by kernel_rfl) (by kernel_rfl) ?_
       intro V3 g3 e3 B3 K3
       replace HK := hide ((unhide HK).trans K3)
       replace HBR := hide ((unhide HBR).kept K3 (by simp))
       clear e3 B3 K3
       refine Stp.go ?_))
  constructor
  go_wp2_with (
    first
    | (go_at_call 15
       refine (unhide P15 _ ((unhide HV).step (unhide HK)) 0).mono ?_
       rintro e W15 ⟨rfl, K15⟩
       replace HK := hide ((unhide HK).trans K15)
       replace HBR := hide ((unhide HBR).kept K15 (by simp))
       clear K15
       refine Stp.go ?_))
  constructor
  go_wp2_with (
    first
    | (refine wpNew row39 zc (unhide HLZ).1 (unhide HZ39) 5 rfl rfl rfl (.tmp 20) rfl rfl rfl zc (unhide HLZ).1 (unhide HLZ).2 (by kernel_rfl) (by kernel_rfl) ?_
       intro V5 g5 e5 B5 K5
       replace HK := hide ((unhide HK).trans K5)
       replace HBR := hide ((unhide HBR).kept K5 (by simp))
       clear e5 B5 K5
       refine Stp.go ?_))
  constructor
  go_wp2_with (
    first
    | (go_at_call 22
       refine (unhide P22 _ ((unhide HV).step (unhide HK)) 0).mono ?_
       rintro e W22 ⟨rfl, K22⟩
       replace HK := hide ((unhide HK).trans K22)
       replace HBR := hide ((unhide HBR).kept K22 (by simp))
       clear K22
       refine Stp.go ?_))
  constructor
  go_wp2_with (
    first
    | (refine wpNew row39 zc (unhide HLZ).1 (unhide HZ39) 7 rfl rfl rfl (.tmp 25) rfl rfl rfl zc (unhide HLZ).1 (unhide HLZ).2 (by kernel_rfl) (by kernel_rfl) ?_
       intro V7 g7 e7 B7 K7
       replace HK := hide ((unhide HK).trans K7)
       replace HBR := hide ((unhide HBR).kept K7 (by simp))
       clear e7 B7 K7
       refine Stp.go ?_))
  constructor
  go_wp2_with (
    first
    | (go_at_call 17
       refine (victim17_z _ ((unhide HV).step (unhide HK))).mono ?_
       rintro e W9 ⟨rfl, q9⟩
       replace q9 := q9.symm
       subst q9
       refine Stp.go ?_))
  constructor
  go_wp2_with (
    first
    | (go_at_call 40
       refine (all40 p _).mono ?_
       rintro e W2 ⟨c, rfl, hb2, _, K2⟩
       unfold fnV
       have HC := hide hb2
       have hq81 := eq81 (P0 c)
       replace HK := hide ((unhide HK).trans K2)
       replace HBR := hide ((unhide HBR).kept K2 (by simp))
       clear hb2 K2
       refine Stp.go ?_))
  constructor
  go_wp2_with fail
  clear hq81
  rw [← wpIn_wide (n := 3)]
  refine wp_rangeE 2 49 c rfl cg49 (fun lp V hk => all49_e 1 lp c p V ((unhide HC).kept hk (by simp)) (((unhide HV).step (unhide HK)).step hk)) ?_
  intro D X hD kD hX
  have HDG : Hid (w.heap.size ≤ D) := Nat.le_trans (unhide HK).size hD
  replace HK := hide ((unhide HK).trans kD)
  replace HBR := hide ((unhide HBR).kept kD (by simp))
  have HX := hide hX
  clear kD hX hD
  go_upto_region 10 with fail
  try simp only [List.append_eq, List.cons_append, List.nil_append]
  go_wp2_with (
    first
    | (go_at_call 9
       refine (num9 _ _).mono ?_
       rintro e W9 ⟨rfl, q9⟩
       replace q9 := q9.symm
       subst q9)
    | (go_at_call 20
       refine (unhide P20 _).mono ?_
       rintro e V20 ⟨rfl, K20⟩
       replace HK := hide ((unhide HK).trans K20)
       replace HBR := hide ((unhide HBR).kept K20 (by simp))
       replace HX := hide (K20.heap (unhide HX) (by simp))
       clear K20
       refine Stp.go ?_))
  constructor
  go_wp2_with (
    first
    | (go_at_call 9
       refine (num9 _ _).mono ?_
       rintro e W9 ⟨rfl, q9⟩
       replace q9 := q9.symm
       subst q9)
    | (go_at_call 19
       refine (unhide P19 _ ((unhide HV).step (unhide HK))).mono ?_
       rintro e V19 ⟨rfl, K19⟩
       replace HK := hide ((unhide HK).trans K19)
       replace HBR := hide ((unhide HBR).kept K19 (by simp))
       replace HX := hide (K19.heap (unhide HX) (by simp))
       clear K19
       refine Stp.go ?_))
  constructor
  go_wp2_with (
    first
    | (go_at_call 9
       refine (num9 _ _).mono ?_
       rintro e W9 ⟨rfl, q9⟩
       replace q9 := q9.symm
       subst q9)
    | (go_at_call 21
       refine (pin_err _ _ 0 1 (.inl rfl) (unhide PF _ ((unhide HV).step (unhide HK)) 0)).mono ?_
       rintro e V21 ⟨rfl, K21⟩
       replace HK := hide ((unhide HK).trans K21)
       replace HBR := hide ((unhide HBR).kept K21 (by simp))
       replace HX := hide (K21.heap (unhide HX) (by simp))
       clear K21
       refine Stp.go ?_))
  constructor
  go_wp2_with (
    first
    | (go_at_call 9
       refine (num9 _ _).mono ?_
       rintro e W9 ⟨rfl, q9⟩
       replace q9 := q9.symm
       subst q9)
    | (go_at_call 26
       refine (unpin_err _ _ 0 1 (.inl rfl) (unhide PF _ ((unhide HV).step (unhide HK)) 0)).mono ?_
       rintro e V26 ⟨rfl, K26⟩
       replace HK := hide ((unhide HK).trans K26)
       replace HBR := hide ((unhide HBR).kept K26 (by simp))
       replace HX := hide (K26.heap (unhide HX) (by simp))
       clear K26
       refine Stp.go ?_))
  constructor
  go_wp2_with (
    first
    | (go_at_call 9
       refine (num9 _ _).mono ?_
       rintro e W9 ⟨rfl, q9⟩
       replace q9 := q9.symm
       subst q9)
    | (go_at_call 16
       refine (pins_err _ _ 0 1 (.inl rfl) (unhide PF _ ((unhide HV).step (unhide HK)) 0)).mono ?_
       rintro e V16 ⟨rfl, K16⟩
       replace HK := hide ((unhide HK).trans K16)
       replace HBR := hide ((unhide HBR).kept K16 (by simp))
       replace HX := hide (K16.heap (unhide HX) (by simp))
       clear K16
       refine Stp.go ?_))
  constructor
  go_wp2_with (
    first
    | (go_at_call 9
       refine (num9 _ _).mono ?_
       rintro e W9 ⟨rfl, q9⟩
       replace q9 := q9.symm
       subst q9)
    | (go_at_call 24
       refine (len24_z _ ((unhide HV).step (unhide HK))).mono ?_
       rintro e V24 ⟨rfl, q9⟩
       replace q9 := q9.symm
       subst q9
       refine Stp.go ?_))
  constructor
  go_wp2_with (
    first
    | (go_at_call 9
       refine (num9 _ _).mono ?_
       rintro e W9 ⟨rfl, q9⟩
       replace q9 := q9.symm
       subst q9)
    | (go_at_call 27
       refine (room27_z _ ((unhide HV).step (unhide HK))).mono ?_
       rintro e V27 ⟨rfl, q9⟩
       replace q9 := q9.symm
       subst q9
       refine Stp.go ?_))
  constructor
  go_wp2_with (
    first
    | (go_at_call 9
       refine (num9 _ _).mono ?_
       rintro e W9 ⟨rfl, q9⟩
       replace q9 := q9.symm
       subst q9)
    | (go_at_call 33
       refine (clear33_z _ ((unhide HV).step (unhide HK))).mono ?_
       rintro e V33 ⟨rfl, q9⟩
       replace q9 := q9.symm
       subst q9
       refine Stp.go ?_))
  constructor
  go_wp2_with (
    first
    | (go_at_call 9
       refine (num9 _ _).mono ?_
       rintro e W9 ⟨rfl, q9⟩
       replace q9 := q9.symm
       subst q9)
    | (go_at_call 23
       refine (copy23_z _ ((unhide HV).step (unhide HK))).mono ?_
       rintro e V23 ⟨rfl, q9⟩
       replace q9 := q9.symm
       subst q9
       refine Stp.go ?_))
  constructor
  go_wp2_with (
    first
    | (go_at_call 9
       refine (num9 _ _).mono ?_
       rintro e W9 ⟨rfl, q9⟩
       replace q9 := q9.symm
       subst q9)
    | (go_at_call 13
       refine (same13_zz _ _ ((unhide HV).step (unhide HK)) (.inl rfl)).mono ?_
       rintro e V13 ⟨rfl, q9⟩
       replace q9 := q9.symm
       subst q9
       refine Stp.go ?_))
  constructor
  go_wp2_with (
    first
    | (go_at_call 9
       refine (num9 _ _).mono ?_
       rintro e W9 ⟨rfl, q9⟩
       replace q9 := q9.symm
       subst q9)
    | (refine wpStoreV1 size4 rfl (.tmp 2) (.tmp 101) rfl rfl gr 0 (.bool true) ⟨rfl, rfl⟩ rfl rfl (unhide HBR) (by decide) ?_
       intro W8 B8 K8
       have hM := hide B8
       have HK8 := hide K8
       clear B8 K8
       refine Stp.go ?_))
  constructor
  go_wp2_with fail
  have hX8 : W8.heap[D]? = some (.deferred (some [])) := (unhide HK8).heap (unhide HX) (by
    have h1 := (unhide HBR)
    have h2 := unhide HX
    unfold Blk at h1
    simp
    intro e
    subst e
    rw [h2] at h1
    cases h1)
  refine one_leaves rfl (unhide hM) ?_ hX8 (unhide HDG)
  exact (unhide HK).own (unhide HK8) (by simp; exact unhide HGR)
theorem nothing25 (p : Option Addr) (w : World) (hv : Nil w (.pointer p)) : Calls Try.prog 25 #[.pointer p] w fun e w' => e = .returned (.bool true) ∧ Kept [] w w' := by
  have h9 := nothing_in p w hv
  rw [callsIn_wide] at h9
  exact h9

end Go.Proofs.Ytgnafbohikbpfaa
