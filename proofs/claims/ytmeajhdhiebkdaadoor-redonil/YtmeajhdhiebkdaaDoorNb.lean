/-
  RedoNil.
-/
import Derived.Test.YtmeajhdhiebkdaaDoorNa
namespace Go.Proofs.YtmeajhdhiebkdaaDoor
set_option maxRecDepth 100000
open Go.RowKit Go.Shelf
attribute [local go_sem] Oper.semAt_some

def zL : List Value := [.pointer none, .int .i64 0, .int .i64 0, .int .i64 0, .int .i64 0, .int .i64 0, .int .i64 0, .int .i64 0, .int .i64 0, .slice none 0 0, .int .i64 0]
theorem build72z (w : World) : (Instr.build 72 #[]).run Tryd.prog w = .ok (aggV zL) w := by kernel_rfl
theorem build28z (w : World) : (Instr.build 28 #[]).run Tryd.prog w = .ok (aggV (verC 0 (Rc.zs 96))) w := by kernel_rfl
theorem build23z (w : World) : (Instr.build 23 #[]).run Tryd.prog w = .ok (aggV (Ar.jobC ⟨0, 0, 0, 0, 0⟩)) w := by kernel_rfl
theorem zero4 (w : World) : (Instr.alloc 4 true (.tuple #[])).run Tryd.prog w = .ok (P0 w.heap.size) (w.alloc (.cells [Value.bool false].toArray 4)) := by kernel_rfl
theorem bs73 (w : World) (z : Nat) : (Instr.buildSlice 73 2 #[(0, .pointer none), (1, P0 z)]).run Tryd.prog w = .ok (.slice (some ⟨w.heap.size, 0, none⟩) 2 2) (w.alloc (.cells [Value.pointer none, P0 z].toArray 33)) := by kernel_rfl
theorem wpBs73 {ops : Array Oper} {rest : List Oper} {op : Oper} {a : Act} {w : World} {Q : Exit → Act → World → Prop} (hgd : op.guard = none) (x : Operand) (ho : op.op = .buildSlice 73 2 #[(0, .const (.pointer none)), (1, x)]) (z : Nat) (hx : a.eval x = P0 z)
    (h : ∀ W s, s = w.heap.size → Blk W s 33 [.pointer none, P0 z] → Kept [] w W → wpList Tryd.prog ops Q rest (a.put op.dst (.slice (some ⟨s, 0, none⟩) 2 2)) W) : wpList Tryd.prog ops Q (op :: rest) a w :=
  wpList_plain hgd fun K hK => by
    have h0 : a.eval (.const (.pointer none)) = .pointer none := rfl
    unfold Oper.wp execOp
    simp only [ho, List.map_toArray, List.map_cons, List.map_nil, hx, h0, Sem.run_bind, bs73, Result.andThen_ok]
    exact hK _ _ (h _ _ rfl (Blk.new w 33 _) ((Kept.refl _ _).alloc _))
theorem eq68 (c : Value) (W : World) : Sem.run Tryd.prog (binOp BinOp.eql 68 (.func (.func 52) #[] #[c]) .nilFunc) W = .ok (.bool false) W := by kernel_rfl
theorem wpSt4 {ops : Array Oper} {rest : List Oper} {op : Oper} {a : Act} {w : World} {Q : Exit → Act → World → Prop} (hgd : op.guard = none) (x y : Operand) (ho : op.op = .store 4 x y) (hd : op.dst = none) (b : Nat) (v0 v : Bool) (hx : a.eval x = P0 b) (hy : a.eval y = .bool v) (hB : Blk w b 4 [.bool v0])
    (h : ∀ W, Blk W b 4 [.bool v] → Kept [b] w W → wpList Tryd.prog ops Q rest a W) : wpList Tryd.prog ops Q (op :: rest) a w :=
  wpList_plain hgd fun K hK => by
    have hc := hB.cell 0
    have hf := hB.frozen 0
    have hs : (storeVar 4 ⟨b, 0, none⟩ (.bool v)).run Tryd.prog w = .ok () (w.setCell ⟨b, 0, none⟩ (.bool v)) := by simp [storeVar, go_sem, hc, hf]
    unfold Oper.wp execOp
    simp only [ho, hx, hy, Instr.storeAt, Instr.sureAddr, Sem.run_bind, Sem.run_pure, Result.andThen_ok, hs]
    refine hK _ _ ?_
    rw [hd]
    exact h _ (hB.set (i := 0) (.bool v)) ((Kept.refl _ _).setCell (by simp) _)
theorem res7 (w : World) (b : Nat) (v : Bool) (tmps : Array Value) (h0 : tmps[0]?.getD undef = P0 b) (hb : Blk w b 4 [.bool v]) : (results Tryd.f7 tmps).run Tryd.prog w = .ok (.bool v) w := by
  have hc := fits_cell hb 0 _ rfl
  simp [results, Tryd.results7, h0, asAddr, go_sem, hc]
/-- A mark that lies there. -/
def Mk (w W : World) (D : Nat) : Prop := w.heap.size ≤ D ∧ W.heap[D]? = some (.deferred (some []))
theorem Mk.kept {w W W' : World} {D : Nat} (h : Mk w W D) (hk : Kept [] W W') : Mk w W' D := ⟨h.1, hk.heap h.2 (by simp)⟩
theorem Mk.wr {w W W' : World} {D b T : Nat} {us : List Value} (h : Mk w W D) (hk : Kept [b] W W') (hb : Blk W b T us) : Mk w W' D := ⟨h.1, hk.heap h.2 (by
  simp only [List.mem_singleton]
  intro e
  subst e
  have := h.2
  unfold Blk at hb
  rw [hb] at this
  cases this)⟩
theorem all_leaves {w W : World} {D2 D br : Nat} {tmps : Array Value} (h0 : tmps[0]?.getD undef = P0 br) (hb : Blk W br 4 [.bool true]) (hk : Kept [] w W) (h2 : W.heap[D2]? = some (.deferred (some []))) (h1 : W.heap[D]? = some (.deferred (some []))) (hne : D ≠ D2) (g2 : w.heap.size ≤ D2) (g1 : w.heap.size ≤ D) :
    LeavesInM Fence.wide 3 Tryd.prog Tryd.f7 tmps (fun e w' => e = .returned (.bool true) ∧ Kept [] w w') [{ target := .collected D2, args := #[] }, { target := .collected D, args := #[] }] .returning W := by
  have h1' : (W.putObj D2 (.deferred none)).heap[D]? = some (.deferred (some [])) := by rw [World.putObj_heap_other hne]; exact h1
  have hb1 : Blk (W.putObj D2 (.deferred none)) br 4 [.bool true] := blk_grown hb (grownBy_putObj' W D2 _) (fun r e => by cases e; exact ⟨_, h2, rfl⟩)
  have hb2 : Blk ((W.putObj D2 (.deferred none)).putObj D (.deferred none)) br 4 [.bool true] := blk_grown hb1 (grownBy_putObj' _ D _) (fun r e => by cases e; exact ⟨_, h1', rfl⟩)
  have k1 : Kept [] w (W.putObj D2 (.deferred none)) := kept_kept (B := w.heap.size) hk (grownBy_putObj' _ D2 (.deferred none)) (Nat.le_refl _) (fun r e => by cases e; exact g2)
  have k2 : Kept [] w ((W.putObj D2 (.deferred none)).putObj D (.deferred none)) := kept_kept (B := w.heap.size) k1 (grownBy_putObj' _ D (.deferred none)) (Nat.le_refl _) (fun r e => by cases e; exact g1)
  refine ⟨by simp, .inl ⟨_, _, rfl, run_takeDeferred h2, ?_⟩⟩
  refine ⟨by simp, .inl ⟨_, _, rfl, run_takeDeferred h1', ?_⟩⟩
  exact ⟨_, res7 _ _ _ _ h0 hb2, rfl, k2⟩
structure Nn (w W : World) (br z s : Nat) : Prop where
  res : Blk W br 4 [.bool false]
  zl : W.cell? ⟨z, 0, none⟩ = some (.pointer none)
  sl : Blk W s 33 [.pointer none, P0 z]
  k : Kept [] w W
  ge : w.heap.size ≤ br
theorem Nn.step {w W W' : World} {br z s : Nat} (h : Nn w W br z s) (hk : Kept [] W W') : Nn w W' br z s := ⟨h.res.kept hk (by simp), hk.cell h.zl (by simp), h.sl.kept hk (by simp), h.k.trans hk, h.ge⟩
theorem Nn.lz {w W : World} {br z s : Nat} (h : Nn w W br z s) : Lz (some ⟨z, 0, none⟩) W := .inr ⟨z, rfl, h.zl⟩
theorem sameK {f : Nat} {args : Array Value} {w : World} {x : Ending} (h : Calls Tryd.prog f args w fun e w' => e = x ∧ w' = w) : Calls Tryd.prog f args w fun e w' => e = x ∧ Kept [] w w' := h.mono (by rintro e w' ⟨rfl, rfl⟩; exact ⟨rfl, Kept.refl _ _⟩)
theorem small5 (w : World) : Calls Tryd.prog 30 #[.int .i64 5, .int .i64 2] w fun e w' => ∃ b g, e = .returned (.tuple #[P0 b, .int .i64 0]) ∧ w.heap.size ≤ b ∧ w.heap.size ≤ g ∧ Dv.Dv w' b g (Dv.newDev 5 2) ∧ Kept [] w w' := Dv.new_yes 5 2 w (by decide)
theorem new_law (w : World) : Calls Tryd.prog 10 #[aggV (Ar.jobC lawJ)] w fun e w' => ∃ b g, e = .returned (P0 b) ∧ w.heap.size ≤ b ∧ w.heap.size ≤ g ∧ Dv.Dv w' b g ke0 ∧ Kept [] w w' := lnew10 lawJ kmay w
theorem open_2 (b g : Nat) (D : Dv.Dev) (J : Ar.Job) (nd ep : Int) (w : World) (hD : Dv.Dv w b g D) (hF : Rc.First w) (h : lookR D J nd (decide (1 ≤ ep ∧ ep ≤ 2147483647)) = (0, [], 2)) : Calls Tryd.prog 11 #[P0 b, aggV (Ar.jobC J), .int .i64 nd, .int .i64 ep] w fun e w' => e = .returned (.tuple #[.pointer none, .int .i64 2]) ∧ Kept [] w w' := by
  have h9 := open_no b g D J nd ep w hD hF
  rw [h] at h9
  exact h9 (by decide)
theorem read_2 (b g : Nat) (D : Dv.Dev) (J : Ar.Job) (nd : Int) (w : World) (hD : Dv.Dv w b g D) (hF : Rc.First w) (h : lookR D J nd true = (0, [], 2)) : Calls Tryd.prog 20 #[P0 b, aggV (Ar.jobC J), .int .i64 nd] w fun e w' => ∃ u, e = .returned (.tuple #[.int .i64 0, u, .int .i64 2]) ∧ Kept [] w w' := by
  have h9 := read20 b g D J nd w hD hF
  rw [h] at h9
  refine h9.mono ?_
  rintro e w' ⟨u, rfl, h2⟩
  exact ⟨u, rfl, by first | exact h2.2.2 | exact h2.2.2.2 | exact h2.2⟩
theorem ko1 : lookR ke0 lawJ 2 (decide (1 ≤ (1 : Int) ∧ (1 : Int) ≤ 2147483647)) = (0, [], 2) := by kernel_rfl
theorem ko2 : lookR ke0 lawJ 0 (decide (1 ≤ (0 : Int) ∧ (0 : Int) ≤ 2147483647)) = (0, [], 2) := by kernel_rfl
theorem ko3 : lookR ke0 ⟨0, 0, 0, 0, 0⟩ 0 (decide (1 ≤ (1 : Int) ∧ (1 : Int) ≤ 2147483647)) = (0, [], 2) := by kernel_rfl
theorem ko4 : lookR (Dv.newDev 5 2) lawJ 0 (decide (1 ≤ (1 : Int) ∧ (1 : Int) ≤ 2147483647)) = (0, [], 2) := by kernel_rfl
theorem ko5 : lookR (Dv.newDev 5 2) lawJ 0 true = (0, [], 2) := by kernel_rfl
theorem dz0 (W : World) : Dz none W := .inl ⟨rfl, rfl⟩
set_option maxHeartbeats 16000000 in
theorem nil_in (w : World) (hF : Rc.First w) : CallsIn Fence.wide 3 Tryd.prog 7 #[] w fun e w' => e = .returned (.bool true) ∧ Kept [] w w' := by
  have hFw := wideF
  have HF := hide hF
  clear hF
  refine callsIn_of_wp_marks Tryd.func7 rfl trivial ?_ rfl
  simp only [Tryd.ntmps7, List.size_toArray, List.length_nil, Nat.reduceSub, Array.replicate_succ, Array.replicate_zero, List.push_toArray, List.append_toArray, List.nil_append, List.cons_append]
  rw [wpIn_wide]
  go_wp2_with (
    first
    | (refine wpAllocW [.bool false] (fun w => zero4 w) 0 (by rfl) (by rfl) (by rfl) ?_
       intro W1 br e1 B1 K1
       have HB := hide B1
       have HK := hide K1
       have HG : Hid (w.heap.size ≤ br) := by rw [e1]; exact (Nat.le_refl _ : w.heap.size ≤ w.heap.size)
       clear e1 B1 K1
       refine Stp.go ?_))
  constructor
  go_wp2_with (
    first
    | (refine wpBuildZ (T := 72) zL build72z (by rfl) (by rfl) ?_
       refine Stp.go ?_))
  constructor
  go_wp2_with (
    first
    | (refine wpBoxV (by rfl) (.tmp 27) (by rfl) zL (by kernel_rfl) ?_
       intro W2 z e2 B2 K2
       have HZ := hide B2
       replace HB := hide ((unhide HB).kept K2 (by simp))
       replace HK := hide ((unhide HK).trans K2)
       clear e2 B2 K2
       refine Stp.go ?_))
  constructor
  go_wp2_with (
    first
    | (refine wpBs73 (by rfl) (.tmp 28) (by rfl) z (by kernel_rfl) ?_
       intro W3 s e3 B3 K3
       have NN : Hid (Nn w W3 br z s) := ⟨(unhide HB).kept K3 (by simp), K3.cell (fits_cell (unhide HZ) 0 _ rfl) (by simp), B3, (unhide HK).trans K3, unhide HG⟩
       clear e3 B3 K3 HB HZ HK HG
       refine Stp.go ?_))
  constructor
  go_wp2_with fail
  rw [← wpIn_wide (n := 3)]
  refine wpIn_loop_rounds 3 ?_
  rw [roundsIn_succ, wpIn_wide]
  have cs := fits_cell (unhide NN).sl 0 _ rfl
  go_wp2_with (
    first
    | (refine wpBuildZ (T := 28) (verC 0 (Rc.zs 96)) build28z (by rfl) (by rfl) ?_
       refine Stp.go ?_))
  constructor
  go_wp2_with (
    first
    | (go_at_call 16
       refine (append_z none (-1) 0 (Rc.zs 96) _ (.inl rfl)).mono ?_
       rintro e V11 ⟨rfl, K11⟩
       replace NN := hide ((unhide NN).step K11)
       clear cs
       clear K11
       refine Stp.go ?_))
  constructor
  go_wp2_with (
    first
    | (go_at_call 13
       refine (sameK (flush_z none _ (.inl rfl))).mono ?_
       rintro e V12 ⟨rfl, K12⟩
       replace NN := hide ((unhide NN).step K12)
       clear K12
       refine Stp.go ?_))
  constructor
  go_wp2_with (
    first
    | (go_at_call 14
       refine (sameK (cut_z none (-1) _ (.inl rfl))).mono ?_
       rintro e V13 ⟨rfl, K13⟩
       replace NN := hide ((unhide NN).step K13)
       clear K13
       refine Stp.go ?_))
  constructor
  go_wp2_with (
    first
    | (go_at_call 21
       refine (sameK (start_z none _ (.inl rfl))).mono ?_
       rintro e V14 ⟨rfl, K14⟩
       replace NN := hide ((unhide NN).step K14)
       clear K14
       refine Stp.go ?_))
  constructor
  go_wp2_with (
    first
    | (go_at_call 23
       refine (sameK (next_z none _ (.inl rfl))).mono ?_
       rintro e V15 ⟨rfl, K15⟩
       replace NN := hide ((unhide NN).step K15)
       clear K15
       refine Stp.go ?_))
  constructor
  go_wp2_with (
    first
    | (go_at_call 15
       refine (sameK (flushed_z none _ (.inl rfl))).mono ?_
       rintro e V16 ⟨rfl, K16⟩
       replace NN := hide ((unhide NN).step K16)
       clear K16
       refine Stp.go ?_))
  constructor
  go_wp2_with (
    first
    | (go_at_call 12
       refine (sameK (room_z none _ (.inl rfl))).mono ?_
       rintro e V17 ⟨rfl, K17⟩
       replace NN := hide ((unhide NN).step K17)
       clear K17
       refine Stp.go ?_))
  constructor
  go_wp2_with (
    first
    | (go_at_call 29
       refine (recs_z none _ (.inl rfl)).mono ?_
       rintro e V18 ⟨c0, rfl, hB, hc, K18⟩
       replace NN := hide ((unhide NN).step K18)
       unfold rcV
       have HR := hide hB
       have hq68 := eq68 (P0 c0)
       clear hB hc K18
       refine Stp.go ?_))
  constructor
  go_wp2_with fail
  clear hq68
  rw [← wpIn_wide (n := 3)]
  have HS : Hid (w.heap.size ≤ V18.heap.size) := (unhide NN).k.size
  refine wp_rangeE c0 rfl (unhide HR) ?_
  intro D X0 hD kD hK
  replace NN := hide ((unhide NN).step kD)
  have HD : Hid (Mk w X0 D) := ⟨by have := unhide HS; omega, hK⟩
  clear hD kD hK HS HR
  try go_wp2_with fail
  rw [roundsIn_succ, wpIn_wide]
  have cs := fits_cell (unhide NN).sl 1 _ rfl
  go_wp2_with (
    first
    | (refine wpBuildZ (T := 28) (verC 0 (Rc.zs 96)) build28z (by rfl) (by rfl) ?_
       refine Stp.go ?_))
  constructor
  go_wp2_with (
    first
    | (go_at_call 16
       refine (append_z (some ⟨z, 0, none⟩) (-1) 0 (Rc.zs 96) _ (unhide NN).lz).mono ?_
       rintro e V19 ⟨rfl, K19⟩
       replace NN := hide ((unhide NN).step K19)
       replace HD : Hid (Mk w V19 D) := (unhide HD).kept K19
       clear cs
       clear K19
       refine Stp.go ?_))
  constructor
  go_wp2_with (
    first
    | (go_at_call 13
       refine (sameK (flush_z (some ⟨z, 0, none⟩) _ (unhide NN).lz)).mono ?_
       rintro e V20 ⟨rfl, K20⟩
       replace NN := hide ((unhide NN).step K20)
       replace HD : Hid (Mk w V20 D) := (unhide HD).kept K20
       clear K20
       refine Stp.go ?_))
  constructor
  go_wp2_with (
    first
    | (go_at_call 14
       refine (sameK (cut_z (some ⟨z, 0, none⟩) (-1) _ (unhide NN).lz)).mono ?_
       rintro e V21 ⟨rfl, K21⟩
       replace NN := hide ((unhide NN).step K21)
       replace HD : Hid (Mk w V21 D) := (unhide HD).kept K21
       clear K21
       refine Stp.go ?_))
  constructor
  go_wp2_with (
    first
    | (go_at_call 21
       refine (sameK (start_z (some ⟨z, 0, none⟩) _ (unhide NN).lz)).mono ?_
       rintro e V22 ⟨rfl, K22⟩
       replace NN := hide ((unhide NN).step K22)
       replace HD : Hid (Mk w V22 D) := (unhide HD).kept K22
       clear K22
       refine Stp.go ?_))
  constructor
  go_wp2_with (
    first
    | (go_at_call 23
       refine (sameK (next_z (some ⟨z, 0, none⟩) _ (unhide NN).lz)).mono ?_
       rintro e V23 ⟨rfl, K23⟩
       replace NN := hide ((unhide NN).step K23)
       replace HD : Hid (Mk w V23 D) := (unhide HD).kept K23
       clear K23
       refine Stp.go ?_))
  constructor
  go_wp2_with (
    first
    | (go_at_call 15
       refine (sameK (flushed_z (some ⟨z, 0, none⟩) _ (unhide NN).lz)).mono ?_
       rintro e V24 ⟨rfl, K24⟩
       replace NN := hide ((unhide NN).step K24)
       replace HD : Hid (Mk w V24 D) := (unhide HD).kept K24
       clear K24
       refine Stp.go ?_))
  constructor
  go_wp2_with (
    first
    | (go_at_call 12
       refine (sameK (room_z (some ⟨z, 0, none⟩) _ (unhide NN).lz)).mono ?_
       rintro e V25 ⟨rfl, K25⟩
       replace NN := hide ((unhide NN).step K25)
       replace HD : Hid (Mk w V25 D) := (unhide HD).kept K25
       clear K25
       refine Stp.go ?_))
  constructor
  go_wp2_with (
    first
    | (go_at_call 29
       refine (recs_z (some ⟨z, 0, none⟩) _ (unhide NN).lz).mono ?_
       rintro e V26 ⟨c1, rfl, hB, hc, K26⟩
       replace NN := hide ((unhide NN).step K26)
       replace HD : Hid (Mk w V26 D) := (unhide HD).kept K26
       unfold rcV
       have HR := hide hB
       have hq68 := eq68 (P0 c1)
       clear hB hc K26
       refine Stp.go ?_))
  constructor
  go_wp2_with fail
  clear hq68
  rw [← wpIn_wide (n := 3)]
  have HS : Hid (w.heap.size ≤ V26.heap.size) := (unhide NN).k.size
  have LD : Hid (D < V26.heap.size) := lt_of_block (unhide HD).2
  refine wp_rangeE c1 rfl (unhide HR) ?_
  intro E X1 hD kD hK
  replace NN := hide ((unhide NN).step kD)
  replace HD : Hid (Mk w X1 D) := (unhide HD).kept kD
  have HE : Hid (Mk w X1 E) := ⟨by have := unhide HS; omega, hK⟩
  have ND : Hid (D ≠ E) := by have := unhide LD; show _ ≠ _; omega
  clear LD
  clear hD kD hK HS HR
  try go_wp2_with fail
  rw [roundsIn_succ, wpIn_wide]
  go_wp2_with (
    first
    | (go_at_call 22
       refine (job22 _).mono ?_
       rintro e V27 ⟨rfl, K27⟩
       replace NN := hide ((unhide NN).step K27)
       replace HD : Hid (Mk w V27 D) := (unhide HD).kept K27
       replace HE : Hid (Mk w V27 E) := (unhide HE).kept K27
       clear K27
       refine Stp.go ?_))
  constructor
  go_wp2_with (
    first
    | (refine wpNew row23 (Ar.jobC ⟨0, 0, 0, 0, 0⟩) rfl (fun w => Ar.zero23 w) 7 (by rfl) (by rfl) (by rfl) (.tmp 82) (by rfl) (by rfl) (by rfl) (Ar.jobC lawJ) rfl (Ar.jobC_one _) (by kernel_rfl) (by kernel_rfl) ?_
       intro VJ q eq BQ KQ
       replace NN := hide ((unhide NN).step KQ)
       replace HD : Hid (Mk w VJ D) := (unhide HD).kept KQ
       replace HE : Hid (Mk w VJ E) := (unhide HE).kept KQ
       have HJ := hide BQ
       clear eq BQ KQ
       refine Stp.go ?_))
  constructor
  go_wp2_with (
    first
    | (refine wpLoadA row23 (by rfl) (.tmp 7) (by rfl) q 0 (by kernel_rfl) (Ar.jobC lawJ) rfl (unhide HJ).range ?_
       refine Stp.go ?_))
  constructor
  go_wp2_with (
    first
    | (go_at_call 10
       refine (new_law _).mono ?_
       rintro e V28 ⟨b, g, rfl, _, _, hd, K28⟩
       replace NN := hide ((unhide NN).step K28)
       replace HD : Hid (Mk w V28 D) := (unhide HD).kept K28
       replace HE : Hid (Mk w V28 E) := (unhide HE).kept K28
       replace HJ := hide ((unhide HJ).kept K28 (by simp))
       have HD0 := hide hd
       clear hd K28
       refine Stp.go ?_))
  constructor
  go_wp2_with (
    first
    | (go_at_call 30
       refine (small5 _).mono ?_
       rintro e V29 ⟨b5, g5, rfl, _, _, hd, K29⟩
       replace NN := hide ((unhide NN).step K29)
       replace HD : Hid (Mk w V29 D) := (unhide HD).kept K29
       replace HE : Hid (Mk w V29 E) := (unhide HE).kept K29
       replace HJ := hide ((unhide HJ).kept K29 (by simp))
       replace HD0 := hide ((unhide HD0).kept K29 (by simp) (by simp))
       have HD5 := hide hd
       clear hd K29
       refine Stp.go ?_))
  constructor
  go_wp2_with (
    first
    | (refine wpLoadA row23 (by rfl) (.tmp 7) (by rfl) q 0 (by kernel_rfl) (Ar.jobC lawJ) rfl (unhide HJ).range ?_
       refine Stp.go ?_))
  constructor
  go_wp2_with (
    first
    | (go_at_call 11
       refine (open_z none lawJ 0 1 _ (dz0 _)).mono ?_
       rintro e V30 ⟨rfl, K30⟩
       replace NN := hide ((unhide NN).step K30)
       replace HD : Hid (Mk w V30 D) := (unhide HD).kept K30
       replace HE : Hid (Mk w V30 E) := (unhide HE).kept K30
       replace HJ := hide ((unhide HJ).kept K30 (by simp))
       replace HD0 := hide ((unhide HD0).kept K30 (by simp) (by simp))
       replace HD5 := hide ((unhide HD5).kept K30 (by simp) (by simp))
       clear K30
       refine Stp.go ?_))
  constructor
  go_wp2_with (
    first
    | (refine wpLoadA row23 (by rfl) (.tmp 7) (by rfl) q 0 (by kernel_rfl) (Ar.jobC lawJ) rfl (unhide HJ).range ?_
       refine Stp.go ?_))
  constructor
  go_wp2_with (
    first
    | (go_at_call 11
       refine (open_2 b g ke0 lawJ 2 1 _ (unhide HD0) ((unhide HF).kept (unhide NN).k) ko1).mono ?_
       rintro e V31 ⟨rfl, K31⟩
       replace NN := hide ((unhide NN).step K31)
       replace HD : Hid (Mk w V31 D) := (unhide HD).kept K31
       replace HE : Hid (Mk w V31 E) := (unhide HE).kept K31
       replace HJ := hide ((unhide HJ).kept K31 (by simp))
       replace HD0 := hide ((unhide HD0).kept K31 (by simp) (by simp))
       replace HD5 := hide ((unhide HD5).kept K31 (by simp) (by simp))
       clear K31
       refine Stp.go ?_))
  constructor
  go_wp2_with (
    first
    | (refine wpLoadA row23 (by rfl) (.tmp 7) (by rfl) q 0 (by kernel_rfl) (Ar.jobC lawJ) rfl (unhide HJ).range ?_
       refine Stp.go ?_))
  constructor
  go_wp2_with (
    first
    | (go_at_call 11
       refine (open_2 b g ke0 lawJ 0 0 _ (unhide HD0) ((unhide HF).kept (unhide NN).k) ko2).mono ?_
       rintro e V32 ⟨rfl, K32⟩
       replace NN := hide ((unhide NN).step K32)
       replace HD : Hid (Mk w V32 D) := (unhide HD).kept K32
       replace HE : Hid (Mk w V32 E) := (unhide HE).kept K32
       replace HJ := hide ((unhide HJ).kept K32 (by simp))
       replace HD0 := hide ((unhide HD0).kept K32 (by simp) (by simp))
       replace HD5 := hide ((unhide HD5).kept K32 (by simp) (by simp))
       clear K32
       refine Stp.go ?_))
  constructor
  go_wp2_with (
    first
    | (refine wpBuildZ (T := 23) (Ar.jobC ⟨0, 0, 0, 0, 0⟩) build23z (by rfl) (by rfl) ?_
       refine Stp.go ?_))
  constructor
  go_wp2_with (
    first
    | (go_at_call 11
       refine (open_2 b g ke0 ⟨0, 0, 0, 0, 0⟩ 0 1 _ (unhide HD0) ((unhide HF).kept (unhide NN).k) ko3).mono ?_
       rintro e V33 ⟨rfl, K33⟩
       replace NN := hide ((unhide NN).step K33)
       replace HD : Hid (Mk w V33 D) := (unhide HD).kept K33
       replace HE : Hid (Mk w V33 E) := (unhide HE).kept K33
       replace HJ := hide ((unhide HJ).kept K33 (by simp))
       replace HD0 := hide ((unhide HD0).kept K33 (by simp) (by simp))
       replace HD5 := hide ((unhide HD5).kept K33 (by simp) (by simp))
       clear K33
       refine Stp.go ?_))
  constructor
  go_wp2_with (
    first
    | (refine wpLoadA row23 (by rfl) (.tmp 7) (by rfl) q 0 (by kernel_rfl) (Ar.jobC lawJ) rfl (unhide HJ).range ?_
       refine Stp.go ?_))
  constructor
  go_wp2_with (
    first
    | (go_at_call 11
       refine (open_2 b5 g5 (Dv.newDev 5 2) lawJ 0 1 _ (unhide HD5) ((unhide HF).kept (unhide NN).k) ko4).mono ?_
       rintro e V34 ⟨rfl, K34⟩
       replace NN := hide ((unhide NN).step K34)
       replace HD : Hid (Mk w V34 D) := (unhide HD).kept K34
       replace HE : Hid (Mk w V34 E) := (unhide HE).kept K34
       replace HJ := hide ((unhide HJ).kept K34 (by simp))
       replace HD0 := hide ((unhide HD0).kept K34 (by simp) (by simp))
       replace HD5 := hide ((unhide HD5).kept K34 (by simp) (by simp))
       clear K34
       refine Stp.go ?_))
  constructor
  go_wp2_with (
    first
    | (refine wpLoadA row23 (by rfl) (.tmp 7) (by rfl) q 0 (by kernel_rfl) (Ar.jobC lawJ) rfl (unhide HJ).range ?_
       refine Stp.go ?_))
  constructor
  go_wp2_with (
    first
    | (go_at_call 20
       refine (read_z none lawJ 0 _ (dz0 _)).mono ?_
       rintro e V35 ⟨rfl, K35⟩
       replace NN := hide ((unhide NN).step K35)
       replace HD : Hid (Mk w V35 D) := (unhide HD).kept K35
       replace HE : Hid (Mk w V35 E) := (unhide HE).kept K35
       replace HJ := hide ((unhide HJ).kept K35 (by simp))
       replace HD0 := hide ((unhide HD0).kept K35 (by simp) (by simp))
       replace HD5 := hide ((unhide HD5).kept K35 (by simp) (by simp))
       clear K35
       refine Stp.go ?_))
  constructor
  go_wp2_with (
    first
    | (refine wpLoadA row23 (by rfl) (.tmp 7) (by rfl) q 0 (by kernel_rfl) (Ar.jobC lawJ) rfl (unhide HJ).range ?_
       refine Stp.go ?_))
  constructor
  go_wp2_with (
    first
    | (go_at_call 20
       refine (read_2 b5 g5 (Dv.newDev 5 2) lawJ 0 _ (unhide HD5) ((unhide HF).kept (unhide NN).k) ko5).mono ?_
       rintro e V36 ⟨u, rfl, K36⟩
       replace NN := hide ((unhide NN).step K36)
       replace HD : Hid (Mk w V36 D) := (unhide HD).kept K36
       replace HE : Hid (Mk w V36 E) := (unhide HE).kept K36
       replace HJ := hide ((unhide HJ).kept K36 (by simp))
       replace HD0 := hide ((unhide HD0).kept K36 (by simp) (by simp))
       replace HD5 := hide ((unhide HD5).kept K36 (by simp) (by simp))
       clear K36
       refine Stp.go ?_))
  constructor
  go_wp2_with (
    first
    | (go_at_call 9
       refine (known9 _ ((unhide HF).kept (unhide NN).k)).mono ?_
       rintro e V37 ⟨rfl, K37⟩
       replace NN := hide ((unhide NN).step K37)
       replace HD : Hid (Mk w V37 D) := (unhide HD).kept K37
       replace HE : Hid (Mk w V37 E) := (unhide HE).kept K37
       replace HJ := hide ((unhide HJ).kept K37 (by simp))
       replace HD0 := hide ((unhide HD0).kept K37 (by simp) (by simp))
       replace HD5 := hide ((unhide HD5).kept K37 (by simp) (by simp))
       clear K37
       refine Stp.go ?_))
  constructor
  go_wp2_with (
    first
    | (refine wpSt4 (by rfl) (.tmp 0) (.tmp 159) (by rfl) (by rfl) br false true (by kernel_rfl) (by kernel_rfl) (unhide NN).res ?_
       intro W9 B9 K9
       have HB9 := hide B9
       have HK9 : Hid (Kept [] w W9) := (unhide NN).k.fresh K9 (fun i hi hl => by have := (unhide NN).ge; simp at hi; omega)
       replace HD : Hid (Mk w W9 D) := (unhide HD).wr K9 (unhide NN).res
       replace HE : Hid (Mk w W9 E) := (unhide HE).wr K9 (unhide NN).res
       clear B9 K9
       refine Stp.go ?_))
  constructor
  go_wp2_with fail
  exact all_leaves rfl (unhide HB9) (unhide HK9) (unhide HE).2 (unhide HD).2 (unhide ND) (unhide HE).1 (unhide HD).1
theorem nil7 (w : World) (hF : Rc.First w) : Calls Tryd.prog 7 #[] w fun e w' => e = .returned (.bool true) ∧ Kept [] w w' := callsIn_wide.1 (nil_in w hF)

end Go.Proofs.YtmeajhdhiebkdaaDoor
