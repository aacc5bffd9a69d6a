/-
  The document's May.
-/
import Derived.Test.YtbpnnbbinhdoiaaDoorVc
namespace Go.Proofs.YtbpnnbbinhdoiaaDoor
set_option maxRecDepth 100000
open Go.RowKit


theorem cg12 (vs : Array Value) (w : World) : (callFunc 12 vs).run Tryd.prog w = .ok (.enter 12 vs) w := by kernel_rfl
theorem cg13 (vs : Array Value) (w : World) : (callFunc 13 vs).run Tryd.prog w = .ok (.enter 13 vs) w := by kernel_rfl
theorem cg31 (vs : Array Value) (w : World) : (callFunc 31 vs).run Tryd.prog w = .ok (.enter 31 vs) w := by kernel_rfl
theorem first31 (w : World) : Calls Tryd.prog 31 #[] w fun e w' => e = .returned (aggV (vwC fv)) ∧ Kept [] w w' := by
  go_enter Tryd.func31, Tryd.ntmps31
  go_wp2_with (
    first
    | (refine wpAllocW (vwC zv) zero26 0 rfl rfl rfl ?_
       intro W1 b1 e1 B1 K1
       have BB := hide B1
       have KK := hide K1
       have EE := hide e1
       clear e1 B1 K1)
    | (refine wpStoreA row26 rfl (.tmp 0) (.tmp 1) rfl b1 0 (vwC fv) rfl rfl rfl (vwC_one _) ((unhide BB).there (by decide)) ?_))
  have hB : Blk (W1.setCells b1 0 (vwC fv)) b1 26 (vwC fv) := (unhide BB).put rfl
  have hl := loadV row26 rfl hB
  refine bodyPost_ret (v := aggV (vwC fv)) ?_ rfl ?_
  · simp [results, Tryd.results31, Act.put, asAddr, hl]
  · exact ⟨rfl, (unhide KK).setCells _ _ (by have := unhide EE; omega)⟩
theorem o_eqlA (T r : Nat) (hG : Tryd.prog.eqGuardType Tryd.prog.depth T = false) {o : Oper} {a : Act} {w : World} {K : Act → World → Prop} {Q : Exit → Act → World → Prop} (x y : Operand) (ho : o.op = .binOp .eql T x y r) (vs us : List Value) (hx : a.eval x = aggV vs) (hy : a.eval y = aggV us) (c : Bool)
    (he : (Op.equal T (aggV vs) (aggV us)).run Tryd.prog w = .ok c w) (h : K (a.put o.dst (.bool c)) w) : o.wp Tryd.prog a w K Q := by
  unfold Oper.wp execOp
  simp only [aggV] at he hx hy
  have hg : (eqGuard .eql T x y (.agg vs.toArray) (.agg us.toArray)).run Tryd.prog w = .ok () w := by simp [eqGuard, Sem.run_bind, hG]
  have hb : (binOp BinOp.eql T (.agg vs.toArray) (.agg us.toArray)).run Tryd.prog w = .ok (.bool c) w := by simp only [binOp, Sem.run_bind, he, Result.andThen_ok, Sem.run_pure]
  simp only [ho, hx, hy, Sem.run_bind, hg, hb, Result.andThen_ok]
  exact h
theorem o_neqA (T r : Nat) (hG : Tryd.prog.eqGuardType Tryd.prog.depth T = false) {o : Oper} {a : Act} {w : World} {K : Act → World → Prop} {Q : Exit → Act → World → Prop} (x y : Operand) (ho : o.op = .binOp .neq T x y r) (vs us : List Value) (hx : a.eval x = aggV vs) (hy : a.eval y = aggV us) (c : Bool)
    (he : (Op.equal T (aggV vs) (aggV us)).run Tryd.prog w = .ok c w) (h : K (a.put o.dst (.bool (!c))) w) : o.wp Tryd.prog a w K Q := by
  unfold Oper.wp execOp
  simp only [aggV] at he hx hy
  have hg : (eqGuard .neq T x y (.agg vs.toArray) (.agg us.toArray)).run Tryd.prog w = .ok () w := by simp [eqGuard, Sem.run_bind, hG]
  have hb : (binOp BinOp.neq T (.agg vs.toArray) (.agg us.toArray)).run Tryd.prog w = .ok (.bool (!c)) w := by simp only [binOp, Sem.run_bind, he, Result.andThen_ok, Sem.run_pure]
  simp only [ho, hx, hy, Sem.run_bind, hg, hb, Result.andThen_ok]
  exact h
set_option maxHeartbeats 2000000 in
theorem rmay_f (v : Vw) (w : World) (hF : First w) (hv : v.ms.length = 8) (h0 : v = fv) : Calls Tryd.prog 13 #[aggV (vwC v)] w fun e w' => e = .returned (.bool true) ∧ Kept [] w w' := by
  have HE : decide (v = fv) = true := by simpa using h0
  go_enter Tryd.func13, Tryd.ntmps13
  have M : Hid (Mm w w []) := hide (Mm.init hF)
  go_wp2_with (
    first
    | (refine wpBoxV rfl (.tmp 0) rfl (vwC v) rfl ?_
       intro W1 b1 e1 B1 K1
       replace M : Hid (Mm w W1 [(b1, 26, vwC v)]) := hide ((unhide M).new e1 B1 K1)
       clear e1 B1 K1))
  refine wp_region_any mixed (wpAny_tq 3 rfl (by kernel_rfl) [some (aggV (vwC v)), some (aggV (vwC fv)), some (.bool true)] rfl (by kernel_rfl) (by kernel_rfl) ?_ ?_)
  · intro i o' hi hsk ho a' w2 hout hin hk2
    replace hk2 : Kept [] W1 w2 := ⟨hk2.os, hk2.tape, hk2.output, hk2.size, hk2.block⟩
    match i, ho, hsk with
    | 0, ho, hsk =>
      obtain rfl := Option.some.inj ho
      exact wp_loadA row26 (.tmp 1) rfl b1 0 ((hout 1 (by kernel_rfl)).trans rfl) (vwC v) (vwC_len hv) (((unhide M).step hk2).at 0 _ rfl).range ⟨_, rfl, tq_is _ _ _ _ rfl, Kept.refl _ _, fun _ _ _ _ _ => trivial⟩
    | 1, ho, hsk =>
      obtain rfl := Option.some.inj ho
      refine wp_callF 31 _ _ rfl #[] (by simp) (cg31 _ _) ((first31 _).mono ?_)
      rintro e w3 ⟨rfl, hk3⟩
      exact ⟨_, rfl, _, rfl, tq_is _ _ _ _ rfl, hk3, fun _ _ _ _ _ => trivial⟩
    | 2, ho, hsk =>
      obtain rfl := Option.some.inj ho
      have e0 : a'.eval (.tmp 5) = aggV (vwC v) := is_tq (hin 0 5 (by kernel_rfl) (by kernel_rfl)) rfl
      have e1 : a'.eval (.tmp 6) = aggV (vwC fv) := is_tq (hin 1 6 (by kernel_rfl) (by kernel_rfl)) rfl
      exact o_eqlA 26 26 guard26 (.tmp 5) (.tmp 6) rfl (vwC v) (vwC fv) e0 e1 true ((equal26 _ v fv hv rfl).trans (by rw [HE])) ⟨_, rfl, tq_is _ _ _ _ rfl, Kept.refl _ _, fun _ _ _ _ _ => trivial⟩
  intro w9 hk9
  replace hk9 : Kept [] W1 w9 := ⟨hk9.os, hk9.tape, hk9.output, hk9.size, hk9.block⟩
  simp only [valsQ, List.map_cons, List.map_nil, Option.getD_some, List.take_succ_cons, List.take_zero, putAll, Act.put, List.setIfInBounds_toArray, List.set_cons_succ, List.set_cons_zero]
  refine wpAny_done (by kernel_rfl) ?_ _
  replace M : Hid (Mm w w9 [(b1, 26, vwC v)]) := hide ((unhide M).step hk9)
  clear hk9
  go_wp2_with fail
  go_ret
  exact ⟨rfl, (unhide M).kept⟩
set_option maxHeartbeats 2000000 in
theorem rmay_neg (v : Vw) (w : World) (hF : First w) (hv : v.ms.length = 8) (HE : decide (v = fv) = false) (h : v.nu < 1) : Calls Tryd.prog 13 #[aggV (vwC v)] w fun e w' => e = .returned (.bool false) ∧ Kept [] w w' := by
  go_enter Tryd.func13, Tryd.ntmps13
  have M : Hid (Mm w w []) := hide (Mm.init hF)
  go_wp2_with (
    first
    | (refine wpBoxV rfl (.tmp 0) rfl (vwC v) rfl ?_
       intro W1 b1 e1 B1 K1
       replace M : Hid (Mm w W1 [(b1, 26, vwC v)]) := hide ((unhide M).new e1 B1 K1)
       clear e1 B1 K1))
  refine wp_region_any mixed (wpAny_tq 3 rfl (by kernel_rfl) [some (aggV (vwC v)), some (aggV (vwC fv)), some (.bool false)] rfl (by kernel_rfl) (by kernel_rfl) ?_ ?_)
  · intro i o' hi hsk ho a' w2 hout hin hk2
    replace hk2 : Kept [] W1 w2 := ⟨hk2.os, hk2.tape, hk2.output, hk2.size, hk2.block⟩
    match i, ho, hsk with
    | 0, ho, hsk =>
      obtain rfl := Option.some.inj ho
      exact wp_loadA row26 (.tmp 1) rfl b1 0 ((hout 1 (by kernel_rfl)).trans rfl) (vwC v) (vwC_len hv) (((unhide M).step hk2).at 0 _ rfl).range ⟨_, rfl, tq_is _ _ _ _ rfl, Kept.refl _ _, fun _ _ _ _ _ => trivial⟩
    | 1, ho, hsk =>
      obtain rfl := Option.some.inj ho
      refine wp_callF 31 _ _ rfl #[] (by simp) (cg31 _ _) ((first31 _).mono ?_)
      rintro e w3 ⟨rfl, hk3⟩
      exact ⟨_, rfl, _, rfl, tq_is _ _ _ _ rfl, hk3, fun _ _ _ _ _ => trivial⟩
    | 2, ho, hsk =>
      obtain rfl := Option.some.inj ho
      have e0 : a'.eval (.tmp 5) = aggV (vwC v) := is_tq (hin 0 5 (by kernel_rfl) (by kernel_rfl)) rfl
      have e1 : a'.eval (.tmp 6) = aggV (vwC fv) := is_tq (hin 1 6 (by kernel_rfl) (by kernel_rfl)) rfl
      exact o_eqlA 26 26 guard26 (.tmp 5) (.tmp 6) rfl (vwC v) (vwC fv) e0 e1 false ((equal26 _ v fv hv rfl).trans (by rw [HE])) ⟨_, rfl, tq_is _ _ _ _ rfl, Kept.refl _ _, fun _ _ _ _ _ => trivial⟩
  intro w9 hk9
  replace hk9 : Kept [] W1 w9 := ⟨hk9.os, hk9.tape, hk9.output, hk9.size, hk9.block⟩
  simp only [valsQ, List.map_cons, List.map_nil, Option.getD_some, List.take_succ_cons, List.take_zero, putAll, Act.put, List.setIfInBounds_toArray, List.set_cons_succ, List.set_cons_zero]
  refine wpAny_done (by kernel_rfl) ?_ _
  replace M : Hid (Mm w w9 [(b1, 26, vwC v)]) := hide ((unhide M).step hk9)
  clear hk9
  have c0 := fits_cell ((unhide M).at 0 _ rfl) 0 _ rfl
  have c2 := fits_cell ((unhide M).at 0 _ rfl) 2 _ rfl
  go_wp2_with fail
  go_ret
  exact ⟨rfl, (unhide M).kept⟩
set_option maxHeartbeats 2000000 in
theorem rmay_big (v : Vw) (w : World) (hF : First w) (hv : v.ms.length = 8) (HE : decide (v = fv) = false) (h1 : 1 ≤ v.nu) (h : 4611686018427387904 < v.nu) : Calls Tryd.prog 13 #[aggV (vwC v)] w fun e w' => e = .returned (.bool false) ∧ Kept [] w w' := by
  have hd1 : decide (v.nu < 1) = false := by simp; omega
  go_enter Tryd.func13, Tryd.ntmps13
  have M : Hid (Mm w w []) := hide (Mm.init hF)
  go_wp2_with (
    first
    | (refine wpBoxV rfl (.tmp 0) rfl (vwC v) rfl ?_
       intro W1 b1 e1 B1 K1
       replace M : Hid (Mm w W1 [(b1, 26, vwC v)]) := hide ((unhide M).new e1 B1 K1)
       clear e1 B1 K1))
  refine wp_region_any mixed (wpAny_tq 3 rfl (by kernel_rfl) [some (aggV (vwC v)), some (aggV (vwC fv)), some (.bool false)] rfl (by kernel_rfl) (by kernel_rfl) ?_ ?_)
  · intro i o' hi hsk ho a' w2 hout hin hk2
    replace hk2 : Kept [] W1 w2 := ⟨hk2.os, hk2.tape, hk2.output, hk2.size, hk2.block⟩
    match i, ho, hsk with
    | 0, ho, hsk =>
      obtain rfl := Option.some.inj ho
      exact wp_loadA row26 (.tmp 1) rfl b1 0 ((hout 1 (by kernel_rfl)).trans rfl) (vwC v) (vwC_len hv) (((unhide M).step hk2).at 0 _ rfl).range ⟨_, rfl, tq_is _ _ _ _ rfl, Kept.refl _ _, fun _ _ _ _ _ => trivial⟩
    | 1, ho, hsk =>
      obtain rfl := Option.some.inj ho
      refine wp_callF 31 _ _ rfl #[] (by simp) (cg31 _ _) ((first31 _).mono ?_)
      rintro e w3 ⟨rfl, hk3⟩
      exact ⟨_, rfl, _, rfl, tq_is _ _ _ _ rfl, hk3, fun _ _ _ _ _ => trivial⟩
    | 2, ho, hsk =>
      obtain rfl := Option.some.inj ho
      have e0 : a'.eval (.tmp 5) = aggV (vwC v) := is_tq (hin 0 5 (by kernel_rfl) (by kernel_rfl)) rfl
      have e1 : a'.eval (.tmp 6) = aggV (vwC fv) := is_tq (hin 1 6 (by kernel_rfl) (by kernel_rfl)) rfl
      exact o_eqlA 26 26 guard26 (.tmp 5) (.tmp 6) rfl (vwC v) (vwC fv) e0 e1 false ((equal26 _ v fv hv rfl).trans (by rw [HE])) ⟨_, rfl, tq_is _ _ _ _ rfl, Kept.refl _ _, fun _ _ _ _ _ => trivial⟩
  intro w9 hk9
  replace hk9 : Kept [] W1 w9 := ⟨hk9.os, hk9.tape, hk9.output, hk9.size, hk9.block⟩
  simp only [valsQ, List.map_cons, List.map_nil, Option.getD_some, List.take_succ_cons, List.take_zero, putAll, Act.put, List.setIfInBounds_toArray, List.set_cons_succ, List.set_cons_zero]
  refine wpAny_done (by kernel_rfl) ?_ _
  replace M : Hid (Mm w w9 [(b1, 26, vwC v)]) := hide ((unhide M).step hk9)
  clear hk9
  have c0 := fits_cell ((unhide M).at 0 _ rfl) 0 _ rfl
  have c2 := fits_cell ((unhide M).at 0 _ rfl) 2 _ rfl
  go_wp2_with fail
  go_ret
  exact ⟨rfl, (unhide M).kept⟩
set_option maxHeartbeats 2000000 in
theorem rmay_fn (v : Vw) (w : World) (hF : First w) (hv : v.ms.length = 8) (HE : decide (v = fv) = false) (h1 : 1 ≤ v.nu) (h2 : v.nu ≤ 4611686018427387904) (h : v.fd < 0) : Calls Tryd.prog 13 #[aggV (vwC v)] w fun e w' => e = .returned (.bool false) ∧ Kept [] w w' := by
  have hd1 : decide (v.nu < 1) = false := by simp; omega
  have hd2 : decide (4611686018427387904 < v.nu) = false := by simp; omega
  go_enter Tryd.func13, Tryd.ntmps13
  have M : Hid (Mm w w []) := hide (Mm.init hF)
  go_wp2_with (
    first
    | (refine wpBoxV rfl (.tmp 0) rfl (vwC v) rfl ?_
       intro W1 b1 e1 B1 K1
       replace M : Hid (Mm w W1 [(b1, 26, vwC v)]) := hide ((unhide M).new e1 B1 K1)
       clear e1 B1 K1))
  refine wp_region_any mixed (wpAny_tq 3 rfl (by kernel_rfl) [some (aggV (vwC v)), some (aggV (vwC fv)), some (.bool false)] rfl (by kernel_rfl) (by kernel_rfl) ?_ ?_)
  · intro i o' hi hsk ho a' w2 hout hin hk2
    replace hk2 : Kept [] W1 w2 := ⟨hk2.os, hk2.tape, hk2.output, hk2.size, hk2.block⟩
    match i, ho, hsk with
    | 0, ho, hsk =>
      obtain rfl := Option.some.inj ho
      exact wp_loadA row26 (.tmp 1) rfl b1 0 ((hout 1 (by kernel_rfl)).trans rfl) (vwC v) (vwC_len hv) (((unhide M).step hk2).at 0 _ rfl).range ⟨_, rfl, tq_is _ _ _ _ rfl, Kept.refl _ _, fun _ _ _ _ _ => trivial⟩
    | 1, ho, hsk =>
      obtain rfl := Option.some.inj ho
      refine wp_callF 31 _ _ rfl #[] (by simp) (cg31 _ _) ((first31 _).mono ?_)
      rintro e w3 ⟨rfl, hk3⟩
      exact ⟨_, rfl, _, rfl, tq_is _ _ _ _ rfl, hk3, fun _ _ _ _ _ => trivial⟩
    | 2, ho, hsk =>
      obtain rfl := Option.some.inj ho
      have e0 : a'.eval (.tmp 5) = aggV (vwC v) := is_tq (hin 0 5 (by kernel_rfl) (by kernel_rfl)) rfl
      have e1 : a'.eval (.tmp 6) = aggV (vwC fv) := is_tq (hin 1 6 (by kernel_rfl) (by kernel_rfl)) rfl
      exact o_eqlA 26 26 guard26 (.tmp 5) (.tmp 6) rfl (vwC v) (vwC fv) e0 e1 false ((equal26 _ v fv hv rfl).trans (by rw [HE])) ⟨_, rfl, tq_is _ _ _ _ rfl, Kept.refl _ _, fun _ _ _ _ _ => trivial⟩
  intro w9 hk9
  replace hk9 : Kept [] W1 w9 := ⟨hk9.os, hk9.tape, hk9.output, hk9.size, hk9.block⟩
  simp only [valsQ, List.map_cons, List.map_nil, Option.getD_some, List.take_succ_cons, List.take_zero, putAll, Act.put, List.setIfInBounds_toArray, List.set_cons_succ, List.set_cons_zero]
  refine wpAny_done (by kernel_rfl) ?_ _
  replace M : Hid (Mm w w9 [(b1, 26, vwC v)]) := hide ((unhide M).step hk9)
  clear hk9
  have c0 := fits_cell ((unhide M).at 0 _ rfl) 0 _ rfl
  have c2 := fits_cell ((unhide M).at 0 _ rfl) 2 _ rfl
  go_wp2_with fail
  go_ret
  exact ⟨rfl, (unhide M).kept⟩
set_option maxHeartbeats 2000000 in
theorem rmay_fb (v : Vw) (w : World) (hF : First w) (hv : v.ms.length = 8) (HE : decide (v = fv) = false) (h1 : 1 ≤ v.nu) (h2 : v.nu ≤ 4611686018427387904) (h3 : 0 ≤ v.fd) (h : 8 ≤ v.fd) : Calls Tryd.prog 13 #[aggV (vwC v)] w fun e w' => e = .returned (.bool false) ∧ Kept [] w w' := by
  have hd1 : decide (v.nu < 1) = false := by simp; omega
  have hd2 : decide (4611686018427387904 < v.nu) = false := by simp; omega
  have hd3 : decide (v.fd < 0) = false := by simp; omega
  go_enter Tryd.func13, Tryd.ntmps13
  have M : Hid (Mm w w []) := hide (Mm.init hF)
  go_wp2_with (
    first
    | (refine wpBoxV rfl (.tmp 0) rfl (vwC v) rfl ?_
       intro W1 b1 e1 B1 K1
       replace M : Hid (Mm w W1 [(b1, 26, vwC v)]) := hide ((unhide M).new e1 B1 K1)
       clear e1 B1 K1))
  refine wp_region_any mixed (wpAny_tq 3 rfl (by kernel_rfl) [some (aggV (vwC v)), some (aggV (vwC fv)), some (.bool false)] rfl (by kernel_rfl) (by kernel_rfl) ?_ ?_)
  · intro i o' hi hsk ho a' w2 hout hin hk2
    replace hk2 : Kept [] W1 w2 := ⟨hk2.os, hk2.tape, hk2.output, hk2.size, hk2.block⟩
    match i, ho, hsk with
    | 0, ho, hsk =>
      obtain rfl := Option.some.inj ho
      exact wp_loadA row26 (.tmp 1) rfl b1 0 ((hout 1 (by kernel_rfl)).trans rfl) (vwC v) (vwC_len hv) (((unhide M).step hk2).at 0 _ rfl).range ⟨_, rfl, tq_is _ _ _ _ rfl, Kept.refl _ _, fun _ _ _ _ _ => trivial⟩
    | 1, ho, hsk =>
      obtain rfl := Option.some.inj ho
      refine wp_callF 31 _ _ rfl #[] (by simp) (cg31 _ _) ((first31 _).mono ?_)
      rintro e w3 ⟨rfl, hk3⟩
      exact ⟨_, rfl, _, rfl, tq_is _ _ _ _ rfl, hk3, fun _ _ _ _ _ => trivial⟩
    | 2, ho, hsk =>
      obtain rfl := Option.some.inj ho
      have e0 : a'.eval (.tmp 5) = aggV (vwC v) := is_tq (hin 0 5 (by kernel_rfl) (by kernel_rfl)) rfl
      have e1 : a'.eval (.tmp 6) = aggV (vwC fv) := is_tq (hin 1 6 (by kernel_rfl) (by kernel_rfl)) rfl
      exact o_eqlA 26 26 guard26 (.tmp 5) (.tmp 6) rfl (vwC v) (vwC fv) e0 e1 false ((equal26 _ v fv hv rfl).trans (by rw [HE])) ⟨_, rfl, tq_is _ _ _ _ rfl, Kept.refl _ _, fun _ _ _ _ _ => trivial⟩
  intro w9 hk9
  replace hk9 : Kept [] W1 w9 := ⟨hk9.os, hk9.tape, hk9.output, hk9.size, hk9.block⟩
  simp only [valsQ, List.map_cons, List.map_nil, Option.getD_some, List.take_succ_cons, List.take_zero, putAll, Act.put, List.setIfInBounds_toArray, List.set_cons_succ, List.set_cons_zero]
  refine wpAny_done (by kernel_rfl) ?_ _
  replace M : Hid (Mm w w9 [(b1, 26, vwC v)]) := hide ((unhide M).step hk9)
  clear hk9
  have c0 := fits_cell ((unhide M).at 0 _ rfl) 0 _ rfl
  have c2 := fits_cell ((unhide M).at 0 _ rfl) 2 _ rfl
  go_wp2_with fail
  go_ret
  exact ⟨rfl, (unhide M).kept⟩
set_option maxHeartbeats 2000000 in
theorem rmay_out (v : Vw) (w : World) (hF : First w) (hv : v.ms.length = 8) (HE : decide (v = fv) = false) (h1 : 1 ≤ v.nu) (h2 : v.nu ≤ 4611686018427387904) (g0 : 0 ≤ v.fd) (g8 : v.fd < 8) (hin : (v.mem v.fd).1 = false) : Calls Tryd.prog 13 #[aggV (vwC v)] w fun e w' => e = .returned (.bool false) ∧ Kept [] w w' := by
  have hd1 : decide (v.nu < 1) = false := by simp; omega
  have hd2 : decide (4611686018427387904 < v.nu) = false := by simp; omega
  have hd3 : decide (v.fd < 0) = false := by simp; omega
  have hd4 : decide (8 ≤ v.fd) = false := by simp; omega
  go_enter Tryd.func13, Tryd.ntmps13
  have M : Hid (Mm w w []) := hide (Mm.init hF)
  go_wp2_with (
    first
    | (refine wpBoxV rfl (.tmp 0) rfl (vwC v) rfl ?_
       intro W1 b1 e1 B1 K1
       replace M : Hid (Mm w W1 [(b1, 26, vwC v)]) := hide ((unhide M).new e1 B1 K1)
       clear e1 B1 K1))
  refine wp_region_any mixed (wpAny_tq 3 rfl (by kernel_rfl) [some (aggV (vwC v)), some (aggV (vwC fv)), some (.bool false)] rfl (by kernel_rfl) (by kernel_rfl) ?_ ?_)
  · intro i o' hi hsk ho a' w2 hout hin hk2
    replace hk2 : Kept [] W1 w2 := ⟨hk2.os, hk2.tape, hk2.output, hk2.size, hk2.block⟩
    match i, ho, hsk with
    | 0, ho, hsk =>
      obtain rfl := Option.some.inj ho
      exact wp_loadA row26 (.tmp 1) rfl b1 0 ((hout 1 (by kernel_rfl)).trans rfl) (vwC v) (vwC_len hv) (((unhide M).step hk2).at 0 _ rfl).range ⟨_, rfl, tq_is _ _ _ _ rfl, Kept.refl _ _, fun _ _ _ _ _ => trivial⟩
    | 1, ho, hsk =>
      obtain rfl := Option.some.inj ho
      refine wp_callF 31 _ _ rfl #[] (by simp) (cg31 _ _) ((first31 _).mono ?_)
      rintro e w3 ⟨rfl, hk3⟩
      exact ⟨_, rfl, _, rfl, tq_is _ _ _ _ rfl, hk3, fun _ _ _ _ _ => trivial⟩
    | 2, ho, hsk =>
      obtain rfl := Option.some.inj ho
      have e0 : a'.eval (.tmp 5) = aggV (vwC v) := is_tq (hin 0 5 (by kernel_rfl) (by kernel_rfl)) rfl
      have e1 : a'.eval (.tmp 6) = aggV (vwC fv) := is_tq (hin 1 6 (by kernel_rfl) (by kernel_rfl)) rfl
      exact o_eqlA 26 26 guard26 (.tmp 5) (.tmp 6) rfl (vwC v) (vwC fv) e0 e1 false ((equal26 _ v fv hv rfl).trans (by rw [HE])) ⟨_, rfl, tq_is _ _ _ _ rfl, Kept.refl _ _, fun _ _ _ _ _ => trivial⟩
  intro w9 hk9
  replace hk9 : Kept [] W1 w9 := ⟨hk9.os, hk9.tape, hk9.output, hk9.size, hk9.block⟩
  simp only [valsQ, List.map_cons, List.map_nil, Option.getD_some, List.take_succ_cons, List.take_zero, putAll, Act.put, List.setIfInBounds_toArray, List.set_cons_succ, List.set_cons_zero]
  refine wpAny_done (by kernel_rfl) ?_ _
  replace M : Hid (Mm w w9 [(b1, 26, vwC v)]) := hide ((unhide M).step hk9)
  clear hk9
  have c0 := fits_cell ((unhide M).at 0 _ rfl) 0 _ rfl
  have c2 := fits_cell ((unhide M).at 0 _ rfl) 2 _ rfl
  obtain ⟨m0, m1⟩ := Blk.mem ((unhide M).at 0 _ rfl) hv g0 g8
  rw [hin] at m0
  go_wp2_with fail
  go_ret
  exact ⟨rfl, (unhide M).kept⟩
set_option maxHeartbeats 2000000 in
theorem rmay_in (v : Vw) (w : World) (hF : First w) (hv : v.ms.length = 8) (HE : decide (v = fv) = false) (h1 : 1 ≤ v.nu) (h2 : v.nu ≤ 4611686018427387904) (g0 : 0 ≤ v.fd) (g8 : v.fd < 8) (hin : (v.mem v.fd).1 = true) : Calls Tryd.prog 13 #[aggV (vwC v)] w fun e w' => e = .returned (.bool (v.ms.all memOk)) ∧ Kept [] w w' := by
  have hd1 : decide (v.nu < 1) = false := by simp; omega
  have hd2 : decide (4611686018427387904 < v.nu) = false := by simp; omega
  have hd3 : decide (v.fd < 0) = false := by simp; omega
  have hd4 : decide (8 ≤ v.fd) = false := by simp; omega
  go_enter Tryd.func13, Tryd.ntmps13
  have M : Hid (Mm w w []) := hide (Mm.init hF)
  go_wp2_with (
    first
    | (refine wpBoxV rfl (.tmp 0) rfl (vwC v) rfl ?_
       intro W1 b1 e1 B1 K1
       replace M : Hid (Mm w W1 [(b1, 26, vwC v)]) := hide ((unhide M).new e1 B1 K1)
       clear e1 B1 K1))
  refine wp_region_any mixed (wpAny_tq 3 rfl (by kernel_rfl) [some (aggV (vwC v)), some (aggV (vwC fv)), some (.bool false)] rfl (by kernel_rfl) (by kernel_rfl) ?_ ?_)
  · intro i o' hi hsk ho a' w2 hout hin hk2
    replace hk2 : Kept [] W1 w2 := ⟨hk2.os, hk2.tape, hk2.output, hk2.size, hk2.block⟩
    match i, ho, hsk with
    | 0, ho, hsk =>
      obtain rfl := Option.some.inj ho
      exact wp_loadA row26 (.tmp 1) rfl b1 0 ((hout 1 (by kernel_rfl)).trans rfl) (vwC v) (vwC_len hv) (((unhide M).step hk2).at 0 _ rfl).range ⟨_, rfl, tq_is _ _ _ _ rfl, Kept.refl _ _, fun _ _ _ _ _ => trivial⟩
    | 1, ho, hsk =>
      obtain rfl := Option.some.inj ho
      refine wp_callF 31 _ _ rfl #[] (by simp) (cg31 _ _) ((first31 _).mono ?_)
      rintro e w3 ⟨rfl, hk3⟩
      exact ⟨_, rfl, _, rfl, tq_is _ _ _ _ rfl, hk3, fun _ _ _ _ _ => trivial⟩
    | 2, ho, hsk =>
      obtain rfl := Option.some.inj ho
      have e0 : a'.eval (.tmp 5) = aggV (vwC v) := is_tq (hin 0 5 (by kernel_rfl) (by kernel_rfl)) rfl
      have e1 : a'.eval (.tmp 6) = aggV (vwC fv) := is_tq (hin 1 6 (by kernel_rfl) (by kernel_rfl)) rfl
      exact o_eqlA 26 26 guard26 (.tmp 5) (.tmp 6) rfl (vwC v) (vwC fv) e0 e1 false ((equal26 _ v fv hv rfl).trans (by rw [HE])) ⟨_, rfl, tq_is _ _ _ _ rfl, Kept.refl _ _, fun _ _ _ _ _ => trivial⟩
  intro w9 hk9
  replace hk9 : Kept [] W1 w9 := ⟨hk9.os, hk9.tape, hk9.output, hk9.size, hk9.block⟩
  simp only [valsQ, List.map_cons, List.map_nil, Option.getD_some, List.take_succ_cons, List.take_zero, putAll, Act.put, List.setIfInBounds_toArray, List.set_cons_succ, List.set_cons_zero]
  refine wpAny_done (by kernel_rfl) ?_ _
  replace M : Hid (Mm w w9 [(b1, 26, vwC v)]) := hide ((unhide M).step hk9)
  clear hk9
  have c0 := fits_cell ((unhide M).at 0 _ rfl) 0 _ rfl
  have c2 := fits_cell ((unhide M).at 0 _ rfl) 2 _ rfl
  obtain ⟨m0, m1⟩ := Blk.mem ((unhide M).at 0 _ rfl) hv g0 g8
  rw [hin] at m0
  go_wp2_with fail
  clear c0 c2 m0 m1 hd1 hd2 hd3 hd4 h1 h2 g0 g8 hin HE
  go_loopw [3] (fun i wr => ∃ j : Nat, j ≤ 8 ∧ i = .int .i64 j ∧ Hid (∀ m ∈ v.ms.take j, memOk m = true) ∧ Hid (Mm w wr [(b1, 26, vwC v)])) (fun i _ => 8 - (intOf i).toNat)
  case atStart => exact ⟨0, by omega, rfl, (fun m hm => by simp at hm), M⟩
  case round =>
    clear M
    obtain ⟨j, hj, rfl, HA, M⟩ := hrel
    by_cases hlt : j < 8
    · obtain ⟨m, hm⟩ : ∃ m, v.ms[j]? = some m := ⟨_, List.getElem?_eq_getElem (by omega)⟩
      have hltI : (j : Int) < 8 := by omega
      have HR : Hid (wr.rangeAt b1 (3 + j * 2) (memC m)) := by
        have B := (unhide M).at 0 _ rfl
        obtain ⟨x0, x1⟩ := vwC_at hm
        refine hide (B.rangeIn _ fun i hi => ?_)
        rw [Nat.mul_comm] at x0 x1
        match i, hi with
        | 0, _ => exact x0
        | 1, _ => exact x1
        | n + 2, hi => simp [memC] at hi; omega
      obtain ⟨mi, me⟩ := m
      by_cases hok : memOk (mi, me) = true
      · have HT : Hid (∀ m ∈ v.ms.take (j + 1), memOk m = true) := by
          intro m' hm'
          rw [List.take_add_one, hm] at hm'
          rcases List.mem_append.1 hm' with h | h
          · exact unhide HA m' h
          · simp at h; rw [h]; exact hok
        clear HA hm
        cases mi with
        | true =>
          have he : 1 ≤ me ∧ me ≤ 2147483647 := by simpa [memOk, isEp] using hok
          obtain ⟨he1, he2⟩ := he
          have hd1 : decide (me < 1) = false := by simp; omega
          have hd2 : decide (2147483647 < me) = false := by simp; omega
          clear hok
          go_wp2_with (
            first
            | (refine wpLoadA row23 rfl (.tmp 41) rfl b1 (3 + j * 2) rfl (memC (true, me)) rfl (unhide HR) ?_
               refine Stp.go ?_))
          constructor
          go_wp2_with (
            first
            | (refine wpNew row23 (memC (false, 0)) rfl zero23 4 rfl rfl rfl (.tmp 42) rfl rfl rfl (memC (true, me)) rfl (memC_one _) (by kernel_rfl) (by kernel_rfl) ?_
               intro W11 b11 e11 B11 K11
               replace M : Hid (Mm w W11 [(b1, 26, vwC v), (b11, 23, memC (true, me))]) := hide ((unhide M).new e11 B11 K11)
               clear e11 B11 K11
               have d0 := fits_cell ((unhide M).at 1 _ rfl) 0 _ rfl
               have d1 := fits_cell ((unhide M).at 1 _ rfl) 1 _ rfl
               refine Stp.go ?_))
          constructor
          go_wp2_with fail
          go_roundw
          case rel => exact ⟨j + 1, by omega, by go_num, HT, hide ⟨(unhide M).kept, (unhide M).first, (unhide M).first0, fun x hx => (unhide M).blk x (by simp at hx; subst hx; simp), by simp⟩⟩
          case measure => simp [intOf]; omega
        | false =>
          have he : me = 0 := by simpa [memOk] using hok
          subst he
          clear hok
          go_wp2_with (
            first
            | (refine wpLoadA row23 rfl (.tmp 41) rfl b1 (3 + j * 2) rfl (memC (false, 0)) rfl (unhide HR) ?_
               refine Stp.go ?_))
          constructor
          go_wp2_with (
            first
            | (refine wpNew row23 (memC (false, 0)) rfl zero23 4 rfl rfl rfl (.tmp 42) rfl rfl rfl (memC (false, 0)) rfl (memC_one _) (by kernel_rfl) (by kernel_rfl) ?_
               intro W11 b11 e11 B11 K11
               replace M : Hid (Mm w W11 [(b1, 26, vwC v), (b11, 23, memC (false, 0))]) := hide ((unhide M).new e11 B11 K11)
               clear e11 B11 K11
               have d0 := fits_cell ((unhide M).at 1 _ rfl) 0 _ rfl
               have d1 := fits_cell ((unhide M).at 1 _ rfl) 1 _ rfl
               refine Stp.go ?_))
          constructor
          go_wp2_with fail
          go_roundw
          case rel => exact ⟨j + 1, by omega, by go_num, HT, hide ⟨(unhide M).kept, (unhide M).first, (unhide M).first0, fun x hx => (unhide M).blk x (by simp at hx; subst hx; simp), by simp⟩⟩
          case measure => simp [intOf]; omega
      · have HFA : Hid (v.ms.all memOk = false) := by
          have : v.ms.all memOk = false := by
            rw [List.all_eq_false]
            exact ⟨(mi, me), List.mem_of_getElem? hm, hok⟩
          exact this
        clear HA hm
        cases mi with
        | true =>
          have he : ¬ (1 ≤ me ∧ me ≤ 2147483647) := by simpa [memOk, isEp] using hok
          clear hok
          by_cases he1 : 1 ≤ me
          · have he2 : 2147483647 < me := by omega
            have hd1 : decide (me < 1) = false := by simp; omega
            clear he
            go_wp2_with (
              first
              | (refine wpLoadA row23 rfl (.tmp 41) rfl b1 (3 + j * 2) rfl (memC (true, me)) rfl (unhide HR) ?_
                 refine Stp.go ?_))
            constructor
            go_wp2_with (
              first
              | (refine wpNew row23 (memC (false, 0)) rfl zero23 4 rfl rfl rfl (.tmp 42) rfl rfl rfl (memC (true, me)) rfl (memC_one _) (by kernel_rfl) (by kernel_rfl) ?_
                 intro W11 b11 e11 B11 K11
                 replace M : Hid (Mm w W11 [(b1, 26, vwC v), (b11, 23, memC (true, me))]) := hide ((unhide M).new e11 B11 K11)
                 clear e11 B11 K11
                 have d0 := fits_cell ((unhide M).at 1 _ rfl) 0 _ rfl
                 have d1 := fits_cell ((unhide M).at 1 _ rfl) 1 _ rfl
                 refine Stp.go ?_))
            constructor
            go_wp2_with fail
            go_ret
            exact ⟨by rw [unhide HFA]; rfl, (unhide M).kept⟩
          · have hd1 : decide (me < 1) = true := by simp; omega
            clear he
            go_wp2_with (
              first
              | (refine wpLoadA row23 rfl (.tmp 41) rfl b1 (3 + j * 2) rfl (memC (true, me)) rfl (unhide HR) ?_
                 refine Stp.go ?_))
            constructor
            go_wp2_with (
              first
              | (refine wpNew row23 (memC (false, 0)) rfl zero23 4 rfl rfl rfl (.tmp 42) rfl rfl rfl (memC (true, me)) rfl (memC_one _) (by kernel_rfl) (by kernel_rfl) ?_
                 intro W11 b11 e11 B11 K11
                 replace M : Hid (Mm w W11 [(b1, 26, vwC v), (b11, 23, memC (true, me))]) := hide ((unhide M).new e11 B11 K11)
                 clear e11 B11 K11
                 have d0 := fits_cell ((unhide M).at 1 _ rfl) 0 _ rfl
                 have d1 := fits_cell ((unhide M).at 1 _ rfl) 1 _ rfl
                 refine Stp.go ?_))
            constructor
            go_wp2_with fail
            go_ret
            exact ⟨by rw [unhide HFA]; rfl, (unhide M).kept⟩
        | false =>
          have he : ¬ me = 0 := by simpa [memOk] using hok
          have hde : decide (me = 0) = false := by simpa using he
          clear hok
          go_wp2_with (
            first
            | (refine wpLoadA row23 rfl (.tmp 41) rfl b1 (3 + j * 2) rfl (memC (false, me)) rfl (unhide HR) ?_
               refine Stp.go ?_))
          constructor
          go_wp2_with (
            first
            | (refine wpNew row23 (memC (false, 0)) rfl zero23 4 rfl rfl rfl (.tmp 42) rfl rfl rfl (memC (false, me)) rfl (memC_one _) (by kernel_rfl) (by kernel_rfl) ?_
               intro W11 b11 e11 B11 K11
               replace M : Hid (Mm w W11 [(b1, 26, vwC v), (b11, 23, memC (false, me))]) := hide ((unhide M).new e11 B11 K11)
               clear e11 B11 K11
               have d0 := fits_cell ((unhide M).at 1 _ rfl) 0 _ rfl
               have d1 := fits_cell ((unhide M).at 1 _ rfl) 1 _ rfl
               refine Stp.go ?_))
          constructor
          go_wp2_with fail
          go_ret
          exact ⟨by rw [unhide HFA]; rfl, (unhide M).kept⟩
    · have HFA : Hid (v.ms.all memOk = true) := by
        have : v.ms.all memOk = true := by
          rw [List.all_eq_true]
          intro m hm
          exact unhide HA m (by rw [List.take_of_length_le (by omega)]; exact hm)
        exact this
      go_wp2_with fail
      go_ret
      exact ⟨by rw [unhide HFA]; rfl, (unhide M).kept⟩

theorem rmay13 (v : Vw) (w : World) (hF : First w) (hv : v.ms.length = 8) : Calls Tryd.prog 13 #[aggV (vwC v)] w fun e w' => e = .returned (.bool v.may) ∧ Kept [] w w' := by
  by_cases hf : v = fv
  · have : v.may = true := by subst hf; rfl
    rw [this]
    exact rmay_f v w hF hv hf
  have HE : decide (v = fv) = false := by simpa using hf
  by_cases h1 : v.nu < 1
  · have : v.may = false := by
      unfold Vw.may
      split
      · exact HE
      · rw [decide_eq_false (by omega)]; rfl
    rw [this]
    exact rmay_neg v w hF hv HE h1
  have hn : ¬ v.nu = 0 := by omega
  unfold Vw.may
  rw [if_neg hn]
  by_cases h2 : 4611686018427387904 < v.nu
  · rw [decide_eq_false (by omega), Bool.false_and]
    exact rmay_big v w hF hv HE (by omega) h2
  rw [decide_eq_true (show 1 ≤ v.nu ∧ v.nu ≤ 4611686018427387904 by omega), Bool.true_and]
  by_cases h3 : v.fd < 0
  · rw [Vw.isIn, show isNo v.fd = false by simp [isNo]; omega, Bool.false_and, Bool.false_and]
    exact rmay_fn v w hF hv HE (by omega) (by omega) h3
  by_cases h4 : 8 ≤ v.fd
  · rw [Vw.isIn, show isNo v.fd = false by simp [isNo]; omega, Bool.false_and, Bool.false_and]
    exact rmay_fb v w hF hv HE (by omega) (by omega) (by omega) h4
  rw [Vw.isIn, show isNo v.fd = true by simp [isNo]; omega, Bool.true_and]
  cases hin : (v.mem v.fd).1 with
  | false => exact rmay_out v w hF hv HE (by omega) (by omega) (by omega) (by omega) hin
  | true => rw [Bool.true_and]; exact rmay_in v w hF hv HE (by omega) (by omega) (by omega) (by omega) hin

end Go.Proofs.YtbpnnbbinhdoiaaDoor
