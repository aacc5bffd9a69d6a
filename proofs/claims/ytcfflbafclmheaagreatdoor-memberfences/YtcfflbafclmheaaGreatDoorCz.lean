/-
  Both devices, and what is kept in mind beside them.
-/
import Derived.Test.YtcfflbafclmheaaGreatDoorCy
import Derived.Test.YtcfflbafclmheaaGreatDoorCx

/-
  The document's Say.
-/
namespace Go.Proofs.YtcfflbafclmheaaGreatDoor
set_option maxRecDepth 100000
set_option linter.unusedSimpArgs false
open Go.RowKit
open Le (Mm wpStoreM wpStoreM1)


theorem cg100 (vs : Array Value) (w : World) : (callFunc 100 vs).run Tryz.prog w = .ok (.enter 100 vs) w := by kernel_rfl
section
variable {o : Oper} {a : Act} {w : World} {K : Act → World → Prop} {Q : Exit → Act → World → Prop}
theorem o_bsS (x : Operand) (ho : o.op = .buildSlice 60 1 #[(0, x)]) (vs : List Value) (hl : vs.length = 64) (hx : a.eval x = aggV vs) (h : K (a.put o.dst (.slice (some ⟨w.heap.size, 0, none⟩) 1 1)) (w.alloc (.cells vs.toArray 59))) : o.wp Tryz.prog a w K Q := by
  unfold Oper.wp execOp
  simp only [ho, List.map_toArray, List.map_cons, List.map_nil, hx, Sem.run_bind, bsS w vs hl, Result.andThen_ok]
  exact h
theorem o_add1 (y : Operand) (ho : o.op = .binOp .add 3 (.const (.int .i64 1)) y 3) (m : Int) (hm : 0 ≤ m ∧ m ≤ 64) (hy : a.eval y = .int .i64 m) (h : K (a.put o.dst (.int .i64 (1 + m))) w) : o.wp Tryz.prog a w K Q := by
  have hw : IntKind.i64.wrap (1 + m) = 1 + m := by rw [IntKind.wrap_i64]; omega
  unfold Oper.wp execOp
  simp only [ho, hy]
  simp [go_sem, Act.eval, hw]
  exact h
end
@[reducible] def SYr (V : World) (r sg eg : Nat) (D' : Dv.Dev) (S : List Int) (d : Nat → Bool) (vs : Nat → Value) (W : World) : Prop :=
  Kept [r, sg, eg] V W ∧ (d 9 = false → Kept [] V W) ∧ (d 8 = true → d 9 = false → ∃ p, vs 8 = .slice (some ⟨p, 0, none⟩) 1 1 ∧ V.heap.size ≤ p ∧ Blk W p 59 (u8s S)) ∧ (d 9 = true → Dv.Rv W r sg eg D')
theorem SYr.loc {V : World} {r sg eg : Nat} {D' : Dv.Dev} {S : List Int} : ∀ d d' vs vs' W, (∀ i ∈ [8, 9], d i = d' i ∧ vs i = vs' i) → SYr V r sg eg D' S d vs W → SYr V r sg eg D' S d' vs' W := by
  intro d d' vs vs' W H h
  have e0 := H 8 (by simp)
  have e1 := H 9 (by simp)
  unfold SYr at h ⊢
  rw [← e0.1, ← e0.2, ← e1.1]
  exact h
theorem SYr.step {V W W' : World} {r sg eg : Nat} {D' : Dv.Dev} {S : List Int} {d : Nat → Bool} {vs : Nat → Value} (h : SYr V r sg eg D' S d vs W) (hk : Kept [] W W') : SYr V r sg eg D' S d vs W' :=
  ⟨h.1.trans (hk.mono (by simp)), fun h7 => (h.2.1 h7).trans hk, fun h8 h9 => by obtain ⟨p, h1, h2, h3⟩ := h.2.2.1 h8 h9; exact ⟨p, h1, h2, h3.kept hk (by simp)⟩, fun h7 => (h.2.2.2 h7).kept hk (by simp) (by simp) (by simp)⟩
/-- Say, as the document has it. -/
def rsay (D : Dv.Dev) (J : Ar.Job) (n : Int) (l : Le.Le) : Int × Dv.Dev :=
  if n < 0 ∨ J.n ≤ n ∨ l.may = false ∨ l.ep = 0 then (2, D) else if rwho D J n l.ep ≠ 0 then (rwho D J n l.ep, D) else D.write n l.ep (1 + n) [(Le.putL l).1]
set_option maxHeartbeats 8000000 in
theorem rsay_a (r sg eg : Nat) (D : Dv.Dev) (J : Ar.Job) (n : Int) (l : Le.Le) (w : World) (h : Dv.Rv w r sg eg D) (h1 : decide (n < 0) = true) : Calls Tryz.prog 40 #[P0 r, aggV (Ar.jobC J), .int .i64 n, aggV (Le.Le.C l)] w fun x w' => x = .returned (.int .i64 2) ∧ Dv.Rv w' r sg eg D ∧ Kept [r, sg, eg] w w' := by
  have M : Hid (Ph r sg eg D w w []) := hide (Ph.init h)
  clear h
  go_enter Tryz.func40, Tryz.ntmps40
  go_wp2_with (
    first
    | (refine wpBoxV rfl (.tmp 1) rfl (Ar.jobC J) rfl ?_
       intro W1 b1 e1 B1 K1
       replace M : Hid (Ph r sg eg D w W1 [(b1, 23, Ar.jobC J)]) := hide ((unhide M).new e1 B1 K1)
       clear e1 B1 K1
       refine Stp.go ?_))
  constructor
  go_wp2_with (
    first
    | (refine wpBoxV rfl (.tmp 3) rfl (Le.Le.C l) rfl ?_
       intro W2 b2 e2 B2 K2
       replace M : Hid (Ph r sg eg D w W2 [(b1, 23, Ar.jobC J), (b2, 73, Le.Le.C l)]) := hide ((unhide M).new e2 B2 K2)
       clear e2 B2 K2
       have f0 := fits_cell ((unhide M).at 0 _ rfl) 0 (.int .i64 J.n) rfl
       have f1 := fits_cell ((unhide M).at 1 _ rfl) 0 (.int .i64 l.ep) rfl
       refine Stp.go ?_))
  constructor
  go_wp2_with fail
  go_ret
  exact ⟨rfl, (unhide M).rv, (unhide M).kept⟩
set_option maxHeartbeats 8000000 in
theorem rsay_b (r sg eg : Nat) (D : Dv.Dev) (J : Ar.Job) (n : Int) (l : Le.Le) (w : World) (h : Dv.Rv w r sg eg D) (h1 : decide (n < 0) = false) (h2 : decide (J.n ≤ n) = true) : Calls Tryz.prog 40 #[P0 r, aggV (Ar.jobC J), .int .i64 n, aggV (Le.Le.C l)] w fun x w' => x = .returned (.int .i64 2) ∧ Dv.Rv w' r sg eg D ∧ Kept [r, sg, eg] w w' := by
  have M : Hid (Ph r sg eg D w w []) := hide (Ph.init h)
  clear h
  go_enter Tryz.func40, Tryz.ntmps40
  go_wp2_with (
    first
    | (refine wpBoxV rfl (.tmp 1) rfl (Ar.jobC J) rfl ?_
       intro W1 b1 e1 B1 K1
       replace M : Hid (Ph r sg eg D w W1 [(b1, 23, Ar.jobC J)]) := hide ((unhide M).new e1 B1 K1)
       clear e1 B1 K1
       refine Stp.go ?_))
  constructor
  go_wp2_with (
    first
    | (refine wpBoxV rfl (.tmp 3) rfl (Le.Le.C l) rfl ?_
       intro W2 b2 e2 B2 K2
       replace M : Hid (Ph r sg eg D w W2 [(b1, 23, Ar.jobC J), (b2, 73, Le.Le.C l)]) := hide ((unhide M).new e2 B2 K2)
       clear e2 B2 K2
       have f0 := fits_cell ((unhide M).at 0 _ rfl) 0 (.int .i64 J.n) rfl
       have f1 := fits_cell ((unhide M).at 1 _ rfl) 0 (.int .i64 l.ep) rfl
       refine Stp.go ?_))
  constructor
  go_wp2_with fail
  go_ret
  exact ⟨rfl, (unhide M).rv, (unhide M).kept⟩
set_option maxHeartbeats 8000000 in
theorem rsay_c (r sg eg : Nat) (D : Dv.Dev) (J : Ar.Job) (n : Int) (l : Le.Le) (w : World) (h : Dv.Rv w r sg eg D) (h1 : decide (n < 0) = false) (h2 : decide (J.n ≤ n) = false) (PM : Hid (∀ W, Calls Tryz.prog 99 #[aggV (Le.Le.C l)] W fun e w' => e = .returned (.bool false) ∧ Kept [] W w')) : Calls Tryz.prog 40 #[P0 r, aggV (Ar.jobC J), .int .i64 n, aggV (Le.Le.C l)] w fun x w' => x = .returned (.int .i64 2) ∧ Dv.Rv w' r sg eg D ∧ Kept [r, sg, eg] w w' := by
  have M : Hid (Ph r sg eg D w w []) := hide (Ph.init h)
  clear h
  go_enter Tryz.func40, Tryz.ntmps40
  go_wp2_with (
    first
    | (refine wpBoxV rfl (.tmp 1) rfl (Ar.jobC J) rfl ?_
       intro W1 b1 e1 B1 K1
       replace M : Hid (Ph r sg eg D w W1 [(b1, 23, Ar.jobC J)]) := hide ((unhide M).new e1 B1 K1)
       clear e1 B1 K1
       refine Stp.go ?_))
  constructor
  go_wp2_with (
    first
    | (refine wpBoxV rfl (.tmp 3) rfl (Le.Le.C l) rfl ?_
       intro W2 b2 e2 B2 K2
       replace M : Hid (Ph r sg eg D w W2 [(b1, 23, Ar.jobC J), (b2, 73, Le.Le.C l)]) := hide ((unhide M).new e2 B2 K2)
       clear e2 B2 K2
       have f0 := fits_cell ((unhide M).at 0 _ rfl) 0 (.int .i64 J.n) rfl
       have f1 := fits_cell ((unhide M).at 1 _ rfl) 0 (.int .i64 l.ep) rfl
       refine Stp.go ?_))
  constructor
  go_wp2_with (
    first
    | (refine Le.wpLoadG Le.row23 (.tmp 7) rfl rfl b2 0 rfl (Le.Le.C l) rfl ((unhide M).at 1 _ rfl).range ?_
       refine Stp.go ?_))
  constructor
  go_wp2_with (
    first
    | (go_at_call 99
       refine (unhide PM _).mono ?_
       rintro e W3 ⟨rfl, K3⟩
       replace M : Hid (Ph r sg eg D w W3 [(b1, 23, Ar.jobC J), (b2, 73, Le.Le.C l)]) := hide ((unhide M).step K3)
       clear K3
       refine Stp.go ?_))
  constructor
  go_wp2_with fail
  go_ret
  exact ⟨rfl, (unhide M).rv, (unhide M).kept⟩
set_option maxHeartbeats 8000000 in
theorem rsay_d (r sg eg : Nat) (D : Dv.Dev) (J : Ar.Job) (n : Int) (l : Le.Le) (w : World) (h : Dv.Rv w r sg eg D) (h1 : decide (n < 0) = false) (h2 : decide (J.n ≤ n) = false) (PM : Hid (∀ W, Calls Tryz.prog 99 #[aggV (Le.Le.C l)] W fun e w' => e = .returned (.bool true) ∧ Kept [] W w')) (HEP : Hid (l.ep = 0)) : Calls Tryz.prog 40 #[P0 r, aggV (Ar.jobC J), .int .i64 n, aggV (Le.Le.C l)] w fun x w' => x = .returned (.int .i64 2) ∧ Dv.Rv w' r sg eg D ∧ Kept [r, sg, eg] w w' := by
  have M : Hid (Ph r sg eg D w w []) := hide (Ph.init h)
  clear h
  go_enter Tryz.func40, Tryz.ntmps40
  go_wp2_with (
    first
    | (refine wpBoxV rfl (.tmp 1) rfl (Ar.jobC J) rfl ?_
       intro W1 b1 e1 B1 K1
       replace M : Hid (Ph r sg eg D w W1 [(b1, 23, Ar.jobC J)]) := hide ((unhide M).new e1 B1 K1)
       clear e1 B1 K1
       refine Stp.go ?_))
  constructor
  go_wp2_with (
    first
    | (refine wpBoxV rfl (.tmp 3) rfl (Le.Le.C l) rfl ?_
       intro W2 b2 e2 B2 K2
       replace M : Hid (Ph r sg eg D w W2 [(b1, 23, Ar.jobC J), (b2, 73, Le.Le.C l)]) := hide ((unhide M).new e2 B2 K2)
       clear e2 B2 K2
       have f0 := fits_cell ((unhide M).at 0 _ rfl) 0 (.int .i64 J.n) rfl
       have f1 := fits_cell ((unhide M).at 1 _ rfl) 0 (.int .i64 l.ep) rfl
       refine Stp.go ?_))
  constructor
  go_wp2_with (
    first
    | (refine Le.wpLoadG Le.row23 (.tmp 7) rfl rfl b2 0 rfl (Le.Le.C l) rfl ((unhide M).at 1 _ rfl).range ?_
       refine Stp.go ?_))
  constructor
  go_wp2_with (
    first
    | (go_at_call 99
       refine (unhide PM _).mono ?_
       rintro e W3 ⟨rfl, K3⟩
       replace M : Hid (Ph r sg eg D w W3 [(b1, 23, Ar.jobC J), (b2, 73, Le.Le.C l)]) := hide ((unhide M).step K3)
       clear K3
       clear f1
       have f1 := fits_cell ((unhide M).at 1 _ rfl) 0 (.int .i64 l.ep) rfl
       rw [unhide HEP] at f1
       refine Stp.go ?_))
  constructor
  go_wp2_with fail
  go_ret
  exact ⟨rfl, (unhide M).rv, (unhide M).kept⟩
set_option maxHeartbeats 8000000 in
theorem rsay_e (r sg eg : Nat) (D : Dv.Dev) (J : Ar.Job) (n : Int) (l : Le.Le) (w : World) (h : Dv.Rv w r sg eg D) (e1 : Int) (h1 : decide (n < 0) = false) (h2 : decide (J.n ≤ n) = false) (PM : Hid (∀ W, Calls Tryz.prog 99 #[aggV (Le.Le.C l)] W fun e w' => e = .returned (.bool true) ∧ Kept [] W w')) (PW : Hid (∀ W, Dv.Rv W r sg eg D → Calls Tryz.prog 96 #[P0 r, aggV (Ar.jobC J), .int .i64 n, .int .i64 l.ep] W fun e w' => e = .returned (.int .i64 e1) ∧ Kept [] W w')) (hep : ¬ l.ep = 0) (he : ¬ e1 = 0) : Calls Tryz.prog 40 #[P0 r, aggV (Ar.jobC J), .int .i64 n, aggV (Le.Le.C l)] w fun x w' => x = .returned (.int .i64 e1) ∧ Dv.Rv w' r sg eg D ∧ Kept [r, sg, eg] w w' := by
  have M : Hid (Ph r sg eg D w w []) := hide (Ph.init h)
  clear h
  go_enter Tryz.func40, Tryz.ntmps40
  go_wp2_with (
    first
    | (refine wpBoxV rfl (.tmp 1) rfl (Ar.jobC J) rfl ?_
       intro W1 b1 e1 B1 K1
       replace M : Hid (Ph r sg eg D w W1 [(b1, 23, Ar.jobC J)]) := hide ((unhide M).new e1 B1 K1)
       clear e1 B1 K1
       refine Stp.go ?_))
  constructor
  go_wp2_with (
    first
    | (refine wpBoxV rfl (.tmp 3) rfl (Le.Le.C l) rfl ?_
       intro W2 b2 e2 B2 K2
       replace M : Hid (Ph r sg eg D w W2 [(b1, 23, Ar.jobC J), (b2, 73, Le.Le.C l)]) := hide ((unhide M).new e2 B2 K2)
       clear e2 B2 K2
       have f0 := fits_cell ((unhide M).at 0 _ rfl) 0 (.int .i64 J.n) rfl
       have f1 := fits_cell ((unhide M).at 1 _ rfl) 0 (.int .i64 l.ep) rfl
       refine Stp.go ?_))
  constructor
  go_wp2_with (
    first
    | (refine Le.wpLoadG Le.row23 (.tmp 7) rfl rfl b2 0 rfl (Le.Le.C l) rfl ((unhide M).at 1 _ rfl).range ?_
       refine Stp.go ?_))
  constructor
  go_wp2_with (
    first
    | (go_at_call 99
       refine (unhide PM _).mono ?_
       rintro e W3 ⟨rfl, K3⟩
       replace M : Hid (Ph r sg eg D w W3 [(b1, 23, Ar.jobC J), (b2, 73, Le.Le.C l)]) := hide ((unhide M).step K3)
       clear K3
       clear f1
       have f1 := fits_cell ((unhide M).at 1 _ rfl) 0 (.int .i64 l.ep) rfl
       refine Stp.go ?_))
  constructor
  go_wp2_with (
    first
    | (refine wpLoadA jrow rfl (.tmp 5) rfl b1 0 rfl (Ar.jobC J) rfl ((unhide M).at 0 _ rfl).range ?_
       refine Stp.go ?_))
  constructor
  go_wp2_with (
    first
    | (go_at_call 96
       refine (unhide PW _ (unhide M).rv).mono ?_
       rintro e W4 ⟨rfl, K4⟩
       replace M : Hid (Ph r sg eg D w W4 [(b1, 23, Ar.jobC J), (b2, 73, Le.Le.C l)]) := hide ((unhide M).step K4)
       clear K4
       clear f0 f1
       refine Stp.go ?_))
  constructor
  go_wp2_with fail
  go_ret
  exact ⟨rfl, (unhide M).rv, (unhide M).kept⟩
set_option maxHeartbeats 8000000 in
theorem rsay_f (r sg eg : Nat) (D : Dv.Dev) (J : Ar.Job) (n : Int) (l : Le.Le) (w : World) (h : Dv.Rv w r sg eg D) (we : Int) (D2 : Dv.Dev) (S : List Int) (h1 : decide (n < 0) = false) (h2 : decide (J.n ≤ n) = false) (PM : Hid (∀ W, Calls Tryz.prog 99 #[aggV (Le.Le.C l)] W fun e w' => e = .returned (.bool true) ∧ Kept [] W w')) (PW : Hid (∀ W, Dv.Rv W r sg eg D → Calls Tryz.prog 96 #[P0 r, aggV (Ar.jobC J), .int .i64 n, .int .i64 l.ep] W fun e w' => e = .returned (.int .i64 0) ∧ Kept [] W w')) (hep : ¬ l.ep = 0) (PP : Hid (∀ W, Calls Tryz.prog 101 #[aggV (Le.Le.C l)] W fun e w' => e = .returned (aggV (u8s S)) ∧ Kept [] W w')) (PS : Hid (∀ W p, Dv.Rv W r sg eg D → Blk W p 59 (u8s S) → ((r ≠ p ∧ sg ≠ p) ∧ eg ≠ p) → Calls Tryz.prog 100 #[P0 r, .int .i64 n, .int .i64 l.ep, .int .i64 (1 + n), .slice (some ⟨p, 0, none⟩) 1 1] W fun x w' => x = .returned (.int .i64 we) ∧ Dv.Rv w' r sg eg D2 ∧ Kept [r, sg] W w')) (HSS : Hid (Dv.Sec S)) (HN : Hid (0 ≤ n ∧ n ≤ 64)) : Calls Tryz.prog 40 #[P0 r, aggV (Ar.jobC J), .int .i64 n, aggV (Le.Le.C l)] w fun x w' => x = .returned (.int .i64 we) ∧ Dv.Rv w' r sg eg D2 ∧ Kept [r, sg, eg] w w' := by
  have M : Hid (Ph r sg eg D w w []) := hide (Ph.init h)
  clear h
  go_enter Tryz.func40, Tryz.ntmps40
  go_wp2_with (
    first
    | (refine wpBoxV rfl (.tmp 1) rfl (Ar.jobC J) rfl ?_
       intro W1 b1 e1 B1 K1
       replace M : Hid (Ph r sg eg D w W1 [(b1, 23, Ar.jobC J)]) := hide ((unhide M).new e1 B1 K1)
       clear e1 B1 K1
       refine Stp.go ?_))
  constructor
  go_wp2_with (
    first
    | (refine wpBoxV rfl (.tmp 3) rfl (Le.Le.C l) rfl ?_
       intro W2 b2 e2 B2 K2
       replace M : Hid (Ph r sg eg D w W2 [(b1, 23, Ar.jobC J), (b2, 73, Le.Le.C l)]) := hide ((unhide M).new e2 B2 K2)
       clear e2 B2 K2
       have f0 := fits_cell ((unhide M).at 0 _ rfl) 0 (.int .i64 J.n) rfl
       have f1 := fits_cell ((unhide M).at 1 _ rfl) 0 (.int .i64 l.ep) rfl
       refine Stp.go ?_))
  constructor
  go_wp2_with (
    first
    | (refine Le.wpLoadG Le.row23 (.tmp 7) rfl rfl b2 0 rfl (Le.Le.C l) rfl ((unhide M).at 1 _ rfl).range ?_
       refine Stp.go ?_))
  constructor
  go_wp2_with (
    first
    | (go_at_call 99
       refine (unhide PM _).mono ?_
       rintro e W3 ⟨rfl, K3⟩
       replace M : Hid (Ph r sg eg D w W3 [(b1, 23, Ar.jobC J), (b2, 73, Le.Le.C l)]) := hide ((unhide M).step K3)
       clear K3
       clear f1
       have f1 := fits_cell ((unhide M).at 1 _ rfl) 0 (.int .i64 l.ep) rfl
       refine Stp.go ?_))
  constructor
  go_wp2_with (
    first
    | (refine wpLoadA jrow rfl (.tmp 5) rfl b1 0 rfl (Ar.jobC J) rfl ((unhide M).at 0 _ rfl).range ?_
       refine Stp.go ?_))
  constructor
  go_wp2_with (
    first
    | (go_at_call 96
       refine (unhide PW _ (unhide M).rv).mono ?_
       rintro e W4 ⟨rfl, K4⟩
       replace M : Hid (Ph r sg eg D w W4 [(b1, 23, Ar.jobC J), (b2, 73, Le.Le.C l)]) := hide ((unhide M).step K4)
       clear K4
       clear f0 f1
       refine Stp.go ?_))
  constructor
  go_wp2_with fail
  refine wp_region_any mixed (wpAny_gx 11 rfl (by kernel_rfl) [some (P0 r), some (.int .i64 n), some (.pointer (some ⟨b2, 0, none⟩)), some (.int .i64 l.ep), some (.int .i64 n), some (.int .i64 (1 + n)), some (aggV (Le.Le.C l)), some (aggV (u8s S)), none, some (.int .i64 we), some (.int .i64 we)] rfl (by kernel_rfl) (fun l9 vs W => (SYr W4 r sg eg D2 S) (fun i => l9.getD i false) vs W) (⟨⟨rfl, rfl, rfl, Nat.le_refl _, fun _ _ _ => rfl⟩, (fun _ => ⟨rfl, rfl, rfl, Nat.le_refl _, fun _ _ _ => rfl⟩), (fun h => by cases h), (fun h => by cases h)⟩) ?_ ?_)
  · intro ix o' hi ho a' w2 l_ vs hls hlf hJ hout hin hdep hnot
    match ix, ho with
    | 0, ho =>
      obtain rfl := Option.some.inj ho
      have e0 := hout 0 (by kernel_rfl)
      replace e0 : a'.eval (.tmp 0) = _ := e0.trans rfl
      exact wp_move (.tmp 0) rfl _ e0 ⟨_, rfl, told_of rfl, Le.keepG (St := (SYr W4 r sg eg D2 S)) [8, 9] SYr.loc (by omega) (by decide) hJ⟩
    | 1, ho =>
      obtain rfl := Option.some.inj ho
      have e0 := hout 2 (by kernel_rfl)
      replace e0 : a'.eval (.tmp 2) = _ := e0.trans rfl
      exact wp_move (.tmp 2) rfl _ e0 ⟨_, rfl, told_of rfl, Le.keepG (St := (SYr W4 r sg eg D2 S)) [8, 9] SYr.loc (by omega) (by decide) hJ⟩
    | 2, ho =>
      obtain rfl := Option.some.inj ho
      have e0 := hout 7 (by kernel_rfl)
      replace e0 : a'.eval (.tmp 7) = _ := e0.trans rfl
      exact o_fldL (.tmp 7) 0 (by omega) rfl b2 e0 ⟨_, rfl, told_of rfl, Le.keepG (St := (SYr W4 r sg eg D2 S)) [8, 9] SYr.loc (by omega) (by decide) hJ⟩
    | 3, ho =>
      obtain rfl := Option.some.inj ho
      have e0 : a'.eval (.tmp 39) = .pointer (some ⟨b2, 0, none⟩) := by have h9 := hin 2 39 (by kernel_rfl) (by kernel_rfl); exact h9.1.trans (told_is _ h9.2 rfl)
      exact o_load2 (.tmp 39) rfl _ _ e0 (fits_cell (((unhide M).at 1 _ rfl).kept hJ.1 ((unhide M).ne (b2, 73, Le.Le.C l) (by simp))) 0 _ rfl) ⟨_, rfl, told_of rfl, Le.keepG (St := (SYr W4 r sg eg D2 S)) [8, 9] SYr.loc (by omega) (by decide) hJ⟩
    | 4, ho =>
      obtain rfl := Option.some.inj ho
      have e0 := hout 2 (by kernel_rfl)
      replace e0 : a'.eval (.tmp 2) = _ := e0.trans rfl
      exact wp_move (.tmp 2) rfl _ e0 ⟨_, rfl, told_of rfl, Le.keepG (St := (SYr W4 r sg eg D2 S)) [8, 9] SYr.loc (by omega) (by decide) hJ⟩
    | 5, ho =>
      obtain rfl := Option.some.inj ho
      have e0 : a'.eval (.tmp 41) = .int .i64 n := by have h9 := hin 4 41 (by kernel_rfl) (by kernel_rfl); exact h9.1.trans (told_is _ h9.2 rfl)
      exact o_add1 (.tmp 41) rfl n (unhide HN) e0 ⟨_, rfl, told_of rfl, Le.keepG (St := (SYr W4 r sg eg D2 S)) [8, 9] SYr.loc (by omega) (by decide) hJ⟩
    | 6, ho =>
      obtain rfl := Option.some.inj ho
      have e0 := hout 7 (by kernel_rfl)
      replace e0 : a'.eval (.tmp 7) = _ := e0.trans rfl
      exact wp_loadA Le.row23 (.tmp 7) rfl b2 0 e0 (Le.Le.C l) rfl (((unhide M).at 1 _ rfl).kept hJ.1 ((unhide M).ne (b2, 73, Le.Le.C l) (by simp))).range ⟨_, rfl, told_of rfl, Le.keepG (St := (SYr W4 r sg eg D2 S)) [8, 9] SYr.loc (by omega) (by decide) hJ⟩
    | 7, ho =>
      obtain rfl := Option.some.inj ho
      have e0 : a'.eval (.tmp 43) = aggV (Le.Le.C l) := by have h9 := hin 6 43 (by kernel_rfl) (by kernel_rfl); exact h9.1.trans (told_is _ h9.2 rfl)
      refine wp_callF 101 _ _ rfl #[aggV (Le.Le.C l)] (by simp [e0]) (Le.cg101 _ _) ((unhide PP w2).mono ?_)
      rintro e w3 ⟨rfl, hk3⟩
      exact ⟨_, rfl, _, rfl, told_of rfl, Le.keepG (St := (SYr W4 r sg eg D2 S)) [8, 9] SYr.loc (by omega) (by decide) (SYr.step hJ hk3)⟩
    | 8, ho =>
      obtain rfl := Option.some.inj ho
      have e0 : a'.eval (.tmp 44) = aggV (u8s S) := by have h9 := hin 7 44 (by kernel_rfl) (by kernel_rfl); exact h9.1.trans (told_is _ h9.2 rfl)
      have h9f : l_.getD 9 false = false := hnot 9 (by kernel_rfl)
      exact o_bsS (.tmp 44) rfl (u8s S) (by rw [u8s_len]; exact (unhide HSS).1) e0 ⟨_, rfl, told_no rfl, Le.nextG (St := (SYr W4 r sg eg D2 S)) (by omega) ⟨hJ.1.alloc _, (fun _ => (hJ.2.1 h9f).alloc _), (fun _ _ => ⟨w2.heap.size, rfl, (hJ.2.1 h9f).size, Blk.new w2 59 _⟩), (fun h => by have h9 : l_.getD 9 false = true := h; rw [h9f] at h9; cases h9)⟩⟩
    | 9, ho =>
      obtain rfl := Option.some.inj ho
      have e0 : a'.eval (.tmp 37) = P0 r := by have h9 := hin 0 37 (by kernel_rfl) (by kernel_rfl); exact h9.1.trans (told_is _ h9.2 rfl)
      have e1 : a'.eval (.tmp 38) = .int .i64 n := by have h9 := hin 1 38 (by kernel_rfl) (by kernel_rfl); exact h9.1.trans (told_is _ h9.2 rfl)
      have e2 : a'.eval (.tmp 40) = .int .i64 l.ep := by have h9 := hin 3 40 (by kernel_rfl) (by kernel_rfl); exact h9.1.trans (told_is _ h9.2 rfl)
      have e3 : a'.eval (.tmp 42) = .int .i64 (1 + n) := by have h9 := hin 5 42 (by kernel_rfl) (by kernel_rfl); exact h9.1.trans (told_is _ h9.2 rfl)
      have e4 : a'.eval (.tmp 45) = vs 8 := (hin 8 45 (by kernel_rfl) (by kernel_rfl)).1
      obtain ⟨p, hp, hge, hbp⟩ := hJ.2.2.1 (hdep 8 (by kernel_rfl)) hlf
      rw [hp] at e4
      have hRw := ((unhide M).step (hJ.2.1 hlf)).rv
      have hlt := ((unhide M).rv).lt
      refine wp_callF 100 _ _ rfl #[P0 r, .int .i64 n, .int .i64 l.ep, .int .i64 (1 + n), .slice (some ⟨p, 0, none⟩) 1 1] (by simp [e0, e1, e2, e3, e4]) (cg100 _ _) ((unhide PS w2 p hRw hbp (by omega)).mono ?_)
      rintro e w3 ⟨rfl, hR3, hk3⟩
      exact ⟨_, rfl, _, rfl, told_of rfl, Le.nextG (St := (SYr W4 r sg eg D2 S)) (by omega) ⟨hJ.1.trans (hk3.mono (by simp)), (fun h => by cases h), (fun _ h => by cases h), fun _ => hR3⟩⟩
    | 10, ho =>
      obtain rfl := Option.some.inj ho
      have e0 : a'.eval (.tmp 46) = .int .i64 we := by have h9 := hin 9 46 (by kernel_rfl) (by kernel_rfl); exact h9.1.trans (told_is _ h9.2 rfl)
      exact wp_assignV (.tmp 46) rfl _ e0 ⟨_, rfl, told_of rfl, Le.keepG (St := (SYr W4 r sg eg D2 S)) [8, 9] SYr.loc (by omega) (by decide) hJ⟩
  intro l_ vs9 V9 hl hJ htold
  have t0 : vs9 0 = P0 r := told_is _ (htold 0 (by decide)) rfl
  have t1 : vs9 1 = .int .i64 n := told_is _ (htold 1 (by decide)) rfl
  have t2 : vs9 2 = .pointer (some ⟨b2, 0, none⟩) := told_is _ (htold 2 (by decide)) rfl
  have t3 : vs9 3 = .int .i64 l.ep := told_is _ (htold 3 (by decide)) rfl
  have t4 : vs9 4 = .int .i64 n := told_is _ (htold 4 (by decide)) rfl
  have t5 : vs9 5 = .int .i64 (1 + n) := told_is _ (htold 5 (by decide)) rfl
  have t6 : vs9 6 = aggV (Le.Le.C l) := told_is _ (htold 6 (by decide)) rfl
  have t7 : vs9 7 = aggV (u8s S) := told_is _ (htold 7 (by decide)) rfl
  have t9 : vs9 9 = .int .i64 we := told_is _ (htold 9 (by decide)) rfl
  have t10 : vs9 10 = .int .i64 we := told_is _ (htold 10 (by decide)) rfl
  rw [show (List.range 11).map vs9 = [vs9 0, vs9 1, vs9 2, vs9 3, vs9 4, vs9 5, vs9 6, vs9 7, vs9 8, vs9 9, vs9 10] from rfl]
  simp only [t0, t1, t2, t3, t4, t5, t6, t7, t9, t10, putAll, Act.put, List.setIfInBounds_toArray, List.set_cons_succ, List.set_cons_zero]
  clear t0 t1 t2 t3 t4 t5 t6 t7 t9 t10 htold
  replace M : Hid (Ph r sg eg D2 w V9 [(b1, 23, Ar.jobC J), (b2, 73, Le.Le.C l)]) := hide ((unhide M).dev hJ.1 (fun _ h => h) (hJ.2.2.2 (hl 9 (by decide))))
  clear hJ hl
  go_wp2_with fail
  go_ret
  exact ⟨rfl, (unhide M).rv, (unhide M).kept⟩
theorem rsay40 (r sg eg : Nat) (D : Dv.Dev) (J : Ar.Job) (n : Int) (l : Le.Le) (w : World) (h : Dv.Rv w r sg eg D) (hJ : J.n ≤ 8) : Calls Tryz.prog 40 #[P0 r, aggV (Ar.jobC J), .int .i64 n, aggV (Le.Le.C l)] w fun x w' => x = .returned (.int .i64 (rsay D J n l).1) ∧ Dv.Rv w' r sg eg (rsay D J n l).2 ∧ Kept [r, sg, eg] w w' := by
  unfold rsay
  by_cases a1 : n < 0
  · rw [if_pos (Or.inl a1)]; exact rsay_a r sg eg D J n l w h (decide_eq_true a1)
  by_cases a2 : J.n ≤ n
  · rw [if_pos (Or.inr (Or.inl a2))]; exact rsay_b r sg eg D J n l w h (decide_eq_false a1) (decide_eq_true a2)
  have PM := fun W => mayLease99 l W
  cases hm : l.may with
  | false =>
    rw [hm] at PM
    rw [if_pos (Or.inr (Or.inr (Or.inl rfl)))]
    exact rsay_c r sg eg D J n l w h (decide_eq_false a1) (decide_eq_false a2) PM
  | true =>
    rw [hm] at PM
    by_cases a3 : l.ep = 0
    · rw [if_pos (Or.inr (Or.inr (Or.inr a3)))]; exact rsay_d r sg eg D J n l w h (decide_eq_false a1) (decide_eq_false a2) PM a3
    rw [if_neg (by simp; omega)]
    have PW := fun W (h0 : Dv.Rv W r sg eg D) => who96 r sg eg D J n l.ep W h0
    by_cases h1 : rwho D J n l.ep = 0
    · rw [if_neg (fun q => q h1)]
      rw [h1] at PW
      have hsec := putL_sec l
      have PS := fun W p (h0 : Dv.Rv W r sg eg D) (hB : Blk W p 59 (u8s (Le.putL l).1)) (hne : (r ≠ p ∧ sg ≠ p) ∧ eg ≠ p) => Dv.r_write r sg eg D n l.ep (1 + n) (some ⟨p, 0, none⟩) 1 1 [(Le.putL l).1] W h0 (by omega) (by omega) (secs_one hB hsec) (fun h9 off e9 => by cases e9; simp only [List.mem_cons, List.not_mem_nil, or_false, not_or]; exact ⟨fun e => hne.1.1 e.symm, fun e => hne.1.2 e.symm⟩)
      exact rsay_f r sg eg D J n l w h _ _ _ (decide_eq_false a1) (decide_eq_false a2) PM PW a3 (fun W => rput101 l W hm) PS hsec (by show _ ∧ _; omega)
    · rw [if_pos h1]
      exact rsay_e r sg eg D J n l w h _ (decide_eq_false a1) (decide_eq_false a2) PM PW a3 h1

end Go.Proofs.YtcfflbafclmheaaGreatDoor

/-
  What is put is got (views).
-/
namespace Go.Proofs.YtcfflbafclmheaaGreatDoor
set_option maxRecDepth 100000
set_option linter.unusedSimpArgs false
open Go.RowKit


namespace Vi
theorem may_mem {v : Vw} (h : v.may = true) (hv : v.ms.length = 8) {n : Int} (h0 : 0 ≤ n) (h8 : n < 8) : memOk (v.mem n) = true := by
  have hm := mem_at hv h0 h8
  have := List.mem_of_getElem? hm
  unfold Vw.may at h
  split at h
  · rw [decide_eq_true_eq] at h
    have hx : v.mem n ∈ no8 := by rw [h] at this ⊢; exact this
    simp [no8] at hx
    rw [hx]; rfl
  · simp only [Bool.and_eq_true, List.all_eq_true] at h
    exact h.2.2 _ this
theorem ofB_app : ∀ (l : List Int) (n x : Int), ofB n (l ++ [x]) = wrap64 (ofB n l * 256 + x)
  | [], n, x => rfl
  | y :: l, n, x => by rw [List.cons_append, ofB, ofB_app l, ofB]
theorem ofB_be : ∀ (k : Nat) (m : Int), 0 ≤ m → m < 256 ^ k → m ≤ 9223372036854775807 → ofB 0 (be k m) = m
  | 0, m, h0, h1, _ => by
    rw [Int.pow_zero] at h1
    simp [be, ofB]
    omega
  | k + 1, m, h0, h1, h2 => by
    have hp : (256 : Int) ^ (k + 1) = 256 ^ k * 256 := Int.pow_succ ..
    rw [hp] at h1
    rw [be, ofB_app, ofB_be k (m / 256) (by omega) (by omega) (by omega)]
    unfold wrap64
    omega
theorem bitF_up : ∀ (l : List (Bool × Int)) (j : Nat), bitF (j + 1) l = 2 * bitF j l := by
  intro l
  induction l with
  | nil => intro j; rfl
  | cons m l ih =>
    intro j
    rw [bitF, bitF, ih, ih]
    have : 2 ^ (j + 1) = 2 * 2 ^ j := by rw [Nat.pow_succ]; omega
    split
    · rw [this]; omega
    · omega
theorem bit_at : ∀ (l : List (Bool × Int)) (i : Nat) (m : Bool × Int), l[i]? = some m → bitF 0 l / 2 ^ i % 2 = if m.1 then 1 else 0 := by
  intro l
  induction l with
  | nil => intro i m h; simp at h
  | cons x l ih =>
    intro i m h
    have hb : bitF 0 (x :: l) = (if x.1 then 1 else 0) + 2 * bitF 0 l := by rw [bitF, bitF_up]
    cases i with
    | zero =>
      simp at h
      subst h
      rw [hb, Nat.pow_zero, Nat.div_one]
      split <;> omega
    | succ i =>
      have := ih i m (by simpa using h)
      rw [hb, Nat.pow_succ, Nat.mul_comm (2 ^ i) 2, ← Nat.div_div_eq_div_mul]
      have h2 : ((if x.1 then 1 else 0) + 2 * bitF 0 l) / 2 = bitF 0 l := by split <;> omega
      rw [h2]
      exact this
theorem ep_at : ∀ (l : List (Bool × Int)) (z : List Int) (i : Nat) (m : Bool × Int), l[i]? = some m → ((epB l ++ z).drop (4 * i)).take 4 = be 4 m.2 := by
  intro l
  induction l with
  | nil => intro z i m h; simp at h
  | cons x l ih =>
    intro z i m h
    have he : epB (x :: l) = be 4 x.2 ++ epB l := rfl
    rw [he]
    cases i with
    | zero =>
      simp at h
      subst h
      rw [Nat.mul_zero, List.drop_zero, List.append_assoc, List.take_append_of_le_length (by rw [be_len]; exact Nat.le_refl _), List.take_of_length_le (by rw [be_len]; exact Nat.le_refl _)]
    | succ i =>
      rw [List.append_assoc, show 4 * (i + 1) = 4 + 4 * i by omega, ← List.drop_drop, List.drop_left' (be_len 4 _)]
      exact ih z i m (by simpa using h)
/-- A sector's view is the view whose it is. -/
theorem view_sec {v : Vw} (hm : v.may = true) (hok : v.Ok) (hq : ¬ v = fv) : viewV (secV v) = v := by
  have hnu := may_nu hm
  have hn0 : ¬ v.nu = 0 := by
    intro h
    unfold Vw.may at hm
    rw [if_pos h] at hm
    exact hq (by simpa using hm)
  have hfd : 0 ≤ v.fd ∧ v.fd < 8 := by
    unfold Vw.may at hm
    rw [if_neg hn0] at hm
    simp [Vw.isIn, isNo] at hm
    omega
  have h8 := hok.len
  have e1 : (secV v).getD 1 0 = if v.op then 1 else 0 := rfl
  have e2 : (secV v).getD 2 0 = v.fd % 256 := rfl
  have e3 : (secV v).getD 3 0 = ((bitF 0 v.ms : Nat) : Int) := rfl
  have e4 : ((secV v).drop 4).take 8 = be 8 v.nu := by
    show (be 8 v.nu ++ epB v.ms ++ zs 20).take 8 = _
    rw [List.append_assoc, List.take_append_of_le_length (by rw [be_len]; exact Nat.le_refl _), List.take_of_length_le (by rw [be_len]; exact Nat.le_refl _)]
  have e5 : ∀ i, ((secV v).drop (12 + 4 * i)) = (epB v.ms ++ zs 20).drop (4 * i) := by
    intro i
    rw [← List.drop_drop]
    refine congrArg (List.drop (4 * i)) ?_
    show ([193, (if v.op then 1 else 0), v.fd % 256, ((bitF 0 v.ms : Nat) : Int)] ++ be 8 v.nu ++ epB v.ms ++ zs 20).drop 12 = _
    rw [List.append_assoc _ (epB v.ms)]
    rw [List.drop_left' (by rw [List.length_append, be_len]; rfl)]
  unfold viewV
  rw [e1, e2, e4, ofB_be 8 v.nu hnu.1 (by have : (256 : Int) ^ 8 = 18446744073709551616 := by decide
                                          omega) (by omega)]
  have hms : (List.range 8).map (memV (secV v)) = v.ms := by
    apply List.ext_getElem?
    intro i
    by_cases hi : i < 8
    · obtain ⟨m, hmi⟩ : ∃ m, v.ms[i]? = some m := ⟨_, List.getElem?_eq_getElem (by omega)⟩
      have hmk := may_mem hm hok.len (n := (i : Int)) (by omega) (by omega)
      have hme : v.mem (i : Int) = m := by unfold Vw.mem; rw [Int.toNat_natCast, List.getD_eq_getElem?_getD, hmi]; rfl
      rw [hme] at hmk
      have he : 0 ≤ m.2 ∧ m.2 ≤ 2147483647 := by
        unfold memOk isEp at hmk
        split at hmk <;> simp at hmk <;> omega
      have hmv : memV (secV v) i = m := by
        unfold memV
        rw [e3, e5 i, ep_at v.ms (zs 20) i m hmi, ofB_be 4 m.2 he.1 (by have : (256 : Int) ^ 4 = 4294967296 := by decide
                                                                        omega) (by omega)]
        have hb := bit_at v.ms i m hmi
        refine Prod.ext ?_ rfl
        show decide (((bitF 0 v.ms : Nat) : Int) / 2 ^ i % 2 = 1) = m.1
        have hc : ((bitF 0 v.ms : Nat) : Int) / 2 ^ i % 2 = ((bitF 0 v.ms / 2 ^ i % 2 : Nat) : Int) := by
          rw [Int.natCast_emod, Int.natCast_ediv, Int.natCast_pow]; rfl
        rw [hc, hb]
        cases m.1 <;> rfl
      rw [hmi, ← hmv]
      simp [hi]
    · rw [List.getElem?_eq_none (by simp; omega), List.getElem?_eq_none (by omega)]
  rw [hms]
  cases v with
  | mk nu op fd ms =>
    simp only at *
    refine congr (congr (congr rfl ?_) ?_) rfl
    · cases op <;> rfl
    · omega
theorem sec_byts {v : Vw} (hok : v.Ok) : Byts 64 (secV v) := by
  refine ⟨by unfold secV; rw [secL_len, hok.len], ?_⟩
  intro x hx
  unfold secV secL at hx
  have hb : bitF 0 v.ms < 256 := by
    have := bitF_lt v.ms 0
    rw [hok.len] at this
    simp at this
    omega
  simp only [List.mem_append, List.mem_cons, List.mem_nil_iff, or_false] at hx
  rcases hx with ((hx | hx) | hx) | hx
  · rcases hx with rfl | rfl | rfl | rfl
    · omega
    · split <;> omega
    · omega
    · omega
  · exact be_byte _ _ x hx
  · unfold epB at hx
    simp only [List.mem_flatten, List.mem_map] at hx
    obtain ⟨l, ⟨m, _, rfl⟩, hx⟩ := hx
    exact be_byte _ _ x hx
  · exact (zs_byts 20).byte x hx
theorem put_byts {v : Vw} (hok : v.Ok) : Byts 64 (putV v).1 := by
  unfold putV
  split
  · exact zs_byts 64
  · split
    · exact zs_byts 64
    · exact sec_byts hok
theorem get_put {v : Vw} (hm : v.may = true) (hok : v.Ok) : getV (putV v).1 = (v, 0) := by
  unfold putV
  rw [if_neg (by rw [hm]; simp)]
  by_cases hq : v = fv
  · rw [if_pos hq]; unfold getV; rw [if_pos rfl, hq]
  · rw [if_neg hq]
    show getV (secV v) = _
    have hvs := view_sec hm hok hq
    unfold getV
    rw [if_neg (by intro h; have := congrArg (fun l => l.getD 0 0) h; simp [secV, secL, zs] at this), hvs]
    rw [if_pos]
    unfold putV
    rw [if_neg (by rw [hm]; simp), if_neg hq]

end Vi

end Go.Proofs.YtcfflbafclmheaaGreatDoor

/-
  The program's answers are the document's.
-/
namespace Go.Proofs.YtcfflbafclmheaaGreatDoor
set_option maxRecDepth 100000
set_option linter.unusedSimpArgs false
open Go.RowKit
open Le (Mm wpStoreM wpStoreM1)


/-- A device that a job fits. -/
structure Fits (D : Dv.Dev) (J : Ar.Job) : Prop where
  ok : D.Ok
  may : J.may = true
  sec : J.sectors.1 ≤ D.S.length
  n : J.n = D.N
theorem job_b {J : Ar.Job} (h : J.may = true) : J.sectors.2 = 0 ∧ 2 ≤ J.n ∧ J.n ≤ 8 ∧ 9 + J.n ≤ J.sectors.1 := by
  have h9 := h
  simp only [Ar.Job.may, decide_eq_true_eq] at h9
  have h1 : 0 ≤ J.n * (2 * J.l) := Int.mul_nonneg (by omega) (by omega)
  have e : J.sectors = (J.p * 2 + (J.n * (1 + 2 * J.l) + 9), 0) := by unfold Ar.Job.sectors Ar.Job.L; rw [if_pos h]
  have e2 : J.n * (1 + 2 * J.l) = J.n + J.n * (2 * J.l) := by rw [Int.mul_add, Int.mul_one]
  rw [e]
  refine ⟨rfl, by omega, by omega, ?_⟩
  simp only
  omega
theorem qa_t (e : Int) : qa true e = 0 := rfl
theorem qa_f (e : Int) : qa false e = e := rfl
theorem Fits.q1 {D : Dv.Dev} {J : Ar.Job} (h : Fits D J) : qa (decide (0 < oSize (some D))) 1 = 0 := by
  have := h.ok.s0
  rw [show decide (0 < oSize (some D)) = true from decide_eq_true (by show 0 < D.S.length; omega)]
  rfl
theorem Fits.q2 {D : Dv.Dev} {J : Ar.Job} (h : Fits D J) : qa (fitsB (some D) J) 2 = 0 := by
  have hb := job_b h.may
  have h1 := h.sec
  have h2 := h.n
  have : fitsB (some D) J = true := by
    unfold fitsB
    rw [decide_eq_true hb.1, show decide (J.sectors.1 ≤ (oSize (some D) : Int)) = true from decide_eq_true h1, show decide (J.n ≤ (oNodes (some D) : Int)) = true from decide_eq_true (by show J.n ≤ (D.N : Int); omega)]
    rfl
  rw [this]
  rfl
theorem if_ne0 {α : Type} {x : Int} (h : x = 0) (a b : α) : (if x ≠ 0 then a else b) = b := if_neg (fun z => z h)
theorem if_ne1 {α : Type} {x : Int} (h : ¬ x = 0) (a b : α) : (if x ≠ 0 then a else b) = a := if_pos h
theorem if_nn {α : Type} {p : Prop} [Decidable p] (h : p) (a b : α) : (if ¬ p then a else b) = b := if_neg (fun z => z h)
theorem if_n1 {α : Type} {p : Prop} [Decidable p] (h : ¬ p) (a b : α) : (if ¬ p then a else b) = a := if_pos h
theorem first0_z (l : List Int) : first0 (0 :: l) = first0 l := by simp [first0]
theorem first0_n {x : Int} (h : x ≠ 0) (l : List Int) : first0 (x :: l) = x := by simp [first0, h]
theorem hasN_of {D : Dv.Dev} {J : Ar.Job} (h : Fits D J) {n : Int} (h0 : 0 ≤ n) (h1 : n < J.n) : Dv.hasN D.N n = true := decide_eq_true (by have := h.n; omega)
theorem epoch_of {D : Dv.Dev} {J : Ar.Job} (h : Fits D J) {n : Int} (h0 : 0 ≤ n) (h1 : n < J.n) : (D.epoch n).1 = D.ep n := by
  unfold Dv.Dev.epoch
  rw [if_pos (hasN_of h h0 h1)]
/-- The questions' answers, and why one may not write. -/
theorem asks_node {D : Dv.Dev} {J : Ar.Job} (h : Fits D J) {n ep : Int} {more : List Int} (hn : n < 0 ∨ J.n ≤ n) : first0 (asks (some D) J n ep more) = 2 := by
  unfold asks
  rw [h.q1, h.q2, show nodeB J n = false by unfold nodeB; rw [Bool.and_eq_false_iff]; rcases hn with h1 | h1; exact Or.inl (decide_eq_false (by omega)); exact Or.inr (decide_eq_false (by omega)), qa_f]
  simp [first0]
theorem node_t {J : Ar.Job} {n : Int} (h0 : 0 ≤ n) (h1 : n < J.n) : nodeB J n = true := by unfold nodeB; rw [decide_eq_true h0, decide_eq_true h1]; rfl
theorem asks_ep {D : Dv.Dev} {J : Ar.Job} (h : Fits D J) {n ep : Int} {more : List Int} (h0 : 0 ≤ n) (h1 : n < J.n) (he : ep < 1 ∨ (D.epoch n).1 < ep) : first0 (asks (some D) J n ep more) = 2 := by
  unfold asks
  rw [h.q1, h.q2, node_t h0 h1, qa_t, show epochB (some D) n ep = false by unfold epochB; rw [Bool.and_eq_false_iff]; rcases he with h2 | h2; exact Or.inl (decide_eq_false (by omega)); exact Or.inr (decide_eq_false (by show ¬ ep ≤ (D.epoch n).1; omega)), qa_f]
  simp [first0]
theorem asks_more {D : Dv.Dev} {J : Ar.Job} (h : Fits D J) {n ep : Int} {more : List Int} (h0 : 0 ≤ n) (h1 : n < J.n) (he : 1 ≤ ep ∧ ep ≤ (D.epoch n).1) : first0 (asks (some D) J n ep more) = first0 (more ++ [if ep < (D.epoch n).1 then 8 else 0]) := by
  have hf : qa (!oFenced (some D) n ep) 8 = if ep < (D.epoch n).1 then 8 else 0 := by
    show qa (!(D.fenced n ep)) 8 = _
    unfold Dv.Dev.fenced
    rw [hasN_of h h0 h1, Bool.true_and, epoch_of h h0 h1]
    by_cases h2 : ep < D.ep n
    · rw [decide_eq_true h2, if_pos h2]; rfl
    · rw [decide_eq_false h2, if_neg h2]; rfl
  unfold asks
  rw [hf, h.q1, h.q2, node_t h0 h1, qa_t, show epochB (some D) n ep = true by unfold epochB; rw [decide_eq_true he.1, show decide (ep ≤ (oEpoch (some D) n).1) = true from decide_eq_true he.2]; rfl, qa_t]
  simp [first0]
theorem asks0 {D : Dv.Dev} {J : Ar.Job} (h : Fits D J) (n ep : Int) : first0 (asks (some D) J n ep []) = rwho D J n ep := by
  unfold rwho
  by_cases h1 : n < 0 ∨ J.n ≤ n
  · rw [if_pos h1]; exact asks_node h h1
  · rw [if_neg h1]
    by_cases h2 : ep < 1 ∨ (D.epoch n).1 < ep
    · rw [if_pos h2]; exact asks_ep h (by omega) (by omega) h2
    · rw [if_neg h2, asks_more h (by omega) (by omega) (by omega)]
      by_cases h3 : ep < (D.epoch n).1
      · rw [if_pos h3]; rfl
      · rw [if_neg h3]; rfl
theorem asksO {D : Dv.Dev} {J : Ar.Job} (h : Fits D J) (n ep q : Int) : first0 (asks (some D) J n ep [qa (nodeB J q) 2, qa (decide (q ≠ n)) 2]) = if n < 0 ∨ J.n ≤ n ∨ q < 0 ∨ J.n ≤ q ∨ n = q then 2 else rwho D J n ep := by
  by_cases h1 : n < 0 ∨ J.n ≤ n
  · rw [if_pos (show n < 0 ∨ J.n ≤ n ∨ q < 0 ∨ J.n ≤ q ∨ n = q by omega)]; exact asks_node h h1
  · by_cases h2 : ep < 1 ∨ (D.epoch n).1 < ep
    · rw [asks_ep h (by omega) (by omega) h2]
      have e : rwho D J n ep = 2 := by unfold rwho; rw [if_neg h1, if_pos h2]
      rw [e]
      split <;> rfl
    · rw [asks_more h (by omega) (by omega) (by omega)]
      have e : rwho D J n ep = if ep < (D.epoch n).1 then 8 else 0 := by unfold rwho; rw [if_neg h1, if_neg h2]
      rw [e]
      by_cases h3 : q < 0 ∨ J.n ≤ q
      · rw [if_pos (show n < 0 ∨ J.n ≤ n ∨ q < 0 ∨ J.n ≤ q ∨ n = q by omega), show nodeB J q = false by unfold nodeB; rw [Bool.and_eq_false_iff]; rcases h3 with h4 | h4; exact Or.inl (decide_eq_false (by omega)); exact Or.inr (decide_eq_false (by omega))]
        rfl
      · rw [node_t (by omega) (by omega)]
        by_cases h4 : n = q
        · rw [if_pos (show n < 0 ∨ J.n ≤ n ∨ q < 0 ∨ J.n ≤ q ∨ n = q by omega), show decide (q ≠ n) = false from decide_eq_false (fun z => z h4.symm)]
          rfl
        · rw [if_neg (show ¬ (n < 0 ∨ J.n ≤ n ∨ q < 0 ∨ J.n ≤ q ∨ n = q) by omega), show decide (q ≠ n) = true from decide_eq_true (fun z => h4 z.symm)]
          by_cases h5 : ep < (D.epoch n).1
          · rw [if_pos h5]; rfl
          · rw [if_neg h5]; rfl
theorem mview_eq {D : Dv.Dev} {J : Ar.Job} (h : Fits D J) : mview (some D) J = oV D := by
  unfold mview
  rw [h.q1, h.q2]
  rfl
theorem lease_eq {D : Dv.Dev} {J : Ar.Job} (h : Fits D J) (n : Int) : mlease (some D) J n = rlease D J n := by
  unfold mlease rlease
  rw [h.q1, h.q2, first0_z, first0_z]
  by_cases h1 : n < 0 ∨ J.n ≤ n
  · rw [if_pos h1, show nodeB J n = false by unfold nodeB; rw [Bool.and_eq_false_iff]; rcases h1 with h4 | h4; exact Or.inl (decide_eq_false (by omega)); exact Or.inr (decide_eq_false (by omega))]
    rfl
  · have hb := job_b h.may
    have hs := h.sec
    have e : (D.read (1 + n)).1 = D.S.getD (1 + n.toNat) Dv.nought := by
      unfold Dv.Dev.read
      rw [if_pos (show Dv.hasS D.S.length (1 + n) 1 = true from decide_eq_true (by omega)), show (1 + n).toNat = 1 + n.toNat by omega]
    rw [if_neg h1, node_t (by omega) (by omega), e]
    rfl
theorem memF_eq : ∀ (l : List (Bool × Int)) (i : Nat), Vi.memF i l = ((List.range l.length).filter (fun j => (l.getD j (false, 0)).1)).map (fun j => (i + j, (l.getD j (false, 0)).2))
  | [], _ => rfl
  | m :: l, i => by
    rw [Vi.memF, memF_eq l (i + 1), List.length_cons, List.range_succ_eq_map, List.filter_cons, List.filter_map, List.getD_cons_zero]
    have e : ∀ L : List Nat, L.map (fun j => (i + 1 + j, (l.getD j (false, 0)).2)) = (L.map Nat.succ).map (fun j => (i + j, ((m :: l).getD j (false, 0)).2)) := by
      intro L
      rw [List.map_map]
      refine List.map_congr_left fun j _ => ?_
      show (i + 1 + j, _) = (i + (j + 1), _)
      rw [List.getD_cons_succ, show i + 1 + j = i + (j + 1) by omega]
    have e2 : (List.filter ((fun j => ((m :: l).getD j (false, 0)).1) ∘ Nat.succ) (List.range l.length)) = List.filter (fun j => (l.getD j (false, 0)).1) (List.range l.length) := by
      congr 1
    rw [e2, e]
    cases m.1 with
    | true => simp
    | false => simp
theorem list_eq {v : Vi.Vw} (hm : v.may = true) (hl : v.ms.length = 8) : v.list = (rin v 8).map (fun i : Nat => (i, (v.mem (i : Int)).2)) := by
  unfold Vi.Vw.list
  rw [hm, if_pos rfl, memF_eq, hl]
  unfold rin Vi.Vw.mem
  simp only [Int.toNat_natCast, Nat.zero_add]

theorem rl_eq {D : Dv.Dev} {J : Ar.Job} (h : Fits D J) {v : Vi.Vw} (hm : v.may = true) (hl : v.ms.length = 8) : rl (some D) J v = (rin v 8).map (fun i : Nat => (i, rready D J v i)) := by
  unfold rl
  rw [h.q1, h.q2, if_pos (show first0 [0, 0] = 0 from rfl), list_eq hm hl, List.map_map]
  refine List.map_congr_left fun i _ => ?_
  show (i, mready (some D) J i (v.mem (i : Int)).2 v.nu) = _
  unfold mready rready
  rw [lease_eq h]
theorem all_eq {D : Dv.Dev} {J : Ar.Job} (h : Fits D J) {v : Vi.Vw} (hm : v.may = true) (hl : v.ms.length = 8) : mall (some D) J v = rall D J v := by
  unfold mall rall
  rw [rl_eq h hm hl, List.length_map, List.all_map]
  rfl
theorem mem_no {v : Vi.Vw} (hm : v.may = true) (hl : v.ms.length = 8) {n : Int} (h0 : 0 ≤ n) (h8 : n < 8) (hi : (v.mem n).1 = false) : (v.mem n).2 = 0 := by
  have h9 := Vi.may_mem hm hl h0 h8
  unfold Vi.memOk at h9
  rw [hi] at h9
  exact of_decide_eq_true h9
theorem join_eq {D : Dv.Dev} {J : Ar.Job} (h : Fits D J) (n ep : Int) : mjoin D J n ep = rjoin D J n ep := by
  have hb := job_b h.may
  unfold mjoin mcall rjoin
  rw [asks0 h]
  by_cases h1 : rwho D J n ep = 0
  · rw [if_pos h1, if_ne0 h1]
    obtain ⟨g0, g1, g2, g3⟩ := rwho_0 h1
    have hep := epoch_le h.ok n
    unfold mchg
    by_cases h2 : (oV D).2 = 0
    · rw [if_pos h2, if_ne0 h2]
      have hmay : (oV D).1.may = true := getV_may _ h2
      have hlen : (oV D).1.ms.length = 8 := getV_len _
      obtain ⟨v, hv⟩ : ∃ v, v = (oV D).1 := ⟨_, rfl⟩
      rw [← hv] at hmay hlen ⊢
      have hj : Vi.joinV v n ep = if ep ≤ (v.mem n).2 then (Vi.zv, 7) else Vi.nextV v n n (true, ep) := by
        unfold Vi.joinV
        rw [hmay, show Vi.isNo n = true from decide_eq_true (by omega), show Vi.isEp ep = true from decide_eq_true (by omega)]
        rfl
      rw [hj]
      by_cases h3 : ep ≤ (v.mem n).2
      · have hi : (v.mem n).1 = true := by
          cases hq : (v.mem n).1 with
          | true => rfl
          | false => have := mem_no hmay hlen g0 (by omega) hq; omega
        rw [if_pos h3, if_pos (show (v.mem n).1 = true ∧ ep ≤ (v.mem n).2 from ⟨hi, h3⟩)]
        rfl
      · rw [if_neg h3, if_neg (show ¬ ((v.mem n).1 = true ∧ ep ≤ (v.mem n).2) from fun z => h3 z.2)]
        unfold Vi.nextV
        by_cases h4 : v.nu = 4611686018427387904
        · rw [if_pos h4, if_pos h4]; rfl
        · rw [if_neg h4, if_neg h4]; rfl
    · rw [if_neg h2, if_ne1 h2]
  · rw [if_neg h1, if_ne1 h1]
theorem open_eq {D : Dv.Dev} {J : Ar.Job} (h : Fits D J) (n ep : Int) : mopen D J n ep = ropen D J n ep := by
  have hb := job_b h.may
  unfold mopen mcall ropen
  rw [asks0 h]
  by_cases h1 : rwho D J n ep = 0
  · rw [if_pos h1, if_ne0 h1]
    obtain ⟨g0, g1, g2, g3⟩ := rwho_0 h1
    unfold mchg
    by_cases h2 : (oV D).2 = 0
    · rw [if_pos h2, if_ne0 h2]
      have hmay : (oV D).1.may = true := getV_may _ h2
      have hlen : (oV D).1.ms.length = 8 := getV_len _
      obtain ⟨v, hv⟩ : ∃ v, v = (oV D).1 := ⟨_, rfl⟩
      rw [← hv] at hmay hlen ⊢
      unfold mopn opQ
      rw [all_eq h hmay hlen]
      cases hop : v.op with
      | true => rfl
      | false =>
        rw [show (!false) = true from rfl, qa_t, first0_z, if_neg (show ¬ (false = true) by simp)]
        have hno : Vi.isNo n = true := decide_eq_true (by omega)
        have his : (decide (v.fd = n) && v.is n ep) = decide (v.fd = n ∧ (v.mem n).1 = true ∧ (v.mem n).2 = ep) := by
          unfold Vi.Vw.is Vi.Vw.isIn
          rw [hmay, hno, Bool.true_and, Bool.true_and, Bool.eq_iff_iff]
          simp
        rw [his]
        by_cases h4 : v.fd = n ∧ (v.mem n).1 = true ∧ (v.mem n).2 = ep
        · rw [decide_eq_true h4, qa_t, first0_z, if_nn h4]
          cases hr : rall D J v with
          | false => rfl
          | true =>
            have hnf : v ≠ Vi.fv := by
              intro e
              have h5 := h4.2.1
              rw [e] at h5
              have h6 := mem_at (v := Vi.fv) rfl n.toNat (by omega)
              obtain ⟨m, hm, hmm, _⟩ := h6
              rw [show ((n.toNat : Nat) : Int) = n by omega] at hmm
              rw [hmm] at h5
              have h7 := List.mem_of_getElem? hm
              have : m = (false, 0) := by simpa [Vi.fv, Vi.no8] using h7
              rw [this] at h5
              cases h5
            have ho : Vi.openV v = (⟨v.nu, true, v.fd, v.ms⟩, 0) := by
              unfold Vi.openV
              rw [hmay, show decide (v ≠ Vi.fv) = true from decide_eq_true hnf, hop]
              rfl
            rw [ho]
            rfl
        · rw [decide_eq_false h4, qa_f, if_n1 h4]
          rfl
    · rw [if_neg h2, if_ne1 h2]
  · rw [if_neg h1, if_ne1 h1]
theorem fence_ok {D : Dv.Dev} {J : Ar.Job} (h : Fits D J) {n ep q ab : Int} (h0 : 0 ≤ n) (h1 : n < J.n) (he : ep = (D.epoch n).1) (q0 : 0 ≤ q) (q1 : q < J.n) (ha : 0 ≤ ab ∧ ab ≤ 2147483646) : (D.fence n ep q ab).1 = 0 := by
  have hep := epoch_le h.ok n
  rw [epoch_of h h0 h1] at he hep
  unfold Dv.Dev.fence
  have : D.ref n ep (Dv.hasN D.N q && decide (0 ≤ ab ∧ ab ≤ 2147483646)) = 0 := by
    unfold Dv.Dev.ref
    rw [hasN_of h q0 q1, decide_eq_true ha, if_pos ⟨rfl, hasN_of h h0 h1, by omega, by omega⟩, if_neg (by omega)]
  rw [if_pos this]
theorem out_eq {D : Dv.Dev} {J : Ar.Job} (h : Fits D J) (n ep q : Int) (hm6 : ∀ k : Nat, k < 8 → ((oV D).1.mem (k : Int)).2 ≤ 2147483646) : mOut D J n ep q = rout D J n ep q := by
  have hb := job_b h.may
  unfold mOut mcall rout
  rw [asksO h]
  by_cases h0 : n < 0 ∨ J.n ≤ n ∨ q < 0 ∨ J.n ≤ q ∨ n = q
  · rw [if_pos h0, if_pos h0]; rfl
  rw [if_neg h0, if_neg h0]
  by_cases h1 : rwho D J n ep = 0
  · rw [if_pos h1, if_ne0 h1]
    obtain ⟨g0, g1, g2, g3⟩ := rwho_0 h1
    unfold mchg
    by_cases h2 : (oV D).2 = 0
    · rw [if_pos h2, if_ne0 h2]
      have hmay : (oV D).1.may = true := getV_may _ h2
      have hlen : (oV D).1.ms.length = 8 := getV_len _
      have hq6 := hm6 q.toNat (by omega)
      rw [show ((q.toNat : Nat) : Int) = q by omega] at hq6
      obtain ⟨v, hv⟩ : ∃ v, v = (oV D).1 := ⟨_, rfl⟩
      rw [← hv] at hmay hlen hq6 ⊢
      have hno : Vi.isNo n = true := decide_eq_true (by omega)
      have hnq : Vi.isNo q = true := decide_eq_true (by omega)
      have hq0 : 0 ≤ (v.mem q).2 := by
        have h9 := Vi.may_mem hmay hlen (n := q) (by omega) (by omega)
        unfold Vi.memOk Vi.isEp at h9
        split at h9 <;> simp at h9 <;> omega
      have his : v.is n ep = decide ((v.mem n).1 = true ∧ (v.mem n).2 = ep) := by
        unfold Vi.Vw.is Vi.Vw.isIn
        rw [hmay, hno, Bool.true_and, Bool.true_and, Bool.eq_iff_iff]
        simp
      by_cases h4 : (v.mem n).1 = true ∧ (v.mem n).2 = ep
      · cases hqi : (v.mem q).1 with
        | false =>
          have ho : Vi.outV v n q = (Vi.zv, 6) := by
            unfold Vi.outV Vi.Vw.isIn
            rw [hmay, hno, hnq, show decide (n ≠ q) = true from decide_eq_true (by omega), h4.1, hqi]
            rfl
          have hmo : mout D v n ep q = ((Vi.zv, 6), D) := by
            unfold mout
            rw [his, decide_eq_true h4, if_pos rfl, ho]
            rfl
          rw [hmo, if_n1 (show ¬ ((v.mem n).1 = true ∧ (v.mem n).2 = ep ∧ false = true) from fun z => by simp at z)]
          rfl
        | true =>
          have ho : Vi.outV v n q = Vi.nextV v n q (false, 0) := by
            unfold Vi.outV Vi.Vw.isIn
            rw [hmay, hno, hnq, show decide (n ≠ q) = true from decide_eq_true (by omega), h4.1, hqi]
            rfl
          rw [if_nn (show (v.mem n).1 = true ∧ (v.mem n).2 = ep ∧ true = true from ⟨h4.1, h4.2, rfl⟩)]
          by_cases h5 : v.nu = 4611686018427387904
          · have hmo : mout D v n ep q = ((Vi.zv, 5), D) := by
              unfold mout
              rw [his, decide_eq_true h4, if_pos rfl, ho]
              unfold Vi.nextV
              rw [if_pos h5]
              rfl
            rw [hmo, if_pos h5]; rfl
          · have hf := fence_ok h g0 g1 g3 (q := q) (ab := (v.mem q).2) (by omega) (by omega) ⟨hq0, hq6⟩
            have hmo : mout D v n ep q = ((⟨v.nu + 1, false, n, v.ms.set q.toNat (false, 0)⟩, 0), (D.fence n ep q (v.mem q).2).2) := by
              unfold mout
              rw [his, decide_eq_true h4, if_pos rfl, ho]
              unfold Vi.nextV
              rw [if_neg h5, if_pos rfl, hf]
            rw [hmo, if_neg h5]
            rfl
      · have hmo : mout D v n ep q = ((Vi.zv, 6), D) := by
          unfold mout
          rw [his, decide_eq_false h4]
          rfl
        rw [hmo, if_n1 (show ¬ ((v.mem n).1 = true ∧ (v.mem n).2 = ep ∧ (v.mem q).1 = true) from fun z => h4 ⟨z.1, z.2.1⟩)]
        rfl
    · rw [if_neg h2, if_ne1 h2]
  · rw [if_neg h1, if_ne1 h1]
theorem say_eq {D : Dv.Dev} {J : Ar.Job} (h : Fits D J) (n : Int) (l : Le.Le) : msay D J n l = rsay D J n l := by
  have hb := job_b h.may
  have hs := h.sec
  unfold msay sayQ rsay
  rw [h.q1, h.q2, first0_z, first0_z]
  by_cases h1 : n < 0 ∨ J.n ≤ n
  · rw [if_pos (show n < 0 ∨ J.n ≤ n ∨ l.may = false ∨ l.ep = 0 from by rcases h1 with h4 | h4; exact Or.inl h4; exact Or.inr (Or.inl h4)), show nodeB J n = false by unfold nodeB; rw [Bool.and_eq_false_iff]; rcases h1 with h4 | h4; exact Or.inl (decide_eq_false (by omega)); exact Or.inr (decide_eq_false (by omega))]
    rfl
  · rw [node_t (by omega) (by omega), qa_t, first0_z]
    have hep := epoch_le h.ok n
    by_cases h2 : l.ep < 1 ∨ (D.epoch n).1 < l.ep
    · have e1 : epochB (some D) n l.ep = false := by unfold epochB; rw [Bool.and_eq_false_iff]; rcases h2 with h4 | h4; exact Or.inl (decide_eq_false (by omega)); exact Or.inr (decide_eq_false (by show ¬ l.ep ≤ (D.epoch n).1; omega))
      rw [e1]
      have e2 : rwho D J n l.ep = 2 := by unfold rwho; rw [if_neg h1, if_pos h2]
      rw [e2]
      have e3 : first0 [qa false 2] = 2 := rfl
      rw [e3, if_neg (show ¬ ((2 : Int) = 0) by decide)]
      split <;> rfl
    · rw [show epochB (some D) n l.ep = true by unfold epochB; rw [decide_eq_true (by omega), show decide (l.ep ≤ (oEpoch (some D) n).1) = true from decide_eq_true (by show l.ep ≤ (D.epoch n).1; omega)]; rfl, if_pos (show first0 [qa true 2] = 0 from rfl)]
      unfold Le.putL
      cases hm : l.may with
      | false => rw [if_pos (show n < 0 ∨ J.n ≤ n ∨ false = false ∨ l.ep = 0 from Or.inr (Or.inr (Or.inl rfl)))]; rfl
      | true =>
        rw [if_neg (show ¬ (true = false) by simp), if_neg (show ¬ (n < 0 ∨ J.n ≤ n ∨ true = false ∨ l.ep = 0) by simp; omega)]
        have hw : ((1 + n.toNat : Nat) : Int) = 1 + n := by omega
        have h3 : (if l = Le.le0 then (Le.zs 64, (0 : Int)) else (Le.secL l, 0)).2 = 0 := by split <;> rfl
        rw [if_pos h3, hw]
        by_cases h5 : l.ep < (D.epoch n).1
        · have e2 : rwho D J n l.ep = 8 := by unfold rwho; rw [if_neg h1, if_neg h2, if_pos h5]
          rw [e2, if_ne1 (show ¬ ((8 : Int) = 0) by decide)]
          rw [epoch_of h (by omega) (by omega)] at h5 h2
          unfold Dv.Dev.write
          have e3 : D.ref n l.ep (Dv.hasS D.S.length (1 + n) ([(if l = Le.le0 then (Le.zs 64, (0 : Int)) else (Le.secL l, 0)).1].length : Nat)) = 8 := by
            unfold Dv.Dev.ref
            rw [if_pos ⟨by simp [Dv.hasS]; omega, hasN_of h (by omega) (by omega), by omega, by omega⟩, if_pos h5]
          rw [e3, if_neg (show ¬ ((8 : Int) = 0) by decide)]
        · have e2 : rwho D J n l.ep = 0 := by unfold rwho; rw [if_neg h1, if_neg h2, if_neg h5]
          rw [e2, if_ne0 rfl]

end Go.Proofs.YtcfflbafclmheaaGreatDoor

/-
  Both devices, and what is kept in mind beside them.
-/
namespace Go.Proofs.YtcfflbafclmheaaGreatDoor
set_option maxRecDepth 100000
set_option linter.unusedSimpArgs false
open Go.RowKit
open Le (Mm wpStoreM wpStoreM1)


/-- The device and the document's device, blocks apart, and blocks made since. -/
structure Pz (b g r sg eg : Nat) (D E : Dv.Dev) (w W : World) (bs : List (Nat × Nat × List Value)) : Prop where
  kept : Kept [b, g, r, sg, eg] w W
  dv : Dv.Dv W b g D
  rv : Dv.Rv W r sg eg E
  fst : Vi.First W
  blk : ∀ x ∈ bs, Blk W x.1 x.2.1 x.2.2
  own : ∀ x ∈ bs, w.heap.size ≤ x.1
  nd : (bs.map (·.1)).Nodup
  ne : ∀ x ∈ bs, x.1 ∉ [b, g, r, sg, eg]
  ap : ((b ≠ r ∧ b ≠ sg ∧ b ≠ eg) ∧ (g ≠ r ∧ g ≠ sg ∧ g ≠ eg))
  z : 0 ∉ [b, g, r, sg, eg]
  wz : 0 < w.heap.size
/-- Both devices, at the start. -/
structure P2 (b g r sg eg : Nat) (D E : Dv.Dev) (W : World) : Prop where
  dv : Dv.Dv W b g D
  rv : Dv.Rv W r sg eg E
  fst : Vi.First W
  ap : ((b ≠ r ∧ b ≠ sg ∧ b ≠ eg) ∧ (g ≠ r ∧ g ≠ sg ∧ g ≠ eg))
  z : 0 ∉ [b, g, r, sg, eg]
section
variable {b g r sg eg : Nat} {D E D' : Dv.Dev} {w W W' : World} {bs : List (Nat × Nat × List Value)}
theorem P2.keptX {X : List Nat} (h : P2 b g r sg eg D E W) (hk : Kept X W W') (hX : ∀ q ∈ [b, g, r, sg, eg], q ∉ X) (h0 : 0 ∉ X) : P2 b g r sg eg D E W' :=
  ⟨h.dv.kept hk (hX b (by simp)) (hX g (by simp)), h.rv.kept hk (hX r (by simp)) (hX sg (by simp)) (hX eg (by simp)), h.fst.keptX hk h0, h.ap, h.z⟩
theorem Pz.p2 (h : Pz b g r sg eg D E w W bs) : P2 b g r sg eg D E W := ⟨h.dv, h.rv, h.fst, h.ap, h.z⟩
theorem Pz.init (h : P2 b g r sg eg D E w) : Pz b g r sg eg D E w w [] := ⟨Kept.refl _ _, h.dv, h.rv, h.fst, (fun x hx => by cases hx), (fun x hx => by cases hx), List.nodup_nil, (fun x hx => by cases hx), h.ap, h.z, h.fst.lt⟩
theorem Pz.step (h : Pz b g r sg eg D E w W bs) (hk : Kept [] W W') : Pz b g r sg eg D E w W' bs :=
  ⟨h.kept.trans (hk.mono (by simp)), h.dv.kept hk (by simp) (by simp), h.rv.kept hk (by simp) (by simp) (by simp), h.fst.kept hk, fun x hx => (h.blk x hx).kept hk (by simp), h.own, h.nd, h.ne, h.ap, h.z, h.wz⟩
theorem Pz.at (h : Pz b g r sg eg D E w W bs) (i : Nat) (x : Nat × Nat × List Value) (hx : bs[i]? = some x) : Blk W x.1 x.2.1 x.2.2 := h.blk x (List.mem_of_getElem? hx)
theorem Pz.new {q T : Nat} {vs : List Value} (h : Pz b g r sg eg D E w W bs) (hb : q = W.heap.size) (B : Blk W' q T vs) (K : Kept [] W W') : Pz b g r sg eg D E w W' (bs ++ [(q, T, vs)]) := by
  have h' := h.step K
  have hlt := h.rv.lt
  have hlt2 := h.dv.lt
  have hs := h.kept.size
  refine ⟨h'.kept, h'.dv, h'.rv, h'.fst, ?_, ?_, ?_, ?_, h.ap, h.z, h.wz⟩
  · intro x hx
    rcases List.mem_append.1 hx with hx | hx
    · exact h'.blk x hx
    · simp at hx; subst hx; exact B
  · intro x hx
    rcases List.mem_append.1 hx with hx | hx
    · exact h.own x hx
    · simp at hx; subst hx; rw [hb]; exact hs
  · rw [List.map_append, List.nodup_append]
    refine ⟨h.nd, by simp, ?_⟩
    intro a ha c hc
    simp at hc
    subst hc
    obtain ⟨x, hx, rfl⟩ := List.mem_map.1 ha
    have := (h.blk x hx).lt
    omega
  · intro x hx
    rcases List.mem_append.1 hx with hx | hx
    · exact h.ne x hx
    · simp at hx; subst hx; simp; omega
theorem Pz.devA (h : Pz b g r sg eg D E w W bs) (k : Kept [b, g] W W') (hd : Dv.Dv W' b g D') : Pz b g r sg eg D' E w W' bs := by
  have ha := h.ap
  have hz : 0 ∉ [b, g] := fun hm => h.z (by simp at hm ⊢; omega)
  exact ⟨h.kept.trans (k.mono (by simp)), hd, h.rv.kept k (by simp; omega) (by simp; omega) (by simp; omega), h.fst.keptX k hz, fun x hx => (h.blk x hx).kept k (fun hm => h.ne x hx (by simp at hm ⊢; omega)), h.own, h.nd, h.ne, h.ap, h.z, h.wz⟩
theorem Pz.devB {Y : List Nat} (h : Pz b g r sg eg D E w W bs) (k : Kept Y W W') (hY : Y ⊆ [r, sg, eg]) (hr : Dv.Rv W' r sg eg D') : Pz b g r sg eg D D' w W' bs := by
  have ha := h.ap
  have k3 := k.mono hY
  have hz : 0 ∉ [r, sg, eg] := fun hm => h.z (by simp at hm ⊢; omega)
  exact ⟨h.kept.trans (k3.mono (by simp)), h.dv.kept k3 (by simp; omega) (by simp; omega), hr, h.fst.keptX k3 hz, fun x hx => (h.blk x hx).kept k3 (fun hm => h.ne x hx (by simp at hm ⊢; omega)), h.own, h.nd, h.ne, h.ap, h.z, h.wz⟩
theorem Pz.mm (h : Pz b g r sg eg D E w W bs) : Mm (bs.map (·.1)) W W bs := ⟨Kept.refl _ _, h.blk, (fun x hx _ => List.mem_map.2 ⟨x, hx, rfl⟩), h.nd⟩
theorem Pz.upd {cs : List (Nat × Nat × List Value)} (h : Pz b g r sg eg D E w W bs) (m : Mm (bs.map (·.1)) W W' cs) (e : cs.map (·.1) = bs.map (·.1)) : Pz b g r sg eg D E w W' cs := by
  have hn : ∀ q ∈ [b, g, r, sg, eg], q ∉ bs.map (·.1) := fun q hq hm => by
    obtain ⟨x, hx, rfl⟩ := List.mem_map.1 hm
    exact h.ne x hx hq
  have h0 : 0 ∉ bs.map (·.1) := fun hm => by
    obtain ⟨x, hx, h9⟩ := List.mem_map.1 hm
    have h2 := h.own x hx
    have h4 := h.wz
    omega
  have hmem : ∀ x ∈ cs, ∃ y ∈ bs, y.1 = x.1 := fun x hx => by
    have : x.1 ∈ bs.map (·.1) := by rw [← e]; exact List.mem_map.2 ⟨x, hx, rfl⟩
    obtain ⟨y, hy, h9⟩ := List.mem_map.1 this
    exact ⟨y, hy, h9⟩
  refine ⟨h.kept.fresh m.kept (fun k hk hl => ?_), h.dv.kept m.kept (hn b (by simp)) (hn g (by simp)), h.rv.kept m.kept (hn r (by simp)) (hn sg (by simp)) (hn eg (by simp)), h.fst.keptX m.kept h0, m.blk, ?_, by rw [e]; exact h.nd, ?_, h.ap, h.z, h.wz⟩
  · obtain ⟨x, hx, rfl⟩ := List.mem_map.1 hk
    have := h.own x hx
    omega
  · intro x hx
    obtain ⟨y, hy, h9⟩ := hmem x hx
    rw [← h9]; exact h.own y hy
  · intro x hx
    obtain ⟨y, hy, h9⟩ := hmem x hx
    rw [← h9]; exact h.ne y hy
end
section
variable {ops : Array Oper} {rest : List Oper} {op : Oper} {a : Act} {w w0 : World} {Q : Exit → Act → World → Prop} {bs : List (Nat × Nat × List Value)} {b g r sg eg : Nat} {D E : Dv.Dev}
theorem wpStoreZ {T n : Nat} (hT : Row T n) (hgd : op.guard = none) (x y : Operand) (ho : op.op = .store T x y) (hd : op.dst = none) (q i : Nat) (vs : List Value) (hx : a.eval x = P0 q) (hy : a.eval y = aggV vs) (hl : vs.length = n) (h1 : ∀ v ∈ vs, v.oneCell' = true) (hM : Pz b g r sg eg D E w0 w bs) {us : List Value} (hi : bs[i]? = some (q, T, us)) (hu : us.length = n)
    (h : ∀ W, Pz b g r sg eg D E w0 W (bs.set i (q, T, vs)) → wpList Tryz.prog ops Q rest a W) : wpList Tryz.prog ops Q (op :: rest) a w :=
  wpStoreM hT hgd x y ho hd q i vs hx hy hl h1 hM.mm hi hu fun W m => h W (hM.upd m (set_fst i hi))
theorem wpStoreZ1 {T : Nat} (hs : (Tryz.prog.info? T).map (·.size) = some 1) (hgd : op.guard = none) (x y : Operand) (ho : op.op = .store T x y) (hd : op.dst = none) (q off i : Nat) (v : Value) (h1 : Le.One v) (hx : a.eval x = .pointer (some ⟨q, off, none⟩)) (hy : a.eval y = v) (hM : Pz b g r sg eg D E w0 w bs) {TT : Nat} {us : List Value} (hi : bs[i]? = some (q, TT, us)) (hl : off < us.length)
    (h : ∀ W, Pz b g r sg eg D E w0 W (bs.set i (q, TT, us.set off v)) → wpList Tryz.prog ops Q rest a W) : wpList Tryz.prog ops Q (op :: rest) a w :=
  wpStoreM1 hs hgd x y ho hd q off i v h1 hx hy hM.mm hi hl fun W m => h W (hM.upd m (set_fst i hi))
end
/-- A step. -/
structure S6 where
  kd : Int
  n : Int
  ep : Int
  who : Int
  be : Int
  re : Int
def S6.C (s : S6) : List Value := [.int .i64 s.kd, .int .i64 s.n, .int .i64 s.ep, .int .i64 s.who, .int .i64 s.be, .int .i64 s.re]
theorem S6.one (s : S6) : ∀ v ∈ s.C, v.oneCell' = true := by
  intro v hv
  simp [S6.C] at hv
  rcases hv with rfl | rfl | rfl | rfl | rfl | rfl <;> rfl
theorem row38 : Row 38 6 := ⟨_, Tryz.underlying38, rfl, by kernel_rfl⟩
/-- The epoch that a step names. -/
def sep (D : Dv.Dev) (s : S6) : Int := if s.ep = -1 then (D.epoch s.n).1 else s.ep
/-- The lease that a step says. -/
def sle (D : Dv.Dev) (s : S6) : Le.Le := ⟨sep D s, s.be, if s.re = -1 then (oV D).1.nu else s.re⟩
/-- The device behind a step. -/
def nxt (D : Dv.Dev) (J : Ar.Job) (s : S6) : Dv.Dev :=
  if s.kd = 1 then (D.up s.n).2.2 else if s.kd = 2 then (mjoin D J s.n (sep D s)).2.2 else if s.kd = 3 then (mOut D J s.n (sep D s) s.who).2.2
  else if s.kd = 4 then (msay D J s.n (sle D s)).2 else if s.kd = 5 then (mopen D J s.n (sep D s)).2.2 else D

end Go.Proofs.YtcfflbafclmheaaGreatDoor
