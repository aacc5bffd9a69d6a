/-
  The comparator of those.
-/
import Derived.Test.YthihladmifpokaaQf
namespace Go.Proofs.Ythihladmifpokaa
set_option maxRecDepth 100000
set_option linter.unusedSimpArgs false
open Go.RowKit


theorem cg50 (vs : Array Value) (w : World) : (callFunc 50 vs).run Try.prog w = .ok (.enter 50 vs) w := by kernel_rfl
theorem cg51 (vs : Array Value) (w : World) : (callFunc 51 vs).run Try.prog w = .ok (.enter 51 vs) w := by kernel_rfl
theorem cg52 (vs : Array Value) (w : World) : (callFunc 52 vs).run Try.prog w = .ok (.enter 52 vs) w := by kernel_rfl
theorem bs87 (w : World) (x y : Int) : (Instr.buildSlice 87 2 #[(0, .int .i64 x), (1, .int .i64 y)]).run Try.prog w = .ok (.slice (some ⟨w.heap.size, 0, none⟩) 2 2) (w.alloc (.cells #[.int .i64 x, .int .i64 y] 3)) := by kernel_rfl
section
variable {ops : Array Oper} {rest : List Oper} {op o : Oper} {a : Act} {w : World} {K : Act → World → Prop} {Q : Exit → Act → World → Prop}
theorem o_bs87 (x y : Operand) (ho : o.op = .buildSlice 87 2 #[(0, x), (1, y)]) (m n : Int) (hx : a.eval x = .int .i64 m) (hy : a.eval y = .int .i64 n) (h : ∀ W g, Blk W g 3 ([Value.int .i64 m, .int .i64 n]) → Kept [] w W → K (a.put o.dst (.slice (some ⟨g, 0, none⟩) 2 2)) W) : o.wp Try.prog a w K Q := by
  unfold Oper.wp execOp
  simp only [ho, List.map_toArray, List.map_cons, List.map_nil, hx, hy, Sem.run_bind, bs87, Result.andThen_ok]
  exact h _ _ (Blk.new _ _ _) ((Kept.refl _ _).alloc _)
end
/-- A row of two numbers is made at operation 10. -/
@[reducible] def SO (w : World) (m n : Int) (d : Nat → Bool) (vs : Nat → Value) (W : World) : Prop := Kept [] w W ∧ (d 10 = true → ∃ g, vs 10 = .slice (some ⟨g, 0, none⟩) 2 2 ∧ Blk W g 3 [.int .i64 m, .int .i64 n])
theorem SO.loc {w : World} {m n : Int} : ∀ d d' vs vs' W, (∀ i ∈ [10], d i = d' i ∧ vs i = vs' i) → SO w m n d vs W → SO w m n d' vs' W := by
  intro d d' vs vs' W H h
  obtain ⟨e0, e1⟩ := H 10 (by simp)
  unfold SO at h ⊢
  rw [← e0, ← e1]
  exact h
theorem SO.make {w W W' : World} {m n : Int} {d : Nat → Bool} {vs : Nat → Value} {g : Nat} (h : SO w m n d vs W) (hB : Blk W' g 3 [.int .i64 m, .int .i64 n]) (hK : Kept [] W W') : SO w m n (fun i => if i = 10 then true else d i) (fun i => if i = 10 then .slice (some ⟨g, 0, none⟩) 2 2 else vs i) W' :=
  ⟨h.1.trans hK, fun _ => ⟨g, by simp, hB⟩⟩
/-- How marks are ordered: by page, then by PSN. -/
def ordI (x y : Mk) : Int := orI (cmpI x.p y.p) (cmpI x.s y.s)
variable {w : World}
set_option maxHeartbeats 2000000 in
theorem ord49 (x y : Mk) (w : World) : Calls Try.prog 49 #[aggV x.C, aggV y.C] w fun e W => e = .returned (.int .i64 (ordI x y)) ∧ Kept [] w W := by
  go_enter Try.func49, Try.ntmps49
  go_wp2_with (
    first
    | (refine wpBoxV rfl (.tmp 0) rfl x.C rfl ?_
       intro W1 b1 eq BQ KQ
       have B1 := hide BQ
       have KK0 := hide KQ
       clear eq BQ KQ
       refine Stp.go ?_))
  constructor
  go_wp2_with (
    first
    | (refine wpBoxV rfl (.tmp 1) rfl y.C rfl ?_
       intro W2 b2 eq BQ KQ
       have B2 := hide BQ
       have KK1 := hide KQ
       replace B1 := hide ((unhide B1).kept KQ (by simp))
       clear eq BQ KQ
       refine Stp.go ?_))
  constructor
  go_wp2_with fail
  refine wp_region_any mixed (wpAny_gx 13 rfl (by kernel_rfl) [some (P0 b1), some (.int .i64 x.p), some (P0 b2), some (.int .i64 y.p), some (.int .i64 (cmpI x.p y.p)), some (.pointer (some ⟨b1, 1, none⟩)), some (.int .i64 x.s), some (.pointer (some ⟨b2, 1, none⟩)), some (.int .i64 y.s), some (.int .i64 (cmpI x.s y.s)), none, some (.int .i64 (orI (cmpI x.p y.p) (cmpI x.s y.s))), some (.int .i64 (orI (cmpI x.p y.p) (cmpI x.s y.s)))] rfl (by kernel_rfl) (fun l vs W => (SO W2 (cmpI x.p y.p) (cmpI x.s y.s)) (fun i => l.getD i false) vs W) (⟨(Kept.refl [] _).drew, fun h => by cases h⟩) ?_ ?_)
  · intro ix o' hi ho a' w2 l vs hls hlf hJ hout hin hdep hnot
    match ix, ho with
    | 0, ho =>
      obtain rfl := Option.some.inj ho
      have e0 := hout 2 (by kernel_rfl)
      replace e0 : a'.eval (.tmp 2) = _ := e0.trans rfl
      exact o_fld54_0 (.tmp 2) rfl b1 (0) (0) rfl e0 ⟨_, rfl, told_of rfl, keepG (St := (SO W2 (cmpI x.p y.p) (cmpI x.s y.s))) [10] SO.loc (by omega) (by decide) hJ⟩
    | 1, ho =>
      obtain rfl := Option.some.inj ho
      have e0 : a'.eval (.tmp 5) = P0 b1 := by have h9 := hin 0 5 (by kernel_rfl) (by kernel_rfl); exact h9.1.trans (told_is _ h9.2 rfl)
      exact o_load3 (.tmp 5) rfl _ _ e0 (fits_cell ((unhide B1).kept hJ.1 (by simp)) 0 _ rfl) ⟨_, rfl, told_of rfl, keepG (St := (SO W2 (cmpI x.p y.p) (cmpI x.s y.s))) [10] SO.loc (by omega) (by decide) hJ⟩
    | 2, ho =>
      obtain rfl := Option.some.inj ho
      have e0 := hout 3 (by kernel_rfl)
      replace e0 : a'.eval (.tmp 3) = _ := e0.trans rfl
      exact o_fld54_0 (.tmp 3) rfl b2 (0) (0) rfl e0 ⟨_, rfl, told_of rfl, keepG (St := (SO W2 (cmpI x.p y.p) (cmpI x.s y.s))) [10] SO.loc (by omega) (by decide) hJ⟩
    | 3, ho =>
      obtain rfl := Option.some.inj ho
      have e0 : a'.eval (.tmp 7) = P0 b2 := by have h9 := hin 2 7 (by kernel_rfl) (by kernel_rfl); exact h9.1.trans (told_is _ h9.2 rfl)
      exact o_load3 (.tmp 7) rfl _ _ e0 (fits_cell ((unhide B2).kept hJ.1 (by simp)) 0 _ rfl) ⟨_, rfl, told_of rfl, keepG (St := (SO W2 (cmpI x.p y.p) (cmpI x.s y.s))) [10] SO.loc (by omega) (by decide) hJ⟩
    | 4, ho =>
      obtain rfl := Option.some.inj ho
      have e0 : a'.eval (.tmp 6) = .int .i64 x.p := by have h9 := hin 1 6 (by kernel_rfl) (by kernel_rfl); exact h9.1.trans (told_is _ h9.2 rfl)
      have e1 : a'.eval (.tmp 8) = .int .i64 y.p := by have h9 := hin 3 8 (by kernel_rfl) (by kernel_rfl); exact h9.1.trans (told_is _ h9.2 rfl)
      refine wp_callF 51 _ _ rfl #[.int .i64 x.p, .int .i64 y.p] (by simp [e0, e1]) (cg51 _ _) ((cmp51 _ _ _).mono ?_)
      rintro e w3 ⟨rfl, rfl⟩
      exact ⟨_, rfl, _, rfl, told_of rfl, keepG (St := (SO W2 (cmpI x.p y.p) (cmpI x.s y.s))) [10] SO.loc (by omega) (by decide) hJ⟩
    | 5, ho =>
      obtain rfl := Option.some.inj ho
      have e0 := hout 2 (by kernel_rfl)
      replace e0 : a'.eval (.tmp 2) = _ := e0.trans rfl
      exact o_fld54_1 (.tmp 2) rfl b1 (0) (1) rfl e0 ⟨_, rfl, told_of rfl, keepG (St := (SO W2 (cmpI x.p y.p) (cmpI x.s y.s))) [10] SO.loc (by omega) (by decide) hJ⟩
    | 6, ho =>
      obtain rfl := Option.some.inj ho
      have e0 : a'.eval (.tmp 10) = .pointer (some ⟨b1, 1, none⟩) := by have h9 := hin 5 10 (by kernel_rfl) (by kernel_rfl); exact h9.1.trans (told_is _ h9.2 rfl)
      exact o_load2 (.tmp 10) rfl _ _ e0 (fits_cell ((unhide B1).kept hJ.1 (by simp)) 1 _ rfl) ⟨_, rfl, told_of rfl, keepG (St := (SO W2 (cmpI x.p y.p) (cmpI x.s y.s))) [10] SO.loc (by omega) (by decide) hJ⟩
    | 7, ho =>
      obtain rfl := Option.some.inj ho
      have e0 := hout 3 (by kernel_rfl)
      replace e0 : a'.eval (.tmp 3) = _ := e0.trans rfl
      exact o_fld54_1 (.tmp 3) rfl b2 (0) (1) rfl e0 ⟨_, rfl, told_of rfl, keepG (St := (SO W2 (cmpI x.p y.p) (cmpI x.s y.s))) [10] SO.loc (by omega) (by decide) hJ⟩
    | 8, ho =>
      obtain rfl := Option.some.inj ho
      have e0 : a'.eval (.tmp 12) = .pointer (some ⟨b2, 1, none⟩) := by have h9 := hin 7 12 (by kernel_rfl) (by kernel_rfl); exact h9.1.trans (told_is _ h9.2 rfl)
      exact o_load2 (.tmp 12) rfl _ _ e0 (fits_cell ((unhide B2).kept hJ.1 (by simp)) 1 _ rfl) ⟨_, rfl, told_of rfl, keepG (St := (SO W2 (cmpI x.p y.p) (cmpI x.s y.s))) [10] SO.loc (by omega) (by decide) hJ⟩
    | 9, ho =>
      obtain rfl := Option.some.inj ho
      have e0 : a'.eval (.tmp 11) = .int .i64 x.s := by have h9 := hin 6 11 (by kernel_rfl) (by kernel_rfl); exact h9.1.trans (told_is _ h9.2 rfl)
      have e1 : a'.eval (.tmp 13) = .int .i64 y.s := by have h9 := hin 8 13 (by kernel_rfl) (by kernel_rfl); exact h9.1.trans (told_is _ h9.2 rfl)
      refine wp_callF 52 _ _ rfl #[.int .i64 x.s, .int .i64 y.s] (by simp [e0, e1]) (cg52 _ _) ((cmp52 _ _ _).mono ?_)
      rintro e w3 ⟨rfl, rfl⟩
      exact ⟨_, rfl, _, rfl, told_of rfl, keepG (St := (SO W2 (cmpI x.p y.p) (cmpI x.s y.s))) [10] SO.loc (by omega) (by decide) hJ⟩
    | 10, ho =>
      obtain rfl := Option.some.inj ho
      have e0 : a'.eval (.tmp 9) = .int .i64 (cmpI x.p y.p) := by have h9 := hin 4 9 (by kernel_rfl) (by kernel_rfl); exact h9.1.trans (told_is _ h9.2 rfl)
      have e1 : a'.eval (.tmp 14) = .int .i64 (cmpI x.s y.s) := by have h9 := hin 9 14 (by kernel_rfl) (by kernel_rfl); exact h9.1.trans (told_is _ h9.2 rfl)
      refine o_bs87 (.tmp 9) (.tmp 14) rfl _ _ e0 e1 (fun W g h1 h2 => ?_)
      exact ⟨_, rfl, told_no rfl, nextG (St := (SO W2 (cmpI x.p y.p) (cmpI x.s y.s))) (by omega) (SO.make hJ h1 h2)⟩
    | 11, ho =>
      obtain rfl := Option.some.inj ho
      have e0 : a'.eval (.tmp 15) = vs 10 := (hin 10 15 (by kernel_rfl) (by kernel_rfl)).1
      obtain ⟨g, hg, hB⟩ := hJ.2 (hdep 10 (by kernel_rfl))
      rw [hg] at e0
      refine wp_callF 50 _ _ rfl #[.slice (some ⟨g, 0, none⟩) 2 2] (by simp [e0]) (cg50 _ _) ((or50 hB).mono ?_)
      rintro e w3 ⟨rfl, rfl⟩
      exact ⟨_, rfl, _, rfl, told_of rfl, keepG (St := (SO W2 (cmpI x.p y.p) (cmpI x.s y.s))) [10] SO.loc (by omega) (by decide) hJ⟩
    | 12, ho =>
      obtain rfl := Option.some.inj ho
      have e0 : a'.eval (.tmp 16) = .int .i64 (orI (cmpI x.p y.p) (cmpI x.s y.s)) := by have h9 := hin 11 16 (by kernel_rfl) (by kernel_rfl); exact h9.1.trans (told_is _ h9.2 rfl)
      exact wp_assignV (.tmp 16) rfl _ e0 ⟨_, rfl, told_of rfl, keepG (St := (SO W2 (cmpI x.p y.p) (cmpI x.s y.s))) [10] SO.loc (by omega) (by decide) hJ⟩
  intro l_ vs4 V4 hl hJ htold
  have t0 : vs4 0 = P0 b1 := told_is _ (htold 0 (by decide)) rfl
  have t1 : vs4 1 = .int .i64 x.p := told_is _ (htold 1 (by decide)) rfl
  have t2 : vs4 2 = P0 b2 := told_is _ (htold 2 (by decide)) rfl
  have t3 : vs4 3 = .int .i64 y.p := told_is _ (htold 3 (by decide)) rfl
  have t4 : vs4 4 = .int .i64 (cmpI x.p y.p) := told_is _ (htold 4 (by decide)) rfl
  have t5 : vs4 5 = .pointer (some ⟨b1, 1, none⟩) := told_is _ (htold 5 (by decide)) rfl
  have t6 : vs4 6 = .int .i64 x.s := told_is _ (htold 6 (by decide)) rfl
  have t7 : vs4 7 = .pointer (some ⟨b2, 1, none⟩) := told_is _ (htold 7 (by decide)) rfl
  have t8 : vs4 8 = .int .i64 y.s := told_is _ (htold 8 (by decide)) rfl
  have t9 : vs4 9 = .int .i64 (cmpI x.s y.s) := told_is _ (htold 9 (by decide)) rfl
  have t11 : vs4 11 = .int .i64 (orI (cmpI x.p y.p) (cmpI x.s y.s)) := told_is _ (htold 11 (by decide)) rfl
  have t12 : vs4 12 = .int .i64 (orI (cmpI x.p y.p) (cmpI x.s y.s)) := told_is _ (htold 12 (by decide)) rfl
  rw [show (List.range 13).map vs4 = [vs4 0, vs4 1, vs4 2, vs4 3, vs4 4, vs4 5, vs4 6, vs4 7, vs4 8, vs4 9, vs4 10, vs4 11, vs4 12] from rfl]
  simp only [t0, t1, t2, t3, t4, t5, t6, t7, t8, t9, t11, t12, putAll, Act.put, List.setIfInBounds_toArray, List.set_cons_succ, List.set_cons_zero]
  clear t0 t1 t2 t3 t4 t5 t6 t7 t8 t9 t11 t12 htold
  have HK : Hid (Kept [] w V4) := hide (((unhide KK0).trans (unhide KK1)).trans hJ.1)
  clear hJ hl
  go_wp2_with fail
  go_ret
  exact ⟨rfl, unhide HK⟩

end Go.Proofs.Ythihladmifpokaa
