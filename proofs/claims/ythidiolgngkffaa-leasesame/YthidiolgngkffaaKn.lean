/-
  known: the chapter's rows.
-/
import Derived.Test.YthidiolgngkffaaPd
import Derived.Deep.CutBlock
namespace Go.Proofs.Ythidiolgngkffaa
set_option maxRecDepth 100000
open Go.RowKit

/-- A region in the text's order, by its table. -/
theorem wp_text_tq {id : Nat} {ops : Array Oper} {Q : Exit → Act → World → Prop} {a0 : Act} {w0 : World} (n : Nat) (hn : ops.size = n) (hok : prefG ops n = true) (us : List (Option Value)) (hu : us.length = n) (hg : guardsQ ops us = true)
    (hsl : ops.all (fun o => match o.dst with | none => true | some t => decide (t < a0.tmps.size)) = true)
    (hop : ∀ (j : Nat) (o : Oper), j < n → skipQ us j = false → ops[j]? = some o → ∀ a w, (∀ t : Nat, (ops.toList.take n).all (fun p => p.dst != some t) = true → a.eval (.tmp t) = a0.eval (.tmp t)) →
      (∀ (i t : Nat), o.after.any (fun e => Region.binds .any e && e.on == i) = true → ops[i]?.bind (·.dst) = some t → tq us i (a.eval (.tmp t)) w) → Kept [] w0 w →
      o.wp Try.prog a w (fun a' w' => ∃ v, a' = a.put o.dst v ∧ tq us j v w' ∧ Kept [] w w' ∧ ∀ i u, i < n → i ≠ j → tq us i u w → True) Q)
    (hQ : ∀ w, Kept [] w0 w → Q .normal (putAll a0 (ops.toList.take n) (valsQ us)) w) : (Code.region id ops false).wp Try.prog Q a0 w0 := by
  refine wp_region_text n hn hok (tq us) (fun _ _ _ _ => True) (skipQ us) (fun j o i b _ ho hg' => guardsQ_some hg j o i b ho hg') (fun j o _ ho hg' => guardsQ_none hg j o ho hg') (fun j w h => skipQ_undef w h) (fun _ _ _ _ => trivial) (tq_kept us) hsl hop ?_
  intro vs w hlen hv hk
  obtain rfl := vs_tq hv (by omega)
  exact hQ w hk

theorem Ints.asBlk {W : World} {base : Nat} {u : Value} {x : Int} (h : Ints W base u [x]) : ∃ g c cs, u = .slice (some ⟨g, 0, none⟩) 1 c ∧ base ≤ g ∧ Blk W g 3 cs ∧ cs[0]? = some (.int .i64 x) := by
  have h0 := h.get (i := 0) (x := x) rfl
  rcases h.2 with ⟨_, e⟩ | ⟨g, cap, cur, rfl, h1, h2, _⟩
  · simp at e
  · obtain ⟨g2, c2, e2, hc⟩ := h0
    cases e2
    have hB : Blk W g 3 cur.toList := by unfold Blk; rw [h2]
    refine ⟨g, cap, cur.toList, rfl, h1, hB, ?_⟩
    rw [hB.cell] at hc
    exact hc
section
variable {o : Oper} {a : Act} {w : World} {K : Act → World → Prop} {Q : Exit → Act → World → Prop}
theorem o_len70 (x : Operand) (ho : o.op = .call { callee := .builtin .len, args := #[x], argTypes := #[70] }) (ao : Option Addr) (n c : Nat) (hx : a.eval x = .slice ao n c) (h : K (a.put o.dst (.int .i64 n)) w) : o.wp Try.prog a w K Q := by
  unfold Oper.wp execOp
  simp only [ho, resolve, invoke, builtin, Sem.run_bind, Sem.run_pure, Result.andThen_ok, List.map_toArray, List.map_cons, List.map_nil, hx]
  simp [go_sem]
  exact h
theorem o_idx70c (x : Operand) (ho : o.op = .indexAddr 70 x (.const (.int .i64 0))) (g m c : Nat) (hk : 0 < m) (hx : a.eval x = .slice (some ⟨g, 0, none⟩) m c) (h : K (a.put o.dst (.pointer (some ⟨g, 0, none⟩))) w) : o.wp Try.prog a w K Q := by
  unfold Oper.wp execOp
  simp only [ho, hx]
  simp [go_sem, Act.eval, hk]
  exact h
theorem o_bldZ23 (ho : o.op = .build 23 #[]) (h : K (a.put o.dst (aggV le0.C)) w) : o.wp Try.prog a w K Q := by
  unfold Oper.wp execOp
  simp only [ho, Array.map_empty, Sem.run_bind, build23, Result.andThen_ok]
  exact h
end
theorem build25m (w : World) : (Instr.build 25 #[(0, .int .u8 209)]).run Try.prog w = .ok (aggV (u8s (209 :: zs 63))) w := by kernel_rfl
def kx : Le := ⟨1, 1, 0⟩
def ky : Le := ⟨1, 2, 0⟩
def km : Le := ⟨0, -1, 0⟩
set_option maxHeartbeats 8000000 in
theorem known_gen (v0 v1 v2 v3 v4 v5 v6 : Wt) (w : World)
    (k1 : ∀ W, Calls Try.prog 15 #[.int .i64 0, .int .i64 2] W fun e w' => e = .returned (.tuple #[.pointer none, .int .i64 2]) ∧ w' = W)
    (k2 : ∀ W, Calls Try.prog 15 #[.int .i64 3, .int .i64 0] W fun e w' => e = .returned (.tuple #[.pointer none, .int .i64 2]) ∧ w' = W)
    (k3 : ∀ W, Calls Try.prog 15 #[.int .i64 3, .int .i64 2] W fun e w' => ∃ b, e = .returned (.tuple #[P0 b, .int .i64 0]) ∧ b = W.heap.size ∧ Blk w' b 65 (Wt.C v0) ∧ Kept [] W w')
    (k4 : ∀ b W, Blk W b 65 (Wt.C v0) → Calls Try.prog 21 #[P0 b, .int .i64 3, aggV kx.C] W fun e w' => e = .returned (.tuple #[.bool false, .int .i64 2]) ∧ Blk w' b 65 (Wt.C v0) ∧ Kept [b] W w')
    (k5 : ∀ b W, Blk W b 65 (Wt.C v0) → Calls Try.prog 21 #[P0 b, .int .i64 1, aggV km.C] W fun e w' => e = .returned (.tuple #[.bool false, .int .i64 2]) ∧ Blk w' b 65 (Wt.C v0) ∧ Kept [b] W w')
    (k6 : ∀ b W, Blk W b 65 (Wt.C v0) → Calls Try.prog 21 #[P0 b, .int .i64 1, aggV kx.C] W fun e w' => e = .returned (.tuple #[.bool false, .int .i64 0]) ∧ Blk w' b 65 (Wt.C v1) ∧ Kept [b] W w')
    (k7 : ∀ b W, Blk W b 65 (Wt.C v1) → Calls Try.prog 21 #[P0 b, .int .i64 1, aggV kx.C] W fun e w' => e = .returned (.tuple #[.bool false, .int .i64 0]) ∧ Blk w' b 65 (Wt.C v2) ∧ Kept [b] W w')
    (k8 : ∀ b W, Blk W b 65 (Wt.C v2) → Calls Try.prog 21 #[P0 b, .int .i64 1, aggV kx.C] W fun e w' => e = .returned (.tuple #[.bool true, .int .i64 0]) ∧ Blk w' b 65 (Wt.C v3) ∧ Kept [b] W w')
    (k9 : ∀ b W, Blk W b 65 (Wt.C v3) → Calls Try.prog 28 #[P0 b] W fun e w' => ∃ u, e = .returned u ∧ Ints w' W.heap.size u [1] ∧ Kept [] W w')
    (k10 : ∀ b W, Blk W b 65 (Wt.C v3) → Calls Try.prog 22 #[P0 b, .int .i64 1] W fun e w' => e = .returned (.int .i64 2) ∧ w' = W)
    (k11 : ∀ b W, Blk W b 65 (Wt.C v3) → Calls Try.prog 21 #[P0 b, .int .i64 1, aggV ky.C] W fun e w' => e = .returned (.tuple #[.bool false, .int .i64 0]) ∧ Blk w' b 65 (Wt.C v4) ∧ Kept [b] W w')
    (k12 : ∀ b W, Blk W b 65 (Wt.C v4) → Calls Try.prog 22 #[P0 b, .int .i64 1] W fun e w' => e = .returned (.int .i64 0) ∧ w' = W)
    (k13 : ∀ b W, Blk W b 65 (Wt.C v4) → Calls Try.prog 21 #[P0 b, .int .i64 2, aggV kx.C] W fun e w' => e = .returned (.tuple #[.bool false, .int .i64 0]) ∧ Blk w' b 65 (Wt.C v5) ∧ Kept [b] W w')
    (k14 : ∀ b W, Blk W b 65 (Wt.C v5) → Calls Try.prog 29 #[P0 b, .int .i64 1] W fun e w' => e = .returned (.int .i64 0) ∧ Blk w' b 65 (Wt.C v6) ∧ Kept [b] W w')
    (k15 : ∀ b W, Blk W b 65 (Wt.C v6) → Calls Try.prog 30 #[P0 b, .int .i64 1] W fun e w' => e = .returned (.tuple #[aggV le0.C, .bool false]) ∧ Kept [] W w')
    (k16 : ∀ W, Calls Try.prog 9 #[aggV (u8s (zs 64))] W fun e w' => e = .returned (.tuple #[aggV le0.C, .int .i64 0]) ∧ Kept [] W w')
    (k17 : ∀ W, Calls Try.prog 9 #[aggV (u8s (209 :: zs 63))] W fun e w' => e = .returned (.tuple #[aggV le0.C, .int .i64 12]) ∧ Kept [] W w') : Calls Try.prog 13 #[] w fun e w' => e = .returned (.bool true) ∧ Kept [] w w' := by
  have Hk1 := hide k1
  have Hk2 := hide k2
  have Hk3 := hide k3
  have Hk4 := hide k4
  have Hk5 := hide k5
  have Hk6 := hide k6
  have Hk7 := hide k7
  have Hk8 := hide k8
  have Hk9 := hide k9
  have Hk10 := hide k10
  have Hk11 := hide k11
  have Hk12 := hide k12
  have Hk13 := hide k13
  have Hk14 := hide k14
  have Hk15 := hide k15
  have Hk16 := hide k16
  have Hk17 := hide k17
  clear k1 k2 k3 k4 k5 k6 k7 k8 k9 k10 k11 k12 k13 k14 k15 k16 k17
  go_enter Try.func13, Try.ntmps13
  have M : Hid (Mm [] w w []) := hide Mm.init
  go_wp2_with (
    first
    | (refine wpBuildP (by rfl) #[(0, .const (.int .i64 1)), (1, .const (.int .i64 1))] (by rfl) #[(0, .int .i64 1), (1, .int .i64 1)] (by kernel_rfl) kx.C (build23r _ 1 1) ?_
       refine Stp.go ?_))
  constructor
  go_wp2_with (
    first
    | (refine wpBuildP (by rfl) #[(0, .const (.int .i64 1)), (1, .const (.int .i64 2))] (by rfl) #[(0, .int .i64 1), (1, .int .i64 2)] (by kernel_rfl) ky.C (build23r _ 1 2) ?_
       refine Stp.go ?_))
  constructor
  go_wp2_with (
    first
    | (refine wpAllocW (le0.C) zero23 1 rfl rfl rfl ?_
       intro W1 b1 e1 B1 K1
       replace M : Hid (Mm [] w W1 [(b1, 23, le0.C)]) := hide ((unhide M).new e1 B1 K1)
       clear e1 B1 K1
       refine Stp.go ?_))
  constructor
  go_wp2_with (
    first
    | (refine wpAllocW (le0.C) zero23 2 rfl rfl rfl ?_
       intro W2 b2 e2 B2 K2
       replace M : Hid (Mm [] w W2 [(b1, 23, le0.C), (b2, 23, le0.C)]) := hide ((unhide M).new e2 B2 K2)
       clear e2 B2 K2
       refine Stp.go ?_))
  constructor
  go_wp2_with (
    first
    | (refine wpStoreM row23 rfl (.tmp 1) (.tmp 31) rfl rfl b1 0 (kx.C) rfl rfl rfl (leC_one _) (unhide M) rfl rfl ?_
       intro W3 N3
       replace M : Hid (Mm [] w W3 [(b1, 23, kx.C), (b2, 23, le0.C)]) := hide N3
       clear N3
       refine Stp.go ?_))
  constructor
  go_wp2_with (
    first
    | (refine wpStoreM row23 rfl (.tmp 2) (.tmp 32) rfl rfl b2 1 (ky.C) rfl rfl rfl (leC_one _) (unhide M) rfl rfl ?_
       intro W4 N4
       replace M : Hid (Mm [] w W4 [(b1, 23, kx.C), (b2, 23, ky.C)]) := hide N4
       clear N4
       refine Stp.go ?_))
  constructor
  go_wp2_with (
    first
    | (go_at_call 15
       refine (unhide Hk1 _).mono ?_
       rintro e W5 ⟨rfl, q5⟩
       replace q5 := q5.symm
       subst q5
       refine Stp.go ?_))
  constructor
  go_wp2_with (
    first
    | (go_at_call 15
       refine (unhide Hk2 _).mono ?_
       rintro e W6 ⟨rfl, q6⟩
       replace q6 := q6.symm
       subst q6
       refine Stp.go ?_))
  constructor
  go_wp2_with (
    first
    | (go_at_call 15
       refine (unhide Hk3 _).mono ?_
       rintro e W7 ⟨b7, rfl, eb, B7, K7⟩
       replace M : Hid (Mm [] w W7 [(b1, 23, kx.C), (b2, 23, ky.C), (b7, 65, Wt.C v0)]) := hide ((unhide M).new eb B7 K7)
       clear eb B7 K7
       refine Stp.go ?_))
  constructor
  go_wp2_with (
    first
    | (refine wpLoadA row23 rfl (.tmp 1) rfl b1 0 rfl (kx.C) rfl ((unhide M).at 0 _ rfl).range ?_
       refine Stp.go ?_))
  constructor
  go_wp2_with (
    first
    | (go_at_call 21
       refine (unhide Hk4 b7 _ ((unhide M).at 2 _ rfl)).mono ?_
       rintro e W8 ⟨rfl, B8, K8⟩
       replace M : Hid (Mm [] w W8 [(b1, 23, kx.C), (b2, 23, ky.C), (b7, 65, Wt.C v0)]) := hide ((unhide M).mut 2 rfl K8 B8)
       clear B8 K8
       refine Stp.go ?_))
  constructor
  go_wp2_with (
    first
    | (refine wpBuildP (by rfl) #[(1, .const (.int .i64 (-1)))] (by rfl) #[(1, .int .i64 (-1))] (by kernel_rfl) km.C (build23q _ (-1)) ?_
       refine Stp.go ?_))
  constructor
  go_wp2_with (
    first
    | (go_at_call 21
       refine (unhide Hk5 b7 _ ((unhide M).at 2 _ rfl)).mono ?_
       rintro e W9 ⟨rfl, B9, K9⟩
       replace M : Hid (Mm [] w W9 [(b1, 23, kx.C), (b2, 23, ky.C), (b7, 65, Wt.C v0)]) := hide ((unhide M).mut 2 rfl K9 B9)
       clear B9 K9
       refine Stp.go ?_))
  constructor
  go_wp2_with (
    first
    | (refine wpLoadA row23 rfl (.tmp 1) rfl b1 0 rfl (kx.C) rfl ((unhide M).at 0 _ rfl).range ?_
       refine Stp.go ?_))
  constructor
  go_wp2_with (
    first
    | (go_at_call 21
       refine (unhide Hk6 b7 _ ((unhide M).at 2 _ rfl)).mono ?_
       rintro e W10 ⟨rfl, B10, K10⟩
       replace M : Hid (Mm [] w W10 [(b1, 23, kx.C), (b2, 23, ky.C), (b7, 65, Wt.C v1)]) := hide ((unhide M).mut 2 rfl K10 B10)
       clear B10 K10
       refine Stp.go ?_))
  constructor
  go_wp2_with (
    first
    | (refine wpLoadA row23 rfl (.tmp 1) rfl b1 0 rfl (kx.C) rfl ((unhide M).at 0 _ rfl).range ?_
       refine Stp.go ?_))
  constructor
  go_wp2_with (
    first
    | (go_at_call 21
       refine (unhide Hk7 b7 _ ((unhide M).at 2 _ rfl)).mono ?_
       rintro e W11 ⟨rfl, B11, K11⟩
       replace M : Hid (Mm [] w W11 [(b1, 23, kx.C), (b2, 23, ky.C), (b7, 65, Wt.C v2)]) := hide ((unhide M).mut 2 rfl K11 B11)
       clear B11 K11
       refine Stp.go ?_))
  constructor
  go_wp2_with (
    first
    | (refine wpLoadA row23 rfl (.tmp 1) rfl b1 0 rfl (kx.C) rfl ((unhide M).at 0 _ rfl).range ?_
       refine Stp.go ?_))
  constructor
  go_wp2_with (
    first
    | (go_at_call 21
       refine (unhide Hk8 b7 _ ((unhide M).at 2 _ rfl)).mono ?_
       rintro e W12 ⟨rfl, B12, K12⟩
       replace M : Hid (Mm [] w W12 [(b1, 23, kx.C), (b2, 23, ky.C), (b7, 65, Wt.C v3)]) := hide ((unhide M).mut 2 rfl K12 B12)
       clear B12 K12
       refine Stp.go ?_))
  constructor
  go_wp2_with (
    first
    | (go_at_call 28
       refine (unhide Hk9 b7 _ ((unhide M).at 2 _ rfl)).mono ?_
       rintro e W13 ⟨u, rfl, I13, K13⟩
       obtain ⟨gs, cp, cs, rfl, hgs, hbs, hc0⟩ := I13.asBlk
       have HC0 := hide hc0
       have hl0 := ((unhide M).at 0 _ rfl).lt
       have hl1 := ((unhide M).at 1 _ rfl).lt
       have hl2 := ((unhide M).at 2 _ rfl).lt
       have hlz := (unhide M).kept.size
       replace M : Hid (Mm [] w W13 [(b1, 23, kx.C), (b2, 23, ky.C), (b7, 65, Wt.C v3), (gs, 3, cs)]) := hide (((unhide M).step K13).add hbs (by omega) (fun x hx => by simp at hx; rcases hx with rfl | rfl | rfl <;> simp at * <;> omega))
       clear I13 K13 hgs hbs hc0 hl0 hl1 hl2 hlz
       refine Stp.go ?_))
  constructor
  go_wp2_with (
    first
    | (go_at_call 22
       refine (unhide Hk10 b7 _ ((unhide M).at 2 _ rfl)).mono ?_
       rintro e W14 ⟨rfl, q14⟩
       replace q14 := q14.symm
       subst q14
       refine Stp.go ?_))
  constructor
  go_wp2_with (
    first
    | (refine wpLoadA row23 rfl (.tmp 2) rfl b2 0 rfl (ky.C) rfl ((unhide M).at 1 _ rfl).range ?_
       refine Stp.go ?_))
  constructor
  go_wp2_with (
    first
    | (go_at_call 21
       refine (unhide Hk11 b7 _ ((unhide M).at 2 _ rfl)).mono ?_
       rintro e W15 ⟨rfl, B15, K15⟩
       replace M : Hid (Mm [] w W15 [(b1, 23, kx.C), (b2, 23, ky.C), (b7, 65, Wt.C v4), (gs, 3, cs)]) := hide ((unhide M).mut 2 rfl K15 B15)
       clear B15 K15
       refine Stp.go ?_))
  constructor
  go_wp2_with (
    first
    | (go_at_call 22
       refine (unhide Hk12 b7 _ ((unhide M).at 2 _ rfl)).mono ?_
       rintro e W16 ⟨rfl, q16⟩
       replace q16 := q16.symm
       subst q16
       refine Stp.go ?_))
  constructor
  go_wp2_with (
    first
    | (refine wpLoadA row23 rfl (.tmp 1) rfl b1 0 rfl (kx.C) rfl ((unhide M).at 0 _ rfl).range ?_
       refine Stp.go ?_))
  constructor
  go_wp2_with (
    first
    | (go_at_call 21
       refine (unhide Hk13 b7 _ ((unhide M).at 2 _ rfl)).mono ?_
       rintro e W17 ⟨rfl, B17, K17⟩
       replace M : Hid (Mm [] w W17 [(b1, 23, kx.C), (b2, 23, ky.C), (b7, 65, Wt.C v5), (gs, 3, cs)]) := hide ((unhide M).mut 2 rfl K17 B17)
       clear B17 K17
       refine Stp.go ?_))
  constructor
  go_wp2_with (
    first
    | (go_at_call 29
       refine (unhide Hk14 b7 _ ((unhide M).at 2 _ rfl)).mono ?_
       rintro e W18 ⟨rfl, B18, K18⟩
       replace M : Hid (Mm [] w W18 [(b1, 23, kx.C), (b2, 23, ky.C), (b7, 65, Wt.C v6), (gs, 3, cs)]) := hide ((unhide M).mut 2 rfl K18 B18)
       clear B18 K18
       refine Stp.go ?_))
  constructor
  go_wp2_with (
    first
    | (go_at_call 30
       refine (unhide Hk15 b7 _ ((unhide M).at 2 _ rfl)).mono ?_
       rintro e W19 ⟨rfl, K19⟩
       replace M : Hid (Mm [] w W19 [(b1, 23, kx.C), (b2, 23, ky.C), (b7, 65, Wt.C v6), (gs, 3, cs)]) := hide ((unhide M).step K19)
       clear K19
       refine Stp.go ?_))
  constructor
  go_wp2_with (
    first
    | (refine wpNew row23 (le0.C) rfl zero23 25 rfl rfl rfl (.tmp 95) rfl rfl rfl (le0.C) rfl (leC_one _) (by kernel_rfl) (by kernel_rfl) ?_
       intro W20 b20 e20 B20 K20
       replace M : Hid (Mm [] w W20 [(b1, 23, kx.C), (b2, 23, ky.C), (b7, 65, Wt.C v6), (gs, 3, cs), (b20, 23, le0.C)]) := hide ((unhide M).new e20 B20 K20)
       clear e20 B20 K20
       refine Stp.go ?_))
  constructor
  go_wp2_with (
    first
    | (refine wpBuildZ (T := 25) (u8s (zs 64)) build25 rfl rfl ?_
       refine Stp.go ?_))
  constructor
  go_wp2_with (
    first
    | (go_at_call 9
       refine (unhide Hk16 _).mono ?_
       rintro e W21 ⟨rfl, K21⟩
       replace M : Hid (Mm [] w W21 [(b1, 23, kx.C), (b2, 23, ky.C), (b7, 65, Wt.C v6), (gs, 3, cs), (b20, 23, le0.C)]) := hide ((unhide M).step K21)
       clear K21
       refine Stp.go ?_))
  constructor
  go_wp2_with (
    first
    | (refine wpNew row23 (le0.C) rfl zero23 27 rfl rfl rfl (.tmp 100) rfl rfl rfl (le0.C) rfl (leC_one _) (by kernel_rfl) (by kernel_rfl) ?_
       intro W22 b22 e22 B22 K22
       replace M : Hid (Mm [] w W22 [(b1, 23, kx.C), (b2, 23, ky.C), (b7, 65, Wt.C v6), (gs, 3, cs), (b20, 23, le0.C), (b22, 23, le0.C)]) := hide ((unhide M).new e22 B22 K22)
       clear e22 B22 K22
       refine Stp.go ?_))
  constructor
  go_wp2_with (
    first
    | (refine wpBuildP (by rfl) #[(0, .const (.int .u8 209))] (by rfl) #[(0, .int .u8 209)] (by kernel_rfl) (u8s (209 :: zs 63)) (build25m _) ?_
       refine Stp.go ?_))
  constructor
  go_wp2_with (
    first
    | (go_at_call 9
       refine (unhide Hk17 _).mono ?_
       rintro e W23 ⟨rfl, K23⟩
       replace M : Hid (Mm [] w W23 [(b1, 23, kx.C), (b2, 23, ky.C), (b7, 65, Wt.C v6), (gs, 3, cs), (b20, 23, le0.C), (b22, 23, le0.C)]) := hide ((unhide M).step K23)
       clear K23
       refine Stp.go ?_))
  constructor
  go_wp2_with (
    first
    | (refine wpNew row23 (le0.C) rfl zero23 29 rfl rfl rfl (.tmp 105) rfl rfl rfl (le0.C) rfl (leC_one _) (by kernel_rfl) (by kernel_rfl) ?_
       intro W24 b24 e24 B24 K24
       replace M : Hid (Mm [] w W24 [(b1, 23, kx.C), (b2, 23, ky.C), (b7, 65, Wt.C v6), (gs, 3, cs), (b20, 23, le0.C), (b22, 23, le0.C), (b24, 23, le0.C)]) := hide ((unhide M).new e24 B24 K24)
       clear e24 B24 K24
       refine Stp.go ?_))
  constructor
  go_upto_region 18 with fail
  simp only [List.append_eq, List.cons_append, List.nil_append]
  refine wp_text_tq 81 rfl (by kernel_rfl) [some (.int .i64 2), some (.int .i64 2), some (.bool true), some (.bool true), some (.int .i64 2), some (.int .i64 2), some (.bool true), some (.bool true), some (.bool true), some (.int .i64 0), some (.int .i64 0), some (.int .i64 0), some (.int .i64 0), some (.int .i64 0), some (.int .i64 0), some (.int .i64 0), some (.int .i64 0), some (.int .i64 0), some (.int .i64 0), some (.int .i64 0), some (.bool true), some (.bool true), some (.bool true), some (.int .i64 2), some (.int .i64 2), some (.bool true), some (.bool true), some (.bool true), some (.int .i64 2), some (.int .i64 2), some (.bool true), some (.bool true), some (.bool true), some (.bool false), some (.bool true), some (.bool true), some (.bool true), some (.bool false), some (.bool true), some (.bool true), some (.bool true), some (.bool true), some (.bool true), some (.bool true), some (.slice (some ⟨gs, 0, none⟩) 1 cp), some (.int .i64 1), some (.bool true), some (.bool true), some (.bool true), some (.slice (some ⟨gs, 0, none⟩) 1 cp), some (.pointer (some ⟨gs, 0, none⟩)), some (.int .i64 1), some (.bool true), some (.bool true), some (.bool true), some (.int .i64 2), some (.bool true), some (.bool true), some (.bool true), some (.bool false), some (.bool true), some (.bool true), some (.bool true), some (.int .i64 0), some (.bool true), some (.bool true), some (.bool true), some (.bool false), some (.bool true), some (.bool true), some (.bool true), some (aggV le0.C), some (aggV le0.C), some (.bool true), some (.bool true), some (.bool true), some (.int .i64 12), some (.int .i64 12), some (.bool true), some (.bool true), some (.bool true)] rfl (by kernel_rfl) (by kernel_rfl) ?_ ?_
  · intro i o' hi hsk ho a' w2 hout hin hk2
    replace hk2 : Kept [] W24 w2 := ⟨hk2.os, hk2.tape, hk2.output, hk2.size, hk2.block⟩
    match i, ho, hsk with
    | 0, ho, hsk =>
      obtain rfl := Option.some.inj ho
      exact wp_move (.tmp 4) rfl _ ((hout 4 (by kernel_rfl)).trans rfl) ⟨_, rfl, tq_is _ _ _ _ rfl, Kept.refl _ _, fun _ _ _ _ _ => trivial⟩
    | 1, ho, hsk =>
      obtain rfl := Option.some.inj ho
      have e0 : a'.eval (.tmp 107) = .int .i64 2 := is_tq (hin 0 107 (by kernel_rfl) (by kernel_rfl)) rfl
      refine wp_callF 11 _ _ rfl #[.int .i64 2] (by simp [e0]) (cg11 _ _) ((num11 _ _).mono ?_)
      rintro e w3 ⟨rfl, rfl⟩
      exact ⟨_, rfl, _, rfl, tq_is _ _ _ _ rfl, Kept.refl _ _, fun _ _ _ _ _ => trivial⟩
    | 2, ho, hsk =>
      obtain rfl := Option.some.inj ho
      have e0 : a'.eval (.tmp 108) = .int .i64 2 := is_tq (hin 1 108 (by kernel_rfl) (by kernel_rfl)) rfl
      exact o_eql3 (.tmp 108) 2 rfl _ true (by simp) e0 ⟨_, rfl, tq_is _ _ _ _ rfl, Kept.refl _ _, fun _ _ _ _ _ => trivial⟩
    | 3, ho, hsk =>
      obtain rfl := Option.some.inj ho
      have e0 : a'.eval (.tmp 109) = .bool true := is_tq (hin 2 109 (by kernel_rfl) (by kernel_rfl)) rfl
      exact wp_move (.tmp 109) rfl _ e0 ⟨_, rfl, tq_is _ _ _ _ rfl, Kept.refl _ _, fun _ _ _ _ _ => trivial⟩
    | 4, ho, hsk =>
      obtain rfl := Option.some.inj ho
      exact wp_move (.tmp 6) rfl _ ((hout 6 (by kernel_rfl)).trans rfl) ⟨_, rfl, tq_is _ _ _ _ rfl, Kept.refl _ _, fun _ _ _ _ _ => trivial⟩
    | 5, ho, hsk =>
      obtain rfl := Option.some.inj ho
      have e0 : a'.eval (.tmp 111) = .int .i64 2 := is_tq (hin 4 111 (by kernel_rfl) (by kernel_rfl)) rfl
      refine wp_callF 11 _ _ rfl #[.int .i64 2] (by simp [e0]) (cg11 _ _) ((num11 _ _).mono ?_)
      rintro e w3 ⟨rfl, rfl⟩
      exact ⟨_, rfl, _, rfl, tq_is _ _ _ _ rfl, Kept.refl _ _, fun _ _ _ _ _ => trivial⟩
    | 6, ho, hsk =>
      obtain rfl := Option.some.inj ho
      have e0 : a'.eval (.tmp 112) = .int .i64 2 := is_tq (hin 5 112 (by kernel_rfl) (by kernel_rfl)) rfl
      exact o_eql3 (.tmp 112) 2 rfl _ true (by simp) e0 ⟨_, rfl, tq_is _ _ _ _ rfl, Kept.refl _ _, fun _ _ _ _ _ => trivial⟩
    | 7, ho, hsk =>
      obtain rfl := Option.some.inj ho
      have e0 : a'.eval (.tmp 110) = .bool true := is_tq (hin 3 110 (by kernel_rfl) (by kernel_rfl)) rfl
      have e1 : a'.eval (.tmp 113) = .bool true := is_tq (hin 6 113 (by kernel_rfl) (by kernel_rfl)) rfl
      exact o_pick (.tmp 110) (.tmp 113) rfl _ e0 e1 ⟨_, rfl, tq_is _ _ _ _ rfl, Kept.refl _ _, fun _ _ _ _ _ => trivial⟩
    | 8, ho, hsk =>
      obtain rfl := Option.some.inj ho
      have e0 : a'.eval (.tmp 114) = .bool true := is_tq (hin 7 114 (by kernel_rfl) (by kernel_rfl)) rfl
      exact wp_move (.tmp 114) rfl _ e0 ⟨_, rfl, tq_is _ _ _ _ rfl, Kept.refl _ _, fun _ _ _ _ _ => trivial⟩
    | 9, ho, hsk =>
      obtain rfl := Option.some.inj ho
      exact wp_move (.tmp 8) rfl _ ((hout 8 (by kernel_rfl)).trans rfl) ⟨_, rfl, tq_is _ _ _ _ rfl, Kept.refl _ _, fun _ _ _ _ _ => trivial⟩
    | 10, ho, hsk =>
      obtain rfl := Option.some.inj ho
      have e0 : a'.eval (.tmp 116) = .int .i64 0 := is_tq (hin 9 116 (by kernel_rfl) (by kernel_rfl)) rfl
      refine wp_callF 11 _ _ rfl #[.int .i64 0] (by simp [e0]) (cg11 _ _) ((num11 _ _).mono ?_)
      rintro e w3 ⟨rfl, rfl⟩
      exact ⟨_, rfl, _, rfl, tq_is _ _ _ _ rfl, Kept.refl _ _, fun _ _ _ _ _ => trivial⟩
    | 11, ho, hsk =>
      obtain rfl := Option.some.inj ho
      exact wp_move (.tmp 14) rfl _ ((hout 14 (by kernel_rfl)).trans rfl) ⟨_, rfl, tq_is _ _ _ _ rfl, Kept.refl _ _, fun _ _ _ _ _ => trivial⟩
    | 12, ho, hsk =>
      obtain rfl := Option.some.inj ho
      have e0 : a'.eval (.tmp 118) = .int .i64 0 := is_tq (hin 11 118 (by kernel_rfl) (by kernel_rfl)) rfl
      refine wp_callF 11 _ _ rfl #[.int .i64 0] (by simp [e0]) (cg11 _ _) ((num11 _ _).mono ?_)
      rintro e w3 ⟨rfl, rfl⟩
      exact ⟨_, rfl, _, rfl, tq_is _ _ _ _ rfl, Kept.refl _ _, fun _ _ _ _ _ => trivial⟩
    | 13, ho, hsk =>
      obtain rfl := Option.some.inj ho
      have e0 : a'.eval (.tmp 117) = .int .i64 0 := is_tq (hin 10 117 (by kernel_rfl) (by kernel_rfl)) rfl
      have e1 : a'.eval (.tmp 119) = .int .i64 0 := is_tq (hin 12 119 (by kernel_rfl) (by kernel_rfl)) rfl
      exact o_add3 (.tmp 117) (.tmp 119) rfl 0 0 (by omega) e0 e1 ⟨_, rfl, tq_is _ _ _ _ rfl, Kept.refl _ _, fun _ _ _ _ _ => trivial⟩
    | 14, ho, hsk =>
      obtain rfl := Option.some.inj ho
      exact wp_move (.tmp 24) rfl _ ((hout 24 (by kernel_rfl)).trans rfl) ⟨_, rfl, tq_is _ _ _ _ rfl, Kept.refl _ _, fun _ _ _ _ _ => trivial⟩
    | 15, ho, hsk =>
      obtain rfl := Option.some.inj ho
      have e0 : a'.eval (.tmp 121) = .int .i64 0 := is_tq (hin 14 121 (by kernel_rfl) (by kernel_rfl)) rfl
      refine wp_callF 11 _ _ rfl #[.int .i64 0] (by simp [e0]) (cg11 _ _) ((num11 _ _).mono ?_)
      rintro e w3 ⟨rfl, rfl⟩
      exact ⟨_, rfl, _, rfl, tq_is _ _ _ _ rfl, Kept.refl _ _, fun _ _ _ _ _ => trivial⟩
    | 16, ho, hsk =>
      obtain rfl := Option.some.inj ho
      have e0 : a'.eval (.tmp 120) = .int .i64 0 := is_tq (hin 13 120 (by kernel_rfl) (by kernel_rfl)) rfl
      have e1 : a'.eval (.tmp 122) = .int .i64 0 := is_tq (hin 15 122 (by kernel_rfl) (by kernel_rfl)) rfl
      exact o_add3 (.tmp 120) (.tmp 122) rfl 0 0 (by omega) e0 e1 ⟨_, rfl, tq_is _ _ _ _ rfl, Kept.refl _ _, fun _ _ _ _ _ => trivial⟩
    | 17, ho, hsk =>
      obtain rfl := Option.some.inj ho
      exact wp_move (.tmp 28) rfl _ ((hout 28 (by kernel_rfl)).trans rfl) ⟨_, rfl, tq_is _ _ _ _ rfl, Kept.refl _ _, fun _ _ _ _ _ => trivial⟩
    | 18, ho, hsk =>
      obtain rfl := Option.some.inj ho
      have e0 : a'.eval (.tmp 124) = .int .i64 0 := is_tq (hin 17 124 (by kernel_rfl) (by kernel_rfl)) rfl
      refine wp_callF 11 _ _ rfl #[.int .i64 0] (by simp [e0]) (cg11 _ _) ((num11 _ _).mono ?_)
      rintro e w3 ⟨rfl, rfl⟩
      exact ⟨_, rfl, _, rfl, tq_is _ _ _ _ rfl, Kept.refl _ _, fun _ _ _ _ _ => trivial⟩
    | 19, ho, hsk =>
      obtain rfl := Option.some.inj ho
      have e0 : a'.eval (.tmp 123) = .int .i64 0 := is_tq (hin 16 123 (by kernel_rfl) (by kernel_rfl)) rfl
      have e1 : a'.eval (.tmp 125) = .int .i64 0 := is_tq (hin 18 125 (by kernel_rfl) (by kernel_rfl)) rfl
      exact o_add3 (.tmp 123) (.tmp 125) rfl 0 0 (by omega) e0 e1 ⟨_, rfl, tq_is _ _ _ _ rfl, Kept.refl _ _, fun _ _ _ _ _ => trivial⟩
    | 20, ho, hsk =>
      obtain rfl := Option.some.inj ho
      have e0 : a'.eval (.tmp 126) = .int .i64 0 := is_tq (hin 19 126 (by kernel_rfl) (by kernel_rfl)) rfl
      exact o_eql3 (.tmp 126) 0 rfl _ true (by simp) e0 ⟨_, rfl, tq_is _ _ _ _ rfl, Kept.refl _ _, fun _ _ _ _ _ => trivial⟩
    | 21, ho, hsk =>
      obtain rfl := Option.some.inj ho
      have e0 : a'.eval (.tmp 115) = .bool true := is_tq (hin 8 115 (by kernel_rfl) (by kernel_rfl)) rfl
      have e1 : a'.eval (.tmp 127) = .bool true := is_tq (hin 20 127 (by kernel_rfl) (by kernel_rfl)) rfl
      exact o_pick (.tmp 115) (.tmp 127) rfl _ e0 e1 ⟨_, rfl, tq_is _ _ _ _ rfl, Kept.refl _ _, fun _ _ _ _ _ => trivial⟩
    | 22, ho, hsk =>
      obtain rfl := Option.some.inj ho
      have e0 : a'.eval (.tmp 128) = .bool true := is_tq (hin 21 128 (by kernel_rfl) (by kernel_rfl)) rfl
      exact wp_move (.tmp 128) rfl _ e0 ⟨_, rfl, tq_is _ _ _ _ rfl, Kept.refl _ _, fun _ _ _ _ _ => trivial⟩
    | 23, ho, hsk =>
      obtain rfl := Option.some.inj ho
      exact wp_move (.tmp 10) rfl _ ((hout 10 (by kernel_rfl)).trans rfl) ⟨_, rfl, tq_is _ _ _ _ rfl, Kept.refl _ _, fun _ _ _ _ _ => trivial⟩
    | 24, ho, hsk =>
      obtain rfl := Option.some.inj ho
      have e0 : a'.eval (.tmp 130) = .int .i64 2 := is_tq (hin 23 130 (by kernel_rfl) (by kernel_rfl)) rfl
      refine wp_callF 11 _ _ rfl #[.int .i64 2] (by simp [e0]) (cg11 _ _) ((num11 _ _).mono ?_)
      rintro e w3 ⟨rfl, rfl⟩
      exact ⟨_, rfl, _, rfl, tq_is _ _ _ _ rfl, Kept.refl _ _, fun _ _ _ _ _ => trivial⟩
    | 25, ho, hsk =>
      obtain rfl := Option.some.inj ho
      have e0 : a'.eval (.tmp 131) = .int .i64 2 := is_tq (hin 24 131 (by kernel_rfl) (by kernel_rfl)) rfl
      exact o_eql3 (.tmp 131) 2 rfl _ true (by simp) e0 ⟨_, rfl, tq_is _ _ _ _ rfl, Kept.refl _ _, fun _ _ _ _ _ => trivial⟩
    | 26, ho, hsk =>
      obtain rfl := Option.some.inj ho
      have e0 : a'.eval (.tmp 129) = .bool true := is_tq (hin 22 129 (by kernel_rfl) (by kernel_rfl)) rfl
      have e1 : a'.eval (.tmp 132) = .bool true := is_tq (hin 25 132 (by kernel_rfl) (by kernel_rfl)) rfl
      exact o_pick (.tmp 129) (.tmp 132) rfl _ e0 e1 ⟨_, rfl, tq_is _ _ _ _ rfl, Kept.refl _ _, fun _ _ _ _ _ => trivial⟩
    | 27, ho, hsk =>
      obtain rfl := Option.some.inj ho
      have e0 : a'.eval (.tmp 133) = .bool true := is_tq (hin 26 133 (by kernel_rfl) (by kernel_rfl)) rfl
      exact wp_move (.tmp 133) rfl _ e0 ⟨_, rfl, tq_is _ _ _ _ rfl, Kept.refl _ _, fun _ _ _ _ _ => trivial⟩
    | 28, ho, hsk =>
      obtain rfl := Option.some.inj ho
      exact wp_move (.tmp 12) rfl _ ((hout 12 (by kernel_rfl)).trans rfl) ⟨_, rfl, tq_is _ _ _ _ rfl, Kept.refl _ _, fun _ _ _ _ _ => trivial⟩
    | 29, ho, hsk =>
      obtain rfl := Option.some.inj ho
      have e0 : a'.eval (.tmp 135) = .int .i64 2 := is_tq (hin 28 135 (by kernel_rfl) (by kernel_rfl)) rfl
      refine wp_callF 11 _ _ rfl #[.int .i64 2] (by simp [e0]) (cg11 _ _) ((num11 _ _).mono ?_)
      rintro e w3 ⟨rfl, rfl⟩
      exact ⟨_, rfl, _, rfl, tq_is _ _ _ _ rfl, Kept.refl _ _, fun _ _ _ _ _ => trivial⟩
    | 30, ho, hsk =>
      obtain rfl := Option.some.inj ho
      have e0 : a'.eval (.tmp 136) = .int .i64 2 := is_tq (hin 29 136 (by kernel_rfl) (by kernel_rfl)) rfl
      exact o_eql3 (.tmp 136) 2 rfl _ true (by simp) e0 ⟨_, rfl, tq_is _ _ _ _ rfl, Kept.refl _ _, fun _ _ _ _ _ => trivial⟩
    | 31, ho, hsk =>
      obtain rfl := Option.some.inj ho
      have e0 : a'.eval (.tmp 134) = .bool true := is_tq (hin 27 134 (by kernel_rfl) (by kernel_rfl)) rfl
      have e1 : a'.eval (.tmp 137) = .bool true := is_tq (hin 30 137 (by kernel_rfl) (by kernel_rfl)) rfl
      exact o_pick (.tmp 134) (.tmp 137) rfl _ e0 e1 ⟨_, rfl, tq_is _ _ _ _ rfl, Kept.refl _ _, fun _ _ _ _ _ => trivial⟩
    | 32, ho, hsk =>
      obtain rfl := Option.some.inj ho
      have e0 : a'.eval (.tmp 138) = .bool true := is_tq (hin 31 138 (by kernel_rfl) (by kernel_rfl)) rfl
      exact wp_move (.tmp 138) rfl _ e0 ⟨_, rfl, tq_is _ _ _ _ rfl, Kept.refl _ _, fun _ _ _ _ _ => trivial⟩
    | 33, ho, hsk =>
      obtain rfl := Option.some.inj ho
      exact wp_move (.tmp 13) rfl _ ((hout 13 (by kernel_rfl)).trans rfl) ⟨_, rfl, tq_is _ _ _ _ rfl, Kept.refl _ _, fun _ _ _ _ _ => trivial⟩
    | 34, ho, hsk =>
      obtain rfl := Option.some.inj ho
      have e0 : a'.eval (.tmp 140) = .bool false := is_tq (hin 33 140 (by kernel_rfl) (by kernel_rfl)) rfl
      exact o_not (.tmp 140) rfl false e0 ⟨_, rfl, tq_is _ _ _ _ rfl, Kept.refl _ _, fun _ _ _ _ _ => trivial⟩
    | 35, ho, hsk =>
      obtain rfl := Option.some.inj ho
      have e0 : a'.eval (.tmp 139) = .bool true := is_tq (hin 32 139 (by kernel_rfl) (by kernel_rfl)) rfl
      have e1 : a'.eval (.tmp 141) = .bool true := is_tq (hin 34 141 (by kernel_rfl) (by kernel_rfl)) rfl
      exact o_pick (.tmp 139) (.tmp 141) rfl _ e0 e1 ⟨_, rfl, tq_is _ _ _ _ rfl, Kept.refl _ _, fun _ _ _ _ _ => trivial⟩
    | 36, ho, hsk =>
      obtain rfl := Option.some.inj ho
      have e0 : a'.eval (.tmp 142) = .bool true := is_tq (hin 35 142 (by kernel_rfl) (by kernel_rfl)) rfl
      exact wp_move (.tmp 142) rfl _ e0 ⟨_, rfl, tq_is _ _ _ _ rfl, Kept.refl _ _, fun _ _ _ _ _ => trivial⟩
    | 37, ho, hsk =>
      obtain rfl := Option.some.inj ho
      exact wp_move (.tmp 15) rfl _ ((hout 15 (by kernel_rfl)).trans rfl) ⟨_, rfl, tq_is _ _ _ _ rfl, Kept.refl _ _, fun _ _ _ _ _ => trivial⟩
    | 38, ho, hsk =>
      obtain rfl := Option.some.inj ho
      have e0 : a'.eval (.tmp 144) = .bool false := is_tq (hin 37 144 (by kernel_rfl) (by kernel_rfl)) rfl
      exact o_not (.tmp 144) rfl false e0 ⟨_, rfl, tq_is _ _ _ _ rfl, Kept.refl _ _, fun _ _ _ _ _ => trivial⟩
    | 39, ho, hsk =>
      obtain rfl := Option.some.inj ho
      have e0 : a'.eval (.tmp 143) = .bool true := is_tq (hin 36 143 (by kernel_rfl) (by kernel_rfl)) rfl
      have e1 : a'.eval (.tmp 145) = .bool true := is_tq (hin 38 145 (by kernel_rfl) (by kernel_rfl)) rfl
      exact o_pick (.tmp 143) (.tmp 145) rfl _ e0 e1 ⟨_, rfl, tq_is _ _ _ _ rfl, Kept.refl _ _, fun _ _ _ _ _ => trivial⟩
    | 40, ho, hsk =>
      obtain rfl := Option.some.inj ho
      have e0 : a'.eval (.tmp 146) = .bool true := is_tq (hin 39 146 (by kernel_rfl) (by kernel_rfl)) rfl
      exact wp_move (.tmp 146) rfl _ e0 ⟨_, rfl, tq_is _ _ _ _ rfl, Kept.refl _ _, fun _ _ _ _ _ => trivial⟩
    | 41, ho, hsk =>
      obtain rfl := Option.some.inj ho
      exact wp_move (.tmp 17) rfl _ ((hout 17 (by kernel_rfl)).trans rfl) ⟨_, rfl, tq_is _ _ _ _ rfl, Kept.refl _ _, fun _ _ _ _ _ => trivial⟩
    | 42, ho, hsk =>
      obtain rfl := Option.some.inj ho
      have e0 : a'.eval (.tmp 147) = .bool true := is_tq (hin 40 147 (by kernel_rfl) (by kernel_rfl)) rfl
      have e1 : a'.eval (.tmp 148) = .bool true := is_tq (hin 41 148 (by kernel_rfl) (by kernel_rfl)) rfl
      exact o_pick (.tmp 147) (.tmp 148) rfl _ e0 e1 ⟨_, rfl, tq_is _ _ _ _ rfl, Kept.refl _ _, fun _ _ _ _ _ => trivial⟩
    | 43, ho, hsk =>
      obtain rfl := Option.some.inj ho
      have e0 : a'.eval (.tmp 149) = .bool true := is_tq (hin 42 149 (by kernel_rfl) (by kernel_rfl)) rfl
      exact wp_move (.tmp 149) rfl _ e0 ⟨_, rfl, tq_is _ _ _ _ rfl, Kept.refl _ _, fun _ _ _ _ _ => trivial⟩
    | 44, ho, hsk =>
      obtain rfl := Option.some.inj ho
      exact wp_move (.tmp 19) rfl _ ((hout 19 (by kernel_rfl)).trans rfl) ⟨_, rfl, tq_is _ _ _ _ rfl, Kept.refl _ _, fun _ _ _ _ _ => trivial⟩
    | 45, ho, hsk =>
      obtain rfl := Option.some.inj ho
      have e0 : a'.eval (.tmp 151) = .slice (some ⟨gs, 0, none⟩) 1 cp := is_tq (hin 44 151 (by kernel_rfl) (by kernel_rfl)) rfl
      exact o_len70 (.tmp 151) rfl _ 1 cp e0 ⟨_, rfl, tq_is _ _ _ _ rfl, Kept.refl _ _, fun _ _ _ _ _ => trivial⟩
    | 46, ho, hsk =>
      obtain rfl := Option.some.inj ho
      have e0 : a'.eval (.tmp 152) = .int .i64 1 := is_tq (hin 45 152 (by kernel_rfl) (by kernel_rfl)) rfl
      exact o_eql3 (.tmp 152) 1 rfl _ true (by simp) e0 ⟨_, rfl, tq_is _ _ _ _ rfl, Kept.refl _ _, fun _ _ _ _ _ => trivial⟩
    | 47, ho, hsk =>
      obtain rfl := Option.some.inj ho
      have e0 : a'.eval (.tmp 150) = .bool true := is_tq (hin 43 150 (by kernel_rfl) (by kernel_rfl)) rfl
      have e1 : a'.eval (.tmp 153) = .bool true := is_tq (hin 46 153 (by kernel_rfl) (by kernel_rfl)) rfl
      exact o_pick (.tmp 150) (.tmp 153) rfl _ e0 e1 ⟨_, rfl, tq_is _ _ _ _ rfl, Kept.refl _ _, fun _ _ _ _ _ => trivial⟩
    | 48, ho, hsk =>
      obtain rfl := Option.some.inj ho
      have e0 : a'.eval (.tmp 154) = .bool true := is_tq (hin 47 154 (by kernel_rfl) (by kernel_rfl)) rfl
      exact wp_move (.tmp 154) rfl _ e0 ⟨_, rfl, tq_is _ _ _ _ rfl, Kept.refl _ _, fun _ _ _ _ _ => trivial⟩
    | 49, ho, hsk =>
      obtain rfl := Option.some.inj ho
      exact wp_move (.tmp 19) rfl _ ((hout 19 (by kernel_rfl)).trans rfl) ⟨_, rfl, tq_is _ _ _ _ rfl, Kept.refl _ _, fun _ _ _ _ _ => trivial⟩
    | 50, ho, hsk =>
      obtain rfl := Option.some.inj ho
      have e0 : a'.eval (.tmp 156) = .slice (some ⟨gs, 0, none⟩) 1 cp := is_tq (hin 49 156 (by kernel_rfl) (by kernel_rfl)) rfl
      exact o_idx70c (.tmp 156) rfl gs 1 cp (by omega) e0 ⟨_, rfl, tq_is _ _ _ _ rfl, Kept.refl _ _, fun _ _ _ _ _ => trivial⟩
    | 51, ho, hsk =>
      obtain rfl := Option.some.inj ho
      have e0 : a'.eval (.tmp 157) = .pointer (some ⟨gs, 0, none⟩) := is_tq (hin 50 157 (by kernel_rfl) (by kernel_rfl)) rfl
      exact o_load3 (.tmp 157) rfl _ _ e0 (fits_cell (((unhide M).step hk2).at 3 _ rfl) 0 _ (unhide HC0)) ⟨_, rfl, tq_is _ _ _ _ rfl, Kept.refl _ _, fun _ _ _ _ _ => trivial⟩
    | 52, ho, hsk =>
      obtain rfl := Option.some.inj ho
      have e0 : a'.eval (.tmp 158) = .int .i64 1 := is_tq (hin 51 158 (by kernel_rfl) (by kernel_rfl)) rfl
      exact o_eql3 (.tmp 158) 1 rfl _ true (by simp) e0 ⟨_, rfl, tq_is _ _ _ _ rfl, Kept.refl _ _, fun _ _ _ _ _ => trivial⟩
    | 53, ho, hsk =>
      obtain rfl := Option.some.inj ho
      have e0 : a'.eval (.tmp 155) = .bool true := is_tq (hin 48 155 (by kernel_rfl) (by kernel_rfl)) rfl
      have e1 : a'.eval (.tmp 159) = .bool true := is_tq (hin 52 159 (by kernel_rfl) (by kernel_rfl)) rfl
      exact o_pick (.tmp 155) (.tmp 159) rfl _ e0 e1 ⟨_, rfl, tq_is _ _ _ _ rfl, Kept.refl _ _, fun _ _ _ _ _ => trivial⟩
    | 54, ho, hsk =>
      obtain rfl := Option.some.inj ho
      have e0 : a'.eval (.tmp 160) = .bool true := is_tq (hin 53 160 (by kernel_rfl) (by kernel_rfl)) rfl
      exact wp_move (.tmp 160) rfl _ e0 ⟨_, rfl, tq_is _ _ _ _ rfl, Kept.refl _ _, fun _ _ _ _ _ => trivial⟩
    | 55, ho, hsk =>
      obtain rfl := Option.some.inj ho
      exact wp_move (.tmp 20) rfl _ ((hout 20 (by kernel_rfl)).trans rfl) ⟨_, rfl, tq_is _ _ _ _ rfl, Kept.refl _ _, fun _ _ _ _ _ => trivial⟩
    | 56, ho, hsk =>
      obtain rfl := Option.some.inj ho
      have e0 : a'.eval (.tmp 162) = .int .i64 2 := is_tq (hin 55 162 (by kernel_rfl) (by kernel_rfl)) rfl
      exact o_eql3 (.tmp 162) 2 rfl _ true (by simp) e0 ⟨_, rfl, tq_is _ _ _ _ rfl, Kept.refl _ _, fun _ _ _ _ _ => trivial⟩
    | 57, ho, hsk =>
      obtain rfl := Option.some.inj ho
      have e0 : a'.eval (.tmp 161) = .bool true := is_tq (hin 54 161 (by kernel_rfl) (by kernel_rfl)) rfl
      have e1 : a'.eval (.tmp 163) = .bool true := is_tq (hin 56 163 (by kernel_rfl) (by kernel_rfl)) rfl
      exact o_pick (.tmp 161) (.tmp 163) rfl _ e0 e1 ⟨_, rfl, tq_is _ _ _ _ rfl, Kept.refl _ _, fun _ _ _ _ _ => trivial⟩
    | 58, ho, hsk =>
      obtain rfl := Option.some.inj ho
      have e0 : a'.eval (.tmp 164) = .bool true := is_tq (hin 57 164 (by kernel_rfl) (by kernel_rfl)) rfl
      exact wp_move (.tmp 164) rfl _ e0 ⟨_, rfl, tq_is _ _ _ _ rfl, Kept.refl _ _, fun _ _ _ _ _ => trivial⟩
    | 59, ho, hsk =>
      obtain rfl := Option.some.inj ho
      exact wp_move (.tmp 21) rfl _ ((hout 21 (by kernel_rfl)).trans rfl) ⟨_, rfl, tq_is _ _ _ _ rfl, Kept.refl _ _, fun _ _ _ _ _ => trivial⟩
    | 60, ho, hsk =>
      obtain rfl := Option.some.inj ho
      have e0 : a'.eval (.tmp 166) = .bool false := is_tq (hin 59 166 (by kernel_rfl) (by kernel_rfl)) rfl
      exact o_not (.tmp 166) rfl false e0 ⟨_, rfl, tq_is _ _ _ _ rfl, Kept.refl _ _, fun _ _ _ _ _ => trivial⟩
    | 61, ho, hsk =>
      obtain rfl := Option.some.inj ho
      have e0 : a'.eval (.tmp 165) = .bool true := is_tq (hin 58 165 (by kernel_rfl) (by kernel_rfl)) rfl
      have e1 : a'.eval (.tmp 167) = .bool true := is_tq (hin 60 167 (by kernel_rfl) (by kernel_rfl)) rfl
      exact o_pick (.tmp 165) (.tmp 167) rfl _ e0 e1 ⟨_, rfl, tq_is _ _ _ _ rfl, Kept.refl _ _, fun _ _ _ _ _ => trivial⟩
    | 62, ho, hsk =>
      obtain rfl := Option.some.inj ho
      have e0 : a'.eval (.tmp 168) = .bool true := is_tq (hin 61 168 (by kernel_rfl) (by kernel_rfl)) rfl
      exact wp_move (.tmp 168) rfl _ e0 ⟨_, rfl, tq_is _ _ _ _ rfl, Kept.refl _ _, fun _ _ _ _ _ => trivial⟩
    | 63, ho, hsk =>
      obtain rfl := Option.some.inj ho
      exact wp_move (.tmp 23) rfl _ ((hout 23 (by kernel_rfl)).trans rfl) ⟨_, rfl, tq_is _ _ _ _ rfl, Kept.refl _ _, fun _ _ _ _ _ => trivial⟩
    | 64, ho, hsk =>
      obtain rfl := Option.some.inj ho
      have e0 : a'.eval (.tmp 170) = .int .i64 0 := is_tq (hin 63 170 (by kernel_rfl) (by kernel_rfl)) rfl
      exact o_eql3 (.tmp 170) 0 rfl _ true (by simp) e0 ⟨_, rfl, tq_is _ _ _ _ rfl, Kept.refl _ _, fun _ _ _ _ _ => trivial⟩
    | 65, ho, hsk =>
      obtain rfl := Option.some.inj ho
      have e0 : a'.eval (.tmp 169) = .bool true := is_tq (hin 62 169 (by kernel_rfl) (by kernel_rfl)) rfl
      have e1 : a'.eval (.tmp 171) = .bool true := is_tq (hin 64 171 (by kernel_rfl) (by kernel_rfl)) rfl
      exact o_pick (.tmp 169) (.tmp 171) rfl _ e0 e1 ⟨_, rfl, tq_is _ _ _ _ rfl, Kept.refl _ _, fun _ _ _ _ _ => trivial⟩
    | 66, ho, hsk =>
      obtain rfl := Option.some.inj ho
      have e0 : a'.eval (.tmp 172) = .bool true := is_tq (hin 65 172 (by kernel_rfl) (by kernel_rfl)) rfl
      exact wp_move (.tmp 172) rfl _ e0 ⟨_, rfl, tq_is _ _ _ _ rfl, Kept.refl _ _, fun _ _ _ _ _ => trivial⟩
    | 67, ho, hsk =>
      obtain rfl := Option.some.inj ho
      exact wp_move (.tmp 26) rfl _ ((hout 26 (by kernel_rfl)).trans rfl) ⟨_, rfl, tq_is _ _ _ _ rfl, Kept.refl _ _, fun _ _ _ _ _ => trivial⟩
    | 68, ho, hsk =>
      obtain rfl := Option.some.inj ho
      have e0 : a'.eval (.tmp 174) = .bool false := is_tq (hin 67 174 (by kernel_rfl) (by kernel_rfl)) rfl
      exact o_not (.tmp 174) rfl false e0 ⟨_, rfl, tq_is _ _ _ _ rfl, Kept.refl _ _, fun _ _ _ _ _ => trivial⟩
    | 69, ho, hsk =>
      obtain rfl := Option.some.inj ho
      have e0 : a'.eval (.tmp 173) = .bool true := is_tq (hin 66 173 (by kernel_rfl) (by kernel_rfl)) rfl
      have e1 : a'.eval (.tmp 175) = .bool true := is_tq (hin 68 175 (by kernel_rfl) (by kernel_rfl)) rfl
      exact o_pick (.tmp 173) (.tmp 175) rfl _ e0 e1 ⟨_, rfl, tq_is _ _ _ _ rfl, Kept.refl _ _, fun _ _ _ _ _ => trivial⟩
    | 70, ho, hsk =>
      obtain rfl := Option.some.inj ho
      have e0 : a'.eval (.tmp 176) = .bool true := is_tq (hin 69 176 (by kernel_rfl) (by kernel_rfl)) rfl
      exact wp_move (.tmp 176) rfl _ e0 ⟨_, rfl, tq_is _ _ _ _ rfl, Kept.refl _ _, fun _ _ _ _ _ => trivial⟩
    | 71, ho, hsk =>
      obtain rfl := Option.some.inj ho
      exact wp_loadA row23 (.tmp 27) rfl b22 0 ((hout 27 (by kernel_rfl)).trans rfl) (le0.C) rfl (((unhide M).step hk2).at 5 _ rfl).range ⟨_, rfl, tq_is _ _ _ _ rfl, Kept.refl _ _, fun _ _ _ _ _ => trivial⟩
    | 72, ho, hsk =>
      obtain rfl := Option.some.inj ho
      exact o_bldZ23 rfl ⟨_, rfl, tq_is _ _ _ _ rfl, Kept.refl _ _, fun _ _ _ _ _ => trivial⟩
    | 73, ho, hsk =>
      obtain rfl := Option.some.inj ho
      have e0 : a'.eval (.tmp 178) = aggV le0.C := is_tq (hin 71 178 (by kernel_rfl) (by kernel_rfl)) rfl
      have e1 : a'.eval (.tmp 179) = aggV le0.C := is_tq (hin 72 179 (by kernel_rfl) (by kernel_rfl)) rfl
      exact o_eqlA 23 23 guard23 (.tmp 178) (.tmp 179) rfl le0.C le0.C e0 e1 true ((eqL23 _ _ _).trans (by simp)) ⟨_, rfl, tq_is _ _ _ _ rfl, Kept.refl _ _, fun _ _ _ _ _ => trivial⟩
    | 74, ho, hsk =>
      obtain rfl := Option.some.inj ho
      have e0 : a'.eval (.tmp 177) = .bool true := is_tq (hin 70 177 (by kernel_rfl) (by kernel_rfl)) rfl
      have e1 : a'.eval (.tmp 180) = .bool true := is_tq (hin 73 180 (by kernel_rfl) (by kernel_rfl)) rfl
      exact o_pick (.tmp 177) (.tmp 180) rfl _ e0 e1 ⟨_, rfl, tq_is _ _ _ _ rfl, Kept.refl _ _, fun _ _ _ _ _ => trivial⟩
    | 75, ho, hsk =>
      obtain rfl := Option.some.inj ho
      have e0 : a'.eval (.tmp 181) = .bool true := is_tq (hin 74 181 (by kernel_rfl) (by kernel_rfl)) rfl
      exact wp_move (.tmp 181) rfl _ e0 ⟨_, rfl, tq_is _ _ _ _ rfl, Kept.refl _ _, fun _ _ _ _ _ => trivial⟩
    | 76, ho, hsk =>
      obtain rfl := Option.some.inj ho
      exact wp_move (.tmp 30) rfl _ ((hout 30 (by kernel_rfl)).trans rfl) ⟨_, rfl, tq_is _ _ _ _ rfl, Kept.refl _ _, fun _ _ _ _ _ => trivial⟩
    | 77, ho, hsk =>
      obtain rfl := Option.some.inj ho
      have e0 : a'.eval (.tmp 183) = .int .i64 12 := is_tq (hin 76 183 (by kernel_rfl) (by kernel_rfl)) rfl
      refine wp_callF 11 _ _ rfl #[.int .i64 12] (by simp [e0]) (cg11 _ _) ((num11 _ _).mono ?_)
      rintro e w3 ⟨rfl, rfl⟩
      exact ⟨_, rfl, _, rfl, tq_is _ _ _ _ rfl, Kept.refl _ _, fun _ _ _ _ _ => trivial⟩
    | 78, ho, hsk =>
      obtain rfl := Option.some.inj ho
      have e0 : a'.eval (.tmp 184) = .int .i64 12 := is_tq (hin 77 184 (by kernel_rfl) (by kernel_rfl)) rfl
      exact o_eql3 (.tmp 184) 12 rfl _ true (by simp) e0 ⟨_, rfl, tq_is _ _ _ _ rfl, Kept.refl _ _, fun _ _ _ _ _ => trivial⟩
    | 79, ho, hsk =>
      obtain rfl := Option.some.inj ho
      have e0 : a'.eval (.tmp 182) = .bool true := is_tq (hin 75 182 (by kernel_rfl) (by kernel_rfl)) rfl
      have e1 : a'.eval (.tmp 185) = .bool true := is_tq (hin 78 185 (by kernel_rfl) (by kernel_rfl)) rfl
      exact o_pick (.tmp 182) (.tmp 185) rfl _ e0 e1 ⟨_, rfl, tq_is _ _ _ _ rfl, Kept.refl _ _, fun _ _ _ _ _ => trivial⟩
    | 80, ho, hsk =>
      obtain rfl := Option.some.inj ho
      have e0 : a'.eval (.tmp 186) = .bool true := is_tq (hin 79 186 (by kernel_rfl) (by kernel_rfl)) rfl
      exact wp_assignV (.tmp 186) rfl _ e0 ⟨_, rfl, tq_is _ _ _ _ rfl, Kept.refl _ _, fun _ _ _ _ _ => trivial⟩
  intro w9 hk9
  replace hk9 : Kept [] W24 w9 := ⟨hk9.os, hk9.tape, hk9.output, hk9.size, hk9.block⟩
  simp only [valsQ, List.map_cons, List.map_nil, Option.getD_some, List.take_succ_cons, List.take_zero, putAll, Act.put, List.setIfInBounds_toArray, List.set_cons_succ, List.set_cons_zero]
  go_wp2_with fail
  go_ret
  exact ⟨rfl, (unhide M).kept.trans hk9⟩
def q0 : Wt := ⟨3, 2, lk8⟩
def q1 : Wt := q0.put 1 ⟨true, kx, 0⟩
def q2 : Wt := q0.put 1 ⟨true, kx, 1⟩
def q3 : Wt := q0.put 1 ⟨true, kx, 2⟩
def q4 : Wt := q0.put 1 ⟨true, ky, 0⟩
def q5 : Wt := q4.put 2 ⟨true, kx, 0⟩
def q6 : Wt := q5.put 1 lk0
theorem q0_ok : q0.Ok 10 := (new_ok (n := 3) (p := 2) (by decide)).mono (by omega)
theorem q1_ok : q1.Ok 10 := put_ok q0_ok (by decide)
theorem q2_ok : q2.Ok 10 := put_ok q0_ok (by decide)
theorem q3_ok : q3.Ok 10 := put_ok q0_ok (by decide)
theorem q4_ok : q4.Ok 10 := put_ok q0_ok (by decide)
theorem q5_ok : q5.Ok 10 := put_ok q4_ok (by decide)
theorem q6_ok : q6.Ok 10 := put_ok q5_ok (by decide)
theorem known13 (w : World) : Calls Try.prog 13 #[] w fun e w' => e = .returned (.bool true) ∧ Kept [] w w' := by
  refine known_gen q0 q1 q2 q3 q4 q5 q6 w ?_ ?_ ?_ ?_ ?_ ?_ ?_ ?_ ?_ ?_ ?_ ?_ ?_ ?_ ?_ ?_ ?_
  · exact fun W => new_no 0 2 W (by decide)
  · exact fun W => new_no 3 0 W (by decide)
  · exact fun W => new_yes 3 2 W (by decide)
  · intro b W hB
    have := look21 q0 b 3 kx W hB q0_ok ⟨by omega, by omega⟩
    rw [show q0.look 3 kx = (q0, false, 2) by decide] at this
    exact this
  · intro b W hB
    have := look21 q0 b 1 km W hB q0_ok ⟨by omega, by omega⟩
    rw [show q0.look 1 km = (q0, false, 2) by decide] at this
    exact this
  · intro b W hB
    have := look21 q0 b 1 kx W hB q0_ok ⟨by omega, by omega⟩
    rw [show q0.look 1 kx = (q1, false, 0) by decide] at this
    exact this
  · intro b W hB
    have := look21 q1 b 1 kx W hB q1_ok ⟨by omega, by omega⟩
    rw [show q1.look 1 kx = (q2, false, 0) by decide] at this
    exact this
  · intro b W hB
    have := look21 q2 b 1 kx W hB q2_ok ⟨by omega, by omega⟩
    rw [show q2.look 1 kx = (q3, true, 0) by decide] at this
    exact this
  · intro b W hB
    have := sus28 q3 b W hB q3_ok
    rw [show q3.sus q3.n.toNat = [1] by decide] at this
    exact this
  · intro b W hB
    have := age22 q3 b 1 W hB q3_ok
    rw [show (q3.of 1).age = 2 by decide] at this
    exact this
  · intro b W hB
    have := look21 q3 b 1 ky W hB q3_ok ⟨by omega, by omega⟩
    rw [show q3.look 1 ky = (q4, false, 0) by decide] at this
    exact this
  · intro b W hB
    have := age22 q4 b 1 W hB q4_ok
    rw [show (q4.of 1).age = 0 by decide] at this
    exact this
  · intro b W hB
    have := look21 q4 b 2 kx W hB q4_ok ⟨by omega, by omega⟩
    rw [show q4.look 2 kx = (q5, false, 0) by decide] at this
    exact this
  · intro b W hB
    have := forget29 q5 b 1 W hB q5_ok
    rw [show q5.forget 1 = (q6, 0) by decide] at this
    exact this
  · intro b W hB
    have := said30 q6 b 1 W hB q6_ok
    rw [show q6.of 1 = lk0 by decide] at this
    exact this
  · intro W
    have := get9 (zs 64) W (zs_byts 64)
    rw [show getL (zs 64) = (le0, 0) by kernel_rfl] at this
    exact this
  · intro W
    have := get9 (209 :: zs 63) W ⟨by simp [zs], fun x hx => by simp [zs] at hx; omega⟩
    rw [show getL (209 :: zs 63) = (le0, 12) by kernel_rfl] at this
    exact this

end Go.Proofs.Ythidiolgngkffaa
