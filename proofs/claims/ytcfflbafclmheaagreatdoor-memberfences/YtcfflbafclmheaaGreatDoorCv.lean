/-
  The document's GetView.
-/
import Derived.Test.YtcfflbafclmheaaGreatDoorCt
import Derived.Test.YtcfflbafclmheaaGreatDoorCu

/-
  The document's GetView.
-/
namespace Go.Proofs.YtcfflbafclmheaaGreatDoor
set_option maxRecDepth 100000
set_option linter.unusedSimpArgs false
open Go.RowKit
open Le (Mm wpStoreM wpStoreM1)


theorem cg113 (vs : Array Value) (w : World) : (callFunc 113 vs).run Tryz.prog w = .ok (.enter 113 vs) w := by kernel_rfl
theorem cg50 (vs : Array Value) (w : World) : (callFunc 50 vs).run Tryz.prog w = .ok (.enter 50 vs) w := by kernel_rfl
theorem build29of (w : World) (o : Bool) (f : Int) : (Instr.build 29 #[(1, .bool o), (2, .int .i64 f)]).run Tryz.prog w = .ok (aggV (Vi.vwC ⟨0, o, f, Vi.no8⟩)) w := by kernel_rfl
theorem res49 (w : World) (z : Nat) (vs : List Value) (e : Bool) (tmps : Array Value) (h4 : tmps[2]?.getD undef = P0 z) (h5 : tmps[3]?.getD undef = .bool e) (hl : vs.length = 19) (hb : Blk w z 29 vs) : (results Tryz.f49 tmps).run Tryz.prog w = .ok (.tuple #[aggV vs, .bool e]) w := by
  have := loadV Vi.row26 hl hb
  simp [results, Tryz.results49, h4, h5, this, asAddr]
section
variable {ops : Array Oper} {rest : List Oper} {op o : Oper} {a : Act} {w w0 : World} {K : Act → World → Prop} {Q : Exit → Act → World → Prop}
theorem o_eql20 (x : Operand) (ho : o.op = .binOp .eql 2 x (.const (.int .i64 0)) 2) (m : Int) (r : Bool) (hr : decide (m = 0) = r) (hx : a.eval x = .int .i64 m) (h : K (a.put o.dst (.bool r)) w) : o.wp Tryz.prog a w K Q := by
  subst hr
  unfold Oper.wp execOp
  simp only [ho, hx]
  simp [go_sem, Act.eval]
  have e : (m == 0) = decide (m = 0) := by rw [Bool.eq_iff_iff]; simp
  rw [e]
  exact h
theorem wpEql5 (hgd : op.guard = none) (x : Operand) (ho : op.op = .binOp .eql 5 x (.const (.int .u8 1)) 5) (m : Int) (r : Bool) (hr : decide (m = 1) = r) (hx : a.eval x = .int .u8 m)
    (h : wpList Tryz.prog ops Q rest (a.put op.dst (.bool r)) w) : wpList Tryz.prog ops Q (op :: rest) a w := wpList_plain hgd fun _ hK => Vi.o_eql5 x ho m r hr hx (hK _ _ h)
theorem wpEql31 (hgd : op.guard = none) (x : Operand) (c : Int) (ho : op.op = .binOp .eql 3 x (.const (.int .i64 c)) 3) (m : Int) (r : Bool) (hr : decide (m = c) = r) (hx : a.eval x = .int .i64 m)
    (h : wpList Tryz.prog ops Q rest (a.put op.dst (.bool r)) w) : wpList Tryz.prog ops Q (op :: rest) a w := wpList_plain hgd fun _ hK => o_eql3 x c ho m r hr hx (hK _ _ h)
theorem wpQuo2 (hgd : op.guard = none) (x : Operand) (ho : op.op = .binOp .quo 3 x (.const (.int .i64 2)) 3) (m : Int) (hm : 0 ≤ m ∧ m ≤ 9223372036854775807) (hx : a.eval x = .int .i64 m)
    (h : wpList Tryz.prog ops Q rest (a.put op.dst (.int .i64 (m / 2))) w) : wpList Tryz.prog ops Q (op :: rest) a w :=
  wpList_plain hgd fun K hK => by
    have ht : Int.tdiv m 2 = m / 2 := Int.tdiv_eq_ediv_of_nonneg hm.1
    have hw : IntKind.i64.wrap (m / 2) = m / 2 := by rw [IntKind.wrap_i64]; omega
    unfold Oper.wp execOp
    simp only [ho, hx]
    simp [go_sem, Act.eval, ht, hw]
    exact hK _ _ h
end
theorem memsC_set2 : ∀ (l : List (Bool × Int)) (j : Nat) (a : Bool) (e : Int), j < l.length → ((Vi.memsC l).set (j * 2) (.bool a)).set (j * 2 + 1) (.int .i64 e) = Vi.memsC (l.set j (a, e))
  | m :: l, 0, a, e, _ => by simp [Vi.memsC, Vi.memC]
  | m :: l, j + 1, a, e, h => by
    have ih := memsC_set2 l j a e (by simpa using h)
    have e1 : Vi.memsC (m :: l) = .bool m.1 :: .int .i64 m.2 :: Vi.memsC l := rfl
    have e2 : Vi.memsC ((m :: l).set (j + 1) (a, e)) = .bool m.1 :: .int .i64 m.2 :: Vi.memsC (l.set j (a, e)) := rfl
    rw [e1, e2, ← ih, show (j + 1) * 2 = j * 2 + 1 + 1 by omega]
    rfl
theorem vwC_set2 (n : Int) (o : Bool) (f : Int) (l : List (Bool × Int)) (j : Nat) (a : Bool) (e : Int) (h : j < l.length) : ((Vi.vwC ⟨n, o, f, l⟩).set (3 + j * 2) (.bool a)).set (3 + j * 2 + 1) (.int .i64 e) = Vi.vwC ⟨n, o, f, l.set j (a, e)⟩ := by
  have ih := memsC_set2 l j a e h
  show _ = Value.int .i64 n :: .bool o :: .int .i64 f :: Vi.memsC (l.set j (a, e))
  rw [← ih, show 3 + j * 2 = j * 2 + 1 + 1 + 1 by omega]
  rfl
theorem build59z (w : World) : (Instr.build 59 #[]).run Tryz.prog w = .ok (aggV (u8s (Vi.zs 64))) w := by kernel_rfl
set_option maxHeartbeats 8000000 in
theorem gv_z (s : List Int) (w : World) (hsl : s.length = 64) (hz : decide (s = Vi.zs 64) = true) : Calls Tryz.prog 49 #[aggV (u8s s)] w fun x w' => x = .returned (.tuple #[aggV (Vi.vwC Vi.fv), .bool true]) ∧ Kept [] w w' := by
  have HSL := hide hsl
  have HZ := hide hz
  clear hz hsl
  go_enter Tryz.func49, Tryz.ntmps49
  have M : Hid (Mm [] w w []) := hide Mm.init
  go_wp2_with (
    first
    | (refine wpBoxV rfl (.tmp 0) rfl (u8s s) rfl ?_
       intro W1 b1 e1 B1 K1
       replace M : Hid (Mm [] w W1 [(b1, 59, u8s s)]) := hide ((unhide M).new e1 B1 K1)
       clear e1 B1 K1
       refine Stp.go ?_))
  constructor
  go_wp2_with (
    first
    | (refine wpAllocW (Vi.vwC Vi.zv) Vi.zero26 2 rfl rfl rfl ?_
       intro W2 b2 e2 B2 K2
       replace M : Hid (Mm [] w W2 [(b1, 59, u8s s), (b2, 29, Vi.vwC Vi.zv)]) := hide ((unhide M).new e2 B2 K2)
       clear e2 B2 K2
       refine Stp.go ?_))
  constructor
  go_wp2_with (
    first
    | (refine wpLoadA Vi.row28 rfl (.tmp 1) rfl b1 0 rfl (u8s s) (by rw [u8s_len]; exact unhide HSL) ((unhide M).at 0 _ rfl).range ?_
       refine Stp.go ?_))
  constructor
  go_wp2_with (
    first
    | (refine wpBuildZ (u8s (Vi.zs 64)) build59z rfl rfl ?_
       refine Stp.go ?_))
  constructor
  go_wp2_with (
    first
    | (refine wpEqlA 59 59 Vi.guard28 (.tmp 7) (.tmp 8) rfl rfl (u8s s) (u8s (Vi.zs 64)) rfl rfl true ((Vi.equal28 _ s (Vi.zs 64) (unhide HSL) rfl).trans (by rw [unhide HZ])) ?_
       refine Stp.go ?_))
  constructor
  go_wp2_with (
    first
    | (refine Ar.wpBuildP rfl #[(1, .const (.bool true))] rfl #[(1, .bool true)] (by simp [Act.eval]) (Vi.vwC Vi.fv) (build29f _) ?_
       refine Stp.go ?_))
  constructor
  go_wp2_with (
    first
    | (refine wpStoreM Vi.row26 rfl (.tmp 2) (.tmp 10) rfl rfl b2 1 (Vi.vwC Vi.fv) rfl rfl rfl (Vi.vwC_one _) (unhide M) rfl rfl ?_
       intro W3 N3
       replace M : Hid (Mm [] w W3 [(b1, 59, u8s s), (b2, 29, Vi.vwC Vi.fv)]) := hide N3
       clear N3
       refine Stp.go ?_))
  constructor
  go_wp2_with fail
  refine bodyPost_ret (res49 _ b2 (Vi.vwC Vi.fv) true _ rfl rfl rfl ((unhide M).at 1 _ rfl)) rfl ?_
  exact ⟨rfl, (unhide M).kept⟩
set_option maxHeartbeats 8000000 in
theorem gv_big (s : List Int) (w : World) (hs : Le.Byts 64 s) (hz : decide (s = Vi.zs 64) = false) (x1 x2 x3 x4 : Int) (H1 : Hid ((u8s s)[1]? = some (.int .u8 x1))) (H2 : Hid ((u8s s)[2]? = some (.int .u8 x2))) (_H3 : Hid ((u8s s)[3]? = some (.int .u8 x3))) (H4 : Hid ((u8s s)[4]? = some (.int .u8 x4))) (o1 : Bool) (ho1 : decide (x1 = 1) = o1) (hb2 : 0 ≤ x2 ∧ x2 < 256) (hx4 : decide (64 < x4) = true) : Calls Tryz.prog 49 #[aggV (u8s s)] w fun x w' => x = .returned (.tuple #[aggV (Vi.vwC Vi.zv), .bool false]) ∧ Kept [] w w' := by
  have HSL := hide hs.len
  have HSS := hide hs
  have HZ := hide hz
  have HO := hide ho1
  clear hz ho1 hs
  obtain ⟨hb20, hb21⟩ := hb2
  go_enter Tryz.func49, Tryz.ntmps49
  have M : Hid (Mm [] w w []) := hide Mm.init
  go_wp2_with (
    first
    | (refine wpBoxV rfl (.tmp 0) rfl (u8s s) rfl ?_
       intro W1 b1 e1 B1 K1
       replace M : Hid (Mm [] w W1 [(b1, 59, u8s s)]) := hide ((unhide M).new e1 B1 K1)
       clear e1 B1 K1
       refine Stp.go ?_))
  constructor
  go_wp2_with (
    first
    | (refine wpAllocW (Vi.vwC Vi.zv) Vi.zero26 2 rfl rfl rfl ?_
       intro W2 b2 e2 B2 K2
       replace M : Hid (Mm [] w W2 [(b1, 59, u8s s), (b2, 29, Vi.vwC Vi.zv)]) := hide ((unhide M).new e2 B2 K2)
       clear e2 B2 K2
       refine Stp.go ?_))
  constructor
  go_wp2_with (
    first
    | (refine wpLoadA Vi.row28 rfl (.tmp 1) rfl b1 0 rfl (u8s s) (by rw [u8s_len]; exact unhide HSL) ((unhide M).at 0 _ rfl).range ?_
       refine Stp.go ?_))
  constructor
  go_wp2_with (
    first
    | (refine wpBuildZ (u8s (Vi.zs 64)) build59z rfl rfl ?_
       refine Stp.go ?_))
  constructor
  go_wp2_with (
    first
    | (refine wpEqlA 59 59 Vi.guard28 (.tmp 7) (.tmp 8) rfl rfl (u8s s) (u8s (Vi.zs 64)) rfl rfl false ((Vi.equal28 _ s (Vi.zs 64) (unhide HSL) rfl).trans (by rw [unhide HZ])) ?_
       have c1 := fits_cell ((unhide M).at 0 _ rfl) 1 _ (unhide H1)
       have c2 := fits_cell ((unhide M).at 0 _ rfl) 2 _ (unhide H2)
       refine Stp.go ?_))
  constructor
  go_wp2_with (
    first
    | (refine wpEql5 rfl (.tmp 12) rfl x1 o1 (unhide HO) rfl ?_
       refine Stp.go ?_))
  constructor
  go_wp2_with (
    first
    | (refine Ar.wpBuildP rfl #[(1, .tmp 13), (2, .tmp 16)] rfl #[(1, .bool o1), (2, .int .i64 x2)] (by simp [Act.eval]) (Vi.vwC ⟨0, o1, x2, Vi.no8⟩) (build29of _ _ _) ?_
       refine Stp.go ?_))
  constructor
  go_wp2_with (
    first
    | (refine wpNew Vi.row26 (Vi.vwC Vi.zv) rfl Vi.zero26 4 rfl rfl rfl (.tmp 17) rfl rfl rfl (Vi.vwC ⟨0, o1, x2, Vi.no8⟩) rfl (Vi.vwC_one _) (by kernel_rfl) (by kernel_rfl) ?_
       intro W3 b3 e3 B3 K3
       replace M : Hid (Mm [] w W3 [(b1, 59, u8s s), (b2, 29, Vi.vwC Vi.zv), (b3, 29, Vi.vwC ⟨0, o1, x2, Vi.no8⟩)]) := hide ((unhide M).new e3 B3 K3)
       clear e3 B3 K3
       clear c1 c2
       have c4 := fits_cell ((unhide M).at 0 _ rfl) 4 _ (unhide H4)
       refine Stp.go ?_))
  constructor
  go_wp2_with (
    first
    | (refine wpBuildZ (Vi.vwC Vi.zv) Vi.build26 rfl rfl ?_
       refine Stp.go ?_))
  constructor
  go_wp2_with (
    first
    | (refine wpStoreM Vi.row26 rfl (.tmp 2) (.tmp 21) rfl rfl b2 1 (Vi.vwC Vi.zv) rfl rfl rfl (Vi.vwC_one _) (unhide M) rfl rfl ?_
       intro W4 N4
       replace M : Hid (Mm [] w W4 [(b1, 59, u8s s), (b2, 29, Vi.vwC Vi.zv), (b3, 29, Vi.vwC ⟨0, o1, x2, Vi.no8⟩)]) := hide N4
       clear N4
       refine Stp.go ?_))
  constructor
  go_wp2_with fail
  refine bodyPost_ret (res49 _ b2 (Vi.vwC Vi.zv) false _ rfl rfl rfl ((unhide M).at 1 _ rfl)) rfl ?_
  exact ⟨rfl, (unhide M).kept⟩
set_option maxHeartbeats 8000000 in
theorem gv_a (s : List Int) (w : World) (hs : Le.Byts 64 s) (hz : decide (s = Vi.zs 64) = false) (x1 x2 x3 x4 : Int) (H1 : Hid ((u8s s)[1]? = some (.int .u8 x1))) (H2 : Hid ((u8s s)[2]? = some (.int .u8 x2))) (H3 : Hid ((u8s s)[3]? = some (.int .u8 x3))) (H4 : Hid ((u8s s)[4]? = some (.int .u8 x4))) (o1 : Bool) (ho1 : decide (x1 = 1) = o1) (hb2 : 0 ≤ x2 ∧ x2 < 256) (hx4 : decide (64 < x4) = false) (hb3 : 0 ≤ x3 ∧ x3 < 256) (V : Vi.Vw) (hV : ⟨Le.ofB 0 ((s.drop 4).take 8), o1, x2, (List.range 8).map (Vi.memV s)⟩ = V) (hme : ∀ i, Vi.memV s i = (decide (x3 / 2 ^ i % 2 = 1), Le.ofB 0 ((s.drop (12 + 4 * i)).take 4))) (hm : V.may = false) : Calls Tryz.prog 49 #[aggV (u8s s)] w fun x w' => x = .returned (.tuple #[aggV (Vi.vwC Vi.zv), .bool false]) ∧ Kept [] w w' := by
  have HSL := hide hs.len
  have HSS := hide hs
  have HZ := hide hz
  have HO := hide ho1
  clear hz ho1 hs
  obtain ⟨hb20, hb21⟩ := hb2
  have HME := hide hme
  have HVV := hide hV
  have HVL : Hid ((Vi.vwC V).length = 19) := by show _ = _; rw [← hV]; exact Vi.vwC_len (by simp)
  have hvl : V.ms.length = 8 := by rw [← hV]; simp
  have PM := hide (fun W => Vi.rmay50 V W hvl)
  rw [hm] at PM
  clear hme hV hm hvl
  obtain ⟨hb30, hb31⟩ := hb3
  go_enter Tryz.func49, Tryz.ntmps49
  have M : Hid (Mm [] w w []) := hide Mm.init
  go_wp2_with (
    first
    | (refine wpBoxV rfl (.tmp 0) rfl (u8s s) rfl ?_
       intro W1 b1 e1 B1 K1
       replace M : Hid (Mm [] w W1 [(b1, 59, u8s s)]) := hide ((unhide M).new e1 B1 K1)
       clear e1 B1 K1
       refine Stp.go ?_))
  constructor
  go_wp2_with (
    first
    | (refine wpAllocW (Vi.vwC Vi.zv) Vi.zero26 2 rfl rfl rfl ?_
       intro W2 b2 e2 B2 K2
       replace M : Hid (Mm [] w W2 [(b1, 59, u8s s), (b2, 29, Vi.vwC Vi.zv)]) := hide ((unhide M).new e2 B2 K2)
       clear e2 B2 K2
       refine Stp.go ?_))
  constructor
  go_wp2_with (
    first
    | (refine wpLoadA Vi.row28 rfl (.tmp 1) rfl b1 0 rfl (u8s s) (by rw [u8s_len]; exact unhide HSL) ((unhide M).at 0 _ rfl).range ?_
       refine Stp.go ?_))
  constructor
  go_wp2_with (
    first
    | (refine wpBuildZ (u8s (Vi.zs 64)) build59z rfl rfl ?_
       refine Stp.go ?_))
  constructor
  go_wp2_with (
    first
    | (refine wpEqlA 59 59 Vi.guard28 (.tmp 7) (.tmp 8) rfl rfl (u8s s) (u8s (Vi.zs 64)) rfl rfl false ((Vi.equal28 _ s (Vi.zs 64) (unhide HSL) rfl).trans (by rw [unhide HZ])) ?_
       have c1 := fits_cell ((unhide M).at 0 _ rfl) 1 _ (unhide H1)
       have c2 := fits_cell ((unhide M).at 0 _ rfl) 2 _ (unhide H2)
       refine Stp.go ?_))
  constructor
  go_wp2_with (
    first
    | (refine wpEql5 rfl (.tmp 12) rfl x1 o1 (unhide HO) rfl ?_
       refine Stp.go ?_))
  constructor
  go_wp2_with (
    first
    | (refine Ar.wpBuildP rfl #[(1, .tmp 13), (2, .tmp 16)] rfl #[(1, .bool o1), (2, .int .i64 x2)] (by simp [Act.eval]) (Vi.vwC ⟨0, o1, x2, Vi.no8⟩) (build29of _ _ _) ?_
       refine Stp.go ?_))
  constructor
  go_wp2_with (
    first
    | (refine wpNew Vi.row26 (Vi.vwC Vi.zv) rfl Vi.zero26 4 rfl rfl rfl (.tmp 17) rfl rfl rfl (Vi.vwC ⟨0, o1, x2, Vi.no8⟩) rfl (Vi.vwC_one _) (by kernel_rfl) (by kernel_rfl) ?_
       intro W3 b3 e3 B3 K3
       replace M : Hid (Mm [] w W3 [(b1, 59, u8s s), (b2, 29, Vi.vwC Vi.zv), (b3, 29, Vi.vwC ⟨0, o1, x2, Vi.no8⟩)]) := hide ((unhide M).new e3 B3 K3)
       clear e3 B3 K3
       clear c1 c2
       have c4 := fits_cell ((unhide M).at 0 _ rfl) 4 _ (unhide H4)
       refine Stp.go ?_))
  constructor
  go_wp2_with (
    first
    | (refine wpLoadA Vi.row28 rfl (.tmp 1) rfl b1 0 rfl (u8s s) (by rw [u8s_len]; exact unhide HSL) ((unhide M).at 0 _ rfl).range ?_
       refine Stp.go ?_))
  constructor
  go_wp2_with (
    first
    | (go_at_call 112
       refine (Le.said112 8 4 s _ (unhide HSS) (by omega)).mono ?_
       rintro e W4 ⟨rfl, K4⟩
       replace M : Hid (Mm [] w W4 [(b1, 59, u8s s), (b2, 29, Vi.vwC Vi.zv), (b3, 29, Vi.vwC ⟨0, o1, x2, Vi.no8⟩)]) := hide ((unhide M).step K4)
       clear K4 c4
       refine Stp.go ?_))
  constructor
  go_wp2_with (
    first
    | (refine wpStoreM1 Le.size2 rfl (.tmp 24) (.tmp 23) rfl rfl b3 0 2 (.int .i64 (Le.ofB 0 ((s.drop 4).take 8))) ⟨rfl, rfl⟩ rfl rfl (unhide M) rfl (by simp [Vi.vwC]) ?_
       intro W5 N5
       replace M : Hid (Mm [] w W5 [(b1, 59, u8s s), (b2, 29, Vi.vwC Vi.zv), (b3, 29, Vi.vwC ⟨Le.ofB 0 ((s.drop 4).take 8), o1, x2, ((List.range 8).map (Vi.memV s)).take (0) ++ Vi.no8.drop (0)⟩)]) := hide N5
       clear N5
       have c3 := fits_cell ((unhide M).at 0 _ rfl) 3 _ (unhide H3)
       refine Stp.go ?_))
  constructor
  go_wp2_with fail
  clear c3
  go_loopw [5, 6] (fun xb xn wr => ∃ j : Nat, j ≤ 8 ∧ xb = .int .i64 (x3 / 2 ^ j) ∧ xn = .int .i64 j ∧ Hid (Mm [] w wr [(b1, 59, u8s s), (b2, 29, Vi.vwC Vi.zv), (b3, 29, Vi.vwC ⟨Le.ofB 0 ((s.drop 4).take 8), o1, x2, ((List.range 8).map (Vi.memV s)).take (j) ++ Vi.no8.drop (j)⟩)])) (fun _ i _ => (8 - intOf i).toNat)
  case atStart => exact ⟨0, by omega, by simp, rfl, M⟩
  case round =>
    clear M
    obtain ⟨j, hj, rfl, rfl, M⟩ := hrel
    by_cases hlt : j < 8
    · have hd : decide ((j : Int) < 8) = true := by simp; omega
      have hj8 : (j : Int) < 8 := by omega
      have HLT := hide hlt
      have HFL : Hid ((((List.range 8).map (Vi.memV s)).take (j) ++ Vi.no8.drop (j)).length = 8) := by show _ = _; simp [Vi.no8]; omega
      obtain ⟨y, hy⟩ : ∃ y, y = x3 / 2 ^ j := ⟨_, rfl⟩
      have hy0 : 0 ≤ y ∧ y ≤ 255 := by
        rw [hy]
        have h1 : (0 : Int) < 2 ^ j := Int.pow_pos (by omega)
        have h2 := Int.ediv_le_self (2 ^ j) hb30
        exact ⟨Int.ediv_nonneg hb30 (by omega), by omega⟩
      have HY : Hid (0 ≤ y ∧ y ≤ 9223372036854775807) := by show _ ∧ _; omega
      have HYN : Hid (x3 / 2 ^ (j + 1) = y / 2) := by show _ = _; rw [hy, Int.pow_succ, Int.ediv_ediv_of_nonneg (by exact Int.le_of_lt (Int.pow_pos (by omega)))]
      have HMJ : Hid (Vi.memV s j = (decide (y % 2 = 1), Le.ofB 0 ((s.drop (12 + 4 * j)).take 4))) := by show _ = _; rw [hy]; exact unhide HME j
      rw [← hy]
      obtain ⟨L, hL⟩ : ∃ L, L = ((List.range 8).map (Vi.memV s)).take (j) ++ Vi.no8.drop (j) := ⟨_, rfl⟩
      have HLL := hide hL
      rw [← hL] at M HFL
      clear hy hy0 hL
      obtain ⟨bb, hbb⟩ : ∃ bb, decide (y % 2 = 1) = bb := ⟨_, rfl⟩
      have HBB := hide hbb
      clear hbb
      have HO12 : Hid (12 + 4 * j + 4 ≤ 64) := by show _ ≤ _; omega
      go_wp2_with (
        first
        | (refine Vi.wpRemI rfl (.tmp 33) (.const (.int .i64 2)) rfl y 2 (y % 2) rfl (unhide HY) (by omega) rfl rfl ?_
           refine Stp.go ?_))
      constructor
      go_wp2_with (
        first
        | (refine wpEql31 rfl (.tmp 34) 1 rfl (y % 2) bb (unhide HBB) rfl ?_
           refine Stp.go ?_))
      constructor
      go_wp2_with (
        first
        | (refine wpStoreM1 Le.size4 rfl (.tmp 38) (.tmp 35) rfl rfl b3 (3 + j * 2) 2 (.bool bb) ⟨rfl, rfl⟩ rfl rfl (unhide M) rfl (by rw [Vi.vwC_len (unhide HFL)]; have := unhide HLT; omega) ?_
           intro W61 N61
           replace M : Hid (Mm [] w W61 [(b1, 59, u8s s), (b2, 29, Vi.vwC Vi.zv), (b3, 29, (Vi.vwC ⟨Le.ofB 0 ((s.drop 4).take 8), o1, x2, L⟩).set (3 + j * 2) (.bool bb))]) := hide N61
           clear N61
           refine Stp.go ?_))
      constructor
      go_wp2_with (
        first
        | (refine wpLoadA Vi.row28 rfl (.tmp 1) rfl b1 0 rfl (u8s s) (by rw [u8s_len]; exact unhide HSL) ((unhide M).at 0 _ rfl).range ?_
           refine Stp.go ?_))
      constructor
      go_wp2_with (
        first
        | (go_at_call 112
           refine (Le.said112 4 (12 + 4 * j) s _ (unhide HSS) (unhide HO12)).mono ?_
           rintro e W62 ⟨rfl, K62⟩
           replace M : Hid (Mm [] w W62 [(b1, 59, u8s s), (b2, 29, Vi.vwC Vi.zv), (b3, 29, (Vi.vwC ⟨Le.ofB 0 ((s.drop 4).take 8), o1, x2, L⟩).set (3 + j * 2) (.bool bb))]) := hide ((unhide M).step K62)
           clear K62
           refine Stp.go ?_))
      constructor
      go_wp2_with (
        first
        | (refine wpStoreM1 Le.size2 rfl (.tmp 47) (.tmp 44) rfl rfl b3 (3 + j * 2 + 1) 2 (.int .i64 (Le.ofB 0 ((s.drop (12 + 4 * j)).take 4))) ⟨rfl, rfl⟩ rfl rfl (unhide M) rfl (by rw [List.length_set, Vi.vwC_len (unhide HFL)]; have := unhide HLT; omega) ?_
           intro W63 N63
           replace M : Hid (Mm [] w W63 [(b1, 59, u8s s), (b2, 29, Vi.vwC Vi.zv), (b3, 29, Vi.vwC ⟨Le.ofB 0 ((s.drop 4).take 8), o1, x2, ((List.range 8).map (Vi.memV s)).take (j + 1) ++ Vi.no8.drop (j + 1)⟩)]) := by
             have h9 : Mm [] w W63 [(b1, 59, u8s s), (b2, 29, Vi.vwC Vi.zv), (b3, 29, ((Vi.vwC ⟨Le.ofB 0 ((s.drop 4).take 8), o1, x2, L⟩).set (3 + j * 2) (.bool bb)).set (3 + j * 2 + 1) (.int .i64 (Le.ofB 0 ((s.drop (12 + 4 * j)).take 4))))] := N63
             rw [vwC_set2 _ _ _ _ _ _ _ (by rw [unhide HFL]; exact unhide HLT), ← unhide HBB, ← unhide HMJ, unhide HLL, Vi.fill_next s j (unhide HLT)] at h9
             exact h9
           clear N63
           refine Stp.go ?_))
      constructor
      go_wp2_with (
        first
        | (refine wpQuo2 rfl (.tmp 48) rfl y (unhide HY) rfl ?_
           refine Stp.go ?_))
      constructor
      go_wp2_with fail
      go_roundw
      case rel => exact ⟨j + 1, by omega, by rw [unhide HYN], by first | rfl | go_num, M⟩
      case measure => simp [intOf]; omega
    · obtain rfl : j = 8 := by omega
      have h9 := unhide M
      rw [show ((List.range 8).map (Vi.memV s)).take (8) ++ Vi.no8.drop (8) = (List.range 8).map (Vi.memV s) by rfl, unhide HVV] at h9
      replace M := hide h9
      clear h9
      go_wp2_with fail
      refine wp_region_any mixed (wpAny_tq 14 rfl (by kernel_rfl) [some (aggV (Vi.vwC V)), some (.bool false), some (.bool true), some (.bool true), none, none, none, some (.bool true), some (.bool true), none, none, none, none, some (.bool true)] rfl (by kernel_rfl) (by kernel_rfl) ?_ ?_)
      · intro i o' hi hsk ho a' w2 hout hin hk2
        replace hk2 : Kept [] wr w2 := ⟨hk2.os, hk2.tape, hk2.output, hk2.size, hk2.block⟩
        match i, ho, hsk with
        | 0, ho, hsk =>
          obtain rfl := Option.some.inj ho
          exact wp_loadA Vi.row26 (.tmp 4) rfl b3 0 ((hout 4 (by kernel_rfl)).trans rfl) (Vi.vwC V) (unhide HVL) (((unhide M).step hk2).at 2 _ rfl).range ⟨_, rfl, tq_is _ _ _ _ rfl, Kept.refl _ _, fun _ _ _ _ _ => trivial⟩
        | 1, ho, hsk =>
          obtain rfl := Option.some.inj ho
          have e0 : a'.eval (.tmp 50) = aggV (Vi.vwC V) := is_tq (hin 0 50 (by kernel_rfl) (by kernel_rfl)) rfl
          refine wp_callF 50 _ _ rfl #[aggV (Vi.vwC V)] (by simp [e0]) (cg50 _ _) ((unhide PM _).mono ?_)
          rintro e w3 ⟨rfl, hk3⟩
          exact ⟨_, rfl, _, rfl, tq_is _ _ _ _ rfl, hk3, fun _ _ _ _ _ => trivial⟩
        | 2, ho, hsk =>
          obtain rfl := Option.some.inj ho
          have e0 : a'.eval (.tmp 51) = .bool false := is_tq (hin 1 51 (by kernel_rfl) (by kernel_rfl)) rfl
          exact o_not (.tmp 51) rfl false e0 ⟨_, rfl, tq_is _ _ _ _ rfl, Kept.refl _ _, fun _ _ _ _ _ => trivial⟩
        | 3, ho, hsk =>
          obtain rfl := Option.some.inj ho
          have e0 : a'.eval (.tmp 52) = .bool true := is_tq (hin 2 52 (by kernel_rfl) (by kernel_rfl)) rfl
          exact wp_move (.tmp 52) rfl _ e0 ⟨_, rfl, tq_is _ _ _ _ rfl, Kept.refl _ _, fun _ _ _ _ _ => trivial⟩
        | 4, ho, hsk =>
          cases hsk
        | 5, ho, hsk =>
          cases hsk
        | 6, ho, hsk =>
          cases hsk
        | 7, ho, hsk =>
          obtain rfl := Option.some.inj ho
          have e0 : a'.eval (.tmp 53) = .bool true := is_tq (hin 3 53 (by kernel_rfl) (by kernel_rfl)) rfl
          exact o_pickOrT (.tmp 53) (.tmp 56) rfl e0 ⟨_, rfl, tq_is _ _ _ _ rfl, Kept.refl _ _, fun _ _ _ _ _ => trivial⟩
        | 8, ho, hsk =>
          obtain rfl := Option.some.inj ho
          have e0 : a'.eval (.tmp 57) = .bool true := is_tq (hin 7 57 (by kernel_rfl) (by kernel_rfl)) rfl
          exact wp_move (.tmp 57) rfl _ e0 ⟨_, rfl, tq_is _ _ _ _ rfl, Kept.refl _ _, fun _ _ _ _ _ => trivial⟩
        | 9, ho, hsk =>
          cases hsk
        | 10, ho, hsk =>
          cases hsk
        | 11, ho, hsk =>
          cases hsk
        | 12, ho, hsk =>
          cases hsk
        | 13, ho, hsk =>
          obtain rfl := Option.some.inj ho
          have e0 : a'.eval (.tmp 58) = .bool true := is_tq (hin 8 58 (by kernel_rfl) (by kernel_rfl)) rfl
          exact o_pickOrT (.tmp 58) (.tmp 62) rfl e0 ⟨_, rfl, tq_is _ _ _ _ rfl, Kept.refl _ _, fun _ _ _ _ _ => trivial⟩
      intro w9 hk9
      replace hk9 : Kept [] wr w9 := ⟨hk9.os, hk9.tape, hk9.output, hk9.size, hk9.block⟩
      simp only [valsQ, List.map_cons, List.map_nil, Option.getD_some, Option.getD_none, List.take_succ_cons, List.take_zero, putAll, Act.put, List.setIfInBounds_toArray, List.set_cons_succ, List.set_cons_zero]
      refine wpAny_done (by kernel_rfl) ?_ _
      replace M : Hid (Mm [] w w9 [(b1, 59, u8s s), (b2, 29, Vi.vwC Vi.zv), (b3, 29, Vi.vwC V)]) := hide ((unhide M).step hk9)
      clear hk9
      go_wp2_with (
        first
        | (refine wpBuildZ (Vi.vwC Vi.zv) Vi.build26 rfl rfl ?_
           refine Stp.go ?_))
      constructor
      go_wp2_with (
        first
        | (refine wpStoreM Vi.row26 rfl (.tmp 2) (.tmp 64) rfl rfl b2 1 (Vi.vwC Vi.zv) rfl rfl rfl (Vi.vwC_one _) (unhide M) rfl rfl ?_
           intro W71 N71
           replace M : Hid (Mm [] w W71 [(b1, 59, u8s s), (b2, 29, Vi.vwC Vi.zv), (b3, 29, Vi.vwC V)]) := hide N71
           clear N71
           refine Stp.go ?_))
      constructor
      go_wp2_with fail
      refine bodyPost_ret (res49 _ b2 (Vi.vwC Vi.zv) false _ rfl rfl rfl ((unhide M).at 1 _ rfl)) rfl ?_
      exact ⟨rfl, (unhide M).kept⟩
set_option maxHeartbeats 8000000 in
theorem gv_b (s : List Int) (w : World) (hs : Le.Byts 64 s) (hz : decide (s = Vi.zs 64) = false) (x1 x2 x3 x4 : Int) (H1 : Hid ((u8s s)[1]? = some (.int .u8 x1))) (H2 : Hid ((u8s s)[2]? = some (.int .u8 x2))) (H3 : Hid ((u8s s)[3]? = some (.int .u8 x3))) (H4 : Hid ((u8s s)[4]? = some (.int .u8 x4))) (o1 : Bool) (ho1 : decide (x1 = 1) = o1) (hb2 : 0 ≤ x2 ∧ x2 < 256) (hx4 : decide (64 < x4) = false) (hb3 : 0 ≤ x3 ∧ x3 < 256) (V : Vi.Vw) (hV : ⟨Le.ofB 0 ((s.drop 4).take 8), o1, x2, (List.range 8).map (Vi.memV s)⟩ = V) (hme : ∀ i, Vi.memV s i = (decide (x3 / 2 ^ i % 2 = 1), Le.ofB 0 ((s.drop (12 + 4 * i)).take 4))) (hm : V.may = true) (hn : decide (V.nu = 0) = true) : Calls Tryz.prog 49 #[aggV (u8s s)] w fun x w' => x = .returned (.tuple #[aggV (Vi.vwC Vi.zv), .bool false]) ∧ Kept [] w w' := by
  have HSL := hide hs.len
  have HSS := hide hs
  have HZ := hide hz
  have HO := hide ho1
  clear hz ho1 hs
  obtain ⟨hb20, hb21⟩ := hb2
  have HME := hide hme
  have HVV := hide hV
  have HVL : Hid ((Vi.vwC V).length = 19) := by show _ = _; rw [← hV]; exact Vi.vwC_len (by simp)
  have hvl : V.ms.length = 8 := by rw [← hV]; simp
  have PM := hide (fun W => Vi.rmay50 V W hvl)
  rw [hm] at PM
  have HN := hide hn
  clear hn
  clear hme hV hm hvl
  obtain ⟨hb30, hb31⟩ := hb3
  go_enter Tryz.func49, Tryz.ntmps49
  have M : Hid (Mm [] w w []) := hide Mm.init
  go_wp2_with (
    first
    | (refine wpBoxV rfl (.tmp 0) rfl (u8s s) rfl ?_
       intro W1 b1 e1 B1 K1
       replace M : Hid (Mm [] w W1 [(b1, 59, u8s s)]) := hide ((unhide M).new e1 B1 K1)
       clear e1 B1 K1
       refine Stp.go ?_))
  constructor
  go_wp2_with (
    first
    | (refine wpAllocW (Vi.vwC Vi.zv) Vi.zero26 2 rfl rfl rfl ?_
       intro W2 b2 e2 B2 K2
       replace M : Hid (Mm [] w W2 [(b1, 59, u8s s), (b2, 29, Vi.vwC Vi.zv)]) := hide ((unhide M).new e2 B2 K2)
       clear e2 B2 K2
       refine Stp.go ?_))
  constructor
  go_wp2_with (
    first
    | (refine wpLoadA Vi.row28 rfl (.tmp 1) rfl b1 0 rfl (u8s s) (by rw [u8s_len]; exact unhide HSL) ((unhide M).at 0 _ rfl).range ?_
       refine Stp.go ?_))
  constructor
  go_wp2_with (
    first
    | (refine wpBuildZ (u8s (Vi.zs 64)) build59z rfl rfl ?_
       refine Stp.go ?_))
  constructor
  go_wp2_with (
    first
    | (refine wpEqlA 59 59 Vi.guard28 (.tmp 7) (.tmp 8) rfl rfl (u8s s) (u8s (Vi.zs 64)) rfl rfl false ((Vi.equal28 _ s (Vi.zs 64) (unhide HSL) rfl).trans (by rw [unhide HZ])) ?_
       have c1 := fits_cell ((unhide M).at 0 _ rfl) 1 _ (unhide H1)
       have c2 := fits_cell ((unhide M).at 0 _ rfl) 2 _ (unhide H2)
       refine Stp.go ?_))
  constructor
  go_wp2_with (
    first
    | (refine wpEql5 rfl (.tmp 12) rfl x1 o1 (unhide HO) rfl ?_
       refine Stp.go ?_))
  constructor
  go_wp2_with (
    first
    | (refine Ar.wpBuildP rfl #[(1, .tmp 13), (2, .tmp 16)] rfl #[(1, .bool o1), (2, .int .i64 x2)] (by simp [Act.eval]) (Vi.vwC ⟨0, o1, x2, Vi.no8⟩) (build29of _ _ _) ?_
       refine Stp.go ?_))
  constructor
  go_wp2_with (
    first
    | (refine wpNew Vi.row26 (Vi.vwC Vi.zv) rfl Vi.zero26 4 rfl rfl rfl (.tmp 17) rfl rfl rfl (Vi.vwC ⟨0, o1, x2, Vi.no8⟩) rfl (Vi.vwC_one _) (by kernel_rfl) (by kernel_rfl) ?_
       intro W3 b3 e3 B3 K3
       replace M : Hid (Mm [] w W3 [(b1, 59, u8s s), (b2, 29, Vi.vwC Vi.zv), (b3, 29, Vi.vwC ⟨0, o1, x2, Vi.no8⟩)]) := hide ((unhide M).new e3 B3 K3)
       clear e3 B3 K3
       clear c1 c2
       have c4 := fits_cell ((unhide M).at 0 _ rfl) 4 _ (unhide H4)
       refine Stp.go ?_))
  constructor
  go_wp2_with (
    first
    | (refine wpLoadA Vi.row28 rfl (.tmp 1) rfl b1 0 rfl (u8s s) (by rw [u8s_len]; exact unhide HSL) ((unhide M).at 0 _ rfl).range ?_
       refine Stp.go ?_))
  constructor
  go_wp2_with (
    first
    | (go_at_call 112
       refine (Le.said112 8 4 s _ (unhide HSS) (by omega)).mono ?_
       rintro e W4 ⟨rfl, K4⟩
       replace M : Hid (Mm [] w W4 [(b1, 59, u8s s), (b2, 29, Vi.vwC Vi.zv), (b3, 29, Vi.vwC ⟨0, o1, x2, Vi.no8⟩)]) := hide ((unhide M).step K4)
       clear K4 c4
       refine Stp.go ?_))
  constructor
  go_wp2_with (
    first
    | (refine wpStoreM1 Le.size2 rfl (.tmp 24) (.tmp 23) rfl rfl b3 0 2 (.int .i64 (Le.ofB 0 ((s.drop 4).take 8))) ⟨rfl, rfl⟩ rfl rfl (unhide M) rfl (by simp [Vi.vwC]) ?_
       intro W5 N5
       replace M : Hid (Mm [] w W5 [(b1, 59, u8s s), (b2, 29, Vi.vwC Vi.zv), (b3, 29, Vi.vwC ⟨Le.ofB 0 ((s.drop 4).take 8), o1, x2, ((List.range 8).map (Vi.memV s)).take (0) ++ Vi.no8.drop (0)⟩)]) := hide N5
       clear N5
       have c3 := fits_cell ((unhide M).at 0 _ rfl) 3 _ (unhide H3)
       refine Stp.go ?_))
  constructor
  go_wp2_with fail
  clear c3
  go_loopw [5, 6] (fun xb xn wr => ∃ j : Nat, j ≤ 8 ∧ xb = .int .i64 (x3 / 2 ^ j) ∧ xn = .int .i64 j ∧ Hid (Mm [] w wr [(b1, 59, u8s s), (b2, 29, Vi.vwC Vi.zv), (b3, 29, Vi.vwC ⟨Le.ofB 0 ((s.drop 4).take 8), o1, x2, ((List.range 8).map (Vi.memV s)).take (j) ++ Vi.no8.drop (j)⟩)])) (fun _ i _ => (8 - intOf i).toNat)
  case atStart => exact ⟨0, by omega, by simp, rfl, M⟩
  case round =>
    clear M
    obtain ⟨j, hj, rfl, rfl, M⟩ := hrel
    by_cases hlt : j < 8
    · have hd : decide ((j : Int) < 8) = true := by simp; omega
      have hj8 : (j : Int) < 8 := by omega
      have HLT := hide hlt
      have HFL : Hid ((((List.range 8).map (Vi.memV s)).take (j) ++ Vi.no8.drop (j)).length = 8) := by show _ = _; simp [Vi.no8]; omega
      obtain ⟨y, hy⟩ : ∃ y, y = x3 / 2 ^ j := ⟨_, rfl⟩
      have hy0 : 0 ≤ y ∧ y ≤ 255 := by
        rw [hy]
        have h1 : (0 : Int) < 2 ^ j := Int.pow_pos (by omega)
        have h2 := Int.ediv_le_self (2 ^ j) hb30
        exact ⟨Int.ediv_nonneg hb30 (by omega), by omega⟩
      have HY : Hid (0 ≤ y ∧ y ≤ 9223372036854775807) := by show _ ∧ _; omega
      have HYN : Hid (x3 / 2 ^ (j + 1) = y / 2) := by show _ = _; rw [hy, Int.pow_succ, Int.ediv_ediv_of_nonneg (by exact Int.le_of_lt (Int.pow_pos (by omega)))]
      have HMJ : Hid (Vi.memV s j = (decide (y % 2 = 1), Le.ofB 0 ((s.drop (12 + 4 * j)).take 4))) := by show _ = _; rw [hy]; exact unhide HME j
      rw [← hy]
      obtain ⟨L, hL⟩ : ∃ L, L = ((List.range 8).map (Vi.memV s)).take (j) ++ Vi.no8.drop (j) := ⟨_, rfl⟩
      have HLL := hide hL
      rw [← hL] at M HFL
      clear hy hy0 hL
      obtain ⟨bb, hbb⟩ : ∃ bb, decide (y % 2 = 1) = bb := ⟨_, rfl⟩
      have HBB := hide hbb
      clear hbb
      have HO12 : Hid (12 + 4 * j + 4 ≤ 64) := by show _ ≤ _; omega
      go_wp2_with (
        first
        | (refine Vi.wpRemI rfl (.tmp 33) (.const (.int .i64 2)) rfl y 2 (y % 2) rfl (unhide HY) (by omega) rfl rfl ?_
           refine Stp.go ?_))
      constructor
      go_wp2_with (
        first
        | (refine wpEql31 rfl (.tmp 34) 1 rfl (y % 2) bb (unhide HBB) rfl ?_
           refine Stp.go ?_))
      constructor
      go_wp2_with (
        first
        | (refine wpStoreM1 Le.size4 rfl (.tmp 38) (.tmp 35) rfl rfl b3 (3 + j * 2) 2 (.bool bb) ⟨rfl, rfl⟩ rfl rfl (unhide M) rfl (by rw [Vi.vwC_len (unhide HFL)]; have := unhide HLT; omega) ?_
           intro W61 N61
           replace M : Hid (Mm [] w W61 [(b1, 59, u8s s), (b2, 29, Vi.vwC Vi.zv), (b3, 29, (Vi.vwC ⟨Le.ofB 0 ((s.drop 4).take 8), o1, x2, L⟩).set (3 + j * 2) (.bool bb))]) := hide N61
           clear N61
           refine Stp.go ?_))
      constructor
      go_wp2_with (
        first
        | (refine wpLoadA Vi.row28 rfl (.tmp 1) rfl b1 0 rfl (u8s s) (by rw [u8s_len]; exact unhide HSL) ((unhide M).at 0 _ rfl).range ?_
           refine Stp.go ?_))
      constructor
      go_wp2_with (
        first
        | (go_at_call 112
           refine (Le.said112 4 (12 + 4 * j) s _ (unhide HSS) (unhide HO12)).mono ?_
           rintro e W62 ⟨rfl, K62⟩
           replace M : Hid (Mm [] w W62 [(b1, 59, u8s s), (b2, 29, Vi.vwC Vi.zv), (b3, 29, (Vi.vwC ⟨Le.ofB 0 ((s.drop 4).take 8), o1, x2, L⟩).set (3 + j * 2) (.bool bb))]) := hide ((unhide M).step K62)
           clear K62
           refine Stp.go ?_))
      constructor
      go_wp2_with (
        first
        | (refine wpStoreM1 Le.size2 rfl (.tmp 47) (.tmp 44) rfl rfl b3 (3 + j * 2 + 1) 2 (.int .i64 (Le.ofB 0 ((s.drop (12 + 4 * j)).take 4))) ⟨rfl, rfl⟩ rfl rfl (unhide M) rfl (by rw [List.length_set, Vi.vwC_len (unhide HFL)]; have := unhide HLT; omega) ?_
           intro W63 N63
           replace M : Hid (Mm [] w W63 [(b1, 59, u8s s), (b2, 29, Vi.vwC Vi.zv), (b3, 29, Vi.vwC ⟨Le.ofB 0 ((s.drop 4).take 8), o1, x2, ((List.range 8).map (Vi.memV s)).take (j + 1) ++ Vi.no8.drop (j + 1)⟩)]) := by
             have h9 : Mm [] w W63 [(b1, 59, u8s s), (b2, 29, Vi.vwC Vi.zv), (b3, 29, ((Vi.vwC ⟨Le.ofB 0 ((s.drop 4).take 8), o1, x2, L⟩).set (3 + j * 2) (.bool bb)).set (3 + j * 2 + 1) (.int .i64 (Le.ofB 0 ((s.drop (12 + 4 * j)).take 4))))] := N63
             rw [vwC_set2 _ _ _ _ _ _ _ (by rw [unhide HFL]; exact unhide HLT), ← unhide HBB, ← unhide HMJ, unhide HLL, Vi.fill_next s j (unhide HLT)] at h9
             exact h9
           clear N63
           refine Stp.go ?_))
      constructor
      go_wp2_with (
        first
        | (refine wpQuo2 rfl (.tmp 48) rfl y (unhide HY) rfl ?_
           refine Stp.go ?_))
      constructor
      go_wp2_with fail
      go_roundw
      case rel => exact ⟨j + 1, by omega, by rw [unhide HYN], by first | rfl | go_num, M⟩
      case measure => simp [intOf]; omega
    · obtain rfl : j = 8 := by omega
      have h9 := unhide M
      rw [show ((List.range 8).map (Vi.memV s)).take (8) ++ Vi.no8.drop (8) = (List.range 8).map (Vi.memV s) by rfl, unhide HVV] at h9
      replace M := hide h9
      clear h9
      go_wp2_with fail
      refine wp_region_any mixed (wpAny_tq 14 rfl (by kernel_rfl) [some (aggV (Vi.vwC V)), some (.bool true), some (.bool false), some (.bool false), some (.pointer (some ⟨b3, 0, none⟩)), some (.int .i64 V.nu), some (.bool true), some (.bool true), some (.bool true), none, none, none, none, some (.bool true)] rfl (by kernel_rfl) (by kernel_rfl) ?_ ?_)
      · intro i o' hi hsk ho a' w2 hout hin hk2
        replace hk2 : Kept [] wr w2 := ⟨hk2.os, hk2.tape, hk2.output, hk2.size, hk2.block⟩
        match i, ho, hsk with
        | 0, ho, hsk =>
          obtain rfl := Option.some.inj ho
          exact wp_loadA Vi.row26 (.tmp 4) rfl b3 0 ((hout 4 (by kernel_rfl)).trans rfl) (Vi.vwC V) (unhide HVL) (((unhide M).step hk2).at 2 _ rfl).range ⟨_, rfl, tq_is _ _ _ _ rfl, Kept.refl _ _, fun _ _ _ _ _ => trivial⟩
        | 1, ho, hsk =>
          obtain rfl := Option.some.inj ho
          have e0 : a'.eval (.tmp 50) = aggV (Vi.vwC V) := is_tq (hin 0 50 (by kernel_rfl) (by kernel_rfl)) rfl
          refine wp_callF 50 _ _ rfl #[aggV (Vi.vwC V)] (by simp [e0]) (cg50 _ _) ((unhide PM _).mono ?_)
          rintro e w3 ⟨rfl, hk3⟩
          exact ⟨_, rfl, _, rfl, tq_is _ _ _ _ rfl, hk3, fun _ _ _ _ _ => trivial⟩
        | 2, ho, hsk =>
          obtain rfl := Option.some.inj ho
          have e0 : a'.eval (.tmp 51) = .bool true := is_tq (hin 1 51 (by kernel_rfl) (by kernel_rfl)) rfl
          exact o_not (.tmp 51) rfl true e0 ⟨_, rfl, tq_is _ _ _ _ rfl, Kept.refl _ _, fun _ _ _ _ _ => trivial⟩
        | 3, ho, hsk =>
          obtain rfl := Option.some.inj ho
          have e0 : a'.eval (.tmp 52) = .bool false := is_tq (hin 2 52 (by kernel_rfl) (by kernel_rfl)) rfl
          exact wp_move (.tmp 52) rfl _ e0 ⟨_, rfl, tq_is _ _ _ _ rfl, Kept.refl _ _, fun _ _ _ _ _ => trivial⟩
        | 4, ho, hsk =>
          obtain rfl := Option.some.inj ho
          exact Vi.o_fld26a (.tmp 4) rfl b3 ((hout 4 (by kernel_rfl)).trans rfl) ⟨_, rfl, tq_is _ _ _ _ rfl, Kept.refl _ _, fun _ _ _ _ _ => trivial⟩
        | 5, ho, hsk =>
          obtain rfl := Option.some.inj ho
          have e0 : a'.eval (.tmp 54) = .pointer (some ⟨b3, 0, none⟩) := is_tq (hin 4 54 (by kernel_rfl) (by kernel_rfl)) rfl
          exact o_load2 (.tmp 54) rfl _ _ e0 (fits_cell (((unhide M).step hk2).at 2 _ rfl) 0 _ rfl) ⟨_, rfl, tq_is _ _ _ _ rfl, Kept.refl _ _, fun _ _ _ _ _ => trivial⟩
        | 6, ho, hsk =>
          obtain rfl := Option.some.inj ho
          have e0 : a'.eval (.tmp 55) = .int .i64 V.nu := is_tq (hin 5 55 (by kernel_rfl) (by kernel_rfl)) rfl
          exact o_eql20 (.tmp 55) rfl V.nu true (unhide HN) e0 ⟨_, rfl, tq_is _ _ _ _ rfl, Kept.refl _ _, fun _ _ _ _ _ => trivial⟩
        | 7, ho, hsk =>
          obtain rfl := Option.some.inj ho
          have e0 : a'.eval (.tmp 53) = .bool false := is_tq (hin 3 53 (by kernel_rfl) (by kernel_rfl)) rfl
          have e1 : a'.eval (.tmp 56) = .bool true := is_tq (hin 6 56 (by kernel_rfl) (by kernel_rfl)) rfl
          exact o_pickOr0 (.tmp 53) (.tmp 56) rfl _ e0 e1 ⟨_, rfl, tq_is _ _ _ _ rfl, Kept.refl _ _, fun _ _ _ _ _ => trivial⟩
        | 8, ho, hsk =>
          obtain rfl := Option.some.inj ho
          have e0 : a'.eval (.tmp 57) = .bool true := is_tq (hin 7 57 (by kernel_rfl) (by kernel_rfl)) rfl
          exact wp_move (.tmp 57) rfl _ e0 ⟨_, rfl, tq_is _ _ _ _ rfl, Kept.refl _ _, fun _ _ _ _ _ => trivial⟩
        | 9, ho, hsk =>
          cases hsk
        | 10, ho, hsk =>
          cases hsk
        | 11, ho, hsk =>
          cases hsk
        | 12, ho, hsk =>
          cases hsk
        | 13, ho, hsk =>
          obtain rfl := Option.some.inj ho
          have e0 : a'.eval (.tmp 58) = .bool true := is_tq (hin 8 58 (by kernel_rfl) (by kernel_rfl)) rfl
          exact o_pickOrT (.tmp 58) (.tmp 62) rfl e0 ⟨_, rfl, tq_is _ _ _ _ rfl, Kept.refl _ _, fun _ _ _ _ _ => trivial⟩
      intro w9 hk9
      replace hk9 : Kept [] wr w9 := ⟨hk9.os, hk9.tape, hk9.output, hk9.size, hk9.block⟩
      simp only [valsQ, List.map_cons, List.map_nil, Option.getD_some, Option.getD_none, List.take_succ_cons, List.take_zero, putAll, Act.put, List.setIfInBounds_toArray, List.set_cons_succ, List.set_cons_zero]
      refine wpAny_done (by kernel_rfl) ?_ _
      replace M : Hid (Mm [] w w9 [(b1, 59, u8s s), (b2, 29, Vi.vwC Vi.zv), (b3, 29, Vi.vwC V)]) := hide ((unhide M).step hk9)
      clear hk9
      go_wp2_with (
        first
        | (refine wpBuildZ (Vi.vwC Vi.zv) Vi.build26 rfl rfl ?_
           refine Stp.go ?_))
      constructor
      go_wp2_with (
        first
        | (refine wpStoreM Vi.row26 rfl (.tmp 2) (.tmp 64) rfl rfl b2 1 (Vi.vwC Vi.zv) rfl rfl rfl (Vi.vwC_one _) (unhide M) rfl rfl ?_
           intro W71 N71
           replace M : Hid (Mm [] w W71 [(b1, 59, u8s s), (b2, 29, Vi.vwC Vi.zv), (b3, 29, Vi.vwC V)]) := hide N71
           clear N71
           refine Stp.go ?_))
      constructor
      go_wp2_with fail
      refine bodyPost_ret (res49 _ b2 (Vi.vwC Vi.zv) false _ rfl rfl rfl ((unhide M).at 1 _ rfl)) rfl ?_
      exact ⟨rfl, (unhide M).kept⟩
set_option maxHeartbeats 8000000 in
theorem gv_c (s : List Int) (w : World) (hs : Le.Byts 64 s) (hz : decide (s = Vi.zs 64) = false) (x1 x2 x3 x4 : Int) (H1 : Hid ((u8s s)[1]? = some (.int .u8 x1))) (H2 : Hid ((u8s s)[2]? = some (.int .u8 x2))) (H3 : Hid ((u8s s)[3]? = some (.int .u8 x3))) (H4 : Hid ((u8s s)[4]? = some (.int .u8 x4))) (o1 : Bool) (ho1 : decide (x1 = 1) = o1) (hb2 : 0 ≤ x2 ∧ x2 < 256) (hx4 : decide (64 < x4) = false) (hb3 : 0 ≤ x3 ∧ x3 < 256) (V : Vi.Vw) (hV : ⟨Le.ofB 0 ((s.drop 4).take 8), o1, x2, (List.range 8).map (Vi.memV s)⟩ = V) (hme : ∀ i, Vi.memV s i = (decide (x3 / 2 ^ i % 2 = 1), Le.ofB 0 ((s.drop (12 + 4 * i)).take 4))) (hm : V.may = true) (hn : decide (V.nu = 0) = false) (q : List Int) (hq : q.length = 64) (hp : ∀ W, Calls Tryz.prog 113 #[aggV (Vi.vwC V)] W fun e w' => e = .returned (aggV (u8s q)) ∧ Kept [] W w') (he : decide (q = s) = true) : Calls Tryz.prog 49 #[aggV (u8s s)] w fun x w' => x = .returned (.tuple #[aggV (Vi.vwC V), .bool true]) ∧ Kept [] w w' := by
  have HSL := hide hs.len
  have HSS := hide hs
  have HZ := hide hz
  have HO := hide ho1
  clear hz ho1 hs
  obtain ⟨hb20, hb21⟩ := hb2
  have HME := hide hme
  have HVV := hide hV
  have HVL : Hid ((Vi.vwC V).length = 19) := by show _ = _; rw [← hV]; exact Vi.vwC_len (by simp)
  have hvl : V.ms.length = 8 := by rw [← hV]; simp
  have PM := hide (fun W => Vi.rmay50 V W hvl)
  rw [hm] at PM
  have HN := hide hn
  clear hn
  have PP := hide hp
  have HE := hide he
  have HQL := hide hq
  clear hp he hq
  clear hme hV hm hvl
  obtain ⟨hb30, hb31⟩ := hb3
  go_enter Tryz.func49, Tryz.ntmps49
  have M : Hid (Mm [] w w []) := hide Mm.init
  go_wp2_with (
    first
    | (refine wpBoxV rfl (.tmp 0) rfl (u8s s) rfl ?_
       intro W1 b1 e1 B1 K1
       replace M : Hid (Mm [] w W1 [(b1, 59, u8s s)]) := hide ((unhide M).new e1 B1 K1)
       clear e1 B1 K1
       refine Stp.go ?_))
  constructor
  go_wp2_with (
    first
    | (refine wpAllocW (Vi.vwC Vi.zv) Vi.zero26 2 rfl rfl rfl ?_
       intro W2 b2 e2 B2 K2
       replace M : Hid (Mm [] w W2 [(b1, 59, u8s s), (b2, 29, Vi.vwC Vi.zv)]) := hide ((unhide M).new e2 B2 K2)
       clear e2 B2 K2
       refine Stp.go ?_))
  constructor
  go_wp2_with (
    first
    | (refine wpLoadA Vi.row28 rfl (.tmp 1) rfl b1 0 rfl (u8s s) (by rw [u8s_len]; exact unhide HSL) ((unhide M).at 0 _ rfl).range ?_
       refine Stp.go ?_))
  constructor
  go_wp2_with (
    first
    | (refine wpBuildZ (u8s (Vi.zs 64)) build59z rfl rfl ?_
       refine Stp.go ?_))
  constructor
  go_wp2_with (
    first
    | (refine wpEqlA 59 59 Vi.guard28 (.tmp 7) (.tmp 8) rfl rfl (u8s s) (u8s (Vi.zs 64)) rfl rfl false ((Vi.equal28 _ s (Vi.zs 64) (unhide HSL) rfl).trans (by rw [unhide HZ])) ?_
       have c1 := fits_cell ((unhide M).at 0 _ rfl) 1 _ (unhide H1)
       have c2 := fits_cell ((unhide M).at 0 _ rfl) 2 _ (unhide H2)
       refine Stp.go ?_))
  constructor
  go_wp2_with (
    first
    | (refine wpEql5 rfl (.tmp 12) rfl x1 o1 (unhide HO) rfl ?_
       refine Stp.go ?_))
  constructor
  go_wp2_with (
    first
    | (refine Ar.wpBuildP rfl #[(1, .tmp 13), (2, .tmp 16)] rfl #[(1, .bool o1), (2, .int .i64 x2)] (by simp [Act.eval]) (Vi.vwC ⟨0, o1, x2, Vi.no8⟩) (build29of _ _ _) ?_
       refine Stp.go ?_))
  constructor
  go_wp2_with (
    first
    | (refine wpNew Vi.row26 (Vi.vwC Vi.zv) rfl Vi.zero26 4 rfl rfl rfl (.tmp 17) rfl rfl rfl (Vi.vwC ⟨0, o1, x2, Vi.no8⟩) rfl (Vi.vwC_one _) (by kernel_rfl) (by kernel_rfl) ?_
       intro W3 b3 e3 B3 K3
       replace M : Hid (Mm [] w W3 [(b1, 59, u8s s), (b2, 29, Vi.vwC Vi.zv), (b3, 29, Vi.vwC ⟨0, o1, x2, Vi.no8⟩)]) := hide ((unhide M).new e3 B3 K3)
       clear e3 B3 K3
       clear c1 c2
       have c4 := fits_cell ((unhide M).at 0 _ rfl) 4 _ (unhide H4)
       refine Stp.go ?_))
  constructor
  go_wp2_with (
    first
    | (refine wpLoadA Vi.row28 rfl (.tmp 1) rfl b1 0 rfl (u8s s) (by rw [u8s_len]; exact unhide HSL) ((unhide M).at 0 _ rfl).range ?_
       refine Stp.go ?_))
  constructor
  go_wp2_with (
    first
    | (go_at_call 112
       refine (Le.said112 8 4 s _ (unhide HSS) (by omega)).mono ?_
       rintro e W4 ⟨rfl, K4⟩
       replace M : Hid (Mm [] w W4 [(b1, 59, u8s s), (b2, 29, Vi.vwC Vi.zv), (b3, 29, Vi.vwC ⟨0, o1, x2, Vi.no8⟩)]) := hide ((unhide M).step K4)
       clear K4 c4
       refine Stp.go ?_))
  constructor
  go_wp2_with (
    first
    | (refine wpStoreM1 Le.size2 rfl (.tmp 24) (.tmp 23) rfl rfl b3 0 2 (.int .i64 (Le.ofB 0 ((s.drop 4).take 8))) ⟨rfl, rfl⟩ rfl rfl (unhide M) rfl (by simp [Vi.vwC]) ?_
       intro W5 N5
       replace M : Hid (Mm [] w W5 [(b1, 59, u8s s), (b2, 29, Vi.vwC Vi.zv), (b3, 29, Vi.vwC ⟨Le.ofB 0 ((s.drop 4).take 8), o1, x2, ((List.range 8).map (Vi.memV s)).take (0) ++ Vi.no8.drop (0)⟩)]) := hide N5
       clear N5
       have c3 := fits_cell ((unhide M).at 0 _ rfl) 3 _ (unhide H3)
       refine Stp.go ?_))
  constructor
  go_wp2_with fail
  clear c3
  go_loopw [5, 6] (fun xb xn wr => ∃ j : Nat, j ≤ 8 ∧ xb = .int .i64 (x3 / 2 ^ j) ∧ xn = .int .i64 j ∧ Hid (Mm [] w wr [(b1, 59, u8s s), (b2, 29, Vi.vwC Vi.zv), (b3, 29, Vi.vwC ⟨Le.ofB 0 ((s.drop 4).take 8), o1, x2, ((List.range 8).map (Vi.memV s)).take (j) ++ Vi.no8.drop (j)⟩)])) (fun _ i _ => (8 - intOf i).toNat)
  case atStart => exact ⟨0, by omega, by simp, rfl, M⟩
  case round =>
    clear M
    obtain ⟨j, hj, rfl, rfl, M⟩ := hrel
    by_cases hlt : j < 8
    · have hd : decide ((j : Int) < 8) = true := by simp; omega
      have hj8 : (j : Int) < 8 := by omega
      have HLT := hide hlt
      have HFL : Hid ((((List.range 8).map (Vi.memV s)).take (j) ++ Vi.no8.drop (j)).length = 8) := by show _ = _; simp [Vi.no8]; omega
      obtain ⟨y, hy⟩ : ∃ y, y = x3 / 2 ^ j := ⟨_, rfl⟩
      have hy0 : 0 ≤ y ∧ y ≤ 255 := by
        rw [hy]
        have h1 : (0 : Int) < 2 ^ j := Int.pow_pos (by omega)
        have h2 := Int.ediv_le_self (2 ^ j) hb30
        exact ⟨Int.ediv_nonneg hb30 (by omega), by omega⟩
      have HY : Hid (0 ≤ y ∧ y ≤ 9223372036854775807) := by show _ ∧ _; omega
      have HYN : Hid (x3 / 2 ^ (j + 1) = y / 2) := by show _ = _; rw [hy, Int.pow_succ, Int.ediv_ediv_of_nonneg (by exact Int.le_of_lt (Int.pow_pos (by omega)))]
      have HMJ : Hid (Vi.memV s j = (decide (y % 2 = 1), Le.ofB 0 ((s.drop (12 + 4 * j)).take 4))) := by show _ = _; rw [hy]; exact unhide HME j
      rw [← hy]
      obtain ⟨L, hL⟩ : ∃ L, L = ((List.range 8).map (Vi.memV s)).take (j) ++ Vi.no8.drop (j) := ⟨_, rfl⟩
      have HLL := hide hL
      rw [← hL] at M HFL
      clear hy hy0 hL
      obtain ⟨bb, hbb⟩ : ∃ bb, decide (y % 2 = 1) = bb := ⟨_, rfl⟩
      have HBB := hide hbb
      clear hbb
      have HO12 : Hid (12 + 4 * j + 4 ≤ 64) := by show _ ≤ _; omega
      go_wp2_with (
        first
        | (refine Vi.wpRemI rfl (.tmp 33) (.const (.int .i64 2)) rfl y 2 (y % 2) rfl (unhide HY) (by omega) rfl rfl ?_
           refine Stp.go ?_))
      constructor
      go_wp2_with (
        first
        | (refine wpEql31 rfl (.tmp 34) 1 rfl (y % 2) bb (unhide HBB) rfl ?_
           refine Stp.go ?_))
      constructor
      go_wp2_with (
        first
        | (refine wpStoreM1 Le.size4 rfl (.tmp 38) (.tmp 35) rfl rfl b3 (3 + j * 2) 2 (.bool bb) ⟨rfl, rfl⟩ rfl rfl (unhide M) rfl (by rw [Vi.vwC_len (unhide HFL)]; have := unhide HLT; omega) ?_
           intro W61 N61
           replace M : Hid (Mm [] w W61 [(b1, 59, u8s s), (b2, 29, Vi.vwC Vi.zv), (b3, 29, (Vi.vwC ⟨Le.ofB 0 ((s.drop 4).take 8), o1, x2, L⟩).set (3 + j * 2) (.bool bb))]) := hide N61
           clear N61
           refine Stp.go ?_))
      constructor
      go_wp2_with (
        first
        | (refine wpLoadA Vi.row28 rfl (.tmp 1) rfl b1 0 rfl (u8s s) (by rw [u8s_len]; exact unhide HSL) ((unhide M).at 0 _ rfl).range ?_
           refine Stp.go ?_))
      constructor
      go_wp2_with (
        first
        | (go_at_call 112
           refine (Le.said112 4 (12 + 4 * j) s _ (unhide HSS) (unhide HO12)).mono ?_
           rintro e W62 ⟨rfl, K62⟩
           replace M : Hid (Mm [] w W62 [(b1, 59, u8s s), (b2, 29, Vi.vwC Vi.zv), (b3, 29, (Vi.vwC ⟨Le.ofB 0 ((s.drop 4).take 8), o1, x2, L⟩).set (3 + j * 2) (.bool bb))]) := hide ((unhide M).step K62)
           clear K62
           refine Stp.go ?_))
      constructor
      go_wp2_with (
        first
        | (refine wpStoreM1 Le.size2 rfl (.tmp 47) (.tmp 44) rfl rfl b3 (3 + j * 2 + 1) 2 (.int .i64 (Le.ofB 0 ((s.drop (12 + 4 * j)).take 4))) ⟨rfl, rfl⟩ rfl rfl (unhide M) rfl (by rw [List.length_set, Vi.vwC_len (unhide HFL)]; have := unhide HLT; omega) ?_
           intro W63 N63
           replace M : Hid (Mm [] w W63 [(b1, 59, u8s s), (b2, 29, Vi.vwC Vi.zv), (b3, 29, Vi.vwC ⟨Le.ofB 0 ((s.drop 4).take 8), o1, x2, ((List.range 8).map (Vi.memV s)).take (j + 1) ++ Vi.no8.drop (j + 1)⟩)]) := by
             have h9 : Mm [] w W63 [(b1, 59, u8s s), (b2, 29, Vi.vwC Vi.zv), (b3, 29, ((Vi.vwC ⟨Le.ofB 0 ((s.drop 4).take 8), o1, x2, L⟩).set (3 + j * 2) (.bool bb)).set (3 + j * 2 + 1) (.int .i64 (Le.ofB 0 ((s.drop (12 + 4 * j)).take 4))))] := N63
             rw [vwC_set2 _ _ _ _ _ _ _ (by rw [unhide HFL]; exact unhide HLT), ← unhide HBB, ← unhide HMJ, unhide HLL, Vi.fill_next s j (unhide HLT)] at h9
             exact h9
           clear N63
           refine Stp.go ?_))
      constructor
      go_wp2_with (
        first
        | (refine wpQuo2 rfl (.tmp 48) rfl y (unhide HY) rfl ?_
           refine Stp.go ?_))
      constructor
      go_wp2_with fail
      go_roundw
      case rel => exact ⟨j + 1, by omega, by rw [unhide HYN], by first | rfl | go_num, M⟩
      case measure => simp [intOf]; omega
    · obtain rfl : j = 8 := by omega
      have h9 := unhide M
      rw [show ((List.range 8).map (Vi.memV s)).take (8) ++ Vi.no8.drop (8) = (List.range 8).map (Vi.memV s) by rfl, unhide HVV] at h9
      replace M := hide h9
      clear h9
      go_wp2_with fail
      refine wp_region_any mixed (wpAny_tq 14 rfl (by kernel_rfl) [some (aggV (Vi.vwC V)), some (.bool true), some (.bool false), some (.bool false), some (.pointer (some ⟨b3, 0, none⟩)), some (.int .i64 V.nu), some (.bool false), some (.bool false), some (.bool false), some (aggV (Vi.vwC V)), some (aggV (u8s q)), some (aggV (u8s s)), some (.bool false), some (.bool false)] rfl (by kernel_rfl) (by kernel_rfl) ?_ ?_)
      · intro i o' hi hsk ho a' w2 hout hin hk2
        replace hk2 : Kept [] wr w2 := ⟨hk2.os, hk2.tape, hk2.output, hk2.size, hk2.block⟩
        match i, ho, hsk with
        | 0, ho, hsk =>
          obtain rfl := Option.some.inj ho
          exact wp_loadA Vi.row26 (.tmp 4) rfl b3 0 ((hout 4 (by kernel_rfl)).trans rfl) (Vi.vwC V) (unhide HVL) (((unhide M).step hk2).at 2 _ rfl).range ⟨_, rfl, tq_is _ _ _ _ rfl, Kept.refl _ _, fun _ _ _ _ _ => trivial⟩
        | 1, ho, hsk =>
          obtain rfl := Option.some.inj ho
          have e0 : a'.eval (.tmp 50) = aggV (Vi.vwC V) := is_tq (hin 0 50 (by kernel_rfl) (by kernel_rfl)) rfl
          refine wp_callF 50 _ _ rfl #[aggV (Vi.vwC V)] (by simp [e0]) (cg50 _ _) ((unhide PM _).mono ?_)
          rintro e w3 ⟨rfl, hk3⟩
          exact ⟨_, rfl, _, rfl, tq_is _ _ _ _ rfl, hk3, fun _ _ _ _ _ => trivial⟩
        | 2, ho, hsk =>
          obtain rfl := Option.some.inj ho
          have e0 : a'.eval (.tmp 51) = .bool true := is_tq (hin 1 51 (by kernel_rfl) (by kernel_rfl)) rfl
          exact o_not (.tmp 51) rfl true e0 ⟨_, rfl, tq_is _ _ _ _ rfl, Kept.refl _ _, fun _ _ _ _ _ => trivial⟩
        | 3, ho, hsk =>
          obtain rfl := Option.some.inj ho
          have e0 : a'.eval (.tmp 52) = .bool false := is_tq (hin 2 52 (by kernel_rfl) (by kernel_rfl)) rfl
          exact wp_move (.tmp 52) rfl _ e0 ⟨_, rfl, tq_is _ _ _ _ rfl, Kept.refl _ _, fun _ _ _ _ _ => trivial⟩
        | 4, ho, hsk =>
          obtain rfl := Option.some.inj ho
          exact Vi.o_fld26a (.tmp 4) rfl b3 ((hout 4 (by kernel_rfl)).trans rfl) ⟨_, rfl, tq_is _ _ _ _ rfl, Kept.refl _ _, fun _ _ _ _ _ => trivial⟩
        | 5, ho, hsk =>
          obtain rfl := Option.some.inj ho
          have e0 : a'.eval (.tmp 54) = .pointer (some ⟨b3, 0, none⟩) := is_tq (hin 4 54 (by kernel_rfl) (by kernel_rfl)) rfl
          exact o_load2 (.tmp 54) rfl _ _ e0 (fits_cell (((unhide M).step hk2).at 2 _ rfl) 0 _ rfl) ⟨_, rfl, tq_is _ _ _ _ rfl, Kept.refl _ _, fun _ _ _ _ _ => trivial⟩
        | 6, ho, hsk =>
          obtain rfl := Option.some.inj ho
          have e0 : a'.eval (.tmp 55) = .int .i64 V.nu := is_tq (hin 5 55 (by kernel_rfl) (by kernel_rfl)) rfl
          exact o_eql20 (.tmp 55) rfl V.nu false (unhide HN) e0 ⟨_, rfl, tq_is _ _ _ _ rfl, Kept.refl _ _, fun _ _ _ _ _ => trivial⟩
        | 7, ho, hsk =>
          obtain rfl := Option.some.inj ho
          have e0 : a'.eval (.tmp 53) = .bool false := is_tq (hin 3 53 (by kernel_rfl) (by kernel_rfl)) rfl
          have e1 : a'.eval (.tmp 56) = .bool false := is_tq (hin 6 56 (by kernel_rfl) (by kernel_rfl)) rfl
          exact o_pickOr0 (.tmp 53) (.tmp 56) rfl _ e0 e1 ⟨_, rfl, tq_is _ _ _ _ rfl, Kept.refl _ _, fun _ _ _ _ _ => trivial⟩
        | 8, ho, hsk =>
          obtain rfl := Option.some.inj ho
          have e0 : a'.eval (.tmp 57) = .bool false := is_tq (hin 7 57 (by kernel_rfl) (by kernel_rfl)) rfl
          exact wp_move (.tmp 57) rfl _ e0 ⟨_, rfl, tq_is _ _ _ _ rfl, Kept.refl _ _, fun _ _ _ _ _ => trivial⟩
        | 9, ho, hsk =>
          obtain rfl := Option.some.inj ho
          exact wp_loadA Vi.row26 (.tmp 4) rfl b3 0 ((hout 4 (by kernel_rfl)).trans rfl) (Vi.vwC V) (unhide HVL) (((unhide M).step hk2).at 2 _ rfl).range ⟨_, rfl, tq_is _ _ _ _ rfl, Kept.refl _ _, fun _ _ _ _ _ => trivial⟩
        | 10, ho, hsk =>
          obtain rfl := Option.some.inj ho
          have e0 : a'.eval (.tmp 59) = aggV (Vi.vwC V) := is_tq (hin 9 59 (by kernel_rfl) (by kernel_rfl)) rfl
          refine wp_callF 113 _ _ rfl #[aggV (Vi.vwC V)] (by simp [e0]) (cg113 _ _) ((unhide PP _).mono ?_)
          rintro e w3 ⟨rfl, hk3⟩
          exact ⟨_, rfl, _, rfl, tq_is _ _ _ _ rfl, hk3, fun _ _ _ _ _ => trivial⟩
        | 11, ho, hsk =>
          obtain rfl := Option.some.inj ho
          exact wp_loadA Vi.row28 (.tmp 1) rfl b1 0 ((hout 1 (by kernel_rfl)).trans rfl) (u8s s) (by rw [u8s_len]; exact unhide HSL) (((unhide M).step hk2).at 0 _ rfl).range ⟨_, rfl, tq_is _ _ _ _ rfl, Kept.refl _ _, fun _ _ _ _ _ => trivial⟩
        | 12, ho, hsk =>
          obtain rfl := Option.some.inj ho
          have e0 : a'.eval (.tmp 60) = aggV (u8s q) := is_tq (hin 10 60 (by kernel_rfl) (by kernel_rfl)) rfl
          have e1 : a'.eval (.tmp 61) = aggV (u8s s) := is_tq (hin 11 61 (by kernel_rfl) (by kernel_rfl)) rfl
          exact Le.o_neqA 59 59 Vi.guard28 (.tmp 60) (.tmp 61) rfl (u8s q) (u8s s) e0 e1 true ((Vi.equal28 _ q s (unhide HQL) (unhide HSL)).trans (by rw [unhide HE])) ⟨_, rfl, tq_is _ _ _ _ rfl, Kept.refl _ _, fun _ _ _ _ _ => trivial⟩
        | 13, ho, hsk =>
          obtain rfl := Option.some.inj ho
          have e0 : a'.eval (.tmp 58) = .bool false := is_tq (hin 8 58 (by kernel_rfl) (by kernel_rfl)) rfl
          have e1 : a'.eval (.tmp 62) = .bool false := is_tq (hin 12 62 (by kernel_rfl) (by kernel_rfl)) rfl
          exact o_pickOr0 (.tmp 58) (.tmp 62) rfl _ e0 e1 ⟨_, rfl, tq_is _ _ _ _ rfl, Kept.refl _ _, fun _ _ _ _ _ => trivial⟩
      intro w9 hk9
      replace hk9 : Kept [] wr w9 := ⟨hk9.os, hk9.tape, hk9.output, hk9.size, hk9.block⟩
      simp only [valsQ, List.map_cons, List.map_nil, Option.getD_some, List.take_succ_cons, List.take_zero, putAll, Act.put, List.setIfInBounds_toArray, List.set_cons_succ, List.set_cons_zero]
      refine wpAny_done (by kernel_rfl) ?_ _
      replace M : Hid (Mm [] w w9 [(b1, 59, u8s s), (b2, 29, Vi.vwC Vi.zv), (b3, 29, Vi.vwC V)]) := hide ((unhide M).step hk9)
      clear hk9
      go_wp2_with (
        first
        | (refine wpLoadA Vi.row26 rfl (.tmp 4) rfl b3 0 rfl (Vi.vwC V) (unhide HVL) ((unhide M).at 2 _ rfl).range ?_
           refine Stp.go ?_))
      constructor
      go_wp2_with (
        first
        | (refine wpStoreM Vi.row26 rfl (.tmp 2) (.tmp 65) rfl rfl b2 1 (Vi.vwC V) rfl rfl (unhide HVL) (Vi.vwC_one _) (unhide M) rfl rfl ?_
           intro W71 N71
           replace M : Hid (Mm [] w W71 [(b1, 59, u8s s), (b2, 29, Vi.vwC V), (b3, 29, Vi.vwC V)]) := hide N71
           clear N71
           refine Stp.go ?_))
      constructor
      go_wp2_with fail
      refine bodyPost_ret (res49 _ b2 (Vi.vwC V) true _ rfl rfl (unhide HVL) ((unhide M).at 1 _ rfl)) rfl ?_
      exact ⟨rfl, (unhide M).kept⟩
set_option maxHeartbeats 8000000 in
theorem gv_d (s : List Int) (w : World) (hs : Le.Byts 64 s) (hz : decide (s = Vi.zs 64) = false) (x1 x2 x3 x4 : Int) (H1 : Hid ((u8s s)[1]? = some (.int .u8 x1))) (H2 : Hid ((u8s s)[2]? = some (.int .u8 x2))) (H3 : Hid ((u8s s)[3]? = some (.int .u8 x3))) (H4 : Hid ((u8s s)[4]? = some (.int .u8 x4))) (o1 : Bool) (ho1 : decide (x1 = 1) = o1) (hb2 : 0 ≤ x2 ∧ x2 < 256) (hx4 : decide (64 < x4) = false) (hb3 : 0 ≤ x3 ∧ x3 < 256) (V : Vi.Vw) (hV : ⟨Le.ofB 0 ((s.drop 4).take 8), o1, x2, (List.range 8).map (Vi.memV s)⟩ = V) (hme : ∀ i, Vi.memV s i = (decide (x3 / 2 ^ i % 2 = 1), Le.ofB 0 ((s.drop (12 + 4 * i)).take 4))) (hm : V.may = true) (hn : decide (V.nu = 0) = false) (q : List Int) (hq : q.length = 64) (hp : ∀ W, Calls Tryz.prog 113 #[aggV (Vi.vwC V)] W fun e w' => e = .returned (aggV (u8s q)) ∧ Kept [] W w') (he : decide (q = s) = false) : Calls Tryz.prog 49 #[aggV (u8s s)] w fun x w' => x = .returned (.tuple #[aggV (Vi.vwC Vi.zv), .bool false]) ∧ Kept [] w w' := by
  have HSL := hide hs.len
  have HSS := hide hs
  have HZ := hide hz
  have HO := hide ho1
  clear hz ho1 hs
  obtain ⟨hb20, hb21⟩ := hb2
  have HME := hide hme
  have HVV := hide hV
  have HVL : Hid ((Vi.vwC V).length = 19) := by show _ = _; rw [← hV]; exact Vi.vwC_len (by simp)
  have hvl : V.ms.length = 8 := by rw [← hV]; simp
  have PM := hide (fun W => Vi.rmay50 V W hvl)
  rw [hm] at PM
  have HN := hide hn
  clear hn
  have PP := hide hp
  have HE := hide he
  have HQL := hide hq
  clear hp he hq
  clear hme hV hm hvl
  obtain ⟨hb30, hb31⟩ := hb3
  go_enter Tryz.func49, Tryz.ntmps49
  have M : Hid (Mm [] w w []) := hide Mm.init
  go_wp2_with (
    first
    | (refine wpBoxV rfl (.tmp 0) rfl (u8s s) rfl ?_
       intro W1 b1 e1 B1 K1
       replace M : Hid (Mm [] w W1 [(b1, 59, u8s s)]) := hide ((unhide M).new e1 B1 K1)
       clear e1 B1 K1
       refine Stp.go ?_))
  constructor
  go_wp2_with (
    first
    | (refine wpAllocW (Vi.vwC Vi.zv) Vi.zero26 2 rfl rfl rfl ?_
       intro W2 b2 e2 B2 K2
       replace M : Hid (Mm [] w W2 [(b1, 59, u8s s), (b2, 29, Vi.vwC Vi.zv)]) := hide ((unhide M).new e2 B2 K2)
       clear e2 B2 K2
       refine Stp.go ?_))
  constructor
  go_wp2_with (
    first
    | (refine wpLoadA Vi.row28 rfl (.tmp 1) rfl b1 0 rfl (u8s s) (by rw [u8s_len]; exact unhide HSL) ((unhide M).at 0 _ rfl).range ?_
       refine Stp.go ?_))
  constructor
  go_wp2_with (
    first
    | (refine wpBuildZ (u8s (Vi.zs 64)) build59z rfl rfl ?_
       refine Stp.go ?_))
  constructor
  go_wp2_with (
    first
    | (refine wpEqlA 59 59 Vi.guard28 (.tmp 7) (.tmp 8) rfl rfl (u8s s) (u8s (Vi.zs 64)) rfl rfl false ((Vi.equal28 _ s (Vi.zs 64) (unhide HSL) rfl).trans (by rw [unhide HZ])) ?_
       have c1 := fits_cell ((unhide M).at 0 _ rfl) 1 _ (unhide H1)
       have c2 := fits_cell ((unhide M).at 0 _ rfl) 2 _ (unhide H2)
       refine Stp.go ?_))
  constructor
  go_wp2_with (
    first
    | (refine wpEql5 rfl (.tmp 12) rfl x1 o1 (unhide HO) rfl ?_
       refine Stp.go ?_))
  constructor
  go_wp2_with (
    first
    | (refine Ar.wpBuildP rfl #[(1, .tmp 13), (2, .tmp 16)] rfl #[(1, .bool o1), (2, .int .i64 x2)] (by simp [Act.eval]) (Vi.vwC ⟨0, o1, x2, Vi.no8⟩) (build29of _ _ _) ?_
       refine Stp.go ?_))
  constructor
  go_wp2_with (
    first
    | (refine wpNew Vi.row26 (Vi.vwC Vi.zv) rfl Vi.zero26 4 rfl rfl rfl (.tmp 17) rfl rfl rfl (Vi.vwC ⟨0, o1, x2, Vi.no8⟩) rfl (Vi.vwC_one _) (by kernel_rfl) (by kernel_rfl) ?_
       intro W3 b3 e3 B3 K3
       replace M : Hid (Mm [] w W3 [(b1, 59, u8s s), (b2, 29, Vi.vwC Vi.zv), (b3, 29, Vi.vwC ⟨0, o1, x2, Vi.no8⟩)]) := hide ((unhide M).new e3 B3 K3)
       clear e3 B3 K3
       clear c1 c2
       have c4 := fits_cell ((unhide M).at 0 _ rfl) 4 _ (unhide H4)
       refine Stp.go ?_))
  constructor
  go_wp2_with (
    first
    | (refine wpLoadA Vi.row28 rfl (.tmp 1) rfl b1 0 rfl (u8s s) (by rw [u8s_len]; exact unhide HSL) ((unhide M).at 0 _ rfl).range ?_
       refine Stp.go ?_))
  constructor
  go_wp2_with (
    first
    | (go_at_call 112
       refine (Le.said112 8 4 s _ (unhide HSS) (by omega)).mono ?_
       rintro e W4 ⟨rfl, K4⟩
       replace M : Hid (Mm [] w W4 [(b1, 59, u8s s), (b2, 29, Vi.vwC Vi.zv), (b3, 29, Vi.vwC ⟨0, o1, x2, Vi.no8⟩)]) := hide ((unhide M).step K4)
       clear K4 c4
       refine Stp.go ?_))
  constructor
  go_wp2_with (
    first
    | (refine wpStoreM1 Le.size2 rfl (.tmp 24) (.tmp 23) rfl rfl b3 0 2 (.int .i64 (Le.ofB 0 ((s.drop 4).take 8))) ⟨rfl, rfl⟩ rfl rfl (unhide M) rfl (by simp [Vi.vwC]) ?_
       intro W5 N5
       replace M : Hid (Mm [] w W5 [(b1, 59, u8s s), (b2, 29, Vi.vwC Vi.zv), (b3, 29, Vi.vwC ⟨Le.ofB 0 ((s.drop 4).take 8), o1, x2, ((List.range 8).map (Vi.memV s)).take (0) ++ Vi.no8.drop (0)⟩)]) := hide N5
       clear N5
       have c3 := fits_cell ((unhide M).at 0 _ rfl) 3 _ (unhide H3)
       refine Stp.go ?_))
  constructor
  go_wp2_with fail
  clear c3
  go_loopw [5, 6] (fun xb xn wr => ∃ j : Nat, j ≤ 8 ∧ xb = .int .i64 (x3 / 2 ^ j) ∧ xn = .int .i64 j ∧ Hid (Mm [] w wr [(b1, 59, u8s s), (b2, 29, Vi.vwC Vi.zv), (b3, 29, Vi.vwC ⟨Le.ofB 0 ((s.drop 4).take 8), o1, x2, ((List.range 8).map (Vi.memV s)).take (j) ++ Vi.no8.drop (j)⟩)])) (fun _ i _ => (8 - intOf i).toNat)
  case atStart => exact ⟨0, by omega, by simp, rfl, M⟩
  case round =>
    clear M
    obtain ⟨j, hj, rfl, rfl, M⟩ := hrel
    by_cases hlt : j < 8
    · have hd : decide ((j : Int) < 8) = true := by simp; omega
      have hj8 : (j : Int) < 8 := by omega
      have HLT := hide hlt
      have HFL : Hid ((((List.range 8).map (Vi.memV s)).take (j) ++ Vi.no8.drop (j)).length = 8) := by show _ = _; simp [Vi.no8]; omega
      obtain ⟨y, hy⟩ : ∃ y, y = x3 / 2 ^ j := ⟨_, rfl⟩
      have hy0 : 0 ≤ y ∧ y ≤ 255 := by
        rw [hy]
        have h1 : (0 : Int) < 2 ^ j := Int.pow_pos (by omega)
        have h2 := Int.ediv_le_self (2 ^ j) hb30
        exact ⟨Int.ediv_nonneg hb30 (by omega), by omega⟩
      have HY : Hid (0 ≤ y ∧ y ≤ 9223372036854775807) := by show _ ∧ _; omega
      have HYN : Hid (x3 / 2 ^ (j + 1) = y / 2) := by show _ = _; rw [hy, Int.pow_succ, Int.ediv_ediv_of_nonneg (by exact Int.le_of_lt (Int.pow_pos (by omega)))]
      have HMJ : Hid (Vi.memV s j = (decide (y % 2 = 1), Le.ofB 0 ((s.drop (12 + 4 * j)).take 4))) := by show _ = _; rw [hy]; exact unhide HME j
      rw [← hy]
      obtain ⟨L, hL⟩ : ∃ L, L = ((List.range 8).map (Vi.memV s)).take (j) ++ Vi.no8.drop (j) := ⟨_, rfl⟩
      have HLL := hide hL
      rw [← hL] at M HFL
      clear hy hy0 hL
      obtain ⟨bb, hbb⟩ : ∃ bb, decide (y % 2 = 1) = bb := ⟨_, rfl⟩
      have HBB := hide hbb
      clear hbb
      have HO12 : Hid (12 + 4 * j + 4 ≤ 64) := by show _ ≤ _; omega
      go_wp2_with (
        first
        | (refine Vi.wpRemI rfl (.tmp 33) (.const (.int .i64 2)) rfl y 2 (y % 2) rfl (unhide HY) (by omega) rfl rfl ?_
           refine Stp.go ?_))
      constructor
      go_wp2_with (
        first
        | (refine wpEql31 rfl (.tmp 34) 1 rfl (y % 2) bb (unhide HBB) rfl ?_
           refine Stp.go ?_))
      constructor
      go_wp2_with (
        first
        | (refine wpStoreM1 Le.size4 rfl (.tmp 38) (.tmp 35) rfl rfl b3 (3 + j * 2) 2 (.bool bb) ⟨rfl, rfl⟩ rfl rfl (unhide M) rfl (by rw [Vi.vwC_len (unhide HFL)]; have := unhide HLT; omega) ?_
           intro W61 N61
           replace M : Hid (Mm [] w W61 [(b1, 59, u8s s), (b2, 29, Vi.vwC Vi.zv), (b3, 29, (Vi.vwC ⟨Le.ofB 0 ((s.drop 4).take 8), o1, x2, L⟩).set (3 + j * 2) (.bool bb))]) := hide N61
           clear N61
           refine Stp.go ?_))
      constructor
      go_wp2_with (
        first
        | (refine wpLoadA Vi.row28 rfl (.tmp 1) rfl b1 0 rfl (u8s s) (by rw [u8s_len]; exact unhide HSL) ((unhide M).at 0 _ rfl).range ?_
           refine Stp.go ?_))
      constructor
      go_wp2_with (
        first
        | (go_at_call 112
           refine (Le.said112 4 (12 + 4 * j) s _ (unhide HSS) (unhide HO12)).mono ?_
           rintro e W62 ⟨rfl, K62⟩
           replace M : Hid (Mm [] w W62 [(b1, 59, u8s s), (b2, 29, Vi.vwC Vi.zv), (b3, 29, (Vi.vwC ⟨Le.ofB 0 ((s.drop 4).take 8), o1, x2, L⟩).set (3 + j * 2) (.bool bb))]) := hide ((unhide M).step K62)
           clear K62
           refine Stp.go ?_))
      constructor
      go_wp2_with (
        first
        | (refine wpStoreM1 Le.size2 rfl (.tmp 47) (.tmp 44) rfl rfl b3 (3 + j * 2 + 1) 2 (.int .i64 (Le.ofB 0 ((s.drop (12 + 4 * j)).take 4))) ⟨rfl, rfl⟩ rfl rfl (unhide M) rfl (by rw [List.length_set, Vi.vwC_len (unhide HFL)]; have := unhide HLT; omega) ?_
           intro W63 N63
           replace M : Hid (Mm [] w W63 [(b1, 59, u8s s), (b2, 29, Vi.vwC Vi.zv), (b3, 29, Vi.vwC ⟨Le.ofB 0 ((s.drop 4).take 8), o1, x2, ((List.range 8).map (Vi.memV s)).take (j + 1) ++ Vi.no8.drop (j + 1)⟩)]) := by
             have h9 : Mm [] w W63 [(b1, 59, u8s s), (b2, 29, Vi.vwC Vi.zv), (b3, 29, ((Vi.vwC ⟨Le.ofB 0 ((s.drop 4).take 8), o1, x2, L⟩).set (3 + j * 2) (.bool bb)).set (3 + j * 2 + 1) (.int .i64 (Le.ofB 0 ((s.drop (12 + 4 * j)).take 4))))] := N63
             rw [vwC_set2 _ _ _ _ _ _ _ (by rw [unhide HFL]; exact unhide HLT), ← unhide HBB, ← unhide HMJ, unhide HLL, Vi.fill_next s j (unhide HLT)] at h9
             exact h9
           clear N63
           refine Stp.go ?_))
      constructor
      go_wp2_with (
        first
        | (refine wpQuo2 rfl (.tmp 48) rfl y (unhide HY) rfl ?_
           refine Stp.go ?_))
      constructor
      go_wp2_with fail
      go_roundw
      case rel => exact ⟨j + 1, by omega, by rw [unhide HYN], by first | rfl | go_num, M⟩
      case measure => simp [intOf]; omega
    · obtain rfl : j = 8 := by omega
      have h9 := unhide M
      rw [show ((List.range 8).map (Vi.memV s)).take (8) ++ Vi.no8.drop (8) = (List.range 8).map (Vi.memV s) by rfl, unhide HVV] at h9
      replace M := hide h9
      clear h9
      go_wp2_with fail
      refine wp_region_any mixed (wpAny_tq 14 rfl (by kernel_rfl) [some (aggV (Vi.vwC V)), some (.bool true), some (.bool false), some (.bool false), some (.pointer (some ⟨b3, 0, none⟩)), some (.int .i64 V.nu), some (.bool false), some (.bool false), some (.bool false), some (aggV (Vi.vwC V)), some (aggV (u8s q)), some (aggV (u8s s)), some (.bool true), some (.bool true)] rfl (by kernel_rfl) (by kernel_rfl) ?_ ?_)
      · intro i o' hi hsk ho a' w2 hout hin hk2
        replace hk2 : Kept [] wr w2 := ⟨hk2.os, hk2.tape, hk2.output, hk2.size, hk2.block⟩
        match i, ho, hsk with
        | 0, ho, hsk =>
          obtain rfl := Option.some.inj ho
          exact wp_loadA Vi.row26 (.tmp 4) rfl b3 0 ((hout 4 (by kernel_rfl)).trans rfl) (Vi.vwC V) (unhide HVL) (((unhide M).step hk2).at 2 _ rfl).range ⟨_, rfl, tq_is _ _ _ _ rfl, Kept.refl _ _, fun _ _ _ _ _ => trivial⟩
        | 1, ho, hsk =>
          obtain rfl := Option.some.inj ho
          have e0 : a'.eval (.tmp 50) = aggV (Vi.vwC V) := is_tq (hin 0 50 (by kernel_rfl) (by kernel_rfl)) rfl
          refine wp_callF 50 _ _ rfl #[aggV (Vi.vwC V)] (by simp [e0]) (cg50 _ _) ((unhide PM _).mono ?_)
          rintro e w3 ⟨rfl, hk3⟩
          exact ⟨_, rfl, _, rfl, tq_is _ _ _ _ rfl, hk3, fun _ _ _ _ _ => trivial⟩
        | 2, ho, hsk =>
          obtain rfl := Option.some.inj ho
          have e0 : a'.eval (.tmp 51) = .bool true := is_tq (hin 1 51 (by kernel_rfl) (by kernel_rfl)) rfl
          exact o_not (.tmp 51) rfl true e0 ⟨_, rfl, tq_is _ _ _ _ rfl, Kept.refl _ _, fun _ _ _ _ _ => trivial⟩
        | 3, ho, hsk =>
          obtain rfl := Option.some.inj ho
          have e0 : a'.eval (.tmp 52) = .bool false := is_tq (hin 2 52 (by kernel_rfl) (by kernel_rfl)) rfl
          exact wp_move (.tmp 52) rfl _ e0 ⟨_, rfl, tq_is _ _ _ _ rfl, Kept.refl _ _, fun _ _ _ _ _ => trivial⟩
        | 4, ho, hsk =>
          obtain rfl := Option.some.inj ho
          exact Vi.o_fld26a (.tmp 4) rfl b3 ((hout 4 (by kernel_rfl)).trans rfl) ⟨_, rfl, tq_is _ _ _ _ rfl, Kept.refl _ _, fun _ _ _ _ _ => trivial⟩
        | 5, ho, hsk =>
          obtain rfl := Option.some.inj ho
          have e0 : a'.eval (.tmp 54) = .pointer (some ⟨b3, 0, none⟩) := is_tq (hin 4 54 (by kernel_rfl) (by kernel_rfl)) rfl
          exact o_load2 (.tmp 54) rfl _ _ e0 (fits_cell (((unhide M).step hk2).at 2 _ rfl) 0 _ rfl) ⟨_, rfl, tq_is _ _ _ _ rfl, Kept.refl _ _, fun _ _ _ _ _ => trivial⟩
        | 6, ho, hsk =>
          obtain rfl := Option.some.inj ho
          have e0 : a'.eval (.tmp 55) = .int .i64 V.nu := is_tq (hin 5 55 (by kernel_rfl) (by kernel_rfl)) rfl
          exact o_eql20 (.tmp 55) rfl V.nu false (unhide HN) e0 ⟨_, rfl, tq_is _ _ _ _ rfl, Kept.refl _ _, fun _ _ _ _ _ => trivial⟩
        | 7, ho, hsk =>
          obtain rfl := Option.some.inj ho
          have e0 : a'.eval (.tmp 53) = .bool false := is_tq (hin 3 53 (by kernel_rfl) (by kernel_rfl)) rfl
          have e1 : a'.eval (.tmp 56) = .bool false := is_tq (hin 6 56 (by kernel_rfl) (by kernel_rfl)) rfl
          exact o_pickOr0 (.tmp 53) (.tmp 56) rfl _ e0 e1 ⟨_, rfl, tq_is _ _ _ _ rfl, Kept.refl _ _, fun _ _ _ _ _ => trivial⟩
        | 8, ho, hsk =>
          obtain rfl := Option.some.inj ho
          have e0 : a'.eval (.tmp 57) = .bool false := is_tq (hin 7 57 (by kernel_rfl) (by kernel_rfl)) rfl
          exact wp_move (.tmp 57) rfl _ e0 ⟨_, rfl, tq_is _ _ _ _ rfl, Kept.refl _ _, fun _ _ _ _ _ => trivial⟩
        | 9, ho, hsk =>
          obtain rfl := Option.some.inj ho
          exact wp_loadA Vi.row26 (.tmp 4) rfl b3 0 ((hout 4 (by kernel_rfl)).trans rfl) (Vi.vwC V) (unhide HVL) (((unhide M).step hk2).at 2 _ rfl).range ⟨_, rfl, tq_is _ _ _ _ rfl, Kept.refl _ _, fun _ _ _ _ _ => trivial⟩
        | 10, ho, hsk =>
          obtain rfl := Option.some.inj ho
          have e0 : a'.eval (.tmp 59) = aggV (Vi.vwC V) := is_tq (hin 9 59 (by kernel_rfl) (by kernel_rfl)) rfl
          refine wp_callF 113 _ _ rfl #[aggV (Vi.vwC V)] (by simp [e0]) (cg113 _ _) ((unhide PP _).mono ?_)
          rintro e w3 ⟨rfl, hk3⟩
          exact ⟨_, rfl, _, rfl, tq_is _ _ _ _ rfl, hk3, fun _ _ _ _ _ => trivial⟩
        | 11, ho, hsk =>
          obtain rfl := Option.some.inj ho
          exact wp_loadA Vi.row28 (.tmp 1) rfl b1 0 ((hout 1 (by kernel_rfl)).trans rfl) (u8s s) (by rw [u8s_len]; exact unhide HSL) (((unhide M).step hk2).at 0 _ rfl).range ⟨_, rfl, tq_is _ _ _ _ rfl, Kept.refl _ _, fun _ _ _ _ _ => trivial⟩
        | 12, ho, hsk =>
          obtain rfl := Option.some.inj ho
          have e0 : a'.eval (.tmp 60) = aggV (u8s q) := is_tq (hin 10 60 (by kernel_rfl) (by kernel_rfl)) rfl
          have e1 : a'.eval (.tmp 61) = aggV (u8s s) := is_tq (hin 11 61 (by kernel_rfl) (by kernel_rfl)) rfl
          exact Le.o_neqA 59 59 Vi.guard28 (.tmp 60) (.tmp 61) rfl (u8s q) (u8s s) e0 e1 false ((Vi.equal28 _ q s (unhide HQL) (unhide HSL)).trans (by rw [unhide HE])) ⟨_, rfl, tq_is _ _ _ _ rfl, Kept.refl _ _, fun _ _ _ _ _ => trivial⟩
        | 13, ho, hsk =>
          obtain rfl := Option.some.inj ho
          have e0 : a'.eval (.tmp 58) = .bool false := is_tq (hin 8 58 (by kernel_rfl) (by kernel_rfl)) rfl
          have e1 : a'.eval (.tmp 62) = .bool true := is_tq (hin 12 62 (by kernel_rfl) (by kernel_rfl)) rfl
          exact o_pickOr0 (.tmp 58) (.tmp 62) rfl _ e0 e1 ⟨_, rfl, tq_is _ _ _ _ rfl, Kept.refl _ _, fun _ _ _ _ _ => trivial⟩
      intro w9 hk9
      replace hk9 : Kept [] wr w9 := ⟨hk9.os, hk9.tape, hk9.output, hk9.size, hk9.block⟩
      simp only [valsQ, List.map_cons, List.map_nil, Option.getD_some, List.take_succ_cons, List.take_zero, putAll, Act.put, List.setIfInBounds_toArray, List.set_cons_succ, List.set_cons_zero]
      refine wpAny_done (by kernel_rfl) ?_ _
      replace M : Hid (Mm [] w w9 [(b1, 59, u8s s), (b2, 29, Vi.vwC Vi.zv), (b3, 29, Vi.vwC V)]) := hide ((unhide M).step hk9)
      clear hk9
      go_wp2_with (
        first
        | (refine wpBuildZ (Vi.vwC Vi.zv) Vi.build26 rfl rfl ?_
           refine Stp.go ?_))
      constructor
      go_wp2_with (
        first
        | (refine wpStoreM Vi.row26 rfl (.tmp 2) (.tmp 64) rfl rfl b2 1 (Vi.vwC Vi.zv) rfl rfl rfl (Vi.vwC_one _) (unhide M) rfl rfl ?_
           intro W71 N71
           replace M : Hid (Mm [] w W71 [(b1, 59, u8s s), (b2, 29, Vi.vwC Vi.zv), (b3, 29, Vi.vwC V)]) := hide N71
           clear N71
           refine Stp.go ?_))
      constructor
      go_wp2_with fail
      refine bodyPost_ret (res49 _ b2 (Vi.vwC Vi.zv) false _ rfl rfl rfl ((unhide M).at 1 _ rfl)) rfl ?_
      exact ⟨rfl, (unhide M).kept⟩

theorem byts_same {n : Nat} {s : List Int} (h : Vi.Byts n s) : Le.Byts n s := ⟨h.len, h.byte⟩
theorem rget49 (s : List Int) (w : World) (hs : Vi.Byts 64 s) : Calls Tryz.prog 49 #[aggV (u8s s)] w fun x w' => x = .returned (.tuple #[aggV (Vi.vwC (Vi.getV s).1), .bool (decide ((Vi.getV s).2 = 0))]) ∧ Kept [] w w' := by
  unfold Vi.getV
  by_cases hz : s = Vi.zs 64
  · rw [if_pos hz]
    exact gv_z s w hs.len (by simpa using hz)
  rw [if_neg hz]
  have hs' := byts_same hs
  have hzd : decide (s = Vi.zs 64) = false := by simpa using hz
  have hbyte : ∀ i, i < 64 → 0 ≤ s.getD i 0 ∧ s.getD i 0 < 256 := fun i hi => hs.byte _ (by rw [List.getD_eq_getElem?_getD, List.getElem?_eq_getElem (by rw [hs.len]; exact hi)]; exact List.getElem_mem _)
  have A := fun i hi => hide (Le.u8_at hs.len i hi)
  have hV : (⟨Le.ofB 0 ((s.drop 4).take 8), decide (s.getD 1 0 = 1), s.getD 2 0, (List.range 8).map (Vi.memV s)⟩ : Vi.Vw) = Vi.viewV s := by unfold Vi.viewV; rw [ofB_same]
  have hme : ∀ i, Vi.memV s i = (decide (s.getD 3 0 / 2 ^ i % 2 = 1), Le.ofB 0 ((s.drop (12 + 4 * i)).take 4)) := fun i => by unfold Vi.memV; rw [ofB_same]
  have hno : (Vi.viewV s).may = false → ¬ Vi.putV (Vi.viewV s) = (s, 0) := fun hm => by unfold Vi.putV; rw [if_pos hm]; intro h; have := congrArg Prod.snd h; simp at this
  by_cases hx4 : 64 < s.getD 4 0
  · have hm : (Vi.viewV s).may = false := by
      have h9 := Le.ofB_big hs' 4 (by omega) hx4
      rw [← hV]
      unfold Vi.Vw.may
      simp only
      rw [if_neg (by omega), decide_eq_false (by omega), Bool.false_and]
    rw [if_neg (hno hm)]
    exact gv_big s w hs' hzd _ _ _ _ (A 1 (by omega)) (A 2 (by omega)) (A 3 (by omega)) (A 4 (by omega)) _ rfl (hbyte 2 (by omega)) (decide_eq_true hx4)
  have h4 := decide_eq_false hx4
  cases hm : (Vi.viewV s).may with
  | false =>
    rw [if_neg (hno hm)]
    exact gv_a s w hs' hzd _ _ _ _ (A 1 (by omega)) (A 2 (by omega)) (A 3 (by omega)) (A 4 (by omega)) _ rfl (hbyte 2 (by omega)) h4 (hbyte 3 (by omega)) _ hV hme hm
  | true =>
    have h0 : (Vi.putV (Vi.viewV s)).2 = 0 := by unfold Vi.putV; rw [if_neg (by rw [hm]; simp)]; split <;> rfl
    by_cases hn : (Vi.viewV s).nu = 0
    · have hf : Vi.viewV s = Vi.fv := by have h9 := hm; unfold Vi.Vw.may at h9; rw [if_pos hn] at h9; exact of_decide_eq_true h9
      rw [if_neg (fun h => hz (by have h9 := congrArg Prod.fst h; rw [hf] at h9; exact h9.symm.trans (by kernel_rfl)))]
      exact gv_b s w hs' hzd _ _ _ _ (A 1 (by omega)) (A 2 (by omega)) (A 3 (by omega)) (A 4 (by omega)) _ rfl (hbyte 2 (by omega)) h4 (hbyte 3 (by omega)) _ hV hme hm (decide_eq_true hn)
    · have hp := fun W => rput113 (Vi.viewV s) W (Vi.viewV_ok hs) hm
      have hl := Vi.putV_len (Vi.viewV s) (Vi.viewV_ok hs).len
      by_cases he : (Vi.putV (Vi.viewV s)).1 = s
      · rw [if_pos (Prod.ext he h0)]
        exact gv_c s w hs' hzd _ _ _ _ (A 1 (by omega)) (A 2 (by omega)) (A 3 (by omega)) (A 4 (by omega)) _ rfl (hbyte 2 (by omega)) h4 (hbyte 3 (by omega)) _ hV hme hm (decide_eq_false hn) _ hl hp (decide_eq_true he)
      · rw [if_neg (fun h => he (by rw [h]))]
        exact gv_d s w hs' hzd _ _ _ _ (A 1 (by omega)) (A 2 (by omega)) (A 3 (by omega)) (A 4 (by omega)) _ rfl (hbyte 2 (by omega)) h4 (hbyte 3 (by omega)) _ hV hme hm (decide_eq_false hn) _ hl hp (decide_eq_false he)

end Go.Proofs.YtcfflbafclmheaaGreatDoor
