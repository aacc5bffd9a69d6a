/-
  The document's Get.
-/
import Derived.Test.YtbpnnbbinhdoiaaDoorPf
namespace Go.Proofs.YtbpnnbbinhdoiaaDoor
set_option maxRecDepth 100000
open Go.RowKit


theorem cg15 (vs : Array Value) (w : World) : (callFunc 15 vs).run Tryd.prog w = .ok (.enter 15 vs) w := by kernel_rfl
theorem res10 (w : World) (z : Nat) (vs : List Value) (e : Int) (tmps : Array Value) (h4 : tmps[2]?.getD undef = P0 z) (h5 : tmps[3]?.getD undef = .int .i64 e) (hl : vs.length = 19) (hb : Blk w z 26 vs) : (results Tryd.f10 tmps).run Tryd.prog w = .ok (.tuple #[aggV vs, .int .i64 e]) w := by
  have := loadV row26 hl hb
  simp [results, Tryd.results10, h4, h5, this, asAddr]
theorem build26q (w : World) (f : Int) (o : Bool) : (Instr.build 26 #[(1, .bool o), (2, .int .i64 f)]).run Tryd.prog w = .ok (aggV (vwC ⟨0, o, f, no8⟩)) w := by kernel_rfl
theorem wrap_two (n x : Int) : wrap64 (wrap64 (n * 256) + x) = wrap64 (n * 256 + x) := by unfold wrap64; omega
section
variable {o : Oper} {a : Act} {w : World} {K : Act → World → Prop} {Q : Exit → Act → World → Prop}
theorem o_mulc (x : Operand) (ho : o.op = .binOp .mul 2 x (.const (.int .i64 256)) 2) (m : Int) (hx : a.eval x = .int .i64 m) (h : K (a.put o.dst (.int .i64 (wrap64 (m * 256)))) w) : o.wp Tryd.prog a w K Q := by
  have hw : IntKind.i64.wrap (m * 256) = wrap64 (m * 256) := by rw [IntKind.wrap_i64, wrap64]
  unfold Oper.wp execOp
  simp only [ho, hx]
  simp [go_sem, Act.eval, hw]
  exact h
theorem o_cv52 (x : Operand) (ho : o.op = .convert 5 2 x) (m : Int) (hm : 0 ≤ m ∧ m < 256) (hx : a.eval x = .int .u8 m) (h : K (a.put o.dst (.int .i64 m)) w) : o.wp Tryd.prog a w K Q := by
  have hw : IntKind.i64.wrap m = m := by rw [IntKind.wrap_i64]; omega
  unfold Oper.wp execOp
  simp only [ho, hx]
  simp [go_sem, hw]
  exact h
theorem o_addw (x y : Operand) (ho : o.op = .binOp .add 2 x y 2) (m n r : Int) (hr : wrap64 (m + n) = r) (hx : a.eval x = .int .i64 m) (hy : a.eval y = .int .i64 n) (h : K (a.put o.dst (.int .i64 r)) w) : o.wp Tryd.prog a w K Q := by
  have hw : IntKind.i64.wrap (m + n) = r := by rw [IntKind.wrap_i64, ← hr, wrap64]
  unfold Oper.wp execOp
  simp only [ho, hx, hy]
  simp [go_sem, hw]
  exact h
theorem o_idxv (x y : Operand) (ho : o.op = .indexAddr 28 x y) (b k : Nat) (hk : k < 64) (hx : a.eval x = P0 b) (hy : a.eval y = .int .i64 k) (h : K (a.put o.dst (.pointer (some ⟨b, k, none⟩))) w) : o.wp Tryd.prog a w K Q := by
  have hk2 : (k : Int) < 64 := by omega
  unfold Oper.wp execOp
  simp only [ho, hx, hy]
  simp [go_sem, hk2]
  exact h
theorem o_st2 (x y : Operand) (ho : o.op = .store 2 x y) (b i TT : Nat) (us : List Value) (n : Int) (hx : a.eval x = .pointer (some ⟨b, i, none⟩)) (hy : a.eval y = .int .i64 n) (hB : Blk w b TT us) (hi : i < us.length)
    (h : ∀ W, Blk W b TT (us.set i (.int .i64 n)) → Kept [b] w W → K (a.put o.dst undef) W) : o.wp Tryd.prog a w K Q := by
  have hst := storeVar1 size2 hB hi (.int .i64 n) rfl rfl
  unfold Oper.wp execOp
  simp only [ho, hx, hy, Instr.storeAt, Instr.sureAddr, Sem.run_bind, Sem.run_pure, Result.andThen_ok, hst]
  exact h _ (hB.set (.int .i64 n)) ((Kept.refl _ _).setCell (by simp) _)
theorem o_mul4 (x : Operand) (ho : o.op = .binOp .mul 3 (.const (.int .i64 4)) x 3) (m : Nat) (hm : m < 8) (hx : a.eval x = .int .i64 m) (h : K (a.put o.dst (.int .i64 ((4 * m : Nat) : Int))) w) : o.wp Tryd.prog a w K Q := by
  have hw : IntKind.i64.wrap (4 * (m : Int)) = 4 * (m : Int) := by rw [IntKind.wrap_i64]; omega
  have e : ((4 * m : Nat) : Int) = 4 * (m : Int) := by omega
  rw [e] at h
  unfold Oper.wp execOp
  simp only [ho, hx]
  simp [go_sem, Act.eval, hw]
  exact h
theorem o_add12 (x : Operand) (ho : o.op = .binOp .add 3 (.const (.int .i64 12)) x 3) (m : Nat) (hm : m < 100) (hx : a.eval x = .int .i64 m) (h : K (a.put o.dst (.int .i64 ((12 + m : Nat) : Int))) w) : o.wp Tryd.prog a w K Q := by
  have hw : IntKind.i64.wrap (12 + (m : Int)) = 12 + (m : Int) := by rw [IntKind.wrap_i64]; omega
  have e : ((12 + m : Nat) : Int) = 12 + (m : Int) := by omega
  rw [e] at h
  unfold Oper.wp execOp
  simp only [ho, hx]
  simp [go_sem, Act.eval, hw]
  exact h
theorem o_addn (x y : Operand) (ho : o.op = .binOp .add 3 x y 3) (m n : Nat) (hm : m + n < 1000) (hx : a.eval x = .int .i64 m) (hy : a.eval y = .int .i64 n) (h : K (a.put o.dst (.int .i64 ((m + n : Nat) : Int))) w) : o.wp Tryd.prog a w K Q := by
  have hw : IntKind.i64.wrap ((m : Int) + (n : Int)) = (m : Int) + (n : Int) := by rw [IntKind.wrap_i64]; omega
  have e : ((m + n : Nat) : Int) = (m : Int) + (n : Int) := by omega
  rw [e] at h
  unfold Oper.wp execOp
  simp only [ho, hx, hy]
  simp [go_sem, hw]
  exact h
theorem o_fld23b (x : Operand) (ho : o.op = .fieldAddr 23 x 1) (b k : Nat) (hx : a.eval x = .pointer (some ⟨b, k, none⟩)) (h : K (a.put o.dst (.pointer (some ⟨b, k + 1, none⟩))) w) : o.wp Tryd.prog a w K Q := by
  unfold Oper.wp execOp
  simp only [ho, hx]
  simp [go_sem]
  exact h
end
/-- One block turns at an operation that waits for the reading of the operation r. -/
@[reducible] def SW (w : World) (mk : Vw → List (Nat × Nat × List Value)) (S0 S1 : Vw) (r m a k : Nat) (d : Nat → Bool) (_ : Nat → Value) (W : World) : Prop :=
  ∃ S, Mm w W (mk S) ∧ (d k = false → S = S0) ∧ (d k = true → S = S1) ∧ (d k = true → d r = true) ∧ (d m = true → d r = true) ∧ (d a = true → d r = true)
theorem SW.loc {w : World} {mk : Vw → List (Nat × Nat × List Value)} {S0 S1 : Vw} {r m a k : Nat} : ∀ d d' vs vs' W, (∀ i ∈ [r, m, a, k], d i = d' i ∧ vs i = vs' i) → SW w mk S0 S1 r m a k d vs W → SW w mk S0 S1 r m a k d' vs' W := by
  intro d d' vs vs' W H h
  have e0 := (H r (by simp)).1
  have e1 := (H m (by simp)).1
  have e2 := (H a (by simp)).1
  have e3 := (H k (by simp)).1
  unfold SW at h ⊢
  rw [← e0, ← e1, ← e2, ← e3]
  exact h
/-- The members read so far: j whole ones, and the next one's epoch from some bytes, if it is under way. -/
def setEp (l : List (Bool × Int)) (j : Nat) (e : Int) : List (Bool × Int) := l.set j ((l.getD j (false, 0)).1, e)
theorem vwC_setnu (n : Int) (v : Vw) : (vwC v).set 0 (.int .i64 n) = vwC ⟨n, v.op, v.fd, v.ms⟩ := rfl
theorem memsC_setE : ∀ (l : List (Bool × Int)) (j : Nat) (e : Int), (memsC l).set (2 * j + 1) (.int .i64 e) = memsC (setEp l j e) := by
  intro l
  induction l with
  | nil => intro j e; simp [memsC, setEp]
  | cons x l ih =>
    intro j e
    cases j with
    | zero => rfl
    | succ j =>
      rw [memsC_cons, show 2 * (j + 1) + 1 = 2 * j + 1 + 1 + 1 by omega, List.set_cons_succ, List.set_cons_succ, ih j e]
      rfl
theorem memsC_setB : ∀ (l : List (Bool × Int)) (j : Nat) (b : Bool), (memsC l).set (2 * j) (.bool b) = memsC (l.set j (b, (l.getD j (false, 0)).2)) := by
  intro l
  induction l with
  | nil => intro j e; simp [memsC]
  | cons x l ih =>
    intro j b
    cases j with
    | zero => rfl
    | succ j =>
      rw [memsC_cons, show 2 * (j + 1) = 2 * j + 1 + 1 by omega, List.set_cons_succ, List.set_cons_succ, ih j b]
      rfl
theorem vwC_setE (v : Vw) (j : Nat) (e : Int) : (vwC v).set (3 + j * 2 + 1) (.int .i64 e) = vwC ⟨v.nu, v.op, v.fd, setEp v.ms j e⟩ := by
  unfold vwC
  rw [show 3 + j * 2 + 1 = 2 * j + 1 + 1 + 1 + 1 by omega, List.set_cons_succ, List.set_cons_succ, List.set_cons_succ, memsC_setE]
theorem vwC_setB (v : Vw) (j : Nat) (b : Bool) : (vwC v).set (3 + j * 2) (.bool b) = vwC ⟨v.nu, v.op, v.fd, v.ms.set j (b, (v.ms.getD j (false, 0)).2)⟩ := by
  unfold vwC
  rw [show 3 + j * 2 = 2 * j + 1 + 1 + 1 by omega, List.set_cons_succ, List.set_cons_succ, List.set_cons_succ, memsC_setB]

section
variable {ops : Array Oper} {rest : List Oper} {op : Oper} {a : Act} {w : World} {Q : Exit → Act → World → Prop}
theorem wpRem2 (hgd : op.guard = none) (x : Operand) (ho : op.op = .binOp .rem 3 x (.const (.int .i64 2)) 3) (m : Int) (hm : 0 ≤ m ∧ m < 256) (hx : a.eval x = .int .i64 m)
    (h : wpList Tryd.prog ops Q rest (a.put op.dst (.int .i64 (m % 2))) w) : wpList Tryd.prog ops Q (op :: rest) a w :=
  wpList_plain hgd fun K hK => by
    have ht : Int.tmod m 2 = m % 2 := Int.tmod_eq_emod_of_nonneg hm.1
    unfold Oper.wp execOp
    simp only [ho, hx]
    simp [go_sem, Act.eval, ht]
    exact hK _ _ h
theorem wpQuo2 (hgd : op.guard = none) (x : Operand) (ho : op.op = .binOp .quo 3 x (.const (.int .i64 2)) 3) (m : Int) (hm : 0 ≤ m ∧ m < 256) (hx : a.eval x = .int .i64 m)
    (h : wpList Tryd.prog ops Q rest (a.put op.dst (.int .i64 (m / 2))) w) : wpList Tryd.prog ops Q (op :: rest) a w :=
  wpList_plain hgd fun K hK => by
    have ht : Int.tdiv m 2 = m / 2 := Int.tdiv_eq_ediv_of_nonneg hm.1
    have hw : IntKind.i64.wrap (m / 2) = m / 2 := by rw [IntKind.wrap_i64]; omega
    unfold Oper.wp execOp
    simp only [ho, hx]
    simp [go_sem, Act.eval, ht, hw]
    exact hK _ _ h
end
set_option maxHeartbeats 2000000 in
theorem rget_z (s : List Int) (w : World) (hF : First w) (hs : Byts 64 s) (hz : decide (s = zs 64) = true) : Calls Tryd.prog 10 #[aggV (u8s s)] w fun x w' => x = .returned (two (fv, 0)) ∧ Kept [] w w' := by
  have hg : ∀ k, k < 64 → (u8s s)[k]? = some (.int .u8 (s.getD k 0)) ∧ (0 ≤ s.getD k 0 ∧ s.getD k 0 < 256) := by
    intro k hk
    have hk2 : k < s.length := by rw [hs.len]; exact hk
    have e : s.getD k 0 = s[k] := by rw [List.getD_eq_getElem?_getD, List.getElem?_eq_getElem hk2]; rfl
    exact ⟨by simp only [u8s, List.getElem?_map]; rw [List.getElem?_eq_getElem hk2, e]; rfl, by rw [e]; exact hs.byte _ (List.getElem_mem _)⟩
  have HG := hide hg
  obtain ⟨y1, hy1⟩ : ∃ y, y = s.getD 1 0 := ⟨_, rfl⟩
  obtain ⟨y2, hy2⟩ : ∃ y, y = s.getD 2 0 := ⟨_, rfl⟩
  obtain ⟨y3, hy3⟩ : ∃ y, y = s.getD 3 0 := ⟨_, rfl⟩
  have g1 := hg 1 (by omega)
  have g2 := hg 2 (by omega)
  have g3 := hg 3 (by omega)
  rw [← hy1] at g1
  rw [← hy2] at g2
  rw [← hy3] at g3
  have HC1 := hide g1.1
  have HC2 := hide g2.1
  have HC3 := hide g3.1
  obtain ⟨x20, x21⟩ := g2.2
  obtain ⟨x30, x31⟩ := g3.2
  have HY1 := hide hy1
  have HY2 := hide hy2
  have HY3 := hide hy3
  clear g1 g2 g3 hy1 hy2 hy3
  clear hg
  go_enter Tryd.func10, Tryd.ntmps10
  have M : Hid (Mm w w []) := hide (Mm.init hF)
  go_wp2_with (
    first
    | (refine wpBoxV rfl (.tmp 0) rfl (u8s s) rfl ?_
       intro W1 b1 e1 B1 K1
       replace M : Hid (Mm w W1 [(b1, 28, u8s s)]) := hide ((unhide M).new e1 B1 K1)
       clear e1 B1 K1
       refine Stp.go ?_))
  constructor
  go_wp2_with (
    first
    | (refine wpAllocW (vwC zv) zero26 2 rfl rfl rfl ?_
       intro W2 b2 e2 B2 K2
       replace M : Hid (Mm w W2 [(b1, 28, u8s s), (b2, 26, vwC zv)]) := hide ((unhide M).new e2 B2 K2)
       clear e2 B2 K2
       have c1 := fits_cell ((unhide M).at 0 _ rfl) 1 _ (unhide HC1)
       have c2 := fits_cell ((unhide M).at 0 _ rfl) 2 _ (unhide HC2)
       refine Stp.go ?_))
  constructor
  go_wp2_with (
    first
    | (refine wpBuildP rfl _ rfl #[(1, .bool (y1 == 1)), (2, .int .i64 y2)] (by simp only [List.map_toArray, List.map_cons, List.map_nil]; rfl) (vwC ⟨0, (y1 == 1), y2, no8⟩) (build26q _ _ _) ?_
       refine Stp.go ?_))
  constructor
  go_wp2_with (
    first
    | (refine wpNew row26 (vwC zv) rfl zero26 4 rfl rfl rfl (.tmp 15) rfl rfl rfl (vwC ⟨0, (y1 == 1), y2, no8⟩) rfl (vwC_one _) (by kernel_rfl) (by kernel_rfl) ?_
       intro W3 b3 e3 B3 K3
       replace M : Hid (Mm w W3 [(b1, 28, u8s s), (b2, 26, vwC zv), (b3, 26, vwC ⟨0, (y1 == 1), y2, no8⟩)]) := hide ((unhide M).new e3 B3 K3)
       clear e3 B3 K3
       clear c1 c2
       refine Stp.go ?_))
  constructor
  go_wp2_with (
    first
    | (refine wpLoadA row28 rfl (.tmp 1) rfl b1 0 rfl (u8s s) (by rw [u8s_len]; exact hs.len) ((unhide M).at 0 _ rfl).range ?_
       refine Stp.go ?_))
  constructor
  go_wp2_with (
    first
    | (refine wpBuildZ (T := 28) (u8s (zs 64)) build28 rfl rfl ?_
       refine Stp.go ?_))
  constructor
  go_wp2_with (
    first
    | (refine wpEqlA 28 28 guard28 (.tmp 16) (.tmp 17) rfl rfl (u8s s) (u8s (zs 64)) rfl rfl true ((equal28 _ s (zs 64) hs.len (by simp [zs])).trans (by rw [hz])) ?_
       refine Stp.go ?_))
  constructor
  go_wp2_with (
    first
    | (go_at_call 31
       refine (first31 _).mono ?_
       rintro e W4 ⟨rfl, K4⟩
       replace M : Hid (Mm w W4 [(b1, 28, u8s s), (b2, 26, vwC zv), (b3, 26, vwC ⟨0, (y1 == 1), y2, no8⟩)]) := hide ((unhide M).step K4)
       clear K4
       refine Stp.go ?_))
  constructor
  go_wp2_with (
    first
    | (refine wpStoreM row26 rfl (.tmp 2) (.tmp 19) rfl rfl b2 1 (vwC fv) rfl rfl rfl (vwC_one _) (unhide M) rfl rfl ?_
       intro W5 N5
       replace M : Hid (Mm w W5 [(b1, 28, u8s s), (b2, 26, vwC fv), (b3, 26, vwC ⟨0, (y1 == 1), y2, no8⟩)]) := hide N5
       clear N5
       refine Stp.go ?_))
  constructor
  go_wp2_with fail
  refine bodyPost_ret (res10 _ b2 (vwC fv) 0 _ rfl rfl rfl ((unhide M).at 1 _ rfl)) rfl ?_
  exact ⟨rfl, (unhide M).kept⟩

theorem set_set (l : List (Bool × Int)) (j : Nat) (a b : Int) (n : Int) (o : Bool) (f : Int) : (⟨n, o, f, setEp (setEp l j a) j b⟩ : Vw) = ⟨n, o, f, setEp l j b⟩ := by
  congr 1
  unfold setEp
  rw [List.set_set]
  by_cases h : j < l.length
  · simp [h, List.getD_eq_getElem?_getD]
  · rw [List.set_eq_of_length_le (by omega), List.set_eq_of_length_le (by omega)]
theorem lj_at (s : List Int) (j : Nat) (h : j < 8) : ((((List.range 8).map (memV s)).take j ++ no8.drop j).getD j (false, 0)).2 = 0 := by
  rcases (show j = 0 ∨ j = 1 ∨ j = 2 ∨ j = 3 ∨ j = 4 ∨ j = 5 ∨ j = 6 ∨ j = 7 by omega) with rfl | rfl | rfl | rfl | rfl | rfl | rfl | rfl <;> rfl
theorem lj_set (s : List Int) (j : Nat) (h : j < 8) (b : Bool) (e : Int) : setEp ((((List.range 8).map (memV s)).take j ++ no8.drop j).set j (b, 0)) j e = (((List.range 8).map (memV s)).take j ++ no8.drop j).set j (b, e) := by
  have hl : (((List.range 8).map (memV s)).take j ++ no8.drop j).length = 8 := by simp [no8]; omega
  unfold setEp
  rw [List.set_set]
  congr 1
  simp [List.getD_eq_getElem?_getD, hl, h]
theorem lj_ep (s : List Int) (j : Nat) (h : j < 8) (b : Bool) (e n : Int) (o : Bool) (f : Int) : (vwC ⟨n, o, f, setEp ((((List.range 8).map (memV s)).take j ++ no8.drop j).set j (b, 0)) j e⟩)[3 + j * 2 + 1]? = some (.int .i64 e) := by
  have hl : (((List.range 8).map (memV s)).take j ++ no8.drop j).length = 8 := by simp [no8]; omega
  rw [lj_set s j h]
  have := (vwC_at (v := ⟨n, o, f, (((List.range 8).map (memV s)).take j ++ no8.drop j).set j (b, e)⟩) (i := j) (m := (b, e)) (by simp [hl, h])).2
  rw [Nat.mul_comm] at this
  exact this
theorem drop_step (s : List Int) (hs : s.length = 64) (i m : Nat) (hi : i < 64) (hm : 0 < m) : (s.drop i).take m = s.getD i 0 :: (s.drop (i + 1)).take (m - 1) := by
  obtain ⟨k, rfl⟩ : ∃ k, m = k + 1 := ⟨m - 1, by omega⟩
  rw [List.drop_eq_getElem_cons (by omega), List.take_succ_cons, List.getD_eq_getElem?_getD, List.getElem?_eq_getElem (by omega)]
  rfl
set_option maxHeartbeats 16000000 in
theorem rget_s (s : List Int) (w : World) (hF : First w) (hs : Byts 64 s) (hz : decide (s = zs 64) = false) : Calls Tryd.prog 10 #[aggV (u8s s)] w fun x w' => x = .returned (two (getV s)) ∧ Kept [] w w' := by
  have hg : ∀ k, k < 64 → (u8s s)[k]? = some (.int .u8 (s.getD k 0)) ∧ (0 ≤ s.getD k 0 ∧ s.getD k 0 < 256) := by
    intro k hk
    have hk2 : k < s.length := by rw [hs.len]; exact hk
    have e : s.getD k 0 = s[k] := by rw [List.getD_eq_getElem?_getD, List.getElem?_eq_getElem hk2]; rfl
    exact ⟨by simp only [u8s, List.getElem?_map]; rw [List.getElem?_eq_getElem hk2, e]; rfl, by rw [e]; exact hs.byte _ (List.getElem_mem _)⟩
  have HG := hide hg
  obtain ⟨y1, hy1⟩ : ∃ y, y = s.getD 1 0 := ⟨_, rfl⟩
  obtain ⟨y2, hy2⟩ : ∃ y, y = s.getD 2 0 := ⟨_, rfl⟩
  obtain ⟨y3, hy3⟩ : ∃ y, y = s.getD 3 0 := ⟨_, rfl⟩
  have g1 := hg 1 (by omega)
  have g2 := hg 2 (by omega)
  have g3 := hg 3 (by omega)
  rw [← hy1] at g1
  rw [← hy2] at g2
  rw [← hy3] at g3
  have HC1 := hide g1.1
  have HC2 := hide g2.1
  have HC3 := hide g3.1
  obtain ⟨x20, x21⟩ := g2.2
  obtain ⟨x30, x31⟩ := g3.2
  have HY1 := hide hy1
  have HY2 := hide hy2
  have HY3 := hide hy3
  clear g1 g2 g3 hy1 hy2 hy3
  clear hg
  go_enter Tryd.func10, Tryd.ntmps10
  have M : Hid (Mm w w []) := hide (Mm.init hF)
  go_wp2_with (
    first
    | (refine wpBoxV rfl (.tmp 0) rfl (u8s s) rfl ?_
       intro W1 b1 e1 B1 K1
       replace M : Hid (Mm w W1 [(b1, 28, u8s s)]) := hide ((unhide M).new e1 B1 K1)
       clear e1 B1 K1
       refine Stp.go ?_))
  constructor
  go_wp2_with (
    first
    | (refine wpAllocW (vwC zv) zero26 2 rfl rfl rfl ?_
       intro W2 b2 e2 B2 K2
       replace M : Hid (Mm w W2 [(b1, 28, u8s s), (b2, 26, vwC zv)]) := hide ((unhide M).new e2 B2 K2)
       clear e2 B2 K2
       have c1 := fits_cell ((unhide M).at 0 _ rfl) 1 _ (unhide HC1)
       have c2 := fits_cell ((unhide M).at 0 _ rfl) 2 _ (unhide HC2)
       refine Stp.go ?_))
  constructor
  go_wp2_with (
    first
    | (refine wpBuildP rfl _ rfl #[(1, .bool (y1 == 1)), (2, .int .i64 y2)] (by simp only [List.map_toArray, List.map_cons, List.map_nil]; rfl) (vwC ⟨0, (y1 == 1), y2, no8⟩) (build26q _ _ _) ?_
       refine Stp.go ?_))
  constructor
  go_wp2_with (
    first
    | (refine wpNew row26 (vwC zv) rfl zero26 4 rfl rfl rfl (.tmp 15) rfl rfl rfl (vwC ⟨0, (y1 == 1), y2, no8⟩) rfl (vwC_one _) (by kernel_rfl) (by kernel_rfl) ?_
       intro W3 b3 e3 B3 K3
       replace M : Hid (Mm w W3 [(b1, 28, u8s s), (b2, 26, vwC zv), (b3, 26, vwC ⟨0, (y1 == 1), y2, no8⟩)]) := hide ((unhide M).new e3 B3 K3)
       clear e3 B3 K3
       clear c1 c2
       refine Stp.go ?_))
  constructor
  go_wp2_with (
    first
    | (refine wpLoadA row28 rfl (.tmp 1) rfl b1 0 rfl (u8s s) (by rw [u8s_len]; exact hs.len) ((unhide M).at 0 _ rfl).range ?_
       refine Stp.go ?_))
  constructor
  go_wp2_with (
    first
    | (refine wpBuildZ (T := 28) (u8s (zs 64)) build28 rfl rfl ?_
       refine Stp.go ?_))
  constructor
  go_wp2_with (
    first
    | (refine wpEqlA 28 28 guard28 (.tmp 16) (.tmp 17) rfl rfl (u8s s) (u8s (zs 64)) rfl rfl false ((equal28 _ s (zs 64) hs.len (by simp [zs])).trans (by rw [hz])) ?_
       refine Stp.go ?_))
  constructor
  go_wp2_with fail
  go_loopw [5] (fun xi wr => ∃ (i : Nat) (n : Int), 4 ≤ i ∧ i ≤ 12 ∧ xi = .int .i64 i ∧ Hid ((ofB 0 ((s.drop 4).take 8)) = ofB n ((s.drop i).take (12 - i))) ∧ Hid (Mm w wr [(b1, 28, u8s s), (b2, 26, vwC zv), (b3, 26, vwC ⟨n, (y1 == 1), y2, no8⟩)])) (fun i _ => 12 - (intOf i).toNat)
  case atStart => exact ⟨4, 0, by omega, by omega, rfl, rfl, M⟩
  case round =>
    clear M
    obtain ⟨i, n, hi4, hi12, rfl, HE, M⟩ := hrel
    by_cases hlt : i < 12
    · have hltI : (i : Int) < 12 := by omega
      have hd : decide ((i : Int) < 12) = true := by simpa using hltI
      have HI64 : Hid (i < 64) := by show _ < _; omega
      have HE2 : Hid ((ofB 0 ((s.drop 4).take 8)) = ofB (wrap64 (n * 256 + s.getD i 0)) ((s.drop (i + 1)).take (12 - (i + 1)))) := by
        show _ = _
        rw [unhide HE, drop_step s hs.len i (12 - i) (by omega) (by omega), ofB, show 12 - i - 1 = 12 - (i + 1) by omega]
      clear HE
      go_wp2_with fail
      refine wp_region_any mixed (wpAny_gx 10 rfl (by kernel_rfl) [some (.pointer (some ⟨b3, 0, none⟩)), some (.int .i64 n), some (.int .i64 (wrap64 (n * 256))), some (.int .i64 i), some (.pointer (some ⟨b1, i, none⟩)), some (.int .u8 (s.getD i 0)), some (.int .i64 (s.getD i 0)), some (.int .i64 (wrap64 (n * 256 + s.getD i 0))), some (.pointer (some ⟨b3, 0, none⟩)), none] rfl (by kernel_rfl) (fun l vs W => (SW w (fun S : Vw => [(b1, 28, u8s s), (b2, 26, vwC zv), (b3, 26, vwC S)]) ⟨n, (y1 == 1), y2, no8⟩ ⟨wrap64 (n * 256 + s.getD i 0), (y1 == 1), y2, no8⟩ 1 2 7 9) (fun i => l.getD i false) vs W) (⟨_, (unhide M).drew, (fun _ => rfl), (fun h => by cases h), (fun h => by cases h), (fun h => by cases h), fun h => by cases h⟩) ?_ ?_)
      · intro ix o' hi ho a' w2 l vs hls hlf hJ hout hin hdep hnot
        match ix, ho with
        | 0, ho =>
          obtain rfl := Option.some.inj ho
          have e0 := hout 4 (by kernel_rfl)
          replace e0 : a'.eval (.tmp 4) = _ := e0.trans rfl
          exact o_fld26a (.tmp 4) rfl b3 e0 ⟨_, rfl, told_of rfl, keepG (St := (SW w (fun S : Vw => [(b1, 28, u8s s), (b2, 26, vwC zv), (b3, 26, vwC S)]) ⟨n, (y1 == 1), y2, no8⟩ ⟨wrap64 (n * 256 + s.getD i 0), (y1 == 1), y2, no8⟩ 1 2 7 9)) [1, 2, 7, 9] SW.loc (by omega) (by decide) hJ⟩
        | 1, ho =>
          obtain rfl := Option.some.inj ho
          have e0 : a'.eval (.tmp 24) = .pointer (some ⟨b3, 0, none⟩) := by have h9 := hin 0 24 (by kernel_rfl) (by kernel_rfl); exact h9.1.trans (told_is _ h9.2 rfl)
          obtain ⟨S, hM, hS0, hS1, h9, hm, ha⟩ := hJ
          have h9f : l.getD 9 false = false := by
            cases h : l.getD 9 false with
            | false => rfl
            | true => have h1 : l.getD 1 false = true := h9 h; have h8 : l.getD 1 false = false := hlf; rw [h8] at h1; cases h1
          obtain rfl := hS0 h9f
          exact o_load2 (.tmp 24) rfl _ _ e0 (fits_cell (hM.at 2 _ rfl) 0 _ rfl) ⟨_, rfl, told_of rfl, nextG (St := (SW w (fun S : Vw => [(b1, 28, u8s s), (b2, 26, vwC zv), (b3, 26, vwC S)]) ⟨n, (y1 == 1), y2, no8⟩ ⟨wrap64 (n * 256 + s.getD i 0), (y1 == 1), y2, no8⟩ 1 2 7 9)) (by omega) ⟨_, hM, (fun _ => rfl), (fun h => by have h8 : l.getD 9 false = true := h; rw [h9f] at h8; cases h8), (fun _ => rfl), (fun _ => rfl), fun _ => rfl⟩⟩
        | 2, ho =>
          obtain rfl := Option.some.inj ho
          have e0 : a'.eval (.tmp 25) = .int .i64 n := by have h9 := hin 1 25 (by kernel_rfl) (by kernel_rfl); exact h9.1.trans (told_is _ h9.2 rfl)
          obtain ⟨S, hM, hS0, hS1, h9, hm, ha⟩ := hJ
          have hd1 : l.getD 1 false = true := hdep 1 (by kernel_rfl)
          exact o_mulc (.tmp 25) rfl n e0 ⟨_, rfl, told_of rfl, nextG (St := (SW w (fun S : Vw => [(b1, 28, u8s s), (b2, 26, vwC zv), (b3, 26, vwC S)]) ⟨n, (y1 == 1), y2, no8⟩ ⟨wrap64 (n * 256 + s.getD i 0), (y1 == 1), y2, no8⟩ 1 2 7 9)) (by omega) ⟨_, hM, hS0, hS1, h9, (fun _ => hd1), ha⟩⟩
        | 3, ho =>
          obtain rfl := Option.some.inj ho
          have e0 := hout 5 (by kernel_rfl)
          replace e0 : a'.eval (.tmp 5) = _ := e0.trans rfl
          exact wp_move (.tmp 5) rfl _ e0 ⟨_, rfl, told_of rfl, keepG (St := (SW w (fun S : Vw => [(b1, 28, u8s s), (b2, 26, vwC zv), (b3, 26, vwC S)]) ⟨n, (y1 == 1), y2, no8⟩ ⟨wrap64 (n * 256 + s.getD i 0), (y1 == 1), y2, no8⟩ 1 2 7 9)) [1, 2, 7, 9] SW.loc (by omega) (by decide) hJ⟩
        | 4, ho =>
          obtain rfl := Option.some.inj ho
          have e0 : a'.eval (.tmp 27) = .int .i64 i := by have h9 := hin 3 27 (by kernel_rfl) (by kernel_rfl); exact h9.1.trans (told_is _ h9.2 rfl)
          have e9 : a'.eval (.tmp 1) = _ := (hout 1 (by kernel_rfl)).trans rfl
          exact o_idxv (.tmp 1) (.tmp 27) rfl b1 i (unhide HI64) e9 e0 ⟨_, rfl, told_of rfl, keepG (St := (SW w (fun S : Vw => [(b1, 28, u8s s), (b2, 26, vwC zv), (b3, 26, vwC S)]) ⟨n, (y1 == 1), y2, no8⟩ ⟨wrap64 (n * 256 + s.getD i 0), (y1 == 1), y2, no8⟩ 1 2 7 9)) [1, 2, 7, 9] SW.loc (by omega) (by decide) hJ⟩
        | 5, ho =>
          obtain rfl := Option.some.inj ho
          have e0 : a'.eval (.tmp 28) = .pointer (some ⟨b1, i, none⟩) := by have h9 := hin 4 28 (by kernel_rfl) (by kernel_rfl); exact h9.1.trans (told_is _ h9.2 rfl)
          have hJ2 := hJ
          obtain ⟨S, hM, _, _, _, _, _⟩ := hJ2
          exact o_load5 (.tmp 28) rfl _ _ e0 (fits_cell (hM.at 0 _ rfl) i _ (unhide HG i (unhide HI64)).1) ⟨_, rfl, told_of rfl, keepG (St := (SW w (fun S : Vw => [(b1, 28, u8s s), (b2, 26, vwC zv), (b3, 26, vwC S)]) ⟨n, (y1 == 1), y2, no8⟩ ⟨wrap64 (n * 256 + s.getD i 0), (y1 == 1), y2, no8⟩ 1 2 7 9)) [1, 2, 7, 9] SW.loc (by omega) (by decide) hJ⟩
        | 6, ho =>
          obtain rfl := Option.some.inj ho
          have e0 : a'.eval (.tmp 29) = .int .u8 (s.getD i 0) := by have h9 := hin 5 29 (by kernel_rfl) (by kernel_rfl); exact h9.1.trans (told_is _ h9.2 rfl)
          exact o_cv52 (.tmp 29) rfl _ (unhide HG i (unhide HI64)).2 e0 ⟨_, rfl, told_of rfl, keepG (St := (SW w (fun S : Vw => [(b1, 28, u8s s), (b2, 26, vwC zv), (b3, 26, vwC S)]) ⟨n, (y1 == 1), y2, no8⟩ ⟨wrap64 (n * 256 + s.getD i 0), (y1 == 1), y2, no8⟩ 1 2 7 9)) [1, 2, 7, 9] SW.loc (by omega) (by decide) hJ⟩
        | 7, ho =>
          obtain rfl := Option.some.inj ho
          have e0 : a'.eval (.tmp 26) = .int .i64 (wrap64 (n * 256)) := by have h9 := hin 2 26 (by kernel_rfl) (by kernel_rfl); exact h9.1.trans (told_is _ h9.2 rfl)
          have e1 : a'.eval (.tmp 30) = .int .i64 (s.getD i 0) := by have h9 := hin 6 30 (by kernel_rfl) (by kernel_rfl); exact h9.1.trans (told_is _ h9.2 rfl)
          obtain ⟨S, hM, hS0, hS1, h9, hm, ha⟩ := hJ
          have hd2 : l.getD 2 false = true := hdep 2 (by kernel_rfl)
          exact o_addw (.tmp 26) (.tmp 30) rfl _ _ _ (wrap_two _ _) e0 e1 ⟨_, rfl, told_of rfl, nextG (St := (SW w (fun S : Vw => [(b1, 28, u8s s), (b2, 26, vwC zv), (b3, 26, vwC S)]) ⟨n, (y1 == 1), y2, no8⟩ ⟨wrap64 (n * 256 + s.getD i 0), (y1 == 1), y2, no8⟩ 1 2 7 9)) (by omega) ⟨_, hM, hS0, hS1, h9, hm, (fun _ => hm hd2)⟩⟩
        | 8, ho =>
          obtain rfl := Option.some.inj ho
          have e0 := hout 4 (by kernel_rfl)
          replace e0 : a'.eval (.tmp 4) = _ := e0.trans rfl
          exact o_fld26a (.tmp 4) rfl b3 e0 ⟨_, rfl, told_of rfl, keepG (St := (SW w (fun S : Vw => [(b1, 28, u8s s), (b2, 26, vwC zv), (b3, 26, vwC S)]) ⟨n, (y1 == 1), y2, no8⟩ ⟨wrap64 (n * 256 + s.getD i 0), (y1 == 1), y2, no8⟩ 1 2 7 9)) [1, 2, 7, 9] SW.loc (by omega) (by decide) hJ⟩
        | 9, ho =>
          obtain rfl := Option.some.inj ho
          have e0 : a'.eval (.tmp 32) = .pointer (some ⟨b3, 0, none⟩) := by have h9 := hin 8 32 (by kernel_rfl) (by kernel_rfl); exact h9.1.trans (told_is _ h9.2 rfl)
          have e1 : a'.eval (.tmp 31) = .int .i64 (wrap64 (n * 256 + s.getD i 0)) := by have h9 := hin 7 31 (by kernel_rfl) (by kernel_rfl); exact h9.1.trans (told_is _ h9.2 rfl)
          obtain ⟨S, hM, hS0, hS1, h9, hm, ha⟩ := hJ
          have hd7 : l.getD 7 false = true := hdep 7 (by kernel_rfl)
          obtain rfl := hS0 hlf
          exact o_st2 (.tmp 32) (.tmp 31) rfl b3 0 26 _ _ e0 e1 (hM.at 2 _ rfl) (vw_lt rfl (by decide)) (fun W hB hK => ⟨undef, rfl, told_no rfl, nextG (St := (SW w (fun S : Vw => [(b1, 28, u8s s), (b2, 26, vwC zv), (b3, 26, vwC S)]) ⟨n, (y1 == 1), y2, no8⟩ ⟨wrap64 (n * 256 + s.getD i 0), (y1 == 1), y2, no8⟩ 1 2 7 9)) (by omega) ⟨⟨wrap64 (n * 256 + s.getD i 0), (y1 == 1), y2, no8⟩, hM.mut 2 rfl hK (show Blk W b3 26 (vwC ⟨wrap64 (n * 256 + s.getD i 0), (y1 == 1), y2, no8⟩) from hB), (fun h => by cases h), (fun _ => rfl), (fun _ => ha hd7), hm, ha⟩⟩)
      intro l7 vs7 V7 hl hJ htold
      have t0 : vs7 0 = .pointer (some ⟨b3, 0, none⟩) := told_is _ (htold 0 (by decide)) rfl
      have t1 : vs7 1 = .int .i64 n := told_is _ (htold 1 (by decide)) rfl
      have t2 : vs7 2 = .int .i64 (wrap64 (n * 256)) := told_is _ (htold 2 (by decide)) rfl
      have t3 : vs7 3 = .int .i64 i := told_is _ (htold 3 (by decide)) rfl
      have t4 : vs7 4 = .pointer (some ⟨b1, i, none⟩) := told_is _ (htold 4 (by decide)) rfl
      have t5 : vs7 5 = .int .u8 (s.getD i 0) := told_is _ (htold 5 (by decide)) rfl
      have t6 : vs7 6 = .int .i64 (s.getD i 0) := told_is _ (htold 6 (by decide)) rfl
      have t7 : vs7 7 = .int .i64 (wrap64 (n * 256 + s.getD i 0)) := told_is _ (htold 7 (by decide)) rfl
      have t8 : vs7 8 = .pointer (some ⟨b3, 0, none⟩) := told_is _ (htold 8 (by decide)) rfl
      rw [show (List.range 10).map vs7 = [vs7 0, vs7 1, vs7 2, vs7 3, vs7 4, vs7 5, vs7 6, vs7 7, vs7 8, vs7 9] from rfl]
      simp only [t0, t1, t2, t3, t4, t5, t6, t7, t8, putAll, Act.put, List.setIfInBounds_toArray, List.set_cons_succ, List.set_cons_zero]
      clear t0 t1 t2 t3 t4 t5 t6 t7 t8 htold
      obtain ⟨S7, hM7, _, hS7, _, _, _⟩ := hJ
      obtain rfl := hS7 (hl 9 (by decide))
      replace M : Hid (Mm w V7 [(b1, 28, u8s s), (b2, 26, vwC zv), (b3, 26, vwC ⟨wrap64 (n * 256 + s.getD i 0), (y1 == 1), y2, no8⟩)]) := hide hM7
      clear hS7 hM7 hl
      go_wp2_with fail
      go_roundw
      case rel => exact ⟨i + 1, _, by omega, by omega, by go_num, HE2, M⟩
      case measure => simp [intOf]; omega
    have hd : decide ((i : Int) < 12) = false := by simp; omega
    have hn : n = (ofB 0 ((s.drop 4).take 8)) := by
      have := unhide HE
      rw [show 12 - i = 0 by omega, List.take_zero, ofB] at this
      exact this.symm
    subst hn
    have c3 := fits_cell ((unhide M).at 0 _ rfl) 3 _ (unhide HC3)
    clear HE
    go_wp2_with fail
    clear c3
    go_loopw [6, 7] (fun xb xn wr => ∃ j : Nat, j ≤ 8 ∧ xb = .int .i64 (y3 / 2 ^ j) ∧ xn = .int .i64 j ∧ Hid (Mm w wr [(b1, 28, u8s s), (b2, 26, vwC zv), (b3, 26, vwC ⟨(ofB 0 ((s.drop 4).take 8)), (y1 == 1), y2, (((List.range 8).map (memV s)).take j ++ no8.drop j)⟩)])) (fun _ i _ => 8 - (intOf i).toNat)
    case atStart => exact ⟨0, by omega, by rw [Int.pow_zero, Int.ediv_one], rfl, M⟩
    case round =>
      clear M
      obtain ⟨j, hj, rfl, rfl, M⟩ := hrel
      by_cases hlt8 : j < 8
      · have hj8 : (j : Int) < 8 := by omega
        have hd6 : decide ((j : Int) < 8) = true := by simpa using hj8
        have HJ8 := hide hlt8
        have HQ2 : Hid (0 ≤ y3 / 2 ^ j ∧ y3 / 2 ^ j < 256) := by
          have hp : (1 : Int) ≤ 2 ^ j := by
            have : (0 : Int) < 2 ^ j := Int.pow_pos (by omega)
            omega
          refine ⟨Int.ediv_nonneg x30 (by omega), ?_⟩
          have := Int.ediv_le_self (2 ^ j) x30
          omega
        have HQ3 : Hid (y3 / 2 ^ j / 2 = y3 / 2 ^ (j + 1)) := by
          show _ = _
          rw [Int.pow_succ, Int.ediv_ediv_of_nonneg (Int.pow_nonneg (by omega))]
        have HLJ2 : Hid (3 + j * 2 < (vwC ⟨(ofB 0 ((s.drop 4).take 8)), (y1 == 1), y2, (((List.range 8).map (memV s)).take j ++ no8.drop j)⟩).length) := by show _ < _; rw [vwC_len (by simp [no8]; omega)]; omega
        have HB0 : Hid ((((List.range 8).map (memV s)).take j ++ no8.drop j).set j (decide (y3 / 2 ^ j % 2 = 1), ((((List.range 8).map (memV s)).take j ++ no8.drop j).getD j (false, 0)).2) = ((((List.range 8).map (memV s)).take j ++ no8.drop j).set j (decide (y3 / 2 ^ j % 2 = 1), 0))) := by show _ = _; rw [lj_at s j hlt8]
        go_wp2_with (
          first
          | (refine wpRem2 rfl (.tmp 41) rfl (y3 / 2 ^ j) (unhide HQ2) rfl ?_
             refine Stp.go ?_))
        constructor
        go_wp2_with (
          first
          | (refine wpStoreMT size4 rfl (.tmp 46) (.tmp 43) rfl rfl b3 (3 + j * 2) 2 (.bool (decide (y3 / 2 ^ j % 2 = 1))) ⟨rfl, rfl⟩ rfl rfl (unhide M) (vwC ⟨(ofB 0 ((s.drop 4).take 8)), (y1 == 1), y2, ((((List.range 8).map (memV s)).take j ++ no8.drop j).set j (decide (y3 / 2 ^ j % 2 = 1), 0))⟩) rfl (unhide HLJ2) (by rw [vwC_setB]; exact congrArg (fun l => vwC ⟨_, _, _, l⟩) (unhide HB0)) ?_
             intro W61 N61
             replace M : Hid (Mm w W61 [(b1, 28, u8s s), (b2, 26, vwC zv), (b3, 26, vwC ⟨(ofB 0 ((s.drop 4).take 8)), (y1 == 1), y2, ((((List.range 8).map (memV s)).take j ++ no8.drop j).set j (decide (y3 / 2 ^ j % 2 = 1), 0))⟩)]) := hide N61
             clear N61
             refine Stp.go ?_))
        constructor
        go_wp2_with (
          first
          | (refine wpQuo2 rfl (.tmp 47) rfl (y3 / 2 ^ j) (unhide HQ2) rfl ?_
             refine Stp.go ?_))
        constructor
        go_wp2_with fail
        go_loopw [8] (fun xk wr => ∃ (k : Nat) (e : Int), k ≤ 4 ∧ xk = .int .i64 k ∧ Hid (ofB 0 ((s.drop (12 + 4 * j)).take 4) = ofB e ((s.drop (12 + 4 * j + k)).take (4 - k))) ∧ Hid (Mm w wr [(b1, 28, u8s s), (b2, 26, vwC zv), (b3, 26, vwC ⟨(ofB 0 ((s.drop 4).take 8)), (y1 == 1), y2, setEp ((((List.range 8).map (memV s)).take j ++ no8.drop j).set j (decide (y3 / 2 ^ j % 2 = 1), 0)) j e⟩)])) (fun i _ => 4 - (intOf i).toNat)
        case atStart => exact ⟨0, 0, by omega, rfl, rfl, by have h9 := unhide M; rw [show ((((List.range 8).map (memV s)).take j ++ no8.drop j).set j (decide (y3 / 2 ^ j % 2 = 1), 0)) = setEp ((((List.range 8).map (memV s)).take j ++ no8.drop j).set j (decide (y3 / 2 ^ j % 2 = 1), 0)) j 0 by rw [lj_set s j (unhide HJ8)]] at h9; exact h9⟩
        case round =>
          clear M
          obtain ⟨k, e, hk, rfl, HE, M⟩ := hrel
          by_cases hlt4 : k < 4
          · have hk4 : (k : Int) < 4 := by omega
            have hd4 : decide ((k : Int) < 4) = true := by simpa using hk4
            have HK64 : Hid (12 + 4 * j + k < 64) := by show _ < _; omega
            have HE2 : Hid (ofB 0 ((s.drop (12 + 4 * j)).take 4) = ofB (wrap64 (e * 256 + s.getD (12 + 4 * j + k) 0)) ((s.drop (12 + 4 * j + (k + 1))).take (4 - (k + 1)))) := by
              show _ = _
              rw [unhide HE, drop_step s hs.len (12 + 4 * j + k) (4 - k) (by omega) (by omega), ofB, show 4 - k - 1 = 4 - (k + 1) by omega]
              rfl
            have HCE := hide (lj_ep s j (unhide HJ8) (decide (y3 / 2 ^ j % 2 = 1)) e (ofB 0 ((s.drop 4).take 8)) (y1 == 1) y2)
            have HLV : Hid (3 + j * 2 + 1 < (vwC ⟨(ofB 0 ((s.drop 4).take 8)), (y1 == 1), y2, setEp ((((List.range 8).map (memV s)).take j ++ no8.drop j).set j (decide (y3 / 2 ^ j % 2 = 1), 0)) j e⟩).length) := by show _ < _; rw [vwC_len (by simp [setEp, no8]; omega)]; omega
            clear HE
            go_wp2_with fail
            refine wp_region_any mixed (wpAny_gx 20 rfl (by kernel_rfl) [some (.int .i64 j), some (.int .i64 j), some (.pointer (some ⟨b3, 3, none⟩)), some (.pointer (some ⟨b3, 3 + j * 2, none⟩)), some (.pointer (some ⟨b3, 3 + j * 2 + 1, none⟩)), some (.int .i64 e), some (.int .i64 (wrap64 (e * 256))), some (.int .i64 j), some (.int .i64 ((4 * j : Nat) : Int)), some (.int .i64 ((12 + 4 * j : Nat) : Int)), some (.int .i64 k), some (.int .i64 ((12 + 4 * j + k : Nat) : Int)), some (.pointer (some ⟨b1, 12 + 4 * j + k, none⟩)), some (.int .u8 (s.getD (12 + 4 * j + k) 0)), some (.int .i64 (s.getD (12 + 4 * j + k) 0)), some (.int .i64 (wrap64 (e * 256 + s.getD (12 + 4 * j + k) 0))), some (.pointer (some ⟨b3, 3, none⟩)), some (.pointer (some ⟨b3, 3 + j * 2, none⟩)), some (.pointer (some ⟨b3, 3 + j * 2 + 1, none⟩)), none] rfl (by kernel_rfl) (fun l vs W => (SW w (fun S : Vw => [(b1, 28, u8s s), (b2, 26, vwC zv), (b3, 26, vwC S)]) ⟨(ofB 0 ((s.drop 4).take 8)), (y1 == 1), y2, setEp ((((List.range 8).map (memV s)).take j ++ no8.drop j).set j (decide (y3 / 2 ^ j % 2 = 1), 0)) j e⟩ ⟨(ofB 0 ((s.drop 4).take 8)), (y1 == 1), y2, setEp ((((List.range 8).map (memV s)).take j ++ no8.drop j).set j (decide (y3 / 2 ^ j % 2 = 1), 0)) j (wrap64 (e * 256 + s.getD (12 + 4 * j + k) 0))⟩ 5 6 15 19) (fun i => l.getD i false) vs W) (⟨_, (unhide M).drew, (fun _ => rfl), (fun h => by cases h), (fun h => by cases h), (fun h => by cases h), fun h => by cases h⟩) ?_ ?_)
            · intro ix o' hi ho a' w2 l vs hls hlf hJ hout hin hdep hnot
              match ix, ho with
              | 0, ho =>
                obtain rfl := Option.some.inj ho
                have e0 := hout 7 (by kernel_rfl)
                replace e0 : a'.eval (.tmp 7) = _ := e0.trans rfl
                exact wp_move (.tmp 7) rfl _ e0 ⟨_, rfl, told_of rfl, keepG (St := (SW w (fun S : Vw => [(b1, 28, u8s s), (b2, 26, vwC zv), (b3, 26, vwC S)]) ⟨(ofB 0 ((s.drop 4).take 8)), (y1 == 1), y2, setEp ((((List.range 8).map (memV s)).take j ++ no8.drop j).set j (decide (y3 / 2 ^ j % 2 = 1), 0)) j e⟩ ⟨(ofB 0 ((s.drop 4).take 8)), (y1 == 1), y2, setEp ((((List.range 8).map (memV s)).take j ++ no8.drop j).set j (decide (y3 / 2 ^ j % 2 = 1), 0)) j (wrap64 (e * 256 + s.getD (12 + 4 * j + k) 0))⟩ 5 6 15 19)) [5, 6, 15, 19] SW.loc (by omega) (by decide) hJ⟩
              | 1, ho =>
                obtain rfl := Option.some.inj ho
                have e0 := hout 7 (by kernel_rfl)
                replace e0 : a'.eval (.tmp 7) = _ := e0.trans rfl
                exact wp_move (.tmp 7) rfl _ e0 ⟨_, rfl, told_of rfl, keepG (St := (SW w (fun S : Vw => [(b1, 28, u8s s), (b2, 26, vwC zv), (b3, 26, vwC S)]) ⟨(ofB 0 ((s.drop 4).take 8)), (y1 == 1), y2, setEp ((((List.range 8).map (memV s)).take j ++ no8.drop j).set j (decide (y3 / 2 ^ j % 2 = 1), 0)) j e⟩ ⟨(ofB 0 ((s.drop 4).take 8)), (y1 == 1), y2, setEp ((((List.range 8).map (memV s)).take j ++ no8.drop j).set j (decide (y3 / 2 ^ j % 2 = 1), 0)) j (wrap64 (e * 256 + s.getD (12 + 4 * j + k) 0))⟩ 5 6 15 19)) [5, 6, 15, 19] SW.loc (by omega) (by decide) hJ⟩
              | 2, ho =>
                obtain rfl := Option.some.inj ho
                have e0 := hout 4 (by kernel_rfl)
                replace e0 : a'.eval (.tmp 4) = _ := e0.trans rfl
                exact o_fld26_3 (.tmp 4) rfl b3 e0 ⟨_, rfl, told_of rfl, keepG (St := (SW w (fun S : Vw => [(b1, 28, u8s s), (b2, 26, vwC zv), (b3, 26, vwC S)]) ⟨(ofB 0 ((s.drop 4).take 8)), (y1 == 1), y2, setEp ((((List.range 8).map (memV s)).take j ++ no8.drop j).set j (decide (y3 / 2 ^ j % 2 = 1), 0)) j e⟩ ⟨(ofB 0 ((s.drop 4).take 8)), (y1 == 1), y2, setEp ((((List.range 8).map (memV s)).take j ++ no8.drop j).set j (decide (y3 / 2 ^ j % 2 = 1), 0)) j (wrap64 (e * 256 + s.getD (12 + 4 * j + k) 0))⟩ 5 6 15 19)) [5, 6, 15, 19] SW.loc (by omega) (by decide) hJ⟩
              | 3, ho =>
                obtain rfl := Option.some.inj ho
                have e0 : a'.eval (.tmp 55) = .pointer (some ⟨b3, 3, none⟩) := by have h9 := hin 2 55 (by kernel_rfl) (by kernel_rfl); exact h9.1.trans (told_is _ h9.2 rfl)
                have e1 : a'.eval (.tmp 54) = .int .i64 j := by have h9 := hin 1 54 (by kernel_rfl) (by kernel_rfl); exact h9.1.trans (told_is _ h9.2 rfl)
                exact o_idx24 (.tmp 55) (.tmp 54) rfl b3 j (unhide HJ8) e0 e1 ⟨_, rfl, told_of rfl, keepG (St := (SW w (fun S : Vw => [(b1, 28, u8s s), (b2, 26, vwC zv), (b3, 26, vwC S)]) ⟨(ofB 0 ((s.drop 4).take 8)), (y1 == 1), y2, setEp ((((List.range 8).map (memV s)).take j ++ no8.drop j).set j (decide (y3 / 2 ^ j % 2 = 1), 0)) j e⟩ ⟨(ofB 0 ((s.drop 4).take 8)), (y1 == 1), y2, setEp ((((List.range 8).map (memV s)).take j ++ no8.drop j).set j (decide (y3 / 2 ^ j % 2 = 1), 0)) j (wrap64 (e * 256 + s.getD (12 + 4 * j + k) 0))⟩ 5 6 15 19)) [5, 6, 15, 19] SW.loc (by omega) (by decide) hJ⟩
              | 4, ho =>
                obtain rfl := Option.some.inj ho
                have e0 : a'.eval (.tmp 56) = .pointer (some ⟨b3, 3 + j * 2, none⟩) := by have h9 := hin 3 56 (by kernel_rfl) (by kernel_rfl); exact h9.1.trans (told_is _ h9.2 rfl)
                exact o_fld23b (.tmp 56) rfl b3 _ e0 ⟨_, rfl, told_of rfl, keepG (St := (SW w (fun S : Vw => [(b1, 28, u8s s), (b2, 26, vwC zv), (b3, 26, vwC S)]) ⟨(ofB 0 ((s.drop 4).take 8)), (y1 == 1), y2, setEp ((((List.range 8).map (memV s)).take j ++ no8.drop j).set j (decide (y3 / 2 ^ j % 2 = 1), 0)) j e⟩ ⟨(ofB 0 ((s.drop 4).take 8)), (y1 == 1), y2, setEp ((((List.range 8).map (memV s)).take j ++ no8.drop j).set j (decide (y3 / 2 ^ j % 2 = 1), 0)) j (wrap64 (e * 256 + s.getD (12 + 4 * j + k) 0))⟩ 5 6 15 19)) [5, 6, 15, 19] SW.loc (by omega) (by decide) hJ⟩
              | 5, ho =>
                obtain rfl := Option.some.inj ho
                have e0 : a'.eval (.tmp 57) = .pointer (some ⟨b3, 3 + j * 2 + 1, none⟩) := by have h9 := hin 4 57 (by kernel_rfl) (by kernel_rfl); exact h9.1.trans (told_is _ h9.2 rfl)
                obtain ⟨S, hM, hS0, hS1, h19, hm, ha⟩ := hJ
                have h9f : l.getD 19 false = false := by
                  cases h : l.getD 19 false with
                  | false => rfl
                  | true => have h1 : l.getD 5 false = true := h19 h; have h8 : l.getD 5 false = false := hlf; rw [h8] at h1; cases h1
                obtain rfl := hS0 h9f
                exact o_load2 (.tmp 57) rfl _ _ e0 (fits_cell (hM.at 2 _ rfl) _ _ (unhide HCE)) ⟨_, rfl, told_of rfl, nextG (St := (SW w (fun S : Vw => [(b1, 28, u8s s), (b2, 26, vwC zv), (b3, 26, vwC S)]) ⟨(ofB 0 ((s.drop 4).take 8)), (y1 == 1), y2, setEp ((((List.range 8).map (memV s)).take j ++ no8.drop j).set j (decide (y3 / 2 ^ j % 2 = 1), 0)) j e⟩ ⟨(ofB 0 ((s.drop 4).take 8)), (y1 == 1), y2, setEp ((((List.range 8).map (memV s)).take j ++ no8.drop j).set j (decide (y3 / 2 ^ j % 2 = 1), 0)) j (wrap64 (e * 256 + s.getD (12 + 4 * j + k) 0))⟩ 5 6 15 19)) (by omega) ⟨_, hM, (fun _ => rfl), (fun h => by have h8 : l.getD 19 false = true := h; rw [h9f] at h8; cases h8), (fun _ => rfl), (fun _ => rfl), fun _ => rfl⟩⟩
              | 6, ho =>
                obtain rfl := Option.some.inj ho
                have e0 : a'.eval (.tmp 58) = .int .i64 e := by have h9 := hin 5 58 (by kernel_rfl) (by kernel_rfl); exact h9.1.trans (told_is _ h9.2 rfl)
                obtain ⟨S, hM, hS0, hS1, h19, hm, ha⟩ := hJ
                have hd1 : l.getD 5 false = true := hdep 5 (by kernel_rfl)
                exact o_mulc (.tmp 58) rfl e e0 ⟨_, rfl, told_of rfl, nextG (St := (SW w (fun S : Vw => [(b1, 28, u8s s), (b2, 26, vwC zv), (b3, 26, vwC S)]) ⟨(ofB 0 ((s.drop 4).take 8)), (y1 == 1), y2, setEp ((((List.range 8).map (memV s)).take j ++ no8.drop j).set j (decide (y3 / 2 ^ j % 2 = 1), 0)) j e⟩ ⟨(ofB 0 ((s.drop 4).take 8)), (y1 == 1), y2, setEp ((((List.range 8).map (memV s)).take j ++ no8.drop j).set j (decide (y3 / 2 ^ j % 2 = 1), 0)) j (wrap64 (e * 256 + s.getD (12 + 4 * j + k) 0))⟩ 5 6 15 19)) (by omega) ⟨_, hM, hS0, hS1, h19, (fun _ => hd1), ha⟩⟩
              | 7, ho =>
                obtain rfl := Option.some.inj ho
                have e0 := hout 7 (by kernel_rfl)
                replace e0 : a'.eval (.tmp 7) = _ := e0.trans rfl
                exact wp_move (.tmp 7) rfl _ e0 ⟨_, rfl, told_of rfl, keepG (St := (SW w (fun S : Vw => [(b1, 28, u8s s), (b2, 26, vwC zv), (b3, 26, vwC S)]) ⟨(ofB 0 ((s.drop 4).take 8)), (y1 == 1), y2, setEp ((((List.range 8).map (memV s)).take j ++ no8.drop j).set j (decide (y3 / 2 ^ j % 2 = 1), 0)) j e⟩ ⟨(ofB 0 ((s.drop 4).take 8)), (y1 == 1), y2, setEp ((((List.range 8).map (memV s)).take j ++ no8.drop j).set j (decide (y3 / 2 ^ j % 2 = 1), 0)) j (wrap64 (e * 256 + s.getD (12 + 4 * j + k) 0))⟩ 5 6 15 19)) [5, 6, 15, 19] SW.loc (by omega) (by decide) hJ⟩
              | 8, ho =>
                obtain rfl := Option.some.inj ho
                have e0 : a'.eval (.tmp 60) = .int .i64 j := by have h9 := hin 7 60 (by kernel_rfl) (by kernel_rfl); exact h9.1.trans (told_is _ h9.2 rfl)
                exact o_mul4 (.tmp 60) rfl j (unhide HJ8) e0 ⟨_, rfl, told_of rfl, keepG (St := (SW w (fun S : Vw => [(b1, 28, u8s s), (b2, 26, vwC zv), (b3, 26, vwC S)]) ⟨(ofB 0 ((s.drop 4).take 8)), (y1 == 1), y2, setEp ((((List.range 8).map (memV s)).take j ++ no8.drop j).set j (decide (y3 / 2 ^ j % 2 = 1), 0)) j e⟩ ⟨(ofB 0 ((s.drop 4).take 8)), (y1 == 1), y2, setEp ((((List.range 8).map (memV s)).take j ++ no8.drop j).set j (decide (y3 / 2 ^ j % 2 = 1), 0)) j (wrap64 (e * 256 + s.getD (12 + 4 * j + k) 0))⟩ 5 6 15 19)) [5, 6, 15, 19] SW.loc (by omega) (by decide) hJ⟩
              | 9, ho =>
                obtain rfl := Option.some.inj ho
                have e0 : a'.eval (.tmp 61) = .int .i64 ((4 * j : Nat) : Int) := by have h9 := hin 8 61 (by kernel_rfl) (by kernel_rfl); exact h9.1.trans (told_is _ h9.2 rfl)
                exact o_add12 (.tmp 61) rfl (4 * j) (by have := unhide HJ8; omega) e0 ⟨_, rfl, told_of rfl, keepG (St := (SW w (fun S : Vw => [(b1, 28, u8s s), (b2, 26, vwC zv), (b3, 26, vwC S)]) ⟨(ofB 0 ((s.drop 4).take 8)), (y1 == 1), y2, setEp ((((List.range 8).map (memV s)).take j ++ no8.drop j).set j (decide (y3 / 2 ^ j % 2 = 1), 0)) j e⟩ ⟨(ofB 0 ((s.drop 4).take 8)), (y1 == 1), y2, setEp ((((List.range 8).map (memV s)).take j ++ no8.drop j).set j (decide (y3 / 2 ^ j % 2 = 1), 0)) j (wrap64 (e * 256 + s.getD (12 + 4 * j + k) 0))⟩ 5 6 15 19)) [5, 6, 15, 19] SW.loc (by omega) (by decide) hJ⟩
              | 10, ho =>
                obtain rfl := Option.some.inj ho
                have e0 := hout 8 (by kernel_rfl)
                replace e0 : a'.eval (.tmp 8) = _ := e0.trans rfl
                exact wp_move (.tmp 8) rfl _ e0 ⟨_, rfl, told_of rfl, keepG (St := (SW w (fun S : Vw => [(b1, 28, u8s s), (b2, 26, vwC zv), (b3, 26, vwC S)]) ⟨(ofB 0 ((s.drop 4).take 8)), (y1 == 1), y2, setEp ((((List.range 8).map (memV s)).take j ++ no8.drop j).set j (decide (y3 / 2 ^ j % 2 = 1), 0)) j e⟩ ⟨(ofB 0 ((s.drop 4).take 8)), (y1 == 1), y2, setEp ((((List.range 8).map (memV s)).take j ++ no8.drop j).set j (decide (y3 / 2 ^ j % 2 = 1), 0)) j (wrap64 (e * 256 + s.getD (12 + 4 * j + k) 0))⟩ 5 6 15 19)) [5, 6, 15, 19] SW.loc (by omega) (by decide) hJ⟩
              | 11, ho =>
                obtain rfl := Option.some.inj ho
                have e0 : a'.eval (.tmp 62) = .int .i64 ((12 + 4 * j : Nat) : Int) := by have h9 := hin 9 62 (by kernel_rfl) (by kernel_rfl); exact h9.1.trans (told_is _ h9.2 rfl)
                have e1 : a'.eval (.tmp 63) = .int .i64 k := by have h9 := hin 10 63 (by kernel_rfl) (by kernel_rfl); exact h9.1.trans (told_is _ h9.2 rfl)
                exact o_addn (.tmp 62) (.tmp 63) rfl (12 + 4 * j) k (by have := unhide HK64; omega) e0 e1 ⟨_, rfl, told_of rfl, keepG (St := (SW w (fun S : Vw => [(b1, 28, u8s s), (b2, 26, vwC zv), (b3, 26, vwC S)]) ⟨(ofB 0 ((s.drop 4).take 8)), (y1 == 1), y2, setEp ((((List.range 8).map (memV s)).take j ++ no8.drop j).set j (decide (y3 / 2 ^ j % 2 = 1), 0)) j e⟩ ⟨(ofB 0 ((s.drop 4).take 8)), (y1 == 1), y2, setEp ((((List.range 8).map (memV s)).take j ++ no8.drop j).set j (decide (y3 / 2 ^ j % 2 = 1), 0)) j (wrap64 (e * 256 + s.getD (12 + 4 * j + k) 0))⟩ 5 6 15 19)) [5, 6, 15, 19] SW.loc (by omega) (by decide) hJ⟩
              | 12, ho =>
                obtain rfl := Option.some.inj ho
                have e0 : a'.eval (.tmp 64) = .int .i64 ((12 + 4 * j + k : Nat) : Int) := by have h9 := hin 11 64 (by kernel_rfl) (by kernel_rfl); exact h9.1.trans (told_is _ h9.2 rfl)
                have e9 : a'.eval (.tmp 1) = _ := (hout 1 (by kernel_rfl)).trans rfl
                exact o_idxv (.tmp 1) (.tmp 64) rfl b1 (12 + 4 * j + k) (unhide HK64) e9 e0 ⟨_, rfl, told_of rfl, keepG (St := (SW w (fun S : Vw => [(b1, 28, u8s s), (b2, 26, vwC zv), (b3, 26, vwC S)]) ⟨(ofB 0 ((s.drop 4).take 8)), (y1 == 1), y2, setEp ((((List.range 8).map (memV s)).take j ++ no8.drop j).set j (decide (y3 / 2 ^ j % 2 = 1), 0)) j e⟩ ⟨(ofB 0 ((s.drop 4).take 8)), (y1 == 1), y2, setEp ((((List.range 8).map (memV s)).take j ++ no8.drop j).set j (decide (y3 / 2 ^ j % 2 = 1), 0)) j (wrap64 (e * 256 + s.getD (12 + 4 * j + k) 0))⟩ 5 6 15 19)) [5, 6, 15, 19] SW.loc (by omega) (by decide) hJ⟩
              | 13, ho =>
                obtain rfl := Option.some.inj ho
                have e0 : a'.eval (.tmp 65) = .pointer (some ⟨b1, 12 + 4 * j + k, none⟩) := by have h9 := hin 12 65 (by kernel_rfl) (by kernel_rfl); exact h9.1.trans (told_is _ h9.2 rfl)
                have hJ2 := hJ
                obtain ⟨S, hM, _, _, _, _, _⟩ := hJ2
                exact o_load5 (.tmp 65) rfl _ _ e0 (fits_cell (hM.at 0 _ rfl) _ _ (unhide HG _ (unhide HK64)).1) ⟨_, rfl, told_of rfl, keepG (St := (SW w (fun S : Vw => [(b1, 28, u8s s), (b2, 26, vwC zv), (b3, 26, vwC S)]) ⟨(ofB 0 ((s.drop 4).take 8)), (y1 == 1), y2, setEp ((((List.range 8).map (memV s)).take j ++ no8.drop j).set j (decide (y3 / 2 ^ j % 2 = 1), 0)) j e⟩ ⟨(ofB 0 ((s.drop 4).take 8)), (y1 == 1), y2, setEp ((((List.range 8).map (memV s)).take j ++ no8.drop j).set j (decide (y3 / 2 ^ j % 2 = 1), 0)) j (wrap64 (e * 256 + s.getD (12 + 4 * j + k) 0))⟩ 5 6 15 19)) [5, 6, 15, 19] SW.loc (by omega) (by decide) hJ⟩
              | 14, ho =>
                obtain rfl := Option.some.inj ho
                have e0 : a'.eval (.tmp 66) = .int .u8 (s.getD (12 + 4 * j + k) 0) := by have h9 := hin 13 66 (by kernel_rfl) (by kernel_rfl); exact h9.1.trans (told_is _ h9.2 rfl)
                exact o_cv52 (.tmp 66) rfl _ (unhide HG _ (unhide HK64)).2 e0 ⟨_, rfl, told_of rfl, keepG (St := (SW w (fun S : Vw => [(b1, 28, u8s s), (b2, 26, vwC zv), (b3, 26, vwC S)]) ⟨(ofB 0 ((s.drop 4).take 8)), (y1 == 1), y2, setEp ((((List.range 8).map (memV s)).take j ++ no8.drop j).set j (decide (y3 / 2 ^ j % 2 = 1), 0)) j e⟩ ⟨(ofB 0 ((s.drop 4).take 8)), (y1 == 1), y2, setEp ((((List.range 8).map (memV s)).take j ++ no8.drop j).set j (decide (y3 / 2 ^ j % 2 = 1), 0)) j (wrap64 (e * 256 + s.getD (12 + 4 * j + k) 0))⟩ 5 6 15 19)) [5, 6, 15, 19] SW.loc (by omega) (by decide) hJ⟩
              | 15, ho =>
                obtain rfl := Option.some.inj ho
                have e0 : a'.eval (.tmp 59) = .int .i64 (wrap64 (e * 256)) := by have h9 := hin 6 59 (by kernel_rfl) (by kernel_rfl); exact h9.1.trans (told_is _ h9.2 rfl)
                have e1 : a'.eval (.tmp 67) = .int .i64 (s.getD (12 + 4 * j + k) 0) := by have h9 := hin 14 67 (by kernel_rfl) (by kernel_rfl); exact h9.1.trans (told_is _ h9.2 rfl)
                obtain ⟨S, hM, hS0, hS1, h19, hm, ha⟩ := hJ
                have hd2 : l.getD 6 false = true := hdep 6 (by kernel_rfl)
                exact o_addw (.tmp 59) (.tmp 67) rfl _ _ _ (wrap_two _ _) e0 e1 ⟨_, rfl, told_of rfl, nextG (St := (SW w (fun S : Vw => [(b1, 28, u8s s), (b2, 26, vwC zv), (b3, 26, vwC S)]) ⟨(ofB 0 ((s.drop 4).take 8)), (y1 == 1), y2, setEp ((((List.range 8).map (memV s)).take j ++ no8.drop j).set j (decide (y3 / 2 ^ j % 2 = 1), 0)) j e⟩ ⟨(ofB 0 ((s.drop 4).take 8)), (y1 == 1), y2, setEp ((((List.range 8).map (memV s)).take j ++ no8.drop j).set j (decide (y3 / 2 ^ j % 2 = 1), 0)) j (wrap64 (e * 256 + s.getD (12 + 4 * j + k) 0))⟩ 5 6 15 19)) (by omega) ⟨_, hM, hS0, hS1, h19, hm, (fun _ => hm hd2)⟩⟩
              | 16, ho =>
                obtain rfl := Option.some.inj ho
                have e0 := hout 4 (by kernel_rfl)
                replace e0 : a'.eval (.tmp 4) = _ := e0.trans rfl
                exact o_fld26_3 (.tmp 4) rfl b3 e0 ⟨_, rfl, told_of rfl, keepG (St := (SW w (fun S : Vw => [(b1, 28, u8s s), (b2, 26, vwC zv), (b3, 26, vwC S)]) ⟨(ofB 0 ((s.drop 4).take 8)), (y1 == 1), y2, setEp ((((List.range 8).map (memV s)).take j ++ no8.drop j).set j (decide (y3 / 2 ^ j % 2 = 1), 0)) j e⟩ ⟨(ofB 0 ((s.drop 4).take 8)), (y1 == 1), y2, setEp ((((List.range 8).map (memV s)).take j ++ no8.drop j).set j (decide (y3 / 2 ^ j % 2 = 1), 0)) j (wrap64 (e * 256 + s.getD (12 + 4 * j + k) 0))⟩ 5 6 15 19)) [5, 6, 15, 19] SW.loc (by omega) (by decide) hJ⟩
              | 17, ho =>
                obtain rfl := Option.some.inj ho
                have e0 : a'.eval (.tmp 69) = .pointer (some ⟨b3, 3, none⟩) := by have h9 := hin 16 69 (by kernel_rfl) (by kernel_rfl); exact h9.1.trans (told_is _ h9.2 rfl)
                have e1 : a'.eval (.tmp 53) = .int .i64 j := by have h9 := hin 0 53 (by kernel_rfl) (by kernel_rfl); exact h9.1.trans (told_is _ h9.2 rfl)
                exact o_idx24 (.tmp 69) (.tmp 53) rfl b3 j (unhide HJ8) e0 e1 ⟨_, rfl, told_of rfl, keepG (St := (SW w (fun S : Vw => [(b1, 28, u8s s), (b2, 26, vwC zv), (b3, 26, vwC S)]) ⟨(ofB 0 ((s.drop 4).take 8)), (y1 == 1), y2, setEp ((((List.range 8).map (memV s)).take j ++ no8.drop j).set j (decide (y3 / 2 ^ j % 2 = 1), 0)) j e⟩ ⟨(ofB 0 ((s.drop 4).take 8)), (y1 == 1), y2, setEp ((((List.range 8).map (memV s)).take j ++ no8.drop j).set j (decide (y3 / 2 ^ j % 2 = 1), 0)) j (wrap64 (e * 256 + s.getD (12 + 4 * j + k) 0))⟩ 5 6 15 19)) [5, 6, 15, 19] SW.loc (by omega) (by decide) hJ⟩
              | 18, ho =>
                obtain rfl := Option.some.inj ho
                have e0 : a'.eval (.tmp 70) = .pointer (some ⟨b3, 3 + j * 2, none⟩) := by have h9 := hin 17 70 (by kernel_rfl) (by kernel_rfl); exact h9.1.trans (told_is _ h9.2 rfl)
                exact o_fld23b (.tmp 70) rfl b3 _ e0 ⟨_, rfl, told_of rfl, keepG (St := (SW w (fun S : Vw => [(b1, 28, u8s s), (b2, 26, vwC zv), (b3, 26, vwC S)]) ⟨(ofB 0 ((s.drop 4).take 8)), (y1 == 1), y2, setEp ((((List.range 8).map (memV s)).take j ++ no8.drop j).set j (decide (y3 / 2 ^ j % 2 = 1), 0)) j e⟩ ⟨(ofB 0 ((s.drop 4).take 8)), (y1 == 1), y2, setEp ((((List.range 8).map (memV s)).take j ++ no8.drop j).set j (decide (y3 / 2 ^ j % 2 = 1), 0)) j (wrap64 (e * 256 + s.getD (12 + 4 * j + k) 0))⟩ 5 6 15 19)) [5, 6, 15, 19] SW.loc (by omega) (by decide) hJ⟩
              | 19, ho =>
                obtain rfl := Option.some.inj ho
                have e0 : a'.eval (.tmp 71) = .pointer (some ⟨b3, 3 + j * 2 + 1, none⟩) := by have h9 := hin 18 71 (by kernel_rfl) (by kernel_rfl); exact h9.1.trans (told_is _ h9.2 rfl)
                have e1 : a'.eval (.tmp 68) = .int .i64 (wrap64 (e * 256 + s.getD (12 + 4 * j + k) 0)) := by have h9 := hin 15 68 (by kernel_rfl) (by kernel_rfl); exact h9.1.trans (told_is _ h9.2 rfl)
                obtain ⟨S, hM, hS0, hS1, h19, hm, ha⟩ := hJ
                have hd7 : l.getD 15 false = true := hdep 15 (by kernel_rfl)
                obtain rfl := hS0 hlf
                exact o_st2 (.tmp 71) (.tmp 68) rfl b3 (3 + j * 2 + 1) 26 _ _ e0 e1 (hM.at 2 _ rfl) (unhide HLV) (fun W hB hK => ⟨undef, rfl, told_no rfl, nextG (St := (SW w (fun S : Vw => [(b1, 28, u8s s), (b2, 26, vwC zv), (b3, 26, vwC S)]) ⟨(ofB 0 ((s.drop 4).take 8)), (y1 == 1), y2, setEp ((((List.range 8).map (memV s)).take j ++ no8.drop j).set j (decide (y3 / 2 ^ j % 2 = 1), 0)) j e⟩ ⟨(ofB 0 ((s.drop 4).take 8)), (y1 == 1), y2, setEp ((((List.range 8).map (memV s)).take j ++ no8.drop j).set j (decide (y3 / 2 ^ j % 2 = 1), 0)) j (wrap64 (e * 256 + s.getD (12 + 4 * j + k) 0))⟩ 5 6 15 19)) (by omega) ⟨⟨(ofB 0 ((s.drop 4).take 8)), (y1 == 1), y2, setEp ((((List.range 8).map (memV s)).take j ++ no8.drop j).set j (decide (y3 / 2 ^ j % 2 = 1), 0)) j (wrap64 (e * 256 + s.getD (12 + 4 * j + k) 0))⟩, hM.mut 2 rfl hK (by have h9 : Blk W b3 26 ((vwC ⟨(ofB 0 ((s.drop 4).take 8)), (y1 == 1), y2, setEp ((((List.range 8).map (memV s)).take j ++ no8.drop j).set j (decide (y3 / 2 ^ j % 2 = 1), 0)) j e⟩).set (3 + j * 2 + 1) (.int .i64 (wrap64 (e * 256 + s.getD (12 + 4 * j + k) 0)))) := hB; rw [vwC_setE, set_set] at h9; exact h9), (fun h => by cases h), (fun _ => rfl), (fun _ => ha hd7), hm, ha⟩⟩)
            intro l8 vs8 V8 hl hJ htold
            have t0 : vs8 0 = .int .i64 j := told_is _ (htold 0 (by decide)) rfl
            have t1 : vs8 1 = .int .i64 j := told_is _ (htold 1 (by decide)) rfl
            have t2 : vs8 2 = .pointer (some ⟨b3, 3, none⟩) := told_is _ (htold 2 (by decide)) rfl
            have t3 : vs8 3 = .pointer (some ⟨b3, 3 + j * 2, none⟩) := told_is _ (htold 3 (by decide)) rfl
            have t4 : vs8 4 = .pointer (some ⟨b3, 3 + j * 2 + 1, none⟩) := told_is _ (htold 4 (by decide)) rfl
            have t5 : vs8 5 = .int .i64 e := told_is _ (htold 5 (by decide)) rfl
            have t6 : vs8 6 = .int .i64 (wrap64 (e * 256)) := told_is _ (htold 6 (by decide)) rfl
            have t7 : vs8 7 = .int .i64 j := told_is _ (htold 7 (by decide)) rfl
            have t8 : vs8 8 = .int .i64 ((4 * j : Nat) : Int) := told_is _ (htold 8 (by decide)) rfl
            have t9 : vs8 9 = .int .i64 ((12 + 4 * j : Nat) : Int) := told_is _ (htold 9 (by decide)) rfl
            have t10 : vs8 10 = .int .i64 k := told_is _ (htold 10 (by decide)) rfl
            have t11 : vs8 11 = .int .i64 ((12 + 4 * j + k : Nat) : Int) := told_is _ (htold 11 (by decide)) rfl
            have t12 : vs8 12 = .pointer (some ⟨b1, 12 + 4 * j + k, none⟩) := told_is _ (htold 12 (by decide)) rfl
            have t13 : vs8 13 = .int .u8 (s.getD (12 + 4 * j + k) 0) := told_is _ (htold 13 (by decide)) rfl
            have t14 : vs8 14 = .int .i64 (s.getD (12 + 4 * j + k) 0) := told_is _ (htold 14 (by decide)) rfl
            have t15 : vs8 15 = .int .i64 (wrap64 (e * 256 + s.getD (12 + 4 * j + k) 0)) := told_is _ (htold 15 (by decide)) rfl
            have t16 : vs8 16 = .pointer (some ⟨b3, 3, none⟩) := told_is _ (htold 16 (by decide)) rfl
            have t17 : vs8 17 = .pointer (some ⟨b3, 3 + j * 2, none⟩) := told_is _ (htold 17 (by decide)) rfl
            have t18 : vs8 18 = .pointer (some ⟨b3, 3 + j * 2 + 1, none⟩) := told_is _ (htold 18 (by decide)) rfl
            rw [show (List.range 20).map vs8 = [vs8 0, vs8 1, vs8 2, vs8 3, vs8 4, vs8 5, vs8 6, vs8 7, vs8 8, vs8 9, vs8 10, vs8 11, vs8 12, vs8 13, vs8 14, vs8 15, vs8 16, vs8 17, vs8 18, vs8 19] from rfl]
            simp only [t0, t1, t2, t3, t4, t5, t6, t7, t8, t9, t10, t11, t12, t13, t14, t15, t16, t17, t18, putAll, Act.put, List.setIfInBounds_toArray, List.set_cons_succ, List.set_cons_zero]
            clear t0 t1 t2 t3 t4 t5 t6 t7 t8 t9 t10 t11 t12 t13 t14 t15 t16 t17 t18 htold
            obtain ⟨S8, hM8, _, hS8, _, _, _⟩ := hJ
            obtain rfl := hS8 (hl 19 (by decide))
            replace M : Hid (Mm w V8 [(b1, 28, u8s s), (b2, 26, vwC zv), (b3, 26, vwC ⟨(ofB 0 ((s.drop 4).take 8)), (y1 == 1), y2, setEp ((((List.range 8).map (memV s)).take j ++ no8.drop j).set j (decide (y3 / 2 ^ j % 2 = 1), 0)) j (wrap64 (e * 256 + s.getD (12 + 4 * j + k) 0))⟩)]) := hide hM8
            clear hS8 hM8 hl
            go_wp2_with fail
            go_roundw
            case rel => exact ⟨k + 1, _, by omega, by go_num, HE2, M⟩
            case measure => simp [intOf]; omega
          · have hd4 : decide ((k : Int) < 4) = false := by simp; omega
            have he : e = ofB 0 ((s.drop (12 + 4 * j)).take 4) := by
              have := unhide HE
              rw [show 4 - k = 0 by omega, List.take_zero, ofB] at this
              exact this.symm
            have h9 := unhide M
            rw [lj_set s j (unhide HJ8), he] at h9
            rw [show (decide (y3 / 2 ^ j % 2 = 1), ofB 0 ((s.drop (12 + 4 * j)).take 4)) = memV s j by rw [unhide HY3]; rfl, fill_next s j (unhide HJ8)] at h9
            replace M := hide h9
            clear h9 he HE
            go_wp2_with fail
            go_roundw
            case rel => exact ⟨j + 1, by omega, by rw [unhide HQ3], by go_num, M⟩
            case measure => simp [intOf]; omega
      have hd6 : decide ((j : Int) < 8) = false := by simp; omega
      have h9 := unhide M
      rw [show j = 8 by omega, unhide HY1, unhide HY2] at h9
      replace M : Hid (Mm w wr [(b1, 28, u8s s), (b2, 26, vwC zv), (b3, 26, vwC (viewV s))]) := hide h9
      clear h9
      have hok := viewV_ok hs
      have HPL : Hid ((putV (viewV s)).1.length = 64) := putV_len _ hok.len
      have hzs : ¬ s = zs 64 := by simpa using hz
      cases hm : (viewV s).may with
      | false =>
        have P13 : ∀ W, First W → Hid (Calls Tryd.prog 13 #[aggV (vwC (viewV s))] W fun e w' => e = .returned (.bool false) ∧ Kept [] W w') := fun W hW => hide (by have := rmay13 (viewV s) W hW hok.len; rw [hm] at this; exact this)
        have HANS : Hid (Ending.returned (two (zv, 12)) = .returned (two (getV s))) := by
          show _ = _
          unfold getV putV
          rw [if_neg hzs, if_pos hm, if_neg (by simp)]
        clear hzs hm
        go_wp2_with fail
        refine wp_region_any mixed (wpAny_tq 9 rfl (by kernel_rfl) [some (aggV (vwC (viewV s))), some (.bool false), some (.bool true), some (.bool true), none, none, none, none, some (.bool true)] rfl (by kernel_rfl) (by kernel_rfl) ?_ ?_)
        · intro i o' hi hsk ho a' w2 hout hin hk2
          replace hk2 : Kept [] wr w2 := ⟨hk2.os, hk2.tape, hk2.output, hk2.size, hk2.block⟩
          match i, ho, hsk with
          | 0, ho, hsk =>
            obtain rfl := Option.some.inj ho
            exact wp_loadA row26 (.tmp 4) rfl b3 0 ((hout 4 (by kernel_rfl)).trans rfl) (vwC (viewV s)) rfl (((unhide M).step hk2).at 2 _ rfl).range ⟨_, rfl, tq_is _ _ _ _ rfl, Kept.refl _ _, fun _ _ _ _ _ => trivial⟩
          | 1, ho, hsk =>
            obtain rfl := Option.some.inj ho
            have e0 : a'.eval (.tmp 72) = aggV (vwC (viewV s)) := is_tq (hin 0 72 (by kernel_rfl) (by kernel_rfl)) rfl
            refine wp_callF 13 _ _ rfl #[aggV (vwC (viewV s))] (by simp [e0]) (cg13 _ _) ((unhide (P13 _ (((unhide M).step hk2).first))).mono ?_)
            rintro e w3 ⟨rfl, hk3⟩
            exact ⟨_, rfl, _, rfl, tq_is _ _ _ _ rfl, hk3, fun _ _ _ _ _ => trivial⟩
          | 2, ho, hsk =>
            obtain rfl := Option.some.inj ho
            have e0 : a'.eval (.tmp 73) = .bool false := is_tq (hin 1 73 (by kernel_rfl) (by kernel_rfl)) rfl
            exact o_not (.tmp 73) rfl false e0 ⟨_, rfl, tq_is _ _ _ _ rfl, Kept.refl _ _, fun _ _ _ _ _ => trivial⟩
          | 3, ho, hsk =>
            obtain rfl := Option.some.inj ho
            have e0 : a'.eval (.tmp 74) = .bool true := is_tq (hin 2 74 (by kernel_rfl) (by kernel_rfl)) rfl
            exact wp_move (.tmp 74) rfl _ e0 ⟨_, rfl, tq_is _ _ _ _ rfl, Kept.refl _ _, fun _ _ _ _ _ => trivial⟩
          | 4, ho, hsk =>
            cases hsk
          | 5, ho, hsk =>
            cases hsk
          | 6, ho, hsk =>
            cases hsk
          | 7, ho, hsk =>
            cases hsk
          | 8, ho, hsk =>
            obtain rfl := Option.some.inj ho
            have e0 : a'.eval (.tmp 75) = .bool true := is_tq (hin 3 75 (by kernel_rfl) (by kernel_rfl)) rfl
            exact o_pickOrT (.tmp 75) (.tmp 79) rfl e0 ⟨_, rfl, tq_is _ _ _ _ rfl, Kept.refl _ _, fun _ _ _ _ _ => trivial⟩
        intro w9 hk9
        replace hk9 : Kept [] wr w9 := ⟨hk9.os, hk9.tape, hk9.output, hk9.size, hk9.block⟩
        simp only [valsQ, List.map_cons, List.map_nil, Option.getD_some, Option.getD_none, List.take_succ_cons, List.take_zero, putAll, Act.put, List.setIfInBounds_toArray, List.set_cons_succ, List.set_cons_zero]
        refine wpAny_done (by kernel_rfl) ?_ _
        replace M : Hid (Mm w w9 [(b1, 28, u8s s), (b2, 26, vwC zv), (b3, 26, vwC (viewV s))]) := hide ((unhide M).step hk9)
        clear hk9
        go_wp2_with (
          first
          | (refine wpStoreM row26 rfl (.tmp 2) (.tmp 81) rfl rfl b2 1 (vwC zv) rfl rfl rfl (vwC_one _) (unhide M) rfl rfl ?_
             intro W91 N91
             replace M : Hid (Mm w W91 [(b1, 28, u8s s), (b2, 26, vwC zv), (b3, 26, vwC (viewV s))]) := hide N91
             clear N91
             refine Stp.go ?_))
        constructor
        go_wp2_with fail
        refine bodyPost_ret (res10 _ b2 (vwC zv) 12 _ rfl rfl rfl ((unhide M).at 1 _ rfl)) rfl ?_
        exact ⟨unhide HANS, (unhide M).kept⟩
      | true =>
        have P13 : ∀ W, First W → Hid (Calls Tryd.prog 13 #[aggV (vwC (viewV s))] W fun e w' => e = .returned (.bool true) ∧ Kept [] W w') := fun W hW => hide (by have := rmay13 (viewV s) W hW hok.len; rw [hm] at this; exact this)
        have P15 : ∀ W, First W → Hid (Calls Tryd.prog 15 #[aggV (vwC (viewV s))] W fun e w' => e = .returned (aggV (u8s (putV (viewV s)).1)) ∧ Kept [] W w') := fun W hW => hide (rput15 (viewV s) W hW hok hm)
        have hp2 : (putV (viewV s)).2 = 0 := by unfold putV; rw [if_neg (by rw [hm]; simp)]; split <;> rfl
        by_cases heq : (putV (viewV s)).1 = s
        · have HEQ : Hid (decide ((putV (viewV s)).1 = s) = true) := hide (by simpa using heq)
          have HANS : Hid (Ending.returned (two (viewV s, 0)) = .returned (two (getV s))) := by
            show _ = _
            unfold getV
            rw [if_neg hzs, if_pos (Prod.ext heq hp2)]
          clear hzs hm hp2 heq
          go_wp2_with fail
          refine wp_region_any mixed (wpAny_tq 9 rfl (by kernel_rfl) [some (aggV (vwC (viewV s))), some (.bool true), some (.bool false), some (.bool false), some (aggV (vwC (viewV s))), some (aggV (u8s (putV (viewV s)).1)), some (aggV (u8s s)), some (.bool false), some (.bool false)] rfl (by kernel_rfl) (by kernel_rfl) ?_ ?_)
          · intro i o' hi hsk ho a' w2 hout hin hk2
            replace hk2 : Kept [] wr w2 := ⟨hk2.os, hk2.tape, hk2.output, hk2.size, hk2.block⟩
            match i, ho, hsk with
            | 0, ho, hsk =>
              obtain rfl := Option.some.inj ho
              exact wp_loadA row26 (.tmp 4) rfl b3 0 ((hout 4 (by kernel_rfl)).trans rfl) (vwC (viewV s)) rfl (((unhide M).step hk2).at 2 _ rfl).range ⟨_, rfl, tq_is _ _ _ _ rfl, Kept.refl _ _, fun _ _ _ _ _ => trivial⟩
            | 1, ho, hsk =>
              obtain rfl := Option.some.inj ho
              have e0 : a'.eval (.tmp 72) = aggV (vwC (viewV s)) := is_tq (hin 0 72 (by kernel_rfl) (by kernel_rfl)) rfl
              refine wp_callF 13 _ _ rfl #[aggV (vwC (viewV s))] (by simp [e0]) (cg13 _ _) ((unhide (P13 _ (((unhide M).step hk2).first))).mono ?_)
              rintro e w3 ⟨rfl, hk3⟩
              exact ⟨_, rfl, _, rfl, tq_is _ _ _ _ rfl, hk3, fun _ _ _ _ _ => trivial⟩
            | 2, ho, hsk =>
              obtain rfl := Option.some.inj ho
              have e0 : a'.eval (.tmp 73) = .bool true := is_tq (hin 1 73 (by kernel_rfl) (by kernel_rfl)) rfl
              exact o_not (.tmp 73) rfl true e0 ⟨_, rfl, tq_is _ _ _ _ rfl, Kept.refl _ _, fun _ _ _ _ _ => trivial⟩
            | 3, ho, hsk =>
              obtain rfl := Option.some.inj ho
              have e0 : a'.eval (.tmp 74) = .bool false := is_tq (hin 2 74 (by kernel_rfl) (by kernel_rfl)) rfl
              exact wp_move (.tmp 74) rfl _ e0 ⟨_, rfl, tq_is _ _ _ _ rfl, Kept.refl _ _, fun _ _ _ _ _ => trivial⟩
            | 4, ho, hsk =>
              obtain rfl := Option.some.inj ho
              exact wp_loadA row26 (.tmp 4) rfl b3 0 ((hout 4 (by kernel_rfl)).trans rfl) (vwC (viewV s)) rfl (((unhide M).step hk2).at 2 _ rfl).range ⟨_, rfl, tq_is _ _ _ _ rfl, Kept.refl _ _, fun _ _ _ _ _ => trivial⟩
            | 5, ho, hsk =>
              obtain rfl := Option.some.inj ho
              have e0 : a'.eval (.tmp 76) = aggV (vwC (viewV s)) := is_tq (hin 4 76 (by kernel_rfl) (by kernel_rfl)) rfl
              refine wp_callF 15 _ _ rfl #[aggV (vwC (viewV s))] (by simp [e0]) (cg15 _ _) ((unhide (P15 _ (((unhide M).step hk2).first))).mono ?_)
              rintro e w3 ⟨rfl, hk3⟩
              exact ⟨_, rfl, _, rfl, tq_is _ _ _ _ rfl, hk3, fun _ _ _ _ _ => trivial⟩
            | 6, ho, hsk =>
              obtain rfl := Option.some.inj ho
              exact wp_loadA row28 (.tmp 1) rfl b1 0 ((hout 1 (by kernel_rfl)).trans rfl) (u8s s) (by rw [u8s_len]; exact hs.len) (((unhide M).step hk2).at 0 _ rfl).range ⟨_, rfl, tq_is _ _ _ _ rfl, Kept.refl _ _, fun _ _ _ _ _ => trivial⟩
            | 7, ho, hsk =>
              obtain rfl := Option.some.inj ho
              have e0 : a'.eval (.tmp 77) = aggV (u8s (putV (viewV s)).1) := is_tq (hin 5 77 (by kernel_rfl) (by kernel_rfl)) rfl
              have e1 : a'.eval (.tmp 78) = aggV (u8s s) := is_tq (hin 6 78 (by kernel_rfl) (by kernel_rfl)) rfl
              exact o_neqA 28 28 guard28 (.tmp 77) (.tmp 78) rfl (u8s (putV (viewV s)).1) (u8s s) e0 e1 true ((equal28 _ _ s (unhide HPL) hs.len).trans (by rw [unhide HEQ])) ⟨_, rfl, tq_is _ _ _ _ rfl, Kept.refl _ _, fun _ _ _ _ _ => trivial⟩
            | 8, ho, hsk =>
              obtain rfl := Option.some.inj ho
              have e0 : a'.eval (.tmp 75) = .bool false := is_tq (hin 3 75 (by kernel_rfl) (by kernel_rfl)) rfl
              have e1 : a'.eval (.tmp 79) = .bool false := is_tq (hin 7 79 (by kernel_rfl) (by kernel_rfl)) rfl
              exact o_pickOr0 (.tmp 75) (.tmp 79) rfl _ e0 e1 ⟨_, rfl, tq_is _ _ _ _ rfl, Kept.refl _ _, fun _ _ _ _ _ => trivial⟩
          intro w9 hk9
          replace hk9 : Kept [] wr w9 := ⟨hk9.os, hk9.tape, hk9.output, hk9.size, hk9.block⟩
          simp only [valsQ, List.map_cons, List.map_nil, Option.getD_some, List.take_succ_cons, List.take_zero, putAll, Act.put, List.setIfInBounds_toArray, List.set_cons_succ, List.set_cons_zero]
          refine wpAny_done (by kernel_rfl) ?_ _
          replace M : Hid (Mm w w9 [(b1, 28, u8s s), (b2, 26, vwC zv), (b3, 26, vwC (viewV s))]) := hide ((unhide M).step hk9)
          clear hk9
          go_wp2_with (
            first
            | (refine wpLoadA row26 rfl (.tmp 4) rfl b3 0 rfl (vwC (viewV s)) rfl ((unhide M).at 2 _ rfl).range ?_
               refine Stp.go ?_))
          constructor
          go_wp2_with (
            first
            | (refine wpStoreM row26 rfl (.tmp 2) (.tmp 82) rfl rfl b2 1 (vwC (viewV s)) rfl rfl rfl (vwC_one _) (unhide M) rfl rfl ?_
               intro W91 N91
               replace M : Hid (Mm w W91 [(b1, 28, u8s s), (b2, 26, vwC (viewV s)), (b3, 26, vwC (viewV s))]) := hide N91
               clear N91
               refine Stp.go ?_))
          constructor
          go_wp2_with fail
          refine bodyPost_ret (res10 _ b2 (vwC (viewV s)) 0 _ rfl rfl rfl ((unhide M).at 1 _ rfl)) rfl ?_
          exact ⟨unhide HANS, (unhide M).kept⟩
        · have HEQ : Hid (decide ((putV (viewV s)).1 = s) = false) := hide (by simpa using heq)
          have HANS : Hid (Ending.returned (two (zv, 12)) = .returned (two (getV s))) := by
            show _ = _
            unfold getV
            rw [if_neg hzs, if_neg (fun h => heq (by rw [h]))]
          clear hzs hm hp2 heq
          go_wp2_with fail
          refine wp_region_any mixed (wpAny_tq 9 rfl (by kernel_rfl) [some (aggV (vwC (viewV s))), some (.bool true), some (.bool false), some (.bool false), some (aggV (vwC (viewV s))), some (aggV (u8s (putV (viewV s)).1)), some (aggV (u8s s)), some (.bool true), some (.bool true)] rfl (by kernel_rfl) (by kernel_rfl) ?_ ?_)
          · intro i o' hi hsk ho a' w2 hout hin hk2
            replace hk2 : Kept [] wr w2 := ⟨hk2.os, hk2.tape, hk2.output, hk2.size, hk2.block⟩
            match i, ho, hsk with
            | 0, ho, hsk =>
              obtain rfl := Option.some.inj ho
              exact wp_loadA row26 (.tmp 4) rfl b3 0 ((hout 4 (by kernel_rfl)).trans rfl) (vwC (viewV s)) rfl (((unhide M).step hk2).at 2 _ rfl).range ⟨_, rfl, tq_is _ _ _ _ rfl, Kept.refl _ _, fun _ _ _ _ _ => trivial⟩
            | 1, ho, hsk =>
              obtain rfl := Option.some.inj ho
              have e0 : a'.eval (.tmp 72) = aggV (vwC (viewV s)) := is_tq (hin 0 72 (by kernel_rfl) (by kernel_rfl)) rfl
              refine wp_callF 13 _ _ rfl #[aggV (vwC (viewV s))] (by simp [e0]) (cg13 _ _) ((unhide (P13 _ (((unhide M).step hk2).first))).mono ?_)
              rintro e w3 ⟨rfl, hk3⟩
              exact ⟨_, rfl, _, rfl, tq_is _ _ _ _ rfl, hk3, fun _ _ _ _ _ => trivial⟩
            | 2, ho, hsk =>
              obtain rfl := Option.some.inj ho
              have e0 : a'.eval (.tmp 73) = .bool true := is_tq (hin 1 73 (by kernel_rfl) (by kernel_rfl)) rfl
              exact o_not (.tmp 73) rfl true e0 ⟨_, rfl, tq_is _ _ _ _ rfl, Kept.refl _ _, fun _ _ _ _ _ => trivial⟩
            | 3, ho, hsk =>
              obtain rfl := Option.some.inj ho
              have e0 : a'.eval (.tmp 74) = .bool false := is_tq (hin 2 74 (by kernel_rfl) (by kernel_rfl)) rfl
              exact wp_move (.tmp 74) rfl _ e0 ⟨_, rfl, tq_is _ _ _ _ rfl, Kept.refl _ _, fun _ _ _ _ _ => trivial⟩
            | 4, ho, hsk =>
              obtain rfl := Option.some.inj ho
              exact wp_loadA row26 (.tmp 4) rfl b3 0 ((hout 4 (by kernel_rfl)).trans rfl) (vwC (viewV s)) rfl (((unhide M).step hk2).at 2 _ rfl).range ⟨_, rfl, tq_is _ _ _ _ rfl, Kept.refl _ _, fun _ _ _ _ _ => trivial⟩
            | 5, ho, hsk =>
              obtain rfl := Option.some.inj ho
              have e0 : a'.eval (.tmp 76) = aggV (vwC (viewV s)) := is_tq (hin 4 76 (by kernel_rfl) (by kernel_rfl)) rfl
              refine wp_callF 15 _ _ rfl #[aggV (vwC (viewV s))] (by simp [e0]) (cg15 _ _) ((unhide (P15 _ (((unhide M).step hk2).first))).mono ?_)
              rintro e w3 ⟨rfl, hk3⟩
              exact ⟨_, rfl, _, rfl, tq_is _ _ _ _ rfl, hk3, fun _ _ _ _ _ => trivial⟩
            | 6, ho, hsk =>
              obtain rfl := Option.some.inj ho
              exact wp_loadA row28 (.tmp 1) rfl b1 0 ((hout 1 (by kernel_rfl)).trans rfl) (u8s s) (by rw [u8s_len]; exact hs.len) (((unhide M).step hk2).at 0 _ rfl).range ⟨_, rfl, tq_is _ _ _ _ rfl, Kept.refl _ _, fun _ _ _ _ _ => trivial⟩
            | 7, ho, hsk =>
              obtain rfl := Option.some.inj ho
              have e0 : a'.eval (.tmp 77) = aggV (u8s (putV (viewV s)).1) := is_tq (hin 5 77 (by kernel_rfl) (by kernel_rfl)) rfl
              have e1 : a'.eval (.tmp 78) = aggV (u8s s) := is_tq (hin 6 78 (by kernel_rfl) (by kernel_rfl)) rfl
              exact o_neqA 28 28 guard28 (.tmp 77) (.tmp 78) rfl (u8s (putV (viewV s)).1) (u8s s) e0 e1 false ((equal28 _ _ s (unhide HPL) hs.len).trans (by rw [unhide HEQ])) ⟨_, rfl, tq_is _ _ _ _ rfl, Kept.refl _ _, fun _ _ _ _ _ => trivial⟩
            | 8, ho, hsk =>
              obtain rfl := Option.some.inj ho
              have e0 : a'.eval (.tmp 75) = .bool false := is_tq (hin 3 75 (by kernel_rfl) (by kernel_rfl)) rfl
              have e1 : a'.eval (.tmp 79) = .bool true := is_tq (hin 7 79 (by kernel_rfl) (by kernel_rfl)) rfl
              exact o_pickOr0 (.tmp 75) (.tmp 79) rfl _ e0 e1 ⟨_, rfl, tq_is _ _ _ _ rfl, Kept.refl _ _, fun _ _ _ _ _ => trivial⟩
          intro w9 hk9
          replace hk9 : Kept [] wr w9 := ⟨hk9.os, hk9.tape, hk9.output, hk9.size, hk9.block⟩
          simp only [valsQ, List.map_cons, List.map_nil, Option.getD_some, List.take_succ_cons, List.take_zero, putAll, Act.put, List.setIfInBounds_toArray, List.set_cons_succ, List.set_cons_zero]
          refine wpAny_done (by kernel_rfl) ?_ _
          replace M : Hid (Mm w w9 [(b1, 28, u8s s), (b2, 26, vwC zv), (b3, 26, vwC (viewV s))]) := hide ((unhide M).step hk9)
          clear hk9
          go_wp2_with (
            first
            | (refine wpStoreM row26 rfl (.tmp 2) (.tmp 81) rfl rfl b2 1 (vwC zv) rfl rfl rfl (vwC_one _) (unhide M) rfl rfl ?_
               intro W91 N91
               replace M : Hid (Mm w W91 [(b1, 28, u8s s), (b2, 26, vwC zv), (b3, 26, vwC (viewV s))]) := hide N91
               clear N91
               refine Stp.go ?_))
          constructor
          go_wp2_with fail
          refine bodyPost_ret (res10 _ b2 (vwC zv) 12 _ rfl rfl rfl ((unhide M).at 1 _ rfl)) rfl ?_
          exact ⟨unhide HANS, (unhide M).kept⟩
theorem rget10 (s : List Int) (w : World) (hF : First w) (hs : Byts 64 s) : Calls Tryd.prog 10 #[aggV (u8s s)] w fun x w' => x = .returned (two (getV s)) ∧ Kept [] w w' := by
  by_cases hz : s = zs 64
  · have : getV s = (fv, 0) := by unfold getV; rw [if_pos hz]
    rw [this]
    exact rget_z s w hF hs (by simpa using hz)
  · exact rget_s s w hF hs (by simpa using hz)

end Go.Proofs.YtbpnnbbinhdoiaaDoor
