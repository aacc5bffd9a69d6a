/-
  Cut: the log begins later.
-/
import Derived.Test.YtmeajhdhiebkdaaDoorLf
import Derived.Test.YtmeajhdhiebkdaaDoorRcTake
namespace Go.Proofs.YtmeajhdhiebkdaaDoor
set_option maxRecDepth 100000
open Go.RowKit

theorem Tryd.sl85 : Tryd.prog.underlying 85 = some (.slice 80) := by kernel_rfl
theorem Tryd.info80z : (Tryd.prog.info? 80).map (fun i => (i.zero, i.size, i.bytes)) = some (some (.agg ((List.replicate 64 (Value.int .u8 0)).toArray)), 64, 64) := by kernel_rfl
theorem fillS (arr : Array Value) (ha : arr.size = 64) (vs : List Value) (h : vs.length = 64) : Instr.fill (fun i => some (i * 64, 64)) arr [(0, aggV vs)] = some vs.toArray := by
  have hf := fold_set [] vs arr.toList 0 [] (by rw [Array.length_toList, ha, h]) rfl
  have hc : (Value.agg vs.toArray).cells = vs.toArray := rfl
  simp [Instr.fill, aggV, hc, h, ha]
  simpa using hf
theorem bsS (w : World) (vs : List Value) (h : vs.length = 64) : (Instr.buildSlice 85 1 #[(0, aggV vs)]).run Tryd.prog w = .ok (.slice (some ⟨w.heap.size, 0, none⟩) 1 1) (w.alloc (.cells vs.toArray 80)) := by
  obtain ⟨i, hi, hz0, hz1, _⟩ := info_parts Tryd.info80z
  refine run_buildSlice (P := Tryd.prog) w 85 80 1 #[(0, aggV vs)] vs.toArray i _ Tryd.sl85 hi hz0 (by rw [hz1]; decide) (by rw [hz1]; decide) ?_
  rw [hz1]
  exact fillS _ (by simp) vs h
theorem wpBsS {ops : Array Oper} {rest : List Oper} {op : Oper} {a : Act} {w : World} {Q : Exit → Act → World → Prop} (hgd : op.guard = none) (x : Operand) (ho : op.op = .buildSlice 85 1 #[(0, x)]) (vs : List Value) (hl : vs.length = 64) (hx : a.eval x = aggV vs)
    (h : ∀ W b, b = w.heap.size → Blk W b 80 vs → Kept [] w W → wpList Tryd.prog ops Q rest (a.put op.dst (.slice (some ⟨b, 0, none⟩) 1 1)) W) : wpList Tryd.prog ops Q (op :: rest) a w :=
  wpList_plain hgd fun K hK => by
    unfold Oper.wp execOp
    simp only [ho, List.map_toArray, List.map_cons, List.map_nil, hx, Sem.run_bind, bsS w vs hl, Result.andThen_ok]
    exact hK _ _ (h _ _ rfl (Blk.new w 80 vs) ((Kept.refl _ _).alloc _))
theorem secs_one {W : World} {p : Nat} {X : List Int} (hB : Blk W p 80 (u8s X)) (hX : Rc.Byts 64 X) : Dv.Secs W (some ⟨p, 0, none⟩) 1 1 [X] := by
  refine ⟨rfl, fun s hs => ?_, by omega, fun _ => ⟨p, 0, rfl, fun i hi => ?_⟩⟩
  · simp only [List.mem_cons, List.not_mem_nil, or_false] at hs
    subst hs
    exact ⟨hX.len, hX.byte⟩
  · match i, hi with
    | 0, _ =>
      refine hB.rangeIn _ (fun j hj => ?_)
      simp
theorem head_pos (J : Ar.Job) (n : Int) (h : J.may = true) (hn : 0 ≤ n ∧ n < J.n) : -9223372036854775808 ≤ (J.head n).1 ∧ (J.head n).1 ≤ 9223372036854775807 := by
  simp only [Ar.Job.may, decide_eq_true_eq] at h
  unfold Ar.Job.head
  split
  · have h1 : n * (1 + 2 * J.l) ≤ 8 * 129 := Int.mul_le_mul (by omega) (by omega) (by omega) (by omega)
    have h2 : 0 ≤ n * (1 + 2 * J.l) := Int.mul_nonneg (by omega) (by omega)
    constructor <;> simp only <;> omega
  · constructor <;> simp only <;> omega
section
variable {o : Oper} {a : Act} {w : World} {K : Act → World → Prop} {Q : Exit → Act → World → Prop}
theorem o_ext0 (x : Operand) (ho : o.op = .extract x 0) (u v : Value) (hx : a.eval x = .tuple #[u, v]) (h : K (a.put o.dst u) w) : o.wp Tryd.prog a w K Q := by
  unfold Oper.wp execOp
  simp only [ho, hx]
  simp [go_sem]
  exact h
theorem o_ext1 (x : Operand) (ho : o.op = .extract x 1) (u v : Value) (hx : a.eval x = .tuple #[u, v]) (h : K (a.put o.dst v) w) : o.wp Tryd.prog a w K Q := by
  unfold Oper.wp execOp
  simp only [ho, hx]
  simp [go_sem]
  exact h
theorem o_addc2 (x : Operand) (c : Int) (ho : o.op = .binOp .add 2 x (.const (.int .i64 c)) 2) (m r : Int) (hr : m + c = r) (hb : -9223372036854775808 ≤ r ∧ r ≤ 9223372036854775807) (hx : a.eval x = .int .i64 m) (h : K (a.put o.dst (.int .i64 r)) w) : o.wp Tryd.prog a w K Q := by
  have hw : IntKind.i64.wrap r = r := by rw [IntKind.wrap_i64]; omega
  unfold Oper.wp execOp
  simp only [ho, hx]
  simp [go_sem, Act.eval, hr, hw]
  exact h
theorem o_st2 (x y : Operand) (ho : o.op = .store 2 x y) (_ : o.dst = none) (b i TT : Nat) (us : List Value) (n : Int) (hx : a.eval x = .pointer (some ⟨b, i, none⟩)) (hy : a.eval y = .int .i64 n) (hB : Blk w b TT us) (hi : i < us.length)
    (h : ∀ W, Blk W b TT (us.set i (.int .i64 n)) → Kept [b] w W → K (a.put o.dst undef) W) : o.wp Tryd.prog a w K Q := by
  have hc := hB.cell i
  rw [List.getElem?_eq_getElem hi] at hc
  have hf := hB.frozen i
  have hst : (storeVar 2 ⟨b, i, none⟩ (.int .i64 n)).run Tryd.prog w = .ok () (w.setCell ⟨b, i, none⟩ (.int .i64 n)) := by simp [storeVar, go_sem, hc, hf]
  have hr := h _ (hB.set (i := i) (.int .i64 n)) ((Kept.refl _ _).setCell (by simp) _)
  unfold Oper.wp execOp
  simp only [ho, hx, hy, Instr.storeAt, Instr.sureAddr, Sem.run_bind, Sem.run_pure, Result.andThen_ok, hst]
  exact hr
theorem o_st3 (x y : Operand) (ho : o.op = .store 3 x y) (_ : o.dst = none) (b i TT : Nat) (us : List Value) (n : Int) (hx : a.eval x = .pointer (some ⟨b, i, none⟩)) (hy : a.eval y = .int .i64 n) (hB : Blk w b TT us) (hi : i < us.length)
    (h : ∀ W, Blk W b TT (us.set i (.int .i64 n)) → Kept [b] w W → K (a.put o.dst undef) W) : o.wp Tryd.prog a w K Q := by
  have hc := hB.cell i
  rw [List.getElem?_eq_getElem hi] at hc
  have hf := hB.frozen i
  have hst : (storeVar 3 ⟨b, i, none⟩ (.int .i64 n)).run Tryd.prog w = .ok () (w.setCell ⟨b, i, none⟩ (.int .i64 n)) := by simp [storeVar, go_sem, hc, hf]
  have hr := h _ (hB.set (i := i) (.int .i64 n)) ((Kept.refl _ _).setCell (by simp) _)
  unfold Oper.wp execOp
  simp only [ho, hx, hy, Instr.storeAt, Instr.sureAddr, Sem.run_bind, Sem.run_pure, Result.andThen_ok, hst]
  exact hr
end
theorem cg15 (vs : Array Value) (w : World) : (callFunc 15 vs).run Tryd.prog w = .ok (.enter 15 vs) w := by kernel_rfl
theorem cg32 (vs : Array Value) (w : World) : (callFunc 32 vs).run Tryd.prog w = .ok (.enter 32 vs) w := by kernel_rfl
theorem cg37 (vs : Array Value) (w : World) : (callFunc 37 vs).run Tryd.prog w = .ok (.enter 37 vs) w := by kernel_rfl
theorem head37 (j : Ar.Job) (n : Int) (w : World) : Calls Tryd.prog 37 #[aggV (Ar.jobC j), .int .i64 n] w fun e w' => e = .returned (.tuple #[.int .i64 (j.head n).1, .int .i64 (j.head n).2]) ∧ Kept [] w w' := Ar.head20 j n w
theorem puth38 (st ep : Int) (w : World) (hF : Rc.First w) : Calls Tryd.prog 38 #[aggV (Rc.hdC st ep)] w fun e w' => e = .returned (.tuple #[aggV (u8s (Rc.puthR st ep).1), .int .i64 (Rc.puthR st ep).2]) ∧ Kept [] w w' := Rc.puthead9 st ep w hF
/-- What Cut does. -/
def Lo.mayC (L : Lo) (s : Int) : Bool := decide (L.st ≤ s ∧ s ≤ L.st + L.fl)
def Lo.from (L : Lo) (s : Int) : Lo := ⟨L.J, L.nd, L.ep, s, L.R.drop (s - L.st).toNat, L.fl - (s - L.st).toNat⟩
def Lo.cutW (L : Lo) (D : Dv.Dev) (s : Int) : Int × Dv.Dev := D.write L.nd L.ep (L.J.head L.nd).1 [(Rc.puthR s L.ep).1]
def Lo.cut (L : Lo) (D : Dv.Dev) (s : Int) : Dv.Dev × Lo × Int := if L.mayC s = false then (D, L, 2) else if (L.cutW D s).1 = 0 then ((L.cutW D s).2, L.from s, 0) else ((L.cutW D s).2, L, 8)
set_option maxHeartbeats 4000000 in
theorem cut_no (l b g : Nat) (rv : Value) (D : Dv.Dev) (L : Lo) (s : Int) (w : World) (h : Lt w l b g rv D L) (_ : Rc.First w) (hno : L.mayC s = false) : Calls Tryd.prog 14 #[P0 l, .int .i64 s] w fun e w' => e = .returned (.int .i64 2) ∧ Kept [] w w' := by
  have HL := hide h
  have HH := hide h.head
  have HBND : Hid (-9223372036854775808 ≤ L.st + L.fl ∧ L.st + L.fl ≤ 9223372036854775807) := by
    have h1 := h.st
    have h2 := h.nx
    have h3 := h.fl
    constructor <;> omega
  obtain ⟨ok, hok⟩ : ∃ ok, ok = L.mayC s := ⟨_, rfl⟩
  have P32 := hide (fun W => from32 L.st s (L.st + L.fl) W)
  have e9 : decide (L.st ≤ s ∧ s ≤ L.st + L.fl) = ok := hok.symm
  rw [e9] at P32
  clear e9
  rw [hno] at hok
  subst hok
  clear h
  go_enter Tryd.func14, Tryd.ntmps14
  go_wp2_with (
    first
    | (go_at_call 33
       refine (none33 l b g rv D L _ (unhide HL)).mono ?_
       rintro e w' ⟨rfl, hw9⟩
       obtain rfl := hw9.symm
       clear hw9
       refine Stp.go ?_))
  constructor
  go_wp2_with fail
  refine wp_region_any mixed (wpAny_gx 11 rfl (by kernel_rfl) [some (P0 l), some (P0 l), some (.pointer (some ⟨l, 8, none⟩)), some (.int .i64 L.st), some (.int .i64 s), some (P0 l), some (.int .i64 (L.st + L.fl - 1)), some (.int .i64 (L.st + L.fl)), some (.bool false), some (.bool (!false)), some (.bool (!false))] rfl (by kernel_rfl) (fun l_ vs W => (S0 w) (fun i => l_.getD i false) vs W) (⟨rfl, rfl, rfl, Nat.le_refl _, fun _ _ _ => rfl⟩) ?_ ?_)
  · intro ix o' hi ho a' w2 l_ vs hls hlf hJ hout hin hdep hnot
    match ix, ho with
    | 0, ho =>
      obtain rfl := Option.some.inj ho
      have e0 := hout 0 (by kernel_rfl)
      replace e0 : a'.eval (.tmp 0) = _ := e0.trans rfl
      exact wp_move (.tmp 0) rfl _ e0 ⟨_, rfl, told_of rfl, keepG (St := (S0 w)) [] S0.loc (by omega) (by decide) hJ⟩
    | 1, ho =>
      obtain rfl := Option.some.inj ho
      have e0 : a'.eval (.tmp 15) = P0 l := by have h9 := hin 0 15 (by kernel_rfl) (by kernel_rfl); exact h9.1.trans (told_is _ h9.2 rfl)
      exact o_nil (.tmp 15) rfl _ e0 ⟨_, rfl, told_of rfl, keepG (St := (S0 w)) [] S0.loc (by omega) (by decide) hJ⟩
    | 2, ho =>
      obtain rfl := Option.some.inj ho
      have e0 : a'.eval (.tmp 16) = P0 l := by have h9 := hin 1 16 (by kernel_rfl) (by kernel_rfl); exact h9.1.trans (told_is _ h9.2 rfl)
      exact o_fld72_4 (.tmp 16) rfl _ e0 ⟨_, rfl, told_of rfl, keepG (St := (S0 w)) [] S0.loc (by omega) (by decide) hJ⟩
    | 3, ho =>
      obtain rfl := Option.some.inj ho
      have e0 : a'.eval (.tmp 17) = .pointer (some ⟨l, 8, none⟩) := by have h9 := hin 2 17 (by kernel_rfl) (by kernel_rfl); exact h9.1.trans (told_is _ h9.2 rfl)
      exact q_load2 (.tmp 17) rfl _ _ e0 (fits_cell ((unhide HH).kept hJ (by simp)) 8 _ rfl) ⟨_, rfl, told_of rfl, keepG (St := (S0 w)) [] S0.loc (by omega) (by decide) hJ⟩
    | 4, ho =>
      obtain rfl := Option.some.inj ho
      have e0 := hout 1 (by kernel_rfl)
      replace e0 : a'.eval (.tmp 1) = _ := e0.trans rfl
      exact wp_move (.tmp 1) rfl _ e0 ⟨_, rfl, told_of rfl, keepG (St := (S0 w)) [] S0.loc (by omega) (by decide) hJ⟩
    | 5, ho =>
      obtain rfl := Option.some.inj ho
      have e0 := hout 0 (by kernel_rfl)
      replace e0 : a'.eval (.tmp 0) = _ := e0.trans rfl
      exact wp_move (.tmp 0) rfl _ e0 ⟨_, rfl, told_of rfl, keepG (St := (S0 w)) [] S0.loc (by omega) (by decide) hJ⟩
    | 6, ho =>
      obtain rfl := Option.some.inj ho
      have e0 : a'.eval (.tmp 20) = P0 l := by have h9 := hin 5 20 (by kernel_rfl) (by kernel_rfl); exact h9.1.trans (told_is _ h9.2 rfl)
      refine wp_callF 15 _ _ rfl #[P0 l] (by simp [e0]) (cg15 _ _) ((flushed15 l b g rv D L w2 ((unhide HL).kept0 hJ)).mono ?_)
      rintro e w3 ⟨rfl, hk3⟩
      exact ⟨_, rfl, _, rfl, told_of rfl, keepG (St := (S0 w)) [] S0.loc (by omega) (by decide) (Kept.trans hJ hk3)⟩
    | 7, ho =>
      obtain rfl := Option.some.inj ho
      have e0 : a'.eval (.tmp 21) = .int .i64 (L.st + L.fl - 1) := by have h9 := hin 6 21 (by kernel_rfl) (by kernel_rfl); exact h9.1.trans (told_is _ h9.2 rfl)
      exact o_addc2 (.tmp 21) 1 rfl _ _ (by omega) (unhide HBND) e0 ⟨_, rfl, told_of rfl, keepG (St := (S0 w)) [] S0.loc (by omega) (by decide) hJ⟩
    | 8, ho =>
      obtain rfl := Option.some.inj ho
      have e0 : a'.eval (.tmp 18) = .int .i64 L.st := by have h9 := hin 3 18 (by kernel_rfl) (by kernel_rfl); exact h9.1.trans (told_is _ h9.2 rfl)
      have e1 : a'.eval (.tmp 19) = .int .i64 s := by have h9 := hin 4 19 (by kernel_rfl) (by kernel_rfl); exact h9.1.trans (told_is _ h9.2 rfl)
      have e2 : a'.eval (.tmp 22) = .int .i64 (L.st + L.fl) := by have h9 := hin 7 22 (by kernel_rfl) (by kernel_rfl); exact h9.1.trans (told_is _ h9.2 rfl)
      refine wp_callF 32 _ _ rfl #[.int .i64 L.st, .int .i64 s, .int .i64 (L.st + L.fl)] (by simp [e0, e1, e2]) (cg32 _ _) ((unhide P32 w2).mono ?_)
      rintro e w3 ⟨rfl, hw3⟩
      obtain rfl := hw3.symm
      exact ⟨_, rfl, _, rfl, told_of rfl, keepG (St := (S0 w)) [] S0.loc (by omega) (by decide) hJ⟩
    | 9, ho =>
      obtain rfl := Option.some.inj ho
      have e0 : a'.eval (.tmp 23) = .bool false := by have h9 := hin 8 23 (by kernel_rfl) (by kernel_rfl); exact h9.1.trans (told_is _ h9.2 rfl)
      exact o_not (.tmp 23) rfl false e0 ⟨_, rfl, told_of rfl, keepG (St := (S0 w)) [] S0.loc (by omega) (by decide) hJ⟩
    | 10, ho =>
      obtain rfl := Option.some.inj ho
      have e0 : a'.eval (.tmp 24) = .bool (!false) := by have h9 := hin 9 24 (by kernel_rfl) (by kernel_rfl); exact h9.1.trans (told_is _ h9.2 rfl)
      exact wp_assignV (.tmp 24) rfl _ e0 ⟨_, rfl, told_of rfl, keepG (St := (S0 w)) [] S0.loc (by omega) (by decide) hJ⟩
  intro l_ vs V hl hJ htold
  have t0 : vs 0 = P0 l := told_is _ (htold 0 (by decide)) rfl
  have t1 : vs 1 = P0 l := told_is _ (htold 1 (by decide)) rfl
  have t2 : vs 2 = .pointer (some ⟨l, 8, none⟩) := told_is _ (htold 2 (by decide)) rfl
  have t3 : vs 3 = .int .i64 L.st := told_is _ (htold 3 (by decide)) rfl
  have t4 : vs 4 = .int .i64 s := told_is _ (htold 4 (by decide)) rfl
  have t5 : vs 5 = P0 l := told_is _ (htold 5 (by decide)) rfl
  have t6 : vs 6 = .int .i64 (L.st + L.fl - 1) := told_is _ (htold 6 (by decide)) rfl
  have t7 : vs 7 = .int .i64 (L.st + L.fl) := told_is _ (htold 7 (by decide)) rfl
  have t8 : vs 8 = .bool false := told_is _ (htold 8 (by decide)) rfl
  have t9 : vs 9 = .bool (!false) := told_is _ (htold 9 (by decide)) rfl
  have t10 : vs 10 = .bool (!false) := told_is _ (htold 10 (by decide)) rfl
  rw [show (List.range 11).map vs = [vs 0, vs 1, vs 2, vs 3, vs 4, vs 5, vs 6, vs 7, vs 8, vs 9, vs 10] from rfl]
  simp only [t0, t1, t2, t3, t4, t5, t6, t7, t8, t9, t10, putAll, Act.put, List.setIfInBounds_toArray, List.set_cons_succ, List.set_cons_zero]
  clear t0 t1 t2 t3 t4 t5 t6 t7 t8 t9 t10 htold
  have HK := hide (show Kept [] w V from hJ)
  clear hJ hl
  go_wp2_with fail
  go_ret
  exact ⟨rfl, unhide HK⟩
@[reducible] def S14 (V : World) (l : Nat) (u1 u2 u3 : List Value) (d : Nat → Bool) (_ : Nat → Value) (W : World) : Prop :=
  (d 18 = false → Kept [] V W) ∧ (d 18 = true → d 21 = false → Blk W l 72 u1 ∧ Kept [l] V W) ∧ (d 21 = true → d 24 = false → Blk W l 72 u2 ∧ Kept [l] V W) ∧ (d 24 = true → Blk W l 72 u3 ∧ Kept [l] V W)
theorem S14.loc {V : World} {l : Nat} {u1 u2 u3 : List Value} : ∀ d d' vs vs' W, (∀ i ∈ [18, 21, 24], d i = d' i ∧ vs i = vs' i) → S14 V l u1 u2 u3 d vs W → S14 V l u1 u2 u3 d' vs' W := by
  intro d d' vs vs' W H h
  have e0 := H 18 (by simp)
  have e1 := H 21 (by simp)
  have e2 := H 24 (by simp)
  unfold S14 at h ⊢
  rw [← e0.1, ← e1.1, ← e2.1]
  exact h
theorem Lt.cutTo {V W : World} {l b g : Nat} {ro : Option Addr} {rc : Nat} {D : Dv.Dev} {L : Lo} {s : Int} {gn : Nat} (h : Lt V l b g (.slice ro L.R.length rc) D L) (hs : s = L.st + gn) (hg : gn ≤ L.fl)
    (hB : Blk W l 72 ((((logC b L (.slice ro L.R.length rc)).set 8 (.int .i64 s)).set 9 (restV ro L.R.length rc gn)).set 10 (.int .i64 ((L.fl : Int) - gn)))) (hk : Kept [l] V W) : Lt W l b g (restV ro L.R.length rc gn) D (L.from s) := by
  have e : (s - L.st).toNat = gn := by omega
  have hne := h.apart
  have hfl := h.fl
  have hnx := h.nx
  have hst := h.st
  have hmn := h.many
  have hrow := (h.row.rest gn (by omega)).kept hk (fun k hk => by rw [rest_own] at hk; simpa using (hne.2 k hk).2)
  have h1 := hne.1
  simp only [List.mem_cons, List.not_mem_nil, or_false, not_or] at h1
  unfold Lo.from
  rw [e]
  refine ⟨?_, h.dev.kept hk (by simp; omega) (by simp; omega), ?_, fun r hr => h.recs r (List.mem_of_mem_drop hr), h.may, h.node, h.ep, by show 1 ≤ s; omega, ?_, ?_, ?_⟩
  · have e2 : ((L.fl - gn : Nat) : Int) = (L.fl : Int) - gn := by omega
    show Blk _ l 72 [_, _, _, _, _, _, _, _, _, _, .int .i64 ((L.fl - gn : Nat) : Int)]
    rw [e2]
    exact hB
  · show OwnO W _ (L.R.drop gn).length (cellsR (L.R.drop gn))
    rw [List.length_drop, ← cellsR_drop _ _ h.recs]
    exact hrow
  · show s + ((L.R.drop gn).length : Int) ≤ _
    rw [List.length_drop]
    omega
  · show L.fl - gn ≤ (L.R.drop gn).length
    rw [List.length_drop]
    omega
  · show ((L.R.drop gn).length : Int) ≤ L.J.l
    rw [List.length_drop]
    omega
set_option maxHeartbeats 8000000 in
theorem cut_ok (l b g : Nat) (rv : Value) (D : Dv.Dev) (L : Lo) (s : Int) (w : World) (h : Lt w l b g rv D L) (hF : Rc.First w) (hyes : L.mayC s = true) (hz : (L.cutW D s).1 = 0) : Calls Tryd.prog 14 #[P0 l, .int .i64 s] w fun e w' => ∃ rv', e = .returned (.int .i64 0) ∧ Lt w' l b g rv' (L.cutW D s).2 (L.from s) ∧ Kept [l, b, g] w w' ∧ rv'.ownBlock = rv.ownBlock := by
  have hdw := h.dev.lt
  have HL := hide h
  have HH := hide h.head
  have HBND : Hid (-9223372036854775808 ≤ L.st + L.fl ∧ L.st + L.fl ≤ 9223372036854775807) := by
    have h1 := h.st
    have h2 := h.nx
    have h3 := h.fl
    constructor <;> omega
  obtain ⟨ok, hok⟩ : ∃ ok, ok = L.mayC s := ⟨_, rfl⟩
  have P32 := hide (fun W => from32 L.st s (L.st + L.fl) W)
  have e9 : decide (L.st ≤ s ∧ s ≤ L.st + L.fl) = ok := hok.symm
  rw [e9] at P32
  clear e9
  rw [hyes] at hok
  subst hok
  obtain ⟨ro, rc, e1⟩ := h.sl
  have HCAP : Hid (L.R.length ≤ rc ∧ (ro = none → rc = 0)) := by
    obtain ⟨ao, c, e, h1, h2⟩ := h.row.sl
    rw [e1] at e
    cases e
    exact ⟨h1, h2⟩
  have HNO := hide (unhide HCAP).2
  replace HCAP := hide (unhide HCAP).1
  have HFI := hide hF
  simp only [Lo.mayC, decide_eq_true_eq] at hyes
  have HS := hide hyes
  obtain ⟨po, hpo⟩ : ∃ po, po = (L.J.head L.nd).1 := ⟨_, rfl⟩
  obtain ⟨pc, hpc⟩ : ∃ pc, pc = (L.J.head L.nd).2 := ⟨_, rfl⟩
  have P37 := hide (fun W => head37 L.J L.nd W)
  rw [← hpo, ← hpc] at P37
  obtain ⟨X, hX⟩ : ∃ X, X = (Rc.puthR s L.ep).1 := ⟨_, rfl⟩
  obtain ⟨cx, hcx⟩ : ∃ cx, cx = (Rc.puthR s L.ep).2 := ⟨_, rfl⟩
  have P38 := hide (fun W hF => puth38 s L.ep W hF)
  rw [← hX, ← hcx] at P38
  have hXb := Rc.puthR_byts s L.ep
  rw [← hX] at hXb
  have HXL : Hid ((u8s X).length = 64) := by rw [u8s_len]; exact hXb.len
  have hm : 0 = wrA (L.cutW D s).1 := by simp [wrA, hz]
  obtain ⟨D2, hD2⟩ : ∃ D2, D2 = (L.cutW D s).2 := ⟨_, rfl⟩
  rw [← hD2]
  have P36 : Hid (∀ (W : World) (p8 : Nat), Lt W l b g rv D L → w.heap.size ≤ p8 → Blk W p8 80 (u8s X) → Calls Tryd.prog 36 #[P0 l, .int .i64 po, .slice (some ⟨p8, 0, none⟩) 1 1] W fun e w' => e = .returned (.int .i64 0) ∧ Lt w' l b g rv D2 L ∧ Kept [b, g] W w') := by
    intro W p8 hL8 hp8 hB8
    have hw := write36 l b g _ D L po (some ⟨p8, 0, none⟩) 1 1 [X] W hL8 (by rw [hpo]; exact head_pos _ _ h.may h.node) (by omega) (secs_one hB8 hXb) (by
      intro q off e
      cases e
      simp
      omega)
    rw [hm, hD2]
    unfold Lo.cutW
    rw [← hX, ← hpo]
    exact hw
  clear h hF hyes hXb hX hcx hpo hpc hm hD2 hdw hz
  go_enter Tryd.func14, Tryd.ntmps14
  go_wp2_with (
    first
    | (go_at_call 33
       refine (none33 l b g rv D L _ (unhide HL)).mono ?_
       rintro e w' ⟨rfl, hw9⟩
       obtain rfl := hw9.symm
       clear hw9
       refine Stp.go ?_))
  constructor
  go_wp2_with fail
  refine wp_region_any mixed (wpAny_gx 11 rfl (by kernel_rfl) [some (P0 l), some (P0 l), some (.pointer (some ⟨l, 8, none⟩)), some (.int .i64 L.st), some (.int .i64 s), some (P0 l), some (.int .i64 (L.st + L.fl - 1)), some (.int .i64 (L.st + L.fl)), some (.bool true), some (.bool (!true)), some (.bool (!true))] rfl (by kernel_rfl) (fun l_ vs W => (S0 w) (fun i => l_.getD i false) vs W) (⟨rfl, rfl, rfl, Nat.le_refl _, fun _ _ _ => rfl⟩) ?_ ?_)
  · intro ix o' hi ho a' w2 l_ vs hls hlf hJ hout hin hdep hnot
    match ix, ho with
    | 0, ho =>
      obtain rfl := Option.some.inj ho
      have e0 := hout 0 (by kernel_rfl)
      replace e0 : a'.eval (.tmp 0) = _ := e0.trans rfl
      exact wp_move (.tmp 0) rfl _ e0 ⟨_, rfl, told_of rfl, keepG (St := (S0 w)) [] S0.loc (by omega) (by decide) hJ⟩
    | 1, ho =>
      obtain rfl := Option.some.inj ho
      have e0 : a'.eval (.tmp 15) = P0 l := by have h9 := hin 0 15 (by kernel_rfl) (by kernel_rfl); exact h9.1.trans (told_is _ h9.2 rfl)
      exact o_nil (.tmp 15) rfl _ e0 ⟨_, rfl, told_of rfl, keepG (St := (S0 w)) [] S0.loc (by omega) (by decide) hJ⟩
    | 2, ho =>
      obtain rfl := Option.some.inj ho
      have e0 : a'.eval (.tmp 16) = P0 l := by have h9 := hin 1 16 (by kernel_rfl) (by kernel_rfl); exact h9.1.trans (told_is _ h9.2 rfl)
      exact o_fld72_4 (.tmp 16) rfl _ e0 ⟨_, rfl, told_of rfl, keepG (St := (S0 w)) [] S0.loc (by omega) (by decide) hJ⟩
    | 3, ho =>
      obtain rfl := Option.some.inj ho
      have e0 : a'.eval (.tmp 17) = .pointer (some ⟨l, 8, none⟩) := by have h9 := hin 2 17 (by kernel_rfl) (by kernel_rfl); exact h9.1.trans (told_is _ h9.2 rfl)
      exact q_load2 (.tmp 17) rfl _ _ e0 (fits_cell ((unhide HH).kept hJ (by simp)) 8 _ rfl) ⟨_, rfl, told_of rfl, keepG (St := (S0 w)) [] S0.loc (by omega) (by decide) hJ⟩
    | 4, ho =>
      obtain rfl := Option.some.inj ho
      have e0 := hout 1 (by kernel_rfl)
      replace e0 : a'.eval (.tmp 1) = _ := e0.trans rfl
      exact wp_move (.tmp 1) rfl _ e0 ⟨_, rfl, told_of rfl, keepG (St := (S0 w)) [] S0.loc (by omega) (by decide) hJ⟩
    | 5, ho =>
      obtain rfl := Option.some.inj ho
      have e0 := hout 0 (by kernel_rfl)
      replace e0 : a'.eval (.tmp 0) = _ := e0.trans rfl
      exact wp_move (.tmp 0) rfl _ e0 ⟨_, rfl, told_of rfl, keepG (St := (S0 w)) [] S0.loc (by omega) (by decide) hJ⟩
    | 6, ho =>
      obtain rfl := Option.some.inj ho
      have e0 : a'.eval (.tmp 20) = P0 l := by have h9 := hin 5 20 (by kernel_rfl) (by kernel_rfl); exact h9.1.trans (told_is _ h9.2 rfl)
      refine wp_callF 15 _ _ rfl #[P0 l] (by simp [e0]) (cg15 _ _) ((flushed15 l b g rv D L w2 ((unhide HL).kept0 hJ)).mono ?_)
      rintro e w3 ⟨rfl, hk3⟩
      exact ⟨_, rfl, _, rfl, told_of rfl, keepG (St := (S0 w)) [] S0.loc (by omega) (by decide) (Kept.trans hJ hk3)⟩
    | 7, ho =>
      obtain rfl := Option.some.inj ho
      have e0 : a'.eval (.tmp 21) = .int .i64 (L.st + L.fl - 1) := by have h9 := hin 6 21 (by kernel_rfl) (by kernel_rfl); exact h9.1.trans (told_is _ h9.2 rfl)
      exact o_addc2 (.tmp 21) 1 rfl _ _ (by omega) (unhide HBND) e0 ⟨_, rfl, told_of rfl, keepG (St := (S0 w)) [] S0.loc (by omega) (by decide) hJ⟩
    | 8, ho =>
      obtain rfl := Option.some.inj ho
      have e0 : a'.eval (.tmp 18) = .int .i64 L.st := by have h9 := hin 3 18 (by kernel_rfl) (by kernel_rfl); exact h9.1.trans (told_is _ h9.2 rfl)
      have e1 : a'.eval (.tmp 19) = .int .i64 s := by have h9 := hin 4 19 (by kernel_rfl) (by kernel_rfl); exact h9.1.trans (told_is _ h9.2 rfl)
      have e2 : a'.eval (.tmp 22) = .int .i64 (L.st + L.fl) := by have h9 := hin 7 22 (by kernel_rfl) (by kernel_rfl); exact h9.1.trans (told_is _ h9.2 rfl)
      refine wp_callF 32 _ _ rfl #[.int .i64 L.st, .int .i64 s, .int .i64 (L.st + L.fl)] (by simp [e0, e1, e2]) (cg32 _ _) ((unhide P32 w2).mono ?_)
      rintro e w3 ⟨rfl, hw3⟩
      obtain rfl := hw3.symm
      exact ⟨_, rfl, _, rfl, told_of rfl, keepG (St := (S0 w)) [] S0.loc (by omega) (by decide) hJ⟩
    | 9, ho =>
      obtain rfl := Option.some.inj ho
      have e0 : a'.eval (.tmp 23) = .bool true := by have h9 := hin 8 23 (by kernel_rfl) (by kernel_rfl); exact h9.1.trans (told_is _ h9.2 rfl)
      exact o_not (.tmp 23) rfl true e0 ⟨_, rfl, told_of rfl, keepG (St := (S0 w)) [] S0.loc (by omega) (by decide) hJ⟩
    | 10, ho =>
      obtain rfl := Option.some.inj ho
      have e0 : a'.eval (.tmp 24) = .bool (!true) := by have h9 := hin 9 24 (by kernel_rfl) (by kernel_rfl); exact h9.1.trans (told_is _ h9.2 rfl)
      exact wp_assignV (.tmp 24) rfl _ e0 ⟨_, rfl, told_of rfl, keepG (St := (S0 w)) [] S0.loc (by omega) (by decide) hJ⟩
  intro l_ vs V hl hJ htold
  have t0 : vs 0 = P0 l := told_is _ (htold 0 (by decide)) rfl
  have t1 : vs 1 = P0 l := told_is _ (htold 1 (by decide)) rfl
  have t2 : vs 2 = .pointer (some ⟨l, 8, none⟩) := told_is _ (htold 2 (by decide)) rfl
  have t3 : vs 3 = .int .i64 L.st := told_is _ (htold 3 (by decide)) rfl
  have t4 : vs 4 = .int .i64 s := told_is _ (htold 4 (by decide)) rfl
  have t5 : vs 5 = P0 l := told_is _ (htold 5 (by decide)) rfl
  have t6 : vs 6 = .int .i64 (L.st + L.fl - 1) := told_is _ (htold 6 (by decide)) rfl
  have t7 : vs 7 = .int .i64 (L.st + L.fl) := told_is _ (htold 7 (by decide)) rfl
  have t8 : vs 8 = .bool true := told_is _ (htold 8 (by decide)) rfl
  have t9 : vs 9 = .bool (!true) := told_is _ (htold 9 (by decide)) rfl
  have t10 : vs 10 = .bool (!true) := told_is _ (htold 10 (by decide)) rfl
  rw [show (List.range 11).map vs = [vs 0, vs 1, vs 2, vs 3, vs 4, vs 5, vs 6, vs 7, vs 8, vs 9, vs 10] from rfl]
  simp only [t0, t1, t2, t3, t4, t5, t6, t7, t8, t9, t10, putAll, Act.put, List.setIfInBounds_toArray, List.set_cons_succ, List.set_cons_zero]
  clear t0 t1 t2 t3 t4 t5 t6 t7 t8 t9 t10 htold
  have hJ2 : Kept [] w V := hJ
  have HK := hide hJ2
  replace HL := hide ((unhide HL).kept0 hJ2)
  replace HH := hide (unhide HL).head
  replace HFI := hide ((unhide HFI).kept hJ2)
  clear hJ hl hJ2
  go_wp2_with fail
  refine wp_region_any mixed (wpAny_gx 14 rfl (by kernel_rfl) [some (P0 l), some (P0 l), some (.pointer (some ⟨l, 1, none⟩)), some (aggV (Ar.jobC L.J)), some (P0 l), some (P0 l), some (.pointer (some ⟨l, 6, none⟩)), some (.int .i64 L.nd), some (.tuple #[.int .i64 po, .int .i64 pc]), some (.tuple #[.int .i64 po, .int .i64 pc]), some (.int .i64 po), some (.int .i64 pc), some (.int .i64 po), some (.int .i64 pc)] rfl (by kernel_rfl) (fun l_ vs W => (S0 V) (fun i => l_.getD i false) vs W) (⟨rfl, rfl, rfl, Nat.le_refl _, fun _ _ _ => rfl⟩) ?_ ?_)
  · intro ix o' hi ho a' w2 l_ vs hls hlf hJ hout hin hdep hnot
    match ix, ho with
    | 0, ho =>
      obtain rfl := Option.some.inj ho
      have e0 := hout 0 (by kernel_rfl)
      replace e0 : a'.eval (.tmp 0) = _ := e0.trans rfl
      exact wp_move (.tmp 0) rfl _ e0 ⟨_, rfl, told_of rfl, keepG (St := (S0 V)) [] S0.loc (by omega) (by decide) hJ⟩
    | 1, ho =>
      obtain rfl := Option.some.inj ho
      have e0 : a'.eval (.tmp 26) = P0 l := by have h9 := hin 0 26 (by kernel_rfl) (by kernel_rfl); exact h9.1.trans (told_is _ h9.2 rfl)
      exact o_nil (.tmp 26) rfl _ e0 ⟨_, rfl, told_of rfl, keepG (St := (S0 V)) [] S0.loc (by omega) (by decide) hJ⟩
    | 2, ho =>
      obtain rfl := Option.some.inj ho
      have e0 : a'.eval (.tmp 27) = P0 l := by have h9 := hin 1 27 (by kernel_rfl) (by kernel_rfl); exact h9.1.trans (told_is _ h9.2 rfl)
      exact o_fld72_1 (.tmp 27) rfl _ e0 ⟨_, rfl, told_of rfl, keepG (St := (S0 V)) [] S0.loc (by omega) (by decide) hJ⟩
    | 3, ho =>
      obtain rfl := Option.some.inj ho
      have e0 : a'.eval (.tmp 28) = .pointer (some ⟨l, 1, none⟩) := by have h9 := hin 2 28 (by kernel_rfl) (by kernel_rfl); exact h9.1.trans (told_is _ h9.2 rfl)
      exact wp_loadA row23 (.tmp 28) rfl l 1 e0 (Ar.jobC L.J) rfl (((unhide HH).kept hJ (by simp)).rangeIn (o := 1) (Ar.jobC L.J) (jobC_in b L _)) ⟨_, rfl, told_of rfl, keepG (St := (S0 V)) [] S0.loc (by omega) (by decide) hJ⟩
    | 4, ho =>
      obtain rfl := Option.some.inj ho
      have e0 := hout 0 (by kernel_rfl)
      replace e0 : a'.eval (.tmp 0) = _ := e0.trans rfl
      exact wp_move (.tmp 0) rfl _ e0 ⟨_, rfl, told_of rfl, keepG (St := (S0 V)) [] S0.loc (by omega) (by decide) hJ⟩
    | 5, ho =>
      obtain rfl := Option.some.inj ho
      have e0 : a'.eval (.tmp 30) = P0 l := by have h9 := hin 4 30 (by kernel_rfl) (by kernel_rfl); exact h9.1.trans (told_is _ h9.2 rfl)
      exact o_nil (.tmp 30) rfl _ e0 ⟨_, rfl, told_of rfl, keepG (St := (S0 V)) [] S0.loc (by omega) (by decide) hJ⟩
    | 6, ho =>
      obtain rfl := Option.some.inj ho
      have e0 : a'.eval (.tmp 31) = P0 l := by have h9 := hin 5 31 (by kernel_rfl) (by kernel_rfl); exact h9.1.trans (told_is _ h9.2 rfl)
      exact o_fld72_2 (.tmp 31) rfl _ e0 ⟨_, rfl, told_of rfl, keepG (St := (S0 V)) [] S0.loc (by omega) (by decide) hJ⟩
    | 7, ho =>
      obtain rfl := Option.some.inj ho
      have e0 : a'.eval (.tmp 32) = .pointer (some ⟨l, 6, none⟩) := by have h9 := hin 6 32 (by kernel_rfl) (by kernel_rfl); exact h9.1.trans (told_is _ h9.2 rfl)
      exact q_load3 (.tmp 32) rfl _ _ e0 (fits_cell ((unhide HH).kept hJ (by simp)) 6 _ rfl) ⟨_, rfl, told_of rfl, keepG (St := (S0 V)) [] S0.loc (by omega) (by decide) hJ⟩
    | 8, ho =>
      obtain rfl := Option.some.inj ho
      have e0 : a'.eval (.tmp 29) = aggV (Ar.jobC L.J) := by have h9 := hin 3 29 (by kernel_rfl) (by kernel_rfl); exact h9.1.trans (told_is _ h9.2 rfl)
      have e1 : a'.eval (.tmp 33) = .int .i64 L.nd := by have h9 := hin 7 33 (by kernel_rfl) (by kernel_rfl); exact h9.1.trans (told_is _ h9.2 rfl)
      refine wp_callF 37 _ _ rfl #[aggV (Ar.jobC L.J), .int .i64 L.nd] (by simp [e0, e1]) (cg37 _ _) ((unhide P37 w2).mono ?_)
      rintro e w3 ⟨rfl, hk3⟩
      exact ⟨_, rfl, _, rfl, told_of rfl, keepG (St := (S0 V)) [] S0.loc (by omega) (by decide) (Kept.trans hJ hk3)⟩
    | 9, ho =>
      obtain rfl := Option.some.inj ho
      have e0 : a'.eval (.tmp 34) = .tuple #[.int .i64 po, .int .i64 pc] := by have h9 := hin 8 34 (by kernel_rfl) (by kernel_rfl); exact h9.1.trans (told_is _ h9.2 rfl)
      exact wp_move (.tmp 34) rfl _ e0 ⟨_, rfl, told_of rfl, keepG (St := (S0 V)) [] S0.loc (by omega) (by decide) hJ⟩
    | 10, ho =>
      obtain rfl := Option.some.inj ho
      have e0 : a'.eval (.tmp 25) = .tuple #[.int .i64 po, .int .i64 pc] := by have h9 := hin 9 25 (by kernel_rfl) (by kernel_rfl); exact h9.1.trans (told_is _ h9.2 rfl)
      exact o_ext0 (.tmp 25) rfl _ _ e0 ⟨_, rfl, told_of rfl, keepG (St := (S0 V)) [] S0.loc (by omega) (by decide) hJ⟩
    | 11, ho =>
      obtain rfl := Option.some.inj ho
      have e0 : a'.eval (.tmp 25) = .tuple #[.int .i64 po, .int .i64 pc] := by have h9 := hin 9 25 (by kernel_rfl) (by kernel_rfl); exact h9.1.trans (told_is _ h9.2 rfl)
      exact o_ext1 (.tmp 25) rfl _ _ e0 ⟨_, rfl, told_of rfl, keepG (St := (S0 V)) [] S0.loc (by omega) (by decide) hJ⟩
    | 12, ho =>
      obtain rfl := Option.some.inj ho
      have e0 : a'.eval (.tmp 35) = .int .i64 po := by have h9 := hin 10 35 (by kernel_rfl) (by kernel_rfl); exact h9.1.trans (told_is _ h9.2 rfl)
      exact wp_assignV (.tmp 35) rfl _ e0 ⟨_, rfl, told_of rfl, keepG (St := (S0 V)) [] S0.loc (by omega) (by decide) hJ⟩
    | 13, ho =>
      obtain rfl := Option.some.inj ho
      have e0 : a'.eval (.tmp 36) = .int .i64 pc := by have h9 := hin 11 36 (by kernel_rfl) (by kernel_rfl); exact h9.1.trans (told_is _ h9.2 rfl)
      exact wp_assignV (.tmp 36) rfl _ e0 ⟨_, rfl, told_of rfl, keepG (St := (S0 V)) [] S0.loc (by omega) (by decide) hJ⟩
  intro l_ vs5 V2 hl hJ htold
  have t0 : vs5 0 = P0 l := told_is _ (htold 0 (by decide)) rfl
  have t1 : vs5 1 = P0 l := told_is _ (htold 1 (by decide)) rfl
  have t2 : vs5 2 = .pointer (some ⟨l, 1, none⟩) := told_is _ (htold 2 (by decide)) rfl
  have t3 : vs5 3 = aggV (Ar.jobC L.J) := told_is _ (htold 3 (by decide)) rfl
  have t4 : vs5 4 = P0 l := told_is _ (htold 4 (by decide)) rfl
  have t5 : vs5 5 = P0 l := told_is _ (htold 5 (by decide)) rfl
  have t6 : vs5 6 = .pointer (some ⟨l, 6, none⟩) := told_is _ (htold 6 (by decide)) rfl
  have t7 : vs5 7 = .int .i64 L.nd := told_is _ (htold 7 (by decide)) rfl
  have t8 : vs5 8 = .tuple #[.int .i64 po, .int .i64 pc] := told_is _ (htold 8 (by decide)) rfl
  have t9 : vs5 9 = .tuple #[.int .i64 po, .int .i64 pc] := told_is _ (htold 9 (by decide)) rfl
  have t10 : vs5 10 = .int .i64 po := told_is _ (htold 10 (by decide)) rfl
  have t11 : vs5 11 = .int .i64 pc := told_is _ (htold 11 (by decide)) rfl
  have t12 : vs5 12 = .int .i64 po := told_is _ (htold 12 (by decide)) rfl
  have t13 : vs5 13 = .int .i64 pc := told_is _ (htold 13 (by decide)) rfl
  rw [show (List.range 14).map vs5 = [vs5 0, vs5 1, vs5 2, vs5 3, vs5 4, vs5 5, vs5 6, vs5 7, vs5 8, vs5 9, vs5 10, vs5 11, vs5 12, vs5 13] from rfl]
  simp only [t0, t1, t2, t3, t4, t5, t6, t7, t8, t9, t10, t11, t12, t13, putAll, Act.put, List.setIfInBounds_toArray, List.set_cons_succ, List.set_cons_zero]
  clear t0 t1 t2 t3 t4 t5 t6 t7 t8 t9 t10 t11 t12 t13 htold
  have hJ2 : Kept [] V V2 := hJ
  replace HK := hide ((unhide HK).trans hJ2)
  replace HL := hide ((unhide HL).kept0 hJ2)
  replace HH := hide (unhide HL).head
  replace HFI := hide ((unhide HFI).kept hJ2)
  have hep : V2.cell? ⟨l, 7, none⟩ = some (.int .i64 L.ep) := fits_cell (unhide HH) 7 _ rfl
  clear hJ hl hJ2
  go_wp2_with (
    first
    | (refine wpBuildP (by rfl) _ (by rfl) #[(0, .int .i64 s), (1, .int .i64 L.ep)] (by simp only [List.map_toArray, List.map_cons, List.map_nil]; rfl) (Rc.hdC s L.ep) (Rc.build27p _ _ _) ?_
       refine Stp.go ?_))
  constructor
  go_wp2_with (
    first
    | (go_at_call 38
       refine (unhide P38 _ (unhide HFI)).mono ?_
       rintro e W6 ⟨rfl, K6⟩
       replace HL := hide ((unhide HL).kept0 K6)
       replace HK := hide ((unhide HK).trans K6)
       clear K6
       refine Stp.go ?_))
  constructor
  go_wp2_with (
    first
    | (refine wpNew row80 (u8s (Rc.zs 64)) (by simp [u8s_len, Rc.zs]) (fun w => Rc.zero29 w) 7 (by rfl) (by rfl) (by rfl) (.tmp 45) (by rfl) (by rfl) (by rfl) (u8s X) (unhide HXL) (u8s_one _) (by kernel_rfl) (by kernel_rfl) ?_
       intro V7 p7 e7 B7 K7
       replace HL := hide ((unhide HL).kept0 K7)
       replace HK := hide ((unhide HK).trans K7)
       have HB7 := hide B7
       clear e7 B7 K7
       refine Stp.go ?_))
  constructor
  go_wp2_with (
    first
    | (refine wpLoadA row80 (by rfl) (.tmp 7) (by rfl) p7 0 (by kernel_rfl) (u8s X) (unhide HXL) (unhide HB7).range ?_
       refine Stp.go ?_))
  constructor
  go_wp2_with (
    first
    | (refine wpBsS (by rfl) (.tmp 49) (by rfl) (u8s X) (unhide HXL) (by kernel_rfl) ?_
       intro V8 p8 e8 B8 K8
       have HN8 : Hid (w.heap.size ≤ p8) := by rw [e8]; exact (unhide HK).size
       replace HL := hide ((unhide HL).kept0 K8)
       replace HK := hide ((unhide HK).trans K8)
       have HB8 := hide B8
       clear e8 B8 K8
       refine Stp.go ?_))
  constructor
  go_wp2_with (
    first
    | (go_at_call 36
       refine (unhide P36 _ p8 (unhide HL) (unhide HN8) (unhide HB8)).mono ?_
       rintro e V9 ⟨rfl, hL9, hk9⟩
       have HL9 := hide hL9
       have HK9 := hide hk9
       clear hL9 hk9
       refine Stp.go ?_))
  constructor
  have HK10 : Hid (Kept [l, b, g] w V9) := ((unhide HK).mono (by simp)).trans ((unhide HK9).mono (by intro q hq; simp at hq ⊢; omega))
  clear HK HK9 HB8 HB7 HN8 P36 P38 P37 HFI HXL HL HH hep
  replace HH := hide (unhide HL9).head
  obtain ⟨gn, hgn⟩ : ∃ gn : Nat, s = L.st + gn := ⟨(s - L.st).toNat, by have := unhide HS; omega⟩
  have hs1 : L.st ≤ s := (unhide HS).1
  have hs2 := (unhide HS).2
  have hst1 := (unhide HL9).st
  have hst2 := (unhide HL9).nx
  have hfl := (unhide HL9).fl
  have hsm := (unhide HL9).lo
  have HGL : Hid (gn ≤ L.fl) := by show _ ≤ _; omega
  have HGN : Hid (gn ≤ L.R.length) := by show _ ≤ _; omega
  have HSUB : Hid (-9223372036854775808 ≤ (L.fl : Int) - gn ∧ (L.fl : Int) - gn ≤ 9223372036854775807) := by constructor <;> omega
  have HSG : Hid (s = L.st + gn) := hgn
  have hb1 : s ≤ 2147483647 := by omega
  have hb2 : L.st ≤ 2147483647 := by omega
  have h8 : V9.cell? ⟨l, 8, none⟩ = some (.int .i64 L.st) := fits_cell (unhide HH) 8 _ rfl
  have eg : s - L.st = (gn : Int) := by omega
  subst e1
  clear hgn hs2 hst2 hfl hsm
  go_wp2_with fail
  clear eg h8
  refine wp_region_any mixed (wpAny_gx 25 rfl (by kernel_rfl) [some (P0 l), some (P0 l), some (P0 l), some (.int .i64 s), some (P0 l), some (P0 l), some (.pointer (some ⟨l, 9, none⟩)), some (.slice ro L.R.length rc), some (.int .i64 (gn : Int)), some (restV ro L.R.length rc gn), some (P0 l), some (P0 l), some (.pointer (some ⟨l, 10, none⟩)), some (.int .i64 (L.fl : Int)), some (.int .i64 (gn : Int)), some (.int .i64 ((L.fl : Int) - gn)), some (P0 l), some (.pointer (some ⟨l, 8, none⟩)), none, some (P0 l), some (.pointer (some ⟨l, 9, none⟩)), none, some (P0 l), some (.pointer (some ⟨l, 10, none⟩)), none] rfl (by kernel_rfl) (fun l_ vs W => (S14 V9 l ((logC b L (.slice ro L.R.length rc)).set 8 (.int .i64 s)) (((logC b L (.slice ro L.R.length rc)).set 8 (.int .i64 s)).set 9 (restV ro L.R.length rc gn)) ((((logC b L (.slice ro L.R.length rc)).set 8 (.int .i64 s)).set 9 (restV ro L.R.length rc gn)).set 10 (.int .i64 ((L.fl : Int) - gn)))) (fun i => l_.getD i false) vs W) (⟨fun _ => ⟨rfl, rfl, rfl, Nat.le_refl _, fun _ _ _ => rfl⟩, (fun h => by cases h), (fun h => by cases h), fun h => by cases h⟩) ?_ ?_)
  · intro ix o' hi ho a' w2 l_ vs hls hlf hJ hout hin hdep hnot
    match ix, ho with
    | 0, ho =>
      obtain rfl := Option.some.inj ho
      have e0 := hout 0 (by kernel_rfl)
      replace e0 : a'.eval (.tmp 0) = _ := e0.trans rfl
      exact wp_move (.tmp 0) rfl _ e0 ⟨_, rfl, told_of rfl, keepG (St := (S14 V9 l ((logC b L (.slice ro L.R.length rc)).set 8 (.int .i64 s)) (((logC b L (.slice ro L.R.length rc)).set 8 (.int .i64 s)).set 9 (restV ro L.R.length rc gn)) ((((logC b L (.slice ro L.R.length rc)).set 8 (.int .i64 s)).set 9 (restV ro L.R.length rc gn)).set 10 (.int .i64 ((L.fl : Int) - gn))))) [18, 21, 24] S14.loc (by omega) (by decide) hJ⟩
    | 1, ho =>
      obtain rfl := Option.some.inj ho
      have e0 := hout 0 (by kernel_rfl)
      replace e0 : a'.eval (.tmp 0) = _ := e0.trans rfl
      exact wp_move (.tmp 0) rfl _ e0 ⟨_, rfl, told_of rfl, keepG (St := (S14 V9 l ((logC b L (.slice ro L.R.length rc)).set 8 (.int .i64 s)) (((logC b L (.slice ro L.R.length rc)).set 8 (.int .i64 s)).set 9 (restV ro L.R.length rc gn)) ((((logC b L (.slice ro L.R.length rc)).set 8 (.int .i64 s)).set 9 (restV ro L.R.length rc gn)).set 10 (.int .i64 ((L.fl : Int) - gn))))) [18, 21, 24] S14.loc (by omega) (by decide) hJ⟩
    | 2, ho =>
      obtain rfl := Option.some.inj ho
      have e0 := hout 0 (by kernel_rfl)
      replace e0 : a'.eval (.tmp 0) = _ := e0.trans rfl
      exact wp_move (.tmp 0) rfl _ e0 ⟨_, rfl, told_of rfl, keepG (St := (S14 V9 l ((logC b L (.slice ro L.R.length rc)).set 8 (.int .i64 s)) (((logC b L (.slice ro L.R.length rc)).set 8 (.int .i64 s)).set 9 (restV ro L.R.length rc gn)) ((((logC b L (.slice ro L.R.length rc)).set 8 (.int .i64 s)).set 9 (restV ro L.R.length rc gn)).set 10 (.int .i64 ((L.fl : Int) - gn))))) [18, 21, 24] S14.loc (by omega) (by decide) hJ⟩
    | 3, ho =>
      obtain rfl := Option.some.inj ho
      have e0 := hout 1 (by kernel_rfl)
      replace e0 : a'.eval (.tmp 1) = _ := e0.trans rfl
      exact wp_move (.tmp 1) rfl _ e0 ⟨_, rfl, told_of rfl, keepG (St := (S14 V9 l ((logC b L (.slice ro L.R.length rc)).set 8 (.int .i64 s)) (((logC b L (.slice ro L.R.length rc)).set 8 (.int .i64 s)).set 9 (restV ro L.R.length rc gn)) ((((logC b L (.slice ro L.R.length rc)).set 8 (.int .i64 s)).set 9 (restV ro L.R.length rc gn)).set 10 (.int .i64 ((L.fl : Int) - gn))))) [18, 21, 24] S14.loc (by omega) (by decide) hJ⟩
    | 4, ho =>
      obtain rfl := Option.some.inj ho
      have e0 := hout 0 (by kernel_rfl)
      replace e0 : a'.eval (.tmp 0) = _ := e0.trans rfl
      exact wp_move (.tmp 0) rfl _ e0 ⟨_, rfl, told_of rfl, keepG (St := (S14 V9 l ((logC b L (.slice ro L.R.length rc)).set 8 (.int .i64 s)) (((logC b L (.slice ro L.R.length rc)).set 8 (.int .i64 s)).set 9 (restV ro L.R.length rc gn)) ((((logC b L (.slice ro L.R.length rc)).set 8 (.int .i64 s)).set 9 (restV ro L.R.length rc gn)).set 10 (.int .i64 ((L.fl : Int) - gn))))) [18, 21, 24] S14.loc (by omega) (by decide) hJ⟩
    | 5, ho =>
      obtain rfl := Option.some.inj ho
      have e0 : a'.eval (.tmp 65) = P0 l := by have h9 := hin 4 65 (by kernel_rfl) (by kernel_rfl); exact h9.1.trans (told_is _ h9.2 rfl)
      exact o_nil (.tmp 65) rfl _ e0 ⟨_, rfl, told_of rfl, keepG (St := (S14 V9 l ((logC b L (.slice ro L.R.length rc)).set 8 (.int .i64 s)) (((logC b L (.slice ro L.R.length rc)).set 8 (.int .i64 s)).set 9 (restV ro L.R.length rc gn)) ((((logC b L (.slice ro L.R.length rc)).set 8 (.int .i64 s)).set 9 (restV ro L.R.length rc gn)).set 10 (.int .i64 ((L.fl : Int) - gn))))) [18, 21, 24] S14.loc (by omega) (by decide) hJ⟩
    | 6, ho =>
      obtain rfl := Option.some.inj ho
      have e0 : a'.eval (.tmp 66) = P0 l := by have h9 := hin 5 66 (by kernel_rfl) (by kernel_rfl); exact h9.1.trans (told_is _ h9.2 rfl)
      exact o_fld72_5 (.tmp 66) rfl _ e0 ⟨_, rfl, told_of rfl, keepG (St := (S14 V9 l ((logC b L (.slice ro L.R.length rc)).set 8 (.int .i64 s)) (((logC b L (.slice ro L.R.length rc)).set 8 (.int .i64 s)).set 9 (restV ro L.R.length rc gn)) ((((logC b L (.slice ro L.R.length rc)).set 8 (.int .i64 s)).set 9 (restV ro L.R.length rc gn)).set 10 (.int .i64 ((L.fl : Int) - gn))))) [18, 21, 24] S14.loc (by omega) (by decide) hJ⟩
    | 7, ho =>
      obtain rfl := Option.some.inj ho
      have e0 : a'.eval (.tmp 67) = .pointer (some ⟨l, 9, none⟩) := by have h9 := hin 6 67 (by kernel_rfl) (by kernel_rfl); exact h9.1.trans (told_is _ h9.2 rfl)
      exact q_load37 (.tmp 67) rfl _ _ e0 (fits_cell ((unhide HH).kept (hJ.1 (hnot 18 (by kernel_rfl))) (by simp)) 9 _ rfl) ⟨_, rfl, told_of rfl, keepG (St := (S14 V9 l ((logC b L (.slice ro L.R.length rc)).set 8 (.int .i64 s)) (((logC b L (.slice ro L.R.length rc)).set 8 (.int .i64 s)).set 9 (restV ro L.R.length rc gn)) ((((logC b L (.slice ro L.R.length rc)).set 8 (.int .i64 s)).set 9 (restV ro L.R.length rc gn)).set 10 (.int .i64 ((L.fl : Int) - gn))))) [18, 21, 24] S14.loc (by omega) (by decide) hJ⟩
    | 8, ho =>
      obtain rfl := Option.some.inj ho
      have e0 := hout 10 (by kernel_rfl)
      replace e0 : a'.eval (.tmp 10) = _ := e0.trans rfl
      exact wp_move (.tmp 10) rfl _ e0 ⟨_, rfl, told_of rfl, keepG (St := (S14 V9 l ((logC b L (.slice ro L.R.length rc)).set 8 (.int .i64 s)) (((logC b L (.slice ro L.R.length rc)).set 8 (.int .i64 s)).set 9 (restV ro L.R.length rc gn)) ((((logC b L (.slice ro L.R.length rc)).set 8 (.int .i64 s)).set 9 (restV ro L.R.length rc gn)).set 10 (.int .i64 ((L.fl : Int) - gn))))) [18, 21, 24] S14.loc (by omega) (by decide) hJ⟩
    | 9, ho =>
      obtain rfl := Option.some.inj ho
      have e0 : a'.eval (.tmp 68) = .slice ro L.R.length rc := by have h9 := hin 7 68 (by kernel_rfl) (by kernel_rfl); exact h9.1.trans (told_is _ h9.2 rfl)
      have e1 : a'.eval (.tmp 69) = .int .i64 (gn : Int) := by have h9 := hin 8 69 (by kernel_rfl) (by kernel_rfl); exact h9.1.trans (told_is _ h9.2 rfl)
      exact o_rest (.tmp 68) 69 rfl ro L.R.length rc gn (unhide HCAP) (unhide HNO) (unhide HGN) e0 e1 ⟨_, rfl, told_of rfl, keepG (St := (S14 V9 l ((logC b L (.slice ro L.R.length rc)).set 8 (.int .i64 s)) (((logC b L (.slice ro L.R.length rc)).set 8 (.int .i64 s)).set 9 (restV ro L.R.length rc gn)) ((((logC b L (.slice ro L.R.length rc)).set 8 (.int .i64 s)).set 9 (restV ro L.R.length rc gn)).set 10 (.int .i64 ((L.fl : Int) - gn))))) [18, 21, 24] S14.loc (by omega) (by decide) hJ⟩
    | 10, ho =>
      obtain rfl := Option.some.inj ho
      have e0 := hout 0 (by kernel_rfl)
      replace e0 : a'.eval (.tmp 0) = _ := e0.trans rfl
      exact wp_move (.tmp 0) rfl _ e0 ⟨_, rfl, told_of rfl, keepG (St := (S14 V9 l ((logC b L (.slice ro L.R.length rc)).set 8 (.int .i64 s)) (((logC b L (.slice ro L.R.length rc)).set 8 (.int .i64 s)).set 9 (restV ro L.R.length rc gn)) ((((logC b L (.slice ro L.R.length rc)).set 8 (.int .i64 s)).set 9 (restV ro L.R.length rc gn)).set 10 (.int .i64 ((L.fl : Int) - gn))))) [18, 21, 24] S14.loc (by omega) (by decide) hJ⟩
    | 11, ho =>
      obtain rfl := Option.some.inj ho
      have e0 : a'.eval (.tmp 71) = P0 l := by have h9 := hin 10 71 (by kernel_rfl) (by kernel_rfl); exact h9.1.trans (told_is _ h9.2 rfl)
      exact o_nil (.tmp 71) rfl _ e0 ⟨_, rfl, told_of rfl, keepG (St := (S14 V9 l ((logC b L (.slice ro L.R.length rc)).set 8 (.int .i64 s)) (((logC b L (.slice ro L.R.length rc)).set 8 (.int .i64 s)).set 9 (restV ro L.R.length rc gn)) ((((logC b L (.slice ro L.R.length rc)).set 8 (.int .i64 s)).set 9 (restV ro L.R.length rc gn)).set 10 (.int .i64 ((L.fl : Int) - gn))))) [18, 21, 24] S14.loc (by omega) (by decide) hJ⟩
    | 12, ho =>
      obtain rfl := Option.some.inj ho
      have e0 : a'.eval (.tmp 72) = P0 l := by have h9 := hin 11 72 (by kernel_rfl) (by kernel_rfl); exact h9.1.trans (told_is _ h9.2 rfl)
      exact o_fld72_6 (.tmp 72) rfl _ e0 ⟨_, rfl, told_of rfl, keepG (St := (S14 V9 l ((logC b L (.slice ro L.R.length rc)).set 8 (.int .i64 s)) (((logC b L (.slice ro L.R.length rc)).set 8 (.int .i64 s)).set 9 (restV ro L.R.length rc gn)) ((((logC b L (.slice ro L.R.length rc)).set 8 (.int .i64 s)).set 9 (restV ro L.R.length rc gn)).set 10 (.int .i64 ((L.fl : Int) - gn))))) [18, 21, 24] S14.loc (by omega) (by decide) hJ⟩
    | 13, ho =>
      obtain rfl := Option.some.inj ho
      have e0 : a'.eval (.tmp 73) = .pointer (some ⟨l, 10, none⟩) := by have h9 := hin 12 73 (by kernel_rfl) (by kernel_rfl); exact h9.1.trans (told_is _ h9.2 rfl)
      exact q_load3 (.tmp 73) rfl _ _ e0 (fits_cell ((unhide HH).kept (hJ.1 (hnot 18 (by kernel_rfl))) (by simp)) 10 _ rfl) ⟨_, rfl, told_of rfl, keepG (St := (S14 V9 l ((logC b L (.slice ro L.R.length rc)).set 8 (.int .i64 s)) (((logC b L (.slice ro L.R.length rc)).set 8 (.int .i64 s)).set 9 (restV ro L.R.length rc gn)) ((((logC b L (.slice ro L.R.length rc)).set 8 (.int .i64 s)).set 9 (restV ro L.R.length rc gn)).set 10 (.int .i64 ((L.fl : Int) - gn))))) [18, 21, 24] S14.loc (by omega) (by decide) hJ⟩
    | 14, ho =>
      obtain rfl := Option.some.inj ho
      have e0 := hout 10 (by kernel_rfl)
      replace e0 : a'.eval (.tmp 10) = _ := e0.trans rfl
      exact wp_move (.tmp 10) rfl _ e0 ⟨_, rfl, told_of rfl, keepG (St := (S14 V9 l ((logC b L (.slice ro L.R.length rc)).set 8 (.int .i64 s)) (((logC b L (.slice ro L.R.length rc)).set 8 (.int .i64 s)).set 9 (restV ro L.R.length rc gn)) ((((logC b L (.slice ro L.R.length rc)).set 8 (.int .i64 s)).set 9 (restV ro L.R.length rc gn)).set 10 (.int .i64 ((L.fl : Int) - gn))))) [18, 21, 24] S14.loc (by omega) (by decide) hJ⟩
    | 15, ho =>
      obtain rfl := Option.some.inj ho
      have e0 : a'.eval (.tmp 74) = .int .i64 (L.fl : Int) := by have h9 := hin 13 74 (by kernel_rfl) (by kernel_rfl); exact h9.1.trans (told_is _ h9.2 rfl)
      have e1 : a'.eval (.tmp 75) = .int .i64 (gn : Int) := by have h9 := hin 14 75 (by kernel_rfl) (by kernel_rfl); exact h9.1.trans (told_is _ h9.2 rfl)
      exact o_sub3 (.tmp 74) (.tmp 75) rfl _ _ _ rfl (unhide HSUB) e0 e1 ⟨_, rfl, told_of rfl, keepG (St := (S14 V9 l ((logC b L (.slice ro L.R.length rc)).set 8 (.int .i64 s)) (((logC b L (.slice ro L.R.length rc)).set 8 (.int .i64 s)).set 9 (restV ro L.R.length rc gn)) ((((logC b L (.slice ro L.R.length rc)).set 8 (.int .i64 s)).set 9 (restV ro L.R.length rc gn)).set 10 (.int .i64 ((L.fl : Int) - gn))))) [18, 21, 24] S14.loc (by omega) (by decide) hJ⟩
    | 16, ho =>
      obtain rfl := Option.some.inj ho
      have e0 : a'.eval (.tmp 61) = P0 l := by have h9 := hin 0 61 (by kernel_rfl) (by kernel_rfl); exact h9.1.trans (told_is _ h9.2 rfl)
      exact o_nil (.tmp 61) rfl _ e0 ⟨_, rfl, told_of rfl, keepG (St := (S14 V9 l ((logC b L (.slice ro L.R.length rc)).set 8 (.int .i64 s)) (((logC b L (.slice ro L.R.length rc)).set 8 (.int .i64 s)).set 9 (restV ro L.R.length rc gn)) ((((logC b L (.slice ro L.R.length rc)).set 8 (.int .i64 s)).set 9 (restV ro L.R.length rc gn)).set 10 (.int .i64 ((L.fl : Int) - gn))))) [18, 21, 24] S14.loc (by omega) (by decide) hJ⟩
    | 17, ho =>
      obtain rfl := Option.some.inj ho
      have e0 : a'.eval (.tmp 77) = P0 l := by have h9 := hin 16 77 (by kernel_rfl) (by kernel_rfl); exact h9.1.trans (told_is _ h9.2 rfl)
      exact o_fld72_4 (.tmp 77) rfl _ e0 ⟨_, rfl, told_of rfl, keepG (St := (S14 V9 l ((logC b L (.slice ro L.R.length rc)).set 8 (.int .i64 s)) (((logC b L (.slice ro L.R.length rc)).set 8 (.int .i64 s)).set 9 (restV ro L.R.length rc gn)) ((((logC b L (.slice ro L.R.length rc)).set 8 (.int .i64 s)).set 9 (restV ro L.R.length rc gn)).set 10 (.int .i64 ((L.fl : Int) - gn))))) [18, 21, 24] S14.loc (by omega) (by decide) hJ⟩
    | 18, ho =>
      obtain rfl := Option.some.inj ho
      have e0 : a'.eval (.tmp 78) = .pointer (some ⟨l, 8, none⟩) := by have h9 := hin 17 78 (by kernel_rfl) (by kernel_rfl); exact h9.1.trans (told_is _ h9.2 rfl)
      have e1 : a'.eval (.tmp 64) = .int .i64 s := by have h9 := hin 3 64 (by kernel_rfl) (by kernel_rfl); exact h9.1.trans (told_is _ h9.2 rfl)
      have hB9 := (unhide HH).kept (hJ.1 hlf) (by simp)
      exact o_st2 (.tmp 78) (.tmp 64) rfl rfl l 8 72 _ s e0 e1 hB9 (by simp [logC]) fun W hBW hkW => ⟨_, rfl, told_no rfl, nextG (St := (S14 V9 l ((logC b L (.slice ro L.R.length rc)).set 8 (.int .i64 s)) (((logC b L (.slice ro L.R.length rc)).set 8 (.int .i64 s)).set 9 (restV ro L.R.length rc gn)) ((((logC b L (.slice ro L.R.length rc)).set 8 (.int .i64 s)).set 9 (restV ro L.R.length rc gn)).set 10 (.int .i64 ((L.fl : Int) - gn))))) (by omega) ⟨(fun h => by cases h), (fun _ _ => ⟨hBW, ((hJ.1 hlf).mono (by simp)).trans hkW⟩), (fun h => by have h9 : l_.getD 21 false = true := h; rw [hnot 21 (by kernel_rfl)] at h9; cases h9), (fun h => by have h9 : l_.getD 24 false = true := h; rw [hnot 24 (by kernel_rfl)] at h9; cases h9)⟩⟩
    | 19, ho =>
      obtain rfl := Option.some.inj ho
      have e0 : a'.eval (.tmp 62) = P0 l := by have h9 := hin 1 62 (by kernel_rfl) (by kernel_rfl); exact h9.1.trans (told_is _ h9.2 rfl)
      exact o_nil (.tmp 62) rfl _ e0 ⟨_, rfl, told_of rfl, keepG (St := (S14 V9 l ((logC b L (.slice ro L.R.length rc)).set 8 (.int .i64 s)) (((logC b L (.slice ro L.R.length rc)).set 8 (.int .i64 s)).set 9 (restV ro L.R.length rc gn)) ((((logC b L (.slice ro L.R.length rc)).set 8 (.int .i64 s)).set 9 (restV ro L.R.length rc gn)).set 10 (.int .i64 ((L.fl : Int) - gn))))) [18, 21, 24] S14.loc (by omega) (by decide) hJ⟩
    | 20, ho =>
      obtain rfl := Option.some.inj ho
      have e0 : a'.eval (.tmp 79) = P0 l := by have h9 := hin 19 79 (by kernel_rfl) (by kernel_rfl); exact h9.1.trans (told_is _ h9.2 rfl)
      exact o_fld72_5 (.tmp 79) rfl _ e0 ⟨_, rfl, told_of rfl, keepG (St := (S14 V9 l ((logC b L (.slice ro L.R.length rc)).set 8 (.int .i64 s)) (((logC b L (.slice ro L.R.length rc)).set 8 (.int .i64 s)).set 9 (restV ro L.R.length rc gn)) ((((logC b L (.slice ro L.R.length rc)).set 8 (.int .i64 s)).set 9 (restV ro L.R.length rc gn)).set 10 (.int .i64 ((L.fl : Int) - gn))))) [18, 21, 24] S14.loc (by omega) (by decide) hJ⟩
    | 21, ho =>
      obtain rfl := Option.some.inj ho
      have e0 : a'.eval (.tmp 80) = .pointer (some ⟨l, 9, none⟩) := by have h9 := hin 20 80 (by kernel_rfl) (by kernel_rfl); exact h9.1.trans (told_is _ h9.2 rfl)
      have e1 : a'.eval (.tmp 70) = restV ro L.R.length rc gn := by have h9 := hin 9 70 (by kernel_rfl) (by kernel_rfl); exact h9.1.trans (told_is _ h9.2 rfl)
      obtain ⟨hB9, hk9⟩ := hJ.2.1 (hdep 18 (by kernel_rfl)) hlf
      exact o_st37 (.tmp 80) (.tmp 70) rfl rfl l 9 72 _ (restV ro L.R.length rc gn) e0 e1 ⟨_, _, _, rfl⟩ hB9 (by simp [logC]) fun W hBW hkW => ⟨_, rfl, told_no rfl, nextG (St := (S14 V9 l ((logC b L (.slice ro L.R.length rc)).set 8 (.int .i64 s)) (((logC b L (.slice ro L.R.length rc)).set 8 (.int .i64 s)).set 9 (restV ro L.R.length rc gn)) ((((logC b L (.slice ro L.R.length rc)).set 8 (.int .i64 s)).set 9 (restV ro L.R.length rc gn)).set 10 (.int .i64 ((L.fl : Int) - gn))))) (by omega) ⟨(fun h => by have h9 : l_.getD 18 false = false := h; rw [hdep 18 (by kernel_rfl)] at h9; cases h9), (fun _ h => by cases h), (fun _ _ => ⟨hBW, hk9.trans hkW⟩), (fun h => by have h9 : l_.getD 24 false = true := h; rw [hnot 24 (by kernel_rfl)] at h9; cases h9)⟩⟩
    | 22, ho =>
      obtain rfl := Option.some.inj ho
      have e0 : a'.eval (.tmp 63) = P0 l := by have h9 := hin 2 63 (by kernel_rfl) (by kernel_rfl); exact h9.1.trans (told_is _ h9.2 rfl)
      exact o_nil (.tmp 63) rfl _ e0 ⟨_, rfl, told_of rfl, keepG (St := (S14 V9 l ((logC b L (.slice ro L.R.length rc)).set 8 (.int .i64 s)) (((logC b L (.slice ro L.R.length rc)).set 8 (.int .i64 s)).set 9 (restV ro L.R.length rc gn)) ((((logC b L (.slice ro L.R.length rc)).set 8 (.int .i64 s)).set 9 (restV ro L.R.length rc gn)).set 10 (.int .i64 ((L.fl : Int) - gn))))) [18, 21, 24] S14.loc (by omega) (by decide) hJ⟩
    | 23, ho =>
      obtain rfl := Option.some.inj ho
      have e0 : a'.eval (.tmp 81) = P0 l := by have h9 := hin 22 81 (by kernel_rfl) (by kernel_rfl); exact h9.1.trans (told_is _ h9.2 rfl)
      exact o_fld72_6 (.tmp 81) rfl _ e0 ⟨_, rfl, told_of rfl, keepG (St := (S14 V9 l ((logC b L (.slice ro L.R.length rc)).set 8 (.int .i64 s)) (((logC b L (.slice ro L.R.length rc)).set 8 (.int .i64 s)).set 9 (restV ro L.R.length rc gn)) ((((logC b L (.slice ro L.R.length rc)).set 8 (.int .i64 s)).set 9 (restV ro L.R.length rc gn)).set 10 (.int .i64 ((L.fl : Int) - gn))))) [18, 21, 24] S14.loc (by omega) (by decide) hJ⟩
    | 24, ho =>
      obtain rfl := Option.some.inj ho
      have e0 : a'.eval (.tmp 82) = .pointer (some ⟨l, 10, none⟩) := by have h9 := hin 23 82 (by kernel_rfl) (by kernel_rfl); exact h9.1.trans (told_is _ h9.2 rfl)
      have e1 : a'.eval (.tmp 76) = .int .i64 ((L.fl : Int) - gn) := by have h9 := hin 15 76 (by kernel_rfl) (by kernel_rfl); exact h9.1.trans (told_is _ h9.2 rfl)
      obtain ⟨hB9, hk9⟩ := hJ.2.2.1 (hdep 21 (by kernel_rfl)) hlf
      exact o_st3 (.tmp 82) (.tmp 76) rfl rfl l 10 72 _ ((L.fl : Int) - gn) e0 e1 hB9 (by simp [logC]) fun W hBW hkW => ⟨_, rfl, told_no rfl, nextG (St := (S14 V9 l ((logC b L (.slice ro L.R.length rc)).set 8 (.int .i64 s)) (((logC b L (.slice ro L.R.length rc)).set 8 (.int .i64 s)).set 9 (restV ro L.R.length rc gn)) ((((logC b L (.slice ro L.R.length rc)).set 8 (.int .i64 s)).set 9 (restV ro L.R.length rc gn)).set 10 (.int .i64 ((L.fl : Int) - gn))))) (by omega) ⟨(fun h => by have h9 : l_.getD 18 false = false := h; rw [hdep 18 (by kernel_rfl)] at h9; cases h9), (fun _ h => by have h9 : l_.getD 21 false = false := h; rw [hdep 21 (by kernel_rfl)] at h9; cases h9), (fun _ h => by cases h), fun _ => ⟨hBW, hk9.trans hkW⟩⟩⟩
  intro l_ vs11 W11 hl hJ htold
  have t0 : vs11 0 = P0 l := told_is _ (htold 0 (by decide)) rfl
  have t1 : vs11 1 = P0 l := told_is _ (htold 1 (by decide)) rfl
  have t2 : vs11 2 = P0 l := told_is _ (htold 2 (by decide)) rfl
  have t3 : vs11 3 = .int .i64 s := told_is _ (htold 3 (by decide)) rfl
  have t4 : vs11 4 = P0 l := told_is _ (htold 4 (by decide)) rfl
  have t5 : vs11 5 = P0 l := told_is _ (htold 5 (by decide)) rfl
  have t6 : vs11 6 = .pointer (some ⟨l, 9, none⟩) := told_is _ (htold 6 (by decide)) rfl
  have t7 : vs11 7 = .slice ro L.R.length rc := told_is _ (htold 7 (by decide)) rfl
  have t8 : vs11 8 = .int .i64 (gn : Int) := told_is _ (htold 8 (by decide)) rfl
  have t9 : vs11 9 = restV ro L.R.length rc gn := told_is _ (htold 9 (by decide)) rfl
  have t10 : vs11 10 = P0 l := told_is _ (htold 10 (by decide)) rfl
  have t11 : vs11 11 = P0 l := told_is _ (htold 11 (by decide)) rfl
  have t12 : vs11 12 = .pointer (some ⟨l, 10, none⟩) := told_is _ (htold 12 (by decide)) rfl
  have t13 : vs11 13 = .int .i64 (L.fl : Int) := told_is _ (htold 13 (by decide)) rfl
  have t14 : vs11 14 = .int .i64 (gn : Int) := told_is _ (htold 14 (by decide)) rfl
  have t15 : vs11 15 = .int .i64 ((L.fl : Int) - gn) := told_is _ (htold 15 (by decide)) rfl
  have t16 : vs11 16 = P0 l := told_is _ (htold 16 (by decide)) rfl
  have t17 : vs11 17 = .pointer (some ⟨l, 8, none⟩) := told_is _ (htold 17 (by decide)) rfl
  have t19 : vs11 19 = P0 l := told_is _ (htold 19 (by decide)) rfl
  have t20 : vs11 20 = .pointer (some ⟨l, 9, none⟩) := told_is _ (htold 20 (by decide)) rfl
  have t22 : vs11 22 = P0 l := told_is _ (htold 22 (by decide)) rfl
  have t23 : vs11 23 = .pointer (some ⟨l, 10, none⟩) := told_is _ (htold 23 (by decide)) rfl
  rw [show (List.range 25).map vs11 = [vs11 0, vs11 1, vs11 2, vs11 3, vs11 4, vs11 5, vs11 6, vs11 7, vs11 8, vs11 9, vs11 10, vs11 11, vs11 12, vs11 13, vs11 14, vs11 15, vs11 16, vs11 17, vs11 18, vs11 19, vs11 20, vs11 21, vs11 22, vs11 23, vs11 24] from rfl]
  simp only [t0, t1, t2, t3, t4, t5, t6, t7, t8, t9, t10, t11, t12, t13, t14, t15, t16, t17, t19, t20, t22, t23, putAll, Act.put, List.setIfInBounds_toArray, List.set_cons_succ, List.set_cons_zero]
  clear t0 t1 t2 t3 t4 t5 t6 t7 t8 t9 t10 t11 t12 t13 t14 t15 t16 t17 t19 t20 t22 t23 htold
  obtain ⟨hB11, hk11⟩ := hJ.2.2.2 (hl 24 (by decide))
  have HR := hide ((unhide HL9).cutTo (unhide HSG) (unhide HGL) hB11 hk11)
  have HKR := hide ((unhide HK10).trans (hk11.mono (by simp)))
  clear hJ hl hB11 hk11
  go_wp2_with fail
  go_ret
  exact ⟨_, rfl, unhide HR, unhide HKR, rest_own _ _ _ _⟩
set_option maxHeartbeats 8000000 in
theorem cut_bad (l b g : Nat) (rv : Value) (D : Dv.Dev) (L : Lo) (s : Int) (w : World) (h : Lt w l b g rv D L) (hF : Rc.First w) (hyes : L.mayC s = true) (hz : ¬ (L.cutW D s).1 = 0) : Calls Tryd.prog 14 #[P0 l, .int .i64 s] w fun e w' => ∃ rv', e = .returned (.int .i64 8) ∧ Lt w' l b g rv' (L.cutW D s).2 L ∧ Kept [l, b, g] w w' ∧ rv'.ownBlock = rv.ownBlock := by
  have hdw := h.dev.lt
  have HL := hide h
  have HH := hide h.head
  have HBND : Hid (-9223372036854775808 ≤ L.st + L.fl ∧ L.st + L.fl ≤ 9223372036854775807) := by
    have h1 := h.st
    have h2 := h.nx
    have h3 := h.fl
    constructor <;> omega
  obtain ⟨ok, hok⟩ : ∃ ok, ok = L.mayC s := ⟨_, rfl⟩
  have P32 := hide (fun W => from32 L.st s (L.st + L.fl) W)
  have e9 : decide (L.st ≤ s ∧ s ≤ L.st + L.fl) = ok := hok.symm
  rw [e9] at P32
  clear e9
  rw [hyes] at hok
  subst hok
  obtain ⟨ro, rc, e1⟩ := h.sl
  have HCAP : Hid (L.R.length ≤ rc ∧ (ro = none → rc = 0)) := by
    obtain ⟨ao, c, e, h1, h2⟩ := h.row.sl
    rw [e1] at e
    cases e
    exact ⟨h1, h2⟩
  have HNO := hide (unhide HCAP).2
  replace HCAP := hide (unhide HCAP).1
  have HFI := hide hF
  simp only [Lo.mayC, decide_eq_true_eq] at hyes
  have HS := hide hyes
  obtain ⟨po, hpo⟩ : ∃ po, po = (L.J.head L.nd).1 := ⟨_, rfl⟩
  obtain ⟨pc, hpc⟩ : ∃ pc, pc = (L.J.head L.nd).2 := ⟨_, rfl⟩
  have P37 := hide (fun W => head37 L.J L.nd W)
  rw [← hpo, ← hpc] at P37
  obtain ⟨X, hX⟩ : ∃ X, X = (Rc.puthR s L.ep).1 := ⟨_, rfl⟩
  obtain ⟨cx, hcx⟩ : ∃ cx, cx = (Rc.puthR s L.ep).2 := ⟨_, rfl⟩
  have P38 := hide (fun W hF => puth38 s L.ep W hF)
  rw [← hX, ← hcx] at P38
  have hXb := Rc.puthR_byts s L.ep
  rw [← hX] at hXb
  have HXL : Hid ((u8s X).length = 64) := by rw [u8s_len]; exact hXb.len
  have hm : 8 = wrA (L.cutW D s).1 := by simp [wrA, hz]
  obtain ⟨D2, hD2⟩ : ∃ D2, D2 = (L.cutW D s).2 := ⟨_, rfl⟩
  rw [← hD2]
  have P36 : Hid (∀ (W : World) (p8 : Nat), Lt W l b g rv D L → w.heap.size ≤ p8 → Blk W p8 80 (u8s X) → Calls Tryd.prog 36 #[P0 l, .int .i64 po, .slice (some ⟨p8, 0, none⟩) 1 1] W fun e w' => e = .returned (.int .i64 8) ∧ Lt w' l b g rv D2 L ∧ Kept [b, g] W w') := by
    intro W p8 hL8 hp8 hB8
    have hw := write36 l b g _ D L po (some ⟨p8, 0, none⟩) 1 1 [X] W hL8 (by rw [hpo]; exact head_pos _ _ h.may h.node) (by omega) (secs_one hB8 hXb) (by
      intro q off e
      cases e
      simp
      omega)
    rw [hm, hD2]
    unfold Lo.cutW
    rw [← hX, ← hpo]
    exact hw
  clear h hF hyes hXb hX hcx hpo hpc hm hD2 hdw hz
  go_enter Tryd.func14, Tryd.ntmps14
  go_wp2_with (
    first
    | (go_at_call 33
       refine (none33 l b g rv D L _ (unhide HL)).mono ?_
       rintro e w' ⟨rfl, hw9⟩
       obtain rfl := hw9.symm
       clear hw9
       refine Stp.go ?_))
  constructor
  go_wp2_with fail
  refine wp_region_any mixed (wpAny_gx 11 rfl (by kernel_rfl) [some (P0 l), some (P0 l), some (.pointer (some ⟨l, 8, none⟩)), some (.int .i64 L.st), some (.int .i64 s), some (P0 l), some (.int .i64 (L.st + L.fl - 1)), some (.int .i64 (L.st + L.fl)), some (.bool true), some (.bool (!true)), some (.bool (!true))] rfl (by kernel_rfl) (fun l_ vs W => (S0 w) (fun i => l_.getD i false) vs W) (⟨rfl, rfl, rfl, Nat.le_refl _, fun _ _ _ => rfl⟩) ?_ ?_)
  · intro ix o' hi ho a' w2 l_ vs hls hlf hJ hout hin hdep hnot
    match ix, ho with
    | 0, ho =>
      obtain rfl := Option.some.inj ho
      have e0 := hout 0 (by kernel_rfl)
      replace e0 : a'.eval (.tmp 0) = _ := e0.trans rfl
      exact wp_move (.tmp 0) rfl _ e0 ⟨_, rfl, told_of rfl, keepG (St := (S0 w)) [] S0.loc (by omega) (by decide) hJ⟩
    | 1, ho =>
      obtain rfl := Option.some.inj ho
      have e0 : a'.eval (.tmp 15) = P0 l := by have h9 := hin 0 15 (by kernel_rfl) (by kernel_rfl); exact h9.1.trans (told_is _ h9.2 rfl)
      exact o_nil (.tmp 15) rfl _ e0 ⟨_, rfl, told_of rfl, keepG (St := (S0 w)) [] S0.loc (by omega) (by decide) hJ⟩
    | 2, ho =>
      obtain rfl := Option.some.inj ho
      have e0 : a'.eval (.tmp 16) = P0 l := by have h9 := hin 1 16 (by kernel_rfl) (by kernel_rfl); exact h9.1.trans (told_is _ h9.2 rfl)
      exact o_fld72_4 (.tmp 16) rfl _ e0 ⟨_, rfl, told_of rfl, keepG (St := (S0 w)) [] S0.loc (by omega) (by decide) hJ⟩
    | 3, ho =>
      obtain rfl := Option.some.inj ho
      have e0 : a'.eval (.tmp 17) = .pointer (some ⟨l, 8, none⟩) := by have h9 := hin 2 17 (by kernel_rfl) (by kernel_rfl); exact h9.1.trans (told_is _ h9.2 rfl)
      exact q_load2 (.tmp 17) rfl _ _ e0 (fits_cell ((unhide HH).kept hJ (by simp)) 8 _ rfl) ⟨_, rfl, told_of rfl, keepG (St := (S0 w)) [] S0.loc (by omega) (by decide) hJ⟩
    | 4, ho =>
      obtain rfl := Option.some.inj ho
      have e0 := hout 1 (by kernel_rfl)
      replace e0 : a'.eval (.tmp 1) = _ := e0.trans rfl
      exact wp_move (.tmp 1) rfl _ e0 ⟨_, rfl, told_of rfl, keepG (St := (S0 w)) [] S0.loc (by omega) (by decide) hJ⟩
    | 5, ho =>
      obtain rfl := Option.some.inj ho
      have e0 := hout 0 (by kernel_rfl)
      replace e0 : a'.eval (.tmp 0) = _ := e0.trans rfl
      exact wp_move (.tmp 0) rfl _ e0 ⟨_, rfl, told_of rfl, keepG (St := (S0 w)) [] S0.loc (by omega) (by decide) hJ⟩
    | 6, ho =>
      obtain rfl := Option.some.inj ho
      have e0 : a'.eval (.tmp 20) = P0 l := by have h9 := hin 5 20 (by kernel_rfl) (by kernel_rfl); exact h9.1.trans (told_is _ h9.2 rfl)
      refine wp_callF 15 _ _ rfl #[P0 l] (by simp [e0]) (cg15 _ _) ((flushed15 l b g rv D L w2 ((unhide HL).kept0 hJ)).mono ?_)
      rintro e w3 ⟨rfl, hk3⟩
      exact ⟨_, rfl, _, rfl, told_of rfl, keepG (St := (S0 w)) [] S0.loc (by omega) (by decide) (Kept.trans hJ hk3)⟩
    | 7, ho =>
      obtain rfl := Option.some.inj ho
      have e0 : a'.eval (.tmp 21) = .int .i64 (L.st + L.fl - 1) := by have h9 := hin 6 21 (by kernel_rfl) (by kernel_rfl); exact h9.1.trans (told_is _ h9.2 rfl)
      exact o_addc2 (.tmp 21) 1 rfl _ _ (by omega) (unhide HBND) e0 ⟨_, rfl, told_of rfl, keepG (St := (S0 w)) [] S0.loc (by omega) (by decide) hJ⟩
    | 8, ho =>
      obtain rfl := Option.some.inj ho
      have e0 : a'.eval (.tmp 18) = .int .i64 L.st := by have h9 := hin 3 18 (by kernel_rfl) (by kernel_rfl); exact h9.1.trans (told_is _ h9.2 rfl)
      have e1 : a'.eval (.tmp 19) = .int .i64 s := by have h9 := hin 4 19 (by kernel_rfl) (by kernel_rfl); exact h9.1.trans (told_is _ h9.2 rfl)
      have e2 : a'.eval (.tmp 22) = .int .i64 (L.st + L.fl) := by have h9 := hin 7 22 (by kernel_rfl) (by kernel_rfl); exact h9.1.trans (told_is _ h9.2 rfl)
      refine wp_callF 32 _ _ rfl #[.int .i64 L.st, .int .i64 s, .int .i64 (L.st + L.fl)] (by simp [e0, e1, e2]) (cg32 _ _) ((unhide P32 w2).mono ?_)
      rintro e w3 ⟨rfl, hw3⟩
      obtain rfl := hw3.symm
      exact ⟨_, rfl, _, rfl, told_of rfl, keepG (St := (S0 w)) [] S0.loc (by omega) (by decide) hJ⟩
    | 9, ho =>
      obtain rfl := Option.some.inj ho
      have e0 : a'.eval (.tmp 23) = .bool true := by have h9 := hin 8 23 (by kernel_rfl) (by kernel_rfl); exact h9.1.trans (told_is _ h9.2 rfl)
      exact o_not (.tmp 23) rfl true e0 ⟨_, rfl, told_of rfl, keepG (St := (S0 w)) [] S0.loc (by omega) (by decide) hJ⟩
    | 10, ho =>
      obtain rfl := Option.some.inj ho
      have e0 : a'.eval (.tmp 24) = .bool (!true) := by have h9 := hin 9 24 (by kernel_rfl) (by kernel_rfl); exact h9.1.trans (told_is _ h9.2 rfl)
      exact wp_assignV (.tmp 24) rfl _ e0 ⟨_, rfl, told_of rfl, keepG (St := (S0 w)) [] S0.loc (by omega) (by decide) hJ⟩
  intro l_ vs V hl hJ htold
  have t0 : vs 0 = P0 l := told_is _ (htold 0 (by decide)) rfl
  have t1 : vs 1 = P0 l := told_is _ (htold 1 (by decide)) rfl
  have t2 : vs 2 = .pointer (some ⟨l, 8, none⟩) := told_is _ (htold 2 (by decide)) rfl
  have t3 : vs 3 = .int .i64 L.st := told_is _ (htold 3 (by decide)) rfl
  have t4 : vs 4 = .int .i64 s := told_is _ (htold 4 (by decide)) rfl
  have t5 : vs 5 = P0 l := told_is _ (htold 5 (by decide)) rfl
  have t6 : vs 6 = .int .i64 (L.st + L.fl - 1) := told_is _ (htold 6 (by decide)) rfl
  have t7 : vs 7 = .int .i64 (L.st + L.fl) := told_is _ (htold 7 (by decide)) rfl
  have t8 : vs 8 = .bool true := told_is _ (htold 8 (by decide)) rfl
  have t9 : vs 9 = .bool (!true) := told_is _ (htold 9 (by decide)) rfl
  have t10 : vs 10 = .bool (!true) := told_is _ (htold 10 (by decide)) rfl
  rw [show (List.range 11).map vs = [vs 0, vs 1, vs 2, vs 3, vs 4, vs 5, vs 6, vs 7, vs 8, vs 9, vs 10] from rfl]
  simp only [t0, t1, t2, t3, t4, t5, t6, t7, t8, t9, t10, putAll, Act.put, List.setIfInBounds_toArray, List.set_cons_succ, List.set_cons_zero]
  clear t0 t1 t2 t3 t4 t5 t6 t7 t8 t9 t10 htold
  have hJ2 : Kept [] w V := hJ
  have HK := hide hJ2
  replace HL := hide ((unhide HL).kept0 hJ2)
  replace HH := hide (unhide HL).head
  replace HFI := hide ((unhide HFI).kept hJ2)
  clear hJ hl hJ2
  go_wp2_with fail
  refine wp_region_any mixed (wpAny_gx 14 rfl (by kernel_rfl) [some (P0 l), some (P0 l), some (.pointer (some ⟨l, 1, none⟩)), some (aggV (Ar.jobC L.J)), some (P0 l), some (P0 l), some (.pointer (some ⟨l, 6, none⟩)), some (.int .i64 L.nd), some (.tuple #[.int .i64 po, .int .i64 pc]), some (.tuple #[.int .i64 po, .int .i64 pc]), some (.int .i64 po), some (.int .i64 pc), some (.int .i64 po), some (.int .i64 pc)] rfl (by kernel_rfl) (fun l_ vs W => (S0 V) (fun i => l_.getD i false) vs W) (⟨rfl, rfl, rfl, Nat.le_refl _, fun _ _ _ => rfl⟩) ?_ ?_)
  · intro ix o' hi ho a' w2 l_ vs hls hlf hJ hout hin hdep hnot
    match ix, ho with
    | 0, ho =>
      obtain rfl := Option.some.inj ho
      have e0 := hout 0 (by kernel_rfl)
      replace e0 : a'.eval (.tmp 0) = _ := e0.trans rfl
      exact wp_move (.tmp 0) rfl _ e0 ⟨_, rfl, told_of rfl, keepG (St := (S0 V)) [] S0.loc (by omega) (by decide) hJ⟩
    | 1, ho =>
      obtain rfl := Option.some.inj ho
      have e0 : a'.eval (.tmp 26) = P0 l := by have h9 := hin 0 26 (by kernel_rfl) (by kernel_rfl); exact h9.1.trans (told_is _ h9.2 rfl)
      exact o_nil (.tmp 26) rfl _ e0 ⟨_, rfl, told_of rfl, keepG (St := (S0 V)) [] S0.loc (by omega) (by decide) hJ⟩
    | 2, ho =>
      obtain rfl := Option.some.inj ho
      have e0 : a'.eval (.tmp 27) = P0 l := by have h9 := hin 1 27 (by kernel_rfl) (by kernel_rfl); exact h9.1.trans (told_is _ h9.2 rfl)
      exact o_fld72_1 (.tmp 27) rfl _ e0 ⟨_, rfl, told_of rfl, keepG (St := (S0 V)) [] S0.loc (by omega) (by decide) hJ⟩
    | 3, ho =>
      obtain rfl := Option.some.inj ho
      have e0 : a'.eval (.tmp 28) = .pointer (some ⟨l, 1, none⟩) := by have h9 := hin 2 28 (by kernel_rfl) (by kernel_rfl); exact h9.1.trans (told_is _ h9.2 rfl)
      exact wp_loadA row23 (.tmp 28) rfl l 1 e0 (Ar.jobC L.J) rfl (((unhide HH).kept hJ (by simp)).rangeIn (o := 1) (Ar.jobC L.J) (jobC_in b L _)) ⟨_, rfl, told_of rfl, keepG (St := (S0 V)) [] S0.loc (by omega) (by decide) hJ⟩
    | 4, ho =>
      obtain rfl := Option.some.inj ho
      have e0 := hout 0 (by kernel_rfl)
      replace e0 : a'.eval (.tmp 0) = _ := e0.trans rfl
      exact wp_move (.tmp 0) rfl _ e0 ⟨_, rfl, told_of rfl, keepG (St := (S0 V)) [] S0.loc (by omega) (by decide) hJ⟩
    | 5, ho =>
      obtain rfl := Option.some.inj ho
      have e0 : a'.eval (.tmp 30) = P0 l := by have h9 := hin 4 30 (by kernel_rfl) (by kernel_rfl); exact h9.1.trans (told_is _ h9.2 rfl)
      exact o_nil (.tmp 30) rfl _ e0 ⟨_, rfl, told_of rfl, keepG (St := (S0 V)) [] S0.loc (by omega) (by decide) hJ⟩
    | 6, ho =>
      obtain rfl := Option.some.inj ho
      have e0 : a'.eval (.tmp 31) = P0 l := by have h9 := hin 5 31 (by kernel_rfl) (by kernel_rfl); exact h9.1.trans (told_is _ h9.2 rfl)
      exact o_fld72_2 (.tmp 31) rfl _ e0 ⟨_, rfl, told_of rfl, keepG (St := (S0 V)) [] S0.loc (by omega) (by decide) hJ⟩
    | 7, ho =>
      obtain rfl := Option.some.inj ho
      have e0 : a'.eval (.tmp 32) = .pointer (some ⟨l, 6, none⟩) := by have h9 := hin 6 32 (by kernel_rfl) (by kernel_rfl); exact h9.1.trans (told_is _ h9.2 rfl)
      exact q_load3 (.tmp 32) rfl _ _ e0 (fits_cell ((unhide HH).kept hJ (by simp)) 6 _ rfl) ⟨_, rfl, told_of rfl, keepG (St := (S0 V)) [] S0.loc (by omega) (by decide) hJ⟩
    | 8, ho =>
      obtain rfl := Option.some.inj ho
      have e0 : a'.eval (.tmp 29) = aggV (Ar.jobC L.J) := by have h9 := hin 3 29 (by kernel_rfl) (by kernel_rfl); exact h9.1.trans (told_is _ h9.2 rfl)
      have e1 : a'.eval (.tmp 33) = .int .i64 L.nd := by have h9 := hin 7 33 (by kernel_rfl) (by kernel_rfl); exact h9.1.trans (told_is _ h9.2 rfl)
      refine wp_callF 37 _ _ rfl #[aggV (Ar.jobC L.J), .int .i64 L.nd] (by simp [e0, e1]) (cg37 _ _) ((unhide P37 w2).mono ?_)
      rintro e w3 ⟨rfl, hk3⟩
      exact ⟨_, rfl, _, rfl, told_of rfl, keepG (St := (S0 V)) [] S0.loc (by omega) (by decide) (Kept.trans hJ hk3)⟩
    | 9, ho =>
      obtain rfl := Option.some.inj ho
      have e0 : a'.eval (.tmp 34) = .tuple #[.int .i64 po, .int .i64 pc] := by have h9 := hin 8 34 (by kernel_rfl) (by kernel_rfl); exact h9.1.trans (told_is _ h9.2 rfl)
      exact wp_move (.tmp 34) rfl _ e0 ⟨_, rfl, told_of rfl, keepG (St := (S0 V)) [] S0.loc (by omega) (by decide) hJ⟩
    | 10, ho =>
      obtain rfl := Option.some.inj ho
      have e0 : a'.eval (.tmp 25) = .tuple #[.int .i64 po, .int .i64 pc] := by have h9 := hin 9 25 (by kernel_rfl) (by kernel_rfl); exact h9.1.trans (told_is _ h9.2 rfl)
      exact o_ext0 (.tmp 25) rfl _ _ e0 ⟨_, rfl, told_of rfl, keepG (St := (S0 V)) [] S0.loc (by omega) (by decide) hJ⟩
    | 11, ho =>
      obtain rfl := Option.some.inj ho
      have e0 : a'.eval (.tmp 25) = .tuple #[.int .i64 po, .int .i64 pc] := by have h9 := hin 9 25 (by kernel_rfl) (by kernel_rfl); exact h9.1.trans (told_is _ h9.2 rfl)
      exact o_ext1 (.tmp 25) rfl _ _ e0 ⟨_, rfl, told_of rfl, keepG (St := (S0 V)) [] S0.loc (by omega) (by decide) hJ⟩
    | 12, ho =>
      obtain rfl := Option.some.inj ho
      have e0 : a'.eval (.tmp 35) = .int .i64 po := by have h9 := hin 10 35 (by kernel_rfl) (by kernel_rfl); exact h9.1.trans (told_is _ h9.2 rfl)
      exact wp_assignV (.tmp 35) rfl _ e0 ⟨_, rfl, told_of rfl, keepG (St := (S0 V)) [] S0.loc (by omega) (by decide) hJ⟩
    | 13, ho =>
      obtain rfl := Option.some.inj ho
      have e0 : a'.eval (.tmp 36) = .int .i64 pc := by have h9 := hin 11 36 (by kernel_rfl) (by kernel_rfl); exact h9.1.trans (told_is _ h9.2 rfl)
      exact wp_assignV (.tmp 36) rfl _ e0 ⟨_, rfl, told_of rfl, keepG (St := (S0 V)) [] S0.loc (by omega) (by decide) hJ⟩
  intro l_ vs5 V2 hl hJ htold
  have t0 : vs5 0 = P0 l := told_is _ (htold 0 (by decide)) rfl
  have t1 : vs5 1 = P0 l := told_is _ (htold 1 (by decide)) rfl
  have t2 : vs5 2 = .pointer (some ⟨l, 1, none⟩) := told_is _ (htold 2 (by decide)) rfl
  have t3 : vs5 3 = aggV (Ar.jobC L.J) := told_is _ (htold 3 (by decide)) rfl
  have t4 : vs5 4 = P0 l := told_is _ (htold 4 (by decide)) rfl
  have t5 : vs5 5 = P0 l := told_is _ (htold 5 (by decide)) rfl
  have t6 : vs5 6 = .pointer (some ⟨l, 6, none⟩) := told_is _ (htold 6 (by decide)) rfl
  have t7 : vs5 7 = .int .i64 L.nd := told_is _ (htold 7 (by decide)) rfl
  have t8 : vs5 8 = .tuple #[.int .i64 po, .int .i64 pc] := told_is _ (htold 8 (by decide)) rfl
  have t9 : vs5 9 = .tuple #[.int .i64 po, .int .i64 pc] := told_is _ (htold 9 (by decide)) rfl
  have t10 : vs5 10 = .int .i64 po := told_is _ (htold 10 (by decide)) rfl
  have t11 : vs5 11 = .int .i64 pc := told_is _ (htold 11 (by decide)) rfl
  have t12 : vs5 12 = .int .i64 po := told_is _ (htold 12 (by decide)) rfl
  have t13 : vs5 13 = .int .i64 pc := told_is _ (htold 13 (by decide)) rfl
  rw [show (List.range 14).map vs5 = [vs5 0, vs5 1, vs5 2, vs5 3, vs5 4, vs5 5, vs5 6, vs5 7, vs5 8, vs5 9, vs5 10, vs5 11, vs5 12, vs5 13] from rfl]
  simp only [t0, t1, t2, t3, t4, t5, t6, t7, t8, t9, t10, t11, t12, t13, putAll, Act.put, List.setIfInBounds_toArray, List.set_cons_succ, List.set_cons_zero]
  clear t0 t1 t2 t3 t4 t5 t6 t7 t8 t9 t10 t11 t12 t13 htold
  have hJ2 : Kept [] V V2 := hJ
  replace HK := hide ((unhide HK).trans hJ2)
  replace HL := hide ((unhide HL).kept0 hJ2)
  replace HH := hide (unhide HL).head
  replace HFI := hide ((unhide HFI).kept hJ2)
  have hep : V2.cell? ⟨l, 7, none⟩ = some (.int .i64 L.ep) := fits_cell (unhide HH) 7 _ rfl
  clear hJ hl hJ2
  go_wp2_with (
    first
    | (refine wpBuildP (by rfl) _ (by rfl) #[(0, .int .i64 s), (1, .int .i64 L.ep)] (by simp only [List.map_toArray, List.map_cons, List.map_nil]; rfl) (Rc.hdC s L.ep) (Rc.build27p _ _ _) ?_
       refine Stp.go ?_))
  constructor
  go_wp2_with (
    first
    | (go_at_call 38
       refine (unhide P38 _ (unhide HFI)).mono ?_
       rintro e W6 ⟨rfl, K6⟩
       replace HL := hide ((unhide HL).kept0 K6)
       replace HK := hide ((unhide HK).trans K6)
       clear K6
       refine Stp.go ?_))
  constructor
  go_wp2_with (
    first
    | (refine wpNew row80 (u8s (Rc.zs 64)) (by simp [u8s_len, Rc.zs]) (fun w => Rc.zero29 w) 7 (by rfl) (by rfl) (by rfl) (.tmp 45) (by rfl) (by rfl) (by rfl) (u8s X) (unhide HXL) (u8s_one _) (by kernel_rfl) (by kernel_rfl) ?_
       intro V7 p7 e7 B7 K7
       replace HL := hide ((unhide HL).kept0 K7)
       replace HK := hide ((unhide HK).trans K7)
       have HB7 := hide B7
       clear e7 B7 K7
       refine Stp.go ?_))
  constructor
  go_wp2_with (
    first
    | (refine wpLoadA row80 (by rfl) (.tmp 7) (by rfl) p7 0 (by kernel_rfl) (u8s X) (unhide HXL) (unhide HB7).range ?_
       refine Stp.go ?_))
  constructor
  go_wp2_with (
    first
    | (refine wpBsS (by rfl) (.tmp 49) (by rfl) (u8s X) (unhide HXL) (by kernel_rfl) ?_
       intro V8 p8 e8 B8 K8
       have HN8 : Hid (w.heap.size ≤ p8) := by rw [e8]; exact (unhide HK).size
       replace HL := hide ((unhide HL).kept0 K8)
       replace HK := hide ((unhide HK).trans K8)
       have HB8 := hide B8
       clear e8 B8 K8
       refine Stp.go ?_))
  constructor
  go_wp2_with (
    first
    | (go_at_call 36
       refine (unhide P36 _ p8 (unhide HL) (unhide HN8) (unhide HB8)).mono ?_
       rintro e V9 ⟨rfl, hL9, hk9⟩
       have HL9 := hide hL9
       have HK9 := hide hk9
       clear hL9 hk9
       refine Stp.go ?_))
  constructor
  have HK10 : Hid (Kept [l, b, g] w V9) := ((unhide HK).mono (by simp)).trans ((unhide HK9).mono (by intro q hq; simp at hq ⊢; omega))
  clear HK HK9 HB8 HB7 HN8 P36 P38 P37 HFI HXL HL HH hep
  replace HH := hide (unhide HL9).head
  go_wp2_with fail
  go_ret
  exact ⟨rv, rfl, unhide HL9, unhide HK10, rfl⟩
theorem cut14 (l b g : Nat) (rv : Value) (D : Dv.Dev) (L : Lo) (s : Int) (w : World) (h : Lt w l b g rv D L) (hF : Rc.First w) : Calls Tryd.prog 14 #[P0 l, .int .i64 s] w fun e w' => ∃ rv', e = .returned (.int .i64 (L.cut D s).2.2) ∧ Lt w' l b g rv' (L.cut D s).1 (L.cut D s).2.1 ∧ Kept [l, b, g] w w' ∧ rv'.ownBlock = rv.ownBlock := by
  unfold Lo.cut
  cases h1 : L.mayC s with
  | false =>
    rw [if_pos rfl]
    exact (cut_no l b g rv D L s w h hF h1).mono (by rintro e w' ⟨rfl, hk⟩; exact ⟨rv, rfl, h.kept0 hk, hk.mono (by simp), rfl⟩)
  | true =>
    rw [if_neg (by simp)]
    by_cases hz : (L.cutW D s).1 = 0
    · rw [if_pos hz]
      exact cut_ok l b g rv D L s w h hF h1 hz
    · rw [if_neg hz]
      exact cut_bad l b g rv D L s w h hF h1 hz

end Go.Proofs.YtmeajhdhiebkdaaDoor
