/-
  stands.
-/
import Derived.Test.YtgnafbohikbpfaaTe
import Derived.BigQuiet
namespace Go.Proofs.Ytgnafbohikbpfaa
set_option maxRecDepth 100000
set_option linter.unusedSimpArgs false
open Go.RowKit Go.Shelf
attribute [local go_sem] Oper.semAt_some


theorem zero3w (w : World) : (Instr.alloc 3 true (.tuple #[])).run Try.prog w = .ok (P0 w.heap.size) (w.alloc (.cells [Value.int .i64 0].toArray 3)) := by kernel_rfl
theorem zero78 (w : World) : (Instr.alloc 78 true (.tuple #[])).run Try.prog w = .ok (P0 w.heap.size) (w.alloc (.cells [Value.slice none 0 0].toArray 78)) := by kernel_rfl
theorem st1 {T : Nat} (hs : (Try.prog.info? T).map (·.size) = some 1) {v : Value} (h1 : One v) : ∀ (w : World) (b : Nat) (u : Value), Blk w b T [u] → (storeVar T ⟨b, 0, none⟩ v).run Try.prog w = .ok () (w.setCell ⟨b, 0, none⟩ v) := fun _ _ _ h => storeVar1 hs h (by simp) v h1.1 h1.2
theorem wpBox1 {ops : Array Oper} {rest : List Oper} {op : Oper} {a : Act} {w : World} {Q : Exit → Act → World → Prop} {T : Nat} (hgd : op.guard = none) (x : Operand) (ho : op.op = .box T x) (n : Int) (hx : a.eval x = .int .i64 n)
    (h : ∀ W b, b = w.heap.size → Blk W b T [.int .i64 n] → Kept [] w W → wpList Try.prog ops Q rest (a.put op.dst (P0 b)) W) : wpList Try.prog ops Q (op :: rest) a w :=
  wpList_plain hgd fun _ hK => by
    unfold Oper.wp execOp
    simp only [ho, hx]
    exact hK _ _ (h _ _ rfl (Blk.new w T _) ((Kept.refl _ _).alloc _))
section
variable {ops : Array Oper} {rest : List Oper} {op o1 o2 : Oper} {a : Act} {w : World} {Q : Exit → Act → World → Prop}
theorem wpVar {T : Nat} (z v : Value) (hr : ∀ w : World, (Instr.alloc T true (.tuple #[])).run Try.prog w = .ok (P0 w.heap.size) (w.alloc (.cells [z].toArray T))) (hst : ∀ (w : World) (b : Nat) (u : Value), Blk w b T [u] → (storeVar T ⟨b, 0, none⟩ v).run Try.prog w = .ok () (w.setCell ⟨b, 0, none⟩ v))
    (d : Nat) (hd : o1.dst = some d) (hg1 : o1.guard = none) (ho1 : o1.op = .alloc T) (y : Operand) (hg2 : o2.guard = none) (ho2 : o2.op = .store T (.tmp d) y) (hd2 : o2.dst = none)
    (hx : (a.put (some d) (P0 w.heap.size)).eval (.tmp d) = P0 w.heap.size) (hy : (a.put (some d) (P0 w.heap.size)).eval y = v)
    (h : ∀ W b, b = w.heap.size → Blk W b T [v] → Kept [] w W → wpList Try.prog ops Q rest (a.put (some d) (P0 b)) W) : wpList Try.prog ops Q (o1 :: o2 :: rest) a w :=
  wpList_plain hg1 fun K hK => by
    have hb : Blk (w.alloc (.cells [z].toArray T)) w.heap.size T [z] := Blk.new w T [z]
    unfold Oper.wp execOp
    simp only [ho1, Sem.run_bind, hr, Result.andThen_ok]
    refine hK _ _ ?_
    rw [hd]
    refine wpList_plain hg2 fun K' hK' => ?_
    unfold Oper.wp execOp
    simp only [ho2, hx, hy, Instr.storeAt, Instr.sureAddr, Sem.run_bind, Sem.run_pure, Result.andThen_ok, hst _ _ _ hb]
    refine hK' _ _ ?_
    rw [hd2]
    exact h _ _ rfl (hb.one v) (((Kept.refl _ _).alloc _).setCell (p := ⟨w.heap.size, 0, none⟩) (by simp) _)
end
theorem res12 (w : World) (b : Nat) (v : Bool) (tmps : Array Value) (h4 : tmps[6]?.getD undef = P0 b) (hb : Blk w b 4 [.bool v]) : (results Try.f12 tmps).run Try.prog w = .ok (.bool v) w := by
  have hc := fits_cell hb 0 _ rfl
  simp [results, Try.results12, h4, asAddr, go_sem, hc]
/-- How stands leaves: both marks are taken. -/
theorem all_leaves {w W : World} {D2 D br : Nat} {tmps : Array Value} (h4 : tmps[6]?.getD undef = P0 br) (hb : Blk W br 4 [.bool true]) (hk : Kept [] w W) (h2 : W.heap[D2]? = some (.deferred (some []))) (h1 : W.heap[D]? = some (.deferred (some []))) (hne : D ≠ D2) (g2 : w.heap.size ≤ D2) (g1 : w.heap.size ≤ D) :
    LeavesInM Fence.wide 3 Try.prog Try.f12 tmps (fun e w' => e = .returned (.bool true) ∧ Kept [] w w') [{ target := .collected D2, args := #[] }, { target := .collected D, args := #[] }] .returning W := by
  have n1 : br ≠ D := by intro e; subst e; rw [hb] at h1; cases h1
  have n2 : br ≠ D2 := by intro e; subst e; rw [hb] at h2; cases h2
  have k1 : Kept [D2] W (W.putObj D2 (.deferred none)) := Kept.put1
  have h1' : (W.putObj D2 (.deferred none)).heap[D]? = some (.deferred (some [])) := k1.heap h1 (by simpa using hne)
  have k2 : Kept [D] (W.putObj D2 (.deferred none)) ((W.putObj D2 (.deferred none)).putObj D (.deferred none)) := Kept.put1
  have hb2 := (hb.kept k1 (by simpa using n2)).kept k2 (by simpa using n1)
  have k3 : Kept [] w ((W.putObj D2 (.deferred none)).putObj D (.deferred none)) := (hk.fresh k1 (fun i hi hl => by simp at hi; omega)).fresh k2 (fun i hi hl => by simp at hi; omega)
  refine ⟨by simp, .inl ⟨_, _, rfl, run_takeDeferred h2, ?_⟩⟩
  refine ⟨by simp, .inl ⟨_, _, rfl, run_takeDeferred h1', ?_⟩⟩
  exact ⟨_, res12 _ _ _ _ h4 hb2, rfl, k3⟩
/-- What stays through the first loop. -/
structure Sw (w0 w W : World) (b mb r g : Nat) (P : Po) (leave : Int) (b5 b6 : Nat) : Prop where
  tw : Tw w0 W b mb r g P
  l5 : Blk W b5 3 [.int .i64 leave]
  o6 : Blk W b6 4 [.bool false]
  kp : Kept [] w W
  ge : w.heap.size ≤ b5 ∧ w.heap.size ≤ b6
theorem Sw.step0 {w0 w W W' : World} {b mb r g : Nat} {P : Po} {leave : Int} {b5 b6 : Nat} (h : Sw w0 w W b mb r g P leave b5 b6) (hk : Kept [] W W') : Sw w0 w W' b mb r g P leave b5 b6 := ⟨h.tw.step0 hk, h.l5.kept hk (by simp), h.o6.kept hk (by simp), h.kp.trans hk, h.ge⟩
section
variable {o : Oper} {a : Act} {w : World} {K : Act → World → Prop} {Q : Exit → Act → World → Prop}
theorem o_load78 (x : Operand) (ho : o.op = .load 78 x) (p : Addr) (v : Value) (hx : a.eval x = .pointer (some p)) (hc : w.cell? p = some v) (h : K (a.put o.dst v) w) : o.wp Try.prog a w K Q := by
  unfold Oper.wp execOp
  simp only [ho, hx]
  simp [go_sem, hc]
  exact h
theorem o_len78 (x : Operand) (ho : o.op = .call { callee := .builtin .len, args := #[x], argTypes := #[78] }) (ao : Option Addr) (m c : Nat) (hx : a.eval x = .slice ao m c) (h : K (a.put o.dst (.int .i64 m)) w) : o.wp Try.prog a w K Q := by
  have hr : (Builtin.len_ #[78] o.type #[.slice ao m c]).run Try.prog w = .ok (.int .i64 m) w := by
    unfold Builtin.len_
    simp [Sem.run_bind, run_underlying Try.underlying78, goInt]
  unfold Oper.wp execOp
  simp only [ho, resolve, invoke, builtin, Sem.run_bind, Sem.run_pure, Result.andThen_ok, List.map_toArray, List.map_cons, List.map_nil, hx, hr]
  exact h
theorem o_idx78 (x y : Operand) (ho : o.op = .indexAddr 78 x y) (g off m c k : Nat) (hk : k < m) (hx : a.eval x = .slice (some ⟨g, off, none⟩) m c) (hy : a.eval y = .int .i64 k) (h : K (a.put o.dst (.pointer (some ⟨g, off + k * 102, none⟩))) w) : o.wp Try.prog a w K Q := by
  have hkI : (k : Int) < m := by omega
  unfold Oper.wp execOp
  simp only [ho, hx, hy]
  simp [go_sem, hkI]
  exact h
end
set_option maxHeartbeats 16000000 in
theorem stands_in {w0 : World} (b mb r g : Nat) (P : Po) (leave : Int) (w : World) (h : Tw w0 w b mb r g P) : CallsIn Fence.wide 3 Try.prog 12 #[P0 b, P0 r, .int .i64 leave] w fun e w' => e = .returned (.bool true) ∧ Kept [] w w' := by
  obtain ⟨nl, hnl⟩ : ∃ n : Int, (cntB P.S P.m : Int) = n := ⟨_, rfl⟩
  have HNL := hide hnl
  obtain ⟨nr, hnr⟩ : ∃ n : Int, (P.m : Int) - nl = n := ⟨_, rfl⟩
  have HNR : Hid ((P.m : Int) - (cntB P.S P.m : Int) = nr) := by show _ = _; rw [hnl, hnr]
  have q1 : (nl == nl) = true := by simp
  have q2 : (nl != nl) = false := by simp
  have q8 : decide (nl = nl) = true := by simp
  have r1 : (nr == nr) = true := by simp
  have r2 : (nr != nr) = false := by simp
  have r3 : decide (nr = nr) = true := by simp
  have HT := hide h
  clear h hnl hnr
  refine callsIn_of_wp_marks Try.func12 rfl trivial ?_ rfl
  refine wpIn_wide.2 ?_
  simp only [Try.ntmps12, List.size_toArray, List.length_cons, List.length_nil, Nat.reduceAdd, Nat.reduceSub, Array.replicate_succ, Array.replicate_zero, List.push_toArray, List.append_toArray, List.nil_append, List.cons_append]
  go_wp2_with (
    first
    | (refine wpBox1 rfl (.tmp 2) rfl leave rfl ?_
       intro W1 b5 e1 B1 K1
       have HL5 := hide B1
       have HG5 : Hid (w.heap.size ≤ b5) := by show _ ≤ _; omega
       have HK := hide K1
       clear e1 B1 K1
       refine Stp.go ?_))
  constructor
  go_wp2_with (
    first
    | (refine wpAllocW ([Value.bool false]) zero4 6 rfl rfl rfl ?_
       intro W2 b6 e2 B2 K2
       have HS : Hid (Sw w0 w W2 b mb r g P leave b5 b6) := ⟨((unhide HT).step0 (unhide HK)).step0 K2, (unhide HL5).kept K2 (by simp), B2, (unhide HK).trans K2, unhide HG5, by have := (unhide HK).size; omega⟩
       clear e2 B2 K2 HK HL5 HG5 HT
       refine Stp.go ?_))
  constructor
  go_wp2_with (
    first
    | (go_at_call 24
       refine (on_len (unhide HS).tw.on).mono ?_
       rw [unhide HNL]
       rintro e W9 ⟨rfl, q9⟩
       replace q9 := q9.symm
       subst q9
       refine Stp.go ?_))
  constructor
  go_wp2_with (
    first
    | (go_at_call 35
       refine (ro_len (unhide HS).tw.ro).mono ?_
       rw [unhide HNL]
       rintro e W9 ⟨rfl, q9⟩
       replace q9 := q9.symm
       subst q9
       refine Stp.go ?_))
  constructor
  go_wp2_with (
    first
    | (go_at_call 27
       refine (on_room (unhide HS).tw.on).mono ?_
       rw [unhide HNR]
       rintro e W3 ⟨rfl, K3⟩
       replace HS := hide ((unhide HS).step0 K3)
       clear K3
       refine Stp.go ?_))
  constructor
  go_wp2_with (
    first
    | (go_at_call 36
       refine (ro_room (unhide HS).tw.ro).mono ?_
       rw [unhide HNR]
       rintro e W4 ⟨rfl, K4⟩
       replace HS := hide ((unhide HS).step0 K4)
       clear K4
       refine Stp.go ?_))
  constructor
  go_upto_block 0 with fail
  clear q1 q2 q8 r1 r2 r3
  go_cut [7, 8, 9, 10, 11] from 29 to 61 (fun xn x8 x9 x10 x11 wc => Hid (Sw w0 w wc b mb r g P leave b5 b6))
  case first =>
   as_aux_lemma =>
    go_wp2_with fail
    go_loopw [7] (fun xn wr => ∃ (k : Nat) (n : Int), k ≤ 18 ∧ Hid (n = (k : Int) - 1) ∧ xn = .int .i64 n ∧ Hid (Sw w0 w wr b mb r g P leave b5 b6)) (fun xn _ => 18 - (intOf xn + 1).toNat)
    case atStart => exact ⟨0, -1, by omega, (rfl : (-1 : Int) = ((0 : Nat) : Int) - 1), rfl, HS⟩
    case round =>
    clear HS
    obtain ⟨k, n, hk, HN, rfl, HS⟩ := hrel
    by_cases hlt : n ≤ 16
    · have hd : decide (n ≤ 16) = true := by simpa using hlt
      have hn1 : -1 ≤ n := by have := unhide HN; omega
      obtain ⟨x, hx⟩ : ∃ x, (lookP P n).1 = x := ⟨_, rfl⟩
      have HXE := hide hx
      obtain ⟨fc, hfc⟩ : ∃ c, c = x.C := ⟨_, rfl⟩
      have HFC := hide hfc
      have HLF : Hid (fc.length = 102) := by show _ = _; rw [hfc, Fr.len]
      have HOF : Hid (∀ v ∈ fc, v.oneCell' = true) := by rw [hfc]; exact Fr.one _
      have HEQ : Hid (∀ W, (Op.equal 39 (aggV fc) (aggV fc)).run Try.prog W = .ok true W) := fun W => by rw [hfc]; have h9 := equal39 W x x; rw [decide_eq_true rfl] at h9; exact h9
      obtain ⟨zc, hzc⟩ : ∃ c, c = fr0.C := ⟨_, rfl⟩
      have HLZ : Hid (zc.length = 102) := by show _ = _; rw [hzc, Fr.len]
      have HZ39 : Hid (∀ w : World, (Instr.alloc 39 true (.tuple #[])).run Try.prog w = .ok (P0 w.heap.size) (w.alloc (.cells zc.toArray 39))) := by rw [hzc]; exact zero39
      obtain ⟨lb, hlb⟩ : ∃ l, (lookP P n).2 = l := ⟨_, rfl⟩
      have HLB := hide hlb
      obtain ⟨np, hnp⟩ : ∃ l : Int, (pinsP P n : Int) = l := ⟨_, rfl⟩
      have HNP := hide hnp
      have q3 : (lb == lb) = true := by simp
      have q4 : (lb != lb) = false := by simp
      have q5 : (np == np) = true := by simp
      have q6 : (np != np) = false := by simp
      have q7 : decide (np = np) = true := by simp
      have P15 : Hid (∀ W, On w0 W b mb P → Calls Try.prog 15 #[P0 b, .int .i64 n] W fun e w' => e = .returned (.tuple #[aggV fc, .bool lb]) ∧ Kept [] W w') := fun W h => by have h9 := on_look h n; rw [hx, ← hfc, hlb] at h9; exact h9
      have P37 : Hid (∀ W, Ro w0 W r g P → Calls Try.prog 37 #[P0 r, .int .i64 n] W fun e w' => e = .returned (.tuple #[aggV fc, .bool lb]) ∧ Kept [] W w') := fun W h => by have h9 := ro_look h n; rw [hx, ← hfc, hlb] at h9; exact h9
      have P16 : Hid (∀ W, On w0 W b mb P → Calls Try.prog 16 #[P0 b, .int .i64 n] W fun e w' => e = .returned (.int .i64 np) ∧ Kept [] W w') := fun W h => by have h9 := on_pins h n; rw [hnp] at h9; exact h9
      have P38 : Hid (∀ W, Ro w0 W r g P → Calls Try.prog 38 #[P0 r, .int .i64 n] W fun e w' => e = .returned (.int .i64 np) ∧ Kept [] W w') := fun W h => by have h9 := ro_pins h n; rw [hnp] at h9; exact h9
      clear hx hfc hzc hlb hnp
      go_wp2_with (
        first
        | (go_at_call 15
           refine (unhide P15 _ (unhide HS).tw.on).mono ?_
           skip
           rintro e W5 ⟨rfl, K5⟩
           replace HS := hide ((unhide HS).step0 K5)
           clear K5
           refine Stp.go ?_))
      constructor
      go_wp2_with (
        first
        | (refine wpNew row39 zc (unhide HLZ) (unhide HZ39) 8 rfl rfl rfl (.tmp 37) rfl rfl rfl fc (unhide HLF) (unhide HOF) (by kernel_rfl) (by kernel_rfl) ?_
           intro W6 q6 e6 B6 K6
           replace HS := hide ((unhide HS).step0 K6)
           have HB6 := hide B6
           clear e6 B6 K6
           refine Stp.go ?_))
      constructor
      go_wp2_with (
        first
        | (go_at_call 37
           refine (unhide P37 _ (unhide HS).tw.ro).mono ?_
           skip
           rintro e W7 ⟨rfl, K7⟩
           replace HS := hide ((unhide HS).step0 K7)
           replace HB6 := hide ((unhide HB6).kept K7 (by simp))
           clear K7
           refine Stp.go ?_))
      constructor
      go_wp2_with (
        first
        | (refine wpNew row39 zc (unhide HLZ) (unhide HZ39) 10 rfl rfl rfl (.tmp 43) rfl rfl rfl fc (unhide HLF) (unhide HOF) (by kernel_rfl) (by kernel_rfl) ?_
           intro W8 q8 e8 B8 K8
           replace HS := hide ((unhide HS).step0 K8)
           replace HB6 := hide ((unhide HB6).kept K8 (by simp))
           have HB8 := hide B8
           clear e8 B8 K8
           refine Stp.go ?_))
      constructor
      go_wp2_with (
        first
        | (refine wpLoadA row39 rfl (.tmp 8) rfl q6 0 rfl fc (unhide HLF) (unhide HB6).range ?_
           refine Stp.go ?_))
      constructor
      go_wp2_with (
        first
        | (refine wpLoadA row39 rfl (.tmp 10) rfl q8 0 rfl fc (unhide HLF) (unhide HB8).range ?_
           refine Stp.go ?_))
      constructor
      go_wp2_with (
        first
        | (refine wpNeqA 39 39 guard39 (.tmp 45) (.tmp 46) rfl rfl fc fc rfl rfl true (unhide HEQ _) ?_
           refine Stp.go ?_))
      constructor
      go_wp2_with (
        first
        | (go_at_call 16
           refine (unhide P16 _ (unhide HS).tw.on).mono ?_
           skip
           rintro e W9 ⟨rfl, K9⟩
           replace HS := hide ((unhide HS).step0 K9)
           clear K9
           refine Stp.go ?_))
      constructor
      go_wp2_with (
        first
        | (go_at_call 38
           refine (unhide P38 _ (unhide HS).tw.ro).mono ?_
           skip
           rintro e W10 ⟨rfl, K10⟩
           replace HS := hide ((unhide HS).step0 K10)
           clear K10
           refine Stp.go ?_))
      constructor
      go_wp2_with fail
      go_roundw
      case rel => exact ⟨k + 1, n + 1, by have := unhide HN; omega, by have := unhide HN; show _ = _; omega, by go_num, HS⟩
      case measure => have := unhide HN; simp [intOf]; omega
    · have hd : decide (n ≤ 16) = false := by simpa using hlt
      go_wp2_with fail
      go_meet
      case rel => exact HS
  case rest =>
   as_aux_lemma =>
    clear HS
    have HS := hcut
    clear hcut
    obtain ⟨N, hN⟩ : ∃ N, (allP P 16).length = N := ⟨_, rfl⟩
    have HNN := hide hN
    have HN16 : Hid (N ≤ 16) := by show _ ≤ _; rw [← hN]; exact allP_len P 16
    clear hN
    go_wp2_with (
      first
      | (go_at_call 39
         refine (rall39 (unhide HS).tw.ro).mono ?_
         rintro e W1 ⟨v, rfl, C1⟩
         obtain ⟨ao, cap, hv, _, _⟩ := C1.row.sl
         have hw1 := C1.row
         rw [show (allP P 16).length = N from unhide HNN] at hv
         subst hv
         have HF := hide hw1
         replace HS := hide ((unhide HS).step0 C1.k)
         clear C1 hw1
         refine Stp.go ?_))
    constructor
    go_wp2_with (
      first
      | (refine wpVar (.slice none 0 0) (.slice ao N cap) zero78 (st1 size78 ⟨rfl, rfl⟩) 12 (by rfl) (by rfl) (by rfl) (.tmp 63) (by rfl) (by rfl) (by rfl) (by kernel_rfl) (by rfl) ?_
         intro W2 bw e2 B2 K2
         have HW := hide B2
         replace HF := hide ((unhide HF).kept K2 (fun k _ => by simp))
         replace HS := hide ((unhide HS).step0 K2)
         clear e2 B2 K2
         refine Stp.go ?_))
    constructor
    go_wp2_with (
      first
      | (go_at_call 40
         refine (all40 (some ⟨b, 0, none⟩) _).mono ?_
         rintro e W3 ⟨c, rfl, hc, _, K3⟩
         unfold fnV
         have HCC := hide hc
         have hq81 := eq81 (P0 c)
         replace HW := hide ((unhide HW).kept K3 (by simp))
         replace HF := hide ((unhide HF).kept K3 (fun k _ => by simp))
         replace HS := hide ((unhide HS).step0 K3)
         clear hc K3
         refine Stp.go ?_))
    constructor
    go_wp2_with (
      first
      | (refine wpVar (.int .i64 0) (.int .i64 0) zero3w (st1 size3 ⟨rfl, rfl⟩) 14 (by rfl) (by rfl) (by rfl) (.const (.int .i64 0)) (by rfl) (by rfl) (by rfl) (by kernel_rfl) (by rfl) ?_
         intro W4 bt e4 B4 K4
         have HA : Hid (Sv w0 w W4 W4.heap.size b mb c b5 b6 bw bt P leave (.slice ao N cap) 0 []) := by
           have s := (unhide HS).step0 K4
           have f := (unhide HF).kept K4 (fun k _ => by simp)
           have w1 := (unhide HW).kept K4 (by simp)
           have c1 := (unhide HCC).kept K4 (by simp)
           exact ⟨s.tw.on, c1, s.l5, s.o6, w1, f, B4, s.kp, ⟨s.tw.on.lt.1, s.tw.on.lt.2, c1.lt, s.l5.lt, s.o6.lt, w1.lt, B4.lt⟩, ⟨s.kp.size, s.ge.2⟩, fun k e => f.lt e, fun D hD => by cases hD⟩
         clear e4 B4 K4 hq81 HS HF HW HCC))
    have hFw := wideF
    have HB0 : Hid (W4.heap.size = W4.heap.size) := rfl
    refine (wpIn_wide (n := 3)).1 ?_
    refine wpIn_loop_rounds 3 ?_
    rw [roundsIn_succ]
    have c14 := fits_cell (unhide HA).ht 0 _ rfl
    gi_wp2_with (
      first
      | (refine inVar (.int .i64 0) (.int .i64 0) zero3w (st1 size3 ⟨rfl, rfl⟩) 15 (by rfl) wideF (by rfl) (by rfl) (by rfl) (.const (.int .i64 0)) (by rfl) (by rfl) (fun _ => by rfl) (by rfl) (by rfl) (by rfl) ?_
         intro W8 bn en B8 K8
         have HN0 := hide B8
         have HBbn : Hid (W4.heap.size ≤ bn) := by have := (unhide HA).lt; show _ ≤ _; omega
         replace HA := hide ((unhide HA).step0 K8)
         clear en B8 K8 c14))
    refine range_turn 4 bn rfl rfl (unhide HA) (unhide HN0) (unhide HBbn) ?assign ?body ?done ?exit
    case assign =>
      intro l x Wa K hxl hx1 hK
      have HXL := hide hxl
      have HX1 := hide hx1
      obtain ⟨zc, hzc⟩ : ∃ c, c = fr0.C := ⟨_, rfl⟩
      have HLZ : Hid (zc.length = 102) := by show _ = _; rw [hzc, Fr.len]
      have HZ39 : Hid (∀ w : World, (Instr.alloc 39 true (.tuple #[])).run Try.prog w = .ok (P0 w.heap.size) (w.alloc (.cells zc.toArray 39))) := by rw [hzc]; exact zero39
      clear hxl hx1 hzc
      simp only [List.setIfInBounds_toArray, List.set_cons_succ, List.set_cons_zero]
      gi_wp2_with (
        first
        | (refine inNew row39 zc (unhide HLZ) (unhide HZ39) 16 (by rfl) (fun _ => trivial) (by rfl) (by rfl) (by rfl) (.tmp 73) (by rfl) (by rfl) (fun _ => by rfl) (by rfl) x (unhide HXL) (unhide HX1) (by rfl) (by rfl) ?_
           intro W9 bx ex BX KX
           have HBX := hide BX
           have HKX := hide KX
           have HEX : Hid (Wa.heap.size ≤ bx) := by show _ ≤ _; omega
           clear ex BX KX)
        | fail)
      refine hK _ _ bx (unhide HKX) (unhide HBX) (unhide HEX) ?_
      simp only [ax, List.setIfInBounds_toArray, List.set_cons_succ, List.set_cons_zero]
    case body =>
      intro l k f bx W hf hS hn hgo hbx
      simp only [ax, List.setIfInBounds_toArray, List.set_cons_succ, List.set_cons_zero]
      have hlt : k < N := by rw [← unhide HNN]; exact (List.getElem?_eq_some_iff.1 hf).1
      have hk16 : (k : Int) < 16 := by have := unhide HN16; omega
      have HHB := unhide HBbn
      obtain ⟨gg, off, cap2, hwv, hrg⟩ := hS.row.get hf
      obtain rfl : ao = some ⟨gg, off, none⟩ := by injection hwv
      have HRG := hide hrg
      obtain ⟨fc, hfc⟩ : ∃ c, c = f.C := ⟨_, rfl⟩
      have HLF : Hid (fc.length = 102) := by show _ = _; rw [hfc, Fr.len]
      have HEQ : Hid (∀ W, (Op.equal 39 (aggV fc) (aggV fc)).run Try.prog W = .ok true W) := fun W => by rw [hfc]; have h9 := equal39 W f f; rw [decide_eq_true rfl] at h9; exact h9
      rw [← hfc] at hbx HRG ⊢
      clear hf hwv hrg hfc hgo
      gi_wp2
      refine wpIn_region_any (by kernel_rfl) (anyIn_of_any (by rintro ⟨a, w, h⟩; rcases h with ⟨_, _, ⟨h, _⟩ | ⟨h, _⟩⟩ <;> cases h) (noDeferA (by kernel_rfl)) _ _ _ _ (wpAny_tq 12 rfl (by kernel_rfl) [some (.int .i64 (k : Int)), some (.slice (some ⟨gg, off, none⟩) N cap), some (.int .i64 N), some (.bool false), some (.bool false), some (aggV fc), some (.slice (some ⟨gg, off, none⟩) N cap), some (.int .i64 (k : Int)), some (.pointer (some ⟨gg, off + k * 102, none⟩)), some (aggV fc), some (.bool false), some (.bool false)] rfl (by kernel_rfl) (by kernel_rfl) ?_ ?_))
      · intro i o' hi hsk ho a' w2 hout hin hk2
        replace hk2 : Kept [] W w2 := ⟨hk2.os, hk2.tape, hk2.output, hk2.size, hk2.block⟩
        match i, ho, hsk with
        | 0, ho, hsk =>
          obtain rfl := Option.some.inj ho
          exact o_load3 (.tmp 15) rfl ⟨bn, 0, none⟩ _ ((hout 15 (by kernel_rfl)).trans rfl) (fits_cell (hn.kept hk2 (by simp)) 0 _ rfl) ⟨_, rfl, tq_is _ _ _ _ rfl, Kept.refl _ _, fun _ _ _ _ _ => trivial⟩
        | 1, ho, hsk =>
          obtain rfl := Option.some.inj ho
          exact o_load78 (.tmp 12) rfl ⟨bw, 0, none⟩ _ ((hout 12 (by kernel_rfl)).trans rfl) (fits_cell (hS.hw.kept hk2 (by simp)) 0 _ rfl) ⟨_, rfl, tq_is _ _ _ _ rfl, Kept.refl _ _, fun _ _ _ _ _ => trivial⟩
        | 2, ho, hsk =>
          obtain rfl := Option.some.inj ho
          have e0 : a'.eval (.tmp 75) = .slice (some ⟨gg, off, none⟩) N cap := is_tq (hin 1 75 (by kernel_rfl) (by kernel_rfl)) rfl
          exact o_len78 (.tmp 75) rfl _ _ _ e0 ⟨_, rfl, tq_is _ _ _ _ rfl, Kept.refl _ _, fun _ _ _ _ _ => trivial⟩
        | 3, ho, hsk =>
          obtain rfl := Option.some.inj ho
          have e0 : a'.eval (.tmp 74) = .int .i64 (k : Int) := is_tq (hin 0 74 (by kernel_rfl) (by kernel_rfl)) rfl
          have e1 : a'.eval (.tmp 76) = .int .i64 N := is_tq (hin 2 76 (by kernel_rfl) (by kernel_rfl)) rfl
          exact c_geq3 (.tmp 74) (.tmp 76) rfl _ _ false (decide_eq_false (by omega)) e0 e1 ⟨_, rfl, tq_is _ _ _ _ rfl, Kept.refl _ _, fun _ _ _ _ _ => trivial⟩
        | 4, ho, hsk =>
          obtain rfl := Option.some.inj ho
          have e0 : a'.eval (.tmp 77) = .bool false := is_tq (hin 3 77 (by kernel_rfl) (by kernel_rfl)) rfl
          exact wp_move (.tmp 77) rfl _ e0 ⟨_, rfl, tq_is _ _ _ _ rfl, Kept.refl _ _, fun _ _ _ _ _ => trivial⟩
        | 5, ho, hsk =>
          obtain rfl := Option.some.inj ho
          exact wp_loadA row39 (.tmp 16) rfl bx 0 ((hout 16 (by kernel_rfl)).trans rfl) (fc) (unhide HLF) (hbx.kept hk2 (by simp)).range ⟨_, rfl, tq_is _ _ _ _ rfl, Kept.refl _ _, fun _ _ _ _ _ => trivial⟩
        | 6, ho, hsk =>
          obtain rfl := Option.some.inj ho
          exact o_load78 (.tmp 12) rfl ⟨bw, 0, none⟩ _ ((hout 12 (by kernel_rfl)).trans rfl) (fits_cell (hS.hw.kept hk2 (by simp)) 0 _ rfl) ⟨_, rfl, tq_is _ _ _ _ rfl, Kept.refl _ _, fun _ _ _ _ _ => trivial⟩
        | 7, ho, hsk =>
          obtain rfl := Option.some.inj ho
          exact o_load3 (.tmp 15) rfl ⟨bn, 0, none⟩ _ ((hout 15 (by kernel_rfl)).trans rfl) (fits_cell (hn.kept hk2 (by simp)) 0 _ rfl) ⟨_, rfl, tq_is _ _ _ _ rfl, Kept.refl _ _, fun _ _ _ _ _ => trivial⟩
        | 8, ho, hsk =>
          obtain rfl := Option.some.inj ho
          have e0 : a'.eval (.tmp 80) = .slice (some ⟨gg, off, none⟩) N cap := is_tq (hin 6 80 (by kernel_rfl) (by kernel_rfl)) rfl
          have e1 : a'.eval (.tmp 81) = .int .i64 (k : Int) := is_tq (hin 7 81 (by kernel_rfl) (by kernel_rfl)) rfl
          exact o_idx78 (.tmp 80) (.tmp 81) rfl gg off N cap k hlt e0 e1 ⟨_, rfl, tq_is _ _ _ _ rfl, Kept.refl _ _, fun _ _ _ _ _ => trivial⟩
        | 9, ho, hsk =>
          obtain rfl := Option.some.inj ho
          have e0 : a'.eval (.tmp 82) = .pointer (some ⟨gg, off + k * 102, none⟩) := is_tq (hin 8 82 (by kernel_rfl) (by kernel_rfl)) rfl
          exact wp_loadA row39 (.tmp 82) rfl gg (off + k * 102) e0 (fc) (unhide HLF) (fun j u hj => hk2.cell (unhide HRG j u hj) (by simp)) ⟨_, rfl, tq_is _ _ _ _ rfl, Kept.refl _ _, fun _ _ _ _ _ => trivial⟩
        | 10, ho, hsk =>
          obtain rfl := Option.some.inj ho
          have e0 : a'.eval (.tmp 79) = aggV fc := is_tq (hin 5 79 (by kernel_rfl) (by kernel_rfl)) rfl
          have e1 : a'.eval (.tmp 83) = aggV fc := is_tq (hin 9 83 (by kernel_rfl) (by kernel_rfl)) rfl
          exact o_neqA 39 39 guard39 (.tmp 79) (.tmp 83) rfl fc fc e0 e1 true (unhide HEQ _) ⟨_, rfl, tq_is _ _ _ _ rfl, Kept.refl _ _, fun _ _ _ _ _ => trivial⟩
        | 11, ho, hsk =>
          obtain rfl := Option.some.inj ho
          have e0 : a'.eval (.tmp 78) = .bool false := is_tq (hin 4 78 (by kernel_rfl) (by kernel_rfl)) rfl
          have e1 : a'.eval (.tmp 84) = .bool false := is_tq (hin 10 84 (by kernel_rfl) (by kernel_rfl)) rfl
          exact o_pickOr0 (.tmp 78) (.tmp 84) rfl _ e0 e1 ⟨_, rfl, tq_is _ _ _ _ rfl, Kept.refl _ _, fun _ _ _ _ _ => trivial⟩
      intro w9 hk9
      replace hk9 : Kept [] W w9 := ⟨hk9.os, hk9.tape, hk9.output, hk9.size, hk9.block⟩
      simp only [valsQ, List.map_cons, List.map_nil, Option.getD_some, List.take_succ_cons, List.take_zero, putAll, Act.put, List.setIfInBounds_toArray, List.set_cons_succ, List.set_cons_zero]
      refine wpAny_done (by kernel_rfl) ?_ _
      have hS3 := hide (hS.step0 hk9)
      have HN3 := hide (hn.kept hk9 (by simp))
      have HK3 := hide hk9
      have c15 := fits_cell (unhide HN3) 0 _ rfl
      clear hS hn hk9 HRG hbx
      by_cases hlv : (k : Int) + 1 = leave
      · have d1 : ((k : Int) + 1 == leave) = true := by simp [hlv]
        have d2 : decide ((k : Int) + 1 = leave) = true := by simp [hlv]
        have HLV := hide hlv
        clear hlv
        gi_wp2_with (
          first
          | (refine inStore1 (.int .i64 (k : Int)) (.int .i64 ((k : Int) + 1)) (st1 size3 ⟨rfl, rfl⟩) (fun _ => trivial) (by rfl) (.tmp 15) (.tmp 87) (by rfl) (by rfl) (by rfl) bn (by rfl) (by rfl) (unhide HN3) ?_
             intro W9 B9 e9
             have HK9 : Hid (Kept [bn] w9 W9) := by rw [e9]; exact (Kept.refl _ _).setCell (p := ⟨bn, 0, none⟩) (by simp) _
             have HN9 := hide B9
             have hS9 := hide ((unhide hS3).keep (unhide HK9) (by intro i hi; simp at hi; omega))
             clear c15 e9 B9
             have c15 := fits_cell (unhide HN9) 0 _ rfl
             have c14 := fits_cell (unhide hS9).ht 0 _ rfl
             have c5 := fits_cell (unhide hS9).l5 0 _ rfl)
          | fail)
        refine ⟨((unhide HK3).mono (by simp)).trans (unhide HK9), unhide HN9, ?_⟩
        have hl := unhide HLV; simp [hl]
      · have d1 : ((k : Int) + 1 == leave) = false := by simp [hlv]
        have d2 : decide ((k : Int) + 1 = leave) = false := by simp [hlv]
        have HLV := hide hlv
        clear hlv
        gi_wp2_with (
          first
          | (refine inStore1 (.int .i64 (k : Int)) (.int .i64 ((k : Int) + 1)) (st1 size3 ⟨rfl, rfl⟩) (fun _ => trivial) (by rfl) (.tmp 15) (.tmp 87) (by rfl) (by rfl) (by rfl) bn (by rfl) (by rfl) (unhide HN3) ?_
             intro W9 B9 e9
             have HK9 : Hid (Kept [bn] w9 W9) := by rw [e9]; exact (Kept.refl _ _).setCell (p := ⟨bn, 0, none⟩) (by simp) _
             have HN9 := hide B9
             have hS9 := hide ((unhide hS3).keep (unhide HK9) (by intro i hi; simp at hi; omega))
             clear c15 e9 B9
             have c15 := fits_cell (unhide HN9) 0 _ rfl
             have c14 := fits_cell (unhide hS9).ht 0 _ rfl
             have c5 := fits_cell (unhide hS9).l5 0 _ rfl)
          | fail)
        refine ⟨((unhide HK3).mono (by simp)).trans (unhide HK9), unhide HN9, ?_⟩
        have hl := unhide HLV; simp [hl]
    case exit =>
      intro a W h
      exact wpIn_exit h
    case done =>
      intro n2 Wd hS hn2 hle hor hD hsz
      have HSZ := hide hsz
      have h1 := unhide HBbn
      have h2 := (unhide HN0).lt
      have HA1 := hide (hS.mark (D := W8.heap.size) (by omega) hD)
      have HN2 := hide hn2
      clear hS hn2 hD hsz h1 h2 HA HN0 HBbn
      rw [unhide HNN] at hor
      by_cases h9 : n2 = N
      · replace h9 := h9.symm
        subst h9
        have e1 : ((N : Int) != (N : Int)) = false := by simp
        have e2 : decide ((N : Int) = (N : Int)) = true := by simp
        have e3 : ((N : Int) == (N : Int)) = true := by simp
        clear hle hor
        have c14 := fits_cell (unhide HA1).ht 0 _ rfl
        have c5 := fits_cell (unhide HA1).l5 0 _ rfl
        have c12 := fits_cell (unhide HA1).hw 0 _ rfl
        have c15 := fits_cell (unhide HN2) 0 _ rfl
        gi_wp2_with (
          first
          | (refine inVar (.int .i64 0) (.int .i64 0) zero3w (st1 size3 ⟨rfl, rfl⟩) 14 (by rfl) wideF (by rfl) (by rfl) (by rfl) (.tmp 118) (by rfl) (by rfl) (fun _ => by rfl) (by rfl) (by rfl) (by rfl) ?_
             intro W10 bt1 et B10 K10
             have HT1 := hide B10
             have HGT : Hid (W8.heap.size + 1 ≤ bt1) := by have := unhide HSZ; show _ ≤ _; omega
             have HObt1 : Hid (W8.heap.size + 1 ≤ bt1) := HGT
             replace HA1 := hide ((unhide HA1).step0 K10)
             clear et K10 c14
             have c14 := fits_cell B10 0 _ rfl
             clear B10
             refine Stp.go ?_))
        constructor
        gi_wp2_with (
          first
          | (refine inStore1 (.int .i64 0) (.int .i64 1) (st1 size3 ⟨rfl, rfl⟩) wideF (by rfl) (.tmp 14) (.tmp 71) (by rfl) (by rfl) (by rfl) bt1 (by rfl) (by rfl) (unhide HT1) ?_
             refine Stp.go ?_))
        constructor
        intro W11 B11 e11
        have HKB : Hid (Kept [bt1] W10 W11) := by rw [e11]; exact (Kept.refl _ _).setCell (p := ⟨bt1, 0, none⟩) (by simp) _
        have HA2 : Hid (Sv w0 w W11 (bt1 + 1) b mb c b5 b6 bw bt1 P leave (.slice ao N cap) 1 [W8.heap.size]) := ((unhide HA1).keep (unhide HKB) (by intro i hi; simp at hi; subst hi; exact unhide HGT)).next (by have := unhide HGT; omega) (by omega) B11
        clear HA1 HT1 HGT HKB e11 B11 c14 c15 c5 c12
        gi_wp2_with fail
        rw [roundsIn_succ]
        have c14 := fits_cell (unhide HA2).ht 0 _ rfl
        gi_wp2_with (
          first
          | (refine inVar (.int .i64 0) (.int .i64 0) zero3w (st1 size3 ⟨rfl, rfl⟩) 15 (by rfl) wideF (by rfl) (by rfl) (by rfl) (.const (.int .i64 0)) (by rfl) (by rfl) (fun _ => by rfl) (by rfl) (by rfl) (by rfl) ?_
             intro W12 bn1 en B12 K12
             have HN1 := hide B12
             have HBbn1 : Hid (bt1 + 1 ≤ bn1) := by have := (unhide HA2).ht.lt; show _ ≤ _; omega
             replace HA2 := hide ((unhide HA2).step0 K12)
             clear en B12 K12 c14))
        refine range_turn 4 bn1 rfl rfl (unhide HA2) (unhide HN1) (unhide HBbn1) ?assign1 ?body1 ?done1 ?exit1
        case assign1 =>
          intro l x Wa K hxl hx1 hK
          have HXL := hide hxl
          have HX1 := hide hx1
          obtain ⟨zc, hzc⟩ : ∃ c, c = fr0.C := ⟨_, rfl⟩
          have HLZ : Hid (zc.length = 102) := by show _ = _; rw [hzc, Fr.len]
          have HZ39 : Hid (∀ w : World, (Instr.alloc 39 true (.tuple #[])).run Try.prog w = .ok (P0 w.heap.size) (w.alloc (.cells zc.toArray 39))) := by rw [hzc]; exact zero39
          clear hxl hx1 hzc
          simp only [List.setIfInBounds_toArray, List.set_cons_succ, List.set_cons_zero]
          gi_wp2_with (
            first
            | (refine inNew row39 zc (unhide HLZ) (unhide HZ39) 16 (by rfl) (fun _ => trivial) (by rfl) (by rfl) (by rfl) (.tmp 73) (by rfl) (by rfl) (fun _ => by rfl) (by rfl) x (unhide HXL) (unhide HX1) (by rfl) (by rfl) ?_
               intro W9 bx ex BX KX
               have HBX := hide BX
               have HKX := hide KX
               have HEX : Hid (Wa.heap.size ≤ bx) := by show _ ≤ _; omega
               clear ex BX KX)
            | fail)
          refine hK _ _ bx (unhide HKX) (unhide HBX) (unhide HEX) ?_
          simp only [ax, List.setIfInBounds_toArray, List.set_cons_succ, List.set_cons_zero]
        case body1 =>
          intro l k f bx W hf hS hn hgo hbx
          simp only [ax, List.setIfInBounds_toArray, List.set_cons_succ, List.set_cons_zero]
          have hlt : k < N := by rw [← unhide HNN]; exact (List.getElem?_eq_some_iff.1 hf).1
          have hk16 : (k : Int) < 16 := by have := unhide HN16; omega
          have HHB := unhide HBbn1
          obtain ⟨gg, off, cap2, hwv, hrg⟩ := hS.row.get hf
          obtain rfl : ao = some ⟨gg, off, none⟩ := by injection hwv
          have HRG := hide hrg
          obtain ⟨fc, hfc⟩ : ∃ c, c = f.C := ⟨_, rfl⟩
          have HLF : Hid (fc.length = 102) := by show _ = _; rw [hfc, Fr.len]
          have HEQ : Hid (∀ W, (Op.equal 39 (aggV fc) (aggV fc)).run Try.prog W = .ok true W) := fun W => by rw [hfc]; have h9 := equal39 W f f; rw [decide_eq_true rfl] at h9; exact h9
          rw [← hfc] at hbx HRG ⊢
          clear hf hwv hrg hfc hgo
          gi_wp2
          refine wpIn_region_any (by kernel_rfl) (anyIn_of_any (by rintro ⟨a, w, h⟩; rcases h with ⟨_, _, ⟨h, _⟩ | ⟨h, _⟩⟩ <;> cases h) (noDeferA (by kernel_rfl)) _ _ _ _ (wpAny_tq 12 rfl (by kernel_rfl) [some (.int .i64 (k : Int)), some (.slice (some ⟨gg, off, none⟩) N cap), some (.int .i64 N), some (.bool false), some (.bool false), some (aggV fc), some (.slice (some ⟨gg, off, none⟩) N cap), some (.int .i64 (k : Int)), some (.pointer (some ⟨gg, off + k * 102, none⟩)), some (aggV fc), some (.bool false), some (.bool false)] rfl (by kernel_rfl) (by kernel_rfl) ?_ ?_))
          · intro i o' hi hsk ho a' w2 hout hin hk2
            replace hk2 : Kept [] W w2 := ⟨hk2.os, hk2.tape, hk2.output, hk2.size, hk2.block⟩
            match i, ho, hsk with
            | 0, ho, hsk =>
              obtain rfl := Option.some.inj ho
              exact o_load3 (.tmp 15) rfl ⟨bn1, 0, none⟩ _ ((hout 15 (by kernel_rfl)).trans rfl) (fits_cell (hn.kept hk2 (by simp)) 0 _ rfl) ⟨_, rfl, tq_is _ _ _ _ rfl, Kept.refl _ _, fun _ _ _ _ _ => trivial⟩
            | 1, ho, hsk =>
              obtain rfl := Option.some.inj ho
              exact o_load78 (.tmp 12) rfl ⟨bw, 0, none⟩ _ ((hout 12 (by kernel_rfl)).trans rfl) (fits_cell (hS.hw.kept hk2 (by simp)) 0 _ rfl) ⟨_, rfl, tq_is _ _ _ _ rfl, Kept.refl _ _, fun _ _ _ _ _ => trivial⟩
            | 2, ho, hsk =>
              obtain rfl := Option.some.inj ho
              have e0 : a'.eval (.tmp 75) = .slice (some ⟨gg, off, none⟩) N cap := is_tq (hin 1 75 (by kernel_rfl) (by kernel_rfl)) rfl
              exact o_len78 (.tmp 75) rfl _ _ _ e0 ⟨_, rfl, tq_is _ _ _ _ rfl, Kept.refl _ _, fun _ _ _ _ _ => trivial⟩
            | 3, ho, hsk =>
              obtain rfl := Option.some.inj ho
              have e0 : a'.eval (.tmp 74) = .int .i64 (k : Int) := is_tq (hin 0 74 (by kernel_rfl) (by kernel_rfl)) rfl
              have e1 : a'.eval (.tmp 76) = .int .i64 N := is_tq (hin 2 76 (by kernel_rfl) (by kernel_rfl)) rfl
              exact c_geq3 (.tmp 74) (.tmp 76) rfl _ _ false (decide_eq_false (by omega)) e0 e1 ⟨_, rfl, tq_is _ _ _ _ rfl, Kept.refl _ _, fun _ _ _ _ _ => trivial⟩
            | 4, ho, hsk =>
              obtain rfl := Option.some.inj ho
              have e0 : a'.eval (.tmp 77) = .bool false := is_tq (hin 3 77 (by kernel_rfl) (by kernel_rfl)) rfl
              exact wp_move (.tmp 77) rfl _ e0 ⟨_, rfl, tq_is _ _ _ _ rfl, Kept.refl _ _, fun _ _ _ _ _ => trivial⟩
            | 5, ho, hsk =>
              obtain rfl := Option.some.inj ho
              exact wp_loadA row39 (.tmp 16) rfl bx 0 ((hout 16 (by kernel_rfl)).trans rfl) (fc) (unhide HLF) (hbx.kept hk2 (by simp)).range ⟨_, rfl, tq_is _ _ _ _ rfl, Kept.refl _ _, fun _ _ _ _ _ => trivial⟩
            | 6, ho, hsk =>
              obtain rfl := Option.some.inj ho
              exact o_load78 (.tmp 12) rfl ⟨bw, 0, none⟩ _ ((hout 12 (by kernel_rfl)).trans rfl) (fits_cell (hS.hw.kept hk2 (by simp)) 0 _ rfl) ⟨_, rfl, tq_is _ _ _ _ rfl, Kept.refl _ _, fun _ _ _ _ _ => trivial⟩
            | 7, ho, hsk =>
              obtain rfl := Option.some.inj ho
              exact o_load3 (.tmp 15) rfl ⟨bn1, 0, none⟩ _ ((hout 15 (by kernel_rfl)).trans rfl) (fits_cell (hn.kept hk2 (by simp)) 0 _ rfl) ⟨_, rfl, tq_is _ _ _ _ rfl, Kept.refl _ _, fun _ _ _ _ _ => trivial⟩
            | 8, ho, hsk =>
              obtain rfl := Option.some.inj ho
              have e0 : a'.eval (.tmp 80) = .slice (some ⟨gg, off, none⟩) N cap := is_tq (hin 6 80 (by kernel_rfl) (by kernel_rfl)) rfl
              have e1 : a'.eval (.tmp 81) = .int .i64 (k : Int) := is_tq (hin 7 81 (by kernel_rfl) (by kernel_rfl)) rfl
              exact o_idx78 (.tmp 80) (.tmp 81) rfl gg off N cap k hlt e0 e1 ⟨_, rfl, tq_is _ _ _ _ rfl, Kept.refl _ _, fun _ _ _ _ _ => trivial⟩
            | 9, ho, hsk =>
              obtain rfl := Option.some.inj ho
              have e0 : a'.eval (.tmp 82) = .pointer (some ⟨gg, off + k * 102, none⟩) := is_tq (hin 8 82 (by kernel_rfl) (by kernel_rfl)) rfl
              exact wp_loadA row39 (.tmp 82) rfl gg (off + k * 102) e0 (fc) (unhide HLF) (fun j u hj => hk2.cell (unhide HRG j u hj) (by simp)) ⟨_, rfl, tq_is _ _ _ _ rfl, Kept.refl _ _, fun _ _ _ _ _ => trivial⟩
            | 10, ho, hsk =>
              obtain rfl := Option.some.inj ho
              have e0 : a'.eval (.tmp 79) = aggV fc := is_tq (hin 5 79 (by kernel_rfl) (by kernel_rfl)) rfl
              have e1 : a'.eval (.tmp 83) = aggV fc := is_tq (hin 9 83 (by kernel_rfl) (by kernel_rfl)) rfl
              exact o_neqA 39 39 guard39 (.tmp 79) (.tmp 83) rfl fc fc e0 e1 true (unhide HEQ _) ⟨_, rfl, tq_is _ _ _ _ rfl, Kept.refl _ _, fun _ _ _ _ _ => trivial⟩
            | 11, ho, hsk =>
              obtain rfl := Option.some.inj ho
              have e0 : a'.eval (.tmp 78) = .bool false := is_tq (hin 4 78 (by kernel_rfl) (by kernel_rfl)) rfl
              have e1 : a'.eval (.tmp 84) = .bool false := is_tq (hin 10 84 (by kernel_rfl) (by kernel_rfl)) rfl
              exact o_pickOr0 (.tmp 78) (.tmp 84) rfl _ e0 e1 ⟨_, rfl, tq_is _ _ _ _ rfl, Kept.refl _ _, fun _ _ _ _ _ => trivial⟩
          intro w9 hk9
          replace hk9 : Kept [] W w9 := ⟨hk9.os, hk9.tape, hk9.output, hk9.size, hk9.block⟩
          simp only [valsQ, List.map_cons, List.map_nil, Option.getD_some, List.take_succ_cons, List.take_zero, putAll, Act.put, List.setIfInBounds_toArray, List.set_cons_succ, List.set_cons_zero]
          refine wpAny_done (by kernel_rfl) ?_ _
          have hS3 := hide (hS.step0 hk9)
          have HN3 := hide (hn.kept hk9 (by simp))
          have HK3 := hide hk9
          have c15 := fits_cell (unhide HN3) 0 _ rfl
          clear hS hn hk9 HRG hbx
          gi_wp2_with (
            first
            | (refine inStore1 (.int .i64 (k : Int)) (.int .i64 ((k : Int) + 1)) (st1 size3 ⟨rfl, rfl⟩) (fun _ => trivial) (by rfl) (.tmp 15) (.tmp 87) (by rfl) (by rfl) (by rfl) bn1 (by rfl) (by rfl) (unhide HN3) ?_
               intro W9 B9 e9
               have HK9 : Hid (Kept [bn1] w9 W9) := by rw [e9]; exact (Kept.refl _ _).setCell (p := ⟨bn1, 0, none⟩) (by simp) _
               have HN9 := hide B9
               have hS9 := hide ((unhide hS3).keep (unhide HK9) (by intro i hi; simp at hi; omega))
               clear c15 e9 B9
               have c15 := fits_cell (unhide HN9) 0 _ rfl
               have c14 := fits_cell (unhide hS9).ht 0 _ rfl
               have c5 := fits_cell (unhide hS9).l5 0 _ rfl)
            | fail)
          exact ⟨((unhide HK3).mono (by simp)).trans (unhide HK9), unhide HN9⟩
        case exit1 =>
          intro a W h
          exact wpIn_exit h
        case done1 =>
          intro n3 We hS hn3 hle hor hD hsz
          have HSZ := hide hsz
          have h1 := unhide HBbn1
          have h2 := (unhide HN1).lt
          have HA3 := hide (hS.mark (D := W12.heap.size) (by omega) hD)
          obtain rfl : N = n3 := by rw [← unhide HNN]; rcases hor with h | h; exact h.symm; exact absurd h.1 (by decide)
          have HN3 := hide hn3
          have e1 : ((N : Int) != (N : Int)) = false := by simp
          have e2 : decide ((N : Int) = (N : Int)) = true := by simp
          have e3 : ((N : Int) == (N : Int)) = true := by simp
          clear hS hn3 hle hor hD hsz h1 h2
          have c14 := fits_cell (unhide HA3).ht 0 _ rfl
          have c5 := fits_cell (unhide HA3).l5 0 _ rfl
          have c12 := fits_cell (unhide HA3).hw 0 _ rfl
          have c15 := fits_cell (unhide HN3) 0 _ rfl
          gi_wp2_with (
            first
            | (refine inVar (.int .i64 0) (.int .i64 1) zero3w (st1 size3 ⟨rfl, rfl⟩) 14 (by rfl) wideF (by rfl) (by rfl) (by rfl) (.tmp 118) (by rfl) (by rfl) (fun _ => by rfl) (by rfl) (by rfl) (by rfl) ?_
               intro W13 bt2 et B10 K10
               have HT1 := hide B10
               have HGT : Hid (W12.heap.size + 1 ≤ bt2) := by have := unhide HSZ; show _ ≤ _; omega
               have HObt2 : Hid (W12.heap.size + 1 ≤ bt2) := HGT
               replace HA3 := hide ((unhide HA3).step0 K10)
               clear et K10 c14
               have c14 := fits_cell B10 0 _ rfl
               clear B10
               refine Stp.go ?_))
          constructor
          gi_wp2_with (
            first
            | (refine inStore1 (.int .i64 1) (.int .i64 2) (st1 size3 ⟨rfl, rfl⟩) wideF (by rfl) (.tmp 14) (.tmp 71) (by rfl) (by rfl) (by rfl) bt2 (by rfl) (by rfl) (unhide HT1) ?_
               refine Stp.go ?_))
          constructor
          intro W14 B11 e11
          have HKB : Hid (Kept [bt2] W13 W14) := by rw [e11]; exact (Kept.refl _ _).setCell (p := ⟨bt2, 0, none⟩) (by simp) _
          have HA4 : Hid (Sv w0 w W14 (bt2 + 1) b mb c b5 b6 bw bt2 P leave (.slice ao N cap) 2 [W12.heap.size, W8.heap.size]) := ((unhide HA3).keep (unhide HKB) (by intro i hi; simp at hi; subst hi; exact unhide HGT)).next (by have := unhide HGT; omega) (by omega) B11
          clear HA3 HT1 HGT HKB e11 B11 c14 c15 c5 c12
          gi_wp2_with fail
          rw [roundsIn_succ]
          have c14 := fits_cell (unhide HA4).ht 0 _ rfl
          gi_wp2
          refine (wpIn_wide (n := 3)).1 ?_
          gi_wp2_with (
            first
            | (refine inStore1 (.bool false) (.bool true) (st1 size4 ⟨rfl, rfl⟩) wideF (by rfl) (.tmp 6) (.const (.bool true)) (by rfl) (by rfl) (by rfl) b6 (by rfl) (by rfl) (unhide HA4).o6 ?_
               intro W15 B15 e15
               have HB15 := hide B15
               have HE15 := hide e15
               clear B15 e15)
            | fail)
          have hA := unhide HA4
          have hk15 : Kept [b6] W14 W15 := by rw [unhide HE15]; exact (Kept.refl _ _).setCell (p := ⟨b6, 0, none⟩) (by simp) _
          have hD1 := hA.d W8.heap.size (by simp)
          have hD2 := hA.d W12.heap.size (by simp)
          have hneq : W8.heap.size ≠ W12.heap.size := by have := unhide HObt1; have := unhide HBbn1; have := (unhide HN1).lt; omega
          have s1 : ∀ X : Nat, W14.heap[X]? = some (Obj.deferred (some [])) → W15.heap[X]? = some (Obj.deferred (some [])) := by
            intro X h
            refine hk15.heap h ?_
            simp
            intro e; subst e; rw [hA.o6] at h; cases h
          exact all_leaves rfl (unhide HB15) (hA.kp.fresh hk15 (fun i hi hl => by simp at hi; subst hi; have := hA.ge.2; omega)) (s1 _ hD2.2.2) (s1 _ hD1.2.2) hneq hD2.2.1 hD1.2.1
      · have hlv : (n2 : Int) = leave := by rcases hor with h | h; exact absurd h h9; exact h.2
        have HLV := hide hlv
        have e1 : ((n2 : Int) != (N : Int)) = true := by simp; omega
        have e2 : decide ((n2 : Int) = (N : Int)) = false := by simp; omega
        have e3 : ((n2 : Int) == (N : Int)) = false := by simp; omega
        have e4 : ((n2 : Int) != leave) = false := by simp [hlv]
        have e5 : decide ((n2 : Int) = leave) = true := by simp [hlv]
        have e6 : ((n2 : Int) == leave) = true := by simp [hlv]
        clear hle hor h9 hlv
        have c14 := fits_cell (unhide HA1).ht 0 _ rfl
        have c5 := fits_cell (unhide HA1).l5 0 _ rfl
        have c12 := fits_cell (unhide HA1).hw 0 _ rfl
        have c15 := fits_cell (unhide HN2) 0 _ rfl
        gi_wp2_with (
          first
          | (refine inVar (.int .i64 0) (.int .i64 0) zero3w (st1 size3 ⟨rfl, rfl⟩) 14 (by rfl) wideF (by rfl) (by rfl) (by rfl) (.tmp 118) (by rfl) (by rfl) (fun _ => by rfl) (by rfl) (by rfl) (by rfl) ?_
             intro W10 bt1 et B10 K10
             have HT1 := hide B10
             have HGT : Hid (W8.heap.size + 1 ≤ bt1) := by have := unhide HSZ; show _ ≤ _; omega
             have HObt1 : Hid (W8.heap.size + 1 ≤ bt1) := HGT
             replace HA1 := hide ((unhide HA1).step0 K10)
             clear et K10 c14
             have c14 := fits_cell B10 0 _ rfl
             clear B10
             refine Stp.go ?_))
        constructor
        gi_wp2_with (
          first
          | (refine inStore1 (.int .i64 0) (.int .i64 1) (st1 size3 ⟨rfl, rfl⟩) wideF (by rfl) (.tmp 14) (.tmp 71) (by rfl) (by rfl) (by rfl) bt1 (by rfl) (by rfl) (unhide HT1) ?_
             refine Stp.go ?_))
        constructor
        intro W11 B11 e11
        have HKB : Hid (Kept [bt1] W10 W11) := by rw [e11]; exact (Kept.refl _ _).setCell (p := ⟨bt1, 0, none⟩) (by simp) _
        have HA2 : Hid (Sv w0 w W11 (bt1 + 1) b mb c b5 b6 bw bt1 P leave (.slice ao N cap) 1 [W8.heap.size]) := ((unhide HA1).keep (unhide HKB) (by intro i hi; simp at hi; subst hi; exact unhide HGT)).next (by have := unhide HGT; omega) (by omega) B11
        clear HA1 HT1 HGT HKB e11 B11 c14 c15 c5 c12
        gi_wp2_with fail
        rw [roundsIn_succ]
        have c14 := fits_cell (unhide HA2).ht 0 _ rfl
        gi_wp2_with (
          first
          | (refine inVar (.int .i64 0) (.int .i64 0) zero3w (st1 size3 ⟨rfl, rfl⟩) 15 (by rfl) wideF (by rfl) (by rfl) (by rfl) (.const (.int .i64 0)) (by rfl) (by rfl) (fun _ => by rfl) (by rfl) (by rfl) (by rfl) ?_
             intro W12 bn1 en B12 K12
             have HN1 := hide B12
             have HBbn1 : Hid (bt1 + 1 ≤ bn1) := by have := (unhide HA2).ht.lt; show _ ≤ _; omega
             replace HA2 := hide ((unhide HA2).step0 K12)
             clear en B12 K12 c14))
        refine range_turn 4 bn1 rfl rfl (unhide HA2) (unhide HN1) (unhide HBbn1) ?assign2 ?body2 ?done2 ?exit2
        case assign2 =>
          intro l x Wa K hxl hx1 hK
          have HXL := hide hxl
          have HX1 := hide hx1
          obtain ⟨zc, hzc⟩ : ∃ c, c = fr0.C := ⟨_, rfl⟩
          have HLZ : Hid (zc.length = 102) := by show _ = _; rw [hzc, Fr.len]
          have HZ39 : Hid (∀ w : World, (Instr.alloc 39 true (.tuple #[])).run Try.prog w = .ok (P0 w.heap.size) (w.alloc (.cells zc.toArray 39))) := by rw [hzc]; exact zero39
          clear hxl hx1 hzc
          simp only [List.setIfInBounds_toArray, List.set_cons_succ, List.set_cons_zero]
          gi_wp2_with (
            first
            | (refine inNew row39 zc (unhide HLZ) (unhide HZ39) 16 (by rfl) (fun _ => trivial) (by rfl) (by rfl) (by rfl) (.tmp 73) (by rfl) (by rfl) (fun _ => by rfl) (by rfl) x (unhide HXL) (unhide HX1) (by rfl) (by rfl) ?_
               intro W9 bx ex BX KX
               have HBX := hide BX
               have HKX := hide KX
               have HEX : Hid (Wa.heap.size ≤ bx) := by show _ ≤ _; omega
               clear ex BX KX)
            | fail)
          refine hK _ _ bx (unhide HKX) (unhide HBX) (unhide HEX) ?_
          simp only [ax, List.setIfInBounds_toArray, List.set_cons_succ, List.set_cons_zero]
        case body2 =>
          intro l k f bx W hf hS hn hgo hbx
          simp only [ax, List.setIfInBounds_toArray, List.set_cons_succ, List.set_cons_zero]
          have hlt : k < N := by rw [← unhide HNN]; exact (List.getElem?_eq_some_iff.1 hf).1
          have hk16 : (k : Int) < 16 := by have := unhide HN16; omega
          have HHB := unhide HBbn1
          obtain ⟨gg, off, cap2, hwv, hrg⟩ := hS.row.get hf
          obtain rfl : ao = some ⟨gg, off, none⟩ := by injection hwv
          have HRG := hide hrg
          obtain ⟨fc, hfc⟩ : ∃ c, c = f.C := ⟨_, rfl⟩
          have HLF : Hid (fc.length = 102) := by show _ = _; rw [hfc, Fr.len]
          have HEQ : Hid (∀ W, (Op.equal 39 (aggV fc) (aggV fc)).run Try.prog W = .ok true W) := fun W => by rw [hfc]; have h9 := equal39 W f f; rw [decide_eq_true rfl] at h9; exact h9
          rw [← hfc] at hbx HRG ⊢
          clear hf hwv hrg hfc hgo
          gi_wp2
          refine wpIn_region_any (by kernel_rfl) (anyIn_of_any (by rintro ⟨a, w, h⟩; rcases h with ⟨_, _, ⟨h, _⟩ | ⟨h, _⟩⟩ <;> cases h) (noDeferA (by kernel_rfl)) _ _ _ _ (wpAny_tq 12 rfl (by kernel_rfl) [some (.int .i64 (k : Int)), some (.slice (some ⟨gg, off, none⟩) N cap), some (.int .i64 N), some (.bool false), some (.bool false), some (aggV fc), some (.slice (some ⟨gg, off, none⟩) N cap), some (.int .i64 (k : Int)), some (.pointer (some ⟨gg, off + k * 102, none⟩)), some (aggV fc), some (.bool false), some (.bool false)] rfl (by kernel_rfl) (by kernel_rfl) ?_ ?_))
          · intro i o' hi hsk ho a' w2 hout hin hk2
            replace hk2 : Kept [] W w2 := ⟨hk2.os, hk2.tape, hk2.output, hk2.size, hk2.block⟩
            match i, ho, hsk with
            | 0, ho, hsk =>
              obtain rfl := Option.some.inj ho
              exact o_load3 (.tmp 15) rfl ⟨bn1, 0, none⟩ _ ((hout 15 (by kernel_rfl)).trans rfl) (fits_cell (hn.kept hk2 (by simp)) 0 _ rfl) ⟨_, rfl, tq_is _ _ _ _ rfl, Kept.refl _ _, fun _ _ _ _ _ => trivial⟩
            | 1, ho, hsk =>
              obtain rfl := Option.some.inj ho
              exact o_load78 (.tmp 12) rfl ⟨bw, 0, none⟩ _ ((hout 12 (by kernel_rfl)).trans rfl) (fits_cell (hS.hw.kept hk2 (by simp)) 0 _ rfl) ⟨_, rfl, tq_is _ _ _ _ rfl, Kept.refl _ _, fun _ _ _ _ _ => trivial⟩
            | 2, ho, hsk =>
              obtain rfl := Option.some.inj ho
              have e0 : a'.eval (.tmp 75) = .slice (some ⟨gg, off, none⟩) N cap := is_tq (hin 1 75 (by kernel_rfl) (by kernel_rfl)) rfl
              exact o_len78 (.tmp 75) rfl _ _ _ e0 ⟨_, rfl, tq_is _ _ _ _ rfl, Kept.refl _ _, fun _ _ _ _ _ => trivial⟩
            | 3, ho, hsk =>
              obtain rfl := Option.some.inj ho
              have e0 : a'.eval (.tmp 74) = .int .i64 (k : Int) := is_tq (hin 0 74 (by kernel_rfl) (by kernel_rfl)) rfl
              have e1 : a'.eval (.tmp 76) = .int .i64 N := is_tq (hin 2 76 (by kernel_rfl) (by kernel_rfl)) rfl
              exact c_geq3 (.tmp 74) (.tmp 76) rfl _ _ false (decide_eq_false (by omega)) e0 e1 ⟨_, rfl, tq_is _ _ _ _ rfl, Kept.refl _ _, fun _ _ _ _ _ => trivial⟩
            | 4, ho, hsk =>
              obtain rfl := Option.some.inj ho
              have e0 : a'.eval (.tmp 77) = .bool false := is_tq (hin 3 77 (by kernel_rfl) (by kernel_rfl)) rfl
              exact wp_move (.tmp 77) rfl _ e0 ⟨_, rfl, tq_is _ _ _ _ rfl, Kept.refl _ _, fun _ _ _ _ _ => trivial⟩
            | 5, ho, hsk =>
              obtain rfl := Option.some.inj ho
              exact wp_loadA row39 (.tmp 16) rfl bx 0 ((hout 16 (by kernel_rfl)).trans rfl) (fc) (unhide HLF) (hbx.kept hk2 (by simp)).range ⟨_, rfl, tq_is _ _ _ _ rfl, Kept.refl _ _, fun _ _ _ _ _ => trivial⟩
            | 6, ho, hsk =>
              obtain rfl := Option.some.inj ho
              exact o_load78 (.tmp 12) rfl ⟨bw, 0, none⟩ _ ((hout 12 (by kernel_rfl)).trans rfl) (fits_cell (hS.hw.kept hk2 (by simp)) 0 _ rfl) ⟨_, rfl, tq_is _ _ _ _ rfl, Kept.refl _ _, fun _ _ _ _ _ => trivial⟩
            | 7, ho, hsk =>
              obtain rfl := Option.some.inj ho
              exact o_load3 (.tmp 15) rfl ⟨bn1, 0, none⟩ _ ((hout 15 (by kernel_rfl)).trans rfl) (fits_cell (hn.kept hk2 (by simp)) 0 _ rfl) ⟨_, rfl, tq_is _ _ _ _ rfl, Kept.refl _ _, fun _ _ _ _ _ => trivial⟩
            | 8, ho, hsk =>
              obtain rfl := Option.some.inj ho
              have e0 : a'.eval (.tmp 80) = .slice (some ⟨gg, off, none⟩) N cap := is_tq (hin 6 80 (by kernel_rfl) (by kernel_rfl)) rfl
              have e1 : a'.eval (.tmp 81) = .int .i64 (k : Int) := is_tq (hin 7 81 (by kernel_rfl) (by kernel_rfl)) rfl
              exact o_idx78 (.tmp 80) (.tmp 81) rfl gg off N cap k hlt e0 e1 ⟨_, rfl, tq_is _ _ _ _ rfl, Kept.refl _ _, fun _ _ _ _ _ => trivial⟩
            | 9, ho, hsk =>
              obtain rfl := Option.some.inj ho
              have e0 : a'.eval (.tmp 82) = .pointer (some ⟨gg, off + k * 102, none⟩) := is_tq (hin 8 82 (by kernel_rfl) (by kernel_rfl)) rfl
              exact wp_loadA row39 (.tmp 82) rfl gg (off + k * 102) e0 (fc) (unhide HLF) (fun j u hj => hk2.cell (unhide HRG j u hj) (by simp)) ⟨_, rfl, tq_is _ _ _ _ rfl, Kept.refl _ _, fun _ _ _ _ _ => trivial⟩
            | 10, ho, hsk =>
              obtain rfl := Option.some.inj ho
              have e0 : a'.eval (.tmp 79) = aggV fc := is_tq (hin 5 79 (by kernel_rfl) (by kernel_rfl)) rfl
              have e1 : a'.eval (.tmp 83) = aggV fc := is_tq (hin 9 83 (by kernel_rfl) (by kernel_rfl)) rfl
              exact o_neqA 39 39 guard39 (.tmp 79) (.tmp 83) rfl fc fc e0 e1 true (unhide HEQ _) ⟨_, rfl, tq_is _ _ _ _ rfl, Kept.refl _ _, fun _ _ _ _ _ => trivial⟩
            | 11, ho, hsk =>
              obtain rfl := Option.some.inj ho
              have e0 : a'.eval (.tmp 78) = .bool false := is_tq (hin 4 78 (by kernel_rfl) (by kernel_rfl)) rfl
              have e1 : a'.eval (.tmp 84) = .bool false := is_tq (hin 10 84 (by kernel_rfl) (by kernel_rfl)) rfl
              exact o_pickOr0 (.tmp 78) (.tmp 84) rfl _ e0 e1 ⟨_, rfl, tq_is _ _ _ _ rfl, Kept.refl _ _, fun _ _ _ _ _ => trivial⟩
          intro w9 hk9
          replace hk9 : Kept [] W w9 := ⟨hk9.os, hk9.tape, hk9.output, hk9.size, hk9.block⟩
          simp only [valsQ, List.map_cons, List.map_nil, Option.getD_some, List.take_succ_cons, List.take_zero, putAll, Act.put, List.setIfInBounds_toArray, List.set_cons_succ, List.set_cons_zero]
          refine wpAny_done (by kernel_rfl) ?_ _
          have hS3 := hide (hS.step0 hk9)
          have HN3 := hide (hn.kept hk9 (by simp))
          have HK3 := hide hk9
          have c15 := fits_cell (unhide HN3) 0 _ rfl
          clear hS hn hk9 HRG hbx
          gi_wp2_with (
            first
            | (refine inStore1 (.int .i64 (k : Int)) (.int .i64 ((k : Int) + 1)) (st1 size3 ⟨rfl, rfl⟩) (fun _ => trivial) (by rfl) (.tmp 15) (.tmp 87) (by rfl) (by rfl) (by rfl) bn1 (by rfl) (by rfl) (unhide HN3) ?_
               intro W9 B9 e9
               have HK9 : Hid (Kept [bn1] w9 W9) := by rw [e9]; exact (Kept.refl _ _).setCell (p := ⟨bn1, 0, none⟩) (by simp) _
               have HN9 := hide B9
               have hS9 := hide ((unhide hS3).keep (unhide HK9) (by intro i hi; simp at hi; omega))
               clear c15 e9 B9
               have c15 := fits_cell (unhide HN9) 0 _ rfl
               have c14 := fits_cell (unhide hS9).ht 0 _ rfl
               have c5 := fits_cell (unhide hS9).l5 0 _ rfl)
            | fail)
          exact ⟨((unhide HK3).mono (by simp)).trans (unhide HK9), unhide HN9⟩
        case exit2 =>
          intro a W h
          exact wpIn_exit h
        case done2 =>
          intro n3 We hS hn3 hle hor hD hsz
          have HSZ := hide hsz
          have h1 := unhide HBbn1
          have h2 := (unhide HN1).lt
          have HA3 := hide (hS.mark (D := W12.heap.size) (by omega) hD)
          obtain rfl : N = n3 := by rw [← unhide HNN]; rcases hor with h | h; exact h.symm; exact absurd h.1 (by decide)
          have HN3 := hide hn3
          have e1 : ((N : Int) != (N : Int)) = false := by simp
          have e2 : decide ((N : Int) = (N : Int)) = true := by simp
          have e3 : ((N : Int) == (N : Int)) = true := by simp
          clear hS hn3 hle hor hD hsz h1 h2
          have c14 := fits_cell (unhide HA3).ht 0 _ rfl
          have c5 := fits_cell (unhide HA3).l5 0 _ rfl
          have c12 := fits_cell (unhide HA3).hw 0 _ rfl
          have c15 := fits_cell (unhide HN3) 0 _ rfl
          gi_wp2_with (
            first
            | (refine inVar (.int .i64 0) (.int .i64 1) zero3w (st1 size3 ⟨rfl, rfl⟩) 14 (by rfl) wideF (by rfl) (by rfl) (by rfl) (.tmp 118) (by rfl) (by rfl) (fun _ => by rfl) (by rfl) (by rfl) (by rfl) ?_
               intro W13 bt2 et B10 K10
               have HT1 := hide B10
               have HGT : Hid (W12.heap.size + 1 ≤ bt2) := by have := unhide HSZ; show _ ≤ _; omega
               have HObt2 : Hid (W12.heap.size + 1 ≤ bt2) := HGT
               replace HA3 := hide ((unhide HA3).step0 K10)
               clear et K10 c14
               have c14 := fits_cell B10 0 _ rfl
               clear B10
               refine Stp.go ?_))
          constructor
          gi_wp2_with (
            first
            | (refine inStore1 (.int .i64 1) (.int .i64 2) (st1 size3 ⟨rfl, rfl⟩) wideF (by rfl) (.tmp 14) (.tmp 71) (by rfl) (by rfl) (by rfl) bt2 (by rfl) (by rfl) (unhide HT1) ?_
               refine Stp.go ?_))
          constructor
          intro W14 B11 e11
          have HKB : Hid (Kept [bt2] W13 W14) := by rw [e11]; exact (Kept.refl _ _).setCell (p := ⟨bt2, 0, none⟩) (by simp) _
          have HA4 : Hid (Sv w0 w W14 (bt2 + 1) b mb c b5 b6 bw bt2 P leave (.slice ao N cap) 2 [W12.heap.size, W8.heap.size]) := ((unhide HA3).keep (unhide HKB) (by intro i hi; simp at hi; subst hi; exact unhide HGT)).next (by have := unhide HGT; omega) (by omega) B11
          clear HA3 HT1 HGT HKB e11 B11 c14 c15 c5 c12
          gi_wp2_with fail
          rw [roundsIn_succ]
          have c14 := fits_cell (unhide HA4).ht 0 _ rfl
          gi_wp2
          refine (wpIn_wide (n := 3)).1 ?_
          gi_wp2_with (
            first
            | (refine inStore1 (.bool false) (.bool true) (st1 size4 ⟨rfl, rfl⟩) wideF (by rfl) (.tmp 6) (.const (.bool true)) (by rfl) (by rfl) (by rfl) b6 (by rfl) (by rfl) (unhide HA4).o6 ?_
               intro W15 B15 e15
               have HB15 := hide B15
               have HE15 := hide e15
               clear B15 e15)
            | fail)
          have hA := unhide HA4
          have hk15 : Kept [b6] W14 W15 := by rw [unhide HE15]; exact (Kept.refl _ _).setCell (p := ⟨b6, 0, none⟩) (by simp) _
          have hD1 := hA.d W8.heap.size (by simp)
          have hD2 := hA.d W12.heap.size (by simp)
          have hneq : W8.heap.size ≠ W12.heap.size := by have := unhide HObt1; have := unhide HBbn1; have := (unhide HN1).lt; omega
          have s1 : ∀ X : Nat, W14.heap[X]? = some (Obj.deferred (some [])) → W15.heap[X]? = some (Obj.deferred (some [])) := by
            intro X h
            refine hk15.heap h ?_
            simp
            intro e; subst e; rw [hA.o6] at h; cases h
          exact all_leaves rfl (unhide HB15) (hA.kp.fresh hk15 (fun i hi hl => by simp at hi; subst hi; have := hA.ge.2; omega)) (s1 _ hD2.2.2) (s1 _ hD1.2.2) hneq hD2.2.1 hD1.2.1
theorem stands12 {w0 : World} (b mb r g : Nat) (P : Po) (leave : Int) (w : World) (h : Tw w0 w b mb r g P) : Calls Try.prog 12 #[P0 b, P0 r, .int .i64 leave] w fun e w' => e = .returned (.bool true) ∧ Kept [] w w' :=
  callsIn_wide.1 (stands_in b mb r g P leave w h)

end Go.Proofs.Ytgnafbohikbpfaa
