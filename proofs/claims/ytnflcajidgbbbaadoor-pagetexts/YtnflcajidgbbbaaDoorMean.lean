/-
  The iterator of meant: the bytes that a text means.
-/
import Derived.Test.YtnflcajidgbbbaaDoorRound
namespace Go.Proofs.YtnflcajidgbbbaaDoor
open Go.RowKit Go.Shelf
attribute [local go_sem] Oper.semAt_some

/-- Two digits as a byte. -/
def pairB (d e : Int) : Int := bits .or .u8 (IntKind.u8.wrap (digN d * 16)) (digN e)
/-- The bytes that a text means. -/
def meantL : List Int → List Int
  | [] => []
  | [c] => if c = 37 then [] else [c]
  | [c, d] => if c = 37 then [] else c :: meantL [d]
  | c :: d :: e :: t => if c = 37 then pairB d e :: meantL t else c :: meantL (d :: e :: t)

theorem meant_plain {c : Int} {r : List Int} (h : c ≠ 37) : meantL (c :: r) = c :: meantL r := by
  match r with
  | [] => simp [meantL, h]
  | [d] => simp [meantL, h]
  | d :: e :: t => simp [meantL, h]
theorem meant_short {r : List Int} (h : r.length < 2) : meantL (37 :: r) = [] := by
  match r, h with
  | [], _ => simp [meantL]
  | [d], _ => simp [meantL]
theorem meant_pair (d e : Int) (t : List Int) : meantL (37 :: d :: e :: t) = pairB d e :: meantL t := by simp [meantL]

theorem str_get {L : List Int} (hL : ∀ x ∈ L, 0 ≤ x ∧ x < 256) {i : Nat} (hi : i < L.length) : ((L.map fun x => UInt8.ofNat x.toNat)[i]'(by simpa using hi)).toNat = L[i].toNat := by
  have := hL L[i] (List.getElem_mem hi)
  simp
  omega

/-- One operation: a byte of a string. -/
theorem run_index {L : List Int} (hL : ∀ x ∈ L, 0 ≤ x ∧ x < 256) {i : Nat} (hi : i < L.length) (o : Oper) (a : Act) (x y : Operand) (ho : o.op = .index 9 x y) (hx : a.eval x = strV L) (hy : a.eval y = .int .i64 i) (w : World) :
    (execOp a.eval o).run Tryd.prog w = .ok (.value (.int .u8 L[i])) w := by
  have h1 := str_get hL hi
  have h2 := hL L[i] (List.getElem_mem hi)
  unfold execOp
  simp only [ho, hx, hy, strV]
  simp [go_sem]
  rw [dif_pos hi]
  have e : ((((⟨(L.map fun x => UInt8.ofNat x.toNat).toArray⟩ : ByteArray)[i]'(by show i < ((L.map fun x => UInt8.ofNat x.toNat).toArray).size; simpa using hi)).toNat : Nat) : Int) = L[i] := by
    show ((((L.map fun x => UInt8.ofNat x.toNat).toArray)[i]'(by simpa using hi)).toNat : Int) = _
    rw [List.getElem_toArray, h1]
    omega
  rw [e]
  rfl
theorem inIndex {F : Fence} {n : Nat} {ops : Array Oper} {rest : List Oper} {o : Oper} {a : Act} {w : World} {Q : Exit → Act → World → Prop} {L : List Int} (hL : ∀ x ∈ L, 0 ≤ x ∧ x < 256) {i : Nat} (hi : i < L.length) (hF : ∀ f, F.fn f) (hw : Region.wanted o (yielded ops a.tmps) = true) (x y : Operand) (ho : o.op = .index 9 x y) (hsem : o.semAt F.round a.eval = execOp a.eval o) (hx : a.eval x = strV L) (hy : a.eval y = .int .i64 i)
    (v : Int) (hv : L[i] = v) (h : wpListIn F n Tryd.prog ops Q rest (a.put o.dst (.int .u8 v)) w) : wpListIn F n Tryd.prog ops Q (o :: rest) a w := by
  subst hv
  exact wpListIn_want hw (wpIn_value hF hsem (run_index hL hi o a x y ho hx hy w) h)
theorem wp_index {o : Oper} {a : Act} {w : World} {K : Act → World → Prop} {Q : Exit → Act → World → Prop} {L : List Int} (hL : ∀ x ∈ L, 0 ≤ x ∧ x < 256) {i : Nat} (hi : i < L.length) (x y : Operand) (ho : o.op = .index 9 x y) (hx : a.eval x = strV L) (hy : a.eval y = .int .i64 i)
    (v : Int) (hv : L[i] = v) (h : K (a.put o.dst (.int .u8 v)) w) : o.wp Tryd.prog a w K Q := by
  subst hv
  unfold Oper.wp
  rw [run_index hL hi o a x y ho hx hy w]
  exact h

section
variable {o : Oper} {a : Act} {w : World} {K : Act → World → Prop} {Q : Exit → Act → World → Prop}
theorem wp_load9 (x : Operand) (ho : o.op = .load 9 x) (b : Nat) (v : Value) (hx : a.eval x = P0 b) (hc : w.cell? ⟨b, 0, none⟩ = some v) (h : K (a.put o.dst v) w) : o.wp Tryd.prog a w K Q := by
  unfold Oper.wp execOp
  simp only [ho, hx]
  simp [go_sem, hc]
  exact h
theorem wp_addN (x : Operand) (k : Nat) (ho : o.op = .binOp .add 3 x (.const (.int .i64 k)) 3) (i : Nat) (hi : i + k ≤ 1000000) (hx : a.eval x = .int .i64 i) (h : K (a.put o.dst (.int .i64 (i + k : Nat))) w) : o.wp Tryd.prog a w K Q := by
  have hw : IntKind.i64.wrap ((i : Int) + k) = (i : Int) + k := by rw [IntKind.wrap_i64]; omega
  unfold Oper.wp execOp
  simp only [ho, hx]
  simp [go_sem, hw]
  rw [Int.natCast_add] at h
  exact h
theorem wp_shl4 (x : Operand) (ho : o.op = .binOp .shl 5 x (.const (.int .u64 4)) 69) (c : Int) (hx : a.eval x = .int .u8 c) (h : K (a.put o.dst (.int .u8 (IntKind.u8.wrap (c * 16)))) w) : o.wp Tryd.prog a w K Q := by
  unfold Oper.wp execOp
  simp only [ho, hx]
  simp [go_sem]
  rw [IntKind.wrap_u8] at h
  exact h
theorem wp_or8 (x y : Operand) (ho : o.op = .binOp .or 5 x y 5) (c d : Int) (hx : a.eval x = .int .u8 c) (hy : a.eval y = .int .u8 d) (h : K (a.put o.dst (.int .u8 (bits .or .u8 c d))) w) : o.wp Tryd.prog a w K Q := by
  unfold Oper.wp execOp
  simp only [ho, hx, hy]
  simp [go_sem]
  exact h
end
theorem cf44 (vs : Array Value) (w : World) : (callFunc 44 vs).run Tryd.prog w = .ok (.enter 44 vs) w := by kernel_rfl
theorem run_lenS (L : List Int) (w : World) : (Builtin.len_ #[9] 3 #[strV L]).run Tryd.prog w = .ok (.int .i64 L.length) w := by
  simp [strV, go_sem]

/-- What is known where the iterator stands at place i. -/
theorem drop_at {L : List Int} {i : Nat} (hi : i < L.length) : L.drop i = L[i] :: L.drop (i + 1) := List.drop_eq_getElem_cons hi

def enc8 (x : Int) : Array Value := #[.int .u8 x]

set_option maxRecDepth 100000 in
set_option maxHeartbeats 4000000 in
theorem mean43_in (n : Nat) (hn : 1 ≤ n) (l q : Nat) (L : List Int) (hL : ∀ x ∈ L, 0 ≤ x ∧ x < 256) (hLl : L.length ≤ 9000) (J Jx : List Int → World → Prop) (W : World) (hq : W.heap[q]? = some (.cells #[strV L] 9 (0, 0)))
    (hJ : ∀ s A B, J s A → A.grownBy B none → J s B)
    (hY : ∀ pre (x : Int) W1, J pre W1 → pre.length < L.length → YieldAt Fence.wide (n - 1) Tryd.prog l (enc8 x) W1 fun e W' => (e = .returned (.bool true) ∧ J (pre ++ [x]) W' ∧ Kept9 W1 W') ∨ (e = .returned (.bool false) ∧ Jx (pre ++ [x]) W'))
    (h0 : J [] W) :
    CallsIn Fence.wide n Tryd.prog 43 #[.func (.yield l) #[] #[], P0 q] W fun e W' => (∃ v, e = .returned v) ∧
      ((∃ ys, ys = meantL L ∧ J ys W') ∨ (∃ pre, (pre <+: meantL L) ∧ Jx pre W')) := by
  have hFw := wideF
  refine callsIn_of_wp Tryd.func43 rfl trivial ?_ rfl
  simp only [Tryd.ntmps43, List.size_toArray, List.length_cons, List.length_nil, Nat.reduceAdd, Nat.reduceSub, Array.replicate_succ, Array.replicate_zero, List.push_toArray, List.append_toArray, List.nil_append, List.cons_append]
  gi_wp2
  gi_loopw [3] (fun v wr => ∃ i : Nat, i ≤ L.length ∧ v = .int .i64 i ∧ ∃ pre : List Int, Hid (pre ++ meantL (L.drop i) = meantL L) ∧ pre.length ≤ i ∧ J pre wr ∧ Hid (Kept9 W wr)) (fun v _ => L.length - (intOf v).toNat)
  case atStart => exact ⟨0, by omega, rfl, [], rfl, by simp, h0, Kept9.refl _⟩
  case round =>
    obtain ⟨i, hi, rfl, pre, hM, hpl, hJs, hKr⟩ := hrel
    have hqc : wr.cell? ⟨q, 0, none⟩ = some (strV L) := by rw [cell_of_block ((unhide hKr).block q _ _ hq)]; rfl
    have hlen := run_lenS L
    by_cases hlt : i < L.length
    · have hc := hL L[i] (List.getElem_mem hlt)
      have hd := hide (drop_at hlt)
      obtain ⟨c, ec⟩ : ∃ c, L[i] = c := ⟨_, rfl⟩
      have EC := hide ec
      rw [ec] at hc hd
      clear ec
      by_cases h37 : c = 37
      · subst h37
        by_cases h3 : L.length - i < 3
        · have hM2 : Hid (pre = meantL L) := by
            show _ = _
            rw [← unhide hM, unhide hd, meant_short (by rw [List.length_drop]; omega)]; simp
          gi_wp2_with (refine inIndex hL hlt wideF (by rfl) (.tmp 11) (.tmp 12) (by rfl) (by rfl) (by rfl) (by rfl) 37 (unhide EC) ?_)
          refine bodyPost_ret (results_none rfl _ _ _) rfl ?_
          exact ⟨⟨_, rfl⟩, .inl ⟨_, unhide hM2, hJs⟩⟩
        · have hi1 : i + 1 < L.length := by omega
          have hi2 : i + 2 < L.length := by omega
          have hd1 := hL L[i + 1] (List.getElem_mem hi1)
          have hd2 := hL L[i + 2] (List.getElem_mem hi2)
          obtain ⟨d, ed⟩ : ∃ d, L[i + 1] = d := ⟨_, rfl⟩
          obtain ⟨e, ee⟩ : ∃ e, L[i + 2] = e := ⟨_, rfl⟩
          rw [ed] at hd1
          rw [ee] at hd2
          have hM2 : Hid ((pre ++ [pairB d e]) ++ meantL (L.drop (i + 3)) = meantL L) := by
            show _ = _
            rw [← unhide hM, unhide hd, drop_at hi1, drop_at hi2, ed, ee, meant_pair]; simp
          have ED := hide ed
          have EE := hide ee
          clear ed ee
          gi_wp2_with (refine inIndex hL hlt wideF (by rfl) (.tmp 11) (.tmp 12) (by rfl) (by rfl) (by rfl) (by rfl) 37 (unhide EC) ?_)
          refine wpIn_wide.2 ?_
          refine wp_region_prefix mixed 13 0 rfl (by kernel_rfl) (tb [.is (strV L), .is (.int .i64 i), .is (.int .i64 (i + 1 : Nat)), .is (.int .u8 d), .is (.int .u8 (digN d)), .is (.int .u8 (IntKind.u8.wrap (digN d * 16))), .is (strV L), .is (.int .i64 i), .is (.int .i64 (i + 2 : Nat)), .is (.int .u8 e), .is (.int .u8 (digN e)), .is (.int .u8 (pairB d e)), .is (.int .u8 (pairB d e))]) (fun _ _ _ _ => True) (tb_kept _) (by kernel_rfl) ?_ ?_
          · intro j o hj ho a w2 hout hin hk
            have hqc2 : w2.cell? ⟨q, 0, none⟩ = some (strV L) := hk.cell hqc (by simp)
            match j, ho with
            | 0, ho =>
              obtain rfl := Option.some.inj ho
              exact wp_load9 _ rfl q _ ((hout 1 (by kernel_rfl)).trans rfl) hqc2 ⟨_, rfl, rfl, Kept.refl _ _, fun _ _ _ _ _ => trivial⟩
            | 1, ho =>
              obtain rfl := Option.some.inj ho
              exact wp_move _ rfl ⟨_, rfl, (hout 3 (by kernel_rfl)).trans rfl, Kept.refl _ _, fun _ _ _ _ _ => trivial⟩
            | 2, ho =>
              obtain rfl := Option.some.inj ho
              exact wp_addN _ 1 rfl i (by omega) (hin 1 22 (by kernel_rfl) (by kernel_rfl)) ⟨_, rfl, rfl, Kept.refl _ _, fun _ _ _ _ _ => trivial⟩
            | 3, ho =>
              obtain rfl := Option.some.inj ho
              exact wp_index hL hi1 _ _ rfl (hin 0 21 (by kernel_rfl) (by kernel_rfl)) (hin 2 23 (by kernel_rfl) (by kernel_rfl)) d (unhide ED) ⟨_, rfl, rfl, Kept.refl _ _, fun _ _ _ _ _ => trivial⟩
            | 4, ho =>
              obtain rfl := Option.some.inj ho
              have e0 : a.eval (.tmp 24) = .int .u8 d := hin 3 24 (by kernel_rfl) (by kernel_rfl)
              refine wp_callF 44 _ _ rfl #[.int .u8 d] (by simp [e0]) (cf44 _ _) ((digit44 d w2).mono ?_)
              rintro x w3 ⟨rfl, hw3⟩
              exact ⟨_, rfl, _, rfl, rfl, by rw [hw3]; exact Kept.refl _ _, fun _ _ _ _ _ => trivial⟩
            | 5, ho =>
              obtain rfl := Option.some.inj ho
              exact wp_shl4 _ rfl _ (hin 4 25 (by kernel_rfl) (by kernel_rfl)) ⟨_, rfl, rfl, Kept.refl _ _, fun _ _ _ _ _ => trivial⟩
            | 6, ho =>
              obtain rfl := Option.some.inj ho
              exact wp_load9 _ rfl q _ ((hout 1 (by kernel_rfl)).trans rfl) hqc2 ⟨_, rfl, rfl, Kept.refl _ _, fun _ _ _ _ _ => trivial⟩
            | 7, ho =>
              obtain rfl := Option.some.inj ho
              exact wp_move _ rfl ⟨_, rfl, (hout 3 (by kernel_rfl)).trans rfl, Kept.refl _ _, fun _ _ _ _ _ => trivial⟩
            | 8, ho =>
              obtain rfl := Option.some.inj ho
              exact wp_addN _ 2 rfl i (by omega) (hin 7 28 (by kernel_rfl) (by kernel_rfl)) ⟨_, rfl, rfl, Kept.refl _ _, fun _ _ _ _ _ => trivial⟩
            | 9, ho =>
              obtain rfl := Option.some.inj ho
              exact wp_index hL hi2 _ _ rfl (hin 6 27 (by kernel_rfl) (by kernel_rfl)) (hin 8 29 (by kernel_rfl) (by kernel_rfl)) e (unhide EE) ⟨_, rfl, rfl, Kept.refl _ _, fun _ _ _ _ _ => trivial⟩
            | 10, ho =>
              obtain rfl := Option.some.inj ho
              have e0 : a.eval (.tmp 30) = .int .u8 e := hin 9 30 (by kernel_rfl) (by kernel_rfl)
              refine wp_callF 44 _ _ rfl #[.int .u8 e] (by simp [e0]) (cf44 _ _) ((digit44 e w2).mono ?_)
              rintro x w3 ⟨rfl, hw3⟩
              exact ⟨_, rfl, _, rfl, rfl, by rw [hw3]; exact Kept.refl _ _, fun _ _ _ _ _ => trivial⟩
            | 11, ho =>
              obtain rfl := Option.some.inj ho
              exact wp_or8 _ _ rfl _ _ (hin 5 26 (by kernel_rfl) (by kernel_rfl)) (hin 10 31 (by kernel_rfl) (by kernel_rfl)) ⟨_, rfl, rfl, Kept.refl _ _, fun _ _ _ _ _ => trivial⟩
            | 12, ho =>
              obtain rfl := Option.some.inj ho
              exact wp_assign (.tmp 32) rfl 4 rfl _ (hin 11 32 (by kernel_rfl) (by kernel_rfl)) ⟨_, rfl, rfl, Kept.refl _ _, fun _ _ _ _ _ => trivial⟩
          · intro vs w3 hlen3 hF _ hk3
            match vs, hlen3 with
            | [x0, x1, x2, x3, x4, x5, x6, x7, x8, x9, x10, x11, x12], _ =>
              obtain rfl : x0 = _ := hF 0 _ rfl
              obtain rfl : x1 = _ := hF 1 _ rfl
              obtain rfl : x2 = _ := hF 2 _ rfl
              obtain rfl : x3 = _ := hF 3 _ rfl
              obtain rfl : x4 = _ := hF 4 _ rfl
              obtain rfl : x5 = _ := hF 5 _ rfl
              obtain rfl : x6 = _ := hF 6 _ rfl
              obtain rfl : x7 = _ := hF 7 _ rfl
              obtain rfl : x8 = _ := hF 8 _ rfl
              obtain rfl : x9 = _ := hF 9 _ rfl
              obtain rfl : x10 = _ := hF 10 _ rfl
              obtain rfl : x11 = _ := hF 11 _ rfl
              obtain rfl : x12 = _ := hF 12 _ rfl
              clear hF
              simp only [List.take_succ_cons, List.take_zero, putAll, Act.put, List.setIfInBounds_toArray, List.set_cons_succ, List.set_cons_zero]
              refine wpAny_done (by kernel_rfl) ?_ _
              have hJ2 := hJ _ _ _ hJs (grown_of_kept hk3)
              have hKr2 := hide ((unhide hKr).trans (Kept9.of_kept hk3 (by simp)))
              obtain ⟨fn, tmps, assign, body, hy, hR⟩ := hY _ (pairB d e) _ hJ2 (by omega)
              simp only [enc8] at hy
              gi_wp2
              refine hR.mono ?_
              rintro e' W3 (⟨rfl, hJ3, hkk⟩ | ⟨rfl, hJx3⟩)
              · gi_wp2
                go_roundw
                case rel => exact ⟨i + 3, by omega, by go_num, pre ++ [pairB d e], hM2, by simp; omega, hJ3, (unhide hKr2).trans hkk⟩
                case measure => simp [intOf]; omega
              · gi_wp2
                refine bodyPost_ret (results_none rfl _ _ _) rfl ?_
                exact ⟨⟨_, rfl⟩, .inr ⟨_, ⟨_, unhide hM2⟩, hJx3⟩⟩
      · have h37b : (c == 37) = false := by simpa using h37
        have hM2 : Hid ((pre ++ [c]) ++ meantL (L.drop (i + 1)) = meantL L) := by
          show _ = _
          rw [← unhide hM, unhide hd, meant_plain h37]; simp
        obtain ⟨fn, tmps, assign, body, hy, hR⟩ := hY _ c _ hJs (by omega)
        simp only [enc8] at hy
        gi_wp2_with (refine inIndex hL hlt wideF (by rfl) (.tmp 11) (.tmp 12) (by rfl) (by rfl) (by rfl) (by rfl) c (unhide EC) ?_)
        refine hR.mono ?_
        rintro e W3 (⟨rfl, hJ3, hk3⟩ | ⟨rfl, hJx3⟩)
        · gi_wp2
          go_roundw
          case rel => exact ⟨i + 1, by omega, by go_num, pre ++ [c], hM2, by simp; omega, hJ3, (unhide hKr).trans hk3⟩
          case measure => simp [intOf]; omega
        · gi_wp2
          refine bodyPost_ret (results_none rfl _ _ _) rfl ?_
          exact ⟨⟨_, rfl⟩, .inr ⟨_, ⟨_, unhide hM2⟩, hJx3⟩⟩
    · have hM2 : Hid (pre = meantL L) := by
        show _ = _
        rw [← unhide hM, List.drop_eq_nil_of_le (by omega)]; simp [meantL]
      gi_wp2
      go_end0
      exact ⟨⟨_, rfl⟩, .inl ⟨_, unhide hM2, hJs⟩⟩

theorem mean_stops (n : Nat) (hn : 1 ≤ n) (q : Nat) (L : List Int) (hL : ∀ x ∈ L, 0 ≤ x ∧ x < 256) (hLl : L.length ≤ 9000) (w : World) (hq : w.heap[q]? = some (.cells #[strV L] 9 (0, 0))) :
    SeqStopsK Fence.wide n Tryd.prog 43 #[P0 q] enc8 Kept9 (fun ys => ys = meantL L) (fun pre => pre <+: meantL L) L.length w := by
  intro l J Jx W hW hJ _ hY h0
  have hk : Kept [] w W := Kept.of_below hW
  exact mean43_in n hn l q L hL hLl J Jx W (hk.heap hq (by simp)) (fun s A B hs hg => hJ s A B none hs hg (fun r e => by cases e)) hY h0
theorem cf43 (args : Array Value) (w : World) : (callFunc 43 args).run Tryd.prog w = .ok (.enter 43 args) w := by kernel_rfl

theorem meant34 (L : List Int) (w : World) : Calls Tryd.prog 34 #[strV L] w fun e w' => e = .returned (.func (.func 43) #[] #[P0 w.heap.size]) ∧ w' = w.alloc (.cells #[strV L] 9) := by
  go_enter Tryd.func34, Tryd.ntmps34
  go_wp2_with fail
  go_ret
  exact ⟨rfl, rfl⟩

end Go.Proofs.YtnflcajidgbbbaaDoor
