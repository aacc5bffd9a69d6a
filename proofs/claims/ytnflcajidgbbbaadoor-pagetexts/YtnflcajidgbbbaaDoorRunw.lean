/-
  The walk of the document's Unword.
-/
import Derived.Test.YtnflcajidgbbbaaDoorRbare
namespace Go.Proofs.YtnflcajidgbbbaaDoor
open Go.RowKit

section
variable {o : Oper} {a : Act} {w : World} {K : Act → World → Prop} {Q : Exit → Act → World → Prop}
theorem wp_mul16 (x : Operand) (ho : o.op = .binOp .mul 5 x (.const (.int .u8 16)) 5) (c : Int) (hc : 0 ≤ c ∧ c ≤ 15) (hx : a.eval x = .int .u8 c) (h : K (a.put o.dst (.int .u8 (c * 16))) w) : o.wp Tryd.prog a w K Q := by
  have hw : IntKind.u8.wrap (c * 16) = c * 16 := by rw [IntKind.wrap_u8]; omega
  unfold Oper.wp execOp
  simp only [ho, hx]
  simp [go_sem, hw]
  exact h
theorem wp_add8 (x y : Operand) (ho : o.op = .binOp .add 5 x y 5) (c d : Int) (hc : 0 ≤ c + d ∧ c + d < 256) (hx : a.eval x = .int .u8 c) (hy : a.eval y = .int .u8 d) (h : K (a.put o.dst (.int .u8 (c + d))) w) : o.wp Tryd.prog a w K Q := by
  have hw : IntKind.u8.wrap (c + d) = c + d := by rw [IntKind.wrap_u8]; omega
  unfold Oper.wp execOp
  simp only [ho, hx, hy]
  simp [go_sem, hw]
  exact h
theorem wp_bytes1 (x : Operand) (ho : o.op = .buildSlice 58 1 #[(0, x)]) (c : Int) (hx : a.eval x = .int .u8 c) (h : K (a.put o.dst (.slice (some ⟨w.heap.size, 0, none⟩) 1 1)) (w.alloc (.cells (u8s [c]).toArray 5))) : o.wp Tryd.prog a w K Q := by
  unfold Oper.wp execOp
  simp only [ho, List.map_toArray, List.map_cons, List.map_nil, hx]
  simp [go_sem]
  exact h
end
section
variable {ops : Array Oper} {rest : List Oper} {op : Oper} {a : Act} {w : World} {Q : Exit → Act → World → Prop}
theorem wpIdxG {L : List Int} (hL : ∀ x ∈ L, 0 ≤ x ∧ x < 256) {i : Nat} (hi : i < L.length) (x y : Operand) (ho : op.op = .index 9 x y) (hw : Region.wanted op (yielded ops a.tmps) = true) (hx : a.eval x = strV L) (hy : a.eval y = .int .i64 i)
    (v : Int) (hv : L[i] = v) (h : wpList Tryd.prog ops Q rest (a.put op.dst (.int .u8 v)) w) : wpList Tryd.prog ops Q (op :: rest) a w :=
  BigFrame.wpList_want hw fun _ hK => wp_index hL hi x y ho hx hy v hv (hK _ _ h)
theorem wpEqlS {l m : List Int} (hl : ∀ x ∈ l, 0 ≤ x ∧ x < 256) (hm : ∀ x ∈ m, 0 ≤ x ∧ x < 256) (x y : Operand) (ho : op.op = .binOp .eql 9 x y 9) (hw : Region.wanted op (yielded ops a.tmps) = true) (hx : a.eval x = strV l) (hy : a.eval y = strV m)
    (c : Bool) (hc : decide (l = m) = c) (h : wpList Tryd.prog ops Q rest (a.put op.dst (.bool c)) w) : wpList Tryd.prog ops Q (op :: rest) a w :=
  BigFrame.wpList_want hw fun K hK => by
    unfold Oper.wp execOp
    simp only [ho, hx, hy, Sem.run_bind, run_guardS, run_eqlS l m hl hm, Result.andThen_ok, hc]
    exact hK _ _ h
end
theorem cf45 (vs : Array Value) (w : World) : (callFunc 45 vs).run Tryd.prog w = .ok (.enter 45 vs) w := by kernel_rfl
theorem rdig_byte (c : Int) : 0 ≤ rdig c ∧ rdig c ≤ 16 := by unfold rdig; split; omega; split <;> omega

/-- The bytes that the document's Unword reads. -/
def unw : List Int → Option (List Int)
  | [] => some []
  | [c] => if c = 37 then none else some [c]
  | [c, d] => if c = 37 then none else (unw [d]).map (c :: ·)
  | c :: d :: e :: t => if c = 37 then (if 15 < rdig d ∨ 15 < rdig e then none else (unw t).map ((rdig d * 16 + rdig e) :: ·)) else (unw (d :: e :: t)).map (c :: ·)
theorem unw_plain {c : Int} {r : List Int} (h : c ≠ 37) : unw (c :: r) = (unw r).map (c :: ·) := by
  match r with
  | [] => simp [unw, h]
  | [d] => simp [unw, h]
  | d :: e :: t => simp [unw, h]
theorem unw_short {r : List Int} (h : r.length < 2) : unw (37 :: r) = none := by
  match r, h with
  | [], _ => simp [unw]
  | [d], _ => simp [unw]
theorem unw_pair (d e : Int) (t : List Int) : unw (37 :: d :: e :: t) = if 15 < rdig d ∨ 15 < rdig e then none else (unw t).map ((rdig d * 16 + rdig e) :: ·) := by simp [unw]
/-- Whether a text is a word, and its bytes. -/
def rok (L : List Int) : Bool := if L = [37] then true else match unw L with | none => false | some b => decide (b ≠ [] ∧ escs b = L)
def rbytes (L : List Int) : List Int := if L = [37] then [] else (unw L).getD []
theorem escs_byte {l : List Int} (h : ∀ x ∈ l, 0 ≤ x ∧ x < 256) : ∀ x ∈ escs l, 0 ≤ x ∧ x < 256 := by
  intro x hx
  obtain ⟨y, hy, hx⟩ := List.mem_flatMap.1 hx
  exact esc_byte (h y hy) x hx
theorem res35 (w : World) (v : Value) (r : Bool) (tmps : Array Value) (h2 : tmps[2]?.getD undef = v) (h3 : tmps[3]?.getD undef = .bool r) : (results Tryd.f35 tmps).run Tryd.prog w = .ok (.tuple #[v, .bool r]) w := by
  simp [results, Tryd.results35, h2, h3]
theorem map_pre (x : Option (List Int)) (p : List Int) (c : Int) : (x.map (c :: ·)).map (p ++ ·) = x.map ((p ++ [c]) ++ ·) := by
  cases x <;> simp

set_option maxHeartbeats 4000000 in
set_option maxRecDepth 100000 in
theorem unword35 (L : List Int) (hL : ∀ x ∈ L, 0 ≤ x ∧ x < 256) (hLl : L.length ≤ 288) (w : World) : Calls Tryd.prog 35 #[strV L] w fun e w' => ∃ v, e = .returned (.tuple #[v, .bool (rok L)]) ∧ (rok L = true → SlB w.heap.size w' v (rbytes L)) ∧ Kept [] w w' := by
  have hlen := run_lenS L
  by_cases h37 : L = [37]
  · subst h37
    go_enter Tryd.func35, Tryd.ntmps35
    go_wp2_with (refine wpEqlS hL hL (.tmp 6) (.const (.string ⟨#[37]⟩)) (by rfl) (by rfl) (by rfl) (by rfl) true rfl ?_)
    refine bodyPost_ret (res35 _ _ _ _ rfl rfl) rfl ⟨_, rfl, fun _ => .inl ⟨rfl, rfl⟩, Kept.refl _ _⟩
  have e37 : decide (L = [37]) = false := decide_eq_false h37
  go_enter Tryd.func35, Tryd.ntmps35
  go_wp2_with (refine wpEqlS hL (m := [37]) (by decide) (.tmp 6) (.const (.string ⟨#[37]⟩)) (by rfl) (by rfl) (by rfl) (by rfl) false e37 ?_)
  go_loopw [5, 4] (fun v u wr => ∃ i : Nat, i ≤ L.length ∧ v = .int .i64 i ∧ ∃ pre : List Int, Hid (unw L = (unw (L.drop i)).map (pre ++ ·)) ∧ pre.length ≤ i ∧ Hid (∀ x ∈ pre, 0 ≤ x ∧ x < 256) ∧ wr.ownsRow w.heap.size 5 1 u pre.length (u8s pre) ∧ Hid (Kept [] w wr)) (fun v _ _ => L.length - (intOf v).toNat)
  case atStart => exact ⟨0, by omega, rfl, [], by show _ = _; simp, by simp, by show ∀ x ∈ [], _; simp, World.ownsRow_nil _ _ _ _, Kept.refl _ _⟩
  case round =>
    obtain ⟨i, hi, rfl, pre, hM, hpl, hPre, hown, RK⟩ := hrel
    have hbase : w.heap.size ≤ wr.heap.size := (unhide RK).size
    by_cases hlt : i < L.length
    · have hcb := hL L[i] (List.getElem_mem hlt)
      have hd := hide (drop_at hlt)
      obtain ⟨c, ec⟩ : ∃ c, L[i] = c := ⟨_, rfl⟩
      have EC := hide ec
      rw [ec] at hcb hd
      clear ec
      by_cases hc : c = 37
      · subst hc
        by_cases h3 : L.length ≤ i + 2
        · have e0 : decide ((L.length : Int) ≤ (i : Int) + 2) = true := decide_eq_true (by omega)
          have hN : Hid (rok L = false) := by
            show _ = _
            rw [rok, if_neg h37, unhide hM, unhide hd, unw_short (by rw [List.length_drop]; omega)]; rfl
          go_wp2_with (refine wpIdxG hL hlt (.tmp 14) (.tmp 15) (by rfl) (by rfl) (by rfl) (by rfl) 37 (unhide EC) ?_)
          refine bodyPost_ret (res35 _ _ _ _ rfl rfl) rfl ⟨_, by rw [unhide hN], (fun h => by rw [unhide hN] at h; cases h), unhide RK⟩
        · have e0 : decide ((L.length : Int) ≤ (i : Int) + 2) = false := decide_eq_false (by omega)
          have hi1 : i + 1 < L.length := by omega
          have hi2 : i + 2 < L.length := by omega
          have hdb := hL L[i + 1] (List.getElem_mem hi1)
          have heb := hL L[i + 2] (List.getElem_mem hi2)
          have hd1 := hide (drop_at hi1)
          have hd2 := hide (drop_at hi2)
          obtain ⟨d, ed⟩ : ∃ d, L[i + 1] = d := ⟨_, rfl⟩
          obtain ⟨e, ee⟩ : ∃ e, L[i + 2] = e := ⟨_, rfl⟩
          have ED := hide ed
          have EE := hide ee
          rw [ed] at hdb hd1
          rw [ee] at heb hd2
          have hU : Hid (unw L = (if 15 < rdig d ∨ 15 < rdig e then none else (unw (L.drop (i + 3))).map ((rdig d * 16 + rdig e) :: ·)).map (pre ++ ·)) := by
            show _ = _
            rw [unhide hM, unhide hd, unhide hd1, unhide hd2, unw_pair]
          clear ed ee hM hd hd1 hd2
          have r1 := rdig_byte d
          have r2 := rdig_byte e
          by_cases hd15 : 15 < rdig d
          · have e1 := decide_eq_true hd15
            have hN : Hid (rok L = false) := by
              show _ = _
              rw [rok, if_neg h37, unhide hU, if_pos (.inl hd15)]; rfl
            go_wp2_with (
              first
              | (refine wpIdxG hL hlt (.tmp 14) (.tmp 15) (by rfl) (by rfl) (by rfl) (by rfl) 37 (unhide EC) ?_)
              | (refine wpIdxG hL hi1 (.tmp 30) (.tmp 32) (by rfl) (by rfl) (by rfl) (by rfl) d (unhide ED) ?_)
              | (go_at_call 45; refine (rdigit45 d hdb _).mono ?_; rintro e0 w1 ⟨rfl, hw1⟩; obtain rfl := hw1.symm))
            refine bodyPost_ret (res35 _ _ _ _ rfl rfl) rfl ⟨_, by rw [unhide hN], (fun h => by rw [unhide hN] at h; cases h), unhide RK⟩
          · have e1 := decide_eq_false hd15
            by_cases he15 : 15 < rdig e
            · have e2 := decide_eq_true he15
              have hN : Hid (rok L = false) := by
                show _ = _
                rw [rok, if_neg h37, unhide hU, if_pos (.inr he15)]; rfl
              go_wp2_with (
                first
                | (refine wpIdxG hL hlt (.tmp 14) (.tmp 15) (by rfl) (by rfl) (by rfl) (by rfl) 37 (unhide EC) ?_)
                | (refine wpIdxG hL hi1 (.tmp 30) (.tmp 32) (by rfl) (by rfl) (by rfl) (by rfl) d (unhide ED) ?_)
                | (refine wpIdxG hL hi2 (.tmp 38) (.tmp 40) (by rfl) (by rfl) (by rfl) (by rfl) e (unhide EE) ?_)
                | (go_at_call 45; refine (rdigit45 _ (by assumption) _).mono ?_; rintro e0 w1 ⟨rfl, hw1⟩; obtain rfl := hw1.symm))
              refine bodyPost_ret (res35 _ _ _ _ rfl rfl) rfl ⟨_, by rw [unhide hN], (fun h => by rw [unhide hN] at h; cases h), unhide RK⟩
            · have e2 := decide_eq_false he15
              have hN : Hid (unw L = (unw (L.drop (i + 3))).map ((pre ++ [rdig d * 16 + rdig e]) ++ ·)) := by
                show _ = _
                rw [unhide hU, if_neg (by omega), map_pre]
              have hPB : Hid (∀ x ∈ pre ++ [rdig d * 16 + rdig e], 0 ≤ x ∧ x < 256) := by
                intro x hx
                rcases List.mem_append.1 hx with h | h
                · exact unhide hPre x h
                · simp at h; omega
              clear hU hPre
              go_wp2_with (
                first
                | (refine wpIdxG hL hlt (.tmp 14) (.tmp 15) (by rfl) (by rfl) (by rfl) (by rfl) 37 (unhide EC) ?_)
                | (refine wpIdxG hL hi1 (.tmp 30) (.tmp 32) (by rfl) (by rfl) (by rfl) (by rfl) d (unhide ED) ?_)
                | (refine wpIdxG hL hi2 (.tmp 38) (.tmp 40) (by rfl) (by rfl) (by rfl) (by rfl) e (unhide EE) ?_)
                | (go_at_call 45; refine (rdigit45 _ (by assumption) _).mono ?_; rintro e0 w1 ⟨rfl, hw1⟩; obtain rfl := hw1.symm))
              replace hd15 : 0 ≤ rdig d ∧ rdig d ≤ 15 := by omega
              refine wp_region_prefix mixed 14 2 rfl (by kernel_rfl) (tb [.is u4, .is (strV L), .is (.int .i64 i), .is (.int .i64 (i + 1 : Nat)), .is (.int .u8 d), .is (.int .u8 (rdig d)), .is (.int .u8 (rdig d * 16)), .is (strV L), .is (.int .i64 i), .is (.int .i64 (i + 2 : Nat)), .is (.int .u8 e), .is (.int .u8 (rdig e)), .is (.int .u8 (rdig d * 16 + rdig e)), Fct.sl (u8s [rdig d * 16 + rdig e]) wr.heap.size]) (fun _ _ _ _ => True) (tb_kept _) (by kernel_rfl) ?_ ?_
              · intro j o hj ho a w2 hout hin hk
                match j, ho with
                | 0, ho =>
                  obtain rfl := Option.some.inj ho
                  exact wp_move _ rfl ⟨_, rfl, (hout 4 (by kernel_rfl)).trans rfl, Kept.refl _ _, fun _ _ _ _ _ => trivial⟩
                | 1, ho =>
                  obtain rfl := Option.some.inj ho
                  exact wp_move _ rfl ⟨_, rfl, (hout 0 (by kernel_rfl)).trans rfl, Kept.refl _ _, fun _ _ _ _ _ => trivial⟩
                | 2, ho =>
                  obtain rfl := Option.some.inj ho
                  exact wp_move _ rfl ⟨_, rfl, (hout 5 (by kernel_rfl)).trans rfl, Kept.refl _ _, fun _ _ _ _ _ => trivial⟩
                | 3, ho =>
                  obtain rfl := Option.some.inj ho
                  exact wp_addN _ 1 rfl i (by omega) (hin 2 47 (by kernel_rfl) (by kernel_rfl)) ⟨_, rfl, rfl, Kept.refl _ _, fun _ _ _ _ _ => trivial⟩
                | 4, ho =>
                  obtain rfl := Option.some.inj ho
                  exact wp_index hL hi1 _ _ rfl (hin 1 46 (by kernel_rfl) (by kernel_rfl)) (hin 3 48 (by kernel_rfl) (by kernel_rfl)) d (unhide ED) ⟨_, rfl, rfl, Kept.refl _ _, fun _ _ _ _ _ => trivial⟩
                | 5, ho =>
                  obtain rfl := Option.some.inj ho
                  have e0 : a.eval (.tmp 49) = .int .u8 d := (hin 4 49 (by kernel_rfl) (by kernel_rfl))
                  refine wp_callF 45 _ _ rfl #[.int .u8 d] (by simp [e0]) (cf45 _ _) ((rdigit45 d hdb w2).mono ?_)
                  rintro x w3 ⟨rfl, hw3⟩
                  exact ⟨_, rfl, ⟨_, rfl, rfl, by rw [hw3]; exact Kept.refl _ _, fun _ _ _ _ _ => trivial⟩⟩
                | 6, ho =>
                  obtain rfl := Option.some.inj ho
                  exact wp_mul16 _ rfl (rdig d) hd15 (hin 5 50 (by kernel_rfl) (by kernel_rfl)) ⟨_, rfl, rfl, Kept.refl _ _, fun _ _ _ _ _ => trivial⟩
                | 7, ho =>
                  obtain rfl := Option.some.inj ho
                  exact wp_move _ rfl ⟨_, rfl, (hout 0 (by kernel_rfl)).trans rfl, Kept.refl _ _, fun _ _ _ _ _ => trivial⟩
                | 8, ho =>
                  obtain rfl := Option.some.inj ho
                  exact wp_move _ rfl ⟨_, rfl, (hout 5 (by kernel_rfl)).trans rfl, Kept.refl _ _, fun _ _ _ _ _ => trivial⟩
                | 9, ho =>
                  obtain rfl := Option.some.inj ho
                  exact wp_addN _ 2 rfl i (by omega) (hin 8 53 (by kernel_rfl) (by kernel_rfl)) ⟨_, rfl, rfl, Kept.refl _ _, fun _ _ _ _ _ => trivial⟩
                | 10, ho =>
                  obtain rfl := Option.some.inj ho
                  exact wp_index hL hi2 _ _ rfl (hin 7 52 (by kernel_rfl) (by kernel_rfl)) (hin 9 54 (by kernel_rfl) (by kernel_rfl)) e (unhide EE) ⟨_, rfl, rfl, Kept.refl _ _, fun _ _ _ _ _ => trivial⟩
                | 11, ho =>
                  obtain rfl := Option.some.inj ho
                  have e0 : a.eval (.tmp 55) = .int .u8 e := (hin 10 55 (by kernel_rfl) (by kernel_rfl))
                  refine wp_callF 45 _ _ rfl #[.int .u8 e] (by simp [e0]) (cf45 _ _) ((rdigit45 e heb w2).mono ?_)
                  rintro x w3 ⟨rfl, hw3⟩
                  exact ⟨_, rfl, ⟨_, rfl, rfl, by rw [hw3]; exact Kept.refl _ _, fun _ _ _ _ _ => trivial⟩⟩
                | 12, ho =>
                  obtain rfl := Option.some.inj ho
                  exact wp_add8 _ _ rfl (rdig d * 16) (rdig e) (by omega) (hin 6 51 (by kernel_rfl) (by kernel_rfl)) (hin 11 56 (by kernel_rfl) (by kernel_rfl)) ⟨_, rfl, rfl, Kept.refl _ _, fun _ _ _ _ _ => trivial⟩
                | 13, ho =>
                  obtain rfl := Option.some.inj ho
                  exact wp_bytes1 _ rfl _ (hin 12 57 (by kernel_rfl) (by kernel_rfl)) ⟨_, rfl, ⟨_, rfl, hk.size, Blk.new' rfl⟩, (Kept.refl _ _).alloc _, fun _ _ _ _ _ => trivial⟩
              · intro vs w3 hlen0 hF _ hk3
                obtain ⟨x0, x1, x2, x3, x4, x5, x6, x7, x8, x9, x10, x11, x12, x13, rfl⟩ := vs14 hlen0
                obtain rfl : x0 = u4 := hF 0 _ rfl
                obtain rfl : x1 = _ := hF 1 _ rfl
                obtain rfl : x2 = _ := hF 2 _ rfl
                obtain rfl : x3 = _ := hF 3 _ rfl
                obtain rfl : x4 = _ := hF 4 _ rfl
                obtain rfl : x5 = _ := hF 5 _ rfl
                obtain rfl : x6 = _ := hF 6 _ rfl
                obtain rfl : x7 = _ := hF 7 _ rfl
                obtain rfl : x8 = _ := hF 8 _ rfl
                obtain rfl : x9 = _ := hF 9 _ rfl
                obtain rfl : x10 = _ := hF 10 _ rfl
                obtain rfl : x11 = _ := hF 11 _ rfl
                obtain rfl : x12 = _ := hF 12 _ rfl
                obtain ⟨q7, rfl, hq7, hb7⟩ : ∃ q, x13 = .slice (some ⟨q, 0, none⟩) 1 1 ∧ wr.heap.size ≤ q ∧ Blk w3 q 5 (u8s [rdig d * 16 + rdig e]) := hF 13 _ rfl
                clear hF hlen0
                simp only [List.take_succ_cons, List.take_zero, putAll, Act.put, List.setIfInBounds_toArray, List.set_cons_succ, List.set_cons_zero]
                refine wpAny_all (rs := [14]) (by kernel_rfl) (by simp) ?_
                intro i' hi'
                obtain rfl : i' = 14 := by simpa using hi'
                refine wpOp_of rfl rfl (wp_appN 59 rfl (.tmp 45) (.tmp 58) rfl w.heap.size x0 pre rfl q7 1 _ rfl hb7 rfl (owns_kept hown hk3) (by omega) (Nat.le_trans hbase hk3.size) ?_)
                intro v1 w1 hown1 hg1
                simp only [Act.put, List.setIfInBounds_toArray, List.set_cons_succ, List.set_cons_zero]
                refine wpAny_all (rs := [15]) (by kernel_rfl) (by simp) ?_
                intro i' hi'
                obtain rfl : i' = 15 := by simpa using hi'
                refine wpOp_of rfl rfl (wp_assign (.tmp 59) rfl 4 rfl v1 rfl ?_)
                simp only [Act.put, List.setIfInBounds_toArray, List.set_cons_succ, List.set_cons_zero]
                refine wpAny_done (by kernel_rfl) ?_ _
                have RK1 : Hid (Kept [] w w1) := kept_own ((unhide RK).trans hk3) hg1 (owns_kept hown hk3) (by omega)
                clear hg1 hown RK hi' hk3 hb7
                go_wp2_with fail
                go_roundw
                case rel =>
                  refine ⟨i + 3, by omega, by go_num, pre ++ [rdig d * 16 + rdig e], hN, by simp; omega, hPB, hown1, RK1⟩
                case measure => simp [intOf]; omega
      · have e0 : (c != 37) = true := by simp [hc]
        have hN : Hid (unw L = (unw (L.drop (i + 1))).map ((pre ++ [c]) ++ ·)) := by
          show _ = _
          rw [unhide hM, unhide hd, unw_plain hc, map_pre]
        have hPB : Hid (∀ x ∈ pre ++ [c], 0 ≤ x ∧ x < 256) := by
          intro x hx
          rcases List.mem_append.1 hx with h | h
          · exact unhide hPre x h
          · simp at h; omega
        clear hM hPre hd hc
        go_wp2_with (
          first
          | (refine wpIdxG hL hlt (.tmp 14) (.tmp 15) (by rfl) (by rfl) (by rfl) (by rfl) c (unhide EC) ?_)
          | (refine wpIdxG hL hlt (.tmp 19) (.tmp 20) (by rfl) (by rfl) (by rfl) (by rfl) c (unhide EC) ?_)
          | (at_builtin; go_must (refine wpAppN rfl (.tmp 18) (.tmp 22) rfl w.heap.size _ pre rfl wr.heap.size 1 [c] rfl (Blk.new' rfl) rfl (owns_kept hown ((Kept.refl _ _).alloc _)) (by omega) (by simp; omega) ?_)))
        intro v1 w1 hown1 hg1
        have hg2 : wr.grownBy w1 u4.ownBlock := grownBy_trans (World.grownBy_alloc _ _ _) hg1
        have RK1 : Hid (Kept [] w w1) := kept_own (unhide RK) hg2 hown (by omega)
        clear hg1 hg2 hown RK
        go_wp2_with fail
        go_roundw
        case rel =>
          refine ⟨i + 1, by omega, by go_num, pre ++ [c], hN, by simp; omega, hPB, ?_, RK1⟩
          rw [List.length_append]
          exact hown1
        case measure => simp [intOf]; omega
    · have hU : Hid (unw L = some pre) := by
        show _ = _
        rw [unhide hM, List.drop_eq_nil_of_le (by omega)]; simp [unw]
      have hS := hide (SlB.of_own hown)
      clear hM
      rcases own_range hown with ⟨rfl, hn0⟩ | ⟨g, cap, rfl, hr⟩
      · have hp0 : pre = [] := List.length_eq_zero_iff.1 hn0
        have hN : Hid (rok L = false) := by
          show _ = _
          rw [rok, if_neg h37, unhide hU, hp0]; simp
        clear hown
        go_wp2_with fail
        refine bodyPost_ret (res35 _ _ _ _ rfl rfl) rfl ⟨_, by rw [unhide hN], (fun h => by rw [unhide hN] at h; cases h), unhide RK⟩
      · by_cases hp0 : pre = []
        · have hN : Hid (rok L = false) := by
            show _ = _
            rw [rok, if_neg h37, unhide hU, hp0]; simp
          subst hp0
          clear hown
          go_wp2_with fail
          refine bodyPost_ret (res35 _ _ _ _ rfl rfl) rfl ⟨_, by rw [unhide hN], (fun h => by rw [unhide hN] at h; cases h), unhide RK⟩
        · have hpos : 0 < pre.length := List.length_pos_iff.2 hp0
          have epos : decide (0 < (pre.length : Int)) = true := decide_eq_true (by omega)
          have hW : Hid (wordL pre = escs pre) := by show _ = _; rw [wordL, if_neg hp0]
          have hC := hide (word_sl (unhide hS).sl (unhide hPre) (by omega))
          rw [show wordL pre = escs pre from unhide hW] at hC
          have hN : Hid (rok L = decide (escs pre = L)) := by
            show _ = _
            rw [rok, if_neg h37, unhide hU]
            simp [hp0]
          have hRB : Hid (rbytes L = pre) := by show _ = _; rw [rbytes, if_neg h37, unhide hU]; rfl
          obtain ⟨r, hr'⟩ : ∃ r, decide (escs pre = L) = r := ⟨_, rfl⟩
          have hEB := hide (escs_byte (unhide hPre))
          clear hown hr hU
          go_wp2_with (
            first
            | (go_at_call 36; refine (unhide hC).mono ?_; rintro e0 w1 ⟨rfl, k1⟩; have RK1 := hide ((unhide RK).trans k1); have hS1 := hide ((unhide hS).kept k1); clear k1 RK hS)
            | (refine wpEqlS (unhide hEB) hL (.tmp 68) (.tmp 69) (by rfl) (by rfl) (by rfl) (by rfl) r hr' ?_))
          refine bodyPost_ret (res35 _ _ _ _ rfl rfl) rfl ⟨_, by rw [unhide hN, hr'], fun _ => by rw [unhide hRB]; exact unhide hS1, unhide RK1⟩

end Go.Proofs.YtnflcajidgbbbaaDoor
