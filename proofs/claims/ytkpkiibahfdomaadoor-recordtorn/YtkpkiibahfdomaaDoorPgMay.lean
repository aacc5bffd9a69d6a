/-
  The walks of the document's May and Half.
-/
import Derived.Test.YtkpkiibahfdomaaDoorPgTorn
import Derived.Test.YtkpkiibahfdomaaDoorPlainr
namespace Go.Proofs.YtkpkiibahfdomaaDoor.Pg
open Go.RowKit

theorem wp_assign {P : Program} {o : Oper} {a : Act} {w : World} {K : Act → World → Prop} {Q : Exit → Act → World → Prop} (x : Operand) (ho : o.op = .assign x) (d : Nat) (hd : o.dst = some d) (v : Value) (hx : a.eval x = v) (h : K (a.put (some d) v) w) : o.wp P a w K Q := by
  subst hx
  rw [← hd] at h
  unfold Oper.wp execOp
  simp only [ho]
  exact h

/-- The document's May. -/
def mayB (n : Int) (s : List Int) : Bool := decide (0 ≤ n ∧ n ≤ 2147483647 ∧ (0 < n ∨ s = zs 96))
theorem may_ver (n : Int) (s : List Int) : mayB n s = isVer n s := by
  unfold mayB isVer
  by_cases h : n = 0
  · subst h; simp
  · simp only [h, if_false, isWrit]
    rw [decide_eq_decide]
    omega

/-- A value is boxed. -/
theorem wpBoxV {ops : Array Oper} {rest : List Oper} {op : Oper} {a : Act} {w : World} {Q : Exit → Act → World → Prop} {T : Nat} (d : Nat) (hd : op.dst = some d) (hgd : op.guard = none) (x : Operand) (ho : op.op = .box T x) (vs : List Value) (hx : a.eval x = aggV vs)
    (h : ∀ W b, b = w.heap.size → Blk W b T vs → Kept [] w W → wpList Tryd.prog ops Q rest (a.put (some d) (P0 b)) W) : wpList Tryd.prog ops Q (op :: rest) a w := by
  refine wpBoxA hgd x ho vs hx ?_
  rw [hd]
  exact h _ _ rfl (Blk.new w T vs) ((Kept.refl _ _).alloc _)

section
variable {o : Oper} {a : Act} {w : World} {K : Act → World → Prop} {Q : Exit → Act → World → Prop}
theorem o_field0 (x : Operand) (ho : o.op = .fieldAddr 61 x 0) (b : Nat) (hx : a.eval x = P0 b) (h : K (a.put o.dst (.pointer (some ⟨b, 0, none⟩))) w) : o.wp Tryd.prog a w K Q := by
  unfold Oper.wp execOp
  simp only [ho, hx]
  exact h
theorem o_geq2 (x : Operand) (c : Int) (ho : o.op = .binOp .geq 2 x (.const (.int .i64 c)) 2) (m : Int) (r : Bool) (hr : decide (c ≤ m) = r) (hx : a.eval x = .int .i64 m) (h : K (a.put o.dst (.bool r)) w) : o.wp Tryd.prog a w K Q := by
  unfold Oper.wp execOp
  simp only [ho, hx]
  simp [go_sem, hr]
  exact h
theorem o_leq2 (x : Operand) (c : Int) (ho : o.op = .binOp .leq 2 x (.const (.int .i64 c)) 2) (m : Int) (r : Bool) (hr : decide (m ≤ c) = r) (hx : a.eval x = .int .i64 m) (h : K (a.put o.dst (.bool r)) w) : o.wp Tryd.prog a w K Q := by
  unfold Oper.wp execOp
  simp only [ho, hx]
  simp [go_sem, hr]
  exact h
theorem o_pickN (c x : Operand) (ho : o.op = .pick c x (.const (.bool false))) (hc : a.eval c = .bool false) (h : K (a.put o.dst (.bool false)) w) : o.wp Tryd.prog a w K Q := by
  unfold Oper.wp execOp
  simp only [ho, hc]
  simp [go_sem]
  exact h
end
def mayTneg (n : Int) (b : Nat) : List Fc := [.is (.pointer (some ⟨b, 0, none⟩)), .is (.int .i64 n), .is (.bool false), .is (.bool false), .no, .no, .no, .is (.bool false), .is (.bool false), .no, .no, .no, .no, .no, .no, .no, .no, .no, .is (.bool false), .is (.bool false)]
set_option maxHeartbeats 2000000 in
set_option maxRecDepth 100000 in
theorem may_neg (n : Int) (s : List Int) (e1 : decide (0 ≤ n) = false) (w : World) : Calls Tryd.prog 29 #[aggV (verC n s)] w fun e w' => e = .returned (.bool false) ∧ Kept [] w w' := by
  go_enter Tryd.func29, Tryd.ntmps29
  refine wp_seq_k fun K0 hK0 => ?_
  have HK := hide hK0
  clear hK0
  go_wp2_with (refine wpBoxV 1 (by rfl) (by rfl) (.tmp 0) (by rfl) (verC n s) (by rfl) ?_; intro W b hb B K; clear hb)
  refine unhide HK _ _ ?_
  have hc := fits_cell B 0 (.int .i64 n) rfl
  clear B
  refine wp_seq ?_
  refine wp_region_text 20 rfl (by kernel_rfl) (tc (mayTneg n b)) (fun _ _ _ _ => True) (skipOf (mayTneg n b)) (fun j o i b _ => guardsS_some (by kernel_rfl) j o i b) (fun j o _ => guardsS_none (by kernel_rfl) j o) (fun j w => skip_undef w) (fun _ _ _ _ => trivial) (tc_kept _) (by kernel_rfl) ?_ ?_
  · intro j o hj hs' ho a w2 hout hin hk
    show o.wp Tryd.prog a w2 (opPc (mayTneg n b) o a w2 j 20) _
    match j, ho with
    | 0, ho =>
      obtain rfl := Option.some.inj ho
      exact o_field0 (.tmp 1) rfl b ((hout 1 (by kernel_rfl)).trans (by kernel_rfl)) (postc rfl (Kept.refl _ _))
    | 1, ho =>
      obtain rfl := Option.some.inj ho
      exact o_load2 (.tmp 3) rfl ⟨b, 0, none⟩ _ (hin 0 3 (by kernel_rfl) (by kernel_rfl)) (hk.cell hc (by simp)) (postc rfl (Kept.refl _ _))
    | 2, ho =>
      obtain rfl := Option.some.inj ho
      exact o_geq2 (.tmp 4) 0 rfl n false e1 (hin 1 4 (by kernel_rfl) (by kernel_rfl)) (postc rfl (Kept.refl _ _))
    | 3, ho =>
      obtain rfl := Option.some.inj ho
      exact wp_move (.tmp 5) rfl (by rw [show a.eval (.tmp 5) = _ from (hin 2 5 (by kernel_rfl) (by kernel_rfl))]; exact (postc rfl (Kept.refl _ _)))
    | 4, ho => exact absurd (show true = false from hs') (by decide)
    | 5, ho => exact absurd (show true = false from hs') (by decide)
    | 6, ho => exact absurd (show true = false from hs') (by decide)
    | 7, ho =>
      obtain rfl := Option.some.inj ho
      exact o_pickN (.tmp 6) (.tmp 9) rfl (hin 3 6 (by kernel_rfl) (by kernel_rfl)) (postc rfl (Kept.refl _ _))
    | 8, ho =>
      obtain rfl := Option.some.inj ho
      exact wp_move (.tmp 10) rfl (by rw [show a.eval (.tmp 10) = _ from (hin 7 10 (by kernel_rfl) (by kernel_rfl))]; exact (postc rfl (Kept.refl _ _)))
    | 9, ho => exact absurd (show true = false from hs') (by decide)
    | 10, ho => exact absurd (show true = false from hs') (by decide)
    | 11, ho => exact absurd (show true = false from hs') (by decide)
    | 12, ho => exact absurd (show true = false from hs') (by decide)
    | 13, ho => exact absurd (show true = false from hs') (by decide)
    | 14, ho => exact absurd (show true = false from hs') (by decide)
    | 15, ho => exact absurd (show true = false from hs') (by decide)
    | 16, ho => exact absurd (show true = false from hs') (by decide)
    | 17, ho => exact absurd (show true = false from hs') (by decide)
    | 18, ho =>
      obtain rfl := Option.some.inj ho
      exact o_pickN (.tmp 11) (.tmp 20) rfl (hin 8 11 (by kernel_rfl) (by kernel_rfl)) (postc rfl (Kept.refl _ _))
    | 19, ho =>
      obtain rfl := Option.some.inj ho
      exact wp_assign (.tmp 21) rfl 2 rfl _ (hin 18 21 (by kernel_rfl) (by kernel_rfl)) (postc rfl (Kept.refl _ _))
  · intro vs w5 hlen hF hk5
    match vs, hlen with
    | [x0, x1, x2, x3, x4, x5, x6, x7, x8, x9, x10, x11, x12, x13, x14, x15, x16, x17, x18, x19], _ =>
    obtain rfl : x0 = _ := hF 0 _ rfl
    obtain rfl : x1 = _ := hF 1 _ rfl
    obtain rfl : x2 = _ := hF 2 _ rfl
    obtain rfl : x3 = _ := hF 3 _ rfl
    obtain rfl : x4 = _ := hF 4 _ rfl
    obtain rfl : x5 = _ := hF 5 _ rfl
    obtain rfl : x6 = _ := hF 6 _ rfl
    obtain rfl : x7 = _ := hF 7 _ rfl
    obtain rfl : x8 = _ := hF 8 _ rfl
    obtain rfl : x9 = _ := hF 9 _ rfl
    obtain rfl : x10 = _ := hF 10 _ rfl
    obtain rfl : x11 = _ := hF 11 _ rfl
    obtain rfl : x12 = _ := hF 12 _ rfl
    obtain rfl : x13 = _ := hF 13 _ rfl
    obtain rfl : x14 = _ := hF 14 _ rfl
    obtain rfl : x15 = _ := hF 15 _ rfl
    obtain rfl : x16 = _ := hF 16 _ rfl
    obtain rfl : x17 = _ := hF 17 _ rfl
    obtain rfl : x18 = _ := hF 18 _ rfl
    obtain rfl : x19 = _ := hF 19 _ rfl
    clear hF
    simp only [List.take_succ_cons, List.take_zero, putAll, Act.put, List.setIfInBounds_toArray, List.set_cons_succ, List.set_cons_zero]
    go_wp2_with fail
    go_ret
    exact ⟨rfl, K.trans hk5⟩
def mayTbig (n : Int) (b : Nat) : List Fc := [.is (.pointer (some ⟨b, 0, none⟩)), .is (.int .i64 n), .is (.bool true), .is (.bool true), .is (.pointer (some ⟨b, 0, none⟩)), .is (.int .i64 n), .is (.bool false), .is (.bool false), .is (.bool false), .no, .no, .no, .no, .no, .no, .no, .no, .no, .is (.bool false), .is (.bool false)]
set_option maxHeartbeats 2000000 in
set_option maxRecDepth 100000 in
theorem may_big (n : Int) (s : List Int) (e1 : decide (0 ≤ n) = true) (e2 : decide (n ≤ 2147483647) = false) (w : World) : Calls Tryd.prog 29 #[aggV (verC n s)] w fun e w' => e = .returned (.bool false) ∧ Kept [] w w' := by
  go_enter Tryd.func29, Tryd.ntmps29
  refine wp_seq_k fun K0 hK0 => ?_
  have HK := hide hK0
  clear hK0
  go_wp2_with (refine wpBoxV 1 (by rfl) (by rfl) (.tmp 0) (by rfl) (verC n s) (by rfl) ?_; intro W b hb B K; clear hb)
  refine unhide HK _ _ ?_
  have hc := fits_cell B 0 (.int .i64 n) rfl
  clear B
  refine wp_seq ?_
  refine wp_region_text 20 rfl (by kernel_rfl) (tc (mayTbig n b)) (fun _ _ _ _ => True) (skipOf (mayTbig n b)) (fun j o i b _ => guardsS_some (by kernel_rfl) j o i b) (fun j o _ => guardsS_none (by kernel_rfl) j o) (fun j w => skip_undef w) (fun _ _ _ _ => trivial) (tc_kept _) (by kernel_rfl) ?_ ?_
  · intro j o hj hs' ho a w2 hout hin hk
    show o.wp Tryd.prog a w2 (opPc (mayTbig n b) o a w2 j 20) _
    match j, ho with
    | 0, ho =>
      obtain rfl := Option.some.inj ho
      exact o_field0 (.tmp 1) rfl b ((hout 1 (by kernel_rfl)).trans (by kernel_rfl)) (postc rfl (Kept.refl _ _))
    | 1, ho =>
      obtain rfl := Option.some.inj ho
      exact o_load2 (.tmp 3) rfl ⟨b, 0, none⟩ _ (hin 0 3 (by kernel_rfl) (by kernel_rfl)) (hk.cell hc (by simp)) (postc rfl (Kept.refl _ _))
    | 2, ho =>
      obtain rfl := Option.some.inj ho
      exact o_geq2 (.tmp 4) 0 rfl n true e1 (hin 1 4 (by kernel_rfl) (by kernel_rfl)) (postc rfl (Kept.refl _ _))
    | 3, ho =>
      obtain rfl := Option.some.inj ho
      exact wp_move (.tmp 5) rfl (by rw [show a.eval (.tmp 5) = _ from (hin 2 5 (by kernel_rfl) (by kernel_rfl))]; exact (postc rfl (Kept.refl _ _)))
    | 4, ho =>
      obtain rfl := Option.some.inj ho
      exact o_field0 (.tmp 1) rfl b ((hout 1 (by kernel_rfl)).trans (by kernel_rfl)) (postc rfl (Kept.refl _ _))
    | 5, ho =>
      obtain rfl := Option.some.inj ho
      exact o_load2 (.tmp 7) rfl ⟨b, 0, none⟩ _ (hin 4 7 (by kernel_rfl) (by kernel_rfl)) (hk.cell hc (by simp)) (postc rfl (Kept.refl _ _))
    | 6, ho =>
      obtain rfl := Option.some.inj ho
      exact o_leq2 (.tmp 8) 2147483647 rfl n false e2 (hin 5 8 (by kernel_rfl) (by kernel_rfl)) (postc rfl (Kept.refl _ _))
    | 7, ho =>
      obtain rfl := Option.some.inj ho
      exact o_pick (.tmp 6) (.tmp 9) rfl false (hin 3 6 (by kernel_rfl) (by kernel_rfl)) (hin 6 9 (by kernel_rfl) (by kernel_rfl)) (postc rfl (Kept.refl _ _))
    | 8, ho =>
      obtain rfl := Option.some.inj ho
      exact wp_move (.tmp 10) rfl (by rw [show a.eval (.tmp 10) = _ from (hin 7 10 (by kernel_rfl) (by kernel_rfl))]; exact (postc rfl (Kept.refl _ _)))
    | 9, ho => exact absurd (show true = false from hs') (by decide)
    | 10, ho => exact absurd (show true = false from hs') (by decide)
    | 11, ho => exact absurd (show true = false from hs') (by decide)
    | 12, ho => exact absurd (show true = false from hs') (by decide)
    | 13, ho => exact absurd (show true = false from hs') (by decide)
    | 14, ho => exact absurd (show true = false from hs') (by decide)
    | 15, ho => exact absurd (show true = false from hs') (by decide)
    | 16, ho => exact absurd (show true = false from hs') (by decide)
    | 17, ho => exact absurd (show true = false from hs') (by decide)
    | 18, ho =>
      obtain rfl := Option.some.inj ho
      exact o_pickN (.tmp 11) (.tmp 20) rfl (hin 8 11 (by kernel_rfl) (by kernel_rfl)) (postc rfl (Kept.refl _ _))
    | 19, ho =>
      obtain rfl := Option.some.inj ho
      exact wp_assign (.tmp 21) rfl 2 rfl _ (hin 18 21 (by kernel_rfl) (by kernel_rfl)) (postc rfl (Kept.refl _ _))
  · intro vs w5 hlen hF hk5
    match vs, hlen with
    | [x0, x1, x2, x3, x4, x5, x6, x7, x8, x9, x10, x11, x12, x13, x14, x15, x16, x17, x18, x19], _ =>
    obtain rfl : x0 = _ := hF 0 _ rfl
    obtain rfl : x1 = _ := hF 1 _ rfl
    obtain rfl : x2 = _ := hF 2 _ rfl
    obtain rfl : x3 = _ := hF 3 _ rfl
    obtain rfl : x4 = _ := hF 4 _ rfl
    obtain rfl : x5 = _ := hF 5 _ rfl
    obtain rfl : x6 = _ := hF 6 _ rfl
    obtain rfl : x7 = _ := hF 7 _ rfl
    obtain rfl : x8 = _ := hF 8 _ rfl
    obtain rfl : x9 = _ := hF 9 _ rfl
    obtain rfl : x10 = _ := hF 10 _ rfl
    obtain rfl : x11 = _ := hF 11 _ rfl
    obtain rfl : x12 = _ := hF 12 _ rfl
    obtain rfl : x13 = _ := hF 13 _ rfl
    obtain rfl : x14 = _ := hF 14 _ rfl
    obtain rfl : x15 = _ := hF 15 _ rfl
    obtain rfl : x16 = _ := hF 16 _ rfl
    obtain rfl : x17 = _ := hF 17 _ rfl
    obtain rfl : x18 = _ := hF 18 _ rfl
    obtain rfl : x19 = _ := hF 19 _ rfl
    clear hF
    simp only [List.take_succ_cons, List.take_zero, putAll, Act.put, List.setIfInBounds_toArray, List.set_cons_succ, List.set_cons_zero]
    go_wp2_with fail
    go_ret
    exact ⟨rfl, K.trans hk5⟩
set_option maxHeartbeats 1000000 in
set_option maxRecDepth 100000 in
theorem may_pos (n : Int) (s : List Int) (e1 : decide (0 ≤ n) = true) (e2 : decide (n ≤ 2147483647) = true) (e3 : decide (0 < n) = true) (w : World) : Calls Tryd.prog 29 #[aggV (verC n s)] w fun e w' => e = .returned (.bool true) ∧ Kept [] w w' := by
  go_enter Tryd.func29, Tryd.ntmps29
  go_wp2_with (
    first
    | (refine wpBoxV 1 (by rfl) (by rfl) (.tmp 0) (by rfl) (verC n s) (by rfl) ?_
       intro W b hb B K
       have hc := fits_cell B 0 (.int .i64 n) rfl
       have hr : Hid (W.rangeAt b 1 (u8s s)) := B.rangeIn _ (fun j _ => by simp [verC, Nat.add_comm])
       have hk := hide K
       clear hb B K))
  go_ret
  exact ⟨rfl, unhide hk⟩
set_option maxHeartbeats 1000000 in
set_option maxRecDepth 100000 in
theorem may_nul (n : Int) (s : List Int) (hs : s.length = 96) (e1 : decide (0 ≤ n) = true) (e2 : decide (n ≤ 2147483647) = true) (e3 : decide (0 < n) = false) (w : World) : Calls Tryd.prog 29 #[aggV (verC n s)] w fun e w' => e = .returned (.bool (decide (s = zs 96))) ∧ Kept [] w w' := by
  go_enter Tryd.func29, Tryd.ntmps29
  go_wp2_with (
    first
    | (refine wpBoxV 1 (by rfl) (by rfl) (.tmp 0) (by rfl) (verC n s) (by rfl) ?_
       intro W b hb B K
       have hc := fits_cell B 0 (.int .i64 n) rfl
       have hr : Hid (W.rangeAt b 1 (u8s s)) := B.rangeIn _ (fun j _ => by simp [verC, Nat.add_comm])
       have hk := hide K
       clear hb B K)
    | (refine wpLoadG row23 (.tmp 16) (by rfl) (by rfl) b 1 (by rfl) (u8s s) (by rw [u8s_len, hs]) (unhide hr) ?_)
    | (refine wpBuildG _ (by rfl) (by rfl) #[] (by simp only [List.map_toArray, List.map_nil]) (u8s (zs 96)) (build23 _) ?_)
    | (refine wpEqlG 23 23 guard23 (.tmp 17) (.tmp 18) (by rfl) (by rfl) (u8s s) (u8s (zs 96)) (by rfl) (by rfl) _ (equal23 _ _ _ hs (zs_byts 96).len) ?_))
  go_ret
  exact ⟨rfl, unhide hk⟩
theorem may9 (n : Int) (s : List Int) (hs : s.length = 96) (w : World) : Calls Tryd.prog 29 #[aggV (verC n s)] w fun e w' => e = .returned (.bool (mayB n s)) ∧ Kept [] w w' := by
  by_cases h1 : 0 ≤ n
  · have e1 : decide (0 ≤ n) = true := decide_eq_true h1
    by_cases h2 : n ≤ 2147483647
    · have e2 : decide (n ≤ 2147483647) = true := decide_eq_true h2
      by_cases h3 : 0 < n
      · have e : mayB n s = true := decide_eq_true ⟨h1, h2, .inl h3⟩
        rw [e]
        exact may_pos n s e1 e2 (decide_eq_true h3) w
      · have e : mayB n s = decide (s = zs 96) := by
          unfold mayB
          rw [decide_eq_decide]
          exact ⟨fun h => h.2.2.elim (fun h => absurd h h3) id, fun h => ⟨h1, h2, .inr h⟩⟩
        rw [e]
        exact may_nul n s hs e1 e2 (decide_eq_false h3) w
    · have e : mayB n s = false := decide_eq_false (fun h => h2 h.2.1)
      rw [e]
      exact may_big n s e1 (decide_eq_false h2) w
  · have e : mayB n s = false := decide_eq_false (fun h => h1 h.1)
    rw [e]
    exact may_neg n s (decide_eq_false h1) w

theorem res30 (w : World) (z : Nat) (vs : List Value) (tmps : Array Value) (h4 : tmps[6]?.getD undef = P0 z) (hl : vs.length = 64) (hb : Blk w z 29 vs) : (results Tryd.f30 tmps).run Tryd.prog w = .ok (aggV vs) w := by
  have := loadV row29 hl hb
  simp [results, Tryd.results30, h4, this, asAddr]

/-- The first j bytes of a half are laid. -/
def halfJ (p h n : Int) (x : List Int) (j : Nat) : List Int := [(161 + h) % 256, p % 256, n / 16777216 % 256, n / 65536 % 256, n / 256 % 256, n % 256] ++ x.take j ++ zs (58 - j)
theorem halfJ_len (p h n : Int) {x : List Int} (hx : x.length = 48) (j : Nat) (hj : j ≤ 48) : (halfJ p h n x j).length = 64 := by simp [halfJ, hx, zs]; omega
theorem halfJ_set (p h n : Int) {x : List Int} (hx : x.length = 48) (j : Nat) (hj : j < 48) : (halfJ p h n x j).set (6 + j) (x[j]'(by omega)) = halfJ p h n x (j + 1) := by
  have ht : (x.take j).length = j := by rw [List.length_take]; omega
  obtain ⟨k, hk⟩ : ∃ k, 58 - j = k + 1 := ⟨57 - j, by omega⟩
  have hk2 : 58 - (j + 1) = k := by omega
  unfold halfJ
  rw [hk, hk2]
  have ht2 : x.take (j + 1) = x.take j ++ [x[j]'(by omega)] := List.take_succ_eq_append_getElem (by omega)
  rw [ht2]
  rw [List.set_append_right _ _ (by simp [ht]; omega), List.length_append, ht]
  simp only [List.length_cons, List.length_nil]
  rw [show 6 + j - (0 + 1 + 1 + 1 + 1 + 1 + 1 + j) = 0 by omega]
  simp only [zs, List.replicate_succ, List.set_cons_zero]
  simp only [List.append_assoc, List.cons_append, List.nil_append]
theorem halfJ_all (p h n : Int) {x : List Int} (hx : x.length = 48) : halfJ p h n x 48 = laidL p h n x := by
  unfold halfJ laidL
  rw [List.take_of_length_le (by omega)]
theorem put4 (p h n : Int) (x : List Int) : putPsn n 4 (laidBase p h) = halfJ p h n x 0 := by
  have e0 : n / 256 ^ 0 % 256 = n % 256 := by simp
  have e1 : n / 256 ^ 1 % 256 = n / 256 % 256 := by simp
  have e2 : n / 256 ^ 2 % 256 = n / 65536 % 256 := by simp
  have e3 : n / 256 ^ 3 % 256 = n / 16777216 % 256 := by simp
  show (((((laidBase p h).set 5 _).set 4 _).set 3 _).set 2 _) = _
  rw [e0, e1, e2, e3]
  rfl

end Go.Proofs.YtkpkiibahfdomaaDoor.Pg
