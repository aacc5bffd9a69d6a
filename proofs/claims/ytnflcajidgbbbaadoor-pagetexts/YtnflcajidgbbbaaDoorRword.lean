/-
  The walk of the document's Word, digit.
-/
import Derived.Test.YtnflcajidgbbbaaDoorBodyb
namespace Go.Proofs.YtnflcajidgbbbaaDoor
open Go.RowKit

section
variable {o : Oper} {a : Act} {w : World} {K : Act → World → Prop} {Q : Exit → Act → World → Prop}
theorem o_idxS (x y : Operand) (ho : o.op = .indexAddr 58 x y) (g n cap k : Nat) (hk : k < n) (hx : a.eval x = .slice (some ⟨g, 0, none⟩) n cap) (hy : a.eval y = .int .i64 k) (h : K (a.put o.dst (.pointer (some ⟨g, k, none⟩))) w) : o.wp Tryd.prog a w K Q := by
  unfold Oper.wp execOp
  simp only [ho, hx, hy]
  simp [go_sem, hk]
  exact h
theorem o_load5w (x : Operand) (ho : o.op = .load 5 x) (p : Addr) (v : Value) (hx : a.eval x = .pointer (some p)) (hc : w.cell? p = some v) (h : K (a.put o.dst v) w) : o.wp Tryd.prog a w K Q := by
  unfold Oper.wp execOp
  simp only [ho, hx]
  simp [go_sem, hc]
  exact h
end
theorem esc_of (x : Int) : esc x = if 33 ≤ x ∧ x ≤ 126 ∧ x ≠ 37 then [x] else [37, digC (x / 16), digC (x % 16)] := by
  unfold esc plainB
  by_cases h : 33 ≤ x ∧ x ≤ 126 ∧ x ≠ 37
  · rw [if_pos h, if_pos (by simp; omega)]
  · rw [if_neg h, if_neg (by simp; omega)]
theorem vs14 {vs : List Value} (h : vs.length = 14) : ∃ a b c d e f g i j k l m n o, vs = [a, b, c, d, e, f, g, i, j, k, l, m, n, o] := by
  match vs, h with
  | [a, b, c, d, e, f, g, i, j, k, l, m, n, o], _ => exact ⟨a, b, c, d, e, f, g, i, j, k, l, m, n, o, rfl⟩

set_option maxRecDepth 100000 in
theorem word_nil (w : World) : Calls Tryd.prog 36 #[.slice none 0 0] w fun e w' => e = .returned (strV [37]) ∧ Kept [] w w' := by
  go_enter Tryd.func36, Tryd.ntmps36
  go_wp2_with fail
  go_ret
  exact ⟨rfl, Kept.refl _ _⟩

set_option maxHeartbeats 4000000 in
set_option maxRecDepth 100000 in
theorem word36 (g n cap : Nat) (b : List Int) (hb : ∀ x ∈ b, 0 ≤ x ∧ x < 256) (hbn : b.length = n) (hn : 0 < n) (hn2 : n ≤ 9000) (w : World) (hr : w.rangeAt g 0 (u8s b)) : Calls Tryd.prog 36 #[.slice (some ⟨g, 0, none⟩) n cap] w fun e w' => e = .returned (strV (escs b)) ∧ Kept [] w w' := by
  have hn0 : ((n : Int) == 0) = false := beq_eq_false_iff_ne.2 (by omega)
  have HR := hide hr
  clear hr
  go_enter Tryd.func36, Tryd.ntmps36
  go_wp2_with fail
  go_loopw [4, 3] (fun i v wr => ∃ k : Nat, k ≤ n ∧ i = .int .i64 k ∧ wr.ownsRow w.heap.size 5 1 v (escs (b.take k)).length (u8s (escs (b.take k))) ∧ Hid (Kept [] w wr)) (fun i _ _ => n - (intOf i).toNat)
  case atStart => exact ⟨0, by omega, rfl, World.ownsRow_nil _ _ _ _, Kept.refl _ _⟩
  case round =>
    obtain ⟨k, hk2, rfl, hown, RK⟩ := hrel
    by_cases hlt : k < n
    · have hkl : k < b.length := by omega
      have hx := hb b[k] (List.getElem_mem hkl)
      have htk : b.take (k + 1) = b.take k ++ [b[k]] := List.take_succ_eq_append_getElem hkl
      obtain ⟨x, ex⟩ : ∃ x, b[k] = x := ⟨_, rfl⟩
      have q0 : w.cell? ⟨g, k, none⟩ = some (.int .u8 x) := by
        have := (unhide HR) k (.int .u8 x) (by simp [u8s, hkl, ex])
        rw [Nat.zero_add] at this
        exact this
      have q : wr.cell? ⟨g, k, none⟩ = some (.int .u8 x) := (unhide RK).cell q0 (by simp)
      rw [ex] at hx htk
      have HT := hide htk
      have hel := (escs_len (b.take k)).2
      have hel2 : (b.take k).length ≤ 9000 := by rw [List.length_take]; omega
      have hbase : w.heap.size ≤ wr.heap.size := (unhide RK).size
      have hHE := esc_of x
      clear htk ex q0
      by_cases h1 : 33 ≤ x
      · have e1 := decide_eq_true h1
        by_cases h2 : x ≤ 126
        · have e2 := decide_eq_true h2
          by_cases h3 : x = 37
          · have e3 : (x != 37) = false := by simp [h3]
            rw [if_neg (by omega)] at hHE
            have HE := hide hHE
            clear hHE h1 h2 h3
            go_wp2_with fail
            refine wp_region_prefix mixed 14 2 rfl (by kernel_rfl) (tb [.is u3, .is (.slice (some ⟨g, 0, none⟩) n cap), .is (.int .i64 k), .is (.pointer (some ⟨g, k, none⟩)), .is (.int .u8 x), .is (.int .u8 (x / 16)), .is (.int .u8 (digC (x / 16))), .is (.slice (some ⟨g, 0, none⟩) n cap), .is (.int .i64 k), .is (.pointer (some ⟨g, k, none⟩)), .is (.int .u8 x), .is (.int .u8 (x % 16)), .is (.int .u8 (digC (x % 16))), Fct.sl (u8s [37, digC (x / 16), digC (x % 16)]) wr.heap.size]) (fun _ _ _ _ => True) (tb_kept _) (by kernel_rfl) ?_ ?_
            · intro j o hj ho a w2 hout hin hk
              match j, ho with
              | 0, ho =>
                obtain rfl := Option.some.inj ho
                exact wp_move _ rfl ⟨_, rfl, (hout 3 (by kernel_rfl)).trans rfl, Kept.refl _ _, fun _ _ _ _ _ => trivial⟩
              | 1, ho =>
                obtain rfl := Option.some.inj ho
                exact wp_move _ rfl ⟨_, rfl, (hout 0 (by kernel_rfl)).trans rfl, Kept.refl _ _, fun _ _ _ _ _ => trivial⟩
              | 2, ho =>
                obtain rfl := Option.some.inj ho
                exact wp_move _ rfl ⟨_, rfl, (hout 4 (by kernel_rfl)).trans rfl, Kept.refl _ _, fun _ _ _ _ _ => trivial⟩
              | 3, ho =>
                obtain rfl := Option.some.inj ho
                exact o_idxS _ _ rfl g n cap k hlt (hin 1 41 (by kernel_rfl) (by kernel_rfl)) (hin 2 42 (by kernel_rfl) (by kernel_rfl)) ⟨_, rfl, rfl, Kept.refl _ _, fun _ _ _ _ _ => trivial⟩
              | 4, ho =>
                obtain rfl := Option.some.inj ho
                exact o_load5w _ rfl ⟨g, k, none⟩ _ (hin 3 43 (by kernel_rfl) (by kernel_rfl)) (hk.cell q (by simp)) ⟨_, rfl, rfl, Kept.refl _ _, fun _ _ _ _ _ => trivial⟩
              | 5, ho =>
                obtain rfl := Option.some.inj ho
                exact wp_shr4 _ rfl x (hin 4 44 (by kernel_rfl) (by kernel_rfl)) ⟨_, rfl, rfl, Kept.refl _ _, fun _ _ _ _ _ => trivial⟩
              | 6, ho =>
                obtain rfl := Option.some.inj ho
                exact wp_dig _ rfl (x / 16) (by omega) (hin 5 45 (by kernel_rfl) (by kernel_rfl)) ⟨_, rfl, rfl, Kept.refl _ _, fun _ _ _ _ _ => trivial⟩
              | 7, ho =>
                obtain rfl := Option.some.inj ho
                exact wp_move _ rfl ⟨_, rfl, (hout 0 (by kernel_rfl)).trans rfl, Kept.refl _ _, fun _ _ _ _ _ => trivial⟩
              | 8, ho =>
                obtain rfl := Option.some.inj ho
                exact wp_move _ rfl ⟨_, rfl, (hout 4 (by kernel_rfl)).trans rfl, Kept.refl _ _, fun _ _ _ _ _ => trivial⟩
              | 9, ho =>
                obtain rfl := Option.some.inj ho
                exact o_idxS _ _ rfl g n cap k hlt (hin 7 47 (by kernel_rfl) (by kernel_rfl)) (hin 8 48 (by kernel_rfl) (by kernel_rfl)) ⟨_, rfl, rfl, Kept.refl _ _, fun _ _ _ _ _ => trivial⟩
              | 10, ho =>
                obtain rfl := Option.some.inj ho
                exact o_load5w _ rfl ⟨g, k, none⟩ _ (hin 9 49 (by kernel_rfl) (by kernel_rfl)) (hk.cell q (by simp)) ⟨_, rfl, rfl, Kept.refl _ _, fun _ _ _ _ _ => trivial⟩
              | 11, ho =>
                obtain rfl := Option.some.inj ho
                exact wp_and15 _ rfl x hx (hin 10 50 (by kernel_rfl) (by kernel_rfl)) ⟨_, rfl, rfl, Kept.refl _ _, fun _ _ _ _ _ => trivial⟩
              | 12, ho =>
                obtain rfl := Option.some.inj ho
                exact wp_dig _ rfl (x % 16) (by omega) (hin 11 51 (by kernel_rfl) (by kernel_rfl)) ⟨_, rfl, rfl, Kept.refl _ _, fun _ _ _ _ _ => trivial⟩
              | 13, ho =>
                obtain rfl := Option.some.inj ho
                exact wp_bytes3 _ _ rfl _ _ (hin 6 46 (by kernel_rfl) (by kernel_rfl)) (hin 12 52 (by kernel_rfl) (by kernel_rfl)) ⟨_, rfl, ⟨_, rfl, hk.size, Blk.new' rfl⟩, (Kept.refl _ _).alloc _, fun _ _ _ _ _ => trivial⟩
            · intro vs w3 hlen hF _ hk3
              obtain ⟨x0, x1, x2, x3, x4, x5, x6, x7, x8, x9, x10, x11, x12, x13, rfl⟩ := vs14 hlen
              obtain rfl : x0 = u3 := hF 0 _ rfl
              obtain rfl : x1 = _ := hF 1 _ rfl
              obtain rfl : x2 = _ := hF 2 _ rfl
              obtain rfl : x3 = _ := hF 3 _ rfl
              obtain rfl : x4 = _ := hF 4 _ rfl
              obtain rfl : x5 = _ := hF 5 _ rfl
              obtain rfl : x6 = _ := hF 6 _ rfl
              obtain rfl : x7 = _ := hF 7 _ rfl
              obtain rfl : x8 = _ := hF 8 _ rfl
              obtain rfl : x9 = _ := hF 9 _ rfl
              obtain rfl : x10 = _ := hF 10 _ rfl
              obtain rfl : x11 = _ := hF 11 _ rfl
              obtain rfl : x12 = _ := hF 12 _ rfl
              obtain ⟨q7, rfl, hq7, hb7⟩ : ∃ q, x13 = .slice (some ⟨q, 0, none⟩) 3 3 ∧ wr.heap.size ≤ q ∧ Blk w3 q 5 (u8s [37, digC (x / 16), digC (x % 16)]) := hF 13 _ rfl
              clear hF hlen
              simp only [List.take_succ_cons, List.take_zero, putAll, Act.put, List.setIfInBounds_toArray, List.set_cons_succ, List.set_cons_zero]
              refine wpAny_all (rs := [14]) (by kernel_rfl) (by simp) ?_
              intro i hi
              obtain rfl : i = 14 := by simpa using hi
              refine wpOp_of rfl rfl (wp_appN 54 rfl (.tmp 40) (.tmp 53) rfl w.heap.size x0 (escs (b.take k)) rfl q7 3 _ rfl hb7 rfl (owns_kept hown hk3) (by omega) (Nat.le_trans hbase hk3.size) ?_)
              intro v1 w1 hown1 hg1
              simp only [Act.put, List.setIfInBounds_toArray, List.set_cons_succ, List.set_cons_zero]
              refine wpAny_all (rs := [15]) (by kernel_rfl) (by simp) ?_
              intro i hi
              obtain rfl : i = 15 := by simpa using hi
              refine wpOp_of rfl rfl (wp_assign (.tmp 54) rfl 3 rfl v1 rfl ?_)
              simp only [Act.put, List.setIfInBounds_toArray, List.set_cons_succ, List.set_cons_zero]
              refine wpAny_done (by kernel_rfl) ?_ _
              have RK1 : Hid (Kept [] w w1) := kept_own ((unhide RK).trans hk3) hg1 (owns_kept hown hk3) (by omega)
              clear hg1 hown RK hi hk3 hb7 q
              go_wp2_with fail
              go_roundw
              case rel =>
                refine ⟨k + 1, by omega, by go_num, ?_, RK1⟩
                rw [unhide HT, escs_snoc, unhide HE]
                exact hown1
              case measure => simp [intOf]; omega
          · have e3 : (x != 37) = true := by simp [h3]
            rw [if_pos (by omega)] at hHE
            have HE := hide hHE
            clear hHE h1 h2 h3
            go_wp2_with (at_builtin; go_must (refine wpAppN rfl (.tmp 33) (.tmp 38) rfl w.heap.size _ (escs (b.take k)) rfl wr.heap.size 1 [x] rfl (Blk.new' rfl) rfl (owns_kept hown ((Kept.refl _ _).alloc _)) (by omega) (by simp; omega) ?_))
            intro v1 w1 hown1 hg1
            have hg2 : wr.grownBy w1 u3.ownBlock := grownBy_trans (World.grownBy_alloc _ _ _) hg1
            have RK1 : Hid (Kept [] w w1) := kept_own (unhide RK) hg2 hown (by omega)
            clear hg1 hg2 hown RK q
            go_wp2_with fail
            go_roundw
            case rel =>
              refine ⟨k + 1, by omega, by go_num, ?_, RK1⟩
              rw [unhide HT, escs_snoc, unhide HE, List.length_append]
              exact hown1
            case measure => simp [intOf]; omega
        · have e2 := decide_eq_false h2
          rw [if_neg (by omega)] at hHE
          have HE := hide hHE
          clear hHE h1 h2
          go_wp2_with fail
          refine wp_region_prefix mixed 14 2 rfl (by kernel_rfl) (tb [.is u3, .is (.slice (some ⟨g, 0, none⟩) n cap), .is (.int .i64 k), .is (.pointer (some ⟨g, k, none⟩)), .is (.int .u8 x), .is (.int .u8 (x / 16)), .is (.int .u8 (digC (x / 16))), .is (.slice (some ⟨g, 0, none⟩) n cap), .is (.int .i64 k), .is (.pointer (some ⟨g, k, none⟩)), .is (.int .u8 x), .is (.int .u8 (x % 16)), .is (.int .u8 (digC (x % 16))), Fct.sl (u8s [37, digC (x / 16), digC (x % 16)]) wr.heap.size]) (fun _ _ _ _ => True) (tb_kept _) (by kernel_rfl) ?_ ?_
          · intro j o hj ho a w2 hout hin hk
            match j, ho with
            | 0, ho =>
              obtain rfl := Option.some.inj ho
              exact wp_move _ rfl ⟨_, rfl, (hout 3 (by kernel_rfl)).trans rfl, Kept.refl _ _, fun _ _ _ _ _ => trivial⟩
            | 1, ho =>
              obtain rfl := Option.some.inj ho
              exact wp_move _ rfl ⟨_, rfl, (hout 0 (by kernel_rfl)).trans rfl, Kept.refl _ _, fun _ _ _ _ _ => trivial⟩
            | 2, ho =>
              obtain rfl := Option.some.inj ho
              exact wp_move _ rfl ⟨_, rfl, (hout 4 (by kernel_rfl)).trans rfl, Kept.refl _ _, fun _ _ _ _ _ => trivial⟩
            | 3, ho =>
              obtain rfl := Option.some.inj ho
              exact o_idxS _ _ rfl g n cap k hlt (hin 1 41 (by kernel_rfl) (by kernel_rfl)) (hin 2 42 (by kernel_rfl) (by kernel_rfl)) ⟨_, rfl, rfl, Kept.refl _ _, fun _ _ _ _ _ => trivial⟩
            | 4, ho =>
              obtain rfl := Option.some.inj ho
              exact o_load5w _ rfl ⟨g, k, none⟩ _ (hin 3 43 (by kernel_rfl) (by kernel_rfl)) (hk.cell q (by simp)) ⟨_, rfl, rfl, Kept.refl _ _, fun _ _ _ _ _ => trivial⟩
            | 5, ho =>
              obtain rfl := Option.some.inj ho
              exact wp_shr4 _ rfl x (hin 4 44 (by kernel_rfl) (by kernel_rfl)) ⟨_, rfl, rfl, Kept.refl _ _, fun _ _ _ _ _ => trivial⟩
            | 6, ho =>
              obtain rfl := Option.some.inj ho
              exact wp_dig _ rfl (x / 16) (by omega) (hin 5 45 (by kernel_rfl) (by kernel_rfl)) ⟨_, rfl, rfl, Kept.refl _ _, fun _ _ _ _ _ => trivial⟩
            | 7, ho =>
              obtain rfl := Option.some.inj ho
              exact wp_move _ rfl ⟨_, rfl, (hout 0 (by kernel_rfl)).trans rfl, Kept.refl _ _, fun _ _ _ _ _ => trivial⟩
            | 8, ho =>
              obtain rfl := Option.some.inj ho
              exact wp_move _ rfl ⟨_, rfl, (hout 4 (by kernel_rfl)).trans rfl, Kept.refl _ _, fun _ _ _ _ _ => trivial⟩
            | 9, ho =>
              obtain rfl := Option.some.inj ho
              exact o_idxS _ _ rfl g n cap k hlt (hin 7 47 (by kernel_rfl) (by kernel_rfl)) (hin 8 48 (by kernel_rfl) (by kernel_rfl)) ⟨_, rfl, rfl, Kept.refl _ _, fun _ _ _ _ _ => trivial⟩
            | 10, ho =>
              obtain rfl := Option.some.inj ho
              exact o_load5w _ rfl ⟨g, k, none⟩ _ (hin 9 49 (by kernel_rfl) (by kernel_rfl)) (hk.cell q (by simp)) ⟨_, rfl, rfl, Kept.refl _ _, fun _ _ _ _ _ => trivial⟩
            | 11, ho =>
              obtain rfl := Option.some.inj ho
              exact wp_and15 _ rfl x hx (hin 10 50 (by kernel_rfl) (by kernel_rfl)) ⟨_, rfl, rfl, Kept.refl _ _, fun _ _ _ _ _ => trivial⟩
            | 12, ho =>
              obtain rfl := Option.some.inj ho
              exact wp_dig _ rfl (x % 16) (by omega) (hin 11 51 (by kernel_rfl) (by kernel_rfl)) ⟨_, rfl, rfl, Kept.refl _ _, fun _ _ _ _ _ => trivial⟩
            | 13, ho =>
              obtain rfl := Option.some.inj ho
              exact wp_bytes3 _ _ rfl _ _ (hin 6 46 (by kernel_rfl) (by kernel_rfl)) (hin 12 52 (by kernel_rfl) (by kernel_rfl)) ⟨_, rfl, ⟨_, rfl, hk.size, Blk.new' rfl⟩, (Kept.refl _ _).alloc _, fun _ _ _ _ _ => trivial⟩
          · intro vs w3 hlen hF _ hk3
            obtain ⟨x0, x1, x2, x3, x4, x5, x6, x7, x8, x9, x10, x11, x12, x13, rfl⟩ := vs14 hlen
            obtain rfl : x0 = u3 := hF 0 _ rfl
            obtain rfl : x1 = _ := hF 1 _ rfl
            obtain rfl : x2 = _ := hF 2 _ rfl
            obtain rfl : x3 = _ := hF 3 _ rfl
            obtain rfl : x4 = _ := hF 4 _ rfl
            obtain rfl : x5 = _ := hF 5 _ rfl
            obtain rfl : x6 = _ := hF 6 _ rfl
            obtain rfl : x7 = _ := hF 7 _ rfl
            obtain rfl : x8 = _ := hF 8 _ rfl
            obtain rfl : x9 = _ := hF 9 _ rfl
            obtain rfl : x10 = _ := hF 10 _ rfl
            obtain rfl : x11 = _ := hF 11 _ rfl
            obtain rfl : x12 = _ := hF 12 _ rfl
            obtain ⟨q7, rfl, hq7, hb7⟩ : ∃ q, x13 = .slice (some ⟨q, 0, none⟩) 3 3 ∧ wr.heap.size ≤ q ∧ Blk w3 q 5 (u8s [37, digC (x / 16), digC (x % 16)]) := hF 13 _ rfl
            clear hF hlen
            simp only [List.take_succ_cons, List.take_zero, putAll, Act.put, List.setIfInBounds_toArray, List.set_cons_succ, List.set_cons_zero]
            refine wpAny_all (rs := [14]) (by kernel_rfl) (by simp) ?_
            intro i hi
            obtain rfl : i = 14 := by simpa using hi
            refine wpOp_of rfl rfl (wp_appN 54 rfl (.tmp 40) (.tmp 53) rfl w.heap.size x0 (escs (b.take k)) rfl q7 3 _ rfl hb7 rfl (owns_kept hown hk3) (by omega) (Nat.le_trans hbase hk3.size) ?_)
            intro v1 w1 hown1 hg1
            simp only [Act.put, List.setIfInBounds_toArray, List.set_cons_succ, List.set_cons_zero]
            refine wpAny_all (rs := [15]) (by kernel_rfl) (by simp) ?_
            intro i hi
            obtain rfl : i = 15 := by simpa using hi
            refine wpOp_of rfl rfl (wp_assign (.tmp 54) rfl 3 rfl v1 rfl ?_)
            simp only [Act.put, List.setIfInBounds_toArray, List.set_cons_succ, List.set_cons_zero]
            refine wpAny_done (by kernel_rfl) ?_ _
            have RK1 : Hid (Kept [] w w1) := kept_own ((unhide RK).trans hk3) hg1 (owns_kept hown hk3) (by omega)
            clear hg1 hown RK hi hk3 hb7 q
            go_wp2_with fail
            go_roundw
            case rel =>
              refine ⟨k + 1, by omega, by go_num, ?_, RK1⟩
              rw [unhide HT, escs_snoc, unhide HE]
              exact hown1
            case measure => simp [intOf]; omega
      · have e1 := decide_eq_false h1
        rw [if_neg (by omega)] at hHE
        have HE := hide hHE
        clear hHE h1
        go_wp2_with fail
        refine wp_region_prefix mixed 14 2 rfl (by kernel_rfl) (tb [.is u3, .is (.slice (some ⟨g, 0, none⟩) n cap), .is (.int .i64 k), .is (.pointer (some ⟨g, k, none⟩)), .is (.int .u8 x), .is (.int .u8 (x / 16)), .is (.int .u8 (digC (x / 16))), .is (.slice (some ⟨g, 0, none⟩) n cap), .is (.int .i64 k), .is (.pointer (some ⟨g, k, none⟩)), .is (.int .u8 x), .is (.int .u8 (x % 16)), .is (.int .u8 (digC (x % 16))), Fct.sl (u8s [37, digC (x / 16), digC (x % 16)]) wr.heap.size]) (fun _ _ _ _ => True) (tb_kept _) (by kernel_rfl) ?_ ?_
        · intro j o hj ho a w2 hout hin hk
          match j, ho with
          | 0, ho =>
            obtain rfl := Option.some.inj ho
            exact wp_move _ rfl ⟨_, rfl, (hout 3 (by kernel_rfl)).trans rfl, Kept.refl _ _, fun _ _ _ _ _ => trivial⟩
          | 1, ho =>
            obtain rfl := Option.some.inj ho
            exact wp_move _ rfl ⟨_, rfl, (hout 0 (by kernel_rfl)).trans rfl, Kept.refl _ _, fun _ _ _ _ _ => trivial⟩
          | 2, ho =>
            obtain rfl := Option.some.inj ho
            exact wp_move _ rfl ⟨_, rfl, (hout 4 (by kernel_rfl)).trans rfl, Kept.refl _ _, fun _ _ _ _ _ => trivial⟩
          | 3, ho =>
            obtain rfl := Option.some.inj ho
            exact o_idxS _ _ rfl g n cap k hlt (hin 1 41 (by kernel_rfl) (by kernel_rfl)) (hin 2 42 (by kernel_rfl) (by kernel_rfl)) ⟨_, rfl, rfl, Kept.refl _ _, fun _ _ _ _ _ => trivial⟩
          | 4, ho =>
            obtain rfl := Option.some.inj ho
            exact o_load5w _ rfl ⟨g, k, none⟩ _ (hin 3 43 (by kernel_rfl) (by kernel_rfl)) (hk.cell q (by simp)) ⟨_, rfl, rfl, Kept.refl _ _, fun _ _ _ _ _ => trivial⟩
          | 5, ho =>
            obtain rfl := Option.some.inj ho
            exact wp_shr4 _ rfl x (hin 4 44 (by kernel_rfl) (by kernel_rfl)) ⟨_, rfl, rfl, Kept.refl _ _, fun _ _ _ _ _ => trivial⟩
          | 6, ho =>
            obtain rfl := Option.some.inj ho
            exact wp_dig _ rfl (x / 16) (by omega) (hin 5 45 (by kernel_rfl) (by kernel_rfl)) ⟨_, rfl, rfl, Kept.refl _ _, fun _ _ _ _ _ => trivial⟩
          | 7, ho =>
            obtain rfl := Option.some.inj ho
            exact wp_move _ rfl ⟨_, rfl, (hout 0 (by kernel_rfl)).trans rfl, Kept.refl _ _, fun _ _ _ _ _ => trivial⟩
          | 8, ho =>
            obtain rfl := Option.some.inj ho
            exact wp_move _ rfl ⟨_, rfl, (hout 4 (by kernel_rfl)).trans rfl, Kept.refl _ _, fun _ _ _ _ _ => trivial⟩
          | 9, ho =>
            obtain rfl := Option.some.inj ho
            exact o_idxS _ _ rfl g n cap k hlt (hin 7 47 (by kernel_rfl) (by kernel_rfl)) (hin 8 48 (by kernel_rfl) (by kernel_rfl)) ⟨_, rfl, rfl, Kept.refl _ _, fun _ _ _ _ _ => trivial⟩
          | 10, ho =>
            obtain rfl := Option.some.inj ho
            exact o_load5w _ rfl ⟨g, k, none⟩ _ (hin 9 49 (by kernel_rfl) (by kernel_rfl)) (hk.cell q (by simp)) ⟨_, rfl, rfl, Kept.refl _ _, fun _ _ _ _ _ => trivial⟩
          | 11, ho =>
            obtain rfl := Option.some.inj ho
            exact wp_and15 _ rfl x hx (hin 10 50 (by kernel_rfl) (by kernel_rfl)) ⟨_, rfl, rfl, Kept.refl _ _, fun _ _ _ _ _ => trivial⟩
          | 12, ho =>
            obtain rfl := Option.some.inj ho
            exact wp_dig _ rfl (x % 16) (by omega) (hin 11 51 (by kernel_rfl) (by kernel_rfl)) ⟨_, rfl, rfl, Kept.refl _ _, fun _ _ _ _ _ => trivial⟩
          | 13, ho =>
            obtain rfl := Option.some.inj ho
            exact wp_bytes3 _ _ rfl _ _ (hin 6 46 (by kernel_rfl) (by kernel_rfl)) (hin 12 52 (by kernel_rfl) (by kernel_rfl)) ⟨_, rfl, ⟨_, rfl, hk.size, Blk.new' rfl⟩, (Kept.refl _ _).alloc _, fun _ _ _ _ _ => trivial⟩
        · intro vs w3 hlen hF _ hk3
          obtain ⟨x0, x1, x2, x3, x4, x5, x6, x7, x8, x9, x10, x11, x12, x13, rfl⟩ := vs14 hlen
          obtain rfl : x0 = u3 := hF 0 _ rfl
          obtain rfl : x1 = _ := hF 1 _ rfl
          obtain rfl : x2 = _ := hF 2 _ rfl
          obtain rfl : x3 = _ := hF 3 _ rfl
          obtain rfl : x4 = _ := hF 4 _ rfl
          obtain rfl : x5 = _ := hF 5 _ rfl
          obtain rfl : x6 = _ := hF 6 _ rfl
          obtain rfl : x7 = _ := hF 7 _ rfl
          obtain rfl : x8 = _ := hF 8 _ rfl
          obtain rfl : x9 = _ := hF 9 _ rfl
          obtain rfl : x10 = _ := hF 10 _ rfl
          obtain rfl : x11 = _ := hF 11 _ rfl
          obtain rfl : x12 = _ := hF 12 _ rfl
          obtain ⟨q7, rfl, hq7, hb7⟩ : ∃ q, x13 = .slice (some ⟨q, 0, none⟩) 3 3 ∧ wr.heap.size ≤ q ∧ Blk w3 q 5 (u8s [37, digC (x / 16), digC (x % 16)]) := hF 13 _ rfl
          clear hF hlen
          simp only [List.take_succ_cons, List.take_zero, putAll, Act.put, List.setIfInBounds_toArray, List.set_cons_succ, List.set_cons_zero]
          refine wpAny_all (rs := [14]) (by kernel_rfl) (by simp) ?_
          intro i hi
          obtain rfl : i = 14 := by simpa using hi
          refine wpOp_of rfl rfl (wp_appN 54 rfl (.tmp 40) (.tmp 53) rfl w.heap.size x0 (escs (b.take k)) rfl q7 3 _ rfl hb7 rfl (owns_kept hown hk3) (by omega) (Nat.le_trans hbase hk3.size) ?_)
          intro v1 w1 hown1 hg1
          simp only [Act.put, List.setIfInBounds_toArray, List.set_cons_succ, List.set_cons_zero]
          refine wpAny_all (rs := [15]) (by kernel_rfl) (by simp) ?_
          intro i hi
          obtain rfl : i = 15 := by simpa using hi
          refine wpOp_of rfl rfl (wp_assign (.tmp 54) rfl 3 rfl v1 rfl ?_)
          simp only [Act.put, List.setIfInBounds_toArray, List.set_cons_succ, List.set_cons_zero]
          refine wpAny_done (by kernel_rfl) ?_ _
          have RK1 : Hid (Kept [] w w1) := kept_own ((unhide RK).trans hk3) hg1 (owns_kept hown hk3) (by omega)
          clear hg1 hown RK hi hk3 hb7 q
          go_wp2_with fail
          go_roundw
          case rel =>
            refine ⟨k + 1, by omega, by go_num, ?_, RK1⟩
            rw [unhide HT, escs_snoc, unhide HE]
            exact hown1
          case measure => simp [intOf]; omega
    · obtain rfl : k = n := by omega
      have hel := (escs_len (b.take k)).1
      have htl : b.take k = b := List.take_of_length_le (by omega)
      rw [htl] at hown hel
      obtain ⟨L, hL⟩ : ∃ L, escs b = L := ⟨_, rfl⟩
      rw [hL] at hown hel
      have HL := hide hL
      rcases own_range hown with ⟨rfl, hn0⟩ | ⟨g2, cap2, rfl, hr⟩
      · omega
      · have HQ := hide hr
        clear hown hL hr
        go_wp2_with (refine wpStr rfl (.tmp 55) rfl g2 L.length cap2 L rfl rfl (unhide HQ) ?_)
        go_ret
        exact ⟨by rw [unhide HL]; rfl, unhide RK⟩

/-- A digit to the base 16, as the document has it. -/
def rdig (c : Int) : Int := if 48 ≤ c ∧ c ≤ 57 then c - 48 else if 65 ≤ c ∧ c ≤ 70 then c - 55 else 16
set_option maxRecDepth 100000 in
theorem rdigit45 (c : Int) (hc : 0 ≤ c ∧ c < 256) (w : World) : Calls Tryd.prog 45 #[.int .u8 c] w fun e w' => e = .returned (.int .u8 (rdig c)) ∧ w' = w := by
  unfold rdig
  by_cases h1 : 48 ≤ c ∧ c ≤ 57
  · rw [if_pos h1]
    have e1 := decide_eq_true h1.1
    have e2 := decide_eq_true h1.2
    have ew : (c - 48) % 256 = c - 48 := by omega
    go_enter Tryd.func45, Tryd.ntmps45
    go_wp2_with fail
    go_ret
    exact ⟨by first | rfl | rw [ew] | simp [ew], rfl⟩
  · rw [if_neg h1]
    by_cases h2 : 65 ≤ c ∧ c ≤ 70
    · rw [if_pos h2]
      have e1 : decide (48 ≤ c) = true := decide_eq_true (by omega)
      have e2 : decide (c ≤ 57) = false := decide_eq_false (by omega)
      have e3 := decide_eq_true h2.1
      have e4 := decide_eq_true h2.2
      go_enter Tryd.func45, Tryd.ntmps45
      go_wp2_with fail
      go_ret
      refine ⟨?_, rfl⟩
      show Ending.returned (.int .u8 (c - 65 + 10)) = .returned (.int .u8 (c - 55))
      rw [show c - 65 + 10 = c - 55 by omega]
    · rw [if_neg h2]
      by_cases h3 : 48 ≤ c
      · have e1 := decide_eq_true h3
        have e2 : decide (c ≤ 57) = false := decide_eq_false (by omega)
        by_cases h4 : 65 ≤ c
        · have e3 := decide_eq_true h4
          have e4 : decide (c ≤ 70) = false := decide_eq_false (by omega)
          go_enter Tryd.func45, Tryd.ntmps45
          go_wp2_with fail
          go_ret
          exact ⟨rfl, rfl⟩
        · have e3 := decide_eq_false h4
          go_enter Tryd.func45, Tryd.ntmps45
          go_wp2_with fail
          go_ret
          exact ⟨rfl, rfl⟩
      · have e1 := decide_eq_false h3
        have e3 : decide (65 ≤ c) = false := decide_eq_false (by omega)
        go_enter Tryd.func45, Tryd.ntmps45
        go_wp2_with fail
        go_ret
        exact ⟨rfl, rfl⟩

end Go.Proofs.YtnflcajidgbbbaaDoor
