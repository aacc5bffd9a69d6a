/-
  The walk of Text, its loop.
-/
import Derived.Test.YtnflcajidgbbbaaDoorTxt
namespace Go.Proofs.YtnflcajidgbbbaaDoor
open Go.RowKit

section
variable {o : Oper} {a : Act} {w : World} {K : Act → World → Prop} {Q : Exit → Act → World → Prop}
theorem wp_move {P : Program} (x : Operand) (ho : o.op = .move x) (h : K (a.put o.dst (a.eval x)) w) : o.wp P a w K Q := by
  unfold Oper.wp execOp
  simp only [ho]
  exact h
theorem wp_assign {P : Program} (x : Operand) (ho : o.op = .assign x) (d : Nat) (hd : o.dst = some d) (v : Value) (hx : a.eval x = v) (h : K (a.put (some d) v) w) : o.wp P a w K Q := by
  subst hx
  rw [← hd] at h
  unfold Oper.wp execOp
  simp only [ho]
  exact h
theorem wp_shr4 (x : Operand) (ho : o.op = .binOp .shr 5 x (.const (.int .u64 4)) 69) (c : Int) (hx : a.eval x = .int .u8 c) (h : K (a.put o.dst (.int .u8 (c / 16))) w) : o.wp Tryd.prog a w K Q := by
  unfold Oper.wp execOp
  simp only [ho, hx]
  simp [go_sem]
  exact h
theorem wp_and15 (x : Operand) (ho : o.op = .binOp .and 5 x (.const (.int .u8 15)) 5) (c : Int) (hc : 0 ≤ c ∧ c < 256) (hx : a.eval x = .int .u8 c) (h : K (a.put o.dst (.int .u8 (c % 16))) w) : o.wp Tryd.prog a w K Q := by
  have hb : bits .and .u8 c 15 = c % 16 := bits_mask .u8 8 (by decide) wraps_u8 4 (by decide) c hc.1 hc.2
  unfold Oper.wp execOp
  simp only [ho, hx]
  simp [go_sem, hb]
  exact h
theorem wp_dig (x : Operand) (ho : o.op = .index 9 (.const (.string ⟨#[48, 49, 50, 51, 52, 53, 54, 55, 56, 57, 65, 66, 67, 68, 69, 70]⟩)) x) (k : Int) (hk : 0 ≤ k ∧ k < 16) (hx : a.eval x = .int .u8 k) (h : K (a.put o.dst (.int .u8 (digC k))) w) : o.wp Tryd.prog a w K Q := by
  unfold Oper.wp execOp
  simp only [ho, hx]
  rcases (show k = 0 ∨ k = 1 ∨ k = 2 ∨ k = 3 ∨ k = 4 ∨ k = 5 ∨ k = 6 ∨ k = 7 ∨ k = 8 ∨ k = 9 ∨ k = 10 ∨ k = 11 ∨ k = 12 ∨ k = 13 ∨ k = 14 ∨ k = 15 by omega) with rfl | rfl | rfl | rfl | rfl | rfl | rfl | rfl | rfl | rfl | rfl | rfl | rfl | rfl | rfl | rfl
  all_goals exact h
theorem wp_bytes3 (x y : Operand) (ho : o.op = .buildSlice 58 3 #[(0, .const (.int .u8 37)), (1, x), (2, y)]) (c d : Int) (hx : a.eval x = .int .u8 c) (hy : a.eval y = .int .u8 d) (h : K (a.put o.dst (.slice (some ⟨w.heap.size, 0, none⟩) 3 3)) (w.alloc (.cells (u8s [37, c, d]).toArray 5))) : o.wp Tryd.prog a w K Q := by
  unfold Oper.wp execOp
  simp only [ho]
  simp only [List.map_toArray, List.map_cons, List.map_nil, hx, hy]
  simp [go_sem]
  exact h
/-- 'append' as a step of a region. -/
theorem wp_appN (d : Nat) (hd : o.dst = some d) (s x : Operand) (ho : o.op = .call { callee := .builtin .append, args := #[s, x], argTypes := #[58, 58] })
    (B : Nat) (v : Value) (l : List Int) (hs : a.eval s = v) (q m : Nat) (xs : List Int) (hm : xs.length = m) (hq : Blk w q 5 (u8s xs)) (hx : a.eval x = .slice (some ⟨q, 0, none⟩) m m)
    (hown : w.ownsRow B 5 1 v l.length (u8s l)) (hlen : l.length + m ≤ 140737488355328) (hbase : B ≤ w.heap.size)
    (h : ∀ v' w', w'.ownsRow B 5 1 v' (l ++ xs).length (u8s (l ++ xs)) → w.grownBy w' v.ownBlock → K (a.put (some d) v') w') : o.wp Tryd.prog a w K Q := by
  obtain ⟨i0, hi, hz0, hz1, hz2⟩ := info_parts Tryd.info5
  rw [← hd] at h
  refine wp_append_own (P := Tryd.prog) _ s x 58 ho B 5 i0 (.int .u8 0) 1 1 Tryd.underlying58 hi hz0 hz1 hz2 rfl (by decide) v _ _ hs hown ⟨q, 0, none⟩ m m (u8s xs) hx (by rw [u8s_len, hm, Nat.mul_one]) (fun j u hj => by rw [Addr.add_mid]; exact hq.range j u hj) (u8s_one _) (by unfold maxLen; omega) (by omega) hbase ?_
  intro v' w' g1 g2 _
  refine h v' w' ?_ g2
  rw [u8s_app, List.length_append, hm]; exact g1
end

/-- What is known of a value: it is this one, or a slice of a new block that has these cells. -/
inductive Fct
  | is (v : Value)
  | sl (vs : List Value) (B : Nat)
def Fct.at (v : Value) (w : World) : Fct → Prop
  | .is u => v = u
  | .sl vs B => ∃ q, v = .slice (some ⟨q, 0, none⟩) vs.length vs.length ∧ B ≤ q ∧ Blk w q 5 vs
def tb (fs : List Fct) (j : Nat) (v : Value) (w : World) : Prop := match fs[j]? with
  | some f => f.at v w
  | none => True
theorem tb_kept (fs : List Fct) : ∀ j v w w', tb fs j v w → Kept [] w w' → tb fs j v w' := by
  intro j v w w' h hk
  unfold tb at *
  cases hf : fs[j]? with
  | none => trivial
  | some f =>
    rw [hf] at h
    cases f with
    | is u => exact h
    | sl vs B =>
      obtain ⟨q, h1, h2, h3⟩ := h
      exact ⟨q, h1, h2, h3.kept hk (by simp)⟩
theorem vs8 {vs : List Value} (h : vs.length = 8) : ∃ a b c d e f g i, vs = [a, b, c, d, e, f, g, i] := by
  match vs, h with
  | [a, b, c, d, e, f, g, i], _ => exact ⟨a, b, c, d, e, f, g, i, rfl⟩

theorem owns_kept {W W' : World} {base n : Nat} {v : Value} {xs : List Value} (h : W.ownsRow base 5 1 v n xs) (hk : Kept [] W W') : W'.ownsRow base 5 1 v n xs := by
  refine ⟨h.1, ?_⟩
  rcases h.2 with h1 | ⟨g, cap, cur, e, h2, h3, h4⟩
  · exact .inl h1
  · exact .inr ⟨g, cap, cur, e, h2, hk.heap h3 (by simp), h4⟩

theorem esc_plain {c : Int} (h : plainB c = true) : esc c = [c] := by simp [esc, h]
theorem esc_not {c : Int} (h : plainB c = false) : esc c = [37, digC (c / 16), digC (c % 16)] := by simp [esc, h]

theorem push_all : ∀ (ns : List Int) (r : ByteArray), ns.foldl (fun r n => r.push (UInt8.ofNat n.toNat)) r = ⟨r.data ++ (ns.map fun x => UInt8.ofNat x.toNat).toArray⟩
  | [], r => by simp
  | n :: ns, r => by
    rw [List.foldl_cons, push_all ns]
    simp [ByteArray.push]
theorem run_str (w : World) (g cap : Nat) (l : List Int) (h : w.rangeAt g 0 (u8s l)) : (convert 58 9 (.slice (some ⟨g, 0, none⟩) l.length cap)).run Tryd.prog w = .ok (strV l) w := by
  rw [run_convert_bytes_string (P := Tryd.prog) w 58 9 5 _ _ _ Tryd.underlying58 Tryd.underlying5 Tryd.underlying9]
  have hl := run_loadCells_list (P := Tryd.prog) w ⟨g, 0, none⟩ (u8s l) (fun j v hj => by rw [Addr.add_mid]; exact h j v hj)
  rw [u8s_len] at hl
  rw [run_bytesToString (P := Tryd.prog) w _ _ _ l hl, push_all]
  have he : ByteArray.empty.data = #[] := rfl
  rw [he]
  simp [strV]
theorem wpStr {ops : Array Oper} {rest : List Oper} {op : Oper} {a : Act} {w : World} {Q : Exit → Act → World → Prop} (hgd : op.guard = none) (x : Operand) (ho : op.op = .convert 58 9 x) (g n cap : Nat) (l : List Int) (hn : l.length = n) (hx : a.eval x = .slice (some ⟨g, 0, none⟩) n cap) (hr : w.rangeAt g 0 (u8s l))
    (h : wpList Tryd.prog ops Q rest (a.put op.dst (strV l)) w) : wpList Tryd.prog ops Q (op :: rest) a w :=
  wpList_plain hgd fun K hK => by
    subst hn
    unfold Oper.wp execOp
    simp only [ho, hx, Sem.run_bind, run_str w g cap l hr, Result.andThen_ok]
    exact hK _ _ h
theorem own_range {W : World} {base n : Nat} {v : Value} {xs : List Value} (h : W.ownsRow base 5 1 v n xs) : (v = .slice none 0 0 ∧ n = 0) ∨ ∃ g cap, v = .slice (some ⟨g, 0, none⟩) n cap ∧ W.rangeAt g 0 xs := by
  rcases h.2 with ⟨h1, h2⟩ | ⟨g, cap, cur, e, h2, h3, h4⟩
  · exact .inl ⟨h1, h2⟩
  · refine .inr ⟨g, cap, e, fun j v hj => ?_⟩
    obtain ⟨h4, h5, h6, h7⟩ := h4
    have hjn : j < n := by
      have := (List.getElem?_eq_some_iff.1 hj).1
      rw [h.1] at this
      omega
    rw [cell_of_block h3, Nat.zero_add, ← hj, ← h7, Nat.mul_one, List.getElem?_take_of_lt hjn]
    simp

set_option maxHeartbeats 2000000 in
set_option maxRecDepth 100000 in
theorem text19 (s : List Int) (hs : Byts 96 s) (w : World) : Calls Tryd.prog 19 #[aggV (u8s s)] w fun e w' => e = .returned (strV (textL s)) ∧ Kept [] w w' := by
  have b0 : Blk (w.alloc (.cells (u8s s).toArray 23)) w.heap.size 23 (u8s s) := Blk.new w 23 _
  have hk : Hid (Kept [] w (w.alloc (.cells (u8s s).toArray 23))) := (Kept.refl _ _).alloc _
  have hC := trim32 w.heap.size 96 s _ 23 b0 (by rw [hs.len]; omega) (by rw [hs.len]; omega) (by omega)
  rw [hs.len] at hC
  have hm := bareN_le s 96
  obtain ⟨m, em⟩ : ∃ m, bareN s 96 = m := ⟨_, rfl⟩
  rw [em] at hC hm
  have hT : Hid (textL s = if m = 0 then [37] else escs (s.take m)) := by show _ = _; rw [textL, bare, hs.len, em]
  have HC := hide hC
  have B0 := hide b0
  clear hC b0 em
  go_enter Tryd.func19, Tryd.ntmps19
  go_wp2_with (
    first
    | (refine wpBoxA rfl (.tmp 0) rfl (u8s s) rfl ?_)
    | (go_at_call 32; refine (unhide HC).mono ?_; rintro e w1 ⟨rfl, hw1⟩; obtain rfl := hw1.symm))
  generalize (w.alloc (.cells (u8s s).toArray 23)) = W at *
  have hWs := (unhide B0).lt
  clear HC
  go_loopw [9, 3] (fun i v wr => ∃ k : Nat, k ≤ m ∧ i = .int .i64 k ∧ wr.ownsRow (w.heap.size + 1) 5 1 v (escs (s.take k)).length (u8s (escs (s.take k))) ∧ Hid (Blk wr w.heap.size 23 (u8s s)) ∧ Hid (Kept [] w wr)) (fun i _ _ => m - (intOf i).toNat)
  case atStart => exact ⟨0, by omega, rfl, World.ownsRow_nil _ _ _ _, B0, hk⟩
  case round =>
    obtain ⟨k, hk2, rfl, hown, RB, RK⟩ := hrel
    by_cases hlt : k < m
    · have hkl : k < s.length := by rw [hs.len]; omega
      have hx := hs.byte s[k] (List.getElem_mem hkl)
      have htk : s.take (k + 1) = s.take k ++ [s[k]] := List.take_succ_eq_append_getElem hkl
      obtain ⟨x, ex⟩ : ∃ x, s[k] = x := ⟨_, rfl⟩
      have q : wr.cell? ⟨w.heap.size, k, none⟩ = some (.int .u8 x) := fits_cell (unhide RB) k _ (by simp [u8s, hkl, ex])
      rw [ex] at hx htk
      have HT := hide htk
      have hel := (escs_len (s.take k)).2
      have hel2 : (s.take k).length ≤ 96 := by rw [List.length_take]; omega
      have hbase : w.heap.size + 1 ≤ wr.heap.size := (unhide RB).lt
      clear htk ex
      have hp := hide (isPlain33 x wr)
      cases hP : plainB x with
      | true =>
        rw [hP] at hp
        have HE := hide (esc_plain hP)
        clear hP
        go_wp2_with (
          first
          | (go_at_call 33; refine (unhide hp).mono ?_; rintro e w1 ⟨rfl, hw1⟩; obtain rfl := hw1.symm)
          | (at_builtin; go_must (refine wpAppN rfl (.tmp 15) (.tmp 17) rfl (w.heap.size + 1) _ (escs (s.take k)) rfl wr.heap.size 1 [x] rfl (Blk.new' rfl) rfl (owns_kept hown ((Kept.refl _ _).alloc _)) (by omega) (by simp; omega) ?_)))
        intro v1 w1 hown1 hg1
        have hg2 : wr.grownBy w1 u3.ownBlock := grownBy_trans (World.grownBy_alloc _ _ _) hg1
        have RK1 : Hid (Kept [] w w1) := kept_own (unhide RK) hg2 hown (by omega)
        have RB1 : Hid (Blk w1 w.heap.size 23 (u8s s)) := by
          show _ = _
          rw [hg2.block _ hbase (fun e => by have := own_kind hown _ e.symm; omega)]
          exact unhide RB
        clear hg1 hg2 hown RK RB
        go_wp2_with fail
        go_roundw
        case rel =>
          refine ⟨k + 1, by omega, by go_num, ?_, RB1, RK1⟩
          rw [unhide HT, escs_snoc, unhide HE, List.length_append]
          exact hown1
        case measure => simp [intOf]; omega
      | false =>
        rw [hP] at hp
        have HE := hide (esc_not hP)
        clear hP
        go_wp2_with (
          first
          | (go_at_call 33; refine (unhide hp).mono ?_; rintro e w1 ⟨rfl, hw1⟩; obtain rfl := hw1.symm))
        refine wp_region_prefix mixed 8 2 rfl (by kernel_rfl) (tb [.is u3, .is (.int .u8 x), .is (.int .u8 (x / 16)), .is (.int .u8 (digC (x / 16))), .is (.int .u8 x), .is (.int .u8 (x % 16)), .is (.int .u8 (digC (x % 16))), Fct.sl (u8s [37, digC (x / 16), digC (x % 16)]) wr.heap.size]) (fun _ _ _ _ => True) (tb_kept _) (by kernel_rfl) ?_ ?_
        · intro j o hj ho a w2 hout hin hk
          match j, ho with
          | 0, ho =>
            obtain rfl := Option.some.inj ho
            exact wp_move _ rfl ⟨_, rfl, (hout 3 (by kernel_rfl)).trans rfl, Kept.refl _ _, fun _ _ _ _ _ => trivial⟩
          | 1, ho =>
            obtain rfl := Option.some.inj ho
            exact wp_move _ rfl ⟨_, rfl, (hout 5 (by kernel_rfl)).trans rfl, Kept.refl _ _, fun _ _ _ _ _ => trivial⟩
          | 2, ho =>
            obtain rfl := Option.some.inj ho
            exact wp_shr4 _ rfl x (hin 1 20 (by kernel_rfl) (by kernel_rfl)) ⟨_, rfl, rfl, Kept.refl _ _, fun _ _ _ _ _ => trivial⟩
          | 3, ho =>
            obtain rfl := Option.some.inj ho
            exact wp_dig _ rfl (x / 16) (by omega) (hin 2 21 (by kernel_rfl) (by kernel_rfl)) ⟨_, rfl, rfl, Kept.refl _ _, fun _ _ _ _ _ => trivial⟩
          | 4, ho =>
            obtain rfl := Option.some.inj ho
            exact wp_move _ rfl ⟨_, rfl, (hout 5 (by kernel_rfl)).trans rfl, Kept.refl _ _, fun _ _ _ _ _ => trivial⟩
          | 5, ho =>
            obtain rfl := Option.some.inj ho
            exact wp_and15 _ rfl x hx (hin 4 23 (by kernel_rfl) (by kernel_rfl)) ⟨_, rfl, rfl, Kept.refl _ _, fun _ _ _ _ _ => trivial⟩
          | 6, ho =>
            obtain rfl := Option.some.inj ho
            exact wp_dig _ rfl (x % 16) (by omega) (hin 5 24 (by kernel_rfl) (by kernel_rfl)) ⟨_, rfl, rfl, Kept.refl _ _, fun _ _ _ _ _ => trivial⟩
          | 7, ho =>
            obtain rfl := Option.some.inj ho
            exact wp_bytes3 _ _ rfl _ _ (hin 3 22 (by kernel_rfl) (by kernel_rfl)) (hin 6 25 (by kernel_rfl) (by kernel_rfl)) ⟨_, rfl, ⟨_, rfl, hk.size, Blk.new' rfl⟩, (Kept.refl _ _).alloc _, fun _ _ _ _ _ => trivial⟩
        · intro vs w3 hlen hF _ hk3
          obtain ⟨x0, x1, x2, x3, x4, x5, x6, x7, rfl⟩ := vs8 hlen
          obtain rfl : x0 = u3 := hF 0 _ rfl
          obtain rfl : x1 = .int .u8 x := hF 1 _ rfl
          obtain rfl : x2 = .int .u8 (x / 16) := hF 2 _ rfl
          obtain rfl : x3 = .int .u8 (digC (x / 16)) := hF 3 _ rfl
          obtain rfl : x4 = .int .u8 x := hF 4 _ rfl
          obtain rfl : x5 = .int .u8 (x % 16) := hF 5 _ rfl
          obtain rfl : x6 = .int .u8 (digC (x % 16)) := hF 6 _ rfl
          obtain ⟨q7, rfl, hq7, hb7⟩ : ∃ q, x7 = .slice (some ⟨q, 0, none⟩) 3 3 ∧ wr.heap.size ≤ q ∧ Blk w3 q 5 (u8s [37, digC (x / 16), digC (x % 16)]) := hF 7 _ rfl
          clear hF hlen
          simp only [List.take_succ_cons, List.take_zero, putAll, Act.put, List.setIfInBounds_toArray, List.set_cons_succ, List.set_cons_zero]
          refine wpAny_all (rs := [8]) (by kernel_rfl) (by simp) ?_
          intro i hi
          obtain rfl : i = 8 := by simpa using hi
          refine wpOp_of rfl rfl (wp_appN 27 rfl (.tmp 19) (.tmp 26) rfl (w.heap.size + 1) x0 (escs (s.take k)) rfl q7 3 _ rfl hb7 rfl (owns_kept hown hk3) (by omega) (Nat.le_trans hbase hk3.size) ?_)
          intro v1 w1 hown1 hg1
          simp only [Act.put, List.setIfInBounds_toArray, List.set_cons_succ, List.set_cons_zero]
          refine wpAny_all (rs := [9]) (by kernel_rfl) (by simp) ?_
          intro i hi
          obtain rfl : i = 9 := by simpa using hi
          refine wpOp_of rfl rfl (wp_assign (.tmp 27) rfl 3 rfl v1 rfl ?_)
          simp only [Act.put, List.setIfInBounds_toArray, List.set_cons_succ, List.set_cons_zero]
          refine wpAny_done (by kernel_rfl) ?_ _
          have RK1 : Hid (Kept [] w w1) := kept_own ((unhide RK).trans hk3) hg1 (owns_kept hown hk3) (by omega)
          have RB1 : Hid (Blk w1 w.heap.size 23 (u8s s)) := by
            have := (unhide RB).kept hk3 (by simp)
            show _ = _
            rw [hg1.block _ this.lt (fun e => by have := own_kind hown _ e.symm; omega)]
            exact this
          clear hg1 hown RK RB hi hk3 hb7
          go_wp2_with fail
          go_roundw
          case rel =>
            refine ⟨k + 1, by omega, by go_num, ?_, RB1, RK1⟩
            rw [unhide HT, escs_snoc, unhide HE]
            exact hown1
          case measure => simp [intOf]; omega
    · obtain rfl : k = m := by omega
      have hel := (escs_len (s.take k)).1
      have htl : (s.take k).length = k := by rw [List.length_take, hs.len]; omega
      rcases own_range hown with ⟨rfl, hn0⟩ | ⟨g, cap, rfl, hr⟩
      · have hk0 : k = 0 := by omega
        have hT0 : Hid (textL s = [37]) := by show _ = _; rw [unhide hT, if_pos hk0]
        clear hT hown
        go_wp2_with fail
        go_ret
        exact ⟨by rw [unhide hT0]; rfl, unhide RK⟩
      · by_cases hk0 : k = 0
        · have hT0 : Hid (textL s = [37]) := by show _ = _; rw [unhide hT, if_pos hk0]
          subst hk0
          clear hT hown
          go_wp2_with fail
          go_ret
          exact ⟨by rw [unhide hT0]; rfl, unhide RK⟩
        · have hT0 : Hid (textL s = escs (s.take k)) := by show _ = _; rw [unhide hT, if_neg hk0]
          obtain ⟨L, hL⟩ : ∃ L, escs (s.take k) = L := ⟨_, rfl⟩
          rw [hL] at hT0 hr hel
          have hl0 : ((L.length : Int) == 0) = false := beq_eq_false_iff_ne.2 (by omega)
          rw [hL]
          have HR := hide hr
          clear hT hown hL hr
          go_wp2_with (refine wpStr rfl (.tmp 32) rfl g L.length cap L rfl rfl (unhide HR) ?_)
          go_ret
          exact ⟨by rw [unhide hT0]; rfl, unhide RK⟩

end Go.Proofs.YtnflcajidgbbbaaDoor
