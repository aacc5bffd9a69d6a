/-
  The rows of the chapter.
-/
import Derived.Test.YtpcggcicpojdoaaKna
namespace Go.Proofs.Ytpcggcicpojdoaa
open Go.RowKit

theorem mk513 (w : World) : ∃ cs, (Instr.makeSlice 34 (.int .i64 513) (.int .i64 513)).run Try.prog w = .ok (.slice (some ⟨w.heap.size, 0, none⟩) 513 513) (w.alloc (.cells cs 5)) := ⟨(List.replicate 513 (Value.int .u8 0)).toArray, by kernel_rfl⟩
theorem cv34 (g m c : Nat) (bs : List Int) (w : World) (hB : Blk w g 5 (u8s bs)) : ∃ W, (convert 34 34 (.slice (some ⟨g, 0, none⟩) m c)).run Try.prog w = .ok (.slice (some ⟨g, 0, none⟩) m c) W ∧ W.rangeAt g 0 (u8s bs) ∧ Kept [g] w W := by
  have hb : w.heap[g]? = some (.cells (u8s bs).toArray 5 (0, 0)) := hB
  have hlt := lt_of_block hb
  have hv : w.heap[g] = .cells (u8s bs).toArray 5 (0, 0) := (Array.getElem?_eq_some_iff.1 hb).2
  have hs : w.shape? g = some (5, (u8s bs).toArray.size) := by simp [World.shape?, hb]
  have hh : (w.freeze ⟨g, (u8s bs).toArray.size, none⟩ 1).heap[g]? = some (.cells (u8s bs).toArray 5 ((u8s bs).toArray.size, (u8s bs).toArray.size + 1)) := by
    unfold World.freeze
    rw [if_neg (by decide)]
    simp only []
    rw [Array.getElem?_eq_getElem (by simpa using hlt), Array.getElem_modify]
    simp [hv]
  refine ⟨w.freeze ⟨g, (u8s bs).toArray.size, none⟩ 1, ?_, fun j v hj => ?_, ?_⟩
  · unfold convert
    simp only [Sem.run_bind, run_underlying Try.underlying34, run_underlying Try.underlying5, Result.andThen_ok, beq_self_eq_true, markStringish, run_shape, hs, run_freeze, Sem.run_pure]
  · rw [cell_of_block hh, Nat.zero_add, List.getElem?_toArray]
    exact hj
  · refine ⟨rfl, rfl, rfl, by simp [World.freeze], fun i hi hx => ?_⟩
    simp only [World.freeze, if_neg (by decide : ¬ (1 : Nat) = 0)]
    rw [Array.getElem?_modify, if_neg (by simpa using fun e : g = i => hx (by simp [e]))]
section
variable {ops : Array Oper} {rest : List Oper} {op : Oper} {a : Act} {w : World} {Q : Exit → Act → World → Prop}
theorem wpMk513 (hgd : op.guard = none) (ho : op.op = .makeSlice 34 (.const (.int .i64 513)) (.const (.int .i64 513))) (h : ∀ W g, Kept [] w W → wpList Try.prog ops Q rest (a.put op.dst (.slice (some ⟨g, 0, none⟩) 513 513)) W) : wpList Try.prog ops Q (op :: rest) a w :=
  wpList_plain hgd fun K hK => by
    obtain ⟨cs, hr⟩ := mk513 w
    unfold Oper.wp execOp
    simp only [ho, Act.eval, Sem.run_bind, hr, Result.andThen_ok]
    exact hK _ _ (h _ _ ((Kept.refl _ _).alloc _))
theorem wpBSb (c : Int) (hr : ∀ w : World, (Instr.buildSlice 34 1 #[(0, .int .u8 c)]).run Try.prog w = .ok (.slice (some ⟨w.heap.size, 0, none⟩) 1 1) (w.alloc (.cells #[.int .u8 c] 5))) (hgd : op.guard = none) (ho : op.op = .buildSlice 34 1 #[(0, .const (.int .u8 c))])
    (h : ∀ W g, w.heap.size ≤ g → Blk W g 5 (u8s [c]) → Kept [] w W → wpList Try.prog ops Q rest (a.put op.dst (.slice (some ⟨g, 0, none⟩) 1 1)) W) : wpList Try.prog ops Q (op :: rest) a w :=
  wpList_plain hgd fun K hK => by
    unfold Oper.wp execOp
    simp only [ho, Act.eval, List.map_toArray, List.map_cons, List.map_nil, Sem.run_bind, hr, Result.andThen_ok]
    exact hK _ _ (h _ _ (Nat.le_refl _) (Blk.new w 5 (u8s [c])) ((Kept.refl _ _).alloc _))
theorem wpCv34 (hgd : op.guard = none) (x : Operand) (ho : op.op = .convert 34 34 x) (g m c : Nat) (bs : List Int) (hx : a.eval x = .slice (some ⟨g, 0, none⟩) m c) (hB : Blk w g 5 (u8s bs)) (h : ∀ W, W.rangeAt g 0 (u8s bs) → Kept [g] w W → wpList Try.prog ops Q rest (a.put op.dst (.slice (some ⟨g, 0, none⟩) m c)) W) : wpList Try.prog ops Q (op :: rest) a w :=
  wpList_plain hgd fun K hK => by
    obtain ⟨W, hr, h1, h2⟩ := cv34 g m c bs w hB
    unfold Oper.wp execOp
    simp only [ho, hx, Sem.run_bind, hr, Result.andThen_ok]
    exact hK _ _ (h W h1 h2)
theorem wpBytes2 {o1 o2 : Oper} (c : Int) (hr : ∀ w : World, (Instr.buildSlice 34 1 #[(0, .int .u8 c)]).run Try.prog w = .ok (.slice (some ⟨w.heap.size, 0, none⟩) 1 1) (w.alloc (.cells #[.int .u8 c] 5))) (d : Nat) (hd : o1.dst = some d) (hg1 : o1.guard = none) (ho1 : o1.op = .buildSlice 34 1 #[(0, .const (.int .u8 c))]) (hg2 : o2.guard = none) (ho2 : o2.op = .convert 34 34 (.tmp d))
    (hx : ∀ g : Nat, (a.put (some d) (.slice (some ⟨g, 0, none⟩) 1 1)).eval (.tmp d) = .slice (some ⟨g, 0, none⟩) 1 1)
    (h : ∀ W g, w.heap.size ≤ g → W.rangeAt g 0 (u8s [c]) → Kept [] w W → wpList Try.prog ops Q rest ((a.put (some d) (.slice (some ⟨g, 0, none⟩) 1 1)).put o2.dst (.slice (some ⟨g, 0, none⟩) 1 1)) W) : wpList Try.prog ops Q (o1 :: o2 :: rest) a w :=
  wpBSb c hr hg1 ho1 fun W g hg hB hk => by
    rw [hd]
    refine wpCv34 hg2 (.tmp d) ho2 g 1 1 [c] (hx g) hB fun W2 h1 h2 => h W2 g hg h1 (hk.fresh h2 (fun i hi hl => by simp at hi; omega))
end
theorem bs120 (w : World) : (Instr.buildSlice 34 1 #[(0, .int .u8 120)]).run Try.prog w = .ok (.slice (some ⟨w.heap.size, 0, none⟩) 1 1) (w.alloc (.cells #[.int .u8 120] 5)) := by kernel_rfl
theorem bs121 (w : World) : (Instr.buildSlice 34 1 #[(0, .int .u8 121)]).run Try.prog w = .ok (.slice (some ⟨w.heap.size, 0, none⟩) 1 1) (w.alloc (.cells #[.int .u8 121] 5)) := by kernel_rfl
theorem vals_blk {W : World} {g : Nat} {bs : List Int} (h : W.rangeAt g 0 (u8s bs)) : Vals W (some ⟨g, 0, none⟩) bs.length bs.length (u8s bs) := ⟨u8s_len _, Nat.le_refl _, fun _ => ⟨g, 0, rfl, h⟩⟩
theorem vals_nil (W : World) : Vals W none 0 0 (u8s []) := ⟨rfl, Nat.le_refl _, fun h => absurd rfl h⟩
/-- The nets of the chapter. -/
def k1 (u : Value) : Nn := ⟨3, 1, [⟨1, 0, 1, u, [120]⟩]⟩
def k2 (u v : Value) : Nn := ⟨3, 2, [⟨1, 0, 1, u, [120]⟩, ⟨2, 2, 1, v, [121]⟩]⟩
def k3 (u v x : Value) : Nn := ⟨3, 3, [⟨1, 0, 1, u, [120]⟩, ⟨2, 2, 1, v, [121]⟩, ⟨3, 0, 1, x, [120]⟩]⟩
def k4 (u x : Value) : Nn := ⟨3, 3, [⟨1, 0, 1, u, [120]⟩, ⟨3, 0, 1, x, [120]⟩]⟩
def k5 : Nn := ⟨3, 3, []⟩
def k6 (u : Value) : Nn := ⟨3, 4, [⟨4, 1, 0, u, []⟩]⟩
theorem k_send1 (b mb g : Nat) (v : Value) (w : World) (h : Nt w b mb v (newN 3)) (hB : w.rangeAt g 0 (u8s [120])) (hne : g ≠ b) : Calls Try.prog 16 #[P0 b, .int .i64 0, .int .i64 1, .slice (some ⟨g, 0, none⟩) 1 1] w fun e w' => ∃ v' u, e = .returned (.tuple #[.int .i64 1, .int .i64 0]) ∧ Nt w' b mb v' (k1 u) ∧ Kept (nX b mb v) w w' ∧ ∀ i, v'.ownBlock = some i → v.ownBlock = some i ∨ w.heap.size ≤ i :=
  send_yes b mb v (newN 3) 0 1 (some ⟨g, 0, none⟩) 1 1 [120] w h (vals_blk hB) (fun e => by cases e) (by simp) (fun _ h off e => by cases e; exact hne) (by decide) (by decide) (by decide) (by decide)
theorem k_send2 (b mb g : Nat) (v u : Value) (w : World) (h : Nt w b mb v (k1 u)) (hB : w.rangeAt g 0 (u8s [121])) (hne : g ≠ b) : Calls Try.prog 16 #[P0 b, .int .i64 2, .int .i64 1, .slice (some ⟨g, 0, none⟩) 1 1] w fun e w' => ∃ v' u2, e = .returned (.tuple #[.int .i64 2, .int .i64 0]) ∧ Nt w' b mb v' (k2 u u2) ∧ Kept (nX b mb v) w w' ∧ ∀ i, v'.ownBlock = some i → v.ownBlock = some i ∨ w.heap.size ≤ i :=
  send_yes b mb v (k1 u) 2 1 (some ⟨g, 0, none⟩) 1 1 [121] w h (vals_blk hB) (fun e => by cases e) (by simp) (fun _ h off e => by cases e; exact hne) (by rfl) (by decide) (by show (1 : Int) ≤ _; decide) (by show 1 < 4096; decide)
theorem k_double (b mb : Nat) (v u u2 : Value) (w : World) (h : Nt w b mb v (k2 u u2)) : Calls Try.prog 17 #[P0 b, .int .i64 1] w fun e w' => ∃ v' u3, e = .returned (.tuple #[.int .i64 3, .int .i64 0]) ∧ Nt w' b mb v' (k3 u u2 u3) ∧ Kept (nX b mb v) w w' ∧ ∀ i, v'.ownBlock = some i → v.ownBlock = some i ∨ w.heap.size ≤ i :=
  double_yes b mb v (k2 u u2) 1 0 ⟨1, 0, 1, u, [120]⟩ w h rfl (by show (2 : Int) ≤ _; decide) (by show 2 < 4096; decide)
theorem k_to (b mb : Nat) (v u u2 u3 : Value) (w : World) (h : Nt w b mb v (k3 u u2 u3)) : Calls Try.prog 23 #[P0 b, .int .i64 1] w fun e w' => ∃ g c, e = .returned (.slice (some ⟨g, 0, none⟩) 3 c) ∧ w'.cell? ⟨g, 2, none⟩ = some (.int .i64 3) ∧ w.heap.size ≤ g ∧ Kept [] w w' := by
  refine (to23 b mb v (k3 u u2 u3) 1 w h).mono ?_
  rintro e w' ⟨r, rfl, ho, hk⟩
  have ho' : w'.ownsRow w.heap.size 2 1 r ([Value.int .i64 1, .int .i64 2, .int .i64 3] : List Value).length [Value.int .i64 1, .int .i64 2, .int .i64 3] := ho
  obtain ⟨g, ex, rfl, hg, hB⟩ := owns_blk ho' (by simp)
  exact ⟨g, _, rfl, fits_cell hB 2 _ rfl, hg, hk⟩
theorem k_del2 (b mb : Nat) (v u u2 u3 : Value) (w : World) (h : Nt w b mb v (k3 u u2 u3)) : Calls Try.prog 18 #[P0 b, .int .i64 2] w fun e w' => ∃ v' x, e = .returned (.tuple #[aggV (Ltr.D ⟨2, 2, 1, u2, [121]⟩ x), .int .i64 0]) ∧ Nt w' b mb v' (k4 u u3) ∧ Bod w' x [121] ∧ Kept (nX b mb v) w w' ∧ v'.ownBlock = v.ownBlock :=
  deliver_yes b mb v (k3 u u2 u3) 2 w h 1 ⟨2, 2, 1, u2, [121]⟩ rfl
theorem k_del3 (b mb : Nat) (v u u3 : Value) (w : World) (h : Nt w b mb v (k4 u u3)) : Calls Try.prog 18 #[P0 b, .int .i64 2] w fun e w' => e = .returned (.tuple #[aggV zL, .int .i64 6]) ∧ Kept [] w w' := deliver_none b mb v (k4 u u3) 2 w h rfl
theorem k_at (b mb : Nat) (v u u3 : Value) (w : World) (h : Nt w b mb v (k4 u u3)) : Calls Try.prog 24 #[P0 b, .int .i64 1] w fun e w' => ∃ y, e = .returned (.tuple #[aggV (Ltr.D ⟨3, 0, 1, u3, [120]⟩ y), .bool true]) ∧ Bod w' y [120] ∧ (∀ j, y.ownBlock = some j → w.heap.size ≤ j) ∧ Kept [] w w' := at_in b mb v (k4 u u3) 1 ⟨3, 0, 1, u3, [120]⟩ w h rfl
theorem k_drop (b mb : Nat) (v u u3 : Value) (w : World) (h : Nt w b mb v (k4 u u3)) : Calls Try.prog 20 #[P0 b, .int .i64 9] w fun e w' => e = .returned (.int .i64 6) ∧ Kept [] w w' := drop_none b mb v (k4 u u3) 9 w h rfl
theorem k_clear (b mb : Nat) (v u u3 : Value) (w : World) (h : Nt w b mb v (k4 u u3)) : Calls Try.prog 25 #[P0 b] w fun e w' => e = .returned (.int .i64 2) ∧ Nt w' b mb (.slice none 0 0) k5 ∧ Kept (nX b mb v) w w' := clear25 b mb v (k4 u u3) w h
theorem k_send3 (b mb : Nat) (v : Value) (w : World) (h : Nt w b mb v k5) : Calls Try.prog 16 #[P0 b, .int .i64 1, .int .i64 0, .slice none 0 0] w fun e w' => ∃ v' u, e = .returned (.tuple #[.int .i64 4, .int .i64 0]) ∧ Nt w' b mb v' (k6 u) ∧ Kept (nX b mb v) w w' ∧ ∀ i, v'.ownBlock = some i → v.ownBlock = some i ∨ w.heap.size ≤ i :=
  send_yes b mb v k5 1 0 none 0 0 [] w h (vals_nil w) (fun _ => ⟨rfl, rfl⟩) (by simp) (fun h => absurd rfl h) (by decide) (by decide) (by decide) (by decide)
theorem k_last (b mb : Nat) (v u : Value) (w : World) (h : Nt w b mb v (k6 u)) : Calls Try.prog 26 #[P0 b] w fun e w' => e = .returned (.int .i64 4) ∧ w' = w := last26 b mb v (k6 u) w h
theorem k_len (b mb : Nat) (v u : Value) (w : World) (h : Nt w b mb v (k6 u)) : Calls Try.prog 21 #[P0 b] w fun e w' => e = .returned (.int .i64 1) ∧ w' = w := len21 b mb v (k6 u) w h
set_option maxHeartbeats 8000000 in
set_option maxRecDepth 100000 in
theorem known10 (w : World) : Calls Try.prog 10 #[] w fun e w' => e = .returned (.bool true) ∧ Kept [] w w' := by
  go_enter Try.func10, Try.ntmps10
  go_wp2_with (
    first
    | (go_at_call 7
       refine (new_no 0 _ (by decide)).mono ?_
       rintro e V1 ⟨rfl, hw9⟩
       obtain rfl := hw9.symm
       clear hw9
       refine Stp.go ?_))
  constructor
  go_wp2_with (
    first
    | (go_at_call 7
       refine (new_no 9 _ (by decide)).mono ?_
       rintro e V2 ⟨rfl, hw9⟩
       obtain rfl := hw9.symm
       clear hw9
       refine Stp.go ?_))
  constructor
  go_wp2_with (
    first
    | (go_at_call 7
       refine (new_yes 3 _ (by decide)).mono ?_
       rintro e V3 ⟨b, mb, rfl, g1, g2, hn, hk⟩
       have KN : Hid (Kn w V3 b mb (.slice none 0 0) (newN 3)) := ⟨hn, hk, g1, g2, fun i h => by cases h⟩
       clear g1 g2 hn hk
       refine Stp.go ?_))
  constructor
  go_wp2_with (
    first
    | (go_at_call 16
       refine (send_arg b mb _ (newN 3) 0 0 none 0 0 _ (unhide KN).nt (by decide)).mono ?_
       rintro e V4 ⟨rfl, hw9⟩
       obtain rfl := hw9.symm
       clear hw9
       refine Stp.go ?_))
  constructor
  go_wp2_with (
    first
    | (go_at_call 16
       refine (send_arg b mb _ (newN 3) 0 3 none 0 0 _ (unhide KN).nt (by decide)).mono ?_
       rintro e V5 ⟨rfl, hw9⟩
       obtain rfl := hw9.symm
       clear hw9
       refine Stp.go ?_))
  constructor
  go_wp2_with (
    first
    | (refine wpMk513 (by rfl) (by rfl) ?_
       intro V6 g6 K6
       replace KN := hide ((unhide KN).step K6)
       clear K6
       refine Stp.go ?_))
  constructor
  go_wp2_with (
    first
    | (go_at_call 16
       refine (send_long b mb _ (newN 3) 0 1 (some ⟨g6, 0, none⟩) 513 513 _ (unhide KN).nt (by decide) (by decide)).mono ?_
       rintro e V7 ⟨rfl, hw9⟩
       obtain rfl := hw9.symm
       clear hw9
       refine Stp.go ?_))
  constructor
  go_wp2_with (
    first
    | (refine wpBytes2 120 bs120 60 (by rfl) (by rfl) (by rfl) (by rfl) (by rfl) (fun _ => by rfl) ?_
       intro V8 g8 G8 R8 K8
       have HN8 : Hid (g8 ≠ b) := by have := (unhide KN).nt.lt; show _ ≠ _; omega
       replace KN := hide ((unhide KN).step K8)
       have HB8 := hide R8
       clear G8 R8 K8
       refine Stp.go ?_))
  constructor
  go_wp2_with (
    first
    | (go_at_call 16
       refine (k_send1 b mb g8 _ _ (unhide KN).nt (unhide HB8) (unhide HN8)).mono ?_
       rintro e V9 ⟨v1, u1, rfl, hn, hk, hv⟩
       replace KN := hide ((unhide KN).mut hn hk hv)
       clear hn hk hv HB8 HN8
       refine Stp.go ?_))
  constructor
  go_wp2_with (
    first
    | (refine wpBytes2 121 bs121 67 (by rfl) (by rfl) (by rfl) (by rfl) (by rfl) (fun _ => by rfl) ?_
       intro V10 g10 G10 R10 K10
       have HN10 : Hid (g10 ≠ b) := by have := (unhide KN).nt.lt; show _ ≠ _; omega
       replace KN := hide ((unhide KN).step K10)
       have HB10 := hide R10
       clear G10 R10 K10
       refine Stp.go ?_))
  constructor
  go_wp2_with (
    first
    | (go_at_call 16
       refine (k_send2 b mb g10 _ _ _ (unhide KN).nt (unhide HB10) (unhide HN10)).mono ?_
       rintro e V11 ⟨v2, u2, rfl, hn, hk, hv⟩
       replace KN := hide ((unhide KN).mut hn hk hv)
       clear hn hk hv HB10 HN10
       refine Stp.go ?_))
  constructor
  go_wp2_with (
    first
    | (go_at_call 17
       refine (k_double b mb _ _ _ _ (unhide KN).nt).mono ?_
       rintro e V12 ⟨v3, u3, rfl, hn, hk, hv⟩
       replace KN := hide ((unhide KN).mut hn hk hv)
       clear hn hk hv
       refine Stp.go ?_))
  constructor
  go_wp2_with (
    first
    | (go_at_call 23
       refine (k_to b mb _ _ _ _ _ (unhide KN).nt).mono ?_
       rintro e V13 ⟨tg, tc, rfl, hc, hg, hk⟩
       have HT := hide hc
       have HTA : Hid (tg ∉ nX b mb v3) := fun hm => by have h1 := (unhide KN).nt.lt; simp only [nX, List.mem_cons, Option.mem_toList] at hm; rcases hm with e | e | e; omega; omega; have := h1.2.2 _ e; omega
       replace KN := hide ((unhide KN).step hk)
       clear hc hg hk
       refine Stp.go ?_))
  constructor
  go_wp2_with (
    first
    | (go_at_call 18
       refine (k_del2 b mb _ _ _ _ _ (unhide KN).nt).mono ?_
       rintro e V14 ⟨v4, x, rfl, hn, hx, hk, hv⟩
       replace HT := hide (hk.cell (unhide HT) (unhide HTA))
       replace HTA : Hid (tg ∉ nX b mb v4) := by have := unhide HTA; simp only [nX, hv] at this ⊢; exact this
       replace KN := hide ((unhide KN).mut hn hk (fun i hi => .inl (hv ▸ hi)))
       have HX := hide hx
       clear hn hx hk hv
       refine Stp.go ?_))
  constructor
  go_wp2_with (
    first
    | (refine wpNew row47 zL rfl alloc47 20 (by rfl) (by rfl) (by rfl) (.tmp 82) (by rfl) (by rfl) (by rfl) (Ltr.D ⟨2, 2, 1, u2, [121]⟩ x) rfl (D_one (unhide HX).one) (by kernel_rfl) (by kernel_rfl) ?_
       intro V15 p15 e15 B15 K15
       have HP1 := hide B15
       replace HX := hide ((unhide HX).kept K15 (by simp))
       replace HT := hide (K15.cell (unhide HT) (by simp))
       replace KN := hide ((unhide KN).step K15)
       clear e15 B15 K15
       refine Stp.go ?_))
  constructor
  go_wp2_with (
    first
    | (go_at_call 18
       refine (k_del3 b mb _ _ _ _ (unhide KN).nt).mono ?_
       rintro e V16 ⟨rfl, hk⟩
       replace HX := hide ((unhide HX).kept hk (by simp))
       replace HT := hide (hk.cell (unhide HT) (by simp))
       replace HP1 := hide ((unhide HP1).kept hk (by simp))
       replace KN := hide ((unhide KN).step hk)
       clear hk
       refine Stp.go ?_))
  constructor
  go_wp2_with (
    first
    | (refine wpNew row47 zL rfl alloc47 22 (by rfl) (by rfl) (by rfl) (.tmp 87) (by rfl) (by rfl) (by rfl) (zL) rfl (zL_one) (by kernel_rfl) (by kernel_rfl) ?_
       intro V17 p17 e17 B17 K17
       have HP2 := hide B17
       replace HP1 := hide ((unhide HP1).kept K17 (by simp))
       replace HX := hide ((unhide HX).kept K17 (by simp))
       replace HT := hide (K17.cell (unhide HT) (by simp))
       replace KN := hide ((unhide KN).step K17)
       clear e17 B17 K17
       refine Stp.go ?_))
  constructor
  go_wp2_with (
    first
    | (go_at_call 24
       refine (k_at b mb _ _ _ _ (unhide KN).nt).mono ?_
       rintro e V18 ⟨y, rfl, hy, _, hk⟩
       have HY := hide hy
       replace HX := hide ((unhide HX).kept hk (by simp))
       replace HT := hide (hk.cell (unhide HT) (by simp))
       replace HP1 := hide ((unhide HP1).kept hk (by simp))
       replace KN := hide ((unhide KN).step hk)
       clear hy hk
       refine Stp.go ?_))
  constructor
  go_wp2_with (
    first
    | (refine wpNew row47 zL rfl alloc47 24 (by rfl) (by rfl) (by rfl) (.tmp 92) (by rfl) (by rfl) (by rfl) (Ltr.D ⟨3, 0, 1, u3, [120]⟩ y) rfl (D_one (unhide HY).one) (by kernel_rfl) (by kernel_rfl) ?_
       intro V19 p19 e19 B19 K19
       have HP3 := hide B19
       replace HP1 := hide ((unhide HP1).kept K19 (by simp))
       replace HX := hide ((unhide HX).kept K19 (by simp))
       replace HY := hide ((unhide HY).kept K19 (by simp))
       replace HT := hide (K19.cell (unhide HT) (by simp))
       replace KN := hide ((unhide KN).step K19)
       clear e19 B19 K19
       refine Stp.go ?_))
  constructor
  go_wp2_with (
    first
    | (go_at_call 20
       refine (k_drop b mb _ _ _ _ (unhide KN).nt).mono ?_
       rintro e V20 ⟨rfl, hk⟩
       replace HX := hide ((unhide HX).kept hk (by simp))
       replace HY := hide ((unhide HY).kept hk (by simp))
       replace HT := hide (hk.cell (unhide HT) (by simp))
       replace HP1 := hide ((unhide HP1).kept hk (by simp))
       replace HP3 := hide ((unhide HP3).kept hk (by simp))
       replace KN := hide ((unhide KN).step hk)
       clear hk
       refine Stp.go ?_))
  constructor
  go_wp2_with (
    first
    | (go_at_call 25
       refine (k_clear b mb _ _ _ _ (unhide KN).nt).mono ?_
       rintro e V21 ⟨rfl, hn, hk⟩
       have hax := (unhide KN).nt.away (unhide HX)
       have hay := (unhide KN).nt.away (unhide HY)
       replace HX := hide ((unhide HX).kept hk hax)
       replace HY := hide ((unhide HY).kept hk hay)
       replace HT := hide (hk.cell (unhide HT) (unhide HTA))
       replace HP1 := hide ((unhide HP1).kept hk ((unhide KN).apart (unhide HP1) (by decide) (by decide)))
       replace HP3 := hide ((unhide HP3).kept hk ((unhide KN).apart (unhide HP3) (by decide) (by decide)))
       have HTB : Hid (tg ≠ b ∧ tg ≠ mb) := by have := unhide HTA; simp only [nX, List.mem_cons, not_or] at this; exact ⟨this.1, this.2.1⟩
       replace KN := hide ((unhide KN).mut hn hk (fun i hi => by cases hi))
       clear hn hk hax hay
       refine Stp.go ?_))
  constructor
  go_wp2_with (
    first
    | (go_at_call 16
       refine (k_send3 b mb _ _ (unhide KN).nt).mono ?_
       rintro e V22 ⟨v6, u6, rfl, hn, hk, hv⟩
       have hax := (unhide KN).nt.away (unhide HX)
       have hay := (unhide KN).nt.away (unhide HY)
       replace HX := hide ((unhide HX).kept hk hax)
       replace HY := hide ((unhide HY).kept hk hay)
       replace HT := hide (hk.cell (unhide HT) (by have := unhide HTB; simp [nX, Value.ownBlock]; exact this))
       replace HP1 := hide ((unhide HP1).kept hk ((unhide KN).apart (unhide HP1) (by decide) (by decide)))
       replace HP3 := hide ((unhide HP3).kept hk ((unhide KN).apart (unhide HP3) (by decide) (by decide)))
       replace KN := hide ((unhide KN).mut hn hk hv)
       have hc2 := unhide HT
       have hp11 := fits_cell (unhide HP1) 1 (.int .i64 2) rfl
       have hp13 := fits_cell (unhide HP1) 3 x rfl
       have hp30 := fits_cell (unhide HP3) 0 (.int .i64 3) rfl
       have hp33 := fits_cell (unhide HP3) 3 y rfl
       have hcx := conv34 (unhide HX).row
       have hcy := conv34 (unhide HY).row
       rw [show strOfNums [121] = ⟨#[121]⟩ from rfl] at hcx
       rw [show strOfNums [120] = ⟨#[120]⟩ from rfl] at hcy
       clear hn hk hv hax hay
       refine Stp.go ?_))
  constructor
  go_wp2_with (
    first
    | (go_at_call 9
       refine (st_num9 _ _).mono ?_
       rintro e w' ⟨rfl, hw9⟩
       obtain rfl := hw9.symm
       clear hw9)
    | (go_at_call 26
       refine (k_last b mb _ _ _ (unhide KN).nt).mono ?_
       rintro e w' ⟨rfl, hw9⟩
       obtain rfl := hw9.symm
       clear hw9)
    | (go_at_call 21
       refine (k_len b mb _ _ _ (unhide KN).nt).mono ?_
       rintro e w' ⟨rfl, hw9⟩
       obtain rfl := hw9.symm
       clear hw9))
  go_ret
  exact ⟨rfl, (unhide KN).k⟩

end Go.Proofs.Ytpcggcicpojdoaa
