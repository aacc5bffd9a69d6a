/-
  The document's session: Fresh, Again, Come.
-/
import Derived.Test.YthbgnpbkdeofcaaRb
namespace Go.Proofs.Ythbgnpbkdeofcaa
set_option maxRecDepth 100000
open Go.RowKit

theorem TRr.after {w w1 : World} {b : Nat} {v : Value} {ws : List Value} {P : Ps} {D : List Dg} {e : Ending} {w' : World} (hk : Kept [] w w1) (h : TRr w1 b v ws P D e w') : TRr w b v ws P D e w' := by
  obtain ⟨dv, L, h1, h2, h3, h4⟩ := h
  exact ⟨dv, L, h1, h2.base hk.size, h3, h4.after hk⟩
set_option maxHeartbeats 2000000 in
theorem ragain19 (b : Nat) (v : Value) (ws : List Value) (P : Ps) (w : World) (h : Rx w b v ws P) : Calls Try.prog 19 #[P0 b] w fun e w' => TRr w b v ws P P.again e w' := by
  have hc4 := fits_cell h.head 4 _ rfl
  have P37 := hide (rtell37 b v ws P P.known w h h.ok.known)
  clear h
  go_enter Try.func19, Try.ntmps19
  go_wp2_with (
    first
    | (go_at_call 37
       refine (unhide P37).mono ?_
       rintro e w2 ⟨dv, L, rfl, hR⟩
       have HR : Hid (TRr w b v ws P P.again (.returned dv) w2) := ⟨dv, L, rfl, hR⟩
       clear hR hc4))
  go_ret
  exact unhide HR
@[reducible] def S16 (V : World) (b : Nat) (v : Value) (ws : List Value) (P : Ps) (d : Nat → Bool) (vs : Nat → Value) (W : World) : Prop :=
  (d 10 = false → Kept [] V W) ∧ (d 10 = true → TRr V b v ws P P.fresh (.returned (vs 10)) W) ∧ (d 11 = true → vs 11 = vs 10)
theorem S16.loc {V : World} {b : Nat} {v : Value} {ws : List Value} {P : Ps} : ∀ d d' vs vs' W, (∀ i ∈ [10, 11], d i = d' i ∧ vs i = vs' i) → S16 V b v ws P d vs W → S16 V b v ws P d' vs' W := by
  intro d d' vs vs' W H h
  have e0 := H 10 (by simp)
  have e1 := H 11 (by simp)
  unfold S16 at h ⊢
  rw [← e0.1, ← e0.2, ← e1.1, ← e1.2]
  exact h
set_option maxHeartbeats 2000000 in
theorem rfresh16 (b : Nat) (v : Value) (ws : List Value) (P : Ps) (w : World) (h : Rx w b v ws P) : Calls Try.prog 16 #[P0 b] w fun e w' => TRr w b v ws P P.fresh e w' := by
  obtain ⟨f, hf⟩ : ∃ f, f = max P.told P.known := ⟨_, rfl⟩
  have HF : Hid (max (P.told : Int) (P.known : Int) = (f : Nat)) := (by rw [hf]; omega : max (P.told : Int) (P.known : Int) = (f : Nat))
  have HFL : Hid (f ≤ P.sent.length ∧ P.tellL f = P.fresh) := ⟨by have := h.ok.known; have := h.ok.told; omega, by unfold Ps.fresh; rw [hf]⟩
  have HS := hide h
  have HH := hide h.head
  clear h hf
  go_enter Try.func16, Try.ntmps16
  go_wp2_with fail
  refine wp_region_any mixed (wpAny_gx 12 rfl (by kernel_rfl) [some (P0 b), some (P0 b), some (P0 b), some (.pointer (some ⟨b, 5, none⟩)), some (.int .i64 P.told), some (P0 b), some (P0 b), some (.pointer (some ⟨b, 4, none⟩)), some (.int .i64 P.known), some (.int .i64 (f : Nat)), none, none] rfl (by kernel_rfl) (fun l vs W => (S16 w b v ws P) (fun i => l.getD i false) vs W) (⟨fun _ => ⟨rfl, rfl, rfl, Nat.le_refl _, fun _ _ _ => rfl⟩, (fun h => by cases h), (fun h => by cases h)⟩) ?_ ?_)
  · intro ix o' hi ho a' w2 l vs hls hlf hJ hout hin hdep hnot
    match ix, ho with
    | 0, ho =>
      obtain rfl := Option.some.inj ho
      have e0 := hout 0 (by kernel_rfl)
      replace e0 : a'.eval (.tmp 0) = _ := e0.trans rfl
      exact wp_move (.tmp 0) rfl _ e0 ⟨_, rfl, told_of rfl, keepG (St := (S16 w b v ws P)) [10, 11] S16.loc (by omega) (by decide) hJ⟩
    | 1, ho =>
      obtain rfl := Option.some.inj ho
      have e0 := hout 0 (by kernel_rfl)
      replace e0 : a'.eval (.tmp 0) = _ := e0.trans rfl
      exact wp_move (.tmp 0) rfl _ e0 ⟨_, rfl, told_of rfl, keepG (St := (S16 w b v ws P)) [10, 11] S16.loc (by omega) (by decide) hJ⟩
    | 2, ho =>
      obtain rfl := Option.some.inj ho
      have e0 : a'.eval (.tmp 4) = P0 b := by have h9 := hin 1 4 (by kernel_rfl) (by kernel_rfl); exact h9.1.trans (told_is _ h9.2 rfl)
      exact o_nil (.tmp 4) rfl _ e0 ⟨_, rfl, told_of rfl, keepG (St := (S16 w b v ws P)) [10, 11] S16.loc (by omega) (by decide) hJ⟩
    | 3, ho =>
      obtain rfl := Option.some.inj ho
      have e0 : a'.eval (.tmp 5) = P0 b := by have h9 := hin 2 5 (by kernel_rfl) (by kernel_rfl); exact h9.1.trans (told_is _ h9.2 rfl)
      exact o_fld32_5 (.tmp 5) rfl _ e0 ⟨_, rfl, told_of rfl, keepG (St := (S16 w b v ws P)) [10, 11] S16.loc (by omega) (by decide) hJ⟩
    | 4, ho =>
      obtain rfl := Option.some.inj ho
      have e0 : a'.eval (.tmp 6) = .pointer (some ⟨b, 5, none⟩) := by have h9 := hin 3 6 (by kernel_rfl) (by kernel_rfl); exact h9.1.trans (told_is _ h9.2 rfl)
      exact o_load3 (.tmp 6) rfl _ _ e0 (fits_cell ((unhide HH).kept (hJ.1 (hnot 10 (by kernel_rfl))) (by simp)) 5 _ rfl) ⟨_, rfl, told_of rfl, keepG (St := (S16 w b v ws P)) [10, 11] S16.loc (by omega) (by decide) hJ⟩
    | 5, ho =>
      obtain rfl := Option.some.inj ho
      have e0 := hout 0 (by kernel_rfl)
      replace e0 : a'.eval (.tmp 0) = _ := e0.trans rfl
      exact wp_move (.tmp 0) rfl _ e0 ⟨_, rfl, told_of rfl, keepG (St := (S16 w b v ws P)) [10, 11] S16.loc (by omega) (by decide) hJ⟩
    | 6, ho =>
      obtain rfl := Option.some.inj ho
      have e0 : a'.eval (.tmp 8) = P0 b := by have h9 := hin 5 8 (by kernel_rfl) (by kernel_rfl); exact h9.1.trans (told_is _ h9.2 rfl)
      exact o_nil (.tmp 8) rfl _ e0 ⟨_, rfl, told_of rfl, keepG (St := (S16 w b v ws P)) [10, 11] S16.loc (by omega) (by decide) hJ⟩
    | 7, ho =>
      obtain rfl := Option.some.inj ho
      have e0 : a'.eval (.tmp 9) = P0 b := by have h9 := hin 6 9 (by kernel_rfl) (by kernel_rfl); exact h9.1.trans (told_is _ h9.2 rfl)
      exact o_fld32_4 (.tmp 9) rfl _ e0 ⟨_, rfl, told_of rfl, keepG (St := (S16 w b v ws P)) [10, 11] S16.loc (by omega) (by decide) hJ⟩
    | 8, ho =>
      obtain rfl := Option.some.inj ho
      have e0 : a'.eval (.tmp 10) = .pointer (some ⟨b, 4, none⟩) := by have h9 := hin 7 10 (by kernel_rfl) (by kernel_rfl); exact h9.1.trans (told_is _ h9.2 rfl)
      exact o_load3 (.tmp 10) rfl _ _ e0 (fits_cell ((unhide HH).kept (hJ.1 (hnot 10 (by kernel_rfl))) (by simp)) 4 _ rfl) ⟨_, rfl, told_of rfl, keepG (St := (S16 w b v ws P)) [10, 11] S16.loc (by omega) (by decide) hJ⟩
    | 9, ho =>
      obtain rfl := Option.some.inj ho
      have e0 : a'.eval (.tmp 7) = .int .i64 P.told := by have h9 := hin 4 7 (by kernel_rfl) (by kernel_rfl); exact h9.1.trans (told_is _ h9.2 rfl)
      have e1 : a'.eval (.tmp 11) = .int .i64 P.known := by have h9 := hin 8 11 (by kernel_rfl) (by kernel_rfl); exact h9.1.trans (told_is _ h9.2 rfl)
      refine o_max3 (.tmp 7) (.tmp 11) rfl _ _ e0 e1 ?_
      rw [unhide HF]
      exact ⟨_, rfl, told_of rfl, keepG (St := (S16 w b v ws P)) [10, 11] S16.loc (by omega) (by decide) hJ⟩
    | 10, ho =>
      obtain rfl := Option.some.inj ho
      have e0 : a'.eval (.tmp 3) = P0 b := by have h9 := hin 0 3 (by kernel_rfl) (by kernel_rfl); exact h9.1.trans (told_is _ h9.2 rfl)
      have e1 : a'.eval (.tmp 12) = .int .i64 (f : Nat) := by have h9 := hin 9 12 (by kernel_rfl) (by kernel_rfl); exact h9.1.trans (told_is _ h9.2 rfl)
      have hk0 := (hJ.1 hlf)
      refine wp_callF 37 _ _ rfl #[P0 b, .int .i64 f] (by simp [e0, e1]) (cf37 _ _) ((rtell37 b v ws P f _ ((unhide HS).kept0 hk0) (unhide HFL).1).mono ?_)
      rintro e w3 ⟨dv, L, rfl, hR⟩
      refine ⟨_, rfl, _, rfl, told_no rfl, nextG (St := (S16 w b v ws P)) (by omega) ⟨(fun h => by cases h), fun _ => ?_, fun h11 => ?_⟩⟩
      · have h9 : TRr w2 b v ws P (P.tellL f) (.returned dv) w3 := ⟨dv, L, rfl, hR⟩
        rw [(unhide HFL).2] at h9
        exact h9.after hk0
      · have h9 : l.getD 11 false = true := h11; rw [hnot 11 (by kernel_rfl)] at h9; cases h9
    | 11, ho =>
      obtain rfl := Option.some.inj ho
      have e0 : a'.eval (.tmp 13) = vs 10 := (hin 10 13 (by kernel_rfl) (by kernel_rfl)).1
      exact wp_assignV (.tmp 13) rfl _ e0 ⟨_, rfl, told_no rfl, nextG (St := (S16 w b v ws P)) (by omega) ⟨fun h10 => (by have h9 : l.getD 10 false = false := h10; rw [hdep 10 (by kernel_rfl)] at h9; cases h9), fun _ => hJ.2.1 (hdep 10 (by kernel_rfl)), fun _ => rfl⟩⟩
  intro l vs w9 hl hJ htold
  have t0 : vs 0 = P0 b := told_is _ (htold 0 (by decide)) rfl
  have t1 : vs 1 = P0 b := told_is _ (htold 1 (by decide)) rfl
  have t2 : vs 2 = P0 b := told_is _ (htold 2 (by decide)) rfl
  have t3 : vs 3 = .pointer (some ⟨b, 5, none⟩) := told_is _ (htold 3 (by decide)) rfl
  have t4 : vs 4 = .int .i64 P.told := told_is _ (htold 4 (by decide)) rfl
  have t5 : vs 5 = P0 b := told_is _ (htold 5 (by decide)) rfl
  have t6 : vs 6 = P0 b := told_is _ (htold 6 (by decide)) rfl
  have t7 : vs 7 = .pointer (some ⟨b, 4, none⟩) := told_is _ (htold 7 (by decide)) rfl
  have t8 : vs 8 = .int .i64 P.known := told_is _ (htold 8 (by decide)) rfl
  have t9 : vs 9 = .int .i64 (f : Nat) := told_is _ (htold 9 (by decide)) rfl
  rw [show (List.range 12).map vs = [vs 0, vs 1, vs 2, vs 3, vs 4, vs 5, vs 6, vs 7, vs 8, vs 9, vs 10, vs 11] from rfl]
  simp only [t0, t1, t2, t3, t4, t5, t6, t7, t8, t9, putAll, Act.put, List.setIfInBounds_toArray, List.set_cons_succ, List.set_cons_zero]
  clear t0 t1 t2 t3 t4 t5 t6 t7 t8 t9 htold
  have h13 := hJ.2.2 (hl 11 (by decide))
  obtain ⟨dv, L, h1, h2, h3, h4⟩ := hJ.2.1 (hl 10 (by decide))
  have HR : Hid (TRr w b v ws P P.fresh (.returned (vs 11)) w9) := by rw [h13]; exact ⟨dv, L, h1, h2, h3, h4⟩
  clear hJ hl h13 h1 h2 h3 h4
  go_wp2_with fail
  go_ret
  exact unhide HR
/-- What the document's Come leaves. -/
def CRr (w : World) (b : Nat) (v : Value) (ws : List Value) (P : Ps) (d : Dg) (e : Ending) (w' : World) : Prop := ∃ r, e = .returned (.tuple #[r, .bool (P.come d).2.isSome]) ∧ RR w b v ws w' v ws (P.come d).1 ∧ Bod w' r ((P.come d).2.getD []) ∧ ∀ k, r.ownBlock = some k → w.heap.size ≤ k
section
variable {o : Oper} {a : Act} {w : World} {K : Act → World → Prop} {Q : Exit → Act → World → Prop}
theorem o_lss2c (x : Operand) (c : Int) (ho : o.op = .binOp .lss 2 x (.const (.int .i64 c)) 2) (m : Int) (r : Bool) (hr : decide (m < c) = r) (hx : a.eval x = .int .i64 m) (h : K (a.put o.dst (.bool r)) w) : o.wp Try.prog a w K Q := by
  unfold Oper.wp execOp
  simp only [ho, hx]
  simp [go_sem, hr]
  exact h
theorem o_gtr2c (x : Operand) (c : Int) (ho : o.op = .binOp .gtr 2 x (.const (.int .i64 c)) 2) (m : Int) (r : Bool) (hr : decide (c < m) = r) (hx : a.eval x = .int .i64 m) (h : K (a.put o.dst (.bool r)) w) : o.wp Try.prog a w K Q := by
  unfold Oper.wp execOp
  simp only [ho, hx]
  simp [go_sem, hr]
  exact h
theorem o_eql2c (x : Operand) (c : Int) (ho : o.op = .binOp .eql 2 x (.const (.int .i64 c)) 2) (m : Int) (r : Bool) (hr : decide (m = c) = r) (hx : a.eval x = .int .i64 m) (h : K (a.put o.dst (.bool r)) w) : o.wp Try.prog a w K Q := by
  have hb : (m == c) = r := by rw [← hr]; rfl
  unfold Oper.wp execOp
  simp only [ho, hx]
  simp [go_sem, hb]
  exact h
end
section
variable {ops : Array Oper} {rest : List Oper} {op : Oper} {a : Act} {w : World} {Q : Exit → Act → World → Prop}
theorem wpAppB (hgd : op.guard = none) (x : Operand) (ho : op.op = .call { callee := .builtin .append, args := #[.const (.slice none 0 0), x], argTypes := #[33, 33] }) (ao : Option Addr) (m c : Nat) (bs : List Int) (hx : a.eval x = .slice ao m c) (hnil : ao = none → m = 0 ∧ c = 0) (hV : Vals w ao m c (u8s bs)) (hby : ∀ x ∈ bs, 0 ≤ x ∧ x < 256) (hm : m ≤ 140737488355328)
    (h : ∀ v' w', Bod w' v' bs → (∀ k, v'.ownBlock = some k → w.heap.size ≤ k) → Kept [] w w' → wpList Try.prog ops Q rest (a.put op.dst v') w') : wpList Try.prog ops Q (op :: rest) a w :=
  wpList_plain hgd fun _ hK => o_appB x ho ao m c bs hx hnil hV hby hm fun v' w' h1 h2 h3 => hK _ _ (h v' w' h1 h2 h3)
end
@[reducible] def S21 (V : World) (b : Nat) (v : Value) (P : Ps) (k : Nat) (d : Nat → Bool) (_ : Nat → Value) (W : World) : Prop :=
  Kept [b] V W ∧ Blk W b 32 ((if d 10 then P.forget k else P).R v)
theorem S21.loc {V : World} {b : Nat} {v : Value} {P : Ps} {k : Nat} : ∀ d d' vs vs' W, (∀ i ∈ [10], d i = d' i ∧ vs i = vs' i) → S21 V b v P k d vs W → S21 V b v P k d' vs' W := by
  intro d d' vs vs' W H h
  have e0 := H 10 (by simp)
  unfold S21 at h ⊢
  rw [← e0.1]
  exact h
set_option maxHeartbeats 2000000 in
theorem rno_1 (b : Nat) (v : Value) (ws : List Value) (P : Ps) (d : Dg) (uo : Option Addr) (m uc : Nat) (w : World) (h : Rx w b v ws P) (g1 : decide (d.fr = P.oth) = false) : Calls Try.prog 21 #[P0 b, aggV (d.C (.slice uo m uc))] w fun e w' => e = .returned (.tuple #[.slice none 0 0, .bool false]) ∧ Kept [] w w' := by
  obtain ⟨vo, vc, rfl, _, _⟩ := h.sl
  have HS := hide h
  have H1 := hide g1
  clear h g1
  go_enter Try.func21, Try.ntmps21
  go_wp2_with (
    first
    | (refine wpBoxV (by rfl) (.tmp 1) (by rfl) (d.C (.slice uo m uc)) (by kernel_rfl) ?_
       intro w1 z e1 B1 K1
       have HE : Hid (w.heap.size ≤ z) := by rw [e1]; exact (Nat.le_refl _ : w.heap.size ≤ w.heap.size)
       have HP := hide B1
       have HK := hide K1
       replace HS := hide ((unhide HS).kept0 K1)
       clear e1 B1 K1))
  have HH := hide (unhide HS).head
  simp only [List.append_eq, List.cons_append, List.nil_append]
  refine wp_region_any mixed (wpAny_tq 67 rfl (by kernel_rfl) [some (.pointer (some ⟨z, 0, none⟩)), some (.int .i64 d.fr), some (P0 b), some (P0 b), some (.pointer (some ⟨b, 1, none⟩)), some (.int .i64 P.oth), some (.bool true), some (.bool true), none, none, none, none, none, none, none, some (.bool true), some (.bool true), none, none, none, none, none, none, none, some (.bool true), some (.bool true), none, none, none, some (.bool true), some (.bool true), none, none, none, some (.bool true), some (.bool true), none, none, none, some (.bool true), some (.bool true), none, none, none, none, none, none, none, none, some (.bool true), some (.bool true), none, none, none, none, some (.bool true), some (.bool true), none, none, none, none, none, none, none, none, none, some (.bool true)] rfl (by kernel_rfl) (by kernel_rfl) ?_ ?_)
  · intro i o' hi hsk ho a' w2 hout hin hk2
    replace hk2 : Kept [] w1 w2 := ⟨hk2.os, hk2.tape, hk2.output, hk2.size, hk2.block⟩
    match i, ho, hsk with
    | 0, ho, hsk =>
      obtain rfl := Option.some.inj ho
      exact o_fld35_0 (.tmp 3) rfl z ((hout 3 (by kernel_rfl)).trans rfl) ⟨_, rfl, tq_is _ _ _ _ rfl, Kept.refl _ _, fun _ _ _ _ _ => trivial⟩
    | 1, ho, hsk =>
      obtain rfl := Option.some.inj ho
      have e0 : a'.eval (.tmp 6) = .pointer (some ⟨z, 0, none⟩) := is_tq (hin 0 6 (by kernel_rfl) (by kernel_rfl)) rfl
      exact o_load3 (.tmp 6) rfl _ _ e0 (fits_cell ((unhide HP).kept hk2 (by simp)) 0 _ rfl) ⟨_, rfl, tq_is _ _ _ _ rfl, Kept.refl _ _, fun _ _ _ _ _ => trivial⟩
    | 2, ho, hsk =>
      obtain rfl := Option.some.inj ho
      exact wp_move (.tmp 0) rfl _ ((hout 0 (by kernel_rfl)).trans rfl) ⟨_, rfl, tq_is _ _ _ _ rfl, Kept.refl _ _, fun _ _ _ _ _ => trivial⟩
    | 3, ho, hsk =>
      obtain rfl := Option.some.inj ho
      have e0 : a'.eval (.tmp 8) = P0 b := is_tq (hin 2 8 (by kernel_rfl) (by kernel_rfl)) rfl
      exact o_nil (.tmp 8) rfl _ e0 ⟨_, rfl, tq_is _ _ _ _ rfl, Kept.refl _ _, fun _ _ _ _ _ => trivial⟩
    | 4, ho, hsk =>
      obtain rfl := Option.some.inj ho
      have e0 : a'.eval (.tmp 9) = P0 b := is_tq (hin 3 9 (by kernel_rfl) (by kernel_rfl)) rfl
      exact o_fld32_1 (.tmp 9) rfl b e0 ⟨_, rfl, tq_is _ _ _ _ rfl, Kept.refl _ _, fun _ _ _ _ _ => trivial⟩
    | 5, ho, hsk =>
      obtain rfl := Option.some.inj ho
      have e0 : a'.eval (.tmp 10) = .pointer (some ⟨b, 1, none⟩) := is_tq (hin 4 10 (by kernel_rfl) (by kernel_rfl)) rfl
      exact o_load3 (.tmp 10) rfl _ _ e0 (fits_cell ((unhide HH).kept hk2 (by simp)) 1 _ rfl) ⟨_, rfl, tq_is _ _ _ _ rfl, Kept.refl _ _, fun _ _ _ _ _ => trivial⟩
    | 6, ho, hsk =>
      obtain rfl := Option.some.inj ho
      have e0 : a'.eval (.tmp 7) = .int .i64 d.fr := is_tq (hin 1 7 (by kernel_rfl) (by kernel_rfl)) rfl
      have e1 : a'.eval (.tmp 11) = .int .i64 P.oth := is_tq (hin 5 11 (by kernel_rfl) (by kernel_rfl)) rfl
      exact o_neqT3 (.tmp 7) (.tmp 11) rfl _ _ false (unhide H1) e0 e1 ⟨_, rfl, tq_is _ _ _ _ rfl, Kept.refl _ _, fun _ _ _ _ _ => trivial⟩
    | 7, ho, hsk =>
      obtain rfl := Option.some.inj ho
      have e0 : a'.eval (.tmp 12) = .bool true := is_tq (hin 6 12 (by kernel_rfl) (by kernel_rfl)) rfl
      exact wp_move (.tmp 12) rfl _ e0 ⟨_, rfl, tq_is _ _ _ _ rfl, Kept.refl _ _, fun _ _ _ _ _ => trivial⟩
    | 8, ho, hsk =>
      cases hsk
    | 9, ho, hsk =>
      cases hsk
    | 10, ho, hsk =>
      cases hsk
    | 11, ho, hsk =>
      cases hsk
    | 12, ho, hsk =>
      cases hsk
    | 13, ho, hsk =>
      cases hsk
    | 14, ho, hsk =>
      cases hsk
    | 15, ho, hsk =>
      obtain rfl := Option.some.inj ho
      have e0 : a'.eval (.tmp 13) = .bool true := is_tq (hin 7 13 (by kernel_rfl) (by kernel_rfl)) rfl
      exact o_pickOrT (.tmp 13) (.tmp 20) rfl e0 ⟨_, rfl, tq_is _ _ _ _ rfl, Kept.refl _ _, fun _ _ _ _ _ => trivial⟩
    | 16, ho, hsk =>
      obtain rfl := Option.some.inj ho
      have e0 : a'.eval (.tmp 21) = .bool true := is_tq (hin 15 21 (by kernel_rfl) (by kernel_rfl)) rfl
      exact wp_move (.tmp 21) rfl _ e0 ⟨_, rfl, tq_is _ _ _ _ rfl, Kept.refl _ _, fun _ _ _ _ _ => trivial⟩
    | 17, ho, hsk =>
      cases hsk
    | 18, ho, hsk =>
      cases hsk
    | 19, ho, hsk =>
      cases hsk
    | 20, ho, hsk =>
      cases hsk
    | 21, ho, hsk =>
      cases hsk
    | 22, ho, hsk =>
      cases hsk
    | 23, ho, hsk =>
      cases hsk
    | 24, ho, hsk =>
      obtain rfl := Option.some.inj ho
      have e0 : a'.eval (.tmp 22) = .bool true := is_tq (hin 16 22 (by kernel_rfl) (by kernel_rfl)) rfl
      exact o_pickOrT (.tmp 22) (.tmp 29) rfl e0 ⟨_, rfl, tq_is _ _ _ _ rfl, Kept.refl _ _, fun _ _ _ _ _ => trivial⟩
    | 25, ho, hsk =>
      obtain rfl := Option.some.inj ho
      have e0 : a'.eval (.tmp 30) = .bool true := is_tq (hin 24 30 (by kernel_rfl) (by kernel_rfl)) rfl
      exact wp_move (.tmp 30) rfl _ e0 ⟨_, rfl, tq_is _ _ _ _ rfl, Kept.refl _ _, fun _ _ _ _ _ => trivial⟩
    | 26, ho, hsk =>
      cases hsk
    | 27, ho, hsk =>
      cases hsk
    | 28, ho, hsk =>
      cases hsk
    | 29, ho, hsk =>
      obtain rfl := Option.some.inj ho
      have e0 : a'.eval (.tmp 31) = .bool true := is_tq (hin 25 31 (by kernel_rfl) (by kernel_rfl)) rfl
      exact o_pickOrT (.tmp 31) (.tmp 34) rfl e0 ⟨_, rfl, tq_is _ _ _ _ rfl, Kept.refl _ _, fun _ _ _ _ _ => trivial⟩
    | 30, ho, hsk =>
      obtain rfl := Option.some.inj ho
      have e0 : a'.eval (.tmp 35) = .bool true := is_tq (hin 29 35 (by kernel_rfl) (by kernel_rfl)) rfl
      exact wp_move (.tmp 35) rfl _ e0 ⟨_, rfl, tq_is _ _ _ _ rfl, Kept.refl _ _, fun _ _ _ _ _ => trivial⟩
    | 31, ho, hsk =>
      cases hsk
    | 32, ho, hsk =>
      cases hsk
    | 33, ho, hsk =>
      cases hsk
    | 34, ho, hsk =>
      obtain rfl := Option.some.inj ho
      have e0 : a'.eval (.tmp 36) = .bool true := is_tq (hin 30 36 (by kernel_rfl) (by kernel_rfl)) rfl
      exact o_pickOrT (.tmp 36) (.tmp 39) rfl e0 ⟨_, rfl, tq_is _ _ _ _ rfl, Kept.refl _ _, fun _ _ _ _ _ => trivial⟩
    | 35, ho, hsk =>
      obtain rfl := Option.some.inj ho
      have e0 : a'.eval (.tmp 40) = .bool true := is_tq (hin 34 40 (by kernel_rfl) (by kernel_rfl)) rfl
      exact wp_move (.tmp 40) rfl _ e0 ⟨_, rfl, tq_is _ _ _ _ rfl, Kept.refl _ _, fun _ _ _ _ _ => trivial⟩
    | 36, ho, hsk =>
      cases hsk
    | 37, ho, hsk =>
      cases hsk
    | 38, ho, hsk =>
      cases hsk
    | 39, ho, hsk =>
      obtain rfl := Option.some.inj ho
      have e0 : a'.eval (.tmp 41) = .bool true := is_tq (hin 35 41 (by kernel_rfl) (by kernel_rfl)) rfl
      exact o_pickOrT (.tmp 41) (.tmp 44) rfl e0 ⟨_, rfl, tq_is _ _ _ _ rfl, Kept.refl _ _, fun _ _ _ _ _ => trivial⟩
    | 40, ho, hsk =>
      obtain rfl := Option.some.inj ho
      have e0 : a'.eval (.tmp 45) = .bool true := is_tq (hin 39 45 (by kernel_rfl) (by kernel_rfl)) rfl
      exact wp_move (.tmp 45) rfl _ e0 ⟨_, rfl, tq_is _ _ _ _ rfl, Kept.refl _ _, fun _ _ _ _ _ => trivial⟩
    | 41, ho, hsk =>
      cases hsk
    | 42, ho, hsk =>
      cases hsk
    | 43, ho, hsk =>
      cases hsk
    | 44, ho, hsk =>
      cases hsk
    | 45, ho, hsk =>
      cases hsk
    | 46, ho, hsk =>
      cases hsk
    | 47, ho, hsk =>
      cases hsk
    | 48, ho, hsk =>
      cases hsk
    | 49, ho, hsk =>
      obtain rfl := Option.some.inj ho
      have e0 : a'.eval (.tmp 46) = .bool true := is_tq (hin 40 46 (by kernel_rfl) (by kernel_rfl)) rfl
      exact o_pickOrT (.tmp 46) (.tmp 54) rfl e0 ⟨_, rfl, tq_is _ _ _ _ rfl, Kept.refl _ _, fun _ _ _ _ _ => trivial⟩
    | 50, ho, hsk =>
      obtain rfl := Option.some.inj ho
      have e0 : a'.eval (.tmp 55) = .bool true := is_tq (hin 49 55 (by kernel_rfl) (by kernel_rfl)) rfl
      exact wp_move (.tmp 55) rfl _ e0 ⟨_, rfl, tq_is _ _ _ _ rfl, Kept.refl _ _, fun _ _ _ _ _ => trivial⟩
    | 51, ho, hsk =>
      cases hsk
    | 52, ho, hsk =>
      cases hsk
    | 53, ho, hsk =>
      cases hsk
    | 54, ho, hsk =>
      cases hsk
    | 55, ho, hsk =>
      obtain rfl := Option.some.inj ho
      have e0 : a'.eval (.tmp 56) = .bool true := is_tq (hin 50 56 (by kernel_rfl) (by kernel_rfl)) rfl
      exact o_pickOrT (.tmp 56) (.tmp 60) rfl e0 ⟨_, rfl, tq_is _ _ _ _ rfl, Kept.refl _ _, fun _ _ _ _ _ => trivial⟩
    | 56, ho, hsk =>
      obtain rfl := Option.some.inj ho
      have e0 : a'.eval (.tmp 61) = .bool true := is_tq (hin 55 61 (by kernel_rfl) (by kernel_rfl)) rfl
      exact wp_move (.tmp 61) rfl _ e0 ⟨_, rfl, tq_is _ _ _ _ rfl, Kept.refl _ _, fun _ _ _ _ _ => trivial⟩
    | 57, ho, hsk =>
      cases hsk
    | 58, ho, hsk =>
      cases hsk
    | 59, ho, hsk =>
      cases hsk
    | 60, ho, hsk =>
      cases hsk
    | 61, ho, hsk =>
      cases hsk
    | 62, ho, hsk =>
      cases hsk
    | 63, ho, hsk =>
      cases hsk
    | 64, ho, hsk =>
      cases hsk
    | 65, ho, hsk =>
      cases hsk
    | 66, ho, hsk =>
      obtain rfl := Option.some.inj ho
      have e0 : a'.eval (.tmp 62) = .bool true := is_tq (hin 56 62 (by kernel_rfl) (by kernel_rfl)) rfl
      exact o_pickOrT (.tmp 62) (.tmp 71) rfl e0 ⟨_, rfl, tq_is _ _ _ _ rfl, Kept.refl _ _, fun _ _ _ _ _ => trivial⟩
  intro w9 hk9
  replace hk9 : Kept [] w1 w9 := ⟨hk9.os, hk9.tape, hk9.output, hk9.size, hk9.block⟩
  simp only [valsQ, List.map_cons, List.map_nil, Option.getD_some, Option.getD_none, List.take_succ_cons, List.take_zero, putAll, Act.put, List.setIfInBounds_toArray, List.set_cons_succ, List.set_cons_zero]
  refine wpAny_done (by kernel_rfl) ?_ _
  replace HK := hide ((unhide HK).trans hk9)
  clear hk9
  go_wp2_with fail
  go_ret2
  exact ⟨rfl, unhide HK⟩
set_option maxHeartbeats 2000000 in
theorem rno_2 (b : Nat) (v : Value) (ws : List Value) (P : Ps) (d : Dg) (uo : Option Addr) (m uc : Nat) (w : World) (h : Rx w b v ws P) (g1 : decide (d.fr = P.oth) = true) (g2 : decide (d.to = P.me) = false) : Calls Try.prog 21 #[P0 b, aggV (d.C (.slice uo m uc))] w fun e w' => e = .returned (.tuple #[.slice none 0 0, .bool false]) ∧ Kept [] w w' := by
  obtain ⟨vo, vc, rfl, _, _⟩ := h.sl
  have HS := hide h
  have H1 := hide g1
  have H2 := hide g2
  clear h g1 g2
  go_enter Try.func21, Try.ntmps21
  go_wp2_with (
    first
    | (refine wpBoxV (by rfl) (.tmp 1) (by rfl) (d.C (.slice uo m uc)) (by kernel_rfl) ?_
       intro w1 z e1 B1 K1
       have HE : Hid (w.heap.size ≤ z) := by rw [e1]; exact (Nat.le_refl _ : w.heap.size ≤ w.heap.size)
       have HP := hide B1
       have HK := hide K1
       replace HS := hide ((unhide HS).kept0 K1)
       clear e1 B1 K1))
  have HH := hide (unhide HS).head
  simp only [List.append_eq, List.cons_append, List.nil_append]
  refine wp_region_any mixed (wpAny_tq 67 rfl (by kernel_rfl) [some (.pointer (some ⟨z, 0, none⟩)), some (.int .i64 d.fr), some (P0 b), some (P0 b), some (.pointer (some ⟨b, 1, none⟩)), some (.int .i64 P.oth), some (.bool false), some (.bool false), some (.pointer (some ⟨z, 1, none⟩)), some (.int .i64 d.to), some (P0 b), some (P0 b), some (.pointer (some ⟨b, 0, none⟩)), some (.int .i64 P.me), some (.bool true), some (.bool true), some (.bool true), none, none, none, none, none, none, none, some (.bool true), some (.bool true), none, none, none, some (.bool true), some (.bool true), none, none, none, some (.bool true), some (.bool true), none, none, none, some (.bool true), some (.bool true), none, none, none, none, none, none, none, none, some (.bool true), some (.bool true), none, none, none, none, some (.bool true), some (.bool true), none, none, none, none, none, none, none, none, none, some (.bool true)] rfl (by kernel_rfl) (by kernel_rfl) ?_ ?_)
  · intro i o' hi hsk ho a' w2 hout hin hk2
    replace hk2 : Kept [] w1 w2 := ⟨hk2.os, hk2.tape, hk2.output, hk2.size, hk2.block⟩
    match i, ho, hsk with
    | 0, ho, hsk =>
      obtain rfl := Option.some.inj ho
      exact o_fld35_0 (.tmp 3) rfl z ((hout 3 (by kernel_rfl)).trans rfl) ⟨_, rfl, tq_is _ _ _ _ rfl, Kept.refl _ _, fun _ _ _ _ _ => trivial⟩
    | 1, ho, hsk =>
      obtain rfl := Option.some.inj ho
      have e0 : a'.eval (.tmp 6) = .pointer (some ⟨z, 0, none⟩) := is_tq (hin 0 6 (by kernel_rfl) (by kernel_rfl)) rfl
      exact o_load3 (.tmp 6) rfl _ _ e0 (fits_cell ((unhide HP).kept hk2 (by simp)) 0 _ rfl) ⟨_, rfl, tq_is _ _ _ _ rfl, Kept.refl _ _, fun _ _ _ _ _ => trivial⟩
    | 2, ho, hsk =>
      obtain rfl := Option.some.inj ho
      exact wp_move (.tmp 0) rfl _ ((hout 0 (by kernel_rfl)).trans rfl) ⟨_, rfl, tq_is _ _ _ _ rfl, Kept.refl _ _, fun _ _ _ _ _ => trivial⟩
    | 3, ho, hsk =>
      obtain rfl := Option.some.inj ho
      have e0 : a'.eval (.tmp 8) = P0 b := is_tq (hin 2 8 (by kernel_rfl) (by kernel_rfl)) rfl
      exact o_nil (.tmp 8) rfl _ e0 ⟨_, rfl, tq_is _ _ _ _ rfl, Kept.refl _ _, fun _ _ _ _ _ => trivial⟩
    | 4, ho, hsk =>
      obtain rfl := Option.some.inj ho
      have e0 : a'.eval (.tmp 9) = P0 b := is_tq (hin 3 9 (by kernel_rfl) (by kernel_rfl)) rfl
      exact o_fld32_1 (.tmp 9) rfl b e0 ⟨_, rfl, tq_is _ _ _ _ rfl, Kept.refl _ _, fun _ _ _ _ _ => trivial⟩
    | 5, ho, hsk =>
      obtain rfl := Option.some.inj ho
      have e0 : a'.eval (.tmp 10) = .pointer (some ⟨b, 1, none⟩) := is_tq (hin 4 10 (by kernel_rfl) (by kernel_rfl)) rfl
      exact o_load3 (.tmp 10) rfl _ _ e0 (fits_cell ((unhide HH).kept hk2 (by simp)) 1 _ rfl) ⟨_, rfl, tq_is _ _ _ _ rfl, Kept.refl _ _, fun _ _ _ _ _ => trivial⟩
    | 6, ho, hsk =>
      obtain rfl := Option.some.inj ho
      have e0 : a'.eval (.tmp 7) = .int .i64 d.fr := is_tq (hin 1 7 (by kernel_rfl) (by kernel_rfl)) rfl
      have e1 : a'.eval (.tmp 11) = .int .i64 P.oth := is_tq (hin 5 11 (by kernel_rfl) (by kernel_rfl)) rfl
      exact o_neqT3 (.tmp 7) (.tmp 11) rfl _ _ true (unhide H1) e0 e1 ⟨_, rfl, tq_is _ _ _ _ rfl, Kept.refl _ _, fun _ _ _ _ _ => trivial⟩
    | 7, ho, hsk =>
      obtain rfl := Option.some.inj ho
      have e0 : a'.eval (.tmp 12) = .bool false := is_tq (hin 6 12 (by kernel_rfl) (by kernel_rfl)) rfl
      exact wp_move (.tmp 12) rfl _ e0 ⟨_, rfl, tq_is _ _ _ _ rfl, Kept.refl _ _, fun _ _ _ _ _ => trivial⟩
    | 8, ho, hsk =>
      obtain rfl := Option.some.inj ho
      exact o_fld35_1 (.tmp 3) rfl z ((hout 3 (by kernel_rfl)).trans rfl) ⟨_, rfl, tq_is _ _ _ _ rfl, Kept.refl _ _, fun _ _ _ _ _ => trivial⟩
    | 9, ho, hsk =>
      obtain rfl := Option.some.inj ho
      have e0 : a'.eval (.tmp 14) = .pointer (some ⟨z, 1, none⟩) := is_tq (hin 8 14 (by kernel_rfl) (by kernel_rfl)) rfl
      exact o_load3 (.tmp 14) rfl _ _ e0 (fits_cell ((unhide HP).kept hk2 (by simp)) 1 _ rfl) ⟨_, rfl, tq_is _ _ _ _ rfl, Kept.refl _ _, fun _ _ _ _ _ => trivial⟩
    | 10, ho, hsk =>
      obtain rfl := Option.some.inj ho
      exact wp_move (.tmp 0) rfl _ ((hout 0 (by kernel_rfl)).trans rfl) ⟨_, rfl, tq_is _ _ _ _ rfl, Kept.refl _ _, fun _ _ _ _ _ => trivial⟩
    | 11, ho, hsk =>
      obtain rfl := Option.some.inj ho
      have e0 : a'.eval (.tmp 16) = P0 b := is_tq (hin 10 16 (by kernel_rfl) (by kernel_rfl)) rfl
      exact o_nil (.tmp 16) rfl _ e0 ⟨_, rfl, tq_is _ _ _ _ rfl, Kept.refl _ _, fun _ _ _ _ _ => trivial⟩
    | 12, ho, hsk =>
      obtain rfl := Option.some.inj ho
      have e0 : a'.eval (.tmp 17) = P0 b := is_tq (hin 11 17 (by kernel_rfl) (by kernel_rfl)) rfl
      exact o_fld32_0 (.tmp 17) rfl b e0 ⟨_, rfl, tq_is _ _ _ _ rfl, Kept.refl _ _, fun _ _ _ _ _ => trivial⟩
    | 13, ho, hsk =>
      obtain rfl := Option.some.inj ho
      have e0 : a'.eval (.tmp 18) = .pointer (some ⟨b, 0, none⟩) := is_tq (hin 12 18 (by kernel_rfl) (by kernel_rfl)) rfl
      exact o_load3 (.tmp 18) rfl _ _ e0 (fits_cell ((unhide HH).kept hk2 (by simp)) 0 _ rfl) ⟨_, rfl, tq_is _ _ _ _ rfl, Kept.refl _ _, fun _ _ _ _ _ => trivial⟩
    | 14, ho, hsk =>
      obtain rfl := Option.some.inj ho
      have e0 : a'.eval (.tmp 15) = .int .i64 d.to := is_tq (hin 9 15 (by kernel_rfl) (by kernel_rfl)) rfl
      have e1 : a'.eval (.tmp 19) = .int .i64 P.me := is_tq (hin 13 19 (by kernel_rfl) (by kernel_rfl)) rfl
      exact o_neqT3 (.tmp 15) (.tmp 19) rfl _ _ false (unhide H2) e0 e1 ⟨_, rfl, tq_is _ _ _ _ rfl, Kept.refl _ _, fun _ _ _ _ _ => trivial⟩
    | 15, ho, hsk =>
      obtain rfl := Option.some.inj ho
      have e0 : a'.eval (.tmp 13) = .bool false := is_tq (hin 7 13 (by kernel_rfl) (by kernel_rfl)) rfl
      have e1 : a'.eval (.tmp 20) = .bool true := is_tq (hin 14 20 (by kernel_rfl) (by kernel_rfl)) rfl
      exact o_pickOr0 (.tmp 13) (.tmp 20) rfl _ e0 e1 ⟨_, rfl, tq_is _ _ _ _ rfl, Kept.refl _ _, fun _ _ _ _ _ => trivial⟩
    | 16, ho, hsk =>
      obtain rfl := Option.some.inj ho
      have e0 : a'.eval (.tmp 21) = .bool true := is_tq (hin 15 21 (by kernel_rfl) (by kernel_rfl)) rfl
      exact wp_move (.tmp 21) rfl _ e0 ⟨_, rfl, tq_is _ _ _ _ rfl, Kept.refl _ _, fun _ _ _ _ _ => trivial⟩
    | 17, ho, hsk =>
      cases hsk
    | 18, ho, hsk =>
      cases hsk
    | 19, ho, hsk =>
      cases hsk
    | 20, ho, hsk =>
      cases hsk
    | 21, ho, hsk =>
      cases hsk
    | 22, ho, hsk =>
      cases hsk
    | 23, ho, hsk =>
      cases hsk
    | 24, ho, hsk =>
      obtain rfl := Option.some.inj ho
      have e0 : a'.eval (.tmp 22) = .bool true := is_tq (hin 16 22 (by kernel_rfl) (by kernel_rfl)) rfl
      exact o_pickOrT (.tmp 22) (.tmp 29) rfl e0 ⟨_, rfl, tq_is _ _ _ _ rfl, Kept.refl _ _, fun _ _ _ _ _ => trivial⟩
    | 25, ho, hsk =>
      obtain rfl := Option.some.inj ho
      have e0 : a'.eval (.tmp 30) = .bool true := is_tq (hin 24 30 (by kernel_rfl) (by kernel_rfl)) rfl
      exact wp_move (.tmp 30) rfl _ e0 ⟨_, rfl, tq_is _ _ _ _ rfl, Kept.refl _ _, fun _ _ _ _ _ => trivial⟩
    | 26, ho, hsk =>
      cases hsk
    | 27, ho, hsk =>
      cases hsk
    | 28, ho, hsk =>
      cases hsk
    | 29, ho, hsk =>
      obtain rfl := Option.some.inj ho
      have e0 : a'.eval (.tmp 31) = .bool true := is_tq (hin 25 31 (by kernel_rfl) (by kernel_rfl)) rfl
      exact o_pickOrT (.tmp 31) (.tmp 34) rfl e0 ⟨_, rfl, tq_is _ _ _ _ rfl, Kept.refl _ _, fun _ _ _ _ _ => trivial⟩
    | 30, ho, hsk =>
      obtain rfl := Option.some.inj ho
      have e0 : a'.eval (.tmp 35) = .bool true := is_tq (hin 29 35 (by kernel_rfl) (by kernel_rfl)) rfl
      exact wp_move (.tmp 35) rfl _ e0 ⟨_, rfl, tq_is _ _ _ _ rfl, Kept.refl _ _, fun _ _ _ _ _ => trivial⟩
    | 31, ho, hsk =>
      cases hsk
    | 32, ho, hsk =>
      cases hsk
    | 33, ho, hsk =>
      cases hsk
    | 34, ho, hsk =>
      obtain rfl := Option.some.inj ho
      have e0 : a'.eval (.tmp 36) = .bool true := is_tq (hin 30 36 (by kernel_rfl) (by kernel_rfl)) rfl
      exact o_pickOrT (.tmp 36) (.tmp 39) rfl e0 ⟨_, rfl, tq_is _ _ _ _ rfl, Kept.refl _ _, fun _ _ _ _ _ => trivial⟩
    | 35, ho, hsk =>
      obtain rfl := Option.some.inj ho
      have e0 : a'.eval (.tmp 40) = .bool true := is_tq (hin 34 40 (by kernel_rfl) (by kernel_rfl)) rfl
      exact wp_move (.tmp 40) rfl _ e0 ⟨_, rfl, tq_is _ _ _ _ rfl, Kept.refl _ _, fun _ _ _ _ _ => trivial⟩
    | 36, ho, hsk =>
      cases hsk
    | 37, ho, hsk =>
      cases hsk
    | 38, ho, hsk =>
      cases hsk
    | 39, ho, hsk =>
      obtain rfl := Option.some.inj ho
      have e0 : a'.eval (.tmp 41) = .bool true := is_tq (hin 35 41 (by kernel_rfl) (by kernel_rfl)) rfl
      exact o_pickOrT (.tmp 41) (.tmp 44) rfl e0 ⟨_, rfl, tq_is _ _ _ _ rfl, Kept.refl _ _, fun _ _ _ _ _ => trivial⟩
    | 40, ho, hsk =>
      obtain rfl := Option.some.inj ho
      have e0 : a'.eval (.tmp 45) = .bool true := is_tq (hin 39 45 (by kernel_rfl) (by kernel_rfl)) rfl
      exact wp_move (.tmp 45) rfl _ e0 ⟨_, rfl, tq_is _ _ _ _ rfl, Kept.refl _ _, fun _ _ _ _ _ => trivial⟩
    | 41, ho, hsk =>
      cases hsk
    | 42, ho, hsk =>
      cases hsk
    | 43, ho, hsk =>
      cases hsk
    | 44, ho, hsk =>
      cases hsk
    | 45, ho, hsk =>
      cases hsk
    | 46, ho, hsk =>
      cases hsk
    | 47, ho, hsk =>
      cases hsk
    | 48, ho, hsk =>
      cases hsk
    | 49, ho, hsk =>
      obtain rfl := Option.some.inj ho
      have e0 : a'.eval (.tmp 46) = .bool true := is_tq (hin 40 46 (by kernel_rfl) (by kernel_rfl)) rfl
      exact o_pickOrT (.tmp 46) (.tmp 54) rfl e0 ⟨_, rfl, tq_is _ _ _ _ rfl, Kept.refl _ _, fun _ _ _ _ _ => trivial⟩
    | 50, ho, hsk =>
      obtain rfl := Option.some.inj ho
      have e0 : a'.eval (.tmp 55) = .bool true := is_tq (hin 49 55 (by kernel_rfl) (by kernel_rfl)) rfl
      exact wp_move (.tmp 55) rfl _ e0 ⟨_, rfl, tq_is _ _ _ _ rfl, Kept.refl _ _, fun _ _ _ _ _ => trivial⟩
    | 51, ho, hsk =>
      cases hsk
    | 52, ho, hsk =>
      cases hsk
    | 53, ho, hsk =>
      cases hsk
    | 54, ho, hsk =>
      cases hsk
    | 55, ho, hsk =>
      obtain rfl := Option.some.inj ho
      have e0 : a'.eval (.tmp 56) = .bool true := is_tq (hin 50 56 (by kernel_rfl) (by kernel_rfl)) rfl
      exact o_pickOrT (.tmp 56) (.tmp 60) rfl e0 ⟨_, rfl, tq_is _ _ _ _ rfl, Kept.refl _ _, fun _ _ _ _ _ => trivial⟩
    | 56, ho, hsk =>
      obtain rfl := Option.some.inj ho
      have e0 : a'.eval (.tmp 61) = .bool true := is_tq (hin 55 61 (by kernel_rfl) (by kernel_rfl)) rfl
      exact wp_move (.tmp 61) rfl _ e0 ⟨_, rfl, tq_is _ _ _ _ rfl, Kept.refl _ _, fun _ _ _ _ _ => trivial⟩
    | 57, ho, hsk =>
      cases hsk
    | 58, ho, hsk =>
      cases hsk
    | 59, ho, hsk =>
      cases hsk
    | 60, ho, hsk =>
      cases hsk
    | 61, ho, hsk =>
      cases hsk
    | 62, ho, hsk =>
      cases hsk
    | 63, ho, hsk =>
      cases hsk
    | 64, ho, hsk =>
      cases hsk
    | 65, ho, hsk =>
      cases hsk
    | 66, ho, hsk =>
      obtain rfl := Option.some.inj ho
      have e0 : a'.eval (.tmp 62) = .bool true := is_tq (hin 56 62 (by kernel_rfl) (by kernel_rfl)) rfl
      exact o_pickOrT (.tmp 62) (.tmp 71) rfl e0 ⟨_, rfl, tq_is _ _ _ _ rfl, Kept.refl _ _, fun _ _ _ _ _ => trivial⟩
  intro w9 hk9
  replace hk9 : Kept [] w1 w9 := ⟨hk9.os, hk9.tape, hk9.output, hk9.size, hk9.block⟩
  simp only [valsQ, List.map_cons, List.map_nil, Option.getD_some, Option.getD_none, List.take_succ_cons, List.take_zero, putAll, Act.put, List.setIfInBounds_toArray, List.set_cons_succ, List.set_cons_zero]
  refine wpAny_done (by kernel_rfl) ?_ _
  replace HK := hide ((unhide HK).trans hk9)
  clear hk9
  go_wp2_with fail
  go_ret2
  exact ⟨rfl, unhide HK⟩
set_option maxHeartbeats 2000000 in
theorem rno_3 (b : Nat) (v : Value) (ws : List Value) (P : Ps) (d : Dg) (uo : Option Addr) (m uc : Nat) (w : World) (h : Rx w b v ws P) (g1 : decide (d.fr = P.oth) = true) (g2 : decide (d.to = P.me) = true) (g3 : decide (d.vw = P.view) = false) : Calls Try.prog 21 #[P0 b, aggV (d.C (.slice uo m uc))] w fun e w' => e = .returned (.tuple #[.slice none 0 0, .bool false]) ∧ Kept [] w w' := by
  obtain ⟨vo, vc, rfl, _, _⟩ := h.sl
  have HS := hide h
  have H1 := hide g1
  have H2 := hide g2
  have H3 := hide g3
  clear h g1 g2 g3
  go_enter Try.func21, Try.ntmps21
  go_wp2_with (
    first
    | (refine wpBoxV (by rfl) (.tmp 1) (by rfl) (d.C (.slice uo m uc)) (by kernel_rfl) ?_
       intro w1 z e1 B1 K1
       have HE : Hid (w.heap.size ≤ z) := by rw [e1]; exact (Nat.le_refl _ : w.heap.size ≤ w.heap.size)
       have HP := hide B1
       have HK := hide K1
       replace HS := hide ((unhide HS).kept0 K1)
       clear e1 B1 K1))
  have HH := hide (unhide HS).head
  simp only [List.append_eq, List.cons_append, List.nil_append]
  refine wp_region_any mixed (wpAny_tq 67 rfl (by kernel_rfl) [some (.pointer (some ⟨z, 0, none⟩)), some (.int .i64 d.fr), some (P0 b), some (P0 b), some (.pointer (some ⟨b, 1, none⟩)), some (.int .i64 P.oth), some (.bool false), some (.bool false), some (.pointer (some ⟨z, 1, none⟩)), some (.int .i64 d.to), some (P0 b), some (P0 b), some (.pointer (some ⟨b, 0, none⟩)), some (.int .i64 P.me), some (.bool false), some (.bool false), some (.bool false), some (.pointer (some ⟨z, 2, none⟩)), some (.int .i64 d.vw), some (P0 b), some (P0 b), some (.pointer (some ⟨b, 2, none⟩)), some (.int .i64 P.view), some (.bool true), some (.bool true), some (.bool true), none, none, none, some (.bool true), some (.bool true), none, none, none, some (.bool true), some (.bool true), none, none, none, some (.bool true), some (.bool true), none, none, none, none, none, none, none, none, some (.bool true), some (.bool true), none, none, none, none, some (.bool true), some (.bool true), none, none, none, none, none, none, none, none, none, some (.bool true)] rfl (by kernel_rfl) (by kernel_rfl) ?_ ?_)
  · intro i o' hi hsk ho a' w2 hout hin hk2
    replace hk2 : Kept [] w1 w2 := ⟨hk2.os, hk2.tape, hk2.output, hk2.size, hk2.block⟩
    match i, ho, hsk with
    | 0, ho, hsk =>
      obtain rfl := Option.some.inj ho
      exact o_fld35_0 (.tmp 3) rfl z ((hout 3 (by kernel_rfl)).trans rfl) ⟨_, rfl, tq_is _ _ _ _ rfl, Kept.refl _ _, fun _ _ _ _ _ => trivial⟩
    | 1, ho, hsk =>
      obtain rfl := Option.some.inj ho
      have e0 : a'.eval (.tmp 6) = .pointer (some ⟨z, 0, none⟩) := is_tq (hin 0 6 (by kernel_rfl) (by kernel_rfl)) rfl
      exact o_load3 (.tmp 6) rfl _ _ e0 (fits_cell ((unhide HP).kept hk2 (by simp)) 0 _ rfl) ⟨_, rfl, tq_is _ _ _ _ rfl, Kept.refl _ _, fun _ _ _ _ _ => trivial⟩
    | 2, ho, hsk =>
      obtain rfl := Option.some.inj ho
      exact wp_move (.tmp 0) rfl _ ((hout 0 (by kernel_rfl)).trans rfl) ⟨_, rfl, tq_is _ _ _ _ rfl, Kept.refl _ _, fun _ _ _ _ _ => trivial⟩
    | 3, ho, hsk =>
      obtain rfl := Option.some.inj ho
      have e0 : a'.eval (.tmp 8) = P0 b := is_tq (hin 2 8 (by kernel_rfl) (by kernel_rfl)) rfl
      exact o_nil (.tmp 8) rfl _ e0 ⟨_, rfl, tq_is _ _ _ _ rfl, Kept.refl _ _, fun _ _ _ _ _ => trivial⟩
    | 4, ho, hsk =>
      obtain rfl := Option.some.inj ho
      have e0 : a'.eval (.tmp 9) = P0 b := is_tq (hin 3 9 (by kernel_rfl) (by kernel_rfl)) rfl
      exact o_fld32_1 (.tmp 9) rfl b e0 ⟨_, rfl, tq_is _ _ _ _ rfl, Kept.refl _ _, fun _ _ _ _ _ => trivial⟩
    | 5, ho, hsk =>
      obtain rfl := Option.some.inj ho
      have e0 : a'.eval (.tmp 10) = .pointer (some ⟨b, 1, none⟩) := is_tq (hin 4 10 (by kernel_rfl) (by kernel_rfl)) rfl
      exact o_load3 (.tmp 10) rfl _ _ e0 (fits_cell ((unhide HH).kept hk2 (by simp)) 1 _ rfl) ⟨_, rfl, tq_is _ _ _ _ rfl, Kept.refl _ _, fun _ _ _ _ _ => trivial⟩
    | 6, ho, hsk =>
      obtain rfl := Option.some.inj ho
      have e0 : a'.eval (.tmp 7) = .int .i64 d.fr := is_tq (hin 1 7 (by kernel_rfl) (by kernel_rfl)) rfl
      have e1 : a'.eval (.tmp 11) = .int .i64 P.oth := is_tq (hin 5 11 (by kernel_rfl) (by kernel_rfl)) rfl
      exact o_neqT3 (.tmp 7) (.tmp 11) rfl _ _ true (unhide H1) e0 e1 ⟨_, rfl, tq_is _ _ _ _ rfl, Kept.refl _ _, fun _ _ _ _ _ => trivial⟩
    | 7, ho, hsk =>
      obtain rfl := Option.some.inj ho
      have e0 : a'.eval (.tmp 12) = .bool false := is_tq (hin 6 12 (by kernel_rfl) (by kernel_rfl)) rfl
      exact wp_move (.tmp 12) rfl _ e0 ⟨_, rfl, tq_is _ _ _ _ rfl, Kept.refl _ _, fun _ _ _ _ _ => trivial⟩
    | 8, ho, hsk =>
      obtain rfl := Option.some.inj ho
      exact o_fld35_1 (.tmp 3) rfl z ((hout 3 (by kernel_rfl)).trans rfl) ⟨_, rfl, tq_is _ _ _ _ rfl, Kept.refl _ _, fun _ _ _ _ _ => trivial⟩
    | 9, ho, hsk =>
      obtain rfl := Option.some.inj ho
      have e0 : a'.eval (.tmp 14) = .pointer (some ⟨z, 1, none⟩) := is_tq (hin 8 14 (by kernel_rfl) (by kernel_rfl)) rfl
      exact o_load3 (.tmp 14) rfl _ _ e0 (fits_cell ((unhide HP).kept hk2 (by simp)) 1 _ rfl) ⟨_, rfl, tq_is _ _ _ _ rfl, Kept.refl _ _, fun _ _ _ _ _ => trivial⟩
    | 10, ho, hsk =>
      obtain rfl := Option.some.inj ho
      exact wp_move (.tmp 0) rfl _ ((hout 0 (by kernel_rfl)).trans rfl) ⟨_, rfl, tq_is _ _ _ _ rfl, Kept.refl _ _, fun _ _ _ _ _ => trivial⟩
    | 11, ho, hsk =>
      obtain rfl := Option.some.inj ho
      have e0 : a'.eval (.tmp 16) = P0 b := is_tq (hin 10 16 (by kernel_rfl) (by kernel_rfl)) rfl
      exact o_nil (.tmp 16) rfl _ e0 ⟨_, rfl, tq_is _ _ _ _ rfl, Kept.refl _ _, fun _ _ _ _ _ => trivial⟩
    | 12, ho, hsk =>
      obtain rfl := Option.some.inj ho
      have e0 : a'.eval (.tmp 17) = P0 b := is_tq (hin 11 17 (by kernel_rfl) (by kernel_rfl)) rfl
      exact o_fld32_0 (.tmp 17) rfl b e0 ⟨_, rfl, tq_is _ _ _ _ rfl, Kept.refl _ _, fun _ _ _ _ _ => trivial⟩
    | 13, ho, hsk =>
      obtain rfl := Option.some.inj ho
      have e0 : a'.eval (.tmp 18) = .pointer (some ⟨b, 0, none⟩) := is_tq (hin 12 18 (by kernel_rfl) (by kernel_rfl)) rfl
      exact o_load3 (.tmp 18) rfl _ _ e0 (fits_cell ((unhide HH).kept hk2 (by simp)) 0 _ rfl) ⟨_, rfl, tq_is _ _ _ _ rfl, Kept.refl _ _, fun _ _ _ _ _ => trivial⟩
    | 14, ho, hsk =>
      obtain rfl := Option.some.inj ho
      have e0 : a'.eval (.tmp 15) = .int .i64 d.to := is_tq (hin 9 15 (by kernel_rfl) (by kernel_rfl)) rfl
      have e1 : a'.eval (.tmp 19) = .int .i64 P.me := is_tq (hin 13 19 (by kernel_rfl) (by kernel_rfl)) rfl
      exact o_neqT3 (.tmp 15) (.tmp 19) rfl _ _ true (unhide H2) e0 e1 ⟨_, rfl, tq_is _ _ _ _ rfl, Kept.refl _ _, fun _ _ _ _ _ => trivial⟩
    | 15, ho, hsk =>
      obtain rfl := Option.some.inj ho
      have e0 : a'.eval (.tmp 13) = .bool false := is_tq (hin 7 13 (by kernel_rfl) (by kernel_rfl)) rfl
      have e1 : a'.eval (.tmp 20) = .bool false := is_tq (hin 14 20 (by kernel_rfl) (by kernel_rfl)) rfl
      exact o_pickOr0 (.tmp 13) (.tmp 20) rfl _ e0 e1 ⟨_, rfl, tq_is _ _ _ _ rfl, Kept.refl _ _, fun _ _ _ _ _ => trivial⟩
    | 16, ho, hsk =>
      obtain rfl := Option.some.inj ho
      have e0 : a'.eval (.tmp 21) = .bool false := is_tq (hin 15 21 (by kernel_rfl) (by kernel_rfl)) rfl
      exact wp_move (.tmp 21) rfl _ e0 ⟨_, rfl, tq_is _ _ _ _ rfl, Kept.refl _ _, fun _ _ _ _ _ => trivial⟩
    | 17, ho, hsk =>
      obtain rfl := Option.some.inj ho
      exact o_fld35_2 (.tmp 3) rfl z ((hout 3 (by kernel_rfl)).trans rfl) ⟨_, rfl, tq_is _ _ _ _ rfl, Kept.refl _ _, fun _ _ _ _ _ => trivial⟩
    | 18, ho, hsk =>
      obtain rfl := Option.some.inj ho
      have e0 : a'.eval (.tmp 23) = .pointer (some ⟨z, 2, none⟩) := is_tq (hin 17 23 (by kernel_rfl) (by kernel_rfl)) rfl
      exact o_load2 (.tmp 23) rfl _ _ e0 (fits_cell ((unhide HP).kept hk2 (by simp)) 2 _ rfl) ⟨_, rfl, tq_is _ _ _ _ rfl, Kept.refl _ _, fun _ _ _ _ _ => trivial⟩
    | 19, ho, hsk =>
      obtain rfl := Option.some.inj ho
      exact wp_move (.tmp 0) rfl _ ((hout 0 (by kernel_rfl)).trans rfl) ⟨_, rfl, tq_is _ _ _ _ rfl, Kept.refl _ _, fun _ _ _ _ _ => trivial⟩
    | 20, ho, hsk =>
      obtain rfl := Option.some.inj ho
      have e0 : a'.eval (.tmp 25) = P0 b := is_tq (hin 19 25 (by kernel_rfl) (by kernel_rfl)) rfl
      exact o_nil (.tmp 25) rfl _ e0 ⟨_, rfl, tq_is _ _ _ _ rfl, Kept.refl _ _, fun _ _ _ _ _ => trivial⟩
    | 21, ho, hsk =>
      obtain rfl := Option.some.inj ho
      have e0 : a'.eval (.tmp 26) = P0 b := is_tq (hin 20 26 (by kernel_rfl) (by kernel_rfl)) rfl
      exact o_fld32_2 (.tmp 26) rfl b e0 ⟨_, rfl, tq_is _ _ _ _ rfl, Kept.refl _ _, fun _ _ _ _ _ => trivial⟩
    | 22, ho, hsk =>
      obtain rfl := Option.some.inj ho
      have e0 : a'.eval (.tmp 27) = .pointer (some ⟨b, 2, none⟩) := is_tq (hin 21 27 (by kernel_rfl) (by kernel_rfl)) rfl
      exact o_load2 (.tmp 27) rfl _ _ e0 (fits_cell ((unhide HH).kept hk2 (by simp)) 2 _ rfl) ⟨_, rfl, tq_is _ _ _ _ rfl, Kept.refl _ _, fun _ _ _ _ _ => trivial⟩
    | 23, ho, hsk =>
      obtain rfl := Option.some.inj ho
      have e0 : a'.eval (.tmp 24) = .int .i64 d.vw := is_tq (hin 18 24 (by kernel_rfl) (by kernel_rfl)) rfl
      have e1 : a'.eval (.tmp 28) = .int .i64 P.view := is_tq (hin 22 28 (by kernel_rfl) (by kernel_rfl)) rfl
      exact o_neqT2 (.tmp 24) (.tmp 28) rfl _ _ false (unhide H3) e0 e1 ⟨_, rfl, tq_is _ _ _ _ rfl, Kept.refl _ _, fun _ _ _ _ _ => trivial⟩
    | 24, ho, hsk =>
      obtain rfl := Option.some.inj ho
      have e0 : a'.eval (.tmp 22) = .bool false := is_tq (hin 16 22 (by kernel_rfl) (by kernel_rfl)) rfl
      have e1 : a'.eval (.tmp 29) = .bool true := is_tq (hin 23 29 (by kernel_rfl) (by kernel_rfl)) rfl
      exact o_pickOr0 (.tmp 22) (.tmp 29) rfl _ e0 e1 ⟨_, rfl, tq_is _ _ _ _ rfl, Kept.refl _ _, fun _ _ _ _ _ => trivial⟩
    | 25, ho, hsk =>
      obtain rfl := Option.some.inj ho
      have e0 : a'.eval (.tmp 30) = .bool true := is_tq (hin 24 30 (by kernel_rfl) (by kernel_rfl)) rfl
      exact wp_move (.tmp 30) rfl _ e0 ⟨_, rfl, tq_is _ _ _ _ rfl, Kept.refl _ _, fun _ _ _ _ _ => trivial⟩
    | 26, ho, hsk =>
      cases hsk
    | 27, ho, hsk =>
      cases hsk
    | 28, ho, hsk =>
      cases hsk
    | 29, ho, hsk =>
      obtain rfl := Option.some.inj ho
      have e0 : a'.eval (.tmp 31) = .bool true := is_tq (hin 25 31 (by kernel_rfl) (by kernel_rfl)) rfl
      exact o_pickOrT (.tmp 31) (.tmp 34) rfl e0 ⟨_, rfl, tq_is _ _ _ _ rfl, Kept.refl _ _, fun _ _ _ _ _ => trivial⟩
    | 30, ho, hsk =>
      obtain rfl := Option.some.inj ho
      have e0 : a'.eval (.tmp 35) = .bool true := is_tq (hin 29 35 (by kernel_rfl) (by kernel_rfl)) rfl
      exact wp_move (.tmp 35) rfl _ e0 ⟨_, rfl, tq_is _ _ _ _ rfl, Kept.refl _ _, fun _ _ _ _ _ => trivial⟩
    | 31, ho, hsk =>
      cases hsk
    | 32, ho, hsk =>
      cases hsk
    | 33, ho, hsk =>
      cases hsk
    | 34, ho, hsk =>
      obtain rfl := Option.some.inj ho
      have e0 : a'.eval (.tmp 36) = .bool true := is_tq (hin 30 36 (by kernel_rfl) (by kernel_rfl)) rfl
      exact o_pickOrT (.tmp 36) (.tmp 39) rfl e0 ⟨_, rfl, tq_is _ _ _ _ rfl, Kept.refl _ _, fun _ _ _ _ _ => trivial⟩
    | 35, ho, hsk =>
      obtain rfl := Option.some.inj ho
      have e0 : a'.eval (.tmp 40) = .bool true := is_tq (hin 34 40 (by kernel_rfl) (by kernel_rfl)) rfl
      exact wp_move (.tmp 40) rfl _ e0 ⟨_, rfl, tq_is _ _ _ _ rfl, Kept.refl _ _, fun _ _ _ _ _ => trivial⟩
    | 36, ho, hsk =>
      cases hsk
    | 37, ho, hsk =>
      cases hsk
    | 38, ho, hsk =>
      cases hsk
    | 39, ho, hsk =>
      obtain rfl := Option.some.inj ho
      have e0 : a'.eval (.tmp 41) = .bool true := is_tq (hin 35 41 (by kernel_rfl) (by kernel_rfl)) rfl
      exact o_pickOrT (.tmp 41) (.tmp 44) rfl e0 ⟨_, rfl, tq_is _ _ _ _ rfl, Kept.refl _ _, fun _ _ _ _ _ => trivial⟩
    | 40, ho, hsk =>
      obtain rfl := Option.some.inj ho
      have e0 : a'.eval (.tmp 45) = .bool true := is_tq (hin 39 45 (by kernel_rfl) (by kernel_rfl)) rfl
      exact wp_move (.tmp 45) rfl _ e0 ⟨_, rfl, tq_is _ _ _ _ rfl, Kept.refl _ _, fun _ _ _ _ _ => trivial⟩
    | 41, ho, hsk =>
      cases hsk
    | 42, ho, hsk =>
      cases hsk
    | 43, ho, hsk =>
      cases hsk
    | 44, ho, hsk =>
      cases hsk
    | 45, ho, hsk =>
      cases hsk
    | 46, ho, hsk =>
      cases hsk
    | 47, ho, hsk =>
      cases hsk
    | 48, ho, hsk =>
      cases hsk
    | 49, ho, hsk =>
      obtain rfl := Option.some.inj ho
      have e0 : a'.eval (.tmp 46) = .bool true := is_tq (hin 40 46 (by kernel_rfl) (by kernel_rfl)) rfl
      exact o_pickOrT (.tmp 46) (.tmp 54) rfl e0 ⟨_, rfl, tq_is _ _ _ _ rfl, Kept.refl _ _, fun _ _ _ _ _ => trivial⟩
    | 50, ho, hsk =>
      obtain rfl := Option.some.inj ho
      have e0 : a'.eval (.tmp 55) = .bool true := is_tq (hin 49 55 (by kernel_rfl) (by kernel_rfl)) rfl
      exact wp_move (.tmp 55) rfl _ e0 ⟨_, rfl, tq_is _ _ _ _ rfl, Kept.refl _ _, fun _ _ _ _ _ => trivial⟩
    | 51, ho, hsk =>
      cases hsk
    | 52, ho, hsk =>
      cases hsk
    | 53, ho, hsk =>
      cases hsk
    | 54, ho, hsk =>
      cases hsk
    | 55, ho, hsk =>
      obtain rfl := Option.some.inj ho
      have e0 : a'.eval (.tmp 56) = .bool true := is_tq (hin 50 56 (by kernel_rfl) (by kernel_rfl)) rfl
      exact o_pickOrT (.tmp 56) (.tmp 60) rfl e0 ⟨_, rfl, tq_is _ _ _ _ rfl, Kept.refl _ _, fun _ _ _ _ _ => trivial⟩
    | 56, ho, hsk =>
      obtain rfl := Option.some.inj ho
      have e0 : a'.eval (.tmp 61) = .bool true := is_tq (hin 55 61 (by kernel_rfl) (by kernel_rfl)) rfl
      exact wp_move (.tmp 61) rfl _ e0 ⟨_, rfl, tq_is _ _ _ _ rfl, Kept.refl _ _, fun _ _ _ _ _ => trivial⟩
    | 57, ho, hsk =>
      cases hsk
    | 58, ho, hsk =>
      cases hsk
    | 59, ho, hsk =>
      cases hsk
    | 60, ho, hsk =>
      cases hsk
    | 61, ho, hsk =>
      cases hsk
    | 62, ho, hsk =>
      cases hsk
    | 63, ho, hsk =>
      cases hsk
    | 64, ho, hsk =>
      cases hsk
    | 65, ho, hsk =>
      cases hsk
    | 66, ho, hsk =>
      obtain rfl := Option.some.inj ho
      have e0 : a'.eval (.tmp 62) = .bool true := is_tq (hin 56 62 (by kernel_rfl) (by kernel_rfl)) rfl
      exact o_pickOrT (.tmp 62) (.tmp 71) rfl e0 ⟨_, rfl, tq_is _ _ _ _ rfl, Kept.refl _ _, fun _ _ _ _ _ => trivial⟩
  intro w9 hk9
  replace hk9 : Kept [] w1 w9 := ⟨hk9.os, hk9.tape, hk9.output, hk9.size, hk9.block⟩
  simp only [valsQ, List.map_cons, List.map_nil, Option.getD_some, Option.getD_none, List.take_succ_cons, List.take_zero, putAll, Act.put, List.setIfInBounds_toArray, List.set_cons_succ, List.set_cons_zero]
  refine wpAny_done (by kernel_rfl) ?_ _
  replace HK := hide ((unhide HK).trans hk9)
  clear hk9
  go_wp2_with fail
  go_ret2
  exact ⟨rfl, unhide HK⟩
set_option maxHeartbeats 2000000 in
theorem rno_4 (b : Nat) (v : Value) (ws : List Value) (P : Ps) (d : Dg) (uo : Option Addr) (m uc : Nat) (w : World) (h : Rx w b v ws P) (g1 : decide (d.fr = P.oth) = true) (g2 : decide (d.to = P.me) = true) (g3 : decide (d.vw = P.view) = true) (g4 : decide (d.seq < 0) = true) : Calls Try.prog 21 #[P0 b, aggV (d.C (.slice uo m uc))] w fun e w' => e = .returned (.tuple #[.slice none 0 0, .bool false]) ∧ Kept [] w w' := by
  obtain ⟨vo, vc, rfl, _, _⟩ := h.sl
  have HS := hide h
  have H1 := hide g1
  have H2 := hide g2
  have H3 := hide g3
  have H4 := hide g4
  clear h g1 g2 g3 g4
  go_enter Try.func21, Try.ntmps21
  go_wp2_with (
    first
    | (refine wpBoxV (by rfl) (.tmp 1) (by rfl) (d.C (.slice uo m uc)) (by kernel_rfl) ?_
       intro w1 z e1 B1 K1
       have HE : Hid (w.heap.size ≤ z) := by rw [e1]; exact (Nat.le_refl _ : w.heap.size ≤ w.heap.size)
       have HP := hide B1
       have HK := hide K1
       replace HS := hide ((unhide HS).kept0 K1)
       clear e1 B1 K1))
  have HH := hide (unhide HS).head
  simp only [List.append_eq, List.cons_append, List.nil_append]
  refine wp_region_any mixed (wpAny_tq 67 rfl (by kernel_rfl) [some (.pointer (some ⟨z, 0, none⟩)), some (.int .i64 d.fr), some (P0 b), some (P0 b), some (.pointer (some ⟨b, 1, none⟩)), some (.int .i64 P.oth), some (.bool false), some (.bool false), some (.pointer (some ⟨z, 1, none⟩)), some (.int .i64 d.to), some (P0 b), some (P0 b), some (.pointer (some ⟨b, 0, none⟩)), some (.int .i64 P.me), some (.bool false), some (.bool false), some (.bool false), some (.pointer (some ⟨z, 2, none⟩)), some (.int .i64 d.vw), some (P0 b), some (P0 b), some (.pointer (some ⟨b, 2, none⟩)), some (.int .i64 P.view), some (.bool false), some (.bool false), some (.bool false), some (.pointer (some ⟨z, 3, none⟩)), some (.int .i64 d.seq), some (.bool true), some (.bool true), some (.bool true), none, none, none, some (.bool true), some (.bool true), none, none, none, some (.bool true), some (.bool true), none, none, none, none, none, none, none, none, some (.bool true), some (.bool true), none, none, none, none, some (.bool true), some (.bool true), none, none, none, none, none, none, none, none, none, some (.bool true)] rfl (by kernel_rfl) (by kernel_rfl) ?_ ?_)
  · intro i o' hi hsk ho a' w2 hout hin hk2
    replace hk2 : Kept [] w1 w2 := ⟨hk2.os, hk2.tape, hk2.output, hk2.size, hk2.block⟩
    match i, ho, hsk with
    | 0, ho, hsk =>
      obtain rfl := Option.some.inj ho
      exact o_fld35_0 (.tmp 3) rfl z ((hout 3 (by kernel_rfl)).trans rfl) ⟨_, rfl, tq_is _ _ _ _ rfl, Kept.refl _ _, fun _ _ _ _ _ => trivial⟩
    | 1, ho, hsk =>
      obtain rfl := Option.some.inj ho
      have e0 : a'.eval (.tmp 6) = .pointer (some ⟨z, 0, none⟩) := is_tq (hin 0 6 (by kernel_rfl) (by kernel_rfl)) rfl
      exact o_load3 (.tmp 6) rfl _ _ e0 (fits_cell ((unhide HP).kept hk2 (by simp)) 0 _ rfl) ⟨_, rfl, tq_is _ _ _ _ rfl, Kept.refl _ _, fun _ _ _ _ _ => trivial⟩
    | 2, ho, hsk =>
      obtain rfl := Option.some.inj ho
      exact wp_move (.tmp 0) rfl _ ((hout 0 (by kernel_rfl)).trans rfl) ⟨_, rfl, tq_is _ _ _ _ rfl, Kept.refl _ _, fun _ _ _ _ _ => trivial⟩
    | 3, ho, hsk =>
      obtain rfl := Option.some.inj ho
      have e0 : a'.eval (.tmp 8) = P0 b := is_tq (hin 2 8 (by kernel_rfl) (by kernel_rfl)) rfl
      exact o_nil (.tmp 8) rfl _ e0 ⟨_, rfl, tq_is _ _ _ _ rfl, Kept.refl _ _, fun _ _ _ _ _ => trivial⟩
    | 4, ho, hsk =>
      obtain rfl := Option.some.inj ho
      have e0 : a'.eval (.tmp 9) = P0 b := is_tq (hin 3 9 (by kernel_rfl) (by kernel_rfl)) rfl
      exact o_fld32_1 (.tmp 9) rfl b e0 ⟨_, rfl, tq_is _ _ _ _ rfl, Kept.refl _ _, fun _ _ _ _ _ => trivial⟩
    | 5, ho, hsk =>
      obtain rfl := Option.some.inj ho
      have e0 : a'.eval (.tmp 10) = .pointer (some ⟨b, 1, none⟩) := is_tq (hin 4 10 (by kernel_rfl) (by kernel_rfl)) rfl
      exact o_load3 (.tmp 10) rfl _ _ e0 (fits_cell ((unhide HH).kept hk2 (by simp)) 1 _ rfl) ⟨_, rfl, tq_is _ _ _ _ rfl, Kept.refl _ _, fun _ _ _ _ _ => trivial⟩
    | 6, ho, hsk =>
      obtain rfl := Option.some.inj ho
      have e0 : a'.eval (.tmp 7) = .int .i64 d.fr := is_tq (hin 1 7 (by kernel_rfl) (by kernel_rfl)) rfl
      have e1 : a'.eval (.tmp 11) = .int .i64 P.oth := is_tq (hin 5 11 (by kernel_rfl) (by kernel_rfl)) rfl
      exact o_neqT3 (.tmp 7) (.tmp 11) rfl _ _ true (unhide H1) e0 e1 ⟨_, rfl, tq_is _ _ _ _ rfl, Kept.refl _ _, fun _ _ _ _ _ => trivial⟩
    | 7, ho, hsk =>
      obtain rfl := Option.some.inj ho
      have e0 : a'.eval (.tmp 12) = .bool false := is_tq (hin 6 12 (by kernel_rfl) (by kernel_rfl)) rfl
      exact wp_move (.tmp 12) rfl _ e0 ⟨_, rfl, tq_is _ _ _ _ rfl, Kept.refl _ _, fun _ _ _ _ _ => trivial⟩
    | 8, ho, hsk =>
      obtain rfl := Option.some.inj ho
      exact o_fld35_1 (.tmp 3) rfl z ((hout 3 (by kernel_rfl)).trans rfl) ⟨_, rfl, tq_is _ _ _ _ rfl, Kept.refl _ _, fun _ _ _ _ _ => trivial⟩
    | 9, ho, hsk =>
      obtain rfl := Option.some.inj ho
      have e0 : a'.eval (.tmp 14) = .pointer (some ⟨z, 1, none⟩) := is_tq (hin 8 14 (by kernel_rfl) (by kernel_rfl)) rfl
      exact o_load3 (.tmp 14) rfl _ _ e0 (fits_cell ((unhide HP).kept hk2 (by simp)) 1 _ rfl) ⟨_, rfl, tq_is _ _ _ _ rfl, Kept.refl _ _, fun _ _ _ _ _ => trivial⟩
    | 10, ho, hsk =>
      obtain rfl := Option.some.inj ho
      exact wp_move (.tmp 0) rfl _ ((hout 0 (by kernel_rfl)).trans rfl) ⟨_, rfl, tq_is _ _ _ _ rfl, Kept.refl _ _, fun _ _ _ _ _ => trivial⟩
    | 11, ho, hsk =>
      obtain rfl := Option.some.inj ho
      have e0 : a'.eval (.tmp 16) = P0 b := is_tq (hin 10 16 (by kernel_rfl) (by kernel_rfl)) rfl
      exact o_nil (.tmp 16) rfl _ e0 ⟨_, rfl, tq_is _ _ _ _ rfl, Kept.refl _ _, fun _ _ _ _ _ => trivial⟩
    | 12, ho, hsk =>
      obtain rfl := Option.some.inj ho
      have e0 : a'.eval (.tmp 17) = P0 b := is_tq (hin 11 17 (by kernel_rfl) (by kernel_rfl)) rfl
      exact o_fld32_0 (.tmp 17) rfl b e0 ⟨_, rfl, tq_is _ _ _ _ rfl, Kept.refl _ _, fun _ _ _ _ _ => trivial⟩
    | 13, ho, hsk =>
      obtain rfl := Option.some.inj ho
      have e0 : a'.eval (.tmp 18) = .pointer (some ⟨b, 0, none⟩) := is_tq (hin 12 18 (by kernel_rfl) (by kernel_rfl)) rfl
      exact o_load3 (.tmp 18) rfl _ _ e0 (fits_cell ((unhide HH).kept hk2 (by simp)) 0 _ rfl) ⟨_, rfl, tq_is _ _ _ _ rfl, Kept.refl _ _, fun _ _ _ _ _ => trivial⟩
    | 14, ho, hsk =>
      obtain rfl := Option.some.inj ho
      have e0 : a'.eval (.tmp 15) = .int .i64 d.to := is_tq (hin 9 15 (by kernel_rfl) (by kernel_rfl)) rfl
      have e1 : a'.eval (.tmp 19) = .int .i64 P.me := is_tq (hin 13 19 (by kernel_rfl) (by kernel_rfl)) rfl
      exact o_neqT3 (.tmp 15) (.tmp 19) rfl _ _ true (unhide H2) e0 e1 ⟨_, rfl, tq_is _ _ _ _ rfl, Kept.refl _ _, fun _ _ _ _ _ => trivial⟩
    | 15, ho, hsk =>
      obtain rfl := Option.some.inj ho
      have e0 : a'.eval (.tmp 13) = .bool false := is_tq (hin 7 13 (by kernel_rfl) (by kernel_rfl)) rfl
      have e1 : a'.eval (.tmp 20) = .bool false := is_tq (hin 14 20 (by kernel_rfl) (by kernel_rfl)) rfl
      exact o_pickOr0 (.tmp 13) (.tmp 20) rfl _ e0 e1 ⟨_, rfl, tq_is _ _ _ _ rfl, Kept.refl _ _, fun _ _ _ _ _ => trivial⟩
    | 16, ho, hsk =>
      obtain rfl := Option.some.inj ho
      have e0 : a'.eval (.tmp 21) = .bool false := is_tq (hin 15 21 (by kernel_rfl) (by kernel_rfl)) rfl
      exact wp_move (.tmp 21) rfl _ e0 ⟨_, rfl, tq_is _ _ _ _ rfl, Kept.refl _ _, fun _ _ _ _ _ => trivial⟩
    | 17, ho, hsk =>
      obtain rfl := Option.some.inj ho
      exact o_fld35_2 (.tmp 3) rfl z ((hout 3 (by kernel_rfl)).trans rfl) ⟨_, rfl, tq_is _ _ _ _ rfl, Kept.refl _ _, fun _ _ _ _ _ => trivial⟩
    | 18, ho, hsk =>
      obtain rfl := Option.some.inj ho
      have e0 : a'.eval (.tmp 23) = .pointer (some ⟨z, 2, none⟩) := is_tq (hin 17 23 (by kernel_rfl) (by kernel_rfl)) rfl
      exact o_load2 (.tmp 23) rfl _ _ e0 (fits_cell ((unhide HP).kept hk2 (by simp)) 2 _ rfl) ⟨_, rfl, tq_is _ _ _ _ rfl, Kept.refl _ _, fun _ _ _ _ _ => trivial⟩
    | 19, ho, hsk =>
      obtain rfl := Option.some.inj ho
      exact wp_move (.tmp 0) rfl _ ((hout 0 (by kernel_rfl)).trans rfl) ⟨_, rfl, tq_is _ _ _ _ rfl, Kept.refl _ _, fun _ _ _ _ _ => trivial⟩
    | 20, ho, hsk =>
      obtain rfl := Option.some.inj ho
      have e0 : a'.eval (.tmp 25) = P0 b := is_tq (hin 19 25 (by kernel_rfl) (by kernel_rfl)) rfl
      exact o_nil (.tmp 25) rfl _ e0 ⟨_, rfl, tq_is _ _ _ _ rfl, Kept.refl _ _, fun _ _ _ _ _ => trivial⟩
    | 21, ho, hsk =>
      obtain rfl := Option.some.inj ho
      have e0 : a'.eval (.tmp 26) = P0 b := is_tq (hin 20 26 (by kernel_rfl) (by kernel_rfl)) rfl
      exact o_fld32_2 (.tmp 26) rfl b e0 ⟨_, rfl, tq_is _ _ _ _ rfl, Kept.refl _ _, fun _ _ _ _ _ => trivial⟩
    | 22, ho, hsk =>
      obtain rfl := Option.some.inj ho
      have e0 : a'.eval (.tmp 27) = .pointer (some ⟨b, 2, none⟩) := is_tq (hin 21 27 (by kernel_rfl) (by kernel_rfl)) rfl
      exact o_load2 (.tmp 27) rfl _ _ e0 (fits_cell ((unhide HH).kept hk2 (by simp)) 2 _ rfl) ⟨_, rfl, tq_is _ _ _ _ rfl, Kept.refl _ _, fun _ _ _ _ _ => trivial⟩
    | 23, ho, hsk =>
      obtain rfl := Option.some.inj ho
      have e0 : a'.eval (.tmp 24) = .int .i64 d.vw := is_tq (hin 18 24 (by kernel_rfl) (by kernel_rfl)) rfl
      have e1 : a'.eval (.tmp 28) = .int .i64 P.view := is_tq (hin 22 28 (by kernel_rfl) (by kernel_rfl)) rfl
      exact o_neqT2 (.tmp 24) (.tmp 28) rfl _ _ true (unhide H3) e0 e1 ⟨_, rfl, tq_is _ _ _ _ rfl, Kept.refl _ _, fun _ _ _ _ _ => trivial⟩
    | 24, ho, hsk =>
      obtain rfl := Option.some.inj ho
      have e0 : a'.eval (.tmp 22) = .bool false := is_tq (hin 16 22 (by kernel_rfl) (by kernel_rfl)) rfl
      have e1 : a'.eval (.tmp 29) = .bool false := is_tq (hin 23 29 (by kernel_rfl) (by kernel_rfl)) rfl
      exact o_pickOr0 (.tmp 22) (.tmp 29) rfl _ e0 e1 ⟨_, rfl, tq_is _ _ _ _ rfl, Kept.refl _ _, fun _ _ _ _ _ => trivial⟩
    | 25, ho, hsk =>
      obtain rfl := Option.some.inj ho
      have e0 : a'.eval (.tmp 30) = .bool false := is_tq (hin 24 30 (by kernel_rfl) (by kernel_rfl)) rfl
      exact wp_move (.tmp 30) rfl _ e0 ⟨_, rfl, tq_is _ _ _ _ rfl, Kept.refl _ _, fun _ _ _ _ _ => trivial⟩
    | 26, ho, hsk =>
      obtain rfl := Option.some.inj ho
      exact o_fld35_3 (.tmp 3) rfl z ((hout 3 (by kernel_rfl)).trans rfl) ⟨_, rfl, tq_is _ _ _ _ rfl, Kept.refl _ _, fun _ _ _ _ _ => trivial⟩
    | 27, ho, hsk =>
      obtain rfl := Option.some.inj ho
      have e0 : a'.eval (.tmp 32) = .pointer (some ⟨z, 3, none⟩) := is_tq (hin 26 32 (by kernel_rfl) (by kernel_rfl)) rfl
      exact o_load2 (.tmp 32) rfl _ _ e0 (fits_cell ((unhide HP).kept hk2 (by simp)) 3 _ rfl) ⟨_, rfl, tq_is _ _ _ _ rfl, Kept.refl _ _, fun _ _ _ _ _ => trivial⟩
    | 28, ho, hsk =>
      obtain rfl := Option.some.inj ho
      have e0 : a'.eval (.tmp 33) = .int .i64 d.seq := is_tq (hin 27 33 (by kernel_rfl) (by kernel_rfl)) rfl
      exact o_lss2c (.tmp 33) 0 rfl _ true (unhide H4) e0 ⟨_, rfl, tq_is _ _ _ _ rfl, Kept.refl _ _, fun _ _ _ _ _ => trivial⟩
    | 29, ho, hsk =>
      obtain rfl := Option.some.inj ho
      have e0 : a'.eval (.tmp 31) = .bool false := is_tq (hin 25 31 (by kernel_rfl) (by kernel_rfl)) rfl
      have e1 : a'.eval (.tmp 34) = .bool true := is_tq (hin 28 34 (by kernel_rfl) (by kernel_rfl)) rfl
      exact o_pickOr0 (.tmp 31) (.tmp 34) rfl _ e0 e1 ⟨_, rfl, tq_is _ _ _ _ rfl, Kept.refl _ _, fun _ _ _ _ _ => trivial⟩
    | 30, ho, hsk =>
      obtain rfl := Option.some.inj ho
      have e0 : a'.eval (.tmp 35) = .bool true := is_tq (hin 29 35 (by kernel_rfl) (by kernel_rfl)) rfl
      exact wp_move (.tmp 35) rfl _ e0 ⟨_, rfl, tq_is _ _ _ _ rfl, Kept.refl _ _, fun _ _ _ _ _ => trivial⟩
    | 31, ho, hsk =>
      cases hsk
    | 32, ho, hsk =>
      cases hsk
    | 33, ho, hsk =>
      cases hsk
    | 34, ho, hsk =>
      obtain rfl := Option.some.inj ho
      have e0 : a'.eval (.tmp 36) = .bool true := is_tq (hin 30 36 (by kernel_rfl) (by kernel_rfl)) rfl
      exact o_pickOrT (.tmp 36) (.tmp 39) rfl e0 ⟨_, rfl, tq_is _ _ _ _ rfl, Kept.refl _ _, fun _ _ _ _ _ => trivial⟩
    | 35, ho, hsk =>
      obtain rfl := Option.some.inj ho
      have e0 : a'.eval (.tmp 40) = .bool true := is_tq (hin 34 40 (by kernel_rfl) (by kernel_rfl)) rfl
      exact wp_move (.tmp 40) rfl _ e0 ⟨_, rfl, tq_is _ _ _ _ rfl, Kept.refl _ _, fun _ _ _ _ _ => trivial⟩
    | 36, ho, hsk =>
      cases hsk
    | 37, ho, hsk =>
      cases hsk
    | 38, ho, hsk =>
      cases hsk
    | 39, ho, hsk =>
      obtain rfl := Option.some.inj ho
      have e0 : a'.eval (.tmp 41) = .bool true := is_tq (hin 35 41 (by kernel_rfl) (by kernel_rfl)) rfl
      exact o_pickOrT (.tmp 41) (.tmp 44) rfl e0 ⟨_, rfl, tq_is _ _ _ _ rfl, Kept.refl _ _, fun _ _ _ _ _ => trivial⟩
    | 40, ho, hsk =>
      obtain rfl := Option.some.inj ho
      have e0 : a'.eval (.tmp 45) = .bool true := is_tq (hin 39 45 (by kernel_rfl) (by kernel_rfl)) rfl
      exact wp_move (.tmp 45) rfl _ e0 ⟨_, rfl, tq_is _ _ _ _ rfl, Kept.refl _ _, fun _ _ _ _ _ => trivial⟩
    | 41, ho, hsk =>
      cases hsk
    | 42, ho, hsk =>
      cases hsk
    | 43, ho, hsk =>
      cases hsk
    | 44, ho, hsk =>
      cases hsk
    | 45, ho, hsk =>
      cases hsk
    | 46, ho, hsk =>
      cases hsk
    | 47, ho, hsk =>
      cases hsk
    | 48, ho, hsk =>
      cases hsk
    | 49, ho, hsk =>
      obtain rfl := Option.some.inj ho
      have e0 : a'.eval (.tmp 46) = .bool true := is_tq (hin 40 46 (by kernel_rfl) (by kernel_rfl)) rfl
      exact o_pickOrT (.tmp 46) (.tmp 54) rfl e0 ⟨_, rfl, tq_is _ _ _ _ rfl, Kept.refl _ _, fun _ _ _ _ _ => trivial⟩
    | 50, ho, hsk =>
      obtain rfl := Option.some.inj ho
      have e0 : a'.eval (.tmp 55) = .bool true := is_tq (hin 49 55 (by kernel_rfl) (by kernel_rfl)) rfl
      exact wp_move (.tmp 55) rfl _ e0 ⟨_, rfl, tq_is _ _ _ _ rfl, Kept.refl _ _, fun _ _ _ _ _ => trivial⟩
    | 51, ho, hsk =>
      cases hsk
    | 52, ho, hsk =>
      cases hsk
    | 53, ho, hsk =>
      cases hsk
    | 54, ho, hsk =>
      cases hsk
    | 55, ho, hsk =>
      obtain rfl := Option.some.inj ho
      have e0 : a'.eval (.tmp 56) = .bool true := is_tq (hin 50 56 (by kernel_rfl) (by kernel_rfl)) rfl
      exact o_pickOrT (.tmp 56) (.tmp 60) rfl e0 ⟨_, rfl, tq_is _ _ _ _ rfl, Kept.refl _ _, fun _ _ _ _ _ => trivial⟩
    | 56, ho, hsk =>
      obtain rfl := Option.some.inj ho
      have e0 : a'.eval (.tmp 61) = .bool true := is_tq (hin 55 61 (by kernel_rfl) (by kernel_rfl)) rfl
      exact wp_move (.tmp 61) rfl _ e0 ⟨_, rfl, tq_is _ _ _ _ rfl, Kept.refl _ _, fun _ _ _ _ _ => trivial⟩
    | 57, ho, hsk =>
      cases hsk
    | 58, ho, hsk =>
      cases hsk
    | 59, ho, hsk =>
      cases hsk
    | 60, ho, hsk =>
      cases hsk
    | 61, ho, hsk =>
      cases hsk
    | 62, ho, hsk =>
      cases hsk
    | 63, ho, hsk =>
      cases hsk
    | 64, ho, hsk =>
      cases hsk
    | 65, ho, hsk =>
      cases hsk
    | 66, ho, hsk =>
      obtain rfl := Option.some.inj ho
      have e0 : a'.eval (.tmp 62) = .bool true := is_tq (hin 56 62 (by kernel_rfl) (by kernel_rfl)) rfl
      exact o_pickOrT (.tmp 62) (.tmp 71) rfl e0 ⟨_, rfl, tq_is _ _ _ _ rfl, Kept.refl _ _, fun _ _ _ _ _ => trivial⟩
  intro w9 hk9
  replace hk9 : Kept [] w1 w9 := ⟨hk9.os, hk9.tape, hk9.output, hk9.size, hk9.block⟩
  simp only [valsQ, List.map_cons, List.map_nil, Option.getD_some, Option.getD_none, List.take_succ_cons, List.take_zero, putAll, Act.put, List.setIfInBounds_toArray, List.set_cons_succ, List.set_cons_zero]
  refine wpAny_done (by kernel_rfl) ?_ _
  replace HK := hide ((unhide HK).trans hk9)
  clear hk9
  go_wp2_with fail
  go_ret2
  exact ⟨rfl, unhide HK⟩
set_option maxHeartbeats 2000000 in
theorem rno_5 (b : Nat) (v : Value) (ws : List Value) (P : Ps) (d : Dg) (uo : Option Addr) (m uc : Nat) (w : World) (h : Rx w b v ws P) (g1 : decide (d.fr = P.oth) = true) (g2 : decide (d.to = P.me) = true) (g3 : decide (d.vw = P.view) = true) (g4 : decide (d.seq < 0) = false) (g5 : decide (4611686018427387904 < d.seq) = true) : Calls Try.prog 21 #[P0 b, aggV (d.C (.slice uo m uc))] w fun e w' => e = .returned (.tuple #[.slice none 0 0, .bool false]) ∧ Kept [] w w' := by
  obtain ⟨vo, vc, rfl, _, _⟩ := h.sl
  have HS := hide h
  have H1 := hide g1
  have H2 := hide g2
  have H3 := hide g3
  have H4 := hide g4
  have H5 := hide g5
  clear h g1 g2 g3 g4 g5
  go_enter Try.func21, Try.ntmps21
  go_wp2_with (
    first
    | (refine wpBoxV (by rfl) (.tmp 1) (by rfl) (d.C (.slice uo m uc)) (by kernel_rfl) ?_
       intro w1 z e1 B1 K1
       have HE : Hid (w.heap.size ≤ z) := by rw [e1]; exact (Nat.le_refl _ : w.heap.size ≤ w.heap.size)
       have HP := hide B1
       have HK := hide K1
       replace HS := hide ((unhide HS).kept0 K1)
       clear e1 B1 K1))
  have HH := hide (unhide HS).head
  simp only [List.append_eq, List.cons_append, List.nil_append]
  refine wp_region_any mixed (wpAny_tq 67 rfl (by kernel_rfl) [some (.pointer (some ⟨z, 0, none⟩)), some (.int .i64 d.fr), some (P0 b), some (P0 b), some (.pointer (some ⟨b, 1, none⟩)), some (.int .i64 P.oth), some (.bool false), some (.bool false), some (.pointer (some ⟨z, 1, none⟩)), some (.int .i64 d.to), some (P0 b), some (P0 b), some (.pointer (some ⟨b, 0, none⟩)), some (.int .i64 P.me), some (.bool false), some (.bool false), some (.bool false), some (.pointer (some ⟨z, 2, none⟩)), some (.int .i64 d.vw), some (P0 b), some (P0 b), some (.pointer (some ⟨b, 2, none⟩)), some (.int .i64 P.view), some (.bool false), some (.bool false), some (.bool false), some (.pointer (some ⟨z, 3, none⟩)), some (.int .i64 d.seq), some (.bool false), some (.bool false), some (.bool false), some (.pointer (some ⟨z, 3, none⟩)), some (.int .i64 d.seq), some (.bool true), some (.bool true), some (.bool true), none, none, none, some (.bool true), some (.bool true), none, none, none, none, none, none, none, none, some (.bool true), some (.bool true), none, none, none, none, some (.bool true), some (.bool true), none, none, none, none, none, none, none, none, none, some (.bool true)] rfl (by kernel_rfl) (by kernel_rfl) ?_ ?_)
  · intro i o' hi hsk ho a' w2 hout hin hk2
    replace hk2 : Kept [] w1 w2 := ⟨hk2.os, hk2.tape, hk2.output, hk2.size, hk2.block⟩
    match i, ho, hsk with
    | 0, ho, hsk =>
      obtain rfl := Option.some.inj ho
      exact o_fld35_0 (.tmp 3) rfl z ((hout 3 (by kernel_rfl)).trans rfl) ⟨_, rfl, tq_is _ _ _ _ rfl, Kept.refl _ _, fun _ _ _ _ _ => trivial⟩
    | 1, ho, hsk =>
      obtain rfl := Option.some.inj ho
      have e0 : a'.eval (.tmp 6) = .pointer (some ⟨z, 0, none⟩) := is_tq (hin 0 6 (by kernel_rfl) (by kernel_rfl)) rfl
      exact o_load3 (.tmp 6) rfl _ _ e0 (fits_cell ((unhide HP).kept hk2 (by simp)) 0 _ rfl) ⟨_, rfl, tq_is _ _ _ _ rfl, Kept.refl _ _, fun _ _ _ _ _ => trivial⟩
    | 2, ho, hsk =>
      obtain rfl := Option.some.inj ho
      exact wp_move (.tmp 0) rfl _ ((hout 0 (by kernel_rfl)).trans rfl) ⟨_, rfl, tq_is _ _ _ _ rfl, Kept.refl _ _, fun _ _ _ _ _ => trivial⟩
    | 3, ho, hsk =>
      obtain rfl := Option.some.inj ho
      have e0 : a'.eval (.tmp 8) = P0 b := is_tq (hin 2 8 (by kernel_rfl) (by kernel_rfl)) rfl
      exact o_nil (.tmp 8) rfl _ e0 ⟨_, rfl, tq_is _ _ _ _ rfl, Kept.refl _ _, fun _ _ _ _ _ => trivial⟩
    | 4, ho, hsk =>
      obtain rfl := Option.some.inj ho
      have e0 : a'.eval (.tmp 9) = P0 b := is_tq (hin 3 9 (by kernel_rfl) (by kernel_rfl)) rfl
      exact o_fld32_1 (.tmp 9) rfl b e0 ⟨_, rfl, tq_is _ _ _ _ rfl, Kept.refl _ _, fun _ _ _ _ _ => trivial⟩
    | 5, ho, hsk =>
      obtain rfl := Option.some.inj ho
      have e0 : a'.eval (.tmp 10) = .pointer (some ⟨b, 1, none⟩) := is_tq (hin 4 10 (by kernel_rfl) (by kernel_rfl)) rfl
      exact o_load3 (.tmp 10) rfl _ _ e0 (fits_cell ((unhide HH).kept hk2 (by simp)) 1 _ rfl) ⟨_, rfl, tq_is _ _ _ _ rfl, Kept.refl _ _, fun _ _ _ _ _ => trivial⟩
    | 6, ho, hsk =>
      obtain rfl := Option.some.inj ho
      have e0 : a'.eval (.tmp 7) = .int .i64 d.fr := is_tq (hin 1 7 (by kernel_rfl) (by kernel_rfl)) rfl
      have e1 : a'.eval (.tmp 11) = .int .i64 P.oth := is_tq (hin 5 11 (by kernel_rfl) (by kernel_rfl)) rfl
      exact o_neqT3 (.tmp 7) (.tmp 11) rfl _ _ true (unhide H1) e0 e1 ⟨_, rfl, tq_is _ _ _ _ rfl, Kept.refl _ _, fun _ _ _ _ _ => trivial⟩
    | 7, ho, hsk =>
      obtain rfl := Option.some.inj ho
      have e0 : a'.eval (.tmp 12) = .bool false := is_tq (hin 6 12 (by kernel_rfl) (by kernel_rfl)) rfl
      exact wp_move (.tmp 12) rfl _ e0 ⟨_, rfl, tq_is _ _ _ _ rfl, Kept.refl _ _, fun _ _ _ _ _ => trivial⟩
    | 8, ho, hsk =>
      obtain rfl := Option.some.inj ho
      exact o_fld35_1 (.tmp 3) rfl z ((hout 3 (by kernel_rfl)).trans rfl) ⟨_, rfl, tq_is _ _ _ _ rfl, Kept.refl _ _, fun _ _ _ _ _ => trivial⟩
    | 9, ho, hsk =>
      obtain rfl := Option.some.inj ho
      have e0 : a'.eval (.tmp 14) = .pointer (some ⟨z, 1, none⟩) := is_tq (hin 8 14 (by kernel_rfl) (by kernel_rfl)) rfl
      exact o_load3 (.tmp 14) rfl _ _ e0 (fits_cell ((unhide HP).kept hk2 (by simp)) 1 _ rfl) ⟨_, rfl, tq_is _ _ _ _ rfl, Kept.refl _ _, fun _ _ _ _ _ => trivial⟩
    | 10, ho, hsk =>
      obtain rfl := Option.some.inj ho
      exact wp_move (.tmp 0) rfl _ ((hout 0 (by kernel_rfl)).trans rfl) ⟨_, rfl, tq_is _ _ _ _ rfl, Kept.refl _ _, fun _ _ _ _ _ => trivial⟩
    | 11, ho, hsk =>
      obtain rfl := Option.some.inj ho
      have e0 : a'.eval (.tmp 16) = P0 b := is_tq (hin 10 16 (by kernel_rfl) (by kernel_rfl)) rfl
      exact o_nil (.tmp 16) rfl _ e0 ⟨_, rfl, tq_is _ _ _ _ rfl, Kept.refl _ _, fun _ _ _ _ _ => trivial⟩
    | 12, ho, hsk =>
      obtain rfl := Option.some.inj ho
      have e0 : a'.eval (.tmp 17) = P0 b := is_tq (hin 11 17 (by kernel_rfl) (by kernel_rfl)) rfl
      exact o_fld32_0 (.tmp 17) rfl b e0 ⟨_, rfl, tq_is _ _ _ _ rfl, Kept.refl _ _, fun _ _ _ _ _ => trivial⟩
    | 13, ho, hsk =>
      obtain rfl := Option.some.inj ho
      have e0 : a'.eval (.tmp 18) = .pointer (some ⟨b, 0, none⟩) := is_tq (hin 12 18 (by kernel_rfl) (by kernel_rfl)) rfl
      exact o_load3 (.tmp 18) rfl _ _ e0 (fits_cell ((unhide HH).kept hk2 (by simp)) 0 _ rfl) ⟨_, rfl, tq_is _ _ _ _ rfl, Kept.refl _ _, fun _ _ _ _ _ => trivial⟩
    | 14, ho, hsk =>
      obtain rfl := Option.some.inj ho
      have e0 : a'.eval (.tmp 15) = .int .i64 d.to := is_tq (hin 9 15 (by kernel_rfl) (by kernel_rfl)) rfl
      have e1 : a'.eval (.tmp 19) = .int .i64 P.me := is_tq (hin 13 19 (by kernel_rfl) (by kernel_rfl)) rfl
      exact o_neqT3 (.tmp 15) (.tmp 19) rfl _ _ true (unhide H2) e0 e1 ⟨_, rfl, tq_is _ _ _ _ rfl, Kept.refl _ _, fun _ _ _ _ _ => trivial⟩
    | 15, ho, hsk =>
      obtain rfl := Option.some.inj ho
      have e0 : a'.eval (.tmp 13) = .bool false := is_tq (hin 7 13 (by kernel_rfl) (by kernel_rfl)) rfl
      have e1 : a'.eval (.tmp 20) = .bool false := is_tq (hin 14 20 (by kernel_rfl) (by kernel_rfl)) rfl
      exact o_pickOr0 (.tmp 13) (.tmp 20) rfl _ e0 e1 ⟨_, rfl, tq_is _ _ _ _ rfl, Kept.refl _ _, fun _ _ _ _ _ => trivial⟩
    | 16, ho, hsk =>
      obtain rfl := Option.some.inj ho
      have e0 : a'.eval (.tmp 21) = .bool false := is_tq (hin 15 21 (by kernel_rfl) (by kernel_rfl)) rfl
      exact wp_move (.tmp 21) rfl _ e0 ⟨_, rfl, tq_is _ _ _ _ rfl, Kept.refl _ _, fun _ _ _ _ _ => trivial⟩
    | 17, ho, hsk =>
      obtain rfl := Option.some.inj ho
      exact o_fld35_2 (.tmp 3) rfl z ((hout 3 (by kernel_rfl)).trans rfl) ⟨_, rfl, tq_is _ _ _ _ rfl, Kept.refl _ _, fun _ _ _ _ _ => trivial⟩
    | 18, ho, hsk =>
      obtain rfl := Option.some.inj ho
      have e0 : a'.eval (.tmp 23) = .pointer (some ⟨z, 2, none⟩) := is_tq (hin 17 23 (by kernel_rfl) (by kernel_rfl)) rfl
      exact o_load2 (.tmp 23) rfl _ _ e0 (fits_cell ((unhide HP).kept hk2 (by simp)) 2 _ rfl) ⟨_, rfl, tq_is _ _ _ _ rfl, Kept.refl _ _, fun _ _ _ _ _ => trivial⟩
    | 19, ho, hsk =>
      obtain rfl := Option.some.inj ho
      exact wp_move (.tmp 0) rfl _ ((hout 0 (by kernel_rfl)).trans rfl) ⟨_, rfl, tq_is _ _ _ _ rfl, Kept.refl _ _, fun _ _ _ _ _ => trivial⟩
    | 20, ho, hsk =>
      obtain rfl := Option.some.inj ho
      have e0 : a'.eval (.tmp 25) = P0 b := is_tq (hin 19 25 (by kernel_rfl) (by kernel_rfl)) rfl
      exact o_nil (.tmp 25) rfl _ e0 ⟨_, rfl, tq_is _ _ _ _ rfl, Kept.refl _ _, fun _ _ _ _ _ => trivial⟩
    | 21, ho, hsk =>
      obtain rfl := Option.some.inj ho
      have e0 : a'.eval (.tmp 26) = P0 b := is_tq (hin 20 26 (by kernel_rfl) (by kernel_rfl)) rfl
      exact o_fld32_2 (.tmp 26) rfl b e0 ⟨_, rfl, tq_is _ _ _ _ rfl, Kept.refl _ _, fun _ _ _ _ _ => trivial⟩
    | 22, ho, hsk =>
      obtain rfl := Option.some.inj ho
      have e0 : a'.eval (.tmp 27) = .pointer (some ⟨b, 2, none⟩) := is_tq (hin 21 27 (by kernel_rfl) (by kernel_rfl)) rfl
      exact o_load2 (.tmp 27) rfl _ _ e0 (fits_cell ((unhide HH).kept hk2 (by simp)) 2 _ rfl) ⟨_, rfl, tq_is _ _ _ _ rfl, Kept.refl _ _, fun _ _ _ _ _ => trivial⟩
    | 23, ho, hsk =>
      obtain rfl := Option.some.inj ho
      have e0 : a'.eval (.tmp 24) = .int .i64 d.vw := is_tq (hin 18 24 (by kernel_rfl) (by kernel_rfl)) rfl
      have e1 : a'.eval (.tmp 28) = .int .i64 P.view := is_tq (hin 22 28 (by kernel_rfl) (by kernel_rfl)) rfl
      exact o_neqT2 (.tmp 24) (.tmp 28) rfl _ _ true (unhide H3) e0 e1 ⟨_, rfl, tq_is _ _ _ _ rfl, Kept.refl _ _, fun _ _ _ _ _ => trivial⟩
    | 24, ho, hsk =>
      obtain rfl := Option.some.inj ho
      have e0 : a'.eval (.tmp 22) = .bool false := is_tq (hin 16 22 (by kernel_rfl) (by kernel_rfl)) rfl
      have e1 : a'.eval (.tmp 29) = .bool false := is_tq (hin 23 29 (by kernel_rfl) (by kernel_rfl)) rfl
      exact o_pickOr0 (.tmp 22) (.tmp 29) rfl _ e0 e1 ⟨_, rfl, tq_is _ _ _ _ rfl, Kept.refl _ _, fun _ _ _ _ _ => trivial⟩
    | 25, ho, hsk =>
      obtain rfl := Option.some.inj ho
      have e0 : a'.eval (.tmp 30) = .bool false := is_tq (hin 24 30 (by kernel_rfl) (by kernel_rfl)) rfl
      exact wp_move (.tmp 30) rfl _ e0 ⟨_, rfl, tq_is _ _ _ _ rfl, Kept.refl _ _, fun _ _ _ _ _ => trivial⟩
    | 26, ho, hsk =>
      obtain rfl := Option.some.inj ho
      exact o_fld35_3 (.tmp 3) rfl z ((hout 3 (by kernel_rfl)).trans rfl) ⟨_, rfl, tq_is _ _ _ _ rfl, Kept.refl _ _, fun _ _ _ _ _ => trivial⟩
    | 27, ho, hsk =>
      obtain rfl := Option.some.inj ho
      have e0 : a'.eval (.tmp 32) = .pointer (some ⟨z, 3, none⟩) := is_tq (hin 26 32 (by kernel_rfl) (by kernel_rfl)) rfl
      exact o_load2 (.tmp 32) rfl _ _ e0 (fits_cell ((unhide HP).kept hk2 (by simp)) 3 _ rfl) ⟨_, rfl, tq_is _ _ _ _ rfl, Kept.refl _ _, fun _ _ _ _ _ => trivial⟩
    | 28, ho, hsk =>
      obtain rfl := Option.some.inj ho
      have e0 : a'.eval (.tmp 33) = .int .i64 d.seq := is_tq (hin 27 33 (by kernel_rfl) (by kernel_rfl)) rfl
      exact o_lss2c (.tmp 33) 0 rfl _ false (unhide H4) e0 ⟨_, rfl, tq_is _ _ _ _ rfl, Kept.refl _ _, fun _ _ _ _ _ => trivial⟩
    | 29, ho, hsk =>
      obtain rfl := Option.some.inj ho
      have e0 : a'.eval (.tmp 31) = .bool false := is_tq (hin 25 31 (by kernel_rfl) (by kernel_rfl)) rfl
      have e1 : a'.eval (.tmp 34) = .bool false := is_tq (hin 28 34 (by kernel_rfl) (by kernel_rfl)) rfl
      exact o_pickOr0 (.tmp 31) (.tmp 34) rfl _ e0 e1 ⟨_, rfl, tq_is _ _ _ _ rfl, Kept.refl _ _, fun _ _ _ _ _ => trivial⟩
    | 30, ho, hsk =>
      obtain rfl := Option.some.inj ho
      have e0 : a'.eval (.tmp 35) = .bool false := is_tq (hin 29 35 (by kernel_rfl) (by kernel_rfl)) rfl
      exact wp_move (.tmp 35) rfl _ e0 ⟨_, rfl, tq_is _ _ _ _ rfl, Kept.refl _ _, fun _ _ _ _ _ => trivial⟩
    | 31, ho, hsk =>
      obtain rfl := Option.some.inj ho
      exact o_fld35_3 (.tmp 3) rfl z ((hout 3 (by kernel_rfl)).trans rfl) ⟨_, rfl, tq_is _ _ _ _ rfl, Kept.refl _ _, fun _ _ _ _ _ => trivial⟩
    | 32, ho, hsk =>
      obtain rfl := Option.some.inj ho
      have e0 : a'.eval (.tmp 37) = .pointer (some ⟨z, 3, none⟩) := is_tq (hin 31 37 (by kernel_rfl) (by kernel_rfl)) rfl
      exact o_load2 (.tmp 37) rfl _ _ e0 (fits_cell ((unhide HP).kept hk2 (by simp)) 3 _ rfl) ⟨_, rfl, tq_is _ _ _ _ rfl, Kept.refl _ _, fun _ _ _ _ _ => trivial⟩
    | 33, ho, hsk =>
      obtain rfl := Option.some.inj ho
      have e0 : a'.eval (.tmp 38) = .int .i64 d.seq := is_tq (hin 32 38 (by kernel_rfl) (by kernel_rfl)) rfl
      exact o_gtr2c (.tmp 38) 4611686018427387904 rfl _ true (unhide H5) e0 ⟨_, rfl, tq_is _ _ _ _ rfl, Kept.refl _ _, fun _ _ _ _ _ => trivial⟩
    | 34, ho, hsk =>
      obtain rfl := Option.some.inj ho
      have e0 : a'.eval (.tmp 36) = .bool false := is_tq (hin 30 36 (by kernel_rfl) (by kernel_rfl)) rfl
      have e1 : a'.eval (.tmp 39) = .bool true := is_tq (hin 33 39 (by kernel_rfl) (by kernel_rfl)) rfl
      exact o_pickOr0 (.tmp 36) (.tmp 39) rfl _ e0 e1 ⟨_, rfl, tq_is _ _ _ _ rfl, Kept.refl _ _, fun _ _ _ _ _ => trivial⟩
    | 35, ho, hsk =>
      obtain rfl := Option.some.inj ho
      have e0 : a'.eval (.tmp 40) = .bool true := is_tq (hin 34 40 (by kernel_rfl) (by kernel_rfl)) rfl
      exact wp_move (.tmp 40) rfl _ e0 ⟨_, rfl, tq_is _ _ _ _ rfl, Kept.refl _ _, fun _ _ _ _ _ => trivial⟩
    | 36, ho, hsk =>
      cases hsk
    | 37, ho, hsk =>
      cases hsk
    | 38, ho, hsk =>
      cases hsk
    | 39, ho, hsk =>
      obtain rfl := Option.some.inj ho
      have e0 : a'.eval (.tmp 41) = .bool true := is_tq (hin 35 41 (by kernel_rfl) (by kernel_rfl)) rfl
      exact o_pickOrT (.tmp 41) (.tmp 44) rfl e0 ⟨_, rfl, tq_is _ _ _ _ rfl, Kept.refl _ _, fun _ _ _ _ _ => trivial⟩
    | 40, ho, hsk =>
      obtain rfl := Option.some.inj ho
      have e0 : a'.eval (.tmp 45) = .bool true := is_tq (hin 39 45 (by kernel_rfl) (by kernel_rfl)) rfl
      exact wp_move (.tmp 45) rfl _ e0 ⟨_, rfl, tq_is _ _ _ _ rfl, Kept.refl _ _, fun _ _ _ _ _ => trivial⟩
    | 41, ho, hsk =>
      cases hsk
    | 42, ho, hsk =>
      cases hsk
    | 43, ho, hsk =>
      cases hsk
    | 44, ho, hsk =>
      cases hsk
    | 45, ho, hsk =>
      cases hsk
    | 46, ho, hsk =>
      cases hsk
    | 47, ho, hsk =>
      cases hsk
    | 48, ho, hsk =>
      cases hsk
    | 49, ho, hsk =>
      obtain rfl := Option.some.inj ho
      have e0 : a'.eval (.tmp 46) = .bool true := is_tq (hin 40 46 (by kernel_rfl) (by kernel_rfl)) rfl
      exact o_pickOrT (.tmp 46) (.tmp 54) rfl e0 ⟨_, rfl, tq_is _ _ _ _ rfl, Kept.refl _ _, fun _ _ _ _ _ => trivial⟩
    | 50, ho, hsk =>
      obtain rfl := Option.some.inj ho
      have e0 : a'.eval (.tmp 55) = .bool true := is_tq (hin 49 55 (by kernel_rfl) (by kernel_rfl)) rfl
      exact wp_move (.tmp 55) rfl _ e0 ⟨_, rfl, tq_is _ _ _ _ rfl, Kept.refl _ _, fun _ _ _ _ _ => trivial⟩
    | 51, ho, hsk =>
      cases hsk
    | 52, ho, hsk =>
      cases hsk
    | 53, ho, hsk =>
      cases hsk
    | 54, ho, hsk =>
      cases hsk
    | 55, ho, hsk =>
      obtain rfl := Option.some.inj ho
      have e0 : a'.eval (.tmp 56) = .bool true := is_tq (hin 50 56 (by kernel_rfl) (by kernel_rfl)) rfl
      exact o_pickOrT (.tmp 56) (.tmp 60) rfl e0 ⟨_, rfl, tq_is _ _ _ _ rfl, Kept.refl _ _, fun _ _ _ _ _ => trivial⟩
    | 56, ho, hsk =>
      obtain rfl := Option.some.inj ho
      have e0 : a'.eval (.tmp 61) = .bool true := is_tq (hin 55 61 (by kernel_rfl) (by kernel_rfl)) rfl
      exact wp_move (.tmp 61) rfl _ e0 ⟨_, rfl, tq_is _ _ _ _ rfl, Kept.refl _ _, fun _ _ _ _ _ => trivial⟩
    | 57, ho, hsk =>
      cases hsk
    | 58, ho, hsk =>
      cases hsk
    | 59, ho, hsk =>
      cases hsk
    | 60, ho, hsk =>
      cases hsk
    | 61, ho, hsk =>
      cases hsk
    | 62, ho, hsk =>
      cases hsk
    | 63, ho, hsk =>
      cases hsk
    | 64, ho, hsk =>
      cases hsk
    | 65, ho, hsk =>
      cases hsk
    | 66, ho, hsk =>
      obtain rfl := Option.some.inj ho
      have e0 : a'.eval (.tmp 62) = .bool true := is_tq (hin 56 62 (by kernel_rfl) (by kernel_rfl)) rfl
      exact o_pickOrT (.tmp 62) (.tmp 71) rfl e0 ⟨_, rfl, tq_is _ _ _ _ rfl, Kept.refl _ _, fun _ _ _ _ _ => trivial⟩
  intro w9 hk9
  replace hk9 : Kept [] w1 w9 := ⟨hk9.os, hk9.tape, hk9.output, hk9.size, hk9.block⟩
  simp only [valsQ, List.map_cons, List.map_nil, Option.getD_some, Option.getD_none, List.take_succ_cons, List.take_zero, putAll, Act.put, List.setIfInBounds_toArray, List.set_cons_succ, List.set_cons_zero]
  refine wpAny_done (by kernel_rfl) ?_ _
  replace HK := hide ((unhide HK).trans hk9)
  clear hk9
  go_wp2_with fail
  go_ret2
  exact ⟨rfl, unhide HK⟩
set_option maxHeartbeats 2000000 in
theorem rno_6 (b : Nat) (v : Value) (ws : List Value) (P : Ps) (d : Dg) (uo : Option Addr) (m uc : Nat) (w : World) (h : Rx w b v ws P) (g1 : decide (d.fr = P.oth) = true) (g2 : decide (d.to = P.me) = true) (g3 : decide (d.vw = P.view) = true) (g4 : decide (d.seq < 0) = false) (g5 : decide (4611686018427387904 < d.seq) = false) (g6 : decide (d.ack < 0) = true) : Calls Try.prog 21 #[P0 b, aggV (d.C (.slice uo m uc))] w fun e w' => e = .returned (.tuple #[.slice none 0 0, .bool false]) ∧ Kept [] w w' := by
  obtain ⟨vo, vc, rfl, _, _⟩ := h.sl
  have HS := hide h
  have H1 := hide g1
  have H2 := hide g2
  have H3 := hide g3
  have H4 := hide g4
  have H5 := hide g5
  have H6 := hide g6
  clear h g1 g2 g3 g4 g5 g6
  go_enter Try.func21, Try.ntmps21
  go_wp2_with (
    first
    | (refine wpBoxV (by rfl) (.tmp 1) (by rfl) (d.C (.slice uo m uc)) (by kernel_rfl) ?_
       intro w1 z e1 B1 K1
       have HE : Hid (w.heap.size ≤ z) := by rw [e1]; exact (Nat.le_refl _ : w.heap.size ≤ w.heap.size)
       have HP := hide B1
       have HK := hide K1
       replace HS := hide ((unhide HS).kept0 K1)
       clear e1 B1 K1))
  have HH := hide (unhide HS).head
  simp only [List.append_eq, List.cons_append, List.nil_append]
  refine wp_region_any mixed (wpAny_tq 67 rfl (by kernel_rfl) [some (.pointer (some ⟨z, 0, none⟩)), some (.int .i64 d.fr), some (P0 b), some (P0 b), some (.pointer (some ⟨b, 1, none⟩)), some (.int .i64 P.oth), some (.bool false), some (.bool false), some (.pointer (some ⟨z, 1, none⟩)), some (.int .i64 d.to), some (P0 b), some (P0 b), some (.pointer (some ⟨b, 0, none⟩)), some (.int .i64 P.me), some (.bool false), some (.bool false), some (.bool false), some (.pointer (some ⟨z, 2, none⟩)), some (.int .i64 d.vw), some (P0 b), some (P0 b), some (.pointer (some ⟨b, 2, none⟩)), some (.int .i64 P.view), some (.bool false), some (.bool false), some (.bool false), some (.pointer (some ⟨z, 3, none⟩)), some (.int .i64 d.seq), some (.bool false), some (.bool false), some (.bool false), some (.pointer (some ⟨z, 3, none⟩)), some (.int .i64 d.seq), some (.bool false), some (.bool false), some (.bool false), some (.pointer (some ⟨z, 4, none⟩)), some (.int .i64 d.ack), some (.bool true), some (.bool true), some (.bool true), none, none, none, none, none, none, none, none, some (.bool true), some (.bool true), none, none, none, none, some (.bool true), some (.bool true), none, none, none, none, none, none, none, none, none, some (.bool true)] rfl (by kernel_rfl) (by kernel_rfl) ?_ ?_)
  · intro i o' hi hsk ho a' w2 hout hin hk2
    replace hk2 : Kept [] w1 w2 := ⟨hk2.os, hk2.tape, hk2.output, hk2.size, hk2.block⟩
    match i, ho, hsk with
    | 0, ho, hsk =>
      obtain rfl := Option.some.inj ho
      exact o_fld35_0 (.tmp 3) rfl z ((hout 3 (by kernel_rfl)).trans rfl) ⟨_, rfl, tq_is _ _ _ _ rfl, Kept.refl _ _, fun _ _ _ _ _ => trivial⟩
    | 1, ho, hsk =>
      obtain rfl := Option.some.inj ho
      have e0 : a'.eval (.tmp 6) = .pointer (some ⟨z, 0, none⟩) := is_tq (hin 0 6 (by kernel_rfl) (by kernel_rfl)) rfl
      exact o_load3 (.tmp 6) rfl _ _ e0 (fits_cell ((unhide HP).kept hk2 (by simp)) 0 _ rfl) ⟨_, rfl, tq_is _ _ _ _ rfl, Kept.refl _ _, fun _ _ _ _ _ => trivial⟩
    | 2, ho, hsk =>
      obtain rfl := Option.some.inj ho
      exact wp_move (.tmp 0) rfl _ ((hout 0 (by kernel_rfl)).trans rfl) ⟨_, rfl, tq_is _ _ _ _ rfl, Kept.refl _ _, fun _ _ _ _ _ => trivial⟩
    | 3, ho, hsk =>
      obtain rfl := Option.some.inj ho
      have e0 : a'.eval (.tmp 8) = P0 b := is_tq (hin 2 8 (by kernel_rfl) (by kernel_rfl)) rfl
      exact o_nil (.tmp 8) rfl _ e0 ⟨_, rfl, tq_is _ _ _ _ rfl, Kept.refl _ _, fun _ _ _ _ _ => trivial⟩
    | 4, ho, hsk =>
      obtain rfl := Option.some.inj ho
      have e0 : a'.eval (.tmp 9) = P0 b := is_tq (hin 3 9 (by kernel_rfl) (by kernel_rfl)) rfl
      exact o_fld32_1 (.tmp 9) rfl b e0 ⟨_, rfl, tq_is _ _ _ _ rfl, Kept.refl _ _, fun _ _ _ _ _ => trivial⟩
    | 5, ho, hsk =>
      obtain rfl := Option.some.inj ho
      have e0 : a'.eval (.tmp 10) = .pointer (some ⟨b, 1, none⟩) := is_tq (hin 4 10 (by kernel_rfl) (by kernel_rfl)) rfl
      exact o_load3 (.tmp 10) rfl _ _ e0 (fits_cell ((unhide HH).kept hk2 (by simp)) 1 _ rfl) ⟨_, rfl, tq_is _ _ _ _ rfl, Kept.refl _ _, fun _ _ _ _ _ => trivial⟩
    | 6, ho, hsk =>
      obtain rfl := Option.some.inj ho
      have e0 : a'.eval (.tmp 7) = .int .i64 d.fr := is_tq (hin 1 7 (by kernel_rfl) (by kernel_rfl)) rfl
      have e1 : a'.eval (.tmp 11) = .int .i64 P.oth := is_tq (hin 5 11 (by kernel_rfl) (by kernel_rfl)) rfl
      exact o_neqT3 (.tmp 7) (.tmp 11) rfl _ _ true (unhide H1) e0 e1 ⟨_, rfl, tq_is _ _ _ _ rfl, Kept.refl _ _, fun _ _ _ _ _ => trivial⟩
    | 7, ho, hsk =>
      obtain rfl := Option.some.inj ho
      have e0 : a'.eval (.tmp 12) = .bool false := is_tq (hin 6 12 (by kernel_rfl) (by kernel_rfl)) rfl
      exact wp_move (.tmp 12) rfl _ e0 ⟨_, rfl, tq_is _ _ _ _ rfl, Kept.refl _ _, fun _ _ _ _ _ => trivial⟩
    | 8, ho, hsk =>
      obtain rfl := Option.some.inj ho
      exact o_fld35_1 (.tmp 3) rfl z ((hout 3 (by kernel_rfl)).trans rfl) ⟨_, rfl, tq_is _ _ _ _ rfl, Kept.refl _ _, fun _ _ _ _ _ => trivial⟩
    | 9, ho, hsk =>
      obtain rfl := Option.some.inj ho
      have e0 : a'.eval (.tmp 14) = .pointer (some ⟨z, 1, none⟩) := is_tq (hin 8 14 (by kernel_rfl) (by kernel_rfl)) rfl
      exact o_load3 (.tmp 14) rfl _ _ e0 (fits_cell ((unhide HP).kept hk2 (by simp)) 1 _ rfl) ⟨_, rfl, tq_is _ _ _ _ rfl, Kept.refl _ _, fun _ _ _ _ _ => trivial⟩
    | 10, ho, hsk =>
      obtain rfl := Option.some.inj ho
      exact wp_move (.tmp 0) rfl _ ((hout 0 (by kernel_rfl)).trans rfl) ⟨_, rfl, tq_is _ _ _ _ rfl, Kept.refl _ _, fun _ _ _ _ _ => trivial⟩
    | 11, ho, hsk =>
      obtain rfl := Option.some.inj ho
      have e0 : a'.eval (.tmp 16) = P0 b := is_tq (hin 10 16 (by kernel_rfl) (by kernel_rfl)) rfl
      exact o_nil (.tmp 16) rfl _ e0 ⟨_, rfl, tq_is _ _ _ _ rfl, Kept.refl _ _, fun _ _ _ _ _ => trivial⟩
    | 12, ho, hsk =>
      obtain rfl := Option.some.inj ho
      have e0 : a'.eval (.tmp 17) = P0 b := is_tq (hin 11 17 (by kernel_rfl) (by kernel_rfl)) rfl
      exact o_fld32_0 (.tmp 17) rfl b e0 ⟨_, rfl, tq_is _ _ _ _ rfl, Kept.refl _ _, fun _ _ _ _ _ => trivial⟩
    | 13, ho, hsk =>
      obtain rfl := Option.some.inj ho
      have e0 : a'.eval (.tmp 18) = .pointer (some ⟨b, 0, none⟩) := is_tq (hin 12 18 (by kernel_rfl) (by kernel_rfl)) rfl
      exact o_load3 (.tmp 18) rfl _ _ e0 (fits_cell ((unhide HH).kept hk2 (by simp)) 0 _ rfl) ⟨_, rfl, tq_is _ _ _ _ rfl, Kept.refl _ _, fun _ _ _ _ _ => trivial⟩
    | 14, ho, hsk =>
      obtain rfl := Option.some.inj ho
      have e0 : a'.eval (.tmp 15) = .int .i64 d.to := is_tq (hin 9 15 (by kernel_rfl) (by kernel_rfl)) rfl
      have e1 : a'.eval (.tmp 19) = .int .i64 P.me := is_tq (hin 13 19 (by kernel_rfl) (by kernel_rfl)) rfl
      exact o_neqT3 (.tmp 15) (.tmp 19) rfl _ _ true (unhide H2) e0 e1 ⟨_, rfl, tq_is _ _ _ _ rfl, Kept.refl _ _, fun _ _ _ _ _ => trivial⟩
    | 15, ho, hsk =>
      obtain rfl := Option.some.inj ho
      have e0 : a'.eval (.tmp 13) = .bool false := is_tq (hin 7 13 (by kernel_rfl) (by kernel_rfl)) rfl
      have e1 : a'.eval (.tmp 20) = .bool false := is_tq (hin 14 20 (by kernel_rfl) (by kernel_rfl)) rfl
      exact o_pickOr0 (.tmp 13) (.tmp 20) rfl _ e0 e1 ⟨_, rfl, tq_is _ _ _ _ rfl, Kept.refl _ _, fun _ _ _ _ _ => trivial⟩
    | 16, ho, hsk =>
      obtain rfl := Option.some.inj ho
      have e0 : a'.eval (.tmp 21) = .bool false := is_tq (hin 15 21 (by kernel_rfl) (by kernel_rfl)) rfl
      exact wp_move (.tmp 21) rfl _ e0 ⟨_, rfl, tq_is _ _ _ _ rfl, Kept.refl _ _, fun _ _ _ _ _ => trivial⟩
    | 17, ho, hsk =>
      obtain rfl := Option.some.inj ho
      exact o_fld35_2 (.tmp 3) rfl z ((hout 3 (by kernel_rfl)).trans rfl) ⟨_, rfl, tq_is _ _ _ _ rfl, Kept.refl _ _, fun _ _ _ _ _ => trivial⟩
    | 18, ho, hsk =>
      obtain rfl := Option.some.inj ho
      have e0 : a'.eval (.tmp 23) = .pointer (some ⟨z, 2, none⟩) := is_tq (hin 17 23 (by kernel_rfl) (by kernel_rfl)) rfl
      exact o_load2 (.tmp 23) rfl _ _ e0 (fits_cell ((unhide HP).kept hk2 (by simp)) 2 _ rfl) ⟨_, rfl, tq_is _ _ _ _ rfl, Kept.refl _ _, fun _ _ _ _ _ => trivial⟩
    | 19, ho, hsk =>
      obtain rfl := Option.some.inj ho
      exact wp_move (.tmp 0) rfl _ ((hout 0 (by kernel_rfl)).trans rfl) ⟨_, rfl, tq_is _ _ _ _ rfl, Kept.refl _ _, fun _ _ _ _ _ => trivial⟩
    | 20, ho, hsk =>
      obtain rfl := Option.some.inj ho
      have e0 : a'.eval (.tmp 25) = P0 b := is_tq (hin 19 25 (by kernel_rfl) (by kernel_rfl)) rfl
      exact o_nil (.tmp 25) rfl _ e0 ⟨_, rfl, tq_is _ _ _ _ rfl, Kept.refl _ _, fun _ _ _ _ _ => trivial⟩
    | 21, ho, hsk =>
      obtain rfl := Option.some.inj ho
      have e0 : a'.eval (.tmp 26) = P0 b := is_tq (hin 20 26 (by kernel_rfl) (by kernel_rfl)) rfl
      exact o_fld32_2 (.tmp 26) rfl b e0 ⟨_, rfl, tq_is _ _ _ _ rfl, Kept.refl _ _, fun _ _ _ _ _ => trivial⟩
    | 22, ho, hsk =>
      obtain rfl := Option.some.inj ho
      have e0 : a'.eval (.tmp 27) = .pointer (some ⟨b, 2, none⟩) := is_tq (hin 21 27 (by kernel_rfl) (by kernel_rfl)) rfl
      exact o_load2 (.tmp 27) rfl _ _ e0 (fits_cell ((unhide HH).kept hk2 (by simp)) 2 _ rfl) ⟨_, rfl, tq_is _ _ _ _ rfl, Kept.refl _ _, fun _ _ _ _ _ => trivial⟩
    | 23, ho, hsk =>
      obtain rfl := Option.some.inj ho
      have e0 : a'.eval (.tmp 24) = .int .i64 d.vw := is_tq (hin 18 24 (by kernel_rfl) (by kernel_rfl)) rfl
      have e1 : a'.eval (.tmp 28) = .int .i64 P.view := is_tq (hin 22 28 (by kernel_rfl) (by kernel_rfl)) rfl
      exact o_neqT2 (.tmp 24) (.tmp 28) rfl _ _ true (unhide H3) e0 e1 ⟨_, rfl, tq_is _ _ _ _ rfl, Kept.refl _ _, fun _ _ _ _ _ => trivial⟩
    | 24, ho, hsk =>
      obtain rfl := Option.some.inj ho
      have e0 : a'.eval (.tmp 22) = .bool false := is_tq (hin 16 22 (by kernel_rfl) (by kernel_rfl)) rfl
      have e1 : a'.eval (.tmp 29) = .bool false := is_tq (hin 23 29 (by kernel_rfl) (by kernel_rfl)) rfl
      exact o_pickOr0 (.tmp 22) (.tmp 29) rfl _ e0 e1 ⟨_, rfl, tq_is _ _ _ _ rfl, Kept.refl _ _, fun _ _ _ _ _ => trivial⟩
    | 25, ho, hsk =>
      obtain rfl := Option.some.inj ho
      have e0 : a'.eval (.tmp 30) = .bool false := is_tq (hin 24 30 (by kernel_rfl) (by kernel_rfl)) rfl
      exact wp_move (.tmp 30) rfl _ e0 ⟨_, rfl, tq_is _ _ _ _ rfl, Kept.refl _ _, fun _ _ _ _ _ => trivial⟩
    | 26, ho, hsk =>
      obtain rfl := Option.some.inj ho
      exact o_fld35_3 (.tmp 3) rfl z ((hout 3 (by kernel_rfl)).trans rfl) ⟨_, rfl, tq_is _ _ _ _ rfl, Kept.refl _ _, fun _ _ _ _ _ => trivial⟩
    | 27, ho, hsk =>
      obtain rfl := Option.some.inj ho
      have e0 : a'.eval (.tmp 32) = .pointer (some ⟨z, 3, none⟩) := is_tq (hin 26 32 (by kernel_rfl) (by kernel_rfl)) rfl
      exact o_load2 (.tmp 32) rfl _ _ e0 (fits_cell ((unhide HP).kept hk2 (by simp)) 3 _ rfl) ⟨_, rfl, tq_is _ _ _ _ rfl, Kept.refl _ _, fun _ _ _ _ _ => trivial⟩
    | 28, ho, hsk =>
      obtain rfl := Option.some.inj ho
      have e0 : a'.eval (.tmp 33) = .int .i64 d.seq := is_tq (hin 27 33 (by kernel_rfl) (by kernel_rfl)) rfl
      exact o_lss2c (.tmp 33) 0 rfl _ false (unhide H4) e0 ⟨_, rfl, tq_is _ _ _ _ rfl, Kept.refl _ _, fun _ _ _ _ _ => trivial⟩
    | 29, ho, hsk =>
      obtain rfl := Option.some.inj ho
      have e0 : a'.eval (.tmp 31) = .bool false := is_tq (hin 25 31 (by kernel_rfl) (by kernel_rfl)) rfl
      have e1 : a'.eval (.tmp 34) = .bool false := is_tq (hin 28 34 (by kernel_rfl) (by kernel_rfl)) rfl
      exact o_pickOr0 (.tmp 31) (.tmp 34) rfl _ e0 e1 ⟨_, rfl, tq_is _ _ _ _ rfl, Kept.refl _ _, fun _ _ _ _ _ => trivial⟩
    | 30, ho, hsk =>
      obtain rfl := Option.some.inj ho
      have e0 : a'.eval (.tmp 35) = .bool false := is_tq (hin 29 35 (by kernel_rfl) (by kernel_rfl)) rfl
      exact wp_move (.tmp 35) rfl _ e0 ⟨_, rfl, tq_is _ _ _ _ rfl, Kept.refl _ _, fun _ _ _ _ _ => trivial⟩
    | 31, ho, hsk =>
      obtain rfl := Option.some.inj ho
      exact o_fld35_3 (.tmp 3) rfl z ((hout 3 (by kernel_rfl)).trans rfl) ⟨_, rfl, tq_is _ _ _ _ rfl, Kept.refl _ _, fun _ _ _ _ _ => trivial⟩
    | 32, ho, hsk =>
      obtain rfl := Option.some.inj ho
      have e0 : a'.eval (.tmp 37) = .pointer (some ⟨z, 3, none⟩) := is_tq (hin 31 37 (by kernel_rfl) (by kernel_rfl)) rfl
      exact o_load2 (.tmp 37) rfl _ _ e0 (fits_cell ((unhide HP).kept hk2 (by simp)) 3 _ rfl) ⟨_, rfl, tq_is _ _ _ _ rfl, Kept.refl _ _, fun _ _ _ _ _ => trivial⟩
    | 33, ho, hsk =>
      obtain rfl := Option.some.inj ho
      have e0 : a'.eval (.tmp 38) = .int .i64 d.seq := is_tq (hin 32 38 (by kernel_rfl) (by kernel_rfl)) rfl
      exact o_gtr2c (.tmp 38) 4611686018427387904 rfl _ false (unhide H5) e0 ⟨_, rfl, tq_is _ _ _ _ rfl, Kept.refl _ _, fun _ _ _ _ _ => trivial⟩
    | 34, ho, hsk =>
      obtain rfl := Option.some.inj ho
      have e0 : a'.eval (.tmp 36) = .bool false := is_tq (hin 30 36 (by kernel_rfl) (by kernel_rfl)) rfl
      have e1 : a'.eval (.tmp 39) = .bool false := is_tq (hin 33 39 (by kernel_rfl) (by kernel_rfl)) rfl
      exact o_pickOr0 (.tmp 36) (.tmp 39) rfl _ e0 e1 ⟨_, rfl, tq_is _ _ _ _ rfl, Kept.refl _ _, fun _ _ _ _ _ => trivial⟩
    | 35, ho, hsk =>
      obtain rfl := Option.some.inj ho
      have e0 : a'.eval (.tmp 40) = .bool false := is_tq (hin 34 40 (by kernel_rfl) (by kernel_rfl)) rfl
      exact wp_move (.tmp 40) rfl _ e0 ⟨_, rfl, tq_is _ _ _ _ rfl, Kept.refl _ _, fun _ _ _ _ _ => trivial⟩
    | 36, ho, hsk =>
      obtain rfl := Option.some.inj ho
      exact o_fld35_4 (.tmp 3) rfl z ((hout 3 (by kernel_rfl)).trans rfl) ⟨_, rfl, tq_is _ _ _ _ rfl, Kept.refl _ _, fun _ _ _ _ _ => trivial⟩
    | 37, ho, hsk =>
      obtain rfl := Option.some.inj ho
      have e0 : a'.eval (.tmp 42) = .pointer (some ⟨z, 4, none⟩) := is_tq (hin 36 42 (by kernel_rfl) (by kernel_rfl)) rfl
      exact o_load2 (.tmp 42) rfl _ _ e0 (fits_cell ((unhide HP).kept hk2 (by simp)) 4 _ rfl) ⟨_, rfl, tq_is _ _ _ _ rfl, Kept.refl _ _, fun _ _ _ _ _ => trivial⟩
    | 38, ho, hsk =>
      obtain rfl := Option.some.inj ho
      have e0 : a'.eval (.tmp 43) = .int .i64 d.ack := is_tq (hin 37 43 (by kernel_rfl) (by kernel_rfl)) rfl
      exact o_lss2c (.tmp 43) 0 rfl _ true (unhide H6) e0 ⟨_, rfl, tq_is _ _ _ _ rfl, Kept.refl _ _, fun _ _ _ _ _ => trivial⟩
    | 39, ho, hsk =>
      obtain rfl := Option.some.inj ho
      have e0 : a'.eval (.tmp 41) = .bool false := is_tq (hin 35 41 (by kernel_rfl) (by kernel_rfl)) rfl
      have e1 : a'.eval (.tmp 44) = .bool true := is_tq (hin 38 44 (by kernel_rfl) (by kernel_rfl)) rfl
      exact o_pickOr0 (.tmp 41) (.tmp 44) rfl _ e0 e1 ⟨_, rfl, tq_is _ _ _ _ rfl, Kept.refl _ _, fun _ _ _ _ _ => trivial⟩
    | 40, ho, hsk =>
      obtain rfl := Option.some.inj ho
      have e0 : a'.eval (.tmp 45) = .bool true := is_tq (hin 39 45 (by kernel_rfl) (by kernel_rfl)) rfl
      exact wp_move (.tmp 45) rfl _ e0 ⟨_, rfl, tq_is _ _ _ _ rfl, Kept.refl _ _, fun _ _ _ _ _ => trivial⟩
    | 41, ho, hsk =>
      cases hsk
    | 42, ho, hsk =>
      cases hsk
    | 43, ho, hsk =>
      cases hsk
    | 44, ho, hsk =>
      cases hsk
    | 45, ho, hsk =>
      cases hsk
    | 46, ho, hsk =>
      cases hsk
    | 47, ho, hsk =>
      cases hsk
    | 48, ho, hsk =>
      cases hsk
    | 49, ho, hsk =>
      obtain rfl := Option.some.inj ho
      have e0 : a'.eval (.tmp 46) = .bool true := is_tq (hin 40 46 (by kernel_rfl) (by kernel_rfl)) rfl
      exact o_pickOrT (.tmp 46) (.tmp 54) rfl e0 ⟨_, rfl, tq_is _ _ _ _ rfl, Kept.refl _ _, fun _ _ _ _ _ => trivial⟩
    | 50, ho, hsk =>
      obtain rfl := Option.some.inj ho
      have e0 : a'.eval (.tmp 55) = .bool true := is_tq (hin 49 55 (by kernel_rfl) (by kernel_rfl)) rfl
      exact wp_move (.tmp 55) rfl _ e0 ⟨_, rfl, tq_is _ _ _ _ rfl, Kept.refl _ _, fun _ _ _ _ _ => trivial⟩
    | 51, ho, hsk =>
      cases hsk
    | 52, ho, hsk =>
      cases hsk
    | 53, ho, hsk =>
      cases hsk
    | 54, ho, hsk =>
      cases hsk
    | 55, ho, hsk =>
      obtain rfl := Option.some.inj ho
      have e0 : a'.eval (.tmp 56) = .bool true := is_tq (hin 50 56 (by kernel_rfl) (by kernel_rfl)) rfl
      exact o_pickOrT (.tmp 56) (.tmp 60) rfl e0 ⟨_, rfl, tq_is _ _ _ _ rfl, Kept.refl _ _, fun _ _ _ _ _ => trivial⟩
    | 56, ho, hsk =>
      obtain rfl := Option.some.inj ho
      have e0 : a'.eval (.tmp 61) = .bool true := is_tq (hin 55 61 (by kernel_rfl) (by kernel_rfl)) rfl
      exact wp_move (.tmp 61) rfl _ e0 ⟨_, rfl, tq_is _ _ _ _ rfl, Kept.refl _ _, fun _ _ _ _ _ => trivial⟩
    | 57, ho, hsk =>
      cases hsk
    | 58, ho, hsk =>
      cases hsk
    | 59, ho, hsk =>
      cases hsk
    | 60, ho, hsk =>
      cases hsk
    | 61, ho, hsk =>
      cases hsk
    | 62, ho, hsk =>
      cases hsk
    | 63, ho, hsk =>
      cases hsk
    | 64, ho, hsk =>
      cases hsk
    | 65, ho, hsk =>
      cases hsk
    | 66, ho, hsk =>
      obtain rfl := Option.some.inj ho
      have e0 : a'.eval (.tmp 62) = .bool true := is_tq (hin 56 62 (by kernel_rfl) (by kernel_rfl)) rfl
      exact o_pickOrT (.tmp 62) (.tmp 71) rfl e0 ⟨_, rfl, tq_is _ _ _ _ rfl, Kept.refl _ _, fun _ _ _ _ _ => trivial⟩
  intro w9 hk9
  replace hk9 : Kept [] w1 w9 := ⟨hk9.os, hk9.tape, hk9.output, hk9.size, hk9.block⟩
  simp only [valsQ, List.map_cons, List.map_nil, Option.getD_some, Option.getD_none, List.take_succ_cons, List.take_zero, putAll, Act.put, List.setIfInBounds_toArray, List.set_cons_succ, List.set_cons_zero]
  refine wpAny_done (by kernel_rfl) ?_ _
  replace HK := hide ((unhide HK).trans hk9)
  clear hk9
  go_wp2_with fail
  go_ret2
  exact ⟨rfl, unhide HK⟩
set_option maxHeartbeats 2000000 in
theorem rno_7 (b : Nat) (v : Value) (ws : List Value) (P : Ps) (d : Dg) (uo : Option Addr) (m uc : Nat) (w : World) (h : Rx w b v ws P) (g1 : decide (d.fr = P.oth) = true) (g2 : decide (d.to = P.me) = true) (g3 : decide (d.vw = P.view) = true) (g4 : decide (d.seq < 0) = false) (g5 : decide (4611686018427387904 < d.seq) = false) (g6 : decide (d.ack < 0) = false) (g7 : decide ((ws.length : Int) < d.ack) = true) : Calls Try.prog 21 #[P0 b, aggV (d.C (.slice uo m uc))] w fun e w' => e = .returned (.tuple #[.slice none 0 0, .bool false]) ∧ Kept [] w w' := by
  obtain ⟨vo, vc, rfl, _, _⟩ := h.sl
  have HS := hide h
  have H1 := hide g1
  have H2 := hide g2
  have H3 := hide g3
  have H4 := hide g4
  have H5 := hide g5
  have H6 := hide g6
  have H7 := hide g7
  clear h g1 g2 g3 g4 g5 g6 g7
  go_enter Try.func21, Try.ntmps21
  go_wp2_with (
    first
    | (refine wpBoxV (by rfl) (.tmp 1) (by rfl) (d.C (.slice uo m uc)) (by kernel_rfl) ?_
       intro w1 z e1 B1 K1
       have HE : Hid (w.heap.size ≤ z) := by rw [e1]; exact (Nat.le_refl _ : w.heap.size ≤ w.heap.size)
       have HP := hide B1
       have HK := hide K1
       replace HS := hide ((unhide HS).kept0 K1)
       clear e1 B1 K1))
  have HH := hide (unhide HS).head
  simp only [List.append_eq, List.cons_append, List.nil_append]
  refine wp_region_any mixed (wpAny_tq 67 rfl (by kernel_rfl) [some (.pointer (some ⟨z, 0, none⟩)), some (.int .i64 d.fr), some (P0 b), some (P0 b), some (.pointer (some ⟨b, 1, none⟩)), some (.int .i64 P.oth), some (.bool false), some (.bool false), some (.pointer (some ⟨z, 1, none⟩)), some (.int .i64 d.to), some (P0 b), some (P0 b), some (.pointer (some ⟨b, 0, none⟩)), some (.int .i64 P.me), some (.bool false), some (.bool false), some (.bool false), some (.pointer (some ⟨z, 2, none⟩)), some (.int .i64 d.vw), some (P0 b), some (P0 b), some (.pointer (some ⟨b, 2, none⟩)), some (.int .i64 P.view), some (.bool false), some (.bool false), some (.bool false), some (.pointer (some ⟨z, 3, none⟩)), some (.int .i64 d.seq), some (.bool false), some (.bool false), some (.bool false), some (.pointer (some ⟨z, 3, none⟩)), some (.int .i64 d.seq), some (.bool false), some (.bool false), some (.bool false), some (.pointer (some ⟨z, 4, none⟩)), some (.int .i64 d.ack), some (.bool false), some (.bool false), some (.bool false), some (.pointer (some ⟨z, 4, none⟩)), some (.int .i64 d.ack), some (P0 b), some (P0 b), some (.pointer (some ⟨b, 3, none⟩)), some (.slice vo ws.length vc), some (.int .i64 ws.length), some (.bool true), some (.bool true), some (.bool true), none, none, none, none, some (.bool true), some (.bool true), none, none, none, none, none, none, none, none, none, some (.bool true)] rfl (by kernel_rfl) (by kernel_rfl) ?_ ?_)
  · intro i o' hi hsk ho a' w2 hout hin hk2
    replace hk2 : Kept [] w1 w2 := ⟨hk2.os, hk2.tape, hk2.output, hk2.size, hk2.block⟩
    match i, ho, hsk with
    | 0, ho, hsk =>
      obtain rfl := Option.some.inj ho
      exact o_fld35_0 (.tmp 3) rfl z ((hout 3 (by kernel_rfl)).trans rfl) ⟨_, rfl, tq_is _ _ _ _ rfl, Kept.refl _ _, fun _ _ _ _ _ => trivial⟩
    | 1, ho, hsk =>
      obtain rfl := Option.some.inj ho
      have e0 : a'.eval (.tmp 6) = .pointer (some ⟨z, 0, none⟩) := is_tq (hin 0 6 (by kernel_rfl) (by kernel_rfl)) rfl
      exact o_load3 (.tmp 6) rfl _ _ e0 (fits_cell ((unhide HP).kept hk2 (by simp)) 0 _ rfl) ⟨_, rfl, tq_is _ _ _ _ rfl, Kept.refl _ _, fun _ _ _ _ _ => trivial⟩
    | 2, ho, hsk =>
      obtain rfl := Option.some.inj ho
      exact wp_move (.tmp 0) rfl _ ((hout 0 (by kernel_rfl)).trans rfl) ⟨_, rfl, tq_is _ _ _ _ rfl, Kept.refl _ _, fun _ _ _ _ _ => trivial⟩
    | 3, ho, hsk =>
      obtain rfl := Option.some.inj ho
      have e0 : a'.eval (.tmp 8) = P0 b := is_tq (hin 2 8 (by kernel_rfl) (by kernel_rfl)) rfl
      exact o_nil (.tmp 8) rfl _ e0 ⟨_, rfl, tq_is _ _ _ _ rfl, Kept.refl _ _, fun _ _ _ _ _ => trivial⟩
    | 4, ho, hsk =>
      obtain rfl := Option.some.inj ho
      have e0 : a'.eval (.tmp 9) = P0 b := is_tq (hin 3 9 (by kernel_rfl) (by kernel_rfl)) rfl
      exact o_fld32_1 (.tmp 9) rfl b e0 ⟨_, rfl, tq_is _ _ _ _ rfl, Kept.refl _ _, fun _ _ _ _ _ => trivial⟩
    | 5, ho, hsk =>
      obtain rfl := Option.some.inj ho
      have e0 : a'.eval (.tmp 10) = .pointer (some ⟨b, 1, none⟩) := is_tq (hin 4 10 (by kernel_rfl) (by kernel_rfl)) rfl
      exact o_load3 (.tmp 10) rfl _ _ e0 (fits_cell ((unhide HH).kept hk2 (by simp)) 1 _ rfl) ⟨_, rfl, tq_is _ _ _ _ rfl, Kept.refl _ _, fun _ _ _ _ _ => trivial⟩
    | 6, ho, hsk =>
      obtain rfl := Option.some.inj ho
      have e0 : a'.eval (.tmp 7) = .int .i64 d.fr := is_tq (hin 1 7 (by kernel_rfl) (by kernel_rfl)) rfl
      have e1 : a'.eval (.tmp 11) = .int .i64 P.oth := is_tq (hin 5 11 (by kernel_rfl) (by kernel_rfl)) rfl
      exact o_neqT3 (.tmp 7) (.tmp 11) rfl _ _ true (unhide H1) e0 e1 ⟨_, rfl, tq_is _ _ _ _ rfl, Kept.refl _ _, fun _ _ _ _ _ => trivial⟩
    | 7, ho, hsk =>
      obtain rfl := Option.some.inj ho
      have e0 : a'.eval (.tmp 12) = .bool false := is_tq (hin 6 12 (by kernel_rfl) (by kernel_rfl)) rfl
      exact wp_move (.tmp 12) rfl _ e0 ⟨_, rfl, tq_is _ _ _ _ rfl, Kept.refl _ _, fun _ _ _ _ _ => trivial⟩
    | 8, ho, hsk =>
      obtain rfl := Option.some.inj ho
      exact o_fld35_1 (.tmp 3) rfl z ((hout 3 (by kernel_rfl)).trans rfl) ⟨_, rfl, tq_is _ _ _ _ rfl, Kept.refl _ _, fun _ _ _ _ _ => trivial⟩
    | 9, ho, hsk =>
      obtain rfl := Option.some.inj ho
      have e0 : a'.eval (.tmp 14) = .pointer (some ⟨z, 1, none⟩) := is_tq (hin 8 14 (by kernel_rfl) (by kernel_rfl)) rfl
      exact o_load3 (.tmp 14) rfl _ _ e0 (fits_cell ((unhide HP).kept hk2 (by simp)) 1 _ rfl) ⟨_, rfl, tq_is _ _ _ _ rfl, Kept.refl _ _, fun _ _ _ _ _ => trivial⟩
    | 10, ho, hsk =>
      obtain rfl := Option.some.inj ho
      exact wp_move (.tmp 0) rfl _ ((hout 0 (by kernel_rfl)).trans rfl) ⟨_, rfl, tq_is _ _ _ _ rfl, Kept.refl _ _, fun _ _ _ _ _ => trivial⟩
    | 11, ho, hsk =>
      obtain rfl := Option.some.inj ho
      have e0 : a'.eval (.tmp 16) = P0 b := is_tq (hin 10 16 (by kernel_rfl) (by kernel_rfl)) rfl
      exact o_nil (.tmp 16) rfl _ e0 ⟨_, rfl, tq_is _ _ _ _ rfl, Kept.refl _ _, fun _ _ _ _ _ => trivial⟩
    | 12, ho, hsk =>
      obtain rfl := Option.some.inj ho
      have e0 : a'.eval (.tmp 17) = P0 b := is_tq (hin 11 17 (by kernel_rfl) (by kernel_rfl)) rfl
      exact o_fld32_0 (.tmp 17) rfl b e0 ⟨_, rfl, tq_is _ _ _ _ rfl, Kept.refl _ _, fun _ _ _ _ _ => trivial⟩
    | 13, ho, hsk =>
      obtain rfl := Option.some.inj ho
      have e0 : a'.eval (.tmp 18) = .pointer (some ⟨b, 0, none⟩) := is_tq (hin 12 18 (by kernel_rfl) (by kernel_rfl)) rfl
      exact o_load3 (.tmp 18) rfl _ _ e0 (fits_cell ((unhide HH).kept hk2 (by simp)) 0 _ rfl) ⟨_, rfl, tq_is _ _ _ _ rfl, Kept.refl _ _, fun _ _ _ _ _ => trivial⟩
    | 14, ho, hsk =>
      obtain rfl := Option.some.inj ho
      have e0 : a'.eval (.tmp 15) = .int .i64 d.to := is_tq (hin 9 15 (by kernel_rfl) (by kernel_rfl)) rfl
      have e1 : a'.eval (.tmp 19) = .int .i64 P.me := is_tq (hin 13 19 (by kernel_rfl) (by kernel_rfl)) rfl
      exact o_neqT3 (.tmp 15) (.tmp 19) rfl _ _ true (unhide H2) e0 e1 ⟨_, rfl, tq_is _ _ _ _ rfl, Kept.refl _ _, fun _ _ _ _ _ => trivial⟩
    | 15, ho, hsk =>
      obtain rfl := Option.some.inj ho
      have e0 : a'.eval (.tmp 13) = .bool false := is_tq (hin 7 13 (by kernel_rfl) (by kernel_rfl)) rfl
      have e1 : a'.eval (.tmp 20) = .bool false := is_tq (hin 14 20 (by kernel_rfl) (by kernel_rfl)) rfl
      exact o_pickOr0 (.tmp 13) (.tmp 20) rfl _ e0 e1 ⟨_, rfl, tq_is _ _ _ _ rfl, Kept.refl _ _, fun _ _ _ _ _ => trivial⟩
    | 16, ho, hsk =>
      obtain rfl := Option.some.inj ho
      have e0 : a'.eval (.tmp 21) = .bool false := is_tq (hin 15 21 (by kernel_rfl) (by kernel_rfl)) rfl
      exact wp_move (.tmp 21) rfl _ e0 ⟨_, rfl, tq_is _ _ _ _ rfl, Kept.refl _ _, fun _ _ _ _ _ => trivial⟩
    | 17, ho, hsk =>
      obtain rfl := Option.some.inj ho
      exact o_fld35_2 (.tmp 3) rfl z ((hout 3 (by kernel_rfl)).trans rfl) ⟨_, rfl, tq_is _ _ _ _ rfl, Kept.refl _ _, fun _ _ _ _ _ => trivial⟩
    | 18, ho, hsk =>
      obtain rfl := Option.some.inj ho
      have e0 : a'.eval (.tmp 23) = .pointer (some ⟨z, 2, none⟩) := is_tq (hin 17 23 (by kernel_rfl) (by kernel_rfl)) rfl
      exact o_load2 (.tmp 23) rfl _ _ e0 (fits_cell ((unhide HP).kept hk2 (by simp)) 2 _ rfl) ⟨_, rfl, tq_is _ _ _ _ rfl, Kept.refl _ _, fun _ _ _ _ _ => trivial⟩
    | 19, ho, hsk =>
      obtain rfl := Option.some.inj ho
      exact wp_move (.tmp 0) rfl _ ((hout 0 (by kernel_rfl)).trans rfl) ⟨_, rfl, tq_is _ _ _ _ rfl, Kept.refl _ _, fun _ _ _ _ _ => trivial⟩
    | 20, ho, hsk =>
      obtain rfl := Option.some.inj ho
      have e0 : a'.eval (.tmp 25) = P0 b := is_tq (hin 19 25 (by kernel_rfl) (by kernel_rfl)) rfl
      exact o_nil (.tmp 25) rfl _ e0 ⟨_, rfl, tq_is _ _ _ _ rfl, Kept.refl _ _, fun _ _ _ _ _ => trivial⟩
    | 21, ho, hsk =>
      obtain rfl := Option.some.inj ho
      have e0 : a'.eval (.tmp 26) = P0 b := is_tq (hin 20 26 (by kernel_rfl) (by kernel_rfl)) rfl
      exact o_fld32_2 (.tmp 26) rfl b e0 ⟨_, rfl, tq_is _ _ _ _ rfl, Kept.refl _ _, fun _ _ _ _ _ => trivial⟩
    | 22, ho, hsk =>
      obtain rfl := Option.some.inj ho
      have e0 : a'.eval (.tmp 27) = .pointer (some ⟨b, 2, none⟩) := is_tq (hin 21 27 (by kernel_rfl) (by kernel_rfl)) rfl
      exact o_load2 (.tmp 27) rfl _ _ e0 (fits_cell ((unhide HH).kept hk2 (by simp)) 2 _ rfl) ⟨_, rfl, tq_is _ _ _ _ rfl, Kept.refl _ _, fun _ _ _ _ _ => trivial⟩
    | 23, ho, hsk =>
      obtain rfl := Option.some.inj ho
      have e0 : a'.eval (.tmp 24) = .int .i64 d.vw := is_tq (hin 18 24 (by kernel_rfl) (by kernel_rfl)) rfl
      have e1 : a'.eval (.tmp 28) = .int .i64 P.view := is_tq (hin 22 28 (by kernel_rfl) (by kernel_rfl)) rfl
      exact o_neqT2 (.tmp 24) (.tmp 28) rfl _ _ true (unhide H3) e0 e1 ⟨_, rfl, tq_is _ _ _ _ rfl, Kept.refl _ _, fun _ _ _ _ _ => trivial⟩
    | 24, ho, hsk =>
      obtain rfl := Option.some.inj ho
      have e0 : a'.eval (.tmp 22) = .bool false := is_tq (hin 16 22 (by kernel_rfl) (by kernel_rfl)) rfl
      have e1 : a'.eval (.tmp 29) = .bool false := is_tq (hin 23 29 (by kernel_rfl) (by kernel_rfl)) rfl
      exact o_pickOr0 (.tmp 22) (.tmp 29) rfl _ e0 e1 ⟨_, rfl, tq_is _ _ _ _ rfl, Kept.refl _ _, fun _ _ _ _ _ => trivial⟩
    | 25, ho, hsk =>
      obtain rfl := Option.some.inj ho
      have e0 : a'.eval (.tmp 30) = .bool false := is_tq (hin 24 30 (by kernel_rfl) (by kernel_rfl)) rfl
      exact wp_move (.tmp 30) rfl _ e0 ⟨_, rfl, tq_is _ _ _ _ rfl, Kept.refl _ _, fun _ _ _ _ _ => trivial⟩
    | 26, ho, hsk =>
      obtain rfl := Option.some.inj ho
      exact o_fld35_3 (.tmp 3) rfl z ((hout 3 (by kernel_rfl)).trans rfl) ⟨_, rfl, tq_is _ _ _ _ rfl, Kept.refl _ _, fun _ _ _ _ _ => trivial⟩
    | 27, ho, hsk =>
      obtain rfl := Option.some.inj ho
      have e0 : a'.eval (.tmp 32) = .pointer (some ⟨z, 3, none⟩) := is_tq (hin 26 32 (by kernel_rfl) (by kernel_rfl)) rfl
      exact o_load2 (.tmp 32) rfl _ _ e0 (fits_cell ((unhide HP).kept hk2 (by simp)) 3 _ rfl) ⟨_, rfl, tq_is _ _ _ _ rfl, Kept.refl _ _, fun _ _ _ _ _ => trivial⟩
    | 28, ho, hsk =>
      obtain rfl := Option.some.inj ho
      have e0 : a'.eval (.tmp 33) = .int .i64 d.seq := is_tq (hin 27 33 (by kernel_rfl) (by kernel_rfl)) rfl
      exact o_lss2c (.tmp 33) 0 rfl _ false (unhide H4) e0 ⟨_, rfl, tq_is _ _ _ _ rfl, Kept.refl _ _, fun _ _ _ _ _ => trivial⟩
    | 29, ho, hsk =>
      obtain rfl := Option.some.inj ho
      have e0 : a'.eval (.tmp 31) = .bool false := is_tq (hin 25 31 (by kernel_rfl) (by kernel_rfl)) rfl
      have e1 : a'.eval (.tmp 34) = .bool false := is_tq (hin 28 34 (by kernel_rfl) (by kernel_rfl)) rfl
      exact o_pickOr0 (.tmp 31) (.tmp 34) rfl _ e0 e1 ⟨_, rfl, tq_is _ _ _ _ rfl, Kept.refl _ _, fun _ _ _ _ _ => trivial⟩
    | 30, ho, hsk =>
      obtain rfl := Option.some.inj ho
      have e0 : a'.eval (.tmp 35) = .bool false := is_tq (hin 29 35 (by kernel_rfl) (by kernel_rfl)) rfl
      exact wp_move (.tmp 35) rfl _ e0 ⟨_, rfl, tq_is _ _ _ _ rfl, Kept.refl _ _, fun _ _ _ _ _ => trivial⟩
    | 31, ho, hsk =>
      obtain rfl := Option.some.inj ho
      exact o_fld35_3 (.tmp 3) rfl z ((hout 3 (by kernel_rfl)).trans rfl) ⟨_, rfl, tq_is _ _ _ _ rfl, Kept.refl _ _, fun _ _ _ _ _ => trivial⟩
    | 32, ho, hsk =>
      obtain rfl := Option.some.inj ho
      have e0 : a'.eval (.tmp 37) = .pointer (some ⟨z, 3, none⟩) := is_tq (hin 31 37 (by kernel_rfl) (by kernel_rfl)) rfl
      exact o_load2 (.tmp 37) rfl _ _ e0 (fits_cell ((unhide HP).kept hk2 (by simp)) 3 _ rfl) ⟨_, rfl, tq_is _ _ _ _ rfl, Kept.refl _ _, fun _ _ _ _ _ => trivial⟩
    | 33, ho, hsk =>
      obtain rfl := Option.some.inj ho
      have e0 : a'.eval (.tmp 38) = .int .i64 d.seq := is_tq (hin 32 38 (by kernel_rfl) (by kernel_rfl)) rfl
      exact o_gtr2c (.tmp 38) 4611686018427387904 rfl _ false (unhide H5) e0 ⟨_, rfl, tq_is _ _ _ _ rfl, Kept.refl _ _, fun _ _ _ _ _ => trivial⟩
    | 34, ho, hsk =>
      obtain rfl := Option.some.inj ho
      have e0 : a'.eval (.tmp 36) = .bool false := is_tq (hin 30 36 (by kernel_rfl) (by kernel_rfl)) rfl
      have e1 : a'.eval (.tmp 39) = .bool false := is_tq (hin 33 39 (by kernel_rfl) (by kernel_rfl)) rfl
      exact o_pickOr0 (.tmp 36) (.tmp 39) rfl _ e0 e1 ⟨_, rfl, tq_is _ _ _ _ rfl, Kept.refl _ _, fun _ _ _ _ _ => trivial⟩
    | 35, ho, hsk =>
      obtain rfl := Option.some.inj ho
      have e0 : a'.eval (.tmp 40) = .bool false := is_tq (hin 34 40 (by kernel_rfl) (by kernel_rfl)) rfl
      exact wp_move (.tmp 40) rfl _ e0 ⟨_, rfl, tq_is _ _ _ _ rfl, Kept.refl _ _, fun _ _ _ _ _ => trivial⟩
    | 36, ho, hsk =>
      obtain rfl := Option.some.inj ho
      exact o_fld35_4 (.tmp 3) rfl z ((hout 3 (by kernel_rfl)).trans rfl) ⟨_, rfl, tq_is _ _ _ _ rfl, Kept.refl _ _, fun _ _ _ _ _ => trivial⟩
    | 37, ho, hsk =>
      obtain rfl := Option.some.inj ho
      have e0 : a'.eval (.tmp 42) = .pointer (some ⟨z, 4, none⟩) := is_tq (hin 36 42 (by kernel_rfl) (by kernel_rfl)) rfl
      exact o_load2 (.tmp 42) rfl _ _ e0 (fits_cell ((unhide HP).kept hk2 (by simp)) 4 _ rfl) ⟨_, rfl, tq_is _ _ _ _ rfl, Kept.refl _ _, fun _ _ _ _ _ => trivial⟩
    | 38, ho, hsk =>
      obtain rfl := Option.some.inj ho
      have e0 : a'.eval (.tmp 43) = .int .i64 d.ack := is_tq (hin 37 43 (by kernel_rfl) (by kernel_rfl)) rfl
      exact o_lss2c (.tmp 43) 0 rfl _ false (unhide H6) e0 ⟨_, rfl, tq_is _ _ _ _ rfl, Kept.refl _ _, fun _ _ _ _ _ => trivial⟩
    | 39, ho, hsk =>
      obtain rfl := Option.some.inj ho
      have e0 : a'.eval (.tmp 41) = .bool false := is_tq (hin 35 41 (by kernel_rfl) (by kernel_rfl)) rfl
      have e1 : a'.eval (.tmp 44) = .bool false := is_tq (hin 38 44 (by kernel_rfl) (by kernel_rfl)) rfl
      exact o_pickOr0 (.tmp 41) (.tmp 44) rfl _ e0 e1 ⟨_, rfl, tq_is _ _ _ _ rfl, Kept.refl _ _, fun _ _ _ _ _ => trivial⟩
    | 40, ho, hsk =>
      obtain rfl := Option.some.inj ho
      have e0 : a'.eval (.tmp 45) = .bool false := is_tq (hin 39 45 (by kernel_rfl) (by kernel_rfl)) rfl
      exact wp_move (.tmp 45) rfl _ e0 ⟨_, rfl, tq_is _ _ _ _ rfl, Kept.refl _ _, fun _ _ _ _ _ => trivial⟩
    | 41, ho, hsk =>
      obtain rfl := Option.some.inj ho
      exact o_fld35_4 (.tmp 3) rfl z ((hout 3 (by kernel_rfl)).trans rfl) ⟨_, rfl, tq_is _ _ _ _ rfl, Kept.refl _ _, fun _ _ _ _ _ => trivial⟩
    | 42, ho, hsk =>
      obtain rfl := Option.some.inj ho
      have e0 : a'.eval (.tmp 47) = .pointer (some ⟨z, 4, none⟩) := is_tq (hin 41 47 (by kernel_rfl) (by kernel_rfl)) rfl
      exact o_load2 (.tmp 47) rfl _ _ e0 (fits_cell ((unhide HP).kept hk2 (by simp)) 4 _ rfl) ⟨_, rfl, tq_is _ _ _ _ rfl, Kept.refl _ _, fun _ _ _ _ _ => trivial⟩
    | 43, ho, hsk =>
      obtain rfl := Option.some.inj ho
      exact wp_move (.tmp 0) rfl _ ((hout 0 (by kernel_rfl)).trans rfl) ⟨_, rfl, tq_is _ _ _ _ rfl, Kept.refl _ _, fun _ _ _ _ _ => trivial⟩
    | 44, ho, hsk =>
      obtain rfl := Option.some.inj ho
      have e0 : a'.eval (.tmp 49) = P0 b := is_tq (hin 43 49 (by kernel_rfl) (by kernel_rfl)) rfl
      exact o_nil (.tmp 49) rfl _ e0 ⟨_, rfl, tq_is _ _ _ _ rfl, Kept.refl _ _, fun _ _ _ _ _ => trivial⟩
    | 45, ho, hsk =>
      obtain rfl := Option.some.inj ho
      have e0 : a'.eval (.tmp 50) = P0 b := is_tq (hin 44 50 (by kernel_rfl) (by kernel_rfl)) rfl
      exact o_fld32_3 (.tmp 50) rfl b e0 ⟨_, rfl, tq_is _ _ _ _ rfl, Kept.refl _ _, fun _ _ _ _ _ => trivial⟩
    | 46, ho, hsk =>
      obtain rfl := Option.some.inj ho
      have e0 : a'.eval (.tmp 51) = .pointer (some ⟨b, 3, none⟩) := is_tq (hin 45 51 (by kernel_rfl) (by kernel_rfl)) rfl
      exact o_load30 (.tmp 51) rfl _ _ e0 (fits_cell ((unhide HH).kept hk2 (by simp)) 3 _ rfl) ⟨_, rfl, tq_is _ _ _ _ rfl, Kept.refl _ _, fun _ _ _ _ _ => trivial⟩
    | 47, ho, hsk =>
      obtain rfl := Option.some.inj ho
      have e0 : a'.eval (.tmp 52) = .slice vo ws.length vc := is_tq (hin 46 52 (by kernel_rfl) (by kernel_rfl)) rfl
      exact o_len30 (.tmp 52) rfl _ _ _ e0 ⟨_, rfl, tq_is _ _ _ _ rfl, Kept.refl _ _, fun _ _ _ _ _ => trivial⟩
    | 48, ho, hsk =>
      obtain rfl := Option.some.inj ho
      have e0 : a'.eval (.tmp 48) = .int .i64 d.ack := is_tq (hin 42 48 (by kernel_rfl) (by kernel_rfl)) rfl
      have e1 : a'.eval (.tmp 53) = .int .i64 ws.length := is_tq (hin 47 53 (by kernel_rfl) (by kernel_rfl)) rfl
      exact o_gtrT2 (.tmp 48) (.tmp 53) rfl _ _ true (unhide H7) e0 e1 ⟨_, rfl, tq_is _ _ _ _ rfl, Kept.refl _ _, fun _ _ _ _ _ => trivial⟩
    | 49, ho, hsk =>
      obtain rfl := Option.some.inj ho
      have e0 : a'.eval (.tmp 46) = .bool false := is_tq (hin 40 46 (by kernel_rfl) (by kernel_rfl)) rfl
      have e1 : a'.eval (.tmp 54) = .bool true := is_tq (hin 48 54 (by kernel_rfl) (by kernel_rfl)) rfl
      exact o_pickOr0 (.tmp 46) (.tmp 54) rfl _ e0 e1 ⟨_, rfl, tq_is _ _ _ _ rfl, Kept.refl _ _, fun _ _ _ _ _ => trivial⟩
    | 50, ho, hsk =>
      obtain rfl := Option.some.inj ho
      have e0 : a'.eval (.tmp 55) = .bool true := is_tq (hin 49 55 (by kernel_rfl) (by kernel_rfl)) rfl
      exact wp_move (.tmp 55) rfl _ e0 ⟨_, rfl, tq_is _ _ _ _ rfl, Kept.refl _ _, fun _ _ _ _ _ => trivial⟩
    | 51, ho, hsk =>
      cases hsk
    | 52, ho, hsk =>
      cases hsk
    | 53, ho, hsk =>
      cases hsk
    | 54, ho, hsk =>
      cases hsk
    | 55, ho, hsk =>
      obtain rfl := Option.some.inj ho
      have e0 : a'.eval (.tmp 56) = .bool true := is_tq (hin 50 56 (by kernel_rfl) (by kernel_rfl)) rfl
      exact o_pickOrT (.tmp 56) (.tmp 60) rfl e0 ⟨_, rfl, tq_is _ _ _ _ rfl, Kept.refl _ _, fun _ _ _ _ _ => trivial⟩
    | 56, ho, hsk =>
      obtain rfl := Option.some.inj ho
      have e0 : a'.eval (.tmp 61) = .bool true := is_tq (hin 55 61 (by kernel_rfl) (by kernel_rfl)) rfl
      exact wp_move (.tmp 61) rfl _ e0 ⟨_, rfl, tq_is _ _ _ _ rfl, Kept.refl _ _, fun _ _ _ _ _ => trivial⟩
    | 57, ho, hsk =>
      cases hsk
    | 58, ho, hsk =>
      cases hsk
    | 59, ho, hsk =>
      cases hsk
    | 60, ho, hsk =>
      cases hsk
    | 61, ho, hsk =>
      cases hsk
    | 62, ho, hsk =>
      cases hsk
    | 63, ho, hsk =>
      cases hsk
    | 64, ho, hsk =>
      cases hsk
    | 65, ho, hsk =>
      cases hsk
    | 66, ho, hsk =>
      obtain rfl := Option.some.inj ho
      have e0 : a'.eval (.tmp 62) = .bool true := is_tq (hin 56 62 (by kernel_rfl) (by kernel_rfl)) rfl
      exact o_pickOrT (.tmp 62) (.tmp 71) rfl e0 ⟨_, rfl, tq_is _ _ _ _ rfl, Kept.refl _ _, fun _ _ _ _ _ => trivial⟩
  intro w9 hk9
  replace hk9 : Kept [] w1 w9 := ⟨hk9.os, hk9.tape, hk9.output, hk9.size, hk9.block⟩
  simp only [valsQ, List.map_cons, List.map_nil, Option.getD_some, Option.getD_none, List.take_succ_cons, List.take_zero, putAll, Act.put, List.setIfInBounds_toArray, List.set_cons_succ, List.set_cons_zero]
  refine wpAny_done (by kernel_rfl) ?_ _
  replace HK := hide ((unhide HK).trans hk9)
  clear hk9
  go_wp2_with fail
  go_ret2
  exact ⟨rfl, unhide HK⟩
set_option maxHeartbeats 2000000 in
theorem rno_8 (b : Nat) (v : Value) (ws : List Value) (P : Ps) (d : Dg) (uo : Option Addr) (m uc : Nat) (w : World) (h : Rx w b v ws P) (g1 : decide (d.fr = P.oth) = true) (g2 : decide (d.to = P.me) = true) (g3 : decide (d.vw = P.view) = true) (g4 : decide (d.seq < 0) = false) (g5 : decide (4611686018427387904 < d.seq) = false) (g6 : decide (d.ack < 0) = false) (g7 : decide ((ws.length : Int) < d.ack) = false) (g8 : decide ((256 : Int) < (m : Int)) = true) : Calls Try.prog 21 #[P0 b, aggV (d.C (.slice uo m uc))] w fun e w' => e = .returned (.tuple #[.slice none 0 0, .bool false]) ∧ Kept [] w w' := by
  obtain ⟨vo, vc, rfl, _, _⟩ := h.sl
  have HS := hide h
  have H1 := hide g1
  have H2 := hide g2
  have H3 := hide g3
  have H4 := hide g4
  have H5 := hide g5
  have H6 := hide g6
  have H7 := hide g7
  have H8 := hide g8
  clear h g1 g2 g3 g4 g5 g6 g7 g8
  go_enter Try.func21, Try.ntmps21
  go_wp2_with (
    first
    | (refine wpBoxV (by rfl) (.tmp 1) (by rfl) (d.C (.slice uo m uc)) (by kernel_rfl) ?_
       intro w1 z e1 B1 K1
       have HE : Hid (w.heap.size ≤ z) := by rw [e1]; exact (Nat.le_refl _ : w.heap.size ≤ w.heap.size)
       have HP := hide B1
       have HK := hide K1
       replace HS := hide ((unhide HS).kept0 K1)
       clear e1 B1 K1))
  have HH := hide (unhide HS).head
  simp only [List.append_eq, List.cons_append, List.nil_append]
  refine wp_region_any mixed (wpAny_tq 67 rfl (by kernel_rfl) [some (.pointer (some ⟨z, 0, none⟩)), some (.int .i64 d.fr), some (P0 b), some (P0 b), some (.pointer (some ⟨b, 1, none⟩)), some (.int .i64 P.oth), some (.bool false), some (.bool false), some (.pointer (some ⟨z, 1, none⟩)), some (.int .i64 d.to), some (P0 b), some (P0 b), some (.pointer (some ⟨b, 0, none⟩)), some (.int .i64 P.me), some (.bool false), some (.bool false), some (.bool false), some (.pointer (some ⟨z, 2, none⟩)), some (.int .i64 d.vw), some (P0 b), some (P0 b), some (.pointer (some ⟨b, 2, none⟩)), some (.int .i64 P.view), some (.bool false), some (.bool false), some (.bool false), some (.pointer (some ⟨z, 3, none⟩)), some (.int .i64 d.seq), some (.bool false), some (.bool false), some (.bool false), some (.pointer (some ⟨z, 3, none⟩)), some (.int .i64 d.seq), some (.bool false), some (.bool false), some (.bool false), some (.pointer (some ⟨z, 4, none⟩)), some (.int .i64 d.ack), some (.bool false), some (.bool false), some (.bool false), some (.pointer (some ⟨z, 4, none⟩)), some (.int .i64 d.ack), some (P0 b), some (P0 b), some (.pointer (some ⟨b, 3, none⟩)), some (.slice vo ws.length vc), some (.int .i64 ws.length), some (.bool false), some (.bool false), some (.bool false), some (.pointer (some ⟨z, 5, none⟩)), some (.slice uo m uc), some (.int .i64 m), some (.bool true), some (.bool true), some (.bool true), none, none, none, none, none, none, none, none, none, some (.bool true)] rfl (by kernel_rfl) (by kernel_rfl) ?_ ?_)
  · intro i o' hi hsk ho a' w2 hout hin hk2
    replace hk2 : Kept [] w1 w2 := ⟨hk2.os, hk2.tape, hk2.output, hk2.size, hk2.block⟩
    match i, ho, hsk with
    | 0, ho, hsk =>
      obtain rfl := Option.some.inj ho
      exact o_fld35_0 (.tmp 3) rfl z ((hout 3 (by kernel_rfl)).trans rfl) ⟨_, rfl, tq_is _ _ _ _ rfl, Kept.refl _ _, fun _ _ _ _ _ => trivial⟩
    | 1, ho, hsk =>
      obtain rfl := Option.some.inj ho
      have e0 : a'.eval (.tmp 6) = .pointer (some ⟨z, 0, none⟩) := is_tq (hin 0 6 (by kernel_rfl) (by kernel_rfl)) rfl
      exact o_load3 (.tmp 6) rfl _ _ e0 (fits_cell ((unhide HP).kept hk2 (by simp)) 0 _ rfl) ⟨_, rfl, tq_is _ _ _ _ rfl, Kept.refl _ _, fun _ _ _ _ _ => trivial⟩
    | 2, ho, hsk =>
      obtain rfl := Option.some.inj ho
      exact wp_move (.tmp 0) rfl _ ((hout 0 (by kernel_rfl)).trans rfl) ⟨_, rfl, tq_is _ _ _ _ rfl, Kept.refl _ _, fun _ _ _ _ _ => trivial⟩
    | 3, ho, hsk =>
      obtain rfl := Option.some.inj ho
      have e0 : a'.eval (.tmp 8) = P0 b := is_tq (hin 2 8 (by kernel_rfl) (by kernel_rfl)) rfl
      exact o_nil (.tmp 8) rfl _ e0 ⟨_, rfl, tq_is _ _ _ _ rfl, Kept.refl _ _, fun _ _ _ _ _ => trivial⟩
    | 4, ho, hsk =>
      obtain rfl := Option.some.inj ho
      have e0 : a'.eval (.tmp 9) = P0 b := is_tq (hin 3 9 (by kernel_rfl) (by kernel_rfl)) rfl
      exact o_fld32_1 (.tmp 9) rfl b e0 ⟨_, rfl, tq_is _ _ _ _ rfl, Kept.refl _ _, fun _ _ _ _ _ => trivial⟩
    | 5, ho, hsk =>
      obtain rfl := Option.some.inj ho
      have e0 : a'.eval (.tmp 10) = .pointer (some ⟨b, 1, none⟩) := is_tq (hin 4 10 (by kernel_rfl) (by kernel_rfl)) rfl
      exact o_load3 (.tmp 10) rfl _ _ e0 (fits_cell ((unhide HH).kept hk2 (by simp)) 1 _ rfl) ⟨_, rfl, tq_is _ _ _ _ rfl, Kept.refl _ _, fun _ _ _ _ _ => trivial⟩
    | 6, ho, hsk =>
      obtain rfl := Option.some.inj ho
      have e0 : a'.eval (.tmp 7) = .int .i64 d.fr := is_tq (hin 1 7 (by kernel_rfl) (by kernel_rfl)) rfl
      have e1 : a'.eval (.tmp 11) = .int .i64 P.oth := is_tq (hin 5 11 (by kernel_rfl) (by kernel_rfl)) rfl
      exact o_neqT3 (.tmp 7) (.tmp 11) rfl _ _ true (unhide H1) e0 e1 ⟨_, rfl, tq_is _ _ _ _ rfl, Kept.refl _ _, fun _ _ _ _ _ => trivial⟩
    | 7, ho, hsk =>
      obtain rfl := Option.some.inj ho
      have e0 : a'.eval (.tmp 12) = .bool false := is_tq (hin 6 12 (by kernel_rfl) (by kernel_rfl)) rfl
      exact wp_move (.tmp 12) rfl _ e0 ⟨_, rfl, tq_is _ _ _ _ rfl, Kept.refl _ _, fun _ _ _ _ _ => trivial⟩
    | 8, ho, hsk =>
      obtain rfl := Option.some.inj ho
      exact o_fld35_1 (.tmp 3) rfl z ((hout 3 (by kernel_rfl)).trans rfl) ⟨_, rfl, tq_is _ _ _ _ rfl, Kept.refl _ _, fun _ _ _ _ _ => trivial⟩
    | 9, ho, hsk =>
      obtain rfl := Option.some.inj ho
      have e0 : a'.eval (.tmp 14) = .pointer (some ⟨z, 1, none⟩) := is_tq (hin 8 14 (by kernel_rfl) (by kernel_rfl)) rfl
      exact o_load3 (.tmp 14) rfl _ _ e0 (fits_cell ((unhide HP).kept hk2 (by simp)) 1 _ rfl) ⟨_, rfl, tq_is _ _ _ _ rfl, Kept.refl _ _, fun _ _ _ _ _ => trivial⟩
    | 10, ho, hsk =>
      obtain rfl := Option.some.inj ho
      exact wp_move (.tmp 0) rfl _ ((hout 0 (by kernel_rfl)).trans rfl) ⟨_, rfl, tq_is _ _ _ _ rfl, Kept.refl _ _, fun _ _ _ _ _ => trivial⟩
    | 11, ho, hsk =>
      obtain rfl := Option.some.inj ho
      have e0 : a'.eval (.tmp 16) = P0 b := is_tq (hin 10 16 (by kernel_rfl) (by kernel_rfl)) rfl
      exact o_nil (.tmp 16) rfl _ e0 ⟨_, rfl, tq_is _ _ _ _ rfl, Kept.refl _ _, fun _ _ _ _ _ => trivial⟩
    | 12, ho, hsk =>
      obtain rfl := Option.some.inj ho
      have e0 : a'.eval (.tmp 17) = P0 b := is_tq (hin 11 17 (by kernel_rfl) (by kernel_rfl)) rfl
      exact o_fld32_0 (.tmp 17) rfl b e0 ⟨_, rfl, tq_is _ _ _ _ rfl, Kept.refl _ _, fun _ _ _ _ _ => trivial⟩
    | 13, ho, hsk =>
      obtain rfl := Option.some.inj ho
      have e0 : a'.eval (.tmp 18) = .pointer (some ⟨b, 0, none⟩) := is_tq (hin 12 18 (by kernel_rfl) (by kernel_rfl)) rfl
      exact o_load3 (.tmp 18) rfl _ _ e0 (fits_cell ((unhide HH).kept hk2 (by simp)) 0 _ rfl) ⟨_, rfl, tq_is _ _ _ _ rfl, Kept.refl _ _, fun _ _ _ _ _ => trivial⟩
    | 14, ho, hsk =>
      obtain rfl := Option.some.inj ho
      have e0 : a'.eval (.tmp 15) = .int .i64 d.to := is_tq (hin 9 15 (by kernel_rfl) (by kernel_rfl)) rfl
      have e1 : a'.eval (.tmp 19) = .int .i64 P.me := is_tq (hin 13 19 (by kernel_rfl) (by kernel_rfl)) rfl
      exact o_neqT3 (.tmp 15) (.tmp 19) rfl _ _ true (unhide H2) e0 e1 ⟨_, rfl, tq_is _ _ _ _ rfl, Kept.refl _ _, fun _ _ _ _ _ => trivial⟩
    | 15, ho, hsk =>
      obtain rfl := Option.some.inj ho
      have e0 : a'.eval (.tmp 13) = .bool false := is_tq (hin 7 13 (by kernel_rfl) (by kernel_rfl)) rfl
      have e1 : a'.eval (.tmp 20) = .bool false := is_tq (hin 14 20 (by kernel_rfl) (by kernel_rfl)) rfl
      exact o_pickOr0 (.tmp 13) (.tmp 20) rfl _ e0 e1 ⟨_, rfl, tq_is _ _ _ _ rfl, Kept.refl _ _, fun _ _ _ _ _ => trivial⟩
    | 16, ho, hsk =>
      obtain rfl := Option.some.inj ho
      have e0 : a'.eval (.tmp 21) = .bool false := is_tq (hin 15 21 (by kernel_rfl) (by kernel_rfl)) rfl
      exact wp_move (.tmp 21) rfl _ e0 ⟨_, rfl, tq_is _ _ _ _ rfl, Kept.refl _ _, fun _ _ _ _ _ => trivial⟩
    | 17, ho, hsk =>
      obtain rfl := Option.some.inj ho
      exact o_fld35_2 (.tmp 3) rfl z ((hout 3 (by kernel_rfl)).trans rfl) ⟨_, rfl, tq_is _ _ _ _ rfl, Kept.refl _ _, fun _ _ _ _ _ => trivial⟩
    | 18, ho, hsk =>
      obtain rfl := Option.some.inj ho
      have e0 : a'.eval (.tmp 23) = .pointer (some ⟨z, 2, none⟩) := is_tq (hin 17 23 (by kernel_rfl) (by kernel_rfl)) rfl
      exact o_load2 (.tmp 23) rfl _ _ e0 (fits_cell ((unhide HP).kept hk2 (by simp)) 2 _ rfl) ⟨_, rfl, tq_is _ _ _ _ rfl, Kept.refl _ _, fun _ _ _ _ _ => trivial⟩
    | 19, ho, hsk =>
      obtain rfl := Option.some.inj ho
      exact wp_move (.tmp 0) rfl _ ((hout 0 (by kernel_rfl)).trans rfl) ⟨_, rfl, tq_is _ _ _ _ rfl, Kept.refl _ _, fun _ _ _ _ _ => trivial⟩
    | 20, ho, hsk =>
      obtain rfl := Option.some.inj ho
      have e0 : a'.eval (.tmp 25) = P0 b := is_tq (hin 19 25 (by kernel_rfl) (by kernel_rfl)) rfl
      exact o_nil (.tmp 25) rfl _ e0 ⟨_, rfl, tq_is _ _ _ _ rfl, Kept.refl _ _, fun _ _ _ _ _ => trivial⟩
    | 21, ho, hsk =>
      obtain rfl := Option.some.inj ho
      have e0 : a'.eval (.tmp 26) = P0 b := is_tq (hin 20 26 (by kernel_rfl) (by kernel_rfl)) rfl
      exact o_fld32_2 (.tmp 26) rfl b e0 ⟨_, rfl, tq_is _ _ _ _ rfl, Kept.refl _ _, fun _ _ _ _ _ => trivial⟩
    | 22, ho, hsk =>
      obtain rfl := Option.some.inj ho
      have e0 : a'.eval (.tmp 27) = .pointer (some ⟨b, 2, none⟩) := is_tq (hin 21 27 (by kernel_rfl) (by kernel_rfl)) rfl
      exact o_load2 (.tmp 27) rfl _ _ e0 (fits_cell ((unhide HH).kept hk2 (by simp)) 2 _ rfl) ⟨_, rfl, tq_is _ _ _ _ rfl, Kept.refl _ _, fun _ _ _ _ _ => trivial⟩
    | 23, ho, hsk =>
      obtain rfl := Option.some.inj ho
      have e0 : a'.eval (.tmp 24) = .int .i64 d.vw := is_tq (hin 18 24 (by kernel_rfl) (by kernel_rfl)) rfl
      have e1 : a'.eval (.tmp 28) = .int .i64 P.view := is_tq (hin 22 28 (by kernel_rfl) (by kernel_rfl)) rfl
      exact o_neqT2 (.tmp 24) (.tmp 28) rfl _ _ true (unhide H3) e0 e1 ⟨_, rfl, tq_is _ _ _ _ rfl, Kept.refl _ _, fun _ _ _ _ _ => trivial⟩
    | 24, ho, hsk =>
      obtain rfl := Option.some.inj ho
      have e0 : a'.eval (.tmp 22) = .bool false := is_tq (hin 16 22 (by kernel_rfl) (by kernel_rfl)) rfl
      have e1 : a'.eval (.tmp 29) = .bool false := is_tq (hin 23 29 (by kernel_rfl) (by kernel_rfl)) rfl
      exact o_pickOr0 (.tmp 22) (.tmp 29) rfl _ e0 e1 ⟨_, rfl, tq_is _ _ _ _ rfl, Kept.refl _ _, fun _ _ _ _ _ => trivial⟩
    | 25, ho, hsk =>
      obtain rfl := Option.some.inj ho
      have e0 : a'.eval (.tmp 30) = .bool false := is_tq (hin 24 30 (by kernel_rfl) (by kernel_rfl)) rfl
      exact wp_move (.tmp 30) rfl _ e0 ⟨_, rfl, tq_is _ _ _ _ rfl, Kept.refl _ _, fun _ _ _ _ _ => trivial⟩
    | 26, ho, hsk =>
      obtain rfl := Option.some.inj ho
      exact o_fld35_3 (.tmp 3) rfl z ((hout 3 (by kernel_rfl)).trans rfl) ⟨_, rfl, tq_is _ _ _ _ rfl, Kept.refl _ _, fun _ _ _ _ _ => trivial⟩
    | 27, ho, hsk =>
      obtain rfl := Option.some.inj ho
      have e0 : a'.eval (.tmp 32) = .pointer (some ⟨z, 3, none⟩) := is_tq (hin 26 32 (by kernel_rfl) (by kernel_rfl)) rfl
      exact o_load2 (.tmp 32) rfl _ _ e0 (fits_cell ((unhide HP).kept hk2 (by simp)) 3 _ rfl) ⟨_, rfl, tq_is _ _ _ _ rfl, Kept.refl _ _, fun _ _ _ _ _ => trivial⟩
    | 28, ho, hsk =>
      obtain rfl := Option.some.inj ho
      have e0 : a'.eval (.tmp 33) = .int .i64 d.seq := is_tq (hin 27 33 (by kernel_rfl) (by kernel_rfl)) rfl
      exact o_lss2c (.tmp 33) 0 rfl _ false (unhide H4) e0 ⟨_, rfl, tq_is _ _ _ _ rfl, Kept.refl _ _, fun _ _ _ _ _ => trivial⟩
    | 29, ho, hsk =>
      obtain rfl := Option.some.inj ho
      have e0 : a'.eval (.tmp 31) = .bool false := is_tq (hin 25 31 (by kernel_rfl) (by kernel_rfl)) rfl
      have e1 : a'.eval (.tmp 34) = .bool false := is_tq (hin 28 34 (by kernel_rfl) (by kernel_rfl)) rfl
      exact o_pickOr0 (.tmp 31) (.tmp 34) rfl _ e0 e1 ⟨_, rfl, tq_is _ _ _ _ rfl, Kept.refl _ _, fun _ _ _ _ _ => trivial⟩
    | 30, ho, hsk =>
      obtain rfl := Option.some.inj ho
      have e0 : a'.eval (.tmp 35) = .bool false := is_tq (hin 29 35 (by kernel_rfl) (by kernel_rfl)) rfl
      exact wp_move (.tmp 35) rfl _ e0 ⟨_, rfl, tq_is _ _ _ _ rfl, Kept.refl _ _, fun _ _ _ _ _ => trivial⟩
    | 31, ho, hsk =>
      obtain rfl := Option.some.inj ho
      exact o_fld35_3 (.tmp 3) rfl z ((hout 3 (by kernel_rfl)).trans rfl) ⟨_, rfl, tq_is _ _ _ _ rfl, Kept.refl _ _, fun _ _ _ _ _ => trivial⟩
    | 32, ho, hsk =>
      obtain rfl := Option.some.inj ho
      have e0 : a'.eval (.tmp 37) = .pointer (some ⟨z, 3, none⟩) := is_tq (hin 31 37 (by kernel_rfl) (by kernel_rfl)) rfl
      exact o_load2 (.tmp 37) rfl _ _ e0 (fits_cell ((unhide HP).kept hk2 (by simp)) 3 _ rfl) ⟨_, rfl, tq_is _ _ _ _ rfl, Kept.refl _ _, fun _ _ _ _ _ => trivial⟩
    | 33, ho, hsk =>
      obtain rfl := Option.some.inj ho
      have e0 : a'.eval (.tmp 38) = .int .i64 d.seq := is_tq (hin 32 38 (by kernel_rfl) (by kernel_rfl)) rfl
      exact o_gtr2c (.tmp 38) 4611686018427387904 rfl _ false (unhide H5) e0 ⟨_, rfl, tq_is _ _ _ _ rfl, Kept.refl _ _, fun _ _ _ _ _ => trivial⟩
    | 34, ho, hsk =>
      obtain rfl := Option.some.inj ho
      have e0 : a'.eval (.tmp 36) = .bool false := is_tq (hin 30 36 (by kernel_rfl) (by kernel_rfl)) rfl
      have e1 : a'.eval (.tmp 39) = .bool false := is_tq (hin 33 39 (by kernel_rfl) (by kernel_rfl)) rfl
      exact o_pickOr0 (.tmp 36) (.tmp 39) rfl _ e0 e1 ⟨_, rfl, tq_is _ _ _ _ rfl, Kept.refl _ _, fun _ _ _ _ _ => trivial⟩
    | 35, ho, hsk =>
      obtain rfl := Option.some.inj ho
      have e0 : a'.eval (.tmp 40) = .bool false := is_tq (hin 34 40 (by kernel_rfl) (by kernel_rfl)) rfl
      exact wp_move (.tmp 40) rfl _ e0 ⟨_, rfl, tq_is _ _ _ _ rfl, Kept.refl _ _, fun _ _ _ _ _ => trivial⟩
    | 36, ho, hsk =>
      obtain rfl := Option.some.inj ho
      exact o_fld35_4 (.tmp 3) rfl z ((hout 3 (by kernel_rfl)).trans rfl) ⟨_, rfl, tq_is _ _ _ _ rfl, Kept.refl _ _, fun _ _ _ _ _ => trivial⟩
    | 37, ho, hsk =>
      obtain rfl := Option.some.inj ho
      have e0 : a'.eval (.tmp 42) = .pointer (some ⟨z, 4, none⟩) := is_tq (hin 36 42 (by kernel_rfl) (by kernel_rfl)) rfl
      exact o_load2 (.tmp 42) rfl _ _ e0 (fits_cell ((unhide HP).kept hk2 (by simp)) 4 _ rfl) ⟨_, rfl, tq_is _ _ _ _ rfl, Kept.refl _ _, fun _ _ _ _ _ => trivial⟩
    | 38, ho, hsk =>
      obtain rfl := Option.some.inj ho
      have e0 : a'.eval (.tmp 43) = .int .i64 d.ack := is_tq (hin 37 43 (by kernel_rfl) (by kernel_rfl)) rfl
      exact o_lss2c (.tmp 43) 0 rfl _ false (unhide H6) e0 ⟨_, rfl, tq_is _ _ _ _ rfl, Kept.refl _ _, fun _ _ _ _ _ => trivial⟩
    | 39, ho, hsk =>
      obtain rfl := Option.some.inj ho
      have e0 : a'.eval (.tmp 41) = .bool false := is_tq (hin 35 41 (by kernel_rfl) (by kernel_rfl)) rfl
      have e1 : a'.eval (.tmp 44) = .bool false := is_tq (hin 38 44 (by kernel_rfl) (by kernel_rfl)) rfl
      exact o_pickOr0 (.tmp 41) (.tmp 44) rfl _ e0 e1 ⟨_, rfl, tq_is _ _ _ _ rfl, Kept.refl _ _, fun _ _ _ _ _ => trivial⟩
    | 40, ho, hsk =>
      obtain rfl := Option.some.inj ho
      have e0 : a'.eval (.tmp 45) = .bool false := is_tq (hin 39 45 (by kernel_rfl) (by kernel_rfl)) rfl
      exact wp_move (.tmp 45) rfl _ e0 ⟨_, rfl, tq_is _ _ _ _ rfl, Kept.refl _ _, fun _ _ _ _ _ => trivial⟩
    | 41, ho, hsk =>
      obtain rfl := Option.some.inj ho
      exact o_fld35_4 (.tmp 3) rfl z ((hout 3 (by kernel_rfl)).trans rfl) ⟨_, rfl, tq_is _ _ _ _ rfl, Kept.refl _ _, fun _ _ _ _ _ => trivial⟩
    | 42, ho, hsk =>
      obtain rfl := Option.some.inj ho
      have e0 : a'.eval (.tmp 47) = .pointer (some ⟨z, 4, none⟩) := is_tq (hin 41 47 (by kernel_rfl) (by kernel_rfl)) rfl
      exact o_load2 (.tmp 47) rfl _ _ e0 (fits_cell ((unhide HP).kept hk2 (by simp)) 4 _ rfl) ⟨_, rfl, tq_is _ _ _ _ rfl, Kept.refl _ _, fun _ _ _ _ _ => trivial⟩
    | 43, ho, hsk =>
      obtain rfl := Option.some.inj ho
      exact wp_move (.tmp 0) rfl _ ((hout 0 (by kernel_rfl)).trans rfl) ⟨_, rfl, tq_is _ _ _ _ rfl, Kept.refl _ _, fun _ _ _ _ _ => trivial⟩
    | 44, ho, hsk =>
      obtain rfl := Option.some.inj ho
      have e0 : a'.eval (.tmp 49) = P0 b := is_tq (hin 43 49 (by kernel_rfl) (by kernel_rfl)) rfl
      exact o_nil (.tmp 49) rfl _ e0 ⟨_, rfl, tq_is _ _ _ _ rfl, Kept.refl _ _, fun _ _ _ _ _ => trivial⟩
    | 45, ho, hsk =>
      obtain rfl := Option.some.inj ho
      have e0 : a'.eval (.tmp 50) = P0 b := is_tq (hin 44 50 (by kernel_rfl) (by kernel_rfl)) rfl
      exact o_fld32_3 (.tmp 50) rfl b e0 ⟨_, rfl, tq_is _ _ _ _ rfl, Kept.refl _ _, fun _ _ _ _ _ => trivial⟩
    | 46, ho, hsk =>
      obtain rfl := Option.some.inj ho
      have e0 : a'.eval (.tmp 51) = .pointer (some ⟨b, 3, none⟩) := is_tq (hin 45 51 (by kernel_rfl) (by kernel_rfl)) rfl
      exact o_load30 (.tmp 51) rfl _ _ e0 (fits_cell ((unhide HH).kept hk2 (by simp)) 3 _ rfl) ⟨_, rfl, tq_is _ _ _ _ rfl, Kept.refl _ _, fun _ _ _ _ _ => trivial⟩
    | 47, ho, hsk =>
      obtain rfl := Option.some.inj ho
      have e0 : a'.eval (.tmp 52) = .slice vo ws.length vc := is_tq (hin 46 52 (by kernel_rfl) (by kernel_rfl)) rfl
      exact o_len30 (.tmp 52) rfl _ _ _ e0 ⟨_, rfl, tq_is _ _ _ _ rfl, Kept.refl _ _, fun _ _ _ _ _ => trivial⟩
    | 48, ho, hsk =>
      obtain rfl := Option.some.inj ho
      have e0 : a'.eval (.tmp 48) = .int .i64 d.ack := is_tq (hin 42 48 (by kernel_rfl) (by kernel_rfl)) rfl
      have e1 : a'.eval (.tmp 53) = .int .i64 ws.length := is_tq (hin 47 53 (by kernel_rfl) (by kernel_rfl)) rfl
      exact o_gtrT2 (.tmp 48) (.tmp 53) rfl _ _ false (unhide H7) e0 e1 ⟨_, rfl, tq_is _ _ _ _ rfl, Kept.refl _ _, fun _ _ _ _ _ => trivial⟩
    | 49, ho, hsk =>
      obtain rfl := Option.some.inj ho
      have e0 : a'.eval (.tmp 46) = .bool false := is_tq (hin 40 46 (by kernel_rfl) (by kernel_rfl)) rfl
      have e1 : a'.eval (.tmp 54) = .bool false := is_tq (hin 48 54 (by kernel_rfl) (by kernel_rfl)) rfl
      exact o_pickOr0 (.tmp 46) (.tmp 54) rfl _ e0 e1 ⟨_, rfl, tq_is _ _ _ _ rfl, Kept.refl _ _, fun _ _ _ _ _ => trivial⟩
    | 50, ho, hsk =>
      obtain rfl := Option.some.inj ho
      have e0 : a'.eval (.tmp 55) = .bool false := is_tq (hin 49 55 (by kernel_rfl) (by kernel_rfl)) rfl
      exact wp_move (.tmp 55) rfl _ e0 ⟨_, rfl, tq_is _ _ _ _ rfl, Kept.refl _ _, fun _ _ _ _ _ => trivial⟩
    | 51, ho, hsk =>
      obtain rfl := Option.some.inj ho
      exact o_fld35_5 (.tmp 3) rfl z ((hout 3 (by kernel_rfl)).trans rfl) ⟨_, rfl, tq_is _ _ _ _ rfl, Kept.refl _ _, fun _ _ _ _ _ => trivial⟩
    | 52, ho, hsk =>
      obtain rfl := Option.some.inj ho
      have e0 : a'.eval (.tmp 57) = .pointer (some ⟨z, 5, none⟩) := is_tq (hin 51 57 (by kernel_rfl) (by kernel_rfl)) rfl
      exact o_load33 (.tmp 57) rfl _ _ e0 (fits_cell ((unhide HP).kept hk2 (by simp)) 5 _ rfl) ⟨_, rfl, tq_is _ _ _ _ rfl, Kept.refl _ _, fun _ _ _ _ _ => trivial⟩
    | 53, ho, hsk =>
      obtain rfl := Option.some.inj ho
      have e0 : a'.eval (.tmp 58) = .slice uo m uc := is_tq (hin 52 58 (by kernel_rfl) (by kernel_rfl)) rfl
      exact o_len33 (.tmp 58) rfl _ _ _ e0 ⟨_, rfl, tq_is _ _ _ _ rfl, Kept.refl _ _, fun _ _ _ _ _ => trivial⟩
    | 54, ho, hsk =>
      obtain rfl := Option.some.inj ho
      have e0 : a'.eval (.tmp 59) = .int .i64 m := is_tq (hin 53 59 (by kernel_rfl) (by kernel_rfl)) rfl
      exact o_gtr3 (.tmp 59) 256 rfl _ true (unhide H8) e0 ⟨_, rfl, tq_is _ _ _ _ rfl, Kept.refl _ _, fun _ _ _ _ _ => trivial⟩
    | 55, ho, hsk =>
      obtain rfl := Option.some.inj ho
      have e0 : a'.eval (.tmp 56) = .bool false := is_tq (hin 50 56 (by kernel_rfl) (by kernel_rfl)) rfl
      have e1 : a'.eval (.tmp 60) = .bool true := is_tq (hin 54 60 (by kernel_rfl) (by kernel_rfl)) rfl
      exact o_pickOr0 (.tmp 56) (.tmp 60) rfl _ e0 e1 ⟨_, rfl, tq_is _ _ _ _ rfl, Kept.refl _ _, fun _ _ _ _ _ => trivial⟩
    | 56, ho, hsk =>
      obtain rfl := Option.some.inj ho
      have e0 : a'.eval (.tmp 61) = .bool true := is_tq (hin 55 61 (by kernel_rfl) (by kernel_rfl)) rfl
      exact wp_move (.tmp 61) rfl _ e0 ⟨_, rfl, tq_is _ _ _ _ rfl, Kept.refl _ _, fun _ _ _ _ _ => trivial⟩
    | 57, ho, hsk =>
      cases hsk
    | 58, ho, hsk =>
      cases hsk
    | 59, ho, hsk =>
      cases hsk
    | 60, ho, hsk =>
      cases hsk
    | 61, ho, hsk =>
      cases hsk
    | 62, ho, hsk =>
      cases hsk
    | 63, ho, hsk =>
      cases hsk
    | 64, ho, hsk =>
      cases hsk
    | 65, ho, hsk =>
      cases hsk
    | 66, ho, hsk =>
      obtain rfl := Option.some.inj ho
      have e0 : a'.eval (.tmp 62) = .bool true := is_tq (hin 56 62 (by kernel_rfl) (by kernel_rfl)) rfl
      exact o_pickOrT (.tmp 62) (.tmp 71) rfl e0 ⟨_, rfl, tq_is _ _ _ _ rfl, Kept.refl _ _, fun _ _ _ _ _ => trivial⟩
  intro w9 hk9
  replace hk9 : Kept [] w1 w9 := ⟨hk9.os, hk9.tape, hk9.output, hk9.size, hk9.block⟩
  simp only [valsQ, List.map_cons, List.map_nil, Option.getD_some, Option.getD_none, List.take_succ_cons, List.take_zero, putAll, Act.put, List.setIfInBounds_toArray, List.set_cons_succ, List.set_cons_zero]
  refine wpAny_done (by kernel_rfl) ?_ _
  replace HK := hide ((unhide HK).trans hk9)
  clear hk9
  go_wp2_with fail
  go_ret2
  exact ⟨rfl, unhide HK⟩
set_option maxHeartbeats 2000000 in
theorem rno_9 (b : Nat) (v : Value) (ws : List Value) (P : Ps) (d : Dg) (uo : Option Addr) (m uc : Nat) (w : World) (h : Rx w b v ws P) (g1 : decide (d.fr = P.oth) = true) (g2 : decide (d.to = P.me) = true) (g3 : decide (d.vw = P.view) = true) (g4 : decide (d.seq < 0) = false) (g5 : decide (4611686018427387904 < d.seq) = false) (g6 : decide (d.ack < 0) = false) (g7 : decide ((ws.length : Int) < d.ack) = false) (g8 : decide ((256 : Int) < (m : Int)) = false) (g9 : decide ((0 : Int) < (m : Int)) = true) (hs0 : decide (d.seq = 0) = true) : Calls Try.prog 21 #[P0 b, aggV (d.C (.slice uo m uc))] w fun e w' => e = .returned (.tuple #[.slice none 0 0, .bool false]) ∧ Kept [] w w' := by
  obtain ⟨vo, vc, rfl, _, _⟩ := h.sl
  have HS := hide h
  have H1 := hide g1
  have H2 := hide g2
  have H3 := hide g3
  have H4 := hide g4
  have H5 := hide g5
  have H6 := hide g6
  have H7 := hide g7
  have H8 := hide g8
  have H9 := hide g9
  have HS0 := hide hs0
  clear hs0
  clear h g1 g2 g3 g4 g5 g6 g7 g8 g9
  go_enter Try.func21, Try.ntmps21
  go_wp2_with (
    first
    | (refine wpBoxV (by rfl) (.tmp 1) (by rfl) (d.C (.slice uo m uc)) (by kernel_rfl) ?_
       intro w1 z e1 B1 K1
       have HE : Hid (w.heap.size ≤ z) := by rw [e1]; exact (Nat.le_refl _ : w.heap.size ≤ w.heap.size)
       have HP := hide B1
       have HK := hide K1
       replace HS := hide ((unhide HS).kept0 K1)
       clear e1 B1 K1))
  have HH := hide (unhide HS).head
  simp only [List.append_eq, List.cons_append, List.nil_append]
  refine wp_region_any mixed (wpAny_tq 67 rfl (by kernel_rfl) [some (.pointer (some ⟨z, 0, none⟩)), some (.int .i64 d.fr), some (P0 b), some (P0 b), some (.pointer (some ⟨b, 1, none⟩)), some (.int .i64 P.oth), some (.bool false), some (.bool false), some (.pointer (some ⟨z, 1, none⟩)), some (.int .i64 d.to), some (P0 b), some (P0 b), some (.pointer (some ⟨b, 0, none⟩)), some (.int .i64 P.me), some (.bool false), some (.bool false), some (.bool false), some (.pointer (some ⟨z, 2, none⟩)), some (.int .i64 d.vw), some (P0 b), some (P0 b), some (.pointer (some ⟨b, 2, none⟩)), some (.int .i64 P.view), some (.bool false), some (.bool false), some (.bool false), some (.pointer (some ⟨z, 3, none⟩)), some (.int .i64 d.seq), some (.bool false), some (.bool false), some (.bool false), some (.pointer (some ⟨z, 3, none⟩)), some (.int .i64 d.seq), some (.bool false), some (.bool false), some (.bool false), some (.pointer (some ⟨z, 4, none⟩)), some (.int .i64 d.ack), some (.bool false), some (.bool false), some (.bool false), some (.pointer (some ⟨z, 4, none⟩)), some (.int .i64 d.ack), some (P0 b), some (P0 b), some (.pointer (some ⟨b, 3, none⟩)), some (.slice vo ws.length vc), some (.int .i64 ws.length), some (.bool false), some (.bool false), some (.bool false), some (.pointer (some ⟨z, 5, none⟩)), some (.slice uo m uc), some (.int .i64 m), some (.bool false), some (.bool false), some (.bool false), some (.pointer (some ⟨z, 3, none⟩)), some (.int .i64 d.seq), some (.bool true), some (.bool true), some (.pointer (some ⟨z, 5, none⟩)), some (.slice uo m uc), some (.int .i64 m), some (.bool true), some (.bool true), some (.bool true)] rfl (by kernel_rfl) (by kernel_rfl) ?_ ?_)
  · intro i o' hi hsk ho a' w2 hout hin hk2
    replace hk2 : Kept [] w1 w2 := ⟨hk2.os, hk2.tape, hk2.output, hk2.size, hk2.block⟩
    match i, ho, hsk with
    | 0, ho, hsk =>
      obtain rfl := Option.some.inj ho
      exact o_fld35_0 (.tmp 3) rfl z ((hout 3 (by kernel_rfl)).trans rfl) ⟨_, rfl, tq_is _ _ _ _ rfl, Kept.refl _ _, fun _ _ _ _ _ => trivial⟩
    | 1, ho, hsk =>
      obtain rfl := Option.some.inj ho
      have e0 : a'.eval (.tmp 6) = .pointer (some ⟨z, 0, none⟩) := is_tq (hin 0 6 (by kernel_rfl) (by kernel_rfl)) rfl
      exact o_load3 (.tmp 6) rfl _ _ e0 (fits_cell ((unhide HP).kept hk2 (by simp)) 0 _ rfl) ⟨_, rfl, tq_is _ _ _ _ rfl, Kept.refl _ _, fun _ _ _ _ _ => trivial⟩
    | 2, ho, hsk =>
      obtain rfl := Option.some.inj ho
      exact wp_move (.tmp 0) rfl _ ((hout 0 (by kernel_rfl)).trans rfl) ⟨_, rfl, tq_is _ _ _ _ rfl, Kept.refl _ _, fun _ _ _ _ _ => trivial⟩
    | 3, ho, hsk =>
      obtain rfl := Option.some.inj ho
      have e0 : a'.eval (.tmp 8) = P0 b := is_tq (hin 2 8 (by kernel_rfl) (by kernel_rfl)) rfl
      exact o_nil (.tmp 8) rfl _ e0 ⟨_, rfl, tq_is _ _ _ _ rfl, Kept.refl _ _, fun _ _ _ _ _ => trivial⟩
    | 4, ho, hsk =>
      obtain rfl := Option.some.inj ho
      have e0 : a'.eval (.tmp 9) = P0 b := is_tq (hin 3 9 (by kernel_rfl) (by kernel_rfl)) rfl
      exact o_fld32_1 (.tmp 9) rfl b e0 ⟨_, rfl, tq_is _ _ _ _ rfl, Kept.refl _ _, fun _ _ _ _ _ => trivial⟩
    | 5, ho, hsk =>
      obtain rfl := Option.some.inj ho
      have e0 : a'.eval (.tmp 10) = .pointer (some ⟨b, 1, none⟩) := is_tq (hin 4 10 (by kernel_rfl) (by kernel_rfl)) rfl
      exact o_load3 (.tmp 10) rfl _ _ e0 (fits_cell ((unhide HH).kept hk2 (by simp)) 1 _ rfl) ⟨_, rfl, tq_is _ _ _ _ rfl, Kept.refl _ _, fun _ _ _ _ _ => trivial⟩
    | 6, ho, hsk =>
      obtain rfl := Option.some.inj ho
      have e0 : a'.eval (.tmp 7) = .int .i64 d.fr := is_tq (hin 1 7 (by kernel_rfl) (by kernel_rfl)) rfl
      have e1 : a'.eval (.tmp 11) = .int .i64 P.oth := is_tq (hin 5 11 (by kernel_rfl) (by kernel_rfl)) rfl
      exact o_neqT3 (.tmp 7) (.tmp 11) rfl _ _ true (unhide H1) e0 e1 ⟨_, rfl, tq_is _ _ _ _ rfl, Kept.refl _ _, fun _ _ _ _ _ => trivial⟩
    | 7, ho, hsk =>
      obtain rfl := Option.some.inj ho
      have e0 : a'.eval (.tmp 12) = .bool false := is_tq (hin 6 12 (by kernel_rfl) (by kernel_rfl)) rfl
      exact wp_move (.tmp 12) rfl _ e0 ⟨_, rfl, tq_is _ _ _ _ rfl, Kept.refl _ _, fun _ _ _ _ _ => trivial⟩
    | 8, ho, hsk =>
      obtain rfl := Option.some.inj ho
      exact o_fld35_1 (.tmp 3) rfl z ((hout 3 (by kernel_rfl)).trans rfl) ⟨_, rfl, tq_is _ _ _ _ rfl, Kept.refl _ _, fun _ _ _ _ _ => trivial⟩
    | 9, ho, hsk =>
      obtain rfl := Option.some.inj ho
      have e0 : a'.eval (.tmp 14) = .pointer (some ⟨z, 1, none⟩) := is_tq (hin 8 14 (by kernel_rfl) (by kernel_rfl)) rfl
      exact o_load3 (.tmp 14) rfl _ _ e0 (fits_cell ((unhide HP).kept hk2 (by simp)) 1 _ rfl) ⟨_, rfl, tq_is _ _ _ _ rfl, Kept.refl _ _, fun _ _ _ _ _ => trivial⟩
    | 10, ho, hsk =>
      obtain rfl := Option.some.inj ho
      exact wp_move (.tmp 0) rfl _ ((hout 0 (by kernel_rfl)).trans rfl) ⟨_, rfl, tq_is _ _ _ _ rfl, Kept.refl _ _, fun _ _ _ _ _ => trivial⟩
    | 11, ho, hsk =>
      obtain rfl := Option.some.inj ho
      have e0 : a'.eval (.tmp 16) = P0 b := is_tq (hin 10 16 (by kernel_rfl) (by kernel_rfl)) rfl
      exact o_nil (.tmp 16) rfl _ e0 ⟨_, rfl, tq_is _ _ _ _ rfl, Kept.refl _ _, fun _ _ _ _ _ => trivial⟩
    | 12, ho, hsk =>
      obtain rfl := Option.some.inj ho
      have e0 : a'.eval (.tmp 17) = P0 b := is_tq (hin 11 17 (by kernel_rfl) (by kernel_rfl)) rfl
      exact o_fld32_0 (.tmp 17) rfl b e0 ⟨_, rfl, tq_is _ _ _ _ rfl, Kept.refl _ _, fun _ _ _ _ _ => trivial⟩
    | 13, ho, hsk =>
      obtain rfl := Option.some.inj ho
      have e0 : a'.eval (.tmp 18) = .pointer (some ⟨b, 0, none⟩) := is_tq (hin 12 18 (by kernel_rfl) (by kernel_rfl)) rfl
      exact o_load3 (.tmp 18) rfl _ _ e0 (fits_cell ((unhide HH).kept hk2 (by simp)) 0 _ rfl) ⟨_, rfl, tq_is _ _ _ _ rfl, Kept.refl _ _, fun _ _ _ _ _ => trivial⟩
    | 14, ho, hsk =>
      obtain rfl := Option.some.inj ho
      have e0 : a'.eval (.tmp 15) = .int .i64 d.to := is_tq (hin 9 15 (by kernel_rfl) (by kernel_rfl)) rfl
      have e1 : a'.eval (.tmp 19) = .int .i64 P.me := is_tq (hin 13 19 (by kernel_rfl) (by kernel_rfl)) rfl
      exact o_neqT3 (.tmp 15) (.tmp 19) rfl _ _ true (unhide H2) e0 e1 ⟨_, rfl, tq_is _ _ _ _ rfl, Kept.refl _ _, fun _ _ _ _ _ => trivial⟩
    | 15, ho, hsk =>
      obtain rfl := Option.some.inj ho
      have e0 : a'.eval (.tmp 13) = .bool false := is_tq (hin 7 13 (by kernel_rfl) (by kernel_rfl)) rfl
      have e1 : a'.eval (.tmp 20) = .bool false := is_tq (hin 14 20 (by kernel_rfl) (by kernel_rfl)) rfl
      exact o_pickOr0 (.tmp 13) (.tmp 20) rfl _ e0 e1 ⟨_, rfl, tq_is _ _ _ _ rfl, Kept.refl _ _, fun _ _ _ _ _ => trivial⟩
    | 16, ho, hsk =>
      obtain rfl := Option.some.inj ho
      have e0 : a'.eval (.tmp 21) = .bool false := is_tq (hin 15 21 (by kernel_rfl) (by kernel_rfl)) rfl
      exact wp_move (.tmp 21) rfl _ e0 ⟨_, rfl, tq_is _ _ _ _ rfl, Kept.refl _ _, fun _ _ _ _ _ => trivial⟩
    | 17, ho, hsk =>
      obtain rfl := Option.some.inj ho
      exact o_fld35_2 (.tmp 3) rfl z ((hout 3 (by kernel_rfl)).trans rfl) ⟨_, rfl, tq_is _ _ _ _ rfl, Kept.refl _ _, fun _ _ _ _ _ => trivial⟩
    | 18, ho, hsk =>
      obtain rfl := Option.some.inj ho
      have e0 : a'.eval (.tmp 23) = .pointer (some ⟨z, 2, none⟩) := is_tq (hin 17 23 (by kernel_rfl) (by kernel_rfl)) rfl
      exact o_load2 (.tmp 23) rfl _ _ e0 (fits_cell ((unhide HP).kept hk2 (by simp)) 2 _ rfl) ⟨_, rfl, tq_is _ _ _ _ rfl, Kept.refl _ _, fun _ _ _ _ _ => trivial⟩
    | 19, ho, hsk =>
      obtain rfl := Option.some.inj ho
      exact wp_move (.tmp 0) rfl _ ((hout 0 (by kernel_rfl)).trans rfl) ⟨_, rfl, tq_is _ _ _ _ rfl, Kept.refl _ _, fun _ _ _ _ _ => trivial⟩
    | 20, ho, hsk =>
      obtain rfl := Option.some.inj ho
      have e0 : a'.eval (.tmp 25) = P0 b := is_tq (hin 19 25 (by kernel_rfl) (by kernel_rfl)) rfl
      exact o_nil (.tmp 25) rfl _ e0 ⟨_, rfl, tq_is _ _ _ _ rfl, Kept.refl _ _, fun _ _ _ _ _ => trivial⟩
    | 21, ho, hsk =>
      obtain rfl := Option.some.inj ho
      have e0 : a'.eval (.tmp 26) = P0 b := is_tq (hin 20 26 (by kernel_rfl) (by kernel_rfl)) rfl
      exact o_fld32_2 (.tmp 26) rfl b e0 ⟨_, rfl, tq_is _ _ _ _ rfl, Kept.refl _ _, fun _ _ _ _ _ => trivial⟩
    | 22, ho, hsk =>
      obtain rfl := Option.some.inj ho
      have e0 : a'.eval (.tmp 27) = .pointer (some ⟨b, 2, none⟩) := is_tq (hin 21 27 (by kernel_rfl) (by kernel_rfl)) rfl
      exact o_load2 (.tmp 27) rfl _ _ e0 (fits_cell ((unhide HH).kept hk2 (by simp)) 2 _ rfl) ⟨_, rfl, tq_is _ _ _ _ rfl, Kept.refl _ _, fun _ _ _ _ _ => trivial⟩
    | 23, ho, hsk =>
      obtain rfl := Option.some.inj ho
      have e0 : a'.eval (.tmp 24) = .int .i64 d.vw := is_tq (hin 18 24 (by kernel_rfl) (by kernel_rfl)) rfl
      have e1 : a'.eval (.tmp 28) = .int .i64 P.view := is_tq (hin 22 28 (by kernel_rfl) (by kernel_rfl)) rfl
      exact o_neqT2 (.tmp 24) (.tmp 28) rfl _ _ true (unhide H3) e0 e1 ⟨_, rfl, tq_is _ _ _ _ rfl, Kept.refl _ _, fun _ _ _ _ _ => trivial⟩
    | 24, ho, hsk =>
      obtain rfl := Option.some.inj ho
      have e0 : a'.eval (.tmp 22) = .bool false := is_tq (hin 16 22 (by kernel_rfl) (by kernel_rfl)) rfl
      have e1 : a'.eval (.tmp 29) = .bool false := is_tq (hin 23 29 (by kernel_rfl) (by kernel_rfl)) rfl
      exact o_pickOr0 (.tmp 22) (.tmp 29) rfl _ e0 e1 ⟨_, rfl, tq_is _ _ _ _ rfl, Kept.refl _ _, fun _ _ _ _ _ => trivial⟩
    | 25, ho, hsk =>
      obtain rfl := Option.some.inj ho
      have e0 : a'.eval (.tmp 30) = .bool false := is_tq (hin 24 30 (by kernel_rfl) (by kernel_rfl)) rfl
      exact wp_move (.tmp 30) rfl _ e0 ⟨_, rfl, tq_is _ _ _ _ rfl, Kept.refl _ _, fun _ _ _ _ _ => trivial⟩
    | 26, ho, hsk =>
      obtain rfl := Option.some.inj ho
      exact o_fld35_3 (.tmp 3) rfl z ((hout 3 (by kernel_rfl)).trans rfl) ⟨_, rfl, tq_is _ _ _ _ rfl, Kept.refl _ _, fun _ _ _ _ _ => trivial⟩
    | 27, ho, hsk =>
      obtain rfl := Option.some.inj ho
      have e0 : a'.eval (.tmp 32) = .pointer (some ⟨z, 3, none⟩) := is_tq (hin 26 32 (by kernel_rfl) (by kernel_rfl)) rfl
      exact o_load2 (.tmp 32) rfl _ _ e0 (fits_cell ((unhide HP).kept hk2 (by simp)) 3 _ rfl) ⟨_, rfl, tq_is _ _ _ _ rfl, Kept.refl _ _, fun _ _ _ _ _ => trivial⟩
    | 28, ho, hsk =>
      obtain rfl := Option.some.inj ho
      have e0 : a'.eval (.tmp 33) = .int .i64 d.seq := is_tq (hin 27 33 (by kernel_rfl) (by kernel_rfl)) rfl
      exact o_lss2c (.tmp 33) 0 rfl _ false (unhide H4) e0 ⟨_, rfl, tq_is _ _ _ _ rfl, Kept.refl _ _, fun _ _ _ _ _ => trivial⟩
    | 29, ho, hsk =>
      obtain rfl := Option.some.inj ho
      have e0 : a'.eval (.tmp 31) = .bool false := is_tq (hin 25 31 (by kernel_rfl) (by kernel_rfl)) rfl
      have e1 : a'.eval (.tmp 34) = .bool false := is_tq (hin 28 34 (by kernel_rfl) (by kernel_rfl)) rfl
      exact o_pickOr0 (.tmp 31) (.tmp 34) rfl _ e0 e1 ⟨_, rfl, tq_is _ _ _ _ rfl, Kept.refl _ _, fun _ _ _ _ _ => trivial⟩
    | 30, ho, hsk =>
      obtain rfl := Option.some.inj ho
      have e0 : a'.eval (.tmp 35) = .bool false := is_tq (hin 29 35 (by kernel_rfl) (by kernel_rfl)) rfl
      exact wp_move (.tmp 35) rfl _ e0 ⟨_, rfl, tq_is _ _ _ _ rfl, Kept.refl _ _, fun _ _ _ _ _ => trivial⟩
    | 31, ho, hsk =>
      obtain rfl := Option.some.inj ho
      exact o_fld35_3 (.tmp 3) rfl z ((hout 3 (by kernel_rfl)).trans rfl) ⟨_, rfl, tq_is _ _ _ _ rfl, Kept.refl _ _, fun _ _ _ _ _ => trivial⟩
    | 32, ho, hsk =>
      obtain rfl := Option.some.inj ho
      have e0 : a'.eval (.tmp 37) = .pointer (some ⟨z, 3, none⟩) := is_tq (hin 31 37 (by kernel_rfl) (by kernel_rfl)) rfl
      exact o_load2 (.tmp 37) rfl _ _ e0 (fits_cell ((unhide HP).kept hk2 (by simp)) 3 _ rfl) ⟨_, rfl, tq_is _ _ _ _ rfl, Kept.refl _ _, fun _ _ _ _ _ => trivial⟩
    | 33, ho, hsk =>
      obtain rfl := Option.some.inj ho
      have e0 : a'.eval (.tmp 38) = .int .i64 d.seq := is_tq (hin 32 38 (by kernel_rfl) (by kernel_rfl)) rfl
      exact o_gtr2c (.tmp 38) 4611686018427387904 rfl _ false (unhide H5) e0 ⟨_, rfl, tq_is _ _ _ _ rfl, Kept.refl _ _, fun _ _ _ _ _ => trivial⟩
    | 34, ho, hsk =>
      obtain rfl := Option.some.inj ho
      have e0 : a'.eval (.tmp 36) = .bool false := is_tq (hin 30 36 (by kernel_rfl) (by kernel_rfl)) rfl
      have e1 : a'.eval (.tmp 39) = .bool false := is_tq (hin 33 39 (by kernel_rfl) (by kernel_rfl)) rfl
      exact o_pickOr0 (.tmp 36) (.tmp 39) rfl _ e0 e1 ⟨_, rfl, tq_is _ _ _ _ rfl, Kept.refl _ _, fun _ _ _ _ _ => trivial⟩
    | 35, ho, hsk =>
      obtain rfl := Option.some.inj ho
      have e0 : a'.eval (.tmp 40) = .bool false := is_tq (hin 34 40 (by kernel_rfl) (by kernel_rfl)) rfl
      exact wp_move (.tmp 40) rfl _ e0 ⟨_, rfl, tq_is _ _ _ _ rfl, Kept.refl _ _, fun _ _ _ _ _ => trivial⟩
    | 36, ho, hsk =>
      obtain rfl := Option.some.inj ho
      exact o_fld35_4 (.tmp 3) rfl z ((hout 3 (by kernel_rfl)).trans rfl) ⟨_, rfl, tq_is _ _ _ _ rfl, Kept.refl _ _, fun _ _ _ _ _ => trivial⟩
    | 37, ho, hsk =>
      obtain rfl := Option.some.inj ho
      have e0 : a'.eval (.tmp 42) = .pointer (some ⟨z, 4, none⟩) := is_tq (hin 36 42 (by kernel_rfl) (by kernel_rfl)) rfl
      exact o_load2 (.tmp 42) rfl _ _ e0 (fits_cell ((unhide HP).kept hk2 (by simp)) 4 _ rfl) ⟨_, rfl, tq_is _ _ _ _ rfl, Kept.refl _ _, fun _ _ _ _ _ => trivial⟩
    | 38, ho, hsk =>
      obtain rfl := Option.some.inj ho
      have e0 : a'.eval (.tmp 43) = .int .i64 d.ack := is_tq (hin 37 43 (by kernel_rfl) (by kernel_rfl)) rfl
      exact o_lss2c (.tmp 43) 0 rfl _ false (unhide H6) e0 ⟨_, rfl, tq_is _ _ _ _ rfl, Kept.refl _ _, fun _ _ _ _ _ => trivial⟩
    | 39, ho, hsk =>
      obtain rfl := Option.some.inj ho
      have e0 : a'.eval (.tmp 41) = .bool false := is_tq (hin 35 41 (by kernel_rfl) (by kernel_rfl)) rfl
      have e1 : a'.eval (.tmp 44) = .bool false := is_tq (hin 38 44 (by kernel_rfl) (by kernel_rfl)) rfl
      exact o_pickOr0 (.tmp 41) (.tmp 44) rfl _ e0 e1 ⟨_, rfl, tq_is _ _ _ _ rfl, Kept.refl _ _, fun _ _ _ _ _ => trivial⟩
    | 40, ho, hsk =>
      obtain rfl := Option.some.inj ho
      have e0 : a'.eval (.tmp 45) = .bool false := is_tq (hin 39 45 (by kernel_rfl) (by kernel_rfl)) rfl
      exact wp_move (.tmp 45) rfl _ e0 ⟨_, rfl, tq_is _ _ _ _ rfl, Kept.refl _ _, fun _ _ _ _ _ => trivial⟩
    | 41, ho, hsk =>
      obtain rfl := Option.some.inj ho
      exact o_fld35_4 (.tmp 3) rfl z ((hout 3 (by kernel_rfl)).trans rfl) ⟨_, rfl, tq_is _ _ _ _ rfl, Kept.refl _ _, fun _ _ _ _ _ => trivial⟩
    | 42, ho, hsk =>
      obtain rfl := Option.some.inj ho
      have e0 : a'.eval (.tmp 47) = .pointer (some ⟨z, 4, none⟩) := is_tq (hin 41 47 (by kernel_rfl) (by kernel_rfl)) rfl
      exact o_load2 (.tmp 47) rfl _ _ e0 (fits_cell ((unhide HP).kept hk2 (by simp)) 4 _ rfl) ⟨_, rfl, tq_is _ _ _ _ rfl, Kept.refl _ _, fun _ _ _ _ _ => trivial⟩
    | 43, ho, hsk =>
      obtain rfl := Option.some.inj ho
      exact wp_move (.tmp 0) rfl _ ((hout 0 (by kernel_rfl)).trans rfl) ⟨_, rfl, tq_is _ _ _ _ rfl, Kept.refl _ _, fun _ _ _ _ _ => trivial⟩
    | 44, ho, hsk =>
      obtain rfl := Option.some.inj ho
      have e0 : a'.eval (.tmp 49) = P0 b := is_tq (hin 43 49 (by kernel_rfl) (by kernel_rfl)) rfl
      exact o_nil (.tmp 49) rfl _ e0 ⟨_, rfl, tq_is _ _ _ _ rfl, Kept.refl _ _, fun _ _ _ _ _ => trivial⟩
    | 45, ho, hsk =>
      obtain rfl := Option.some.inj ho
      have e0 : a'.eval (.tmp 50) = P0 b := is_tq (hin 44 50 (by kernel_rfl) (by kernel_rfl)) rfl
      exact o_fld32_3 (.tmp 50) rfl b e0 ⟨_, rfl, tq_is _ _ _ _ rfl, Kept.refl _ _, fun _ _ _ _ _ => trivial⟩
    | 46, ho, hsk =>
      obtain rfl := Option.some.inj ho
      have e0 : a'.eval (.tmp 51) = .pointer (some ⟨b, 3, none⟩) := is_tq (hin 45 51 (by kernel_rfl) (by kernel_rfl)) rfl
      exact o_load30 (.tmp 51) rfl _ _ e0 (fits_cell ((unhide HH).kept hk2 (by simp)) 3 _ rfl) ⟨_, rfl, tq_is _ _ _ _ rfl, Kept.refl _ _, fun _ _ _ _ _ => trivial⟩
    | 47, ho, hsk =>
      obtain rfl := Option.some.inj ho
      have e0 : a'.eval (.tmp 52) = .slice vo ws.length vc := is_tq (hin 46 52 (by kernel_rfl) (by kernel_rfl)) rfl
      exact o_len30 (.tmp 52) rfl _ _ _ e0 ⟨_, rfl, tq_is _ _ _ _ rfl, Kept.refl _ _, fun _ _ _ _ _ => trivial⟩
    | 48, ho, hsk =>
      obtain rfl := Option.some.inj ho
      have e0 : a'.eval (.tmp 48) = .int .i64 d.ack := is_tq (hin 42 48 (by kernel_rfl) (by kernel_rfl)) rfl
      have e1 : a'.eval (.tmp 53) = .int .i64 ws.length := is_tq (hin 47 53 (by kernel_rfl) (by kernel_rfl)) rfl
      exact o_gtrT2 (.tmp 48) (.tmp 53) rfl _ _ false (unhide H7) e0 e1 ⟨_, rfl, tq_is _ _ _ _ rfl, Kept.refl _ _, fun _ _ _ _ _ => trivial⟩
    | 49, ho, hsk =>
      obtain rfl := Option.some.inj ho
      have e0 : a'.eval (.tmp 46) = .bool false := is_tq (hin 40 46 (by kernel_rfl) (by kernel_rfl)) rfl
      have e1 : a'.eval (.tmp 54) = .bool false := is_tq (hin 48 54 (by kernel_rfl) (by kernel_rfl)) rfl
      exact o_pickOr0 (.tmp 46) (.tmp 54) rfl _ e0 e1 ⟨_, rfl, tq_is _ _ _ _ rfl, Kept.refl _ _, fun _ _ _ _ _ => trivial⟩
    | 50, ho, hsk =>
      obtain rfl := Option.some.inj ho
      have e0 : a'.eval (.tmp 55) = .bool false := is_tq (hin 49 55 (by kernel_rfl) (by kernel_rfl)) rfl
      exact wp_move (.tmp 55) rfl _ e0 ⟨_, rfl, tq_is _ _ _ _ rfl, Kept.refl _ _, fun _ _ _ _ _ => trivial⟩
    | 51, ho, hsk =>
      obtain rfl := Option.some.inj ho
      exact o_fld35_5 (.tmp 3) rfl z ((hout 3 (by kernel_rfl)).trans rfl) ⟨_, rfl, tq_is _ _ _ _ rfl, Kept.refl _ _, fun _ _ _ _ _ => trivial⟩
    | 52, ho, hsk =>
      obtain rfl := Option.some.inj ho
      have e0 : a'.eval (.tmp 57) = .pointer (some ⟨z, 5, none⟩) := is_tq (hin 51 57 (by kernel_rfl) (by kernel_rfl)) rfl
      exact o_load33 (.tmp 57) rfl _ _ e0 (fits_cell ((unhide HP).kept hk2 (by simp)) 5 _ rfl) ⟨_, rfl, tq_is _ _ _ _ rfl, Kept.refl _ _, fun _ _ _ _ _ => trivial⟩
    | 53, ho, hsk =>
      obtain rfl := Option.some.inj ho
      have e0 : a'.eval (.tmp 58) = .slice uo m uc := is_tq (hin 52 58 (by kernel_rfl) (by kernel_rfl)) rfl
      exact o_len33 (.tmp 58) rfl _ _ _ e0 ⟨_, rfl, tq_is _ _ _ _ rfl, Kept.refl _ _, fun _ _ _ _ _ => trivial⟩
    | 54, ho, hsk =>
      obtain rfl := Option.some.inj ho
      have e0 : a'.eval (.tmp 59) = .int .i64 m := is_tq (hin 53 59 (by kernel_rfl) (by kernel_rfl)) rfl
      exact o_gtr3 (.tmp 59) 256 rfl _ false (unhide H8) e0 ⟨_, rfl, tq_is _ _ _ _ rfl, Kept.refl _ _, fun _ _ _ _ _ => trivial⟩
    | 55, ho, hsk =>
      obtain rfl := Option.some.inj ho
      have e0 : a'.eval (.tmp 56) = .bool false := is_tq (hin 50 56 (by kernel_rfl) (by kernel_rfl)) rfl
      have e1 : a'.eval (.tmp 60) = .bool false := is_tq (hin 54 60 (by kernel_rfl) (by kernel_rfl)) rfl
      exact o_pickOr0 (.tmp 56) (.tmp 60) rfl _ e0 e1 ⟨_, rfl, tq_is _ _ _ _ rfl, Kept.refl _ _, fun _ _ _ _ _ => trivial⟩
    | 56, ho, hsk =>
      obtain rfl := Option.some.inj ho
      have e0 : a'.eval (.tmp 61) = .bool false := is_tq (hin 55 61 (by kernel_rfl) (by kernel_rfl)) rfl
      exact wp_move (.tmp 61) rfl _ e0 ⟨_, rfl, tq_is _ _ _ _ rfl, Kept.refl _ _, fun _ _ _ _ _ => trivial⟩
    | 57, ho, hsk =>
      obtain rfl := Option.some.inj ho
      exact o_fld35_3 (.tmp 3) rfl z ((hout 3 (by kernel_rfl)).trans rfl) ⟨_, rfl, tq_is _ _ _ _ rfl, Kept.refl _ _, fun _ _ _ _ _ => trivial⟩
    | 58, ho, hsk =>
      obtain rfl := Option.some.inj ho
      have e0 : a'.eval (.tmp 63) = .pointer (some ⟨z, 3, none⟩) := is_tq (hin 57 63 (by kernel_rfl) (by kernel_rfl)) rfl
      exact o_load2 (.tmp 63) rfl _ _ e0 (fits_cell ((unhide HP).kept hk2 (by simp)) 3 _ rfl) ⟨_, rfl, tq_is _ _ _ _ rfl, Kept.refl _ _, fun _ _ _ _ _ => trivial⟩
    | 59, ho, hsk =>
      obtain rfl := Option.some.inj ho
      have e0 : a'.eval (.tmp 64) = .int .i64 d.seq := is_tq (hin 58 64 (by kernel_rfl) (by kernel_rfl)) rfl
      exact o_eql2c (.tmp 64) 0 rfl _ true (unhide HS0) e0 ⟨_, rfl, tq_is _ _ _ _ rfl, Kept.refl _ _, fun _ _ _ _ _ => trivial⟩
    | 60, ho, hsk =>
      obtain rfl := Option.some.inj ho
      have e0 : a'.eval (.tmp 65) = .bool true := is_tq (hin 59 65 (by kernel_rfl) (by kernel_rfl)) rfl
      exact wp_move (.tmp 65) rfl _ e0 ⟨_, rfl, tq_is _ _ _ _ rfl, Kept.refl _ _, fun _ _ _ _ _ => trivial⟩
    | 61, ho, hsk =>
      obtain rfl := Option.some.inj ho
      exact o_fld35_5 (.tmp 3) rfl z ((hout 3 (by kernel_rfl)).trans rfl) ⟨_, rfl, tq_is _ _ _ _ rfl, Kept.refl _ _, fun _ _ _ _ _ => trivial⟩
    | 62, ho, hsk =>
      obtain rfl := Option.some.inj ho
      have e0 : a'.eval (.tmp 67) = .pointer (some ⟨z, 5, none⟩) := is_tq (hin 61 67 (by kernel_rfl) (by kernel_rfl)) rfl
      exact o_load33 (.tmp 67) rfl _ _ e0 (fits_cell ((unhide HP).kept hk2 (by simp)) 5 _ rfl) ⟨_, rfl, tq_is _ _ _ _ rfl, Kept.refl _ _, fun _ _ _ _ _ => trivial⟩
    | 63, ho, hsk =>
      obtain rfl := Option.some.inj ho
      have e0 : a'.eval (.tmp 68) = .slice uo m uc := is_tq (hin 62 68 (by kernel_rfl) (by kernel_rfl)) rfl
      exact o_len33 (.tmp 68) rfl _ _ _ e0 ⟨_, rfl, tq_is _ _ _ _ rfl, Kept.refl _ _, fun _ _ _ _ _ => trivial⟩
    | 64, ho, hsk =>
      obtain rfl := Option.some.inj ho
      have e0 : a'.eval (.tmp 69) = .int .i64 m := is_tq (hin 63 69 (by kernel_rfl) (by kernel_rfl)) rfl
      exact o_gtr3 (.tmp 69) 0 rfl _ true (unhide H9) e0 ⟨_, rfl, tq_is _ _ _ _ rfl, Kept.refl _ _, fun _ _ _ _ _ => trivial⟩
    | 65, ho, hsk =>
      obtain rfl := Option.some.inj ho
      have e0 : a'.eval (.tmp 66) = .bool true := is_tq (hin 60 66 (by kernel_rfl) (by kernel_rfl)) rfl
      have e1 : a'.eval (.tmp 70) = .bool true := is_tq (hin 64 70 (by kernel_rfl) (by kernel_rfl)) rfl
      exact o_pick (.tmp 66) (.tmp 70) rfl _ e0 e1 ⟨_, rfl, tq_is _ _ _ _ rfl, Kept.refl _ _, fun _ _ _ _ _ => trivial⟩
    | 66, ho, hsk =>
      obtain rfl := Option.some.inj ho
      have e0 : a'.eval (.tmp 62) = .bool false := is_tq (hin 56 62 (by kernel_rfl) (by kernel_rfl)) rfl
      have e1 : a'.eval (.tmp 71) = .bool true := is_tq (hin 65 71 (by kernel_rfl) (by kernel_rfl)) rfl
      exact o_pickOr0 (.tmp 62) (.tmp 71) rfl _ e0 e1 ⟨_, rfl, tq_is _ _ _ _ rfl, Kept.refl _ _, fun _ _ _ _ _ => trivial⟩
  intro w9 hk9
  replace hk9 : Kept [] w1 w9 := ⟨hk9.os, hk9.tape, hk9.output, hk9.size, hk9.block⟩
  simp only [valsQ, List.map_cons, List.map_nil, Option.getD_some, List.take_succ_cons, List.take_zero, putAll, Act.put, List.setIfInBounds_toArray, List.set_cons_succ, List.set_cons_zero]
  refine wpAny_done (by kernel_rfl) ?_ _
  replace HK := hide ((unhide HK).trans hk9)
  clear hk9
  go_wp2_with fail
  go_ret2
  exact ⟨rfl, unhide HK⟩
set_option maxHeartbeats 2000000 in
theorem rcome_0 (b : Nat) (v : Value) (ws : List Value) (P : Ps) (d : Dg) (uo : Option Addr) (m uc : Nat) (w : World) (h : Rx w b v ws P) (hm : d.bs.length = m) (hno : P.no d = false) (h0 : d.seq = 0) : Calls Try.prog 21 #[P0 b, aggV (d.C (.slice uo m uc))] w fun e w' => CRr w b v ws P d e w' := by
  obtain ⟨c1, c2, c3, c4, c5, c6, c7, c8⟩ := no_parts hno
  have hlen := h.len
  have g1 : decide (d.fr = P.oth) = true := by simpa using c1
  have g2 : decide (d.to = P.me) = true := by simpa using c2
  have g3 : decide (d.vw = P.view) = true := by simpa using c3
  have g4 : decide (d.seq < 0) = false := by simp; omega
  have g5 : decide (4611686018427387904 < d.seq) = false := by simp; omega
  have g6 : decide (d.ack < 0) = false := by simp; omega
  have g7 : decide ((ws.length : Int) < d.ack) = false := by simp; omega
  have g8 : decide ((256 : Int) < (m : Int)) = false := by simp; omega
  have g9 : decide ((0 : Int) < (m : Int)) = false := by have h9 := c7 h0; rw [h9] at hm; simp at hm; simp [← hm]
  obtain ⟨a, ha⟩ : ∃ a : Nat, d.ack = a := ⟨d.ack.toNat, by omega⟩
  have HAL : Hid (a ≤ P.sent.length) := (by omega : a ≤ P.sent.length)
  have HAN : d.ack.toNat = a := by omega
  have HMX : Hid (max (P.known : Int) d.ack = ((max P.known a : Nat) : Int)) := (by rw [ha]; omega : max (P.known : Int) d.ack = ((max P.known a : Nat) : Int))
  have HG := hide h.ok.got
  have HSQ : Hid (0 ≤ d.seq ∧ d.seq ≤ 4611686018427387904) := c4
  have hcm : P.come d = (P.forget a, none) := by rw [come_eq_0 hno h0, HAN]
  have hs0 : decide (d.seq = 0) = true := by simpa using h0
  have HC := hide hcm
  have HS0 := hide hs0
  have H1 := hide g1
  have H2 := hide g2
  have H3 := hide g3
  have H4 := hide g4
  have H5 := hide g5
  have H6 := hide g6
  have H7 := hide g7
  have H8 := hide g8
  have H9 := hide g9
  obtain ⟨vo, vc, rfl, _, _⟩ := h.sl
  have HS := hide h
  have HBW : Hid (b < w.heap.size) := h.lt.1
  clear h hno hcm hs0 c1 c2 c3 c4 c5 c6 c7 c8 hlen ha HAN hm g1 g2 g3 g4 g5 g6 g7 g8 g9
  go_enter Try.func21, Try.ntmps21
  go_wp2_with (
    first
    | (refine wpBoxV (by rfl) (.tmp 1) (by rfl) (d.C (.slice uo m uc)) (by kernel_rfl) ?_
       intro w1 z e1 B1 K1
       have HE : Hid (w.heap.size ≤ z) := by rw [e1]; exact (Nat.le_refl _ : w.heap.size ≤ w.heap.size)
       have HP := hide B1
       have HK := hide K1
       replace HS := hide ((unhide HS).kept0 K1)
       clear e1 B1 K1))
  have HH := hide (unhide HS).head
  simp only [List.append_eq, List.cons_append, List.nil_append]
  refine wp_region_any mixed (wpAny_tq 67 rfl (by kernel_rfl) [some (.pointer (some ⟨z, 0, none⟩)), some (.int .i64 d.fr), some (P0 b), some (P0 b), some (.pointer (some ⟨b, 1, none⟩)), some (.int .i64 P.oth), some (.bool false), some (.bool false), some (.pointer (some ⟨z, 1, none⟩)), some (.int .i64 d.to), some (P0 b), some (P0 b), some (.pointer (some ⟨b, 0, none⟩)), some (.int .i64 P.me), some (.bool false), some (.bool false), some (.bool false), some (.pointer (some ⟨z, 2, none⟩)), some (.int .i64 d.vw), some (P0 b), some (P0 b), some (.pointer (some ⟨b, 2, none⟩)), some (.int .i64 P.view), some (.bool false), some (.bool false), some (.bool false), some (.pointer (some ⟨z, 3, none⟩)), some (.int .i64 d.seq), some (.bool false), some (.bool false), some (.bool false), some (.pointer (some ⟨z, 3, none⟩)), some (.int .i64 d.seq), some (.bool false), some (.bool false), some (.bool false), some (.pointer (some ⟨z, 4, none⟩)), some (.int .i64 d.ack), some (.bool false), some (.bool false), some (.bool false), some (.pointer (some ⟨z, 4, none⟩)), some (.int .i64 d.ack), some (P0 b), some (P0 b), some (.pointer (some ⟨b, 3, none⟩)), some (.slice vo ws.length vc), some (.int .i64 ws.length), some (.bool false), some (.bool false), some (.bool false), some (.pointer (some ⟨z, 5, none⟩)), some (.slice uo m uc), some (.int .i64 m), some (.bool false), some (.bool false), some (.bool false), some (.pointer (some ⟨z, 3, none⟩)), some (.int .i64 d.seq), some (.bool true), some (.bool true), some (.pointer (some ⟨z, 5, none⟩)), some (.slice uo m uc), some (.int .i64 m), some (.bool false), some (.bool false), some (.bool false)] rfl (by kernel_rfl) (by kernel_rfl) ?_ ?_)
  · intro i o' hi hsk ho a' w2 hout hin hk2
    replace hk2 : Kept [] w1 w2 := ⟨hk2.os, hk2.tape, hk2.output, hk2.size, hk2.block⟩
    match i, ho, hsk with
    | 0, ho, hsk =>
      obtain rfl := Option.some.inj ho
      exact o_fld35_0 (.tmp 3) rfl z ((hout 3 (by kernel_rfl)).trans rfl) ⟨_, rfl, tq_is _ _ _ _ rfl, Kept.refl _ _, fun _ _ _ _ _ => trivial⟩
    | 1, ho, hsk =>
      obtain rfl := Option.some.inj ho
      have e0 : a'.eval (.tmp 6) = .pointer (some ⟨z, 0, none⟩) := is_tq (hin 0 6 (by kernel_rfl) (by kernel_rfl)) rfl
      exact o_load3 (.tmp 6) rfl _ _ e0 (fits_cell ((unhide HP).kept hk2 (by simp)) 0 _ rfl) ⟨_, rfl, tq_is _ _ _ _ rfl, Kept.refl _ _, fun _ _ _ _ _ => trivial⟩
    | 2, ho, hsk =>
      obtain rfl := Option.some.inj ho
      exact wp_move (.tmp 0) rfl _ ((hout 0 (by kernel_rfl)).trans rfl) ⟨_, rfl, tq_is _ _ _ _ rfl, Kept.refl _ _, fun _ _ _ _ _ => trivial⟩
    | 3, ho, hsk =>
      obtain rfl := Option.some.inj ho
      have e0 : a'.eval (.tmp 8) = P0 b := is_tq (hin 2 8 (by kernel_rfl) (by kernel_rfl)) rfl
      exact o_nil (.tmp 8) rfl _ e0 ⟨_, rfl, tq_is _ _ _ _ rfl, Kept.refl _ _, fun _ _ _ _ _ => trivial⟩
    | 4, ho, hsk =>
      obtain rfl := Option.some.inj ho
      have e0 : a'.eval (.tmp 9) = P0 b := is_tq (hin 3 9 (by kernel_rfl) (by kernel_rfl)) rfl
      exact o_fld32_1 (.tmp 9) rfl b e0 ⟨_, rfl, tq_is _ _ _ _ rfl, Kept.refl _ _, fun _ _ _ _ _ => trivial⟩
    | 5, ho, hsk =>
      obtain rfl := Option.some.inj ho
      have e0 : a'.eval (.tmp 10) = .pointer (some ⟨b, 1, none⟩) := is_tq (hin 4 10 (by kernel_rfl) (by kernel_rfl)) rfl
      exact o_load3 (.tmp 10) rfl _ _ e0 (fits_cell ((unhide HH).kept hk2 (by simp)) 1 _ rfl) ⟨_, rfl, tq_is _ _ _ _ rfl, Kept.refl _ _, fun _ _ _ _ _ => trivial⟩
    | 6, ho, hsk =>
      obtain rfl := Option.some.inj ho
      have e0 : a'.eval (.tmp 7) = .int .i64 d.fr := is_tq (hin 1 7 (by kernel_rfl) (by kernel_rfl)) rfl
      have e1 : a'.eval (.tmp 11) = .int .i64 P.oth := is_tq (hin 5 11 (by kernel_rfl) (by kernel_rfl)) rfl
      exact o_neqT3 (.tmp 7) (.tmp 11) rfl _ _ true (unhide H1) e0 e1 ⟨_, rfl, tq_is _ _ _ _ rfl, Kept.refl _ _, fun _ _ _ _ _ => trivial⟩
    | 7, ho, hsk =>
      obtain rfl := Option.some.inj ho
      have e0 : a'.eval (.tmp 12) = .bool false := is_tq (hin 6 12 (by kernel_rfl) (by kernel_rfl)) rfl
      exact wp_move (.tmp 12) rfl _ e0 ⟨_, rfl, tq_is _ _ _ _ rfl, Kept.refl _ _, fun _ _ _ _ _ => trivial⟩
    | 8, ho, hsk =>
      obtain rfl := Option.some.inj ho
      exact o_fld35_1 (.tmp 3) rfl z ((hout 3 (by kernel_rfl)).trans rfl) ⟨_, rfl, tq_is _ _ _ _ rfl, Kept.refl _ _, fun _ _ _ _ _ => trivial⟩
    | 9, ho, hsk =>
      obtain rfl := Option.some.inj ho
      have e0 : a'.eval (.tmp 14) = .pointer (some ⟨z, 1, none⟩) := is_tq (hin 8 14 (by kernel_rfl) (by kernel_rfl)) rfl
      exact o_load3 (.tmp 14) rfl _ _ e0 (fits_cell ((unhide HP).kept hk2 (by simp)) 1 _ rfl) ⟨_, rfl, tq_is _ _ _ _ rfl, Kept.refl _ _, fun _ _ _ _ _ => trivial⟩
    | 10, ho, hsk =>
      obtain rfl := Option.some.inj ho
      exact wp_move (.tmp 0) rfl _ ((hout 0 (by kernel_rfl)).trans rfl) ⟨_, rfl, tq_is _ _ _ _ rfl, Kept.refl _ _, fun _ _ _ _ _ => trivial⟩
    | 11, ho, hsk =>
      obtain rfl := Option.some.inj ho
      have e0 : a'.eval (.tmp 16) = P0 b := is_tq (hin 10 16 (by kernel_rfl) (by kernel_rfl)) rfl
      exact o_nil (.tmp 16) rfl _ e0 ⟨_, rfl, tq_is _ _ _ _ rfl, Kept.refl _ _, fun _ _ _ _ _ => trivial⟩
    | 12, ho, hsk =>
      obtain rfl := Option.some.inj ho
      have e0 : a'.eval (.tmp 17) = P0 b := is_tq (hin 11 17 (by kernel_rfl) (by kernel_rfl)) rfl
      exact o_fld32_0 (.tmp 17) rfl b e0 ⟨_, rfl, tq_is _ _ _ _ rfl, Kept.refl _ _, fun _ _ _ _ _ => trivial⟩
    | 13, ho, hsk =>
      obtain rfl := Option.some.inj ho
      have e0 : a'.eval (.tmp 18) = .pointer (some ⟨b, 0, none⟩) := is_tq (hin 12 18 (by kernel_rfl) (by kernel_rfl)) rfl
      exact o_load3 (.tmp 18) rfl _ _ e0 (fits_cell ((unhide HH).kept hk2 (by simp)) 0 _ rfl) ⟨_, rfl, tq_is _ _ _ _ rfl, Kept.refl _ _, fun _ _ _ _ _ => trivial⟩
    | 14, ho, hsk =>
      obtain rfl := Option.some.inj ho
      have e0 : a'.eval (.tmp 15) = .int .i64 d.to := is_tq (hin 9 15 (by kernel_rfl) (by kernel_rfl)) rfl
      have e1 : a'.eval (.tmp 19) = .int .i64 P.me := is_tq (hin 13 19 (by kernel_rfl) (by kernel_rfl)) rfl
      exact o_neqT3 (.tmp 15) (.tmp 19) rfl _ _ true (unhide H2) e0 e1 ⟨_, rfl, tq_is _ _ _ _ rfl, Kept.refl _ _, fun _ _ _ _ _ => trivial⟩
    | 15, ho, hsk =>
      obtain rfl := Option.some.inj ho
      have e0 : a'.eval (.tmp 13) = .bool false := is_tq (hin 7 13 (by kernel_rfl) (by kernel_rfl)) rfl
      have e1 : a'.eval (.tmp 20) = .bool false := is_tq (hin 14 20 (by kernel_rfl) (by kernel_rfl)) rfl
      exact o_pickOr0 (.tmp 13) (.tmp 20) rfl _ e0 e1 ⟨_, rfl, tq_is _ _ _ _ rfl, Kept.refl _ _, fun _ _ _ _ _ => trivial⟩
    | 16, ho, hsk =>
      obtain rfl := Option.some.inj ho
      have e0 : a'.eval (.tmp 21) = .bool false := is_tq (hin 15 21 (by kernel_rfl) (by kernel_rfl)) rfl
      exact wp_move (.tmp 21) rfl _ e0 ⟨_, rfl, tq_is _ _ _ _ rfl, Kept.refl _ _, fun _ _ _ _ _ => trivial⟩
    | 17, ho, hsk =>
      obtain rfl := Option.some.inj ho
      exact o_fld35_2 (.tmp 3) rfl z ((hout 3 (by kernel_rfl)).trans rfl) ⟨_, rfl, tq_is _ _ _ _ rfl, Kept.refl _ _, fun _ _ _ _ _ => trivial⟩
    | 18, ho, hsk =>
      obtain rfl := Option.some.inj ho
      have e0 : a'.eval (.tmp 23) = .pointer (some ⟨z, 2, none⟩) := is_tq (hin 17 23 (by kernel_rfl) (by kernel_rfl)) rfl
      exact o_load2 (.tmp 23) rfl _ _ e0 (fits_cell ((unhide HP).kept hk2 (by simp)) 2 _ rfl) ⟨_, rfl, tq_is _ _ _ _ rfl, Kept.refl _ _, fun _ _ _ _ _ => trivial⟩
    | 19, ho, hsk =>
      obtain rfl := Option.some.inj ho
      exact wp_move (.tmp 0) rfl _ ((hout 0 (by kernel_rfl)).trans rfl) ⟨_, rfl, tq_is _ _ _ _ rfl, Kept.refl _ _, fun _ _ _ _ _ => trivial⟩
    | 20, ho, hsk =>
      obtain rfl := Option.some.inj ho
      have e0 : a'.eval (.tmp 25) = P0 b := is_tq (hin 19 25 (by kernel_rfl) (by kernel_rfl)) rfl
      exact o_nil (.tmp 25) rfl _ e0 ⟨_, rfl, tq_is _ _ _ _ rfl, Kept.refl _ _, fun _ _ _ _ _ => trivial⟩
    | 21, ho, hsk =>
      obtain rfl := Option.some.inj ho
      have e0 : a'.eval (.tmp 26) = P0 b := is_tq (hin 20 26 (by kernel_rfl) (by kernel_rfl)) rfl
      exact o_fld32_2 (.tmp 26) rfl b e0 ⟨_, rfl, tq_is _ _ _ _ rfl, Kept.refl _ _, fun _ _ _ _ _ => trivial⟩
    | 22, ho, hsk =>
      obtain rfl := Option.some.inj ho
      have e0 : a'.eval (.tmp 27) = .pointer (some ⟨b, 2, none⟩) := is_tq (hin 21 27 (by kernel_rfl) (by kernel_rfl)) rfl
      exact o_load2 (.tmp 27) rfl _ _ e0 (fits_cell ((unhide HH).kept hk2 (by simp)) 2 _ rfl) ⟨_, rfl, tq_is _ _ _ _ rfl, Kept.refl _ _, fun _ _ _ _ _ => trivial⟩
    | 23, ho, hsk =>
      obtain rfl := Option.some.inj ho
      have e0 : a'.eval (.tmp 24) = .int .i64 d.vw := is_tq (hin 18 24 (by kernel_rfl) (by kernel_rfl)) rfl
      have e1 : a'.eval (.tmp 28) = .int .i64 P.view := is_tq (hin 22 28 (by kernel_rfl) (by kernel_rfl)) rfl
      exact o_neqT2 (.tmp 24) (.tmp 28) rfl _ _ true (unhide H3) e0 e1 ⟨_, rfl, tq_is _ _ _ _ rfl, Kept.refl _ _, fun _ _ _ _ _ => trivial⟩
    | 24, ho, hsk =>
      obtain rfl := Option.some.inj ho
      have e0 : a'.eval (.tmp 22) = .bool false := is_tq (hin 16 22 (by kernel_rfl) (by kernel_rfl)) rfl
      have e1 : a'.eval (.tmp 29) = .bool false := is_tq (hin 23 29 (by kernel_rfl) (by kernel_rfl)) rfl
      exact o_pickOr0 (.tmp 22) (.tmp 29) rfl _ e0 e1 ⟨_, rfl, tq_is _ _ _ _ rfl, Kept.refl _ _, fun _ _ _ _ _ => trivial⟩
    | 25, ho, hsk =>
      obtain rfl := Option.some.inj ho
      have e0 : a'.eval (.tmp 30) = .bool false := is_tq (hin 24 30 (by kernel_rfl) (by kernel_rfl)) rfl
      exact wp_move (.tmp 30) rfl _ e0 ⟨_, rfl, tq_is _ _ _ _ rfl, Kept.refl _ _, fun _ _ _ _ _ => trivial⟩
    | 26, ho, hsk =>
      obtain rfl := Option.some.inj ho
      exact o_fld35_3 (.tmp 3) rfl z ((hout 3 (by kernel_rfl)).trans rfl) ⟨_, rfl, tq_is _ _ _ _ rfl, Kept.refl _ _, fun _ _ _ _ _ => trivial⟩
    | 27, ho, hsk =>
      obtain rfl := Option.some.inj ho
      have e0 : a'.eval (.tmp 32) = .pointer (some ⟨z, 3, none⟩) := is_tq (hin 26 32 (by kernel_rfl) (by kernel_rfl)) rfl
      exact o_load2 (.tmp 32) rfl _ _ e0 (fits_cell ((unhide HP).kept hk2 (by simp)) 3 _ rfl) ⟨_, rfl, tq_is _ _ _ _ rfl, Kept.refl _ _, fun _ _ _ _ _ => trivial⟩
    | 28, ho, hsk =>
      obtain rfl := Option.some.inj ho
      have e0 : a'.eval (.tmp 33) = .int .i64 d.seq := is_tq (hin 27 33 (by kernel_rfl) (by kernel_rfl)) rfl
      exact o_lss2c (.tmp 33) 0 rfl _ false (unhide H4) e0 ⟨_, rfl, tq_is _ _ _ _ rfl, Kept.refl _ _, fun _ _ _ _ _ => trivial⟩
    | 29, ho, hsk =>
      obtain rfl := Option.some.inj ho
      have e0 : a'.eval (.tmp 31) = .bool false := is_tq (hin 25 31 (by kernel_rfl) (by kernel_rfl)) rfl
      have e1 : a'.eval (.tmp 34) = .bool false := is_tq (hin 28 34 (by kernel_rfl) (by kernel_rfl)) rfl
      exact o_pickOr0 (.tmp 31) (.tmp 34) rfl _ e0 e1 ⟨_, rfl, tq_is _ _ _ _ rfl, Kept.refl _ _, fun _ _ _ _ _ => trivial⟩
    | 30, ho, hsk =>
      obtain rfl := Option.some.inj ho
      have e0 : a'.eval (.tmp 35) = .bool false := is_tq (hin 29 35 (by kernel_rfl) (by kernel_rfl)) rfl
      exact wp_move (.tmp 35) rfl _ e0 ⟨_, rfl, tq_is _ _ _ _ rfl, Kept.refl _ _, fun _ _ _ _ _ => trivial⟩
    | 31, ho, hsk =>
      obtain rfl := Option.some.inj ho
      exact o_fld35_3 (.tmp 3) rfl z ((hout 3 (by kernel_rfl)).trans rfl) ⟨_, rfl, tq_is _ _ _ _ rfl, Kept.refl _ _, fun _ _ _ _ _ => trivial⟩
    | 32, ho, hsk =>
      obtain rfl := Option.some.inj ho
      have e0 : a'.eval (.tmp 37) = .pointer (some ⟨z, 3, none⟩) := is_tq (hin 31 37 (by kernel_rfl) (by kernel_rfl)) rfl
      exact o_load2 (.tmp 37) rfl _ _ e0 (fits_cell ((unhide HP).kept hk2 (by simp)) 3 _ rfl) ⟨_, rfl, tq_is _ _ _ _ rfl, Kept.refl _ _, fun _ _ _ _ _ => trivial⟩
    | 33, ho, hsk =>
      obtain rfl := Option.some.inj ho
      have e0 : a'.eval (.tmp 38) = .int .i64 d.seq := is_tq (hin 32 38 (by kernel_rfl) (by kernel_rfl)) rfl
      exact o_gtr2c (.tmp 38) 4611686018427387904 rfl _ false (unhide H5) e0 ⟨_, rfl, tq_is _ _ _ _ rfl, Kept.refl _ _, fun _ _ _ _ _ => trivial⟩
    | 34, ho, hsk =>
      obtain rfl := Option.some.inj ho
      have e0 : a'.eval (.tmp 36) = .bool false := is_tq (hin 30 36 (by kernel_rfl) (by kernel_rfl)) rfl
      have e1 : a'.eval (.tmp 39) = .bool false := is_tq (hin 33 39 (by kernel_rfl) (by kernel_rfl)) rfl
      exact o_pickOr0 (.tmp 36) (.tmp 39) rfl _ e0 e1 ⟨_, rfl, tq_is _ _ _ _ rfl, Kept.refl _ _, fun _ _ _ _ _ => trivial⟩
    | 35, ho, hsk =>
      obtain rfl := Option.some.inj ho
      have e0 : a'.eval (.tmp 40) = .bool false := is_tq (hin 34 40 (by kernel_rfl) (by kernel_rfl)) rfl
      exact wp_move (.tmp 40) rfl _ e0 ⟨_, rfl, tq_is _ _ _ _ rfl, Kept.refl _ _, fun _ _ _ _ _ => trivial⟩
    | 36, ho, hsk =>
      obtain rfl := Option.some.inj ho
      exact o_fld35_4 (.tmp 3) rfl z ((hout 3 (by kernel_rfl)).trans rfl) ⟨_, rfl, tq_is _ _ _ _ rfl, Kept.refl _ _, fun _ _ _ _ _ => trivial⟩
    | 37, ho, hsk =>
      obtain rfl := Option.some.inj ho
      have e0 : a'.eval (.tmp 42) = .pointer (some ⟨z, 4, none⟩) := is_tq (hin 36 42 (by kernel_rfl) (by kernel_rfl)) rfl
      exact o_load2 (.tmp 42) rfl _ _ e0 (fits_cell ((unhide HP).kept hk2 (by simp)) 4 _ rfl) ⟨_, rfl, tq_is _ _ _ _ rfl, Kept.refl _ _, fun _ _ _ _ _ => trivial⟩
    | 38, ho, hsk =>
      obtain rfl := Option.some.inj ho
      have e0 : a'.eval (.tmp 43) = .int .i64 d.ack := is_tq (hin 37 43 (by kernel_rfl) (by kernel_rfl)) rfl
      exact o_lss2c (.tmp 43) 0 rfl _ false (unhide H6) e0 ⟨_, rfl, tq_is _ _ _ _ rfl, Kept.refl _ _, fun _ _ _ _ _ => trivial⟩
    | 39, ho, hsk =>
      obtain rfl := Option.some.inj ho
      have e0 : a'.eval (.tmp 41) = .bool false := is_tq (hin 35 41 (by kernel_rfl) (by kernel_rfl)) rfl
      have e1 : a'.eval (.tmp 44) = .bool false := is_tq (hin 38 44 (by kernel_rfl) (by kernel_rfl)) rfl
      exact o_pickOr0 (.tmp 41) (.tmp 44) rfl _ e0 e1 ⟨_, rfl, tq_is _ _ _ _ rfl, Kept.refl _ _, fun _ _ _ _ _ => trivial⟩
    | 40, ho, hsk =>
      obtain rfl := Option.some.inj ho
      have e0 : a'.eval (.tmp 45) = .bool false := is_tq (hin 39 45 (by kernel_rfl) (by kernel_rfl)) rfl
      exact wp_move (.tmp 45) rfl _ e0 ⟨_, rfl, tq_is _ _ _ _ rfl, Kept.refl _ _, fun _ _ _ _ _ => trivial⟩
    | 41, ho, hsk =>
      obtain rfl := Option.some.inj ho
      exact o_fld35_4 (.tmp 3) rfl z ((hout 3 (by kernel_rfl)).trans rfl) ⟨_, rfl, tq_is _ _ _ _ rfl, Kept.refl _ _, fun _ _ _ _ _ => trivial⟩
    | 42, ho, hsk =>
      obtain rfl := Option.some.inj ho
      have e0 : a'.eval (.tmp 47) = .pointer (some ⟨z, 4, none⟩) := is_tq (hin 41 47 (by kernel_rfl) (by kernel_rfl)) rfl
      exact o_load2 (.tmp 47) rfl _ _ e0 (fits_cell ((unhide HP).kept hk2 (by simp)) 4 _ rfl) ⟨_, rfl, tq_is _ _ _ _ rfl, Kept.refl _ _, fun _ _ _ _ _ => trivial⟩
    | 43, ho, hsk =>
      obtain rfl := Option.some.inj ho
      exact wp_move (.tmp 0) rfl _ ((hout 0 (by kernel_rfl)).trans rfl) ⟨_, rfl, tq_is _ _ _ _ rfl, Kept.refl _ _, fun _ _ _ _ _ => trivial⟩
    | 44, ho, hsk =>
      obtain rfl := Option.some.inj ho
      have e0 : a'.eval (.tmp 49) = P0 b := is_tq (hin 43 49 (by kernel_rfl) (by kernel_rfl)) rfl
      exact o_nil (.tmp 49) rfl _ e0 ⟨_, rfl, tq_is _ _ _ _ rfl, Kept.refl _ _, fun _ _ _ _ _ => trivial⟩
    | 45, ho, hsk =>
      obtain rfl := Option.some.inj ho
      have e0 : a'.eval (.tmp 50) = P0 b := is_tq (hin 44 50 (by kernel_rfl) (by kernel_rfl)) rfl
      exact o_fld32_3 (.tmp 50) rfl b e0 ⟨_, rfl, tq_is _ _ _ _ rfl, Kept.refl _ _, fun _ _ _ _ _ => trivial⟩
    | 46, ho, hsk =>
      obtain rfl := Option.some.inj ho
      have e0 : a'.eval (.tmp 51) = .pointer (some ⟨b, 3, none⟩) := is_tq (hin 45 51 (by kernel_rfl) (by kernel_rfl)) rfl
      exact o_load30 (.tmp 51) rfl _ _ e0 (fits_cell ((unhide HH).kept hk2 (by simp)) 3 _ rfl) ⟨_, rfl, tq_is _ _ _ _ rfl, Kept.refl _ _, fun _ _ _ _ _ => trivial⟩
    | 47, ho, hsk =>
      obtain rfl := Option.some.inj ho
      have e0 : a'.eval (.tmp 52) = .slice vo ws.length vc := is_tq (hin 46 52 (by kernel_rfl) (by kernel_rfl)) rfl
      exact o_len30 (.tmp 52) rfl _ _ _ e0 ⟨_, rfl, tq_is _ _ _ _ rfl, Kept.refl _ _, fun _ _ _ _ _ => trivial⟩
    | 48, ho, hsk =>
      obtain rfl := Option.some.inj ho
      have e0 : a'.eval (.tmp 48) = .int .i64 d.ack := is_tq (hin 42 48 (by kernel_rfl) (by kernel_rfl)) rfl
      have e1 : a'.eval (.tmp 53) = .int .i64 ws.length := is_tq (hin 47 53 (by kernel_rfl) (by kernel_rfl)) rfl
      exact o_gtrT2 (.tmp 48) (.tmp 53) rfl _ _ false (unhide H7) e0 e1 ⟨_, rfl, tq_is _ _ _ _ rfl, Kept.refl _ _, fun _ _ _ _ _ => trivial⟩
    | 49, ho, hsk =>
      obtain rfl := Option.some.inj ho
      have e0 : a'.eval (.tmp 46) = .bool false := is_tq (hin 40 46 (by kernel_rfl) (by kernel_rfl)) rfl
      have e1 : a'.eval (.tmp 54) = .bool false := is_tq (hin 48 54 (by kernel_rfl) (by kernel_rfl)) rfl
      exact o_pickOr0 (.tmp 46) (.tmp 54) rfl _ e0 e1 ⟨_, rfl, tq_is _ _ _ _ rfl, Kept.refl _ _, fun _ _ _ _ _ => trivial⟩
    | 50, ho, hsk =>
      obtain rfl := Option.some.inj ho
      have e0 : a'.eval (.tmp 55) = .bool false := is_tq (hin 49 55 (by kernel_rfl) (by kernel_rfl)) rfl
      exact wp_move (.tmp 55) rfl _ e0 ⟨_, rfl, tq_is _ _ _ _ rfl, Kept.refl _ _, fun _ _ _ _ _ => trivial⟩
    | 51, ho, hsk =>
      obtain rfl := Option.some.inj ho
      exact o_fld35_5 (.tmp 3) rfl z ((hout 3 (by kernel_rfl)).trans rfl) ⟨_, rfl, tq_is _ _ _ _ rfl, Kept.refl _ _, fun _ _ _ _ _ => trivial⟩
    | 52, ho, hsk =>
      obtain rfl := Option.some.inj ho
      have e0 : a'.eval (.tmp 57) = .pointer (some ⟨z, 5, none⟩) := is_tq (hin 51 57 (by kernel_rfl) (by kernel_rfl)) rfl
      exact o_load33 (.tmp 57) rfl _ _ e0 (fits_cell ((unhide HP).kept hk2 (by simp)) 5 _ rfl) ⟨_, rfl, tq_is _ _ _ _ rfl, Kept.refl _ _, fun _ _ _ _ _ => trivial⟩
    | 53, ho, hsk =>
      obtain rfl := Option.some.inj ho
      have e0 : a'.eval (.tmp 58) = .slice uo m uc := is_tq (hin 52 58 (by kernel_rfl) (by kernel_rfl)) rfl
      exact o_len33 (.tmp 58) rfl _ _ _ e0 ⟨_, rfl, tq_is _ _ _ _ rfl, Kept.refl _ _, fun _ _ _ _ _ => trivial⟩
    | 54, ho, hsk =>
      obtain rfl := Option.some.inj ho
      have e0 : a'.eval (.tmp 59) = .int .i64 m := is_tq (hin 53 59 (by kernel_rfl) (by kernel_rfl)) rfl
      exact o_gtr3 (.tmp 59) 256 rfl _ false (unhide H8) e0 ⟨_, rfl, tq_is _ _ _ _ rfl, Kept.refl _ _, fun _ _ _ _ _ => trivial⟩
    | 55, ho, hsk =>
      obtain rfl := Option.some.inj ho
      have e0 : a'.eval (.tmp 56) = .bool false := is_tq (hin 50 56 (by kernel_rfl) (by kernel_rfl)) rfl
      have e1 : a'.eval (.tmp 60) = .bool false := is_tq (hin 54 60 (by kernel_rfl) (by kernel_rfl)) rfl
      exact o_pickOr0 (.tmp 56) (.tmp 60) rfl _ e0 e1 ⟨_, rfl, tq_is _ _ _ _ rfl, Kept.refl _ _, fun _ _ _ _ _ => trivial⟩
    | 56, ho, hsk =>
      obtain rfl := Option.some.inj ho
      have e0 : a'.eval (.tmp 61) = .bool false := is_tq (hin 55 61 (by kernel_rfl) (by kernel_rfl)) rfl
      exact wp_move (.tmp 61) rfl _ e0 ⟨_, rfl, tq_is _ _ _ _ rfl, Kept.refl _ _, fun _ _ _ _ _ => trivial⟩
    | 57, ho, hsk =>
      obtain rfl := Option.some.inj ho
      exact o_fld35_3 (.tmp 3) rfl z ((hout 3 (by kernel_rfl)).trans rfl) ⟨_, rfl, tq_is _ _ _ _ rfl, Kept.refl _ _, fun _ _ _ _ _ => trivial⟩
    | 58, ho, hsk =>
      obtain rfl := Option.some.inj ho
      have e0 : a'.eval (.tmp 63) = .pointer (some ⟨z, 3, none⟩) := is_tq (hin 57 63 (by kernel_rfl) (by kernel_rfl)) rfl
      exact o_load2 (.tmp 63) rfl _ _ e0 (fits_cell ((unhide HP).kept hk2 (by simp)) 3 _ rfl) ⟨_, rfl, tq_is _ _ _ _ rfl, Kept.refl _ _, fun _ _ _ _ _ => trivial⟩
    | 59, ho, hsk =>
      obtain rfl := Option.some.inj ho
      have e0 : a'.eval (.tmp 64) = .int .i64 d.seq := is_tq (hin 58 64 (by kernel_rfl) (by kernel_rfl)) rfl
      exact o_eql2c (.tmp 64) 0 rfl _ true (unhide HS0) e0 ⟨_, rfl, tq_is _ _ _ _ rfl, Kept.refl _ _, fun _ _ _ _ _ => trivial⟩
    | 60, ho, hsk =>
      obtain rfl := Option.some.inj ho
      have e0 : a'.eval (.tmp 65) = .bool true := is_tq (hin 59 65 (by kernel_rfl) (by kernel_rfl)) rfl
      exact wp_move (.tmp 65) rfl _ e0 ⟨_, rfl, tq_is _ _ _ _ rfl, Kept.refl _ _, fun _ _ _ _ _ => trivial⟩
    | 61, ho, hsk =>
      obtain rfl := Option.some.inj ho
      exact o_fld35_5 (.tmp 3) rfl z ((hout 3 (by kernel_rfl)).trans rfl) ⟨_, rfl, tq_is _ _ _ _ rfl, Kept.refl _ _, fun _ _ _ _ _ => trivial⟩
    | 62, ho, hsk =>
      obtain rfl := Option.some.inj ho
      have e0 : a'.eval (.tmp 67) = .pointer (some ⟨z, 5, none⟩) := is_tq (hin 61 67 (by kernel_rfl) (by kernel_rfl)) rfl
      exact o_load33 (.tmp 67) rfl _ _ e0 (fits_cell ((unhide HP).kept hk2 (by simp)) 5 _ rfl) ⟨_, rfl, tq_is _ _ _ _ rfl, Kept.refl _ _, fun _ _ _ _ _ => trivial⟩
    | 63, ho, hsk =>
      obtain rfl := Option.some.inj ho
      have e0 : a'.eval (.tmp 68) = .slice uo m uc := is_tq (hin 62 68 (by kernel_rfl) (by kernel_rfl)) rfl
      exact o_len33 (.tmp 68) rfl _ _ _ e0 ⟨_, rfl, tq_is _ _ _ _ rfl, Kept.refl _ _, fun _ _ _ _ _ => trivial⟩
    | 64, ho, hsk =>
      obtain rfl := Option.some.inj ho
      have e0 : a'.eval (.tmp 69) = .int .i64 m := is_tq (hin 63 69 (by kernel_rfl) (by kernel_rfl)) rfl
      exact o_gtr3 (.tmp 69) 0 rfl _ false (unhide H9) e0 ⟨_, rfl, tq_is _ _ _ _ rfl, Kept.refl _ _, fun _ _ _ _ _ => trivial⟩
    | 65, ho, hsk =>
      obtain rfl := Option.some.inj ho
      have e0 : a'.eval (.tmp 66) = .bool true := is_tq (hin 60 66 (by kernel_rfl) (by kernel_rfl)) rfl
      have e1 : a'.eval (.tmp 70) = .bool false := is_tq (hin 64 70 (by kernel_rfl) (by kernel_rfl)) rfl
      exact o_pick (.tmp 66) (.tmp 70) rfl _ e0 e1 ⟨_, rfl, tq_is _ _ _ _ rfl, Kept.refl _ _, fun _ _ _ _ _ => trivial⟩
    | 66, ho, hsk =>
      obtain rfl := Option.some.inj ho
      have e0 : a'.eval (.tmp 62) = .bool false := is_tq (hin 56 62 (by kernel_rfl) (by kernel_rfl)) rfl
      have e1 : a'.eval (.tmp 71) = .bool false := is_tq (hin 65 71 (by kernel_rfl) (by kernel_rfl)) rfl
      exact o_pickOr0 (.tmp 62) (.tmp 71) rfl _ e0 e1 ⟨_, rfl, tq_is _ _ _ _ rfl, Kept.refl _ _, fun _ _ _ _ _ => trivial⟩
  intro w9 hk9
  replace hk9 : Kept [] w1 w9 := ⟨hk9.os, hk9.tape, hk9.output, hk9.size, hk9.block⟩
  simp only [valsQ, List.map_cons, List.map_nil, Option.getD_some, List.take_succ_cons, List.take_zero, putAll, Act.put, List.setIfInBounds_toArray, List.set_cons_succ, List.set_cons_zero]
  refine wpAny_done (by kernel_rfl) ?_ _
  replace HS := hide ((unhide HS).kept0 hk9)
  replace HP := hide ((unhide HP).kept hk9 (by simp))
  have HWK : Hid (Kept [] w w9) := (unhide HK).trans hk9
  have HZB : Hid (z ∉ [b]) := fun hmm => by
    have h1 := unhide HBW
    have h2 := unhide HE
    simp at hmm
    omega
  clear hk9 HK HH
  go_wp2_with fail
  refine wp_region_any mixed (wpAny_gx 11 rfl (by kernel_rfl) [some (P0 b), some (P0 b), some (P0 b), some (.pointer (some ⟨b, 4, none⟩)), some (.int .i64 P.known), some (.pointer (some ⟨z, 4, none⟩)), some (.int .i64 d.ack), some (.int .i64 ((max P.known a : Nat) : Int)), some (P0 b), some (.pointer (some ⟨b, 4, none⟩)), none] rfl (by kernel_rfl) (fun l vs W => (S21 w9 b (.slice vo ws.length vc) P a) (fun i => l.getD i false) vs W) (⟨⟨rfl, rfl, rfl, Nat.le_refl _, fun _ _ _ => rfl⟩, (unhide HS).head⟩) ?_ ?_)
  · intro ix o' hi ho a' w2 l vs hls hlf hJ hout hin hdep hnot
    match ix, ho with
    | 0, ho =>
      obtain rfl := Option.some.inj ho
      have e0 := hout 0 (by kernel_rfl)
      replace e0 : a'.eval (.tmp 0) = _ := e0.trans rfl
      exact wp_move (.tmp 0) rfl _ e0 ⟨_, rfl, told_of rfl, keepG (St := (S21 w9 b (.slice vo ws.length vc) P a)) [10] S21.loc (by omega) (by decide) hJ⟩
    | 1, ho =>
      obtain rfl := Option.some.inj ho
      have e0 := hout 0 (by kernel_rfl)
      replace e0 : a'.eval (.tmp 0) = _ := e0.trans rfl
      exact wp_move (.tmp 0) rfl _ e0 ⟨_, rfl, told_of rfl, keepG (St := (S21 w9 b (.slice vo ws.length vc) P a)) [10] S21.loc (by omega) (by decide) hJ⟩
    | 2, ho =>
      obtain rfl := Option.some.inj ho
      have e0 : a'.eval (.tmp 74) = P0 b := by have h9 := hin 1 74 (by kernel_rfl) (by kernel_rfl); exact h9.1.trans (told_is _ h9.2 rfl)
      exact o_nil (.tmp 74) rfl _ e0 ⟨_, rfl, told_of rfl, keepG (St := (S21 w9 b (.slice vo ws.length vc) P a)) [10] S21.loc (by omega) (by decide) hJ⟩
    | 3, ho =>
      obtain rfl := Option.some.inj ho
      have e0 : a'.eval (.tmp 75) = P0 b := by have h9 := hin 2 75 (by kernel_rfl) (by kernel_rfl); exact h9.1.trans (told_is _ h9.2 rfl)
      exact o_fld32_4 (.tmp 75) rfl _ e0 ⟨_, rfl, told_of rfl, keepG (St := (S21 w9 b (.slice vo ws.length vc) P a)) [10] S21.loc (by omega) (by decide) hJ⟩
    | 4, ho =>
      obtain rfl := Option.some.inj ho
      have e0 : a'.eval (.tmp 76) = .pointer (some ⟨b, 4, none⟩) := by have h9 := hin 3 76 (by kernel_rfl) (by kernel_rfl); exact h9.1.trans (told_is _ h9.2 rfl)
      have h9 := hJ.2
      simp only [hnot 10 (by kernel_rfl)] at h9
      exact o_load3 (.tmp 76) rfl _ _ e0 (fits_cell h9 4 _ rfl) ⟨_, rfl, told_of rfl, keepG (St := (S21 w9 b (.slice vo ws.length vc) P a)) [10] S21.loc (by omega) (by decide) hJ⟩
    | 5, ho =>
      obtain rfl := Option.some.inj ho
      have e0 := hout 3 (by kernel_rfl)
      replace e0 : a'.eval (.tmp 3) = _ := e0.trans rfl
      exact o_fld35_4 (.tmp 3) rfl _ e0 ⟨_, rfl, told_of rfl, keepG (St := (S21 w9 b (.slice vo ws.length vc) P a)) [10] S21.loc (by omega) (by decide) hJ⟩
    | 6, ho =>
      obtain rfl := Option.some.inj ho
      have e0 : a'.eval (.tmp 78) = .pointer (some ⟨z, 4, none⟩) := by have h9 := hin 5 78 (by kernel_rfl) (by kernel_rfl); exact h9.1.trans (told_is _ h9.2 rfl)
      exact o_load2 (.tmp 78) rfl _ _ e0 (fits_cell ((unhide HP).kept hJ.1 (unhide HZB)) 4 _ rfl) ⟨_, rfl, told_of rfl, keepG (St := (S21 w9 b (.slice vo ws.length vc) P a)) [10] S21.loc (by omega) (by decide) hJ⟩
    | 7, ho =>
      obtain rfl := Option.some.inj ho
      have e0 : a'.eval (.tmp 77) = .int .i64 P.known := by have h9 := hin 4 77 (by kernel_rfl) (by kernel_rfl); exact h9.1.trans (told_is _ h9.2 rfl)
      have e1 : a'.eval (.tmp 79) = .int .i64 d.ack := by have h9 := hin 6 79 (by kernel_rfl) (by kernel_rfl); exact h9.1.trans (told_is _ h9.2 rfl)
      refine o_max3 (.tmp 77) (.tmp 79) rfl _ _ e0 e1 ?_
      rw [unhide HMX]
      exact ⟨_, rfl, told_of rfl, keepG (St := (S21 w9 b (.slice vo ws.length vc) P a)) [10] S21.loc (by omega) (by decide) hJ⟩
    | 8, ho =>
      obtain rfl := Option.some.inj ho
      have e0 : a'.eval (.tmp 73) = P0 b := by have h9 := hin 0 73 (by kernel_rfl) (by kernel_rfl); exact h9.1.trans (told_is _ h9.2 rfl)
      exact o_nil (.tmp 73) rfl _ e0 ⟨_, rfl, told_of rfl, keepG (St := (S21 w9 b (.slice vo ws.length vc) P a)) [10] S21.loc (by omega) (by decide) hJ⟩
    | 9, ho =>
      obtain rfl := Option.some.inj ho
      have e0 : a'.eval (.tmp 81) = P0 b := by have h9 := hin 8 81 (by kernel_rfl) (by kernel_rfl); exact h9.1.trans (told_is _ h9.2 rfl)
      exact o_fld32_4 (.tmp 81) rfl _ e0 ⟨_, rfl, told_of rfl, keepG (St := (S21 w9 b (.slice vo ws.length vc) P a)) [10] S21.loc (by omega) (by decide) hJ⟩
    | 10, ho =>
      obtain rfl := Option.some.inj ho
      have e0 : a'.eval (.tmp 82) = .pointer (some ⟨b, 4, none⟩) := by have h9 := hin 9 82 (by kernel_rfl) (by kernel_rfl); exact h9.1.trans (told_is _ h9.2 rfl)
      have e1 : a'.eval (.tmp 80) = .int .i64 ((max P.known a : Nat) : Int) := by have h9 := hin 7 80 (by kernel_rfl) (by kernel_rfl); exact h9.1.trans (told_is _ h9.2 rfl)
      have h9 := hJ.2
      have h10 : l.getD 10 false = false := hlf
      simp only [h10] at h9
      refine o_st3 (.tmp 82) (.tmp 80) rfl rfl b 4 32 _ _ e0 e1 ⟨_, rfl⟩ h9 (by simp [Ps.R]) fun W hBW hkW => ⟨_, rfl, told_no rfl, nextG (St := (S21 w9 b (.slice vo ws.length vc) P a)) (by omega) ⟨hJ.1.trans hkW, hBW⟩⟩
  intro l vs w8 hl hJ htold
  have t0 : vs 0 = P0 b := told_is _ (htold 0 (by decide)) rfl
  have t1 : vs 1 = P0 b := told_is _ (htold 1 (by decide)) rfl
  have t2 : vs 2 = P0 b := told_is _ (htold 2 (by decide)) rfl
  have t3 : vs 3 = .pointer (some ⟨b, 4, none⟩) := told_is _ (htold 3 (by decide)) rfl
  have t4 : vs 4 = .int .i64 P.known := told_is _ (htold 4 (by decide)) rfl
  have t5 : vs 5 = .pointer (some ⟨z, 4, none⟩) := told_is _ (htold 5 (by decide)) rfl
  have t6 : vs 6 = .int .i64 d.ack := told_is _ (htold 6 (by decide)) rfl
  have t7 : vs 7 = .int .i64 ((max P.known a : Nat) : Int) := told_is _ (htold 7 (by decide)) rfl
  have t8 : vs 8 = P0 b := told_is _ (htold 8 (by decide)) rfl
  have t9 : vs 9 = .pointer (some ⟨b, 4, none⟩) := told_is _ (htold 9 (by decide)) rfl
  rw [show (List.range 11).map vs = [vs 0, vs 1, vs 2, vs 3, vs 4, vs 5, vs 6, vs 7, vs 8, vs 9, vs 10] from rfl]
  simp only [t0, t1, t2, t3, t4, t5, t6, t7, t8, t9, putAll, Act.put, List.setIfInBounds_toArray, List.set_cons_succ, List.set_cons_zero]
  clear t0 t1 t2 t3 t4 t5 t6 t7 t8 t9 htold
  have hJ2 : Blk w8 b 32 ((P.forget a).R (.slice vo ws.length vc)) := by have h9 := hJ.2; simp only [hl 10 (by decide)] at h9; exact h9
  have HR := hide ((rhead_sx (unhide HS) (forget_ok (unhide HS).ok (unhide HAL)) rfl hJ2 hJ.1).after (unhide HWK))
  replace HP := hide ((unhide HP).kept hJ.1 (unhide HZB))
  clear hJ hl hJ2 HS
  have hz3 := fits_cell (unhide HP) 3 _ rfl
  have hs0 : d.seq = 0 := by simpa using unhide HS0
  rw [hs0] at hz3
  clear hs0
  go_wp2_with fail
  go_ret2
  refine ⟨.slice none 0 0, ?_, ?_, ?_, fun k e => by cases e⟩
  · rw [unhide HC]; rfl
  · rw [unhide HC]; exact unhide HR
  · rw [unhide HC]; exact bod_nil _
set_option maxHeartbeats 2000000 in
theorem rcome_far (b : Nat) (v : Value) (ws : List Value) (P : Ps) (d : Dg) (uo : Option Addr) (m uc : Nat) (w : World) (h : Rx w b v ws P) (hm : d.bs.length = m) (hno : P.no d = false) (h0 : d.seq ≠ 0) (hx : d.seq ≠ P.got + 1) : Calls Try.prog 21 #[P0 b, aggV (d.C (.slice uo m uc))] w fun e w' => CRr w b v ws P d e w' := by
  obtain ⟨c1, c2, c3, c4, c5, c6, c7, c8⟩ := no_parts hno
  have hlen := h.len
  have g1 : decide (d.fr = P.oth) = true := by simpa using c1
  have g2 : decide (d.to = P.me) = true := by simpa using c2
  have g3 : decide (d.vw = P.view) = true := by simpa using c3
  have g4 : decide (d.seq < 0) = false := by simp; omega
  have g5 : decide (4611686018427387904 < d.seq) = false := by simp; omega
  have g6 : decide (d.ack < 0) = false := by simp; omega
  have g7 : decide ((ws.length : Int) < d.ack) = false := by simp; omega
  have g8 : decide ((256 : Int) < (m : Int)) = false := by simp; omega
  obtain ⟨a, ha⟩ : ∃ a : Nat, d.ack = a := ⟨d.ack.toNat, by omega⟩
  have HAL : Hid (a ≤ P.sent.length) := (by omega : a ≤ P.sent.length)
  have HAN : d.ack.toNat = a := by omega
  have HMX : Hid (max (P.known : Int) d.ack = ((max P.known a : Nat) : Int)) := (by rw [ha]; omega : max (P.known : Int) d.ack = ((max P.known a : Nat) : Int))
  have HG := hide h.ok.got
  have HSQ : Hid (0 ≤ d.seq ∧ d.seq ≤ 4611686018427387904) := c4
  have hcm : P.come d = ((P.forget a).owe, none) := by rw [come_eq_far hno h0 hx, HAN]
  have hs0 : decide (d.seq = 0) = false := by simpa using h0
  have hnx : decide (d.seq = P.got + 1) = false := by simpa using hx
  have HNX := hide hnx
  have hsq := h0
  have HC := hide hcm
  have HS0 := hide hs0
  have H1 := hide g1
  have H2 := hide g2
  have H3 := hide g3
  have H4 := hide g4
  have H5 := hide g5
  have H6 := hide g6
  have H7 := hide g7
  have H8 := hide g8
  obtain ⟨vo, vc, rfl, _, _⟩ := h.sl
  have HS := hide h
  have HBW : Hid (b < w.heap.size) := h.lt.1
  clear h hno hcm hs0 c1 c2 c3 c4 c5 c6 c7 c8 hlen ha HAN hm g1 g2 g3 g4 g5 g6 g7 g8 h0 hx hnx
  go_enter Try.func21, Try.ntmps21
  go_wp2_with (
    first
    | (refine wpBoxV (by rfl) (.tmp 1) (by rfl) (d.C (.slice uo m uc)) (by kernel_rfl) ?_
       intro w1 z e1 B1 K1
       have HE : Hid (w.heap.size ≤ z) := by rw [e1]; exact (Nat.le_refl _ : w.heap.size ≤ w.heap.size)
       have HP := hide B1
       have HK := hide K1
       replace HS := hide ((unhide HS).kept0 K1)
       clear e1 B1 K1))
  have HH := hide (unhide HS).head
  simp only [List.append_eq, List.cons_append, List.nil_append]
  refine wp_region_any mixed (wpAny_tq 67 rfl (by kernel_rfl) [some (.pointer (some ⟨z, 0, none⟩)), some (.int .i64 d.fr), some (P0 b), some (P0 b), some (.pointer (some ⟨b, 1, none⟩)), some (.int .i64 P.oth), some (.bool false), some (.bool false), some (.pointer (some ⟨z, 1, none⟩)), some (.int .i64 d.to), some (P0 b), some (P0 b), some (.pointer (some ⟨b, 0, none⟩)), some (.int .i64 P.me), some (.bool false), some (.bool false), some (.bool false), some (.pointer (some ⟨z, 2, none⟩)), some (.int .i64 d.vw), some (P0 b), some (P0 b), some (.pointer (some ⟨b, 2, none⟩)), some (.int .i64 P.view), some (.bool false), some (.bool false), some (.bool false), some (.pointer (some ⟨z, 3, none⟩)), some (.int .i64 d.seq), some (.bool false), some (.bool false), some (.bool false), some (.pointer (some ⟨z, 3, none⟩)), some (.int .i64 d.seq), some (.bool false), some (.bool false), some (.bool false), some (.pointer (some ⟨z, 4, none⟩)), some (.int .i64 d.ack), some (.bool false), some (.bool false), some (.bool false), some (.pointer (some ⟨z, 4, none⟩)), some (.int .i64 d.ack), some (P0 b), some (P0 b), some (.pointer (some ⟨b, 3, none⟩)), some (.slice vo ws.length vc), some (.int .i64 ws.length), some (.bool false), some (.bool false), some (.bool false), some (.pointer (some ⟨z, 5, none⟩)), some (.slice uo m uc), some (.int .i64 m), some (.bool false), some (.bool false), some (.bool false), some (.pointer (some ⟨z, 3, none⟩)), some (.int .i64 d.seq), some (.bool false), some (.bool false), none, none, none, none, some (.bool false), some (.bool false)] rfl (by kernel_rfl) (by kernel_rfl) ?_ ?_)
  · intro i o' hi hsk ho a' w2 hout hin hk2
    replace hk2 : Kept [] w1 w2 := ⟨hk2.os, hk2.tape, hk2.output, hk2.size, hk2.block⟩
    match i, ho, hsk with
    | 0, ho, hsk =>
      obtain rfl := Option.some.inj ho
      exact o_fld35_0 (.tmp 3) rfl z ((hout 3 (by kernel_rfl)).trans rfl) ⟨_, rfl, tq_is _ _ _ _ rfl, Kept.refl _ _, fun _ _ _ _ _ => trivial⟩
    | 1, ho, hsk =>
      obtain rfl := Option.some.inj ho
      have e0 : a'.eval (.tmp 6) = .pointer (some ⟨z, 0, none⟩) := is_tq (hin 0 6 (by kernel_rfl) (by kernel_rfl)) rfl
      exact o_load3 (.tmp 6) rfl _ _ e0 (fits_cell ((unhide HP).kept hk2 (by simp)) 0 _ rfl) ⟨_, rfl, tq_is _ _ _ _ rfl, Kept.refl _ _, fun _ _ _ _ _ => trivial⟩
    | 2, ho, hsk =>
      obtain rfl := Option.some.inj ho
      exact wp_move (.tmp 0) rfl _ ((hout 0 (by kernel_rfl)).trans rfl) ⟨_, rfl, tq_is _ _ _ _ rfl, Kept.refl _ _, fun _ _ _ _ _ => trivial⟩
    | 3, ho, hsk =>
      obtain rfl := Option.some.inj ho
      have e0 : a'.eval (.tmp 8) = P0 b := is_tq (hin 2 8 (by kernel_rfl) (by kernel_rfl)) rfl
      exact o_nil (.tmp 8) rfl _ e0 ⟨_, rfl, tq_is _ _ _ _ rfl, Kept.refl _ _, fun _ _ _ _ _ => trivial⟩
    | 4, ho, hsk =>
      obtain rfl := Option.some.inj ho
      have e0 : a'.eval (.tmp 9) = P0 b := is_tq (hin 3 9 (by kernel_rfl) (by kernel_rfl)) rfl
      exact o_fld32_1 (.tmp 9) rfl b e0 ⟨_, rfl, tq_is _ _ _ _ rfl, Kept.refl _ _, fun _ _ _ _ _ => trivial⟩
    | 5, ho, hsk =>
      obtain rfl := Option.some.inj ho
      have e0 : a'.eval (.tmp 10) = .pointer (some ⟨b, 1, none⟩) := is_tq (hin 4 10 (by kernel_rfl) (by kernel_rfl)) rfl
      exact o_load3 (.tmp 10) rfl _ _ e0 (fits_cell ((unhide HH).kept hk2 (by simp)) 1 _ rfl) ⟨_, rfl, tq_is _ _ _ _ rfl, Kept.refl _ _, fun _ _ _ _ _ => trivial⟩
    | 6, ho, hsk =>
      obtain rfl := Option.some.inj ho
      have e0 : a'.eval (.tmp 7) = .int .i64 d.fr := is_tq (hin 1 7 (by kernel_rfl) (by kernel_rfl)) rfl
      have e1 : a'.eval (.tmp 11) = .int .i64 P.oth := is_tq (hin 5 11 (by kernel_rfl) (by kernel_rfl)) rfl
      exact o_neqT3 (.tmp 7) (.tmp 11) rfl _ _ true (unhide H1) e0 e1 ⟨_, rfl, tq_is _ _ _ _ rfl, Kept.refl _ _, fun _ _ _ _ _ => trivial⟩
    | 7, ho, hsk =>
      obtain rfl := Option.some.inj ho
      have e0 : a'.eval (.tmp 12) = .bool false := is_tq (hin 6 12 (by kernel_rfl) (by kernel_rfl)) rfl
      exact wp_move (.tmp 12) rfl _ e0 ⟨_, rfl, tq_is _ _ _ _ rfl, Kept.refl _ _, fun _ _ _ _ _ => trivial⟩
    | 8, ho, hsk =>
      obtain rfl := Option.some.inj ho
      exact o_fld35_1 (.tmp 3) rfl z ((hout 3 (by kernel_rfl)).trans rfl) ⟨_, rfl, tq_is _ _ _ _ rfl, Kept.refl _ _, fun _ _ _ _ _ => trivial⟩
    | 9, ho, hsk =>
      obtain rfl := Option.some.inj ho
      have e0 : a'.eval (.tmp 14) = .pointer (some ⟨z, 1, none⟩) := is_tq (hin 8 14 (by kernel_rfl) (by kernel_rfl)) rfl
      exact o_load3 (.tmp 14) rfl _ _ e0 (fits_cell ((unhide HP).kept hk2 (by simp)) 1 _ rfl) ⟨_, rfl, tq_is _ _ _ _ rfl, Kept.refl _ _, fun _ _ _ _ _ => trivial⟩
    | 10, ho, hsk =>
      obtain rfl := Option.some.inj ho
      exact wp_move (.tmp 0) rfl _ ((hout 0 (by kernel_rfl)).trans rfl) ⟨_, rfl, tq_is _ _ _ _ rfl, Kept.refl _ _, fun _ _ _ _ _ => trivial⟩
    | 11, ho, hsk =>
      obtain rfl := Option.some.inj ho
      have e0 : a'.eval (.tmp 16) = P0 b := is_tq (hin 10 16 (by kernel_rfl) (by kernel_rfl)) rfl
      exact o_nil (.tmp 16) rfl _ e0 ⟨_, rfl, tq_is _ _ _ _ rfl, Kept.refl _ _, fun _ _ _ _ _ => trivial⟩
    | 12, ho, hsk =>
      obtain rfl := Option.some.inj ho
      have e0 : a'.eval (.tmp 17) = P0 b := is_tq (hin 11 17 (by kernel_rfl) (by kernel_rfl)) rfl
      exact o_fld32_0 (.tmp 17) rfl b e0 ⟨_, rfl, tq_is _ _ _ _ rfl, Kept.refl _ _, fun _ _ _ _ _ => trivial⟩
    | 13, ho, hsk =>
      obtain rfl := Option.some.inj ho
      have e0 : a'.eval (.tmp 18) = .pointer (some ⟨b, 0, none⟩) := is_tq (hin 12 18 (by kernel_rfl) (by kernel_rfl)) rfl
      exact o_load3 (.tmp 18) rfl _ _ e0 (fits_cell ((unhide HH).kept hk2 (by simp)) 0 _ rfl) ⟨_, rfl, tq_is _ _ _ _ rfl, Kept.refl _ _, fun _ _ _ _ _ => trivial⟩
    | 14, ho, hsk =>
      obtain rfl := Option.some.inj ho
      have e0 : a'.eval (.tmp 15) = .int .i64 d.to := is_tq (hin 9 15 (by kernel_rfl) (by kernel_rfl)) rfl
      have e1 : a'.eval (.tmp 19) = .int .i64 P.me := is_tq (hin 13 19 (by kernel_rfl) (by kernel_rfl)) rfl
      exact o_neqT3 (.tmp 15) (.tmp 19) rfl _ _ true (unhide H2) e0 e1 ⟨_, rfl, tq_is _ _ _ _ rfl, Kept.refl _ _, fun _ _ _ _ _ => trivial⟩
    | 15, ho, hsk =>
      obtain rfl := Option.some.inj ho
      have e0 : a'.eval (.tmp 13) = .bool false := is_tq (hin 7 13 (by kernel_rfl) (by kernel_rfl)) rfl
      have e1 : a'.eval (.tmp 20) = .bool false := is_tq (hin 14 20 (by kernel_rfl) (by kernel_rfl)) rfl
      exact o_pickOr0 (.tmp 13) (.tmp 20) rfl _ e0 e1 ⟨_, rfl, tq_is _ _ _ _ rfl, Kept.refl _ _, fun _ _ _ _ _ => trivial⟩
    | 16, ho, hsk =>
      obtain rfl := Option.some.inj ho
      have e0 : a'.eval (.tmp 21) = .bool false := is_tq (hin 15 21 (by kernel_rfl) (by kernel_rfl)) rfl
      exact wp_move (.tmp 21) rfl _ e0 ⟨_, rfl, tq_is _ _ _ _ rfl, Kept.refl _ _, fun _ _ _ _ _ => trivial⟩
    | 17, ho, hsk =>
      obtain rfl := Option.some.inj ho
      exact o_fld35_2 (.tmp 3) rfl z ((hout 3 (by kernel_rfl)).trans rfl) ⟨_, rfl, tq_is _ _ _ _ rfl, Kept.refl _ _, fun _ _ _ _ _ => trivial⟩
    | 18, ho, hsk =>
      obtain rfl := Option.some.inj ho
      have e0 : a'.eval (.tmp 23) = .pointer (some ⟨z, 2, none⟩) := is_tq (hin 17 23 (by kernel_rfl) (by kernel_rfl)) rfl
      exact o_load2 (.tmp 23) rfl _ _ e0 (fits_cell ((unhide HP).kept hk2 (by simp)) 2 _ rfl) ⟨_, rfl, tq_is _ _ _ _ rfl, Kept.refl _ _, fun _ _ _ _ _ => trivial⟩
    | 19, ho, hsk =>
      obtain rfl := Option.some.inj ho
      exact wp_move (.tmp 0) rfl _ ((hout 0 (by kernel_rfl)).trans rfl) ⟨_, rfl, tq_is _ _ _ _ rfl, Kept.refl _ _, fun _ _ _ _ _ => trivial⟩
    | 20, ho, hsk =>
      obtain rfl := Option.some.inj ho
      have e0 : a'.eval (.tmp 25) = P0 b := is_tq (hin 19 25 (by kernel_rfl) (by kernel_rfl)) rfl
      exact o_nil (.tmp 25) rfl _ e0 ⟨_, rfl, tq_is _ _ _ _ rfl, Kept.refl _ _, fun _ _ _ _ _ => trivial⟩
    | 21, ho, hsk =>
      obtain rfl := Option.some.inj ho
      have e0 : a'.eval (.tmp 26) = P0 b := is_tq (hin 20 26 (by kernel_rfl) (by kernel_rfl)) rfl
      exact o_fld32_2 (.tmp 26) rfl b e0 ⟨_, rfl, tq_is _ _ _ _ rfl, Kept.refl _ _, fun _ _ _ _ _ => trivial⟩
    | 22, ho, hsk =>
      obtain rfl := Option.some.inj ho
      have e0 : a'.eval (.tmp 27) = .pointer (some ⟨b, 2, none⟩) := is_tq (hin 21 27 (by kernel_rfl) (by kernel_rfl)) rfl
      exact o_load2 (.tmp 27) rfl _ _ e0 (fits_cell ((unhide HH).kept hk2 (by simp)) 2 _ rfl) ⟨_, rfl, tq_is _ _ _ _ rfl, Kept.refl _ _, fun _ _ _ _ _ => trivial⟩
    | 23, ho, hsk =>
      obtain rfl := Option.some.inj ho
      have e0 : a'.eval (.tmp 24) = .int .i64 d.vw := is_tq (hin 18 24 (by kernel_rfl) (by kernel_rfl)) rfl
      have e1 : a'.eval (.tmp 28) = .int .i64 P.view := is_tq (hin 22 28 (by kernel_rfl) (by kernel_rfl)) rfl
      exact o_neqT2 (.tmp 24) (.tmp 28) rfl _ _ true (unhide H3) e0 e1 ⟨_, rfl, tq_is _ _ _ _ rfl, Kept.refl _ _, fun _ _ _ _ _ => trivial⟩
    | 24, ho, hsk =>
      obtain rfl := Option.some.inj ho
      have e0 : a'.eval (.tmp 22) = .bool false := is_tq (hin 16 22 (by kernel_rfl) (by kernel_rfl)) rfl
      have e1 : a'.eval (.tmp 29) = .bool false := is_tq (hin 23 29 (by kernel_rfl) (by kernel_rfl)) rfl
      exact o_pickOr0 (.tmp 22) (.tmp 29) rfl _ e0 e1 ⟨_, rfl, tq_is _ _ _ _ rfl, Kept.refl _ _, fun _ _ _ _ _ => trivial⟩
    | 25, ho, hsk =>
      obtain rfl := Option.some.inj ho
      have e0 : a'.eval (.tmp 30) = .bool false := is_tq (hin 24 30 (by kernel_rfl) (by kernel_rfl)) rfl
      exact wp_move (.tmp 30) rfl _ e0 ⟨_, rfl, tq_is _ _ _ _ rfl, Kept.refl _ _, fun _ _ _ _ _ => trivial⟩
    | 26, ho, hsk =>
      obtain rfl := Option.some.inj ho
      exact o_fld35_3 (.tmp 3) rfl z ((hout 3 (by kernel_rfl)).trans rfl) ⟨_, rfl, tq_is _ _ _ _ rfl, Kept.refl _ _, fun _ _ _ _ _ => trivial⟩
    | 27, ho, hsk =>
      obtain rfl := Option.some.inj ho
      have e0 : a'.eval (.tmp 32) = .pointer (some ⟨z, 3, none⟩) := is_tq (hin 26 32 (by kernel_rfl) (by kernel_rfl)) rfl
      exact o_load2 (.tmp 32) rfl _ _ e0 (fits_cell ((unhide HP).kept hk2 (by simp)) 3 _ rfl) ⟨_, rfl, tq_is _ _ _ _ rfl, Kept.refl _ _, fun _ _ _ _ _ => trivial⟩
    | 28, ho, hsk =>
      obtain rfl := Option.some.inj ho
      have e0 : a'.eval (.tmp 33) = .int .i64 d.seq := is_tq (hin 27 33 (by kernel_rfl) (by kernel_rfl)) rfl
      exact o_lss2c (.tmp 33) 0 rfl _ false (unhide H4) e0 ⟨_, rfl, tq_is _ _ _ _ rfl, Kept.refl _ _, fun _ _ _ _ _ => trivial⟩
    | 29, ho, hsk =>
      obtain rfl := Option.some.inj ho
      have e0 : a'.eval (.tmp 31) = .bool false := is_tq (hin 25 31 (by kernel_rfl) (by kernel_rfl)) rfl
      have e1 : a'.eval (.tmp 34) = .bool false := is_tq (hin 28 34 (by kernel_rfl) (by kernel_rfl)) rfl
      exact o_pickOr0 (.tmp 31) (.tmp 34) rfl _ e0 e1 ⟨_, rfl, tq_is _ _ _ _ rfl, Kept.refl _ _, fun _ _ _ _ _ => trivial⟩
    | 30, ho, hsk =>
      obtain rfl := Option.some.inj ho
      have e0 : a'.eval (.tmp 35) = .bool false := is_tq (hin 29 35 (by kernel_rfl) (by kernel_rfl)) rfl
      exact wp_move (.tmp 35) rfl _ e0 ⟨_, rfl, tq_is _ _ _ _ rfl, Kept.refl _ _, fun _ _ _ _ _ => trivial⟩
    | 31, ho, hsk =>
      obtain rfl := Option.some.inj ho
      exact o_fld35_3 (.tmp 3) rfl z ((hout 3 (by kernel_rfl)).trans rfl) ⟨_, rfl, tq_is _ _ _ _ rfl, Kept.refl _ _, fun _ _ _ _ _ => trivial⟩
    | 32, ho, hsk =>
      obtain rfl := Option.some.inj ho
      have e0 : a'.eval (.tmp 37) = .pointer (some ⟨z, 3, none⟩) := is_tq (hin 31 37 (by kernel_rfl) (by kernel_rfl)) rfl
      exact o_load2 (.tmp 37) rfl _ _ e0 (fits_cell ((unhide HP).kept hk2 (by simp)) 3 _ rfl) ⟨_, rfl, tq_is _ _ _ _ rfl, Kept.refl _ _, fun _ _ _ _ _ => trivial⟩
    | 33, ho, hsk =>
      obtain rfl := Option.some.inj ho
      have e0 : a'.eval (.tmp 38) = .int .i64 d.seq := is_tq (hin 32 38 (by kernel_rfl) (by kernel_rfl)) rfl
      exact o_gtr2c (.tmp 38) 4611686018427387904 rfl _ false (unhide H5) e0 ⟨_, rfl, tq_is _ _ _ _ rfl, Kept.refl _ _, fun _ _ _ _ _ => trivial⟩
    | 34, ho, hsk =>
      obtain rfl := Option.some.inj ho
      have e0 : a'.eval (.tmp 36) = .bool false := is_tq (hin 30 36 (by kernel_rfl) (by kernel_rfl)) rfl
      have e1 : a'.eval (.tmp 39) = .bool false := is_tq (hin 33 39 (by kernel_rfl) (by kernel_rfl)) rfl
      exact o_pickOr0 (.tmp 36) (.tmp 39) rfl _ e0 e1 ⟨_, rfl, tq_is _ _ _ _ rfl, Kept.refl _ _, fun _ _ _ _ _ => trivial⟩
    | 35, ho, hsk =>
      obtain rfl := Option.some.inj ho
      have e0 : a'.eval (.tmp 40) = .bool false := is_tq (hin 34 40 (by kernel_rfl) (by kernel_rfl)) rfl
      exact wp_move (.tmp 40) rfl _ e0 ⟨_, rfl, tq_is _ _ _ _ rfl, Kept.refl _ _, fun _ _ _ _ _ => trivial⟩
    | 36, ho, hsk =>
      obtain rfl := Option.some.inj ho
      exact o_fld35_4 (.tmp 3) rfl z ((hout 3 (by kernel_rfl)).trans rfl) ⟨_, rfl, tq_is _ _ _ _ rfl, Kept.refl _ _, fun _ _ _ _ _ => trivial⟩
    | 37, ho, hsk =>
      obtain rfl := Option.some.inj ho
      have e0 : a'.eval (.tmp 42) = .pointer (some ⟨z, 4, none⟩) := is_tq (hin 36 42 (by kernel_rfl) (by kernel_rfl)) rfl
      exact o_load2 (.tmp 42) rfl _ _ e0 (fits_cell ((unhide HP).kept hk2 (by simp)) 4 _ rfl) ⟨_, rfl, tq_is _ _ _ _ rfl, Kept.refl _ _, fun _ _ _ _ _ => trivial⟩
    | 38, ho, hsk =>
      obtain rfl := Option.some.inj ho
      have e0 : a'.eval (.tmp 43) = .int .i64 d.ack := is_tq (hin 37 43 (by kernel_rfl) (by kernel_rfl)) rfl
      exact o_lss2c (.tmp 43) 0 rfl _ false (unhide H6) e0 ⟨_, rfl, tq_is _ _ _ _ rfl, Kept.refl _ _, fun _ _ _ _ _ => trivial⟩
    | 39, ho, hsk =>
      obtain rfl := Option.some.inj ho
      have e0 : a'.eval (.tmp 41) = .bool false := is_tq (hin 35 41 (by kernel_rfl) (by kernel_rfl)) rfl
      have e1 : a'.eval (.tmp 44) = .bool false := is_tq (hin 38 44 (by kernel_rfl) (by kernel_rfl)) rfl
      exact o_pickOr0 (.tmp 41) (.tmp 44) rfl _ e0 e1 ⟨_, rfl, tq_is _ _ _ _ rfl, Kept.refl _ _, fun _ _ _ _ _ => trivial⟩
    | 40, ho, hsk =>
      obtain rfl := Option.some.inj ho
      have e0 : a'.eval (.tmp 45) = .bool false := is_tq (hin 39 45 (by kernel_rfl) (by kernel_rfl)) rfl
      exact wp_move (.tmp 45) rfl _ e0 ⟨_, rfl, tq_is _ _ _ _ rfl, Kept.refl _ _, fun _ _ _ _ _ => trivial⟩
    | 41, ho, hsk =>
      obtain rfl := Option.some.inj ho
      exact o_fld35_4 (.tmp 3) rfl z ((hout 3 (by kernel_rfl)).trans rfl) ⟨_, rfl, tq_is _ _ _ _ rfl, Kept.refl _ _, fun _ _ _ _ _ => trivial⟩
    | 42, ho, hsk =>
      obtain rfl := Option.some.inj ho
      have e0 : a'.eval (.tmp 47) = .pointer (some ⟨z, 4, none⟩) := is_tq (hin 41 47 (by kernel_rfl) (by kernel_rfl)) rfl
      exact o_load2 (.tmp 47) rfl _ _ e0 (fits_cell ((unhide HP).kept hk2 (by simp)) 4 _ rfl) ⟨_, rfl, tq_is _ _ _ _ rfl, Kept.refl _ _, fun _ _ _ _ _ => trivial⟩
    | 43, ho, hsk =>
      obtain rfl := Option.some.inj ho
      exact wp_move (.tmp 0) rfl _ ((hout 0 (by kernel_rfl)).trans rfl) ⟨_, rfl, tq_is _ _ _ _ rfl, Kept.refl _ _, fun _ _ _ _ _ => trivial⟩
    | 44, ho, hsk =>
      obtain rfl := Option.some.inj ho
      have e0 : a'.eval (.tmp 49) = P0 b := is_tq (hin 43 49 (by kernel_rfl) (by kernel_rfl)) rfl
      exact o_nil (.tmp 49) rfl _ e0 ⟨_, rfl, tq_is _ _ _ _ rfl, Kept.refl _ _, fun _ _ _ _ _ => trivial⟩
    | 45, ho, hsk =>
      obtain rfl := Option.some.inj ho
      have e0 : a'.eval (.tmp 50) = P0 b := is_tq (hin 44 50 (by kernel_rfl) (by kernel_rfl)) rfl
      exact o_fld32_3 (.tmp 50) rfl b e0 ⟨_, rfl, tq_is _ _ _ _ rfl, Kept.refl _ _, fun _ _ _ _ _ => trivial⟩
    | 46, ho, hsk =>
      obtain rfl := Option.some.inj ho
      have e0 : a'.eval (.tmp 51) = .pointer (some ⟨b, 3, none⟩) := is_tq (hin 45 51 (by kernel_rfl) (by kernel_rfl)) rfl
      exact o_load30 (.tmp 51) rfl _ _ e0 (fits_cell ((unhide HH).kept hk2 (by simp)) 3 _ rfl) ⟨_, rfl, tq_is _ _ _ _ rfl, Kept.refl _ _, fun _ _ _ _ _ => trivial⟩
    | 47, ho, hsk =>
      obtain rfl := Option.some.inj ho
      have e0 : a'.eval (.tmp 52) = .slice vo ws.length vc := is_tq (hin 46 52 (by kernel_rfl) (by kernel_rfl)) rfl
      exact o_len30 (.tmp 52) rfl _ _ _ e0 ⟨_, rfl, tq_is _ _ _ _ rfl, Kept.refl _ _, fun _ _ _ _ _ => trivial⟩
    | 48, ho, hsk =>
      obtain rfl := Option.some.inj ho
      have e0 : a'.eval (.tmp 48) = .int .i64 d.ack := is_tq (hin 42 48 (by kernel_rfl) (by kernel_rfl)) rfl
      have e1 : a'.eval (.tmp 53) = .int .i64 ws.length := is_tq (hin 47 53 (by kernel_rfl) (by kernel_rfl)) rfl
      exact o_gtrT2 (.tmp 48) (.tmp 53) rfl _ _ false (unhide H7) e0 e1 ⟨_, rfl, tq_is _ _ _ _ rfl, Kept.refl _ _, fun _ _ _ _ _ => trivial⟩
    | 49, ho, hsk =>
      obtain rfl := Option.some.inj ho
      have e0 : a'.eval (.tmp 46) = .bool false := is_tq (hin 40 46 (by kernel_rfl) (by kernel_rfl)) rfl
      have e1 : a'.eval (.tmp 54) = .bool false := is_tq (hin 48 54 (by kernel_rfl) (by kernel_rfl)) rfl
      exact o_pickOr0 (.tmp 46) (.tmp 54) rfl _ e0 e1 ⟨_, rfl, tq_is _ _ _ _ rfl, Kept.refl _ _, fun _ _ _ _ _ => trivial⟩
    | 50, ho, hsk =>
      obtain rfl := Option.some.inj ho
      have e0 : a'.eval (.tmp 55) = .bool false := is_tq (hin 49 55 (by kernel_rfl) (by kernel_rfl)) rfl
      exact wp_move (.tmp 55) rfl _ e0 ⟨_, rfl, tq_is _ _ _ _ rfl, Kept.refl _ _, fun _ _ _ _ _ => trivial⟩
    | 51, ho, hsk =>
      obtain rfl := Option.some.inj ho
      exact o_fld35_5 (.tmp 3) rfl z ((hout 3 (by kernel_rfl)).trans rfl) ⟨_, rfl, tq_is _ _ _ _ rfl, Kept.refl _ _, fun _ _ _ _ _ => trivial⟩
    | 52, ho, hsk =>
      obtain rfl := Option.some.inj ho
      have e0 : a'.eval (.tmp 57) = .pointer (some ⟨z, 5, none⟩) := is_tq (hin 51 57 (by kernel_rfl) (by kernel_rfl)) rfl
      exact o_load33 (.tmp 57) rfl _ _ e0 (fits_cell ((unhide HP).kept hk2 (by simp)) 5 _ rfl) ⟨_, rfl, tq_is _ _ _ _ rfl, Kept.refl _ _, fun _ _ _ _ _ => trivial⟩
    | 53, ho, hsk =>
      obtain rfl := Option.some.inj ho
      have e0 : a'.eval (.tmp 58) = .slice uo m uc := is_tq (hin 52 58 (by kernel_rfl) (by kernel_rfl)) rfl
      exact o_len33 (.tmp 58) rfl _ _ _ e0 ⟨_, rfl, tq_is _ _ _ _ rfl, Kept.refl _ _, fun _ _ _ _ _ => trivial⟩
    | 54, ho, hsk =>
      obtain rfl := Option.some.inj ho
      have e0 : a'.eval (.tmp 59) = .int .i64 m := is_tq (hin 53 59 (by kernel_rfl) (by kernel_rfl)) rfl
      exact o_gtr3 (.tmp 59) 256 rfl _ false (unhide H8) e0 ⟨_, rfl, tq_is _ _ _ _ rfl, Kept.refl _ _, fun _ _ _ _ _ => trivial⟩
    | 55, ho, hsk =>
      obtain rfl := Option.some.inj ho
      have e0 : a'.eval (.tmp 56) = .bool false := is_tq (hin 50 56 (by kernel_rfl) (by kernel_rfl)) rfl
      have e1 : a'.eval (.tmp 60) = .bool false := is_tq (hin 54 60 (by kernel_rfl) (by kernel_rfl)) rfl
      exact o_pickOr0 (.tmp 56) (.tmp 60) rfl _ e0 e1 ⟨_, rfl, tq_is _ _ _ _ rfl, Kept.refl _ _, fun _ _ _ _ _ => trivial⟩
    | 56, ho, hsk =>
      obtain rfl := Option.some.inj ho
      have e0 : a'.eval (.tmp 61) = .bool false := is_tq (hin 55 61 (by kernel_rfl) (by kernel_rfl)) rfl
      exact wp_move (.tmp 61) rfl _ e0 ⟨_, rfl, tq_is _ _ _ _ rfl, Kept.refl _ _, fun _ _ _ _ _ => trivial⟩
    | 57, ho, hsk =>
      obtain rfl := Option.some.inj ho
      exact o_fld35_3 (.tmp 3) rfl z ((hout 3 (by kernel_rfl)).trans rfl) ⟨_, rfl, tq_is _ _ _ _ rfl, Kept.refl _ _, fun _ _ _ _ _ => trivial⟩
    | 58, ho, hsk =>
      obtain rfl := Option.some.inj ho
      have e0 : a'.eval (.tmp 63) = .pointer (some ⟨z, 3, none⟩) := is_tq (hin 57 63 (by kernel_rfl) (by kernel_rfl)) rfl
      exact o_load2 (.tmp 63) rfl _ _ e0 (fits_cell ((unhide HP).kept hk2 (by simp)) 3 _ rfl) ⟨_, rfl, tq_is _ _ _ _ rfl, Kept.refl _ _, fun _ _ _ _ _ => trivial⟩
    | 59, ho, hsk =>
      obtain rfl := Option.some.inj ho
      have e0 : a'.eval (.tmp 64) = .int .i64 d.seq := is_tq (hin 58 64 (by kernel_rfl) (by kernel_rfl)) rfl
      exact o_eql2c (.tmp 64) 0 rfl _ false (unhide HS0) e0 ⟨_, rfl, tq_is _ _ _ _ rfl, Kept.refl _ _, fun _ _ _ _ _ => trivial⟩
    | 60, ho, hsk =>
      obtain rfl := Option.some.inj ho
      have e0 : a'.eval (.tmp 65) = .bool false := is_tq (hin 59 65 (by kernel_rfl) (by kernel_rfl)) rfl
      exact wp_move (.tmp 65) rfl _ e0 ⟨_, rfl, tq_is _ _ _ _ rfl, Kept.refl _ _, fun _ _ _ _ _ => trivial⟩
    | 61, ho, hsk =>
      cases hsk
    | 62, ho, hsk =>
      cases hsk
    | 63, ho, hsk =>
      cases hsk
    | 64, ho, hsk =>
      cases hsk
    | 65, ho, hsk =>
      obtain rfl := Option.some.inj ho
      have e0 : a'.eval (.tmp 66) = .bool false := is_tq (hin 60 66 (by kernel_rfl) (by kernel_rfl)) rfl
      exact o_pickN (.tmp 66) (.tmp 70) rfl e0 ⟨_, rfl, tq_is _ _ _ _ rfl, Kept.refl _ _, fun _ _ _ _ _ => trivial⟩
    | 66, ho, hsk =>
      obtain rfl := Option.some.inj ho
      have e0 : a'.eval (.tmp 62) = .bool false := is_tq (hin 56 62 (by kernel_rfl) (by kernel_rfl)) rfl
      have e1 : a'.eval (.tmp 71) = .bool false := is_tq (hin 65 71 (by kernel_rfl) (by kernel_rfl)) rfl
      exact o_pickOr0 (.tmp 62) (.tmp 71) rfl _ e0 e1 ⟨_, rfl, tq_is _ _ _ _ rfl, Kept.refl _ _, fun _ _ _ _ _ => trivial⟩
  intro w9 hk9
  replace hk9 : Kept [] w1 w9 := ⟨hk9.os, hk9.tape, hk9.output, hk9.size, hk9.block⟩
  simp only [valsQ, List.map_cons, List.map_nil, Option.getD_some, Option.getD_none, List.take_succ_cons, List.take_zero, putAll, Act.put, List.setIfInBounds_toArray, List.set_cons_succ, List.set_cons_zero]
  refine wpAny_done (by kernel_rfl) ?_ _
  replace HS := hide ((unhide HS).kept0 hk9)
  replace HP := hide ((unhide HP).kept hk9 (by simp))
  have HWK : Hid (Kept [] w w9) := (unhide HK).trans hk9
  have HZB : Hid (z ∉ [b]) := fun hmm => by
    have h1 := unhide HBW
    have h2 := unhide HE
    simp at hmm
    omega
  clear hk9 HK HH
  go_wp2_with fail
  refine wp_region_any mixed (wpAny_gx 11 rfl (by kernel_rfl) [some (P0 b), some (P0 b), some (P0 b), some (.pointer (some ⟨b, 4, none⟩)), some (.int .i64 P.known), some (.pointer (some ⟨z, 4, none⟩)), some (.int .i64 d.ack), some (.int .i64 ((max P.known a : Nat) : Int)), some (P0 b), some (.pointer (some ⟨b, 4, none⟩)), none] rfl (by kernel_rfl) (fun l vs W => (S21 w9 b (.slice vo ws.length vc) P a) (fun i => l.getD i false) vs W) (⟨⟨rfl, rfl, rfl, Nat.le_refl _, fun _ _ _ => rfl⟩, (unhide HS).head⟩) ?_ ?_)
  · intro ix o' hi ho a' w2 l vs hls hlf hJ hout hin hdep hnot
    match ix, ho with
    | 0, ho =>
      obtain rfl := Option.some.inj ho
      have e0 := hout 0 (by kernel_rfl)
      replace e0 : a'.eval (.tmp 0) = _ := e0.trans rfl
      exact wp_move (.tmp 0) rfl _ e0 ⟨_, rfl, told_of rfl, keepG (St := (S21 w9 b (.slice vo ws.length vc) P a)) [10] S21.loc (by omega) (by decide) hJ⟩
    | 1, ho =>
      obtain rfl := Option.some.inj ho
      have e0 := hout 0 (by kernel_rfl)
      replace e0 : a'.eval (.tmp 0) = _ := e0.trans rfl
      exact wp_move (.tmp 0) rfl _ e0 ⟨_, rfl, told_of rfl, keepG (St := (S21 w9 b (.slice vo ws.length vc) P a)) [10] S21.loc (by omega) (by decide) hJ⟩
    | 2, ho =>
      obtain rfl := Option.some.inj ho
      have e0 : a'.eval (.tmp 74) = P0 b := by have h9 := hin 1 74 (by kernel_rfl) (by kernel_rfl); exact h9.1.trans (told_is _ h9.2 rfl)
      exact o_nil (.tmp 74) rfl _ e0 ⟨_, rfl, told_of rfl, keepG (St := (S21 w9 b (.slice vo ws.length vc) P a)) [10] S21.loc (by omega) (by decide) hJ⟩
    | 3, ho =>
      obtain rfl := Option.some.inj ho
      have e0 : a'.eval (.tmp 75) = P0 b := by have h9 := hin 2 75 (by kernel_rfl) (by kernel_rfl); exact h9.1.trans (told_is _ h9.2 rfl)
      exact o_fld32_4 (.tmp 75) rfl _ e0 ⟨_, rfl, told_of rfl, keepG (St := (S21 w9 b (.slice vo ws.length vc) P a)) [10] S21.loc (by omega) (by decide) hJ⟩
    | 4, ho =>
      obtain rfl := Option.some.inj ho
      have e0 : a'.eval (.tmp 76) = .pointer (some ⟨b, 4, none⟩) := by have h9 := hin 3 76 (by kernel_rfl) (by kernel_rfl); exact h9.1.trans (told_is _ h9.2 rfl)
      have h9 := hJ.2
      simp only [hnot 10 (by kernel_rfl)] at h9
      exact o_load3 (.tmp 76) rfl _ _ e0 (fits_cell h9 4 _ rfl) ⟨_, rfl, told_of rfl, keepG (St := (S21 w9 b (.slice vo ws.length vc) P a)) [10] S21.loc (by omega) (by decide) hJ⟩
    | 5, ho =>
      obtain rfl := Option.some.inj ho
      have e0 := hout 3 (by kernel_rfl)
      replace e0 : a'.eval (.tmp 3) = _ := e0.trans rfl
      exact o_fld35_4 (.tmp 3) rfl _ e0 ⟨_, rfl, told_of rfl, keepG (St := (S21 w9 b (.slice vo ws.length vc) P a)) [10] S21.loc (by omega) (by decide) hJ⟩
    | 6, ho =>
      obtain rfl := Option.some.inj ho
      have e0 : a'.eval (.tmp 78) = .pointer (some ⟨z, 4, none⟩) := by have h9 := hin 5 78 (by kernel_rfl) (by kernel_rfl); exact h9.1.trans (told_is _ h9.2 rfl)
      exact o_load2 (.tmp 78) rfl _ _ e0 (fits_cell ((unhide HP).kept hJ.1 (unhide HZB)) 4 _ rfl) ⟨_, rfl, told_of rfl, keepG (St := (S21 w9 b (.slice vo ws.length vc) P a)) [10] S21.loc (by omega) (by decide) hJ⟩
    | 7, ho =>
      obtain rfl := Option.some.inj ho
      have e0 : a'.eval (.tmp 77) = .int .i64 P.known := by have h9 := hin 4 77 (by kernel_rfl) (by kernel_rfl); exact h9.1.trans (told_is _ h9.2 rfl)
      have e1 : a'.eval (.tmp 79) = .int .i64 d.ack := by have h9 := hin 6 79 (by kernel_rfl) (by kernel_rfl); exact h9.1.trans (told_is _ h9.2 rfl)
      refine o_max3 (.tmp 77) (.tmp 79) rfl _ _ e0 e1 ?_
      rw [unhide HMX]
      exact ⟨_, rfl, told_of rfl, keepG (St := (S21 w9 b (.slice vo ws.length vc) P a)) [10] S21.loc (by omega) (by decide) hJ⟩
    | 8, ho =>
      obtain rfl := Option.some.inj ho
      have e0 : a'.eval (.tmp 73) = P0 b := by have h9 := hin 0 73 (by kernel_rfl) (by kernel_rfl); exact h9.1.trans (told_is _ h9.2 rfl)
      exact o_nil (.tmp 73) rfl _ e0 ⟨_, rfl, told_of rfl, keepG (St := (S21 w9 b (.slice vo ws.length vc) P a)) [10] S21.loc (by omega) (by decide) hJ⟩
    | 9, ho =>
      obtain rfl := Option.some.inj ho
      have e0 : a'.eval (.tmp 81) = P0 b := by have h9 := hin 8 81 (by kernel_rfl) (by kernel_rfl); exact h9.1.trans (told_is _ h9.2 rfl)
      exact o_fld32_4 (.tmp 81) rfl _ e0 ⟨_, rfl, told_of rfl, keepG (St := (S21 w9 b (.slice vo ws.length vc) P a)) [10] S21.loc (by omega) (by decide) hJ⟩
    | 10, ho =>
      obtain rfl := Option.some.inj ho
      have e0 : a'.eval (.tmp 82) = .pointer (some ⟨b, 4, none⟩) := by have h9 := hin 9 82 (by kernel_rfl) (by kernel_rfl); exact h9.1.trans (told_is _ h9.2 rfl)
      have e1 : a'.eval (.tmp 80) = .int .i64 ((max P.known a : Nat) : Int) := by have h9 := hin 7 80 (by kernel_rfl) (by kernel_rfl); exact h9.1.trans (told_is _ h9.2 rfl)
      have h9 := hJ.2
      have h10 : l.getD 10 false = false := hlf
      simp only [h10] at h9
      refine o_st3 (.tmp 82) (.tmp 80) rfl rfl b 4 32 _ _ e0 e1 ⟨_, rfl⟩ h9 (by simp [Ps.R]) fun W hBW hkW => ⟨_, rfl, told_no rfl, nextG (St := (S21 w9 b (.slice vo ws.length vc) P a)) (by omega) ⟨hJ.1.trans hkW, hBW⟩⟩
  intro l vs w8 hl hJ htold
  have t0 : vs 0 = P0 b := told_is _ (htold 0 (by decide)) rfl
  have t1 : vs 1 = P0 b := told_is _ (htold 1 (by decide)) rfl
  have t2 : vs 2 = P0 b := told_is _ (htold 2 (by decide)) rfl
  have t3 : vs 3 = .pointer (some ⟨b, 4, none⟩) := told_is _ (htold 3 (by decide)) rfl
  have t4 : vs 4 = .int .i64 P.known := told_is _ (htold 4 (by decide)) rfl
  have t5 : vs 5 = .pointer (some ⟨z, 4, none⟩) := told_is _ (htold 5 (by decide)) rfl
  have t6 : vs 6 = .int .i64 d.ack := told_is _ (htold 6 (by decide)) rfl
  have t7 : vs 7 = .int .i64 ((max P.known a : Nat) : Int) := told_is _ (htold 7 (by decide)) rfl
  have t8 : vs 8 = P0 b := told_is _ (htold 8 (by decide)) rfl
  have t9 : vs 9 = .pointer (some ⟨b, 4, none⟩) := told_is _ (htold 9 (by decide)) rfl
  rw [show (List.range 11).map vs = [vs 0, vs 1, vs 2, vs 3, vs 4, vs 5, vs 6, vs 7, vs 8, vs 9, vs 10] from rfl]
  simp only [t0, t1, t2, t3, t4, t5, t6, t7, t8, t9, putAll, Act.put, List.setIfInBounds_toArray, List.set_cons_succ, List.set_cons_zero]
  clear t0 t1 t2 t3 t4 t5 t6 t7 t8 t9 htold
  have hJ2 : Blk w8 b 32 ((P.forget a).R (.slice vo ws.length vc)) := by have h9 := hJ.2; simp only [hl 10 (by decide)] at h9; exact h9
  have HR := hide ((rhead_sx (unhide HS) (forget_ok (unhide HS).ok (unhide HAL)) rfl hJ2 hJ.1).after (unhide HWK))
  replace HP := hide ((unhide HP).kept hJ.1 (unhide HZB))
  clear hJ hl hJ2 HS
  have hz3 := fits_cell (unhide HP) 3 _ rfl
  have HH := hide (unhide HR).sx.head
  go_wp2_with (
    first
    | (refine wpStoreV (T := 4) (b := b) (i := 7) (v := .bool true) (by rfl) (.tmp 88) (.const (.bool true)) (by rfl) (by rfl) (by kernel_rfl) (by rfl) 32 _ (unhide HH) (st4 _ _ _ _ _ _ (unhide HH) (by simp [Ps.R])) ?_
       intro w5 B5 K5
       replace HR : Hid (RR w b (.slice vo ws.length vc) ws w5 (.slice vo ws.length vc) ws (P.forget a).owe) := (unhide HR).trans (rhead_sx (unhide HR).sx (owe_ok (unhide HR).sx.ok) rfl B5 K5)
       replace HP := hide ((unhide HP).kept K5 (unhide HZB))
       clear B5 K5 hz3))
  replace HH := hide (unhide HR).sx.head
  refine wp_region_any mixed (wpAny_tq 8 rfl (by kernel_rfl) [some (.pointer (some ⟨z, 3, none⟩)), some (.int .i64 d.seq), some (P0 b), some (P0 b), some (.pointer (some ⟨b, 6, none⟩)), some (.int .i64 P.got), some (.int .i64 (P.got + 1)), some (.bool true)] rfl (by kernel_rfl) (by kernel_rfl) ?_ ?_)
  · intro i o' hi hsk ho a' w2 hout hin hk2
    replace hk2 : Kept [] w5 w2 := ⟨hk2.os, hk2.tape, hk2.output, hk2.size, hk2.block⟩
    match i, ho, hsk with
    | 0, ho, hsk =>
      obtain rfl := Option.some.inj ho
      exact o_fld35_3 (.tmp 3) rfl z ((hout 3 (by kernel_rfl)).trans rfl) ⟨_, rfl, tq_is _ _ _ _ rfl, Kept.refl _ _, fun _ _ _ _ _ => trivial⟩
    | 1, ho, hsk =>
      obtain rfl := Option.some.inj ho
      have e0 : a'.eval (.tmp 89) = .pointer (some ⟨z, 3, none⟩) := is_tq (hin 0 89 (by kernel_rfl) (by kernel_rfl)) rfl
      exact o_load2 (.tmp 89) rfl _ _ e0 (fits_cell ((unhide HP).kept hk2 (by simp)) 3 _ rfl) ⟨_, rfl, tq_is _ _ _ _ rfl, Kept.refl _ _, fun _ _ _ _ _ => trivial⟩
    | 2, ho, hsk =>
      obtain rfl := Option.some.inj ho
      exact wp_move (.tmp 0) rfl _ ((hout 0 (by kernel_rfl)).trans rfl) ⟨_, rfl, tq_is _ _ _ _ rfl, Kept.refl _ _, fun _ _ _ _ _ => trivial⟩
    | 3, ho, hsk =>
      obtain rfl := Option.some.inj ho
      have e0 : a'.eval (.tmp 91) = P0 b := is_tq (hin 2 91 (by kernel_rfl) (by kernel_rfl)) rfl
      exact o_nil (.tmp 91) rfl _ e0 ⟨_, rfl, tq_is _ _ _ _ rfl, Kept.refl _ _, fun _ _ _ _ _ => trivial⟩
    | 4, ho, hsk =>
      obtain rfl := Option.some.inj ho
      have e0 : a'.eval (.tmp 92) = P0 b := is_tq (hin 3 92 (by kernel_rfl) (by kernel_rfl)) rfl
      exact o_fld32_6 (.tmp 92) rfl b e0 ⟨_, rfl, tq_is _ _ _ _ rfl, Kept.refl _ _, fun _ _ _ _ _ => trivial⟩
    | 5, ho, hsk =>
      obtain rfl := Option.some.inj ho
      have e0 : a'.eval (.tmp 93) = .pointer (some ⟨b, 6, none⟩) := is_tq (hin 4 93 (by kernel_rfl) (by kernel_rfl)) rfl
      exact o_load2 (.tmp 93) rfl _ _ e0 (fits_cell ((unhide HH).kept hk2 (by simp)) 6 _ rfl) ⟨_, rfl, tq_is _ _ _ _ rfl, Kept.refl _ _, fun _ _ _ _ _ => trivial⟩
    | 6, ho, hsk =>
      obtain rfl := Option.some.inj ho
      have e0 : a'.eval (.tmp 94) = .int .i64 P.got := is_tq (hin 5 94 (by kernel_rfl) (by kernel_rfl)) rfl
      exact o_add2 (.tmp 94) (.const (.int .i64 1)) rfl _ 1 (by have := unhide HG; omega) e0 rfl ⟨_, rfl, tq_is _ _ _ _ rfl, Kept.refl _ _, fun _ _ _ _ _ => trivial⟩
    | 7, ho, hsk =>
      obtain rfl := Option.some.inj ho
      have e0 : a'.eval (.tmp 90) = .int .i64 d.seq := is_tq (hin 1 90 (by kernel_rfl) (by kernel_rfl)) rfl
      have e1 : a'.eval (.tmp 95) = .int .i64 (P.got + 1) := is_tq (hin 6 95 (by kernel_rfl) (by kernel_rfl)) rfl
      exact o_neqT2 (.tmp 90) (.tmp 95) rfl _ _ false (unhide HNX) e0 e1 ⟨_, rfl, tq_is _ _ _ _ rfl, Kept.refl _ _, fun _ _ _ _ _ => trivial⟩
  intro w7 hk9
  replace hk9 : Kept [] w5 w7 := ⟨hk9.os, hk9.tape, hk9.output, hk9.size, hk9.block⟩
  simp only [valsQ, List.map_cons, List.map_nil, Option.getD_some, List.take_succ_cons, List.take_zero, putAll, Act.put, List.setIfInBounds_toArray, List.set_cons_succ, List.set_cons_zero]
  refine wpAny_done (by kernel_rfl) ?_ _
  replace HR := hide ((unhide HR).more hk9)
  replace HP := hide ((unhide HP).kept hk9 (by simp))
  clear hk9 HH
  go_wp2_with fail
  go_ret2
  refine ⟨.slice none 0 0, ?_, ?_, ?_, fun k e => by cases e⟩
  · rw [unhide HC]; rfl
  · rw [unhide HC]; exact unhide HR
  · rw [unhide HC]; exact bod_nil _
set_option maxHeartbeats 2000000 in
theorem rcome_next (b : Nat) (v : Value) (ws : List Value) (P : Ps) (d : Dg) (uo : Option Addr) (m uc : Nat) (w : World) (h : Rx w b v ws P) (hm : d.bs.length = m) (hno : P.no d = false) (h0 : d.seq ≠ 0) (hx : d.seq = P.got + 1) (hV : Vals w uo m uc (u8s d.bs)) (hnil : uo = none → m = 0 ∧ uc = 0) (hby : ∀ x ∈ d.bs, 0 ≤ x ∧ x < 256) (hVX : ∀ g off, u8s d.bs ≠ [] → uo = some ⟨g, off, none⟩ → g ∉ b :: v.ownBlock.toList) : Calls Try.prog 21 #[P0 b, aggV (d.C (.slice uo m uc))] w fun e w' => CRr w b v ws P d e w' := by
  obtain ⟨c1, c2, c3, c4, c5, c6, c7, c8⟩ := no_parts hno
  have hlen := h.len
  have g1 : decide (d.fr = P.oth) = true := by simpa using c1
  have g2 : decide (d.to = P.me) = true := by simpa using c2
  have g3 : decide (d.vw = P.view) = true := by simpa using c3
  have g4 : decide (d.seq < 0) = false := by simp; omega
  have g5 : decide (4611686018427387904 < d.seq) = false := by simp; omega
  have g6 : decide (d.ack < 0) = false := by simp; omega
  have g7 : decide ((ws.length : Int) < d.ack) = false := by simp; omega
  have g8 : decide ((256 : Int) < (m : Int)) = false := by simp; omega
  obtain ⟨a, ha⟩ : ∃ a : Nat, d.ack = a := ⟨d.ack.toNat, by omega⟩
  have HAL : Hid (a ≤ P.sent.length) := (by omega : a ≤ P.sent.length)
  have HAN : d.ack.toNat = a := by omega
  have HMX : Hid (max (P.known : Int) d.ack = ((max P.known a : Nat) : Int)) := (by rw [ha]; omega : max (P.known : Int) d.ack = ((max P.known a : Nat) : Int))
  have HG := hide h.ok.got
  have HSQ : Hid (0 ≤ d.seq ∧ d.seq ≤ 4611686018427387904) := c4
  have hcm : P.come d = ((P.forget a).take d.seq, some d.bs) := by rw [come_eq_next hno h0 hx, HAN]
  have hs0 : decide (d.seq = 0) = false := by simpa using h0
  have hnx : decide (d.seq = P.got + 1) = true := by simpa using hx
  have HNX := hide hnx
  have hsq := h0
  have HX := hide hx
  have HV := hide hV
  have HN := hide hnil
  have HBY := hide hby
  have HVX := hide hVX
  have HM : Hid (m ≤ 256) := (by omega : m ≤ 256)
  have HC := hide hcm
  have HS0 := hide hs0
  have H1 := hide g1
  have H2 := hide g2
  have H3 := hide g3
  have H4 := hide g4
  have H5 := hide g5
  have H6 := hide g6
  have H7 := hide g7
  have H8 := hide g8
  obtain ⟨vo, vc, rfl, _, _⟩ := h.sl
  have HS := hide h
  have HBW : Hid (b < w.heap.size) := h.lt.1
  clear h hno hcm hs0 c1 c2 c3 c4 c5 c6 c7 c8 hlen ha HAN hm g1 g2 g3 g4 g5 g6 g7 g8 h0 hx hnx hV hnil hby hVX
  go_enter Try.func21, Try.ntmps21
  go_wp2_with (
    first
    | (refine wpBoxV (by rfl) (.tmp 1) (by rfl) (d.C (.slice uo m uc)) (by kernel_rfl) ?_
       intro w1 z e1 B1 K1
       have HE : Hid (w.heap.size ≤ z) := by rw [e1]; exact (Nat.le_refl _ : w.heap.size ≤ w.heap.size)
       have HP := hide B1
       have HK := hide K1
       replace HS := hide ((unhide HS).kept0 K1)
       clear e1 B1 K1))
  have HH := hide (unhide HS).head
  simp only [List.append_eq, List.cons_append, List.nil_append]
  refine wp_region_any mixed (wpAny_tq 67 rfl (by kernel_rfl) [some (.pointer (some ⟨z, 0, none⟩)), some (.int .i64 d.fr), some (P0 b), some (P0 b), some (.pointer (some ⟨b, 1, none⟩)), some (.int .i64 P.oth), some (.bool false), some (.bool false), some (.pointer (some ⟨z, 1, none⟩)), some (.int .i64 d.to), some (P0 b), some (P0 b), some (.pointer (some ⟨b, 0, none⟩)), some (.int .i64 P.me), some (.bool false), some (.bool false), some (.bool false), some (.pointer (some ⟨z, 2, none⟩)), some (.int .i64 d.vw), some (P0 b), some (P0 b), some (.pointer (some ⟨b, 2, none⟩)), some (.int .i64 P.view), some (.bool false), some (.bool false), some (.bool false), some (.pointer (some ⟨z, 3, none⟩)), some (.int .i64 d.seq), some (.bool false), some (.bool false), some (.bool false), some (.pointer (some ⟨z, 3, none⟩)), some (.int .i64 d.seq), some (.bool false), some (.bool false), some (.bool false), some (.pointer (some ⟨z, 4, none⟩)), some (.int .i64 d.ack), some (.bool false), some (.bool false), some (.bool false), some (.pointer (some ⟨z, 4, none⟩)), some (.int .i64 d.ack), some (P0 b), some (P0 b), some (.pointer (some ⟨b, 3, none⟩)), some (.slice vo ws.length vc), some (.int .i64 ws.length), some (.bool false), some (.bool false), some (.bool false), some (.pointer (some ⟨z, 5, none⟩)), some (.slice uo m uc), some (.int .i64 m), some (.bool false), some (.bool false), some (.bool false), some (.pointer (some ⟨z, 3, none⟩)), some (.int .i64 d.seq), some (.bool false), some (.bool false), none, none, none, none, some (.bool false), some (.bool false)] rfl (by kernel_rfl) (by kernel_rfl) ?_ ?_)
  · intro i o' hi hsk ho a' w2 hout hin hk2
    replace hk2 : Kept [] w1 w2 := ⟨hk2.os, hk2.tape, hk2.output, hk2.size, hk2.block⟩
    match i, ho, hsk with
    | 0, ho, hsk =>
      obtain rfl := Option.some.inj ho
      exact o_fld35_0 (.tmp 3) rfl z ((hout 3 (by kernel_rfl)).trans rfl) ⟨_, rfl, tq_is _ _ _ _ rfl, Kept.refl _ _, fun _ _ _ _ _ => trivial⟩
    | 1, ho, hsk =>
      obtain rfl := Option.some.inj ho
      have e0 : a'.eval (.tmp 6) = .pointer (some ⟨z, 0, none⟩) := is_tq (hin 0 6 (by kernel_rfl) (by kernel_rfl)) rfl
      exact o_load3 (.tmp 6) rfl _ _ e0 (fits_cell ((unhide HP).kept hk2 (by simp)) 0 _ rfl) ⟨_, rfl, tq_is _ _ _ _ rfl, Kept.refl _ _, fun _ _ _ _ _ => trivial⟩
    | 2, ho, hsk =>
      obtain rfl := Option.some.inj ho
      exact wp_move (.tmp 0) rfl _ ((hout 0 (by kernel_rfl)).trans rfl) ⟨_, rfl, tq_is _ _ _ _ rfl, Kept.refl _ _, fun _ _ _ _ _ => trivial⟩
    | 3, ho, hsk =>
      obtain rfl := Option.some.inj ho
      have e0 : a'.eval (.tmp 8) = P0 b := is_tq (hin 2 8 (by kernel_rfl) (by kernel_rfl)) rfl
      exact o_nil (.tmp 8) rfl _ e0 ⟨_, rfl, tq_is _ _ _ _ rfl, Kept.refl _ _, fun _ _ _ _ _ => trivial⟩
    | 4, ho, hsk =>
      obtain rfl := Option.some.inj ho
      have e0 : a'.eval (.tmp 9) = P0 b := is_tq (hin 3 9 (by kernel_rfl) (by kernel_rfl)) rfl
      exact o_fld32_1 (.tmp 9) rfl b e0 ⟨_, rfl, tq_is _ _ _ _ rfl, Kept.refl _ _, fun _ _ _ _ _ => trivial⟩
    | 5, ho, hsk =>
      obtain rfl := Option.some.inj ho
      have e0 : a'.eval (.tmp 10) = .pointer (some ⟨b, 1, none⟩) := is_tq (hin 4 10 (by kernel_rfl) (by kernel_rfl)) rfl
      exact o_load3 (.tmp 10) rfl _ _ e0 (fits_cell ((unhide HH).kept hk2 (by simp)) 1 _ rfl) ⟨_, rfl, tq_is _ _ _ _ rfl, Kept.refl _ _, fun _ _ _ _ _ => trivial⟩
    | 6, ho, hsk =>
      obtain rfl := Option.some.inj ho
      have e0 : a'.eval (.tmp 7) = .int .i64 d.fr := is_tq (hin 1 7 (by kernel_rfl) (by kernel_rfl)) rfl
      have e1 : a'.eval (.tmp 11) = .int .i64 P.oth := is_tq (hin 5 11 (by kernel_rfl) (by kernel_rfl)) rfl
      exact o_neqT3 (.tmp 7) (.tmp 11) rfl _ _ true (unhide H1) e0 e1 ⟨_, rfl, tq_is _ _ _ _ rfl, Kept.refl _ _, fun _ _ _ _ _ => trivial⟩
    | 7, ho, hsk =>
      obtain rfl := Option.some.inj ho
      have e0 : a'.eval (.tmp 12) = .bool false := is_tq (hin 6 12 (by kernel_rfl) (by kernel_rfl)) rfl
      exact wp_move (.tmp 12) rfl _ e0 ⟨_, rfl, tq_is _ _ _ _ rfl, Kept.refl _ _, fun _ _ _ _ _ => trivial⟩
    | 8, ho, hsk =>
      obtain rfl := Option.some.inj ho
      exact o_fld35_1 (.tmp 3) rfl z ((hout 3 (by kernel_rfl)).trans rfl) ⟨_, rfl, tq_is _ _ _ _ rfl, Kept.refl _ _, fun _ _ _ _ _ => trivial⟩
    | 9, ho, hsk =>
      obtain rfl := Option.some.inj ho
      have e0 : a'.eval (.tmp 14) = .pointer (some ⟨z, 1, none⟩) := is_tq (hin 8 14 (by kernel_rfl) (by kernel_rfl)) rfl
      exact o_load3 (.tmp 14) rfl _ _ e0 (fits_cell ((unhide HP).kept hk2 (by simp)) 1 _ rfl) ⟨_, rfl, tq_is _ _ _ _ rfl, Kept.refl _ _, fun _ _ _ _ _ => trivial⟩
    | 10, ho, hsk =>
      obtain rfl := Option.some.inj ho
      exact wp_move (.tmp 0) rfl _ ((hout 0 (by kernel_rfl)).trans rfl) ⟨_, rfl, tq_is _ _ _ _ rfl, Kept.refl _ _, fun _ _ _ _ _ => trivial⟩
    | 11, ho, hsk =>
      obtain rfl := Option.some.inj ho
      have e0 : a'.eval (.tmp 16) = P0 b := is_tq (hin 10 16 (by kernel_rfl) (by kernel_rfl)) rfl
      exact o_nil (.tmp 16) rfl _ e0 ⟨_, rfl, tq_is _ _ _ _ rfl, Kept.refl _ _, fun _ _ _ _ _ => trivial⟩
    | 12, ho, hsk =>
      obtain rfl := Option.some.inj ho
      have e0 : a'.eval (.tmp 17) = P0 b := is_tq (hin 11 17 (by kernel_rfl) (by kernel_rfl)) rfl
      exact o_fld32_0 (.tmp 17) rfl b e0 ⟨_, rfl, tq_is _ _ _ _ rfl, Kept.refl _ _, fun _ _ _ _ _ => trivial⟩
    | 13, ho, hsk =>
      obtain rfl := Option.some.inj ho
      have e0 : a'.eval (.tmp 18) = .pointer (some ⟨b, 0, none⟩) := is_tq (hin 12 18 (by kernel_rfl) (by kernel_rfl)) rfl
      exact o_load3 (.tmp 18) rfl _ _ e0 (fits_cell ((unhide HH).kept hk2 (by simp)) 0 _ rfl) ⟨_, rfl, tq_is _ _ _ _ rfl, Kept.refl _ _, fun _ _ _ _ _ => trivial⟩
    | 14, ho, hsk =>
      obtain rfl := Option.some.inj ho
      have e0 : a'.eval (.tmp 15) = .int .i64 d.to := is_tq (hin 9 15 (by kernel_rfl) (by kernel_rfl)) rfl
      have e1 : a'.eval (.tmp 19) = .int .i64 P.me := is_tq (hin 13 19 (by kernel_rfl) (by kernel_rfl)) rfl
      exact o_neqT3 (.tmp 15) (.tmp 19) rfl _ _ true (unhide H2) e0 e1 ⟨_, rfl, tq_is _ _ _ _ rfl, Kept.refl _ _, fun _ _ _ _ _ => trivial⟩
    | 15, ho, hsk =>
      obtain rfl := Option.some.inj ho
      have e0 : a'.eval (.tmp 13) = .bool false := is_tq (hin 7 13 (by kernel_rfl) (by kernel_rfl)) rfl
      have e1 : a'.eval (.tmp 20) = .bool false := is_tq (hin 14 20 (by kernel_rfl) (by kernel_rfl)) rfl
      exact o_pickOr0 (.tmp 13) (.tmp 20) rfl _ e0 e1 ⟨_, rfl, tq_is _ _ _ _ rfl, Kept.refl _ _, fun _ _ _ _ _ => trivial⟩
    | 16, ho, hsk =>
      obtain rfl := Option.some.inj ho
      have e0 : a'.eval (.tmp 21) = .bool false := is_tq (hin 15 21 (by kernel_rfl) (by kernel_rfl)) rfl
      exact wp_move (.tmp 21) rfl _ e0 ⟨_, rfl, tq_is _ _ _ _ rfl, Kept.refl _ _, fun _ _ _ _ _ => trivial⟩
    | 17, ho, hsk =>
      obtain rfl := Option.some.inj ho
      exact o_fld35_2 (.tmp 3) rfl z ((hout 3 (by kernel_rfl)).trans rfl) ⟨_, rfl, tq_is _ _ _ _ rfl, Kept.refl _ _, fun _ _ _ _ _ => trivial⟩
    | 18, ho, hsk =>
      obtain rfl := Option.some.inj ho
      have e0 : a'.eval (.tmp 23) = .pointer (some ⟨z, 2, none⟩) := is_tq (hin 17 23 (by kernel_rfl) (by kernel_rfl)) rfl
      exact o_load2 (.tmp 23) rfl _ _ e0 (fits_cell ((unhide HP).kept hk2 (by simp)) 2 _ rfl) ⟨_, rfl, tq_is _ _ _ _ rfl, Kept.refl _ _, fun _ _ _ _ _ => trivial⟩
    | 19, ho, hsk =>
      obtain rfl := Option.some.inj ho
      exact wp_move (.tmp 0) rfl _ ((hout 0 (by kernel_rfl)).trans rfl) ⟨_, rfl, tq_is _ _ _ _ rfl, Kept.refl _ _, fun _ _ _ _ _ => trivial⟩
    | 20, ho, hsk =>
      obtain rfl := Option.some.inj ho
      have e0 : a'.eval (.tmp 25) = P0 b := is_tq (hin 19 25 (by kernel_rfl) (by kernel_rfl)) rfl
      exact o_nil (.tmp 25) rfl _ e0 ⟨_, rfl, tq_is _ _ _ _ rfl, Kept.refl _ _, fun _ _ _ _ _ => trivial⟩
    | 21, ho, hsk =>
      obtain rfl := Option.some.inj ho
      have e0 : a'.eval (.tmp 26) = P0 b := is_tq (hin 20 26 (by kernel_rfl) (by kernel_rfl)) rfl
      exact o_fld32_2 (.tmp 26) rfl b e0 ⟨_, rfl, tq_is _ _ _ _ rfl, Kept.refl _ _, fun _ _ _ _ _ => trivial⟩
    | 22, ho, hsk =>
      obtain rfl := Option.some.inj ho
      have e0 : a'.eval (.tmp 27) = .pointer (some ⟨b, 2, none⟩) := is_tq (hin 21 27 (by kernel_rfl) (by kernel_rfl)) rfl
      exact o_load2 (.tmp 27) rfl _ _ e0 (fits_cell ((unhide HH).kept hk2 (by simp)) 2 _ rfl) ⟨_, rfl, tq_is _ _ _ _ rfl, Kept.refl _ _, fun _ _ _ _ _ => trivial⟩
    | 23, ho, hsk =>
      obtain rfl := Option.some.inj ho
      have e0 : a'.eval (.tmp 24) = .int .i64 d.vw := is_tq (hin 18 24 (by kernel_rfl) (by kernel_rfl)) rfl
      have e1 : a'.eval (.tmp 28) = .int .i64 P.view := is_tq (hin 22 28 (by kernel_rfl) (by kernel_rfl)) rfl
      exact o_neqT2 (.tmp 24) (.tmp 28) rfl _ _ true (unhide H3) e0 e1 ⟨_, rfl, tq_is _ _ _ _ rfl, Kept.refl _ _, fun _ _ _ _ _ => trivial⟩
    | 24, ho, hsk =>
      obtain rfl := Option.some.inj ho
      have e0 : a'.eval (.tmp 22) = .bool false := is_tq (hin 16 22 (by kernel_rfl) (by kernel_rfl)) rfl
      have e1 : a'.eval (.tmp 29) = .bool false := is_tq (hin 23 29 (by kernel_rfl) (by kernel_rfl)) rfl
      exact o_pickOr0 (.tmp 22) (.tmp 29) rfl _ e0 e1 ⟨_, rfl, tq_is _ _ _ _ rfl, Kept.refl _ _, fun _ _ _ _ _ => trivial⟩
    | 25, ho, hsk =>
      obtain rfl := Option.some.inj ho
      have e0 : a'.eval (.tmp 30) = .bool false := is_tq (hin 24 30 (by kernel_rfl) (by kernel_rfl)) rfl
      exact wp_move (.tmp 30) rfl _ e0 ⟨_, rfl, tq_is _ _ _ _ rfl, Kept.refl _ _, fun _ _ _ _ _ => trivial⟩
    | 26, ho, hsk =>
      obtain rfl := Option.some.inj ho
      exact o_fld35_3 (.tmp 3) rfl z ((hout 3 (by kernel_rfl)).trans rfl) ⟨_, rfl, tq_is _ _ _ _ rfl, Kept.refl _ _, fun _ _ _ _ _ => trivial⟩
    | 27, ho, hsk =>
      obtain rfl := Option.some.inj ho
      have e0 : a'.eval (.tmp 32) = .pointer (some ⟨z, 3, none⟩) := is_tq (hin 26 32 (by kernel_rfl) (by kernel_rfl)) rfl
      exact o_load2 (.tmp 32) rfl _ _ e0 (fits_cell ((unhide HP).kept hk2 (by simp)) 3 _ rfl) ⟨_, rfl, tq_is _ _ _ _ rfl, Kept.refl _ _, fun _ _ _ _ _ => trivial⟩
    | 28, ho, hsk =>
      obtain rfl := Option.some.inj ho
      have e0 : a'.eval (.tmp 33) = .int .i64 d.seq := is_tq (hin 27 33 (by kernel_rfl) (by kernel_rfl)) rfl
      exact o_lss2c (.tmp 33) 0 rfl _ false (unhide H4) e0 ⟨_, rfl, tq_is _ _ _ _ rfl, Kept.refl _ _, fun _ _ _ _ _ => trivial⟩
    | 29, ho, hsk =>
      obtain rfl := Option.some.inj ho
      have e0 : a'.eval (.tmp 31) = .bool false := is_tq (hin 25 31 (by kernel_rfl) (by kernel_rfl)) rfl
      have e1 : a'.eval (.tmp 34) = .bool false := is_tq (hin 28 34 (by kernel_rfl) (by kernel_rfl)) rfl
      exact o_pickOr0 (.tmp 31) (.tmp 34) rfl _ e0 e1 ⟨_, rfl, tq_is _ _ _ _ rfl, Kept.refl _ _, fun _ _ _ _ _ => trivial⟩
    | 30, ho, hsk =>
      obtain rfl := Option.some.inj ho
      have e0 : a'.eval (.tmp 35) = .bool false := is_tq (hin 29 35 (by kernel_rfl) (by kernel_rfl)) rfl
      exact wp_move (.tmp 35) rfl _ e0 ⟨_, rfl, tq_is _ _ _ _ rfl, Kept.refl _ _, fun _ _ _ _ _ => trivial⟩
    | 31, ho, hsk =>
      obtain rfl := Option.some.inj ho
      exact o_fld35_3 (.tmp 3) rfl z ((hout 3 (by kernel_rfl)).trans rfl) ⟨_, rfl, tq_is _ _ _ _ rfl, Kept.refl _ _, fun _ _ _ _ _ => trivial⟩
    | 32, ho, hsk =>
      obtain rfl := Option.some.inj ho
      have e0 : a'.eval (.tmp 37) = .pointer (some ⟨z, 3, none⟩) := is_tq (hin 31 37 (by kernel_rfl) (by kernel_rfl)) rfl
      exact o_load2 (.tmp 37) rfl _ _ e0 (fits_cell ((unhide HP).kept hk2 (by simp)) 3 _ rfl) ⟨_, rfl, tq_is _ _ _ _ rfl, Kept.refl _ _, fun _ _ _ _ _ => trivial⟩
    | 33, ho, hsk =>
      obtain rfl := Option.some.inj ho
      have e0 : a'.eval (.tmp 38) = .int .i64 d.seq := is_tq (hin 32 38 (by kernel_rfl) (by kernel_rfl)) rfl
      exact o_gtr2c (.tmp 38) 4611686018427387904 rfl _ false (unhide H5) e0 ⟨_, rfl, tq_is _ _ _ _ rfl, Kept.refl _ _, fun _ _ _ _ _ => trivial⟩
    | 34, ho, hsk =>
      obtain rfl := Option.some.inj ho
      have e0 : a'.eval (.tmp 36) = .bool false := is_tq (hin 30 36 (by kernel_rfl) (by kernel_rfl)) rfl
      have e1 : a'.eval (.tmp 39) = .bool false := is_tq (hin 33 39 (by kernel_rfl) (by kernel_rfl)) rfl
      exact o_pickOr0 (.tmp 36) (.tmp 39) rfl _ e0 e1 ⟨_, rfl, tq_is _ _ _ _ rfl, Kept.refl _ _, fun _ _ _ _ _ => trivial⟩
    | 35, ho, hsk =>
      obtain rfl := Option.some.inj ho
      have e0 : a'.eval (.tmp 40) = .bool false := is_tq (hin 34 40 (by kernel_rfl) (by kernel_rfl)) rfl
      exact wp_move (.tmp 40) rfl _ e0 ⟨_, rfl, tq_is _ _ _ _ rfl, Kept.refl _ _, fun _ _ _ _ _ => trivial⟩
    | 36, ho, hsk =>
      obtain rfl := Option.some.inj ho
      exact o_fld35_4 (.tmp 3) rfl z ((hout 3 (by kernel_rfl)).trans rfl) ⟨_, rfl, tq_is _ _ _ _ rfl, Kept.refl _ _, fun _ _ _ _ _ => trivial⟩
    | 37, ho, hsk =>
      obtain rfl := Option.some.inj ho
      have e0 : a'.eval (.tmp 42) = .pointer (some ⟨z, 4, none⟩) := is_tq (hin 36 42 (by kernel_rfl) (by kernel_rfl)) rfl
      exact o_load2 (.tmp 42) rfl _ _ e0 (fits_cell ((unhide HP).kept hk2 (by simp)) 4 _ rfl) ⟨_, rfl, tq_is _ _ _ _ rfl, Kept.refl _ _, fun _ _ _ _ _ => trivial⟩
    | 38, ho, hsk =>
      obtain rfl := Option.some.inj ho
      have e0 : a'.eval (.tmp 43) = .int .i64 d.ack := is_tq (hin 37 43 (by kernel_rfl) (by kernel_rfl)) rfl
      exact o_lss2c (.tmp 43) 0 rfl _ false (unhide H6) e0 ⟨_, rfl, tq_is _ _ _ _ rfl, Kept.refl _ _, fun _ _ _ _ _ => trivial⟩
    | 39, ho, hsk =>
      obtain rfl := Option.some.inj ho
      have e0 : a'.eval (.tmp 41) = .bool false := is_tq (hin 35 41 (by kernel_rfl) (by kernel_rfl)) rfl
      have e1 : a'.eval (.tmp 44) = .bool false := is_tq (hin 38 44 (by kernel_rfl) (by kernel_rfl)) rfl
      exact o_pickOr0 (.tmp 41) (.tmp 44) rfl _ e0 e1 ⟨_, rfl, tq_is _ _ _ _ rfl, Kept.refl _ _, fun _ _ _ _ _ => trivial⟩
    | 40, ho, hsk =>
      obtain rfl := Option.some.inj ho
      have e0 : a'.eval (.tmp 45) = .bool false := is_tq (hin 39 45 (by kernel_rfl) (by kernel_rfl)) rfl
      exact wp_move (.tmp 45) rfl _ e0 ⟨_, rfl, tq_is _ _ _ _ rfl, Kept.refl _ _, fun _ _ _ _ _ => trivial⟩
    | 41, ho, hsk =>
      obtain rfl := Option.some.inj ho
      exact o_fld35_4 (.tmp 3) rfl z ((hout 3 (by kernel_rfl)).trans rfl) ⟨_, rfl, tq_is _ _ _ _ rfl, Kept.refl _ _, fun _ _ _ _ _ => trivial⟩
    | 42, ho, hsk =>
      obtain rfl := Option.some.inj ho
      have e0 : a'.eval (.tmp 47) = .pointer (some ⟨z, 4, none⟩) := is_tq (hin 41 47 (by kernel_rfl) (by kernel_rfl)) rfl
      exact o_load2 (.tmp 47) rfl _ _ e0 (fits_cell ((unhide HP).kept hk2 (by simp)) 4 _ rfl) ⟨_, rfl, tq_is _ _ _ _ rfl, Kept.refl _ _, fun _ _ _ _ _ => trivial⟩
    | 43, ho, hsk =>
      obtain rfl := Option.some.inj ho
      exact wp_move (.tmp 0) rfl _ ((hout 0 (by kernel_rfl)).trans rfl) ⟨_, rfl, tq_is _ _ _ _ rfl, Kept.refl _ _, fun _ _ _ _ _ => trivial⟩
    | 44, ho, hsk =>
      obtain rfl := Option.some.inj ho
      have e0 : a'.eval (.tmp 49) = P0 b := is_tq (hin 43 49 (by kernel_rfl) (by kernel_rfl)) rfl
      exact o_nil (.tmp 49) rfl _ e0 ⟨_, rfl, tq_is _ _ _ _ rfl, Kept.refl _ _, fun _ _ _ _ _ => trivial⟩
    | 45, ho, hsk =>
      obtain rfl := Option.some.inj ho
      have e0 : a'.eval (.tmp 50) = P0 b := is_tq (hin 44 50 (by kernel_rfl) (by kernel_rfl)) rfl
      exact o_fld32_3 (.tmp 50) rfl b e0 ⟨_, rfl, tq_is _ _ _ _ rfl, Kept.refl _ _, fun _ _ _ _ _ => trivial⟩
    | 46, ho, hsk =>
      obtain rfl := Option.some.inj ho
      have e0 : a'.eval (.tmp 51) = .pointer (some ⟨b, 3, none⟩) := is_tq (hin 45 51 (by kernel_rfl) (by kernel_rfl)) rfl
      exact o_load30 (.tmp 51) rfl _ _ e0 (fits_cell ((unhide HH).kept hk2 (by simp)) 3 _ rfl) ⟨_, rfl, tq_is _ _ _ _ rfl, Kept.refl _ _, fun _ _ _ _ _ => trivial⟩
    | 47, ho, hsk =>
      obtain rfl := Option.some.inj ho
      have e0 : a'.eval (.tmp 52) = .slice vo ws.length vc := is_tq (hin 46 52 (by kernel_rfl) (by kernel_rfl)) rfl
      exact o_len30 (.tmp 52) rfl _ _ _ e0 ⟨_, rfl, tq_is _ _ _ _ rfl, Kept.refl _ _, fun _ _ _ _ _ => trivial⟩
    | 48, ho, hsk =>
      obtain rfl := Option.some.inj ho
      have e0 : a'.eval (.tmp 48) = .int .i64 d.ack := is_tq (hin 42 48 (by kernel_rfl) (by kernel_rfl)) rfl
      have e1 : a'.eval (.tmp 53) = .int .i64 ws.length := is_tq (hin 47 53 (by kernel_rfl) (by kernel_rfl)) rfl
      exact o_gtrT2 (.tmp 48) (.tmp 53) rfl _ _ false (unhide H7) e0 e1 ⟨_, rfl, tq_is _ _ _ _ rfl, Kept.refl _ _, fun _ _ _ _ _ => trivial⟩
    | 49, ho, hsk =>
      obtain rfl := Option.some.inj ho
      have e0 : a'.eval (.tmp 46) = .bool false := is_tq (hin 40 46 (by kernel_rfl) (by kernel_rfl)) rfl
      have e1 : a'.eval (.tmp 54) = .bool false := is_tq (hin 48 54 (by kernel_rfl) (by kernel_rfl)) rfl
      exact o_pickOr0 (.tmp 46) (.tmp 54) rfl _ e0 e1 ⟨_, rfl, tq_is _ _ _ _ rfl, Kept.refl _ _, fun _ _ _ _ _ => trivial⟩
    | 50, ho, hsk =>
      obtain rfl := Option.some.inj ho
      have e0 : a'.eval (.tmp 55) = .bool false := is_tq (hin 49 55 (by kernel_rfl) (by kernel_rfl)) rfl
      exact wp_move (.tmp 55) rfl _ e0 ⟨_, rfl, tq_is _ _ _ _ rfl, Kept.refl _ _, fun _ _ _ _ _ => trivial⟩
    | 51, ho, hsk =>
      obtain rfl := Option.some.inj ho
      exact o_fld35_5 (.tmp 3) rfl z ((hout 3 (by kernel_rfl)).trans rfl) ⟨_, rfl, tq_is _ _ _ _ rfl, Kept.refl _ _, fun _ _ _ _ _ => trivial⟩
    | 52, ho, hsk =>
      obtain rfl := Option.some.inj ho
      have e0 : a'.eval (.tmp 57) = .pointer (some ⟨z, 5, none⟩) := is_tq (hin 51 57 (by kernel_rfl) (by kernel_rfl)) rfl
      exact o_load33 (.tmp 57) rfl _ _ e0 (fits_cell ((unhide HP).kept hk2 (by simp)) 5 _ rfl) ⟨_, rfl, tq_is _ _ _ _ rfl, Kept.refl _ _, fun _ _ _ _ _ => trivial⟩
    | 53, ho, hsk =>
      obtain rfl := Option.some.inj ho
      have e0 : a'.eval (.tmp 58) = .slice uo m uc := is_tq (hin 52 58 (by kernel_rfl) (by kernel_rfl)) rfl
      exact o_len33 (.tmp 58) rfl _ _ _ e0 ⟨_, rfl, tq_is _ _ _ _ rfl, Kept.refl _ _, fun _ _ _ _ _ => trivial⟩
    | 54, ho, hsk =>
      obtain rfl := Option.some.inj ho
      have e0 : a'.eval (.tmp 59) = .int .i64 m := is_tq (hin 53 59 (by kernel_rfl) (by kernel_rfl)) rfl
      exact o_gtr3 (.tmp 59) 256 rfl _ false (unhide H8) e0 ⟨_, rfl, tq_is _ _ _ _ rfl, Kept.refl _ _, fun _ _ _ _ _ => trivial⟩
    | 55, ho, hsk =>
      obtain rfl := Option.some.inj ho
      have e0 : a'.eval (.tmp 56) = .bool false := is_tq (hin 50 56 (by kernel_rfl) (by kernel_rfl)) rfl
      have e1 : a'.eval (.tmp 60) = .bool false := is_tq (hin 54 60 (by kernel_rfl) (by kernel_rfl)) rfl
      exact o_pickOr0 (.tmp 56) (.tmp 60) rfl _ e0 e1 ⟨_, rfl, tq_is _ _ _ _ rfl, Kept.refl _ _, fun _ _ _ _ _ => trivial⟩
    | 56, ho, hsk =>
      obtain rfl := Option.some.inj ho
      have e0 : a'.eval (.tmp 61) = .bool false := is_tq (hin 55 61 (by kernel_rfl) (by kernel_rfl)) rfl
      exact wp_move (.tmp 61) rfl _ e0 ⟨_, rfl, tq_is _ _ _ _ rfl, Kept.refl _ _, fun _ _ _ _ _ => trivial⟩
    | 57, ho, hsk =>
      obtain rfl := Option.some.inj ho
      exact o_fld35_3 (.tmp 3) rfl z ((hout 3 (by kernel_rfl)).trans rfl) ⟨_, rfl, tq_is _ _ _ _ rfl, Kept.refl _ _, fun _ _ _ _ _ => trivial⟩
    | 58, ho, hsk =>
      obtain rfl := Option.some.inj ho
      have e0 : a'.eval (.tmp 63) = .pointer (some ⟨z, 3, none⟩) := is_tq (hin 57 63 (by kernel_rfl) (by kernel_rfl)) rfl
      exact o_load2 (.tmp 63) rfl _ _ e0 (fits_cell ((unhide HP).kept hk2 (by simp)) 3 _ rfl) ⟨_, rfl, tq_is _ _ _ _ rfl, Kept.refl _ _, fun _ _ _ _ _ => trivial⟩
    | 59, ho, hsk =>
      obtain rfl := Option.some.inj ho
      have e0 : a'.eval (.tmp 64) = .int .i64 d.seq := is_tq (hin 58 64 (by kernel_rfl) (by kernel_rfl)) rfl
      exact o_eql2c (.tmp 64) 0 rfl _ false (unhide HS0) e0 ⟨_, rfl, tq_is _ _ _ _ rfl, Kept.refl _ _, fun _ _ _ _ _ => trivial⟩
    | 60, ho, hsk =>
      obtain rfl := Option.some.inj ho
      have e0 : a'.eval (.tmp 65) = .bool false := is_tq (hin 59 65 (by kernel_rfl) (by kernel_rfl)) rfl
      exact wp_move (.tmp 65) rfl _ e0 ⟨_, rfl, tq_is _ _ _ _ rfl, Kept.refl _ _, fun _ _ _ _ _ => trivial⟩
    | 61, ho, hsk =>
      cases hsk
    | 62, ho, hsk =>
      cases hsk
    | 63, ho, hsk =>
      cases hsk
    | 64, ho, hsk =>
      cases hsk
    | 65, ho, hsk =>
      obtain rfl := Option.some.inj ho
      have e0 : a'.eval (.tmp 66) = .bool false := is_tq (hin 60 66 (by kernel_rfl) (by kernel_rfl)) rfl
      exact o_pickN (.tmp 66) (.tmp 70) rfl e0 ⟨_, rfl, tq_is _ _ _ _ rfl, Kept.refl _ _, fun _ _ _ _ _ => trivial⟩
    | 66, ho, hsk =>
      obtain rfl := Option.some.inj ho
      have e0 : a'.eval (.tmp 62) = .bool false := is_tq (hin 56 62 (by kernel_rfl) (by kernel_rfl)) rfl
      have e1 : a'.eval (.tmp 71) = .bool false := is_tq (hin 65 71 (by kernel_rfl) (by kernel_rfl)) rfl
      exact o_pickOr0 (.tmp 62) (.tmp 71) rfl _ e0 e1 ⟨_, rfl, tq_is _ _ _ _ rfl, Kept.refl _ _, fun _ _ _ _ _ => trivial⟩
  intro w9 hk9
  replace hk9 : Kept [] w1 w9 := ⟨hk9.os, hk9.tape, hk9.output, hk9.size, hk9.block⟩
  simp only [valsQ, List.map_cons, List.map_nil, Option.getD_some, Option.getD_none, List.take_succ_cons, List.take_zero, putAll, Act.put, List.setIfInBounds_toArray, List.set_cons_succ, List.set_cons_zero]
  refine wpAny_done (by kernel_rfl) ?_ _
  replace HS := hide ((unhide HS).kept0 hk9)
  replace HP := hide ((unhide HP).kept hk9 (by simp))
  have HWK : Hid (Kept [] w w9) := (unhide HK).trans hk9
  have HZB : Hid (z ∉ [b]) := fun hmm => by
    have h1 := unhide HBW
    have h2 := unhide HE
    simp at hmm
    omega
  clear hk9 HK HH
  go_wp2_with fail
  refine wp_region_any mixed (wpAny_gx 11 rfl (by kernel_rfl) [some (P0 b), some (P0 b), some (P0 b), some (.pointer (some ⟨b, 4, none⟩)), some (.int .i64 P.known), some (.pointer (some ⟨z, 4, none⟩)), some (.int .i64 d.ack), some (.int .i64 ((max P.known a : Nat) : Int)), some (P0 b), some (.pointer (some ⟨b, 4, none⟩)), none] rfl (by kernel_rfl) (fun l vs W => (S21 w9 b (.slice vo ws.length vc) P a) (fun i => l.getD i false) vs W) (⟨⟨rfl, rfl, rfl, Nat.le_refl _, fun _ _ _ => rfl⟩, (unhide HS).head⟩) ?_ ?_)
  · intro ix o' hi ho a' w2 l vs hls hlf hJ hout hin hdep hnot
    match ix, ho with
    | 0, ho =>
      obtain rfl := Option.some.inj ho
      have e0 := hout 0 (by kernel_rfl)
      replace e0 : a'.eval (.tmp 0) = _ := e0.trans rfl
      exact wp_move (.tmp 0) rfl _ e0 ⟨_, rfl, told_of rfl, keepG (St := (S21 w9 b (.slice vo ws.length vc) P a)) [10] S21.loc (by omega) (by decide) hJ⟩
    | 1, ho =>
      obtain rfl := Option.some.inj ho
      have e0 := hout 0 (by kernel_rfl)
      replace e0 : a'.eval (.tmp 0) = _ := e0.trans rfl
      exact wp_move (.tmp 0) rfl _ e0 ⟨_, rfl, told_of rfl, keepG (St := (S21 w9 b (.slice vo ws.length vc) P a)) [10] S21.loc (by omega) (by decide) hJ⟩
    | 2, ho =>
      obtain rfl := Option.some.inj ho
      have e0 : a'.eval (.tmp 74) = P0 b := by have h9 := hin 1 74 (by kernel_rfl) (by kernel_rfl); exact h9.1.trans (told_is _ h9.2 rfl)
      exact o_nil (.tmp 74) rfl _ e0 ⟨_, rfl, told_of rfl, keepG (St := (S21 w9 b (.slice vo ws.length vc) P a)) [10] S21.loc (by omega) (by decide) hJ⟩
    | 3, ho =>
      obtain rfl := Option.some.inj ho
      have e0 : a'.eval (.tmp 75) = P0 b := by have h9 := hin 2 75 (by kernel_rfl) (by kernel_rfl); exact h9.1.trans (told_is _ h9.2 rfl)
      exact o_fld32_4 (.tmp 75) rfl _ e0 ⟨_, rfl, told_of rfl, keepG (St := (S21 w9 b (.slice vo ws.length vc) P a)) [10] S21.loc (by omega) (by decide) hJ⟩
    | 4, ho =>
      obtain rfl := Option.some.inj ho
      have e0 : a'.eval (.tmp 76) = .pointer (some ⟨b, 4, none⟩) := by have h9 := hin 3 76 (by kernel_rfl) (by kernel_rfl); exact h9.1.trans (told_is _ h9.2 rfl)
      have h9 := hJ.2
      simp only [hnot 10 (by kernel_rfl)] at h9
      exact o_load3 (.tmp 76) rfl _ _ e0 (fits_cell h9 4 _ rfl) ⟨_, rfl, told_of rfl, keepG (St := (S21 w9 b (.slice vo ws.length vc) P a)) [10] S21.loc (by omega) (by decide) hJ⟩
    | 5, ho =>
      obtain rfl := Option.some.inj ho
      have e0 := hout 3 (by kernel_rfl)
      replace e0 : a'.eval (.tmp 3) = _ := e0.trans rfl
      exact o_fld35_4 (.tmp 3) rfl _ e0 ⟨_, rfl, told_of rfl, keepG (St := (S21 w9 b (.slice vo ws.length vc) P a)) [10] S21.loc (by omega) (by decide) hJ⟩
    | 6, ho =>
      obtain rfl := Option.some.inj ho
      have e0 : a'.eval (.tmp 78) = .pointer (some ⟨z, 4, none⟩) := by have h9 := hin 5 78 (by kernel_rfl) (by kernel_rfl); exact h9.1.trans (told_is _ h9.2 rfl)
      exact o_load2 (.tmp 78) rfl _ _ e0 (fits_cell ((unhide HP).kept hJ.1 (unhide HZB)) 4 _ rfl) ⟨_, rfl, told_of rfl, keepG (St := (S21 w9 b (.slice vo ws.length vc) P a)) [10] S21.loc (by omega) (by decide) hJ⟩
    | 7, ho =>
      obtain rfl := Option.some.inj ho
      have e0 : a'.eval (.tmp 77) = .int .i64 P.known := by have h9 := hin 4 77 (by kernel_rfl) (by kernel_rfl); exact h9.1.trans (told_is _ h9.2 rfl)
      have e1 : a'.eval (.tmp 79) = .int .i64 d.ack := by have h9 := hin 6 79 (by kernel_rfl) (by kernel_rfl); exact h9.1.trans (told_is _ h9.2 rfl)
      refine o_max3 (.tmp 77) (.tmp 79) rfl _ _ e0 e1 ?_
      rw [unhide HMX]
      exact ⟨_, rfl, told_of rfl, keepG (St := (S21 w9 b (.slice vo ws.length vc) P a)) [10] S21.loc (by omega) (by decide) hJ⟩
    | 8, ho =>
      obtain rfl := Option.some.inj ho
      have e0 : a'.eval (.tmp 73) = P0 b := by have h9 := hin 0 73 (by kernel_rfl) (by kernel_rfl); exact h9.1.trans (told_is _ h9.2 rfl)
      exact o_nil (.tmp 73) rfl _ e0 ⟨_, rfl, told_of rfl, keepG (St := (S21 w9 b (.slice vo ws.length vc) P a)) [10] S21.loc (by omega) (by decide) hJ⟩
    | 9, ho =>
      obtain rfl := Option.some.inj ho
      have e0 : a'.eval (.tmp 81) = P0 b := by have h9 := hin 8 81 (by kernel_rfl) (by kernel_rfl); exact h9.1.trans (told_is _ h9.2 rfl)
      exact o_fld32_4 (.tmp 81) rfl _ e0 ⟨_, rfl, told_of rfl, keepG (St := (S21 w9 b (.slice vo ws.length vc) P a)) [10] S21.loc (by omega) (by decide) hJ⟩
    | 10, ho =>
      obtain rfl := Option.some.inj ho
      have e0 : a'.eval (.tmp 82) = .pointer (some ⟨b, 4, none⟩) := by have h9 := hin 9 82 (by kernel_rfl) (by kernel_rfl); exact h9.1.trans (told_is _ h9.2 rfl)
      have e1 : a'.eval (.tmp 80) = .int .i64 ((max P.known a : Nat) : Int) := by have h9 := hin 7 80 (by kernel_rfl) (by kernel_rfl); exact h9.1.trans (told_is _ h9.2 rfl)
      have h9 := hJ.2
      have h10 : l.getD 10 false = false := hlf
      simp only [h10] at h9
      refine o_st3 (.tmp 82) (.tmp 80) rfl rfl b 4 32 _ _ e0 e1 ⟨_, rfl⟩ h9 (by simp [Ps.R]) fun W hBW hkW => ⟨_, rfl, told_no rfl, nextG (St := (S21 w9 b (.slice vo ws.length vc) P a)) (by omega) ⟨hJ.1.trans hkW, hBW⟩⟩
  intro l vs w8 hl hJ htold
  have t0 : vs 0 = P0 b := told_is _ (htold 0 (by decide)) rfl
  have t1 : vs 1 = P0 b := told_is _ (htold 1 (by decide)) rfl
  have t2 : vs 2 = P0 b := told_is _ (htold 2 (by decide)) rfl
  have t3 : vs 3 = .pointer (some ⟨b, 4, none⟩) := told_is _ (htold 3 (by decide)) rfl
  have t4 : vs 4 = .int .i64 P.known := told_is _ (htold 4 (by decide)) rfl
  have t5 : vs 5 = .pointer (some ⟨z, 4, none⟩) := told_is _ (htold 5 (by decide)) rfl
  have t6 : vs 6 = .int .i64 d.ack := told_is _ (htold 6 (by decide)) rfl
  have t7 : vs 7 = .int .i64 ((max P.known a : Nat) : Int) := told_is _ (htold 7 (by decide)) rfl
  have t8 : vs 8 = P0 b := told_is _ (htold 8 (by decide)) rfl
  have t9 : vs 9 = .pointer (some ⟨b, 4, none⟩) := told_is _ (htold 9 (by decide)) rfl
  rw [show (List.range 11).map vs = [vs 0, vs 1, vs 2, vs 3, vs 4, vs 5, vs 6, vs 7, vs 8, vs 9, vs 10] from rfl]
  simp only [t0, t1, t2, t3, t4, t5, t6, t7, t8, t9, putAll, Act.put, List.setIfInBounds_toArray, List.set_cons_succ, List.set_cons_zero]
  clear t0 t1 t2 t3 t4 t5 t6 t7 t8 t9 htold
  have hJ2 : Blk w8 b 32 ((P.forget a).R (.slice vo ws.length vc)) := by have h9 := hJ.2; simp only [hl 10 (by decide)] at h9; exact h9
  have HR := hide ((rhead_sx (unhide HS) (forget_ok (unhide HS).ok (unhide HAL)) rfl hJ2 hJ.1).after (unhide HWK))
  replace HP := hide ((unhide HP).kept hJ.1 (unhide HZB))
  clear hJ hl hJ2 HS
  have hz3 := fits_cell (unhide HP) 3 _ rfl
  have HH := hide (unhide HR).sx.head
  go_wp2_with (
    first
    | (refine wpStoreV (T := 4) (b := b) (i := 7) (v := .bool true) (by rfl) (.tmp 88) (.const (.bool true)) (by rfl) (by rfl) (by kernel_rfl) (by rfl) 32 _ (unhide HH) (st4 _ _ _ _ _ _ (unhide HH) (by simp [Ps.R])) ?_
       intro w5 B5 K5
       replace HR : Hid (RR w b (.slice vo ws.length vc) ws w5 (.slice vo ws.length vc) ws (P.forget a).owe) := (unhide HR).trans (rhead_sx (unhide HR).sx (owe_ok (unhide HR).sx.ok) rfl B5 K5)
       replace HP := hide ((unhide HP).kept K5 (unhide HZB))
       clear B5 K5 hz3))
  replace HH := hide (unhide HR).sx.head
  refine wp_region_any mixed (wpAny_tq 8 rfl (by kernel_rfl) [some (.pointer (some ⟨z, 3, none⟩)), some (.int .i64 d.seq), some (P0 b), some (P0 b), some (.pointer (some ⟨b, 6, none⟩)), some (.int .i64 P.got), some (.int .i64 (P.got + 1)), some (.bool false)] rfl (by kernel_rfl) (by kernel_rfl) ?_ ?_)
  · intro i o' hi hsk ho a' w2 hout hin hk2
    replace hk2 : Kept [] w5 w2 := ⟨hk2.os, hk2.tape, hk2.output, hk2.size, hk2.block⟩
    match i, ho, hsk with
    | 0, ho, hsk =>
      obtain rfl := Option.some.inj ho
      exact o_fld35_3 (.tmp 3) rfl z ((hout 3 (by kernel_rfl)).trans rfl) ⟨_, rfl, tq_is _ _ _ _ rfl, Kept.refl _ _, fun _ _ _ _ _ => trivial⟩
    | 1, ho, hsk =>
      obtain rfl := Option.some.inj ho
      have e0 : a'.eval (.tmp 89) = .pointer (some ⟨z, 3, none⟩) := is_tq (hin 0 89 (by kernel_rfl) (by kernel_rfl)) rfl
      exact o_load2 (.tmp 89) rfl _ _ e0 (fits_cell ((unhide HP).kept hk2 (by simp)) 3 _ rfl) ⟨_, rfl, tq_is _ _ _ _ rfl, Kept.refl _ _, fun _ _ _ _ _ => trivial⟩
    | 2, ho, hsk =>
      obtain rfl := Option.some.inj ho
      exact wp_move (.tmp 0) rfl _ ((hout 0 (by kernel_rfl)).trans rfl) ⟨_, rfl, tq_is _ _ _ _ rfl, Kept.refl _ _, fun _ _ _ _ _ => trivial⟩
    | 3, ho, hsk =>
      obtain rfl := Option.some.inj ho
      have e0 : a'.eval (.tmp 91) = P0 b := is_tq (hin 2 91 (by kernel_rfl) (by kernel_rfl)) rfl
      exact o_nil (.tmp 91) rfl _ e0 ⟨_, rfl, tq_is _ _ _ _ rfl, Kept.refl _ _, fun _ _ _ _ _ => trivial⟩
    | 4, ho, hsk =>
      obtain rfl := Option.some.inj ho
      have e0 : a'.eval (.tmp 92) = P0 b := is_tq (hin 3 92 (by kernel_rfl) (by kernel_rfl)) rfl
      exact o_fld32_6 (.tmp 92) rfl b e0 ⟨_, rfl, tq_is _ _ _ _ rfl, Kept.refl _ _, fun _ _ _ _ _ => trivial⟩
    | 5, ho, hsk =>
      obtain rfl := Option.some.inj ho
      have e0 : a'.eval (.tmp 93) = .pointer (some ⟨b, 6, none⟩) := is_tq (hin 4 93 (by kernel_rfl) (by kernel_rfl)) rfl
      exact o_load2 (.tmp 93) rfl _ _ e0 (fits_cell ((unhide HH).kept hk2 (by simp)) 6 _ rfl) ⟨_, rfl, tq_is _ _ _ _ rfl, Kept.refl _ _, fun _ _ _ _ _ => trivial⟩
    | 6, ho, hsk =>
      obtain rfl := Option.some.inj ho
      have e0 : a'.eval (.tmp 94) = .int .i64 P.got := is_tq (hin 5 94 (by kernel_rfl) (by kernel_rfl)) rfl
      exact o_add2 (.tmp 94) (.const (.int .i64 1)) rfl _ 1 (by have := unhide HG; omega) e0 rfl ⟨_, rfl, tq_is _ _ _ _ rfl, Kept.refl _ _, fun _ _ _ _ _ => trivial⟩
    | 7, ho, hsk =>
      obtain rfl := Option.some.inj ho
      have e0 : a'.eval (.tmp 90) = .int .i64 d.seq := is_tq (hin 1 90 (by kernel_rfl) (by kernel_rfl)) rfl
      have e1 : a'.eval (.tmp 95) = .int .i64 (P.got + 1) := is_tq (hin 6 95 (by kernel_rfl) (by kernel_rfl)) rfl
      exact o_neqT2 (.tmp 90) (.tmp 95) rfl _ _ true (unhide HNX) e0 e1 ⟨_, rfl, tq_is _ _ _ _ rfl, Kept.refl _ _, fun _ _ _ _ _ => trivial⟩
  intro w7 hk9
  replace hk9 : Kept [] w5 w7 := ⟨hk9.os, hk9.tape, hk9.output, hk9.size, hk9.block⟩
  simp only [valsQ, List.map_cons, List.map_nil, Option.getD_some, List.take_succ_cons, List.take_zero, putAll, Act.put, List.setIfInBounds_toArray, List.set_cons_succ, List.set_cons_zero]
  refine wpAny_done (by kernel_rfl) ?_ _
  replace HR := hide ((unhide HR).more hk9)
  replace HP := hide ((unhide HP).kept hk9 (by simp))
  clear hk9 HH
  have HH := hide (unhide HR).sx.head
  have hg6 : w7.cell? ⟨b, 6, none⟩ = some (.int .i64 P.got) := fits_cell (unhide HH) 6 _ rfl
  have hwr : IntKind.i64.wrap (P.got + 1) = P.got + 1 := by have := unhide HG; rw [IntKind.wrap_i64]; omega
  have hwr2 : wrap64 (P.got + 1) = P.got + 1 := by have := unhide HG; unfold wrap64; omega
  have hz5 := fits_cell (unhide HP) 5 _ rfl
  go_wp2_with (
    first
    | (refine wpStoreV (T := 2) (b := b) (i := 6) (v := .int .i64 (P.got + 1)) (by rfl) (.tmp 103) (.tmp 101) (by rfl) (by rfl) (by kernel_rfl) (by rfl) 32 _ (unhide HH) (st2 _ _ _ _ _ _ (unhide HH) (by simp [Ps.R])) ?_
       intro w6 B6 K6
       have HB6 : Hid (Blk w6 b 32 (((P.forget a).take d.seq).R (.slice vo ws.length vc))) := by rw [unhide HX]; exact B6
       replace HR : Hid (RR w b (.slice vo ws.length vc) ws w6 (.slice vo ws.length vc) ws ((P.forget a).take d.seq)) := (unhide HR).trans (rhead_sx (unhide HR).sx (take_ok (P := P.forget a) (by have h9 := (unhide HR).sx.ok; exact ⟨h9.ne, h9.known, h9.told, h9.got, h9.many, h9.small, h9.byte⟩) (unhide HSQ)) rfl (unhide HB6) K6)
       replace HP := hide ((unhide HP).kept K6 (unhide HZB))
       clear B6 K6 hg6 HB6 HH hz5
       have hz5 := fits_cell (unhide HP) 5 _ rfl)
    | (at_builtin; refine wpAppB (by rfl) (.tmp 105) (by rfl) uo m uc d.bs (by kernel_rfl) (unhide HN) ⟨(unhide HV).len, (unhide HV).cap, fun hne => by
         obtain ⟨g, off, e, hr⟩ := (unhide HV).lies hne
         exact ⟨g, off, e, fun j u hj => (unhide HR).kept.cell (hr j u hj) (unhide HVX g off hne e)⟩⟩ (unhide HBY) (by have := unhide HM; omega) ?_
       intro r w4 hB4 hf4 hk4
       have HB4 := hide hB4
       have HF4 : Hid (∀ k, r.ownBlock = some k → w.heap.size ≤ k) := fun k e => by have := hf4 k e; have := (unhide HR).kept.size; omega
       replace HR := hide ((unhide HR).more hk4)
       clear hB4 hf4 hk4 hz5))
  go_ret2
  refine ⟨r, ?_, ?_, ?_, unhide HF4⟩
  · rw [unhide HC]; rfl
  · rw [unhide HC]; exact unhide HR
  · rw [unhide HC]; exact unhide HB4

end Go.Proofs.Ythbgnpbkdeofcaa
