/-
  The walk of do: a Write. do, whichever the kind; what a step keeps. A script, and how much it is.
-/
import Derived.Test.YtffflafalffifaaDob

namespace Go.Proofs.Ytffflafalffifaa.K
open Go.RowKit

section
variable {ops : Array Oper} {rest : List Oper} {op : Oper} {a : Act} {w : World} {Q : Exit → Act → World → Prop}
theorem wpAppS (hgd : op.guard = none) (s x : Operand) (ho : op.op = .call { callee := .builtin .append, args := #[s, x], argTypes := #[36, 36] }) (B : Nat) (v : Value) (L M : List (List Int)) (hs : a.eval s = v) (ao : Option Addr) (m c : Nat) (hx : a.eval x = .slice ao m c) (hnil : ao = none → m = 0 ∧ c = 0)
    (hM : Secs w ao m c M) (hown : w.ownsRow B 38 64 v L.length (u8s L.flatten)) (hk : L.length + m ≤ 2000000) (hB : B ≤ w.heap.size)
    (h : ∀ v' w', w'.ownsRow B 38 64 v' (L ++ M).length (u8s (L ++ M).flatten) → w.grownBy w' v.ownBlock → wpList Try.prog ops Q rest (a.put op.dst v') w') : wpList Try.prog ops Q (op :: rest) a w := by
  obtain ⟨i0, hi, hz0, hz1, hz2⟩ := info_parts Try.zero38
  have hl := hM.len
  cases ao with
  | none =>
    obtain ⟨rfl, rfl⟩ := hnil rfl
    obtain rfl : M = [] := List.length_eq_zero_iff.1 hl
    exact wpList_append_own_none hgd s x 36 ho B 38 i0 64 Try.underlying36 hi v _ _ hs hown hx (h v w (by rw [List.append_nil]; exact hown) ⟨rfl, rfl, rfl, Nat.le_refl _, fun _ _ _ => rfl⟩)
  | some ad =>
    refine wpList_append_own w hgd s x 36 ho B 38 i0 (secV nought) 64 64 Try.underlying36 hi hz0 hz1 hz2 (by kernel_rfl) (by decide) v L.length (u8s L.flatten) hs hown ad m c (u8s M.flatten) hx (by rw [u8s_len, flat_len hM.sec, hl]) ?_ (u8s_one _) (by unfold maxLen; omega) (by omega) hB ?_
    · intro j u hj
      have hne : M ≠ [] := by intro e; subst e; simp [u8s] at hj
      obtain ⟨b, off, eq, _⟩ := hM.lies hne
      cases eq
      exact secs_news hM (by rw [← hl]; exact List.length_pos_iff.2 hne) j u hj
    · intro v' w' g1 g2 _
      refine h v' w' ?_ g2
      rw [List.length_append, hl, List.flatten_append, u8s_app]
      exact g1
theorem wpSec1 (hgd : op.guard = none) (x : Operand) (ho : op.op = .buildSlice 36 1 #[(0, x)]) (s : List Int) (hs : Sec s) (hx : a.eval x = secV s) (h : ∀ W b, b = w.heap.size → Blk W b 38 (u8s s) → Kept [] w W → wpList Try.prog ops Q rest (a.put op.dst (.slice (some ⟨b, 0, none⟩) 1 1)) W) : wpList Try.prog ops Q (op :: rest) a w :=
  wpList_plain hgd fun _ hK => o_sec1 x ho s hs hx (hK _ _ (h _ _ rfl (Blk.new w 38 _) ((Kept.refl _ _).alloc _)))
end
section
variable {o : Oper} {a : Act} {w : World} {K : Act → World → Prop} {Q : Exit → Act → World → Prop}
theorem o_slice36 (x : Operand) (t : Nat) (ho : o.op = .slice 36 x none (some (.tmp t)) none) (g m c k : Nat) (hk : k ≤ c) (hx : a.eval x = .slice (some ⟨g, 0, none⟩) m c) (hy : a.eval (.tmp t) = .int .i64 k) (h : K (a.put o.dst (.slice (some ⟨g, 0, none⟩) k c)) w) : o.wp Try.prog a w K Q := by
  have hy' : a.tmps[t]?.getD undef = .int .i64 k := by simpa [Act.eval] using hy
  unfold Oper.wp execOp
  simp only [ho, hx]
  simp [go_sem, hy', hk]
  exact h
theorem o_idx36o (x y : Operand) (ho : o.op = .indexAddr 36 x y) (g off m c k : Nat) (hk : k < m) (hx : a.eval x = .slice (some ⟨g, off, none⟩) m c) (hy : a.eval y = .int .i64 k) (h : K (a.put o.dst (.pointer (some ⟨g, off + k * 64, none⟩))) w) : o.wp Try.prog a w K Q := by
  unfold Oper.wp execOp
  simp only [ho, hx, hy]
  simp [go_sem, hk]
  exact h
theorem o_eqlS (x y : Operand) (ho : o.op = .binOp .eql 38 x y 38) (s t : List Int) (hs : Sec s) (ht : Sec t) (r : Bool) (hr : decide (s = t) = r) (hx : a.eval x = secV s) (hy : a.eval y = secV t) (h : K (a.put o.dst (.bool r)) w) : o.wp Try.prog a w K Q := by
  unfold Oper.wp execOp
  simp only [ho, hx, hy, Sem.run_bind, guard_secs, eql_secs w s t hs ht, Result.andThen_ok, hr]
  exact h
end
theorem body_secs {W : World} {q cap n : Nat} {S T : List (List Int)} (h : Body W q cap (S ++ T)) (hS : ∀ s ∈ S ++ T, Sec s) (hn : S.length = n) : Secs W (some ⟨q, 0, none⟩) n cap S := by
  obtain ⟨ex, h1, h2, h3, h4⟩ := h
  refine secs_block (ex := u8s T.flatten ++ ex) (fun s hs => hS s (List.mem_append_left _ hs)) hn ?_ cap (by rw [List.length_append] at h2; omega)
  rw [h1, List.flatten_append, u8s_app, List.append_assoc]
theorem Body.kept {w w' : World} {g cap : Nat} {S : List (List Int)} {X : List Nat} (h : Body w g cap S) (hk : Kept X w w') (hg : g ∉ X) : Body w' g cap S := by
  obtain ⟨ex, h1, h2⟩ := h
  exact ⟨ex, hk.heap h1 hg, h2⟩
/-- What the last region keeps: the document's Write is at place 15. -/
structure J11 (w : World) (b g r sg eg : Nat) (D D' : Dev) (b5 : Nat) (x : Sx) (l : Array Bool) (W : World) : Prop where
  dv : Dv W b g D'
  rv : Rv W r sg eg (if l.getD 15 false = true then D' else D)
  x5 : Blk W b5 40 x.C
  k : Kept [b, g, r, sg, eg] w W
theorem J11.same {w W : World} {b g r sg eg : Nat} {D D' : Dev} {b5 : Nat} {x : Sx} {l : Array Bool} (h : J11 w b g r sg eg D D' b5 x l W) (j : Nat) (h1 : 15 ≠ j) (_ : 15 ≠ j) : J11 w b g r sg eg D D' b5 x (l.setIfInBounds j true) W :=
  ⟨h.dv, by rw [getD_oth h1]; exact h.rv, h.x5, h.k⟩
set_option maxHeartbeats 4000000 in
set_option maxRecDepth 100000 in
theorem do_1 (B b g r sg eg : Nat) (D : Dev) (x : Sx) (w : World) (hD : Dv w b g D) (hR : Rv w r sg eg D) (ap : Ap B b g r sg eg) (hx : x.Ok w B) (hk : x.kd = 1) : Calls Try.prog 14 #[P0 b, P0 r, aggV x.C] w (DoR B b g r sg eg ((D.write x.nn x.ee x.aa x.L).2) w) := by
  have hok := hD.ok
  obtain ⟨u1, D', hU⟩ : ∃ u1 D', D.write x.nn x.ee x.aa x.L = (u1, D') := ⟨_, _, rfl⟩
  have hxm := hx.m
  have hsl := hx.secs.sec
  have P22 : Hid (∀ (W : World) (q cap : Nat), Dv W b g D → Secs W (some ⟨q, 0, none⟩) x.m cap x.L → q ≠ b ∧ q ≠ g → Calls Try.prog 22 #[P0 b, .int .i64 x.nn, .int .i64 x.ee, .int .i64 x.aa, .slice (some ⟨q, 0, none⟩) x.m cap] W fun e w' => e = .returned (.int .i64 u1) ∧ Dv w' b g D' ∧ Kept [b, g] W w') := fun W q cap h hS hq => by
    have := write22 b g D x.nn x.ee x.aa (some ⟨q, 0, none⟩) x.m cap x.L W h hx.aa (by omega) hS (fun h off e => by cases e; simp; omega)
    rw [hU] at this
    exact this
  have P41 : Hid (∀ (W : World), Rv W r sg eg D → Kept [b, g, r, sg, eg] w W → Calls Try.prog 41 #[P0 r, .int .i64 x.nn, .int .i64 x.ee, .int .i64 x.aa, .slice x.ao x.m x.c] W fun e w' => e = .returned (.int .i64 u1) ∧ Rv w' r sg eg D' ∧ Kept [r, sg] W w') := fun W h hK => by
    have hg := ap.ge
    have hx' := hx.kept hK (by intro k hk; simp at hk; omega)
    have := r_writeE r sg eg D x.nn x.ee x.aa x.ao x.m x.c x.L W h hx.aa (by omega) hx'.secs (fun hne b' off e hm => by have := hx.old hne b' off e; simp at hm; omega)
    rw [hU] at this
    exact this
  rw [hU]
  clear hU
  have hlC := C_len hx
  have HX := hide hx
  have HD := hide hD
  have HR := hide hR
  have HA := hide ap
  have HK := hide hk
  clear hk
  clear hD hR ap hx
  go_enter Try.func14, Try.ntmps14
  go_wp2_with (
    first
    | (refine wpBoxV (by rfl) (.tmp 2) (by rfl) x.C (by rfl) ?_
       intro W1 b5 e1 B1 K1
       have G : Hid (Dg w W1 b g r sg eg D D b5 x) := ⟨(unhide HD).kept K1 (by simp) (by simp), (unhide HR).kept K1 (by simp) (by simp) (by simp), B1, K1.mono (by simp), by omega⟩
       have N5 := hide ((unhide G).apart (unhide HD) (unhide HR))
       obtain ⟨q0, q1, q2, q3, q4, q5⟩ := x_cells (unhide G).x5
       rw [unhide HK] at q0
       have HW1 : Hid (w.heap.size ≤ W1.heap.size ∧ b5 < W1.heap.size) := ⟨K1.size, B1.lt⟩
       have HK1 := hide K1
       clear e1 B1 K1
       refine Stp.go ?_))
  constructor
  go_wp2_with (
    first
    | (at_builtin; refine wpAppS (by rfl) (.const (.slice none 0 0)) (.tmp 30) (by rfl) W1.heap.size (.slice none 0 0) [] x.L (by rfl) x.ao x.m x.c (by rfl) (unhide HX).nil ((unhide HX).secs.kept (unhide HK1) (fun _ _ _ => by simp)) (World.ownsRow_nil _ _ _ _) (by have := (unhide HX).m; simp; omega) (Nat.le_refl _) ?_
       intro v1 W2 hO1 g1
       have KA : Hid (Kept [] W1 W2) := kept_grown (Kept.refl _ _) g1 (fun k h => by simp [Value.ownBlock] at h)
       have O1 : Hid (W2.ownsRow W1.heap.size 38 64 v1 x.L.length (u8s x.L.flatten)) := hO1
       clear hO1 g1 q0 q1 q2 q3 q4 q5
       refine Stp.go ?_))
  constructor
  go_wp2_with (
    first
    | (go_at_call 23
       refine (full23 7 _ (by omega)).mono ?_
       rintro e W3 ⟨rfl, k3⟩
       replace O1 := hide (owns_kept (unhide O1) k3)
       replace KA := hide ((unhide KA).trans k3)
       clear k3
       refine Stp.go ?_))
  constructor
  go_wp2_with (
    first
    | (refine wpSec1 (by rfl) (.tmp 32) (by rfl) (fullS 7) (fullS_sec (by omega)) (by kernel_rfl) ?_
       intro W4 p4 e4 B4 K4
       replace O1 := hide (owns_kept (unhide O1) K4)
       replace KA := hide ((unhide KA).trans K4)
       have V4 := hide (blk_secs (fullS_sec (by omega)) B4)
       clear e4 B4 K4
       refine Stp.go ?_))
  constructor
  go_wp2_with (
    first
    | (at_builtin; refine wpAppS (by rfl) (.tmp 31) (.tmp 33) (by rfl) W1.heap.size v1 x.L [fullS 7] (by rfl) (some ⟨p4, 0, none⟩) 1 1 (by rfl) (fun h => by cases h) (unhide V4) (unhide O1) (by have := (unhide HX).m; have := (unhide HX).secs.len; omega) (unhide KA).size ?_
       intro v5 W5 hO5 g5
       replace KA : Hid (Kept [] W1 W5) := kept_grown (unhide KA) g5 (fun k h => ((unhide O1).lt k h).1)
       have hlm := (unhide HX).secs.len
       rw [List.length_append, hlm, List.length_singleton] at hO5
       obtain ⟨q, cap, ex, rfl, hq1, hq2, hq3, hq4, hq5⟩ := owns_block hO5 (by omega)
       have HO : Hid (Body W5 q cap (x.L ++ [fullS 7])) := ⟨ex, hq2, by rw [List.length_append, hlm]; exact hq3, by rw [List.length_append, hlm]; exact hq4, hq5⟩
       replace G := hide ((unhide G).step (unhide KA))
       have NQ : Hid (q ≠ b ∧ q ≠ g ∧ q ≠ r ∧ q ≠ sg ∧ q ≠ eg ∧ q ≠ b5 ∧ w.heap.size ≤ q) := by
         have h1 := (unhide HD).lt
         have h2 := (unhide HR).lt
         have h3 := unhide HW1
         exact ⟨by omega, by omega, by omega, by omega, by omega, by omega, by omega⟩
       clear hO5 g5 hq1 hq2 hq4 hq5 KA V4 O1))
  have hcap : x.m + 1 ≤ cap := by omega
  have hsA : ∀ s ∈ x.L ++ [fullS 7], Sec s := by
    intro s hs
    rcases List.mem_append.1 hs with h | h
    · exact hsl s h
    · rw [List.mem_singleton.1 h]; exact fullS_sec (by omega)
  refine wp_region_any mixed (wpAny_tpk 12 2 rfl (by kernel_rfl) [.is (P0 b), .is (.pointer (some ⟨b5, 1, none⟩)), .is (.int .i64 x.nn), .is (.pointer (some ⟨b5, 3, none⟩)), .is (.int .i64 x.ee), .is (.pointer (some ⟨b5, 2, none⟩)), .is (.int .i64 x.aa), .is (.slice (some ⟨q, 0, none⟩) (x.m + 1) cap), .is (.pointer (some ⟨b5, 5, none⟩)), .is (.slice x.ao x.m x.c), .is (.int .i64 x.m), .is (.slice (some ⟨q, 0, none⟩) x.m cap)] rfl (by kernel_rfl) (by kernel_rfl) ?_ ?_)
  · intro i o' hi hsk ho a' w2 hout hin hk2
    replace hk2 : Kept [] W5 w2 := ⟨hk2.os, hk2.tape, hk2.output, hk2.size, hk2.block⟩
    match i, ho, hsk with
    | 0, ho, hsk =>
      obtain rfl := Option.some.inj ho
      exact wp_move (.tmp 0) rfl _ ((hout 0 (by kernel_rfl)).trans rfl) ⟨_, rfl, tp_is _ _ _ _ rfl, Kept.refl _ _, fun _ _ _ _ _ => trivial⟩
    | 1, ho, hsk =>
      obtain rfl := Option.some.inj ho
      exact o_fld40_1 (.tmp 5) rfl b5 ((hout 5 (by kernel_rfl)).trans rfl) ⟨_, rfl, tp_is _ _ _ _ rfl, Kept.refl _ _, fun _ _ _ _ _ => trivial⟩
    | 2, ho, hsk =>
      obtain rfl := Option.some.inj ho
      have e0 : a'.eval (.tmp 36) = .pointer (some ⟨b5, 1, none⟩) := is_tp (hin 1 36 (by kernel_rfl) (by kernel_rfl)) rfl
      exact o_load3 (.tmp 36) rfl ⟨b5, 1, none⟩ _ e0 (x_cells ((unhide G).x5.kept hk2 (by simp))).2.1 ⟨_, rfl, tp_is _ _ _ _ rfl, Kept.refl _ _, fun _ _ _ _ _ => trivial⟩
    | 3, ho, hsk =>
      obtain rfl := Option.some.inj ho
      exact o_fld40_3 (.tmp 5) rfl b5 ((hout 5 (by kernel_rfl)).trans rfl) ⟨_, rfl, tp_is _ _ _ _ rfl, Kept.refl _ _, fun _ _ _ _ _ => trivial⟩
    | 4, ho, hsk =>
      obtain rfl := Option.some.inj ho
      have e0 : a'.eval (.tmp 38) = .pointer (some ⟨b5, 3, none⟩) := is_tp (hin 3 38 (by kernel_rfl) (by kernel_rfl)) rfl
      exact o_load2 (.tmp 38) rfl ⟨b5, 3, none⟩ _ e0 (x_cells ((unhide G).x5.kept hk2 (by simp))).2.2.2.1 ⟨_, rfl, tp_is _ _ _ _ rfl, Kept.refl _ _, fun _ _ _ _ _ => trivial⟩
    | 5, ho, hsk =>
      obtain rfl := Option.some.inj ho
      exact o_fld40_2 (.tmp 5) rfl b5 ((hout 5 (by kernel_rfl)).trans rfl) ⟨_, rfl, tp_is _ _ _ _ rfl, Kept.refl _ _, fun _ _ _ _ _ => trivial⟩
    | 6, ho, hsk =>
      obtain rfl := Option.some.inj ho
      have e0 : a'.eval (.tmp 40) = .pointer (some ⟨b5, 2, none⟩) := is_tp (hin 5 40 (by kernel_rfl) (by kernel_rfl)) rfl
      exact o_load3 (.tmp 40) rfl ⟨b5, 2, none⟩ _ e0 (x_cells ((unhide G).x5.kept hk2 (by simp))).2.2.1 ⟨_, rfl, tp_is _ _ _ _ rfl, Kept.refl _ _, fun _ _ _ _ _ => trivial⟩
    | 7, ho, hsk =>
      obtain rfl := Option.some.inj ho
      exact wp_move (.tmp 9) rfl _ ((hout 9 (by kernel_rfl)).trans rfl) ⟨_, rfl, tp_is _ _ _ _ rfl, Kept.refl _ _, fun _ _ _ _ _ => trivial⟩
    | 8, ho, hsk =>
      obtain rfl := Option.some.inj ho
      exact o_fld40_5 (.tmp 5) rfl b5 ((hout 5 (by kernel_rfl)).trans rfl) ⟨_, rfl, tp_is _ _ _ _ rfl, Kept.refl _ _, fun _ _ _ _ _ => trivial⟩
    | 9, ho, hsk =>
      obtain rfl := Option.some.inj ho
      have e0 : a'.eval (.tmp 43) = .pointer (some ⟨b5, 5, none⟩) := is_tp (hin 8 43 (by kernel_rfl) (by kernel_rfl)) rfl
      exact o_load36 (.tmp 43) rfl ⟨b5, 5, none⟩ _ e0 (x_cells ((unhide G).x5.kept hk2 (by simp))).2.2.2.2.2 ⟨_, rfl, tp_is _ _ _ _ rfl, Kept.refl _ _, fun _ _ _ _ _ => trivial⟩
    | 10, ho, hsk =>
      obtain rfl := Option.some.inj ho
      have e0 : a'.eval (.tmp 44) = .slice x.ao x.m x.c := is_tp (hin 9 44 (by kernel_rfl) (by kernel_rfl)) rfl
      exact o_len36 44 rfl _ _ _ e0 ⟨_, rfl, tp_is _ _ _ _ rfl, Kept.refl _ _, fun _ _ _ _ _ => trivial⟩
    | 11, ho, hsk =>
      obtain rfl := Option.some.inj ho
      have e0 : a'.eval (.tmp 42) = .slice (some ⟨q, 0, none⟩) (x.m + 1) cap := is_tp (hin 7 42 (by kernel_rfl) (by kernel_rfl)) rfl
      have e1 : a'.eval (.tmp 45) = .int .i64 x.m := is_tp (hin 10 45 (by kernel_rfl) (by kernel_rfl)) rfl
      exact o_slice36 (.tmp 42) 45 rfl q _ _ x.m (by omega) e0 e1 ⟨_, rfl, tp_is _ _ _ _ rfl, Kept.refl _ _, fun _ _ _ _ _ => trivial⟩
  intro xx w9 hf9 hk9
  replace hk9 : Kept [] W5 w9 := ⟨hk9.os, hk9.tape, hk9.output, hk9.size, hk9.block⟩
  simp only [valsP, Nat.reduceAdd, List.take_succ_cons, List.take_zero, putAll, Act.put, List.setIfInBounds_toArray, List.set_cons_succ, List.set_cons_zero]
  refine wpAny_all (rs := [12]) (by kernel_rfl) (by simp) ?_
  intro i hi
  obtain rfl : i = 12 := by simpa using hi
  have G9 := (unhide G).step hk9
  have hq9 := (unhide NQ)
  refine wpOp_of rfl rfl (wp_callF 22 _ _ rfl #[P0 b, .int .i64 x.nn, .int .i64 x.ee, .int .i64 x.aa, .slice (some ⟨q, 0, none⟩) x.m cap] (by simp only [List.map_toArray, List.map_cons, List.map_nil]; rfl) (cg22 _ _) ((unhide P22 _ _ _ G9.dv (body_secs (Body.kept (unhide HO) hk9 (by simp)) hsA hlm) ⟨hq9.1, hq9.2.1⟩).mono ?_))
  rintro e W7 ⟨rfl, d7, k7⟩
  refine ⟨_, rfl, ?_⟩
  refine wpAny_all (rs := [13]) (by kernel_rfl) (by simp) ?_
  intro i hi
  obtain rfl : i = 13 := by simpa using hi
  refine wpOp_of rfl rfl (wp_assignV (.tmp 47) rfl (.int .i64 u1) (by kernel_rfl) ?_)
  refine wpAny_done (by kernel_rfl) ?_ _
  replace HO := hide (Body.kept (Body.kept (unhide HO) hk9 (by simp)) k7 (by simp; omega))
  replace G := hide (G9.dstep (unhide HA) (unhide N5) d7 k7)
  clear hf9 hk9 G9 d7 k7 hq9 xx
  have rg7 : ∀ {W : World}, Body W q cap (x.L ++ [fullS 7]) → W.rangeAt q (x.m * 64) (u8s (fullS 7)) := by
    intro W h
    have := h.range hsA x.m (by rw [List.length_append, hlm]; simp)
    have e : (x.L ++ [fullS 7])[x.m]'(by rw [List.length_append, hlm]; simp) = fullS 7 := by
      rw [List.getElem_append_right (by omega)]; simp
    rwa [e] at this
  go_wp2_with fail
  refine wp_region_any mixed (wpAny_tq 9 rfl (by kernel_rfl) [some (.slice (some ⟨q, 0, none⟩) (x.m + 1) cap), some (.pointer (some ⟨b5, 5, none⟩)), some (.slice x.ao x.m x.c), some (.int .i64 x.m), some (.pointer (some ⟨q, x.m * 64, none⟩)), some (secV (fullS 7)), some (secV (fullS 7)), some (.bool true), some (.bool true)] rfl (by kernel_rfl) (by kernel_rfl) ?_ ?_)
  · intro i o' hi hsk ho a' w2 hout hin hk2
    replace hk2 : Kept [] W7 w2 := ⟨hk2.os, hk2.tape, hk2.output, hk2.size, hk2.block⟩
    match i, ho, hsk with
    | 0, ho, hsk =>
      obtain rfl := Option.some.inj ho
      exact wp_move (.tmp 9) rfl _ ((hout 9 (by kernel_rfl)).trans rfl) ⟨_, rfl, tq_is _ _ _ _ rfl, Kept.refl _ _, fun _ _ _ _ _ => trivial⟩
    | 1, ho, hsk =>
      obtain rfl := Option.some.inj ho
      exact o_fld40_5 (.tmp 5) rfl b5 ((hout 5 (by kernel_rfl)).trans rfl) ⟨_, rfl, tq_is _ _ _ _ rfl, Kept.refl _ _, fun _ _ _ _ _ => trivial⟩
    | 2, ho, hsk =>
      obtain rfl := Option.some.inj ho
      have e0 : a'.eval (.tmp 49) = .pointer (some ⟨b5, 5, none⟩) := is_tq (hin 1 49 (by kernel_rfl) (by kernel_rfl)) rfl
      exact o_load36 (.tmp 49) rfl ⟨b5, 5, none⟩ _ e0 (x_cells ((unhide G).x5.kept hk2 (by simp))).2.2.2.2.2 ⟨_, rfl, tq_is _ _ _ _ rfl, Kept.refl _ _, fun _ _ _ _ _ => trivial⟩
    | 3, ho, hsk =>
      obtain rfl := Option.some.inj ho
      have e0 : a'.eval (.tmp 50) = .slice x.ao x.m x.c := is_tq (hin 2 50 (by kernel_rfl) (by kernel_rfl)) rfl
      exact o_len36 50 rfl _ _ _ e0 ⟨_, rfl, tq_is _ _ _ _ rfl, Kept.refl _ _, fun _ _ _ _ _ => trivial⟩
    | 4, ho, hsk =>
      obtain rfl := Option.some.inj ho
      have e0 : a'.eval (.tmp 48) = .slice (some ⟨q, 0, none⟩) (x.m + 1) cap := is_tq (hin 0 48 (by kernel_rfl) (by kernel_rfl)) rfl
      have e1 : a'.eval (.tmp 51) = .int .i64 x.m := is_tq (hin 3 51 (by kernel_rfl) (by kernel_rfl)) rfl
      exact o_idxS (.tmp 48) (.tmp 51) rfl q _ cap x.m (by omega) e0 e1 ⟨_, rfl, tq_is _ _ _ _ rfl, Kept.refl _ _, fun _ _ _ _ _ => trivial⟩
    | 5, ho, hsk =>
      obtain rfl := Option.some.inj ho
      have e0 : a'.eval (.tmp 52) = .pointer (some ⟨q, x.m * 64, none⟩) := is_tq (hin 4 52 (by kernel_rfl) (by kernel_rfl)) rfl
      exact wp_loadA row38 (.tmp 52) rfl q (x.m * 64) e0 (u8s (fullS 7)) (sec_u8 (fullS_sec (by omega))) (rg7 (Body.kept (unhide HO) hk2 (by simp))) ⟨_, rfl, tq_is _ _ _ _ rfl, Kept.refl _ _, fun _ _ _ _ _ => trivial⟩
    | 6, ho, hsk =>
      obtain rfl := Option.some.inj ho
      refine wp_callF 23 _ _ rfl #[.int .u8 7] (by simp; rfl) (ch23 _ _) ((full23 7 _ (by omega)).mono ?_)
      rintro e w3 ⟨rfl, hk3⟩
      exact ⟨_, rfl, _, rfl, tq_is _ _ _ _ rfl, hk3, fun _ _ _ _ _ => trivial⟩
    | 7, ho, hsk =>
      obtain rfl := Option.some.inj ho
      have e0 : a'.eval (.tmp 53) = secV (fullS 7) := is_tq (hin 5 53 (by kernel_rfl) (by kernel_rfl)) rfl
      have e1 : a'.eval (.tmp 54) = secV (fullS 7) := is_tq (hin 6 54 (by kernel_rfl) (by kernel_rfl)) rfl
      exact o_eqlS (.tmp 53) (.tmp 54) rfl _ _ (fullS_sec (by omega)) (fullS_sec (by omega)) true (by simp) e0 e1 ⟨_, rfl, tq_is _ _ _ _ rfl, Kept.refl _ _, fun _ _ _ _ _ => trivial⟩
    | 8, ho, hsk =>
      obtain rfl := Option.some.inj ho
      have e0 : a'.eval (.tmp 55) = .bool true := is_tq (hin 7 55 (by kernel_rfl) (by kernel_rfl)) rfl
      exact wp_assignV (.tmp 55) rfl _ e0 ⟨_, rfl, tq_is _ _ _ _ rfl, Kept.refl _ _, fun _ _ _ _ _ => trivial⟩
  intro w9 hk9
  replace hk9 : Kept [] W7 w9 := ⟨hk9.os, hk9.tape, hk9.output, hk9.size, hk9.block⟩
  simp only [valsQ, List.map_cons, List.map_nil, Option.getD_some, List.take_succ_cons, List.take_zero, putAll, Act.put, List.setIfInBounds_toArray]
  refine wpAny_done (by kernel_rfl) ?_ _
  have HO2 : Hid (∃ O : List (List Int), O.length = x.m + 1 ∧ (∀ s ∈ O, Sec s) ∧ (∀ j, 0 ≤ j → j < x.m → O[j]? = x.L[j]?) ∧ Body w9 q cap O) := ⟨_, by rw [List.length_append, hlm]; rfl, hsA, fun j _ hj => by rw [List.getElem?_append_left (by omega)], Body.kept (unhide HO) hk9 (by simp)⟩
  replace G := hide ((unhide G).step hk9)
  clear hk9 HO rg7
  go_wp2_with fail
  go_loopw [11, 12] (fun ok i wr => ∃ k : Nat, k ≤ x.m ∧ ok = .bool true ∧ i = .int .i64 k ∧ Hid (∃ O : List (List Int), O.length = x.m + 1 ∧ (∀ s ∈ O, Sec s) ∧ (∀ j, k ≤ j → j < x.m → O[j]? = x.L[j]?) ∧ Body wr q cap O) ∧ Hid (Dg w wr b g r sg eg D' D b5 x)) (fun _ i _ => x.m - (intOf i).toNat)
  case atStart => exact ⟨0, by omega, rfl, rfl, HO2, G⟩
  case round =>
    clear HO2 G
    obtain ⟨k, hk, rfl, rfl, HO2, G⟩ := hrel
    obtain ⟨q0, q1, q2, q3, q4, q5⟩ := x_cells (unhide G).x5
    by_cases hlt : k < x.m
    · obtain ⟨O, ho1, ho2, ho3, ho4⟩ := unhide HO2
      obtain ⟨s, hs⟩ : ∃ s, x.L[k]? = some s := ⟨_, List.getElem?_eq_getElem (by omega)⟩
      have hsO : O[k]'(by omega) = s := by have := ho3 k (Nat.le_refl _) hlt; rw [hs, List.getElem?_eq_getElem (by omega)] at this; exact Option.some.inj this
      have hsL : x.L[k]'(by omega) = s := by rw [List.getElem?_eq_getElem (by omega)] at hs; exact Option.some.inj hs
      have HSs : Hid (Sec s) := hsl s (List.mem_of_getElem? hs)
      have RO : Hid (wr.rangeAt q (k * 64) (u8s s)) := by have := ho4.range ho2 k (by omega); rw [hsO] at this; exact this
      have hx' := (unhide HX).kept (unhide G).k (by have := (unhide HA).ge; intro k hk; simp at hk; omega)
      obtain ⟨lh, loff, hao, hlr⟩ := hx'.secs.lies (by intro e; rw [e] at hs; simp at hs)
      have HAO := hide hao
      have RL : Hid (wr.rangeAt lh (loff + k * 64) (u8s s)) := by have := hlr k (by omega); rw [hsL] at this; exact this
      have HO4 := hide ho4
      have HO3 := hide ho3
      have th := hide (ho4.there ho2 k (by omega))
      clear hx' hlr hao ho3 ho4 HO2 hsO hsL
      go_wp2_with fail
      refine wp_region_any mixed (wpAny_tq1 13 rfl (by kernel_rfl) [some (.bool true), some (.bool true), some (.slice (some ⟨q, 0, none⟩) (x.m + 1) cap), some (.int .i64 k), some (.pointer (some ⟨q, k * 64, none⟩)), some (secV s), some (.pointer (some ⟨b5, 5, none⟩)), some (.slice x.ao x.m x.c), some (.int .i64 k), some (.pointer (some ⟨lh, loff + k * 64, none⟩)), some (secV s), some (.bool true), some (.bool true)] rfl (by kernel_rfl) (by kernel_rfl) ?_ ?_)
      · intro i o' hi hsk ho a' w2 hout hin hk2
        replace hk2 : Kept [] wr w2 := ⟨hk2.os, hk2.tape, hk2.output, hk2.size, hk2.block⟩
        match i, ho, hsk with
        | 0, ho, hsk =>
          obtain rfl := Option.some.inj ho
          exact wp_move (.tmp 11) rfl _ ((hout 11 (by kernel_rfl)).trans rfl) ⟨_, rfl, tq_is _ _ _ _ rfl, Kept.refl _ _, fun _ _ _ _ _ => trivial⟩
        | 1, ho, hsk =>
          obtain rfl := Option.some.inj ho
          have e0 : a'.eval (.tmp 63) = .bool true := is_tq (hin 0 63 (by kernel_rfl) (by kernel_rfl)) rfl
          exact wp_move (.tmp 63) rfl _ e0 ⟨_, rfl, tq_is _ _ _ _ rfl, Kept.refl _ _, fun _ _ _ _ _ => trivial⟩
        | 2, ho, hsk =>
          obtain rfl := Option.some.inj ho
          exact wp_move (.tmp 9) rfl _ ((hout 9 (by kernel_rfl)).trans rfl) ⟨_, rfl, tq_is _ _ _ _ rfl, Kept.refl _ _, fun _ _ _ _ _ => trivial⟩
        | 3, ho, hsk =>
          obtain rfl := Option.some.inj ho
          exact wp_move (.tmp 12) rfl _ ((hout 12 (by kernel_rfl)).trans rfl) ⟨_, rfl, tq_is _ _ _ _ rfl, Kept.refl _ _, fun _ _ _ _ _ => trivial⟩
        | 4, ho, hsk =>
          obtain rfl := Option.some.inj ho
          have e0 : a'.eval (.tmp 65) = .slice (some ⟨q, 0, none⟩) (x.m + 1) cap := is_tq (hin 2 65 (by kernel_rfl) (by kernel_rfl)) rfl
          have e1 : a'.eval (.tmp 66) = .int .i64 k := is_tq (hin 3 66 (by kernel_rfl) (by kernel_rfl)) rfl
          exact o_idxS (.tmp 65) (.tmp 66) rfl q _ cap k (by omega) e0 e1 ⟨_, rfl, tq_is _ _ _ _ rfl, Kept.refl _ _, fun _ _ _ _ _ => trivial⟩
        | 5, ho, hsk =>
          obtain rfl := Option.some.inj ho
          have e0 : a'.eval (.tmp 67) = .pointer (some ⟨q, k * 64, none⟩) := is_tq (hin 4 67 (by kernel_rfl) (by kernel_rfl)) rfl
          exact wp_loadA row38 (.tmp 67) rfl q (k * 64) e0 (u8s s) (sec_u8 (unhide HSs)) (fun j u hj => hk2.cell (unhide RO j u hj) (by simp)) ⟨_, rfl, tq_is _ _ _ _ rfl, Kept.refl _ _, fun _ _ _ _ _ => trivial⟩
        | 6, ho, hsk =>
          obtain rfl := Option.some.inj ho
          exact o_fld40_5 (.tmp 5) rfl b5 ((hout 5 (by kernel_rfl)).trans rfl) ⟨_, rfl, tq_is _ _ _ _ rfl, Kept.refl _ _, fun _ _ _ _ _ => trivial⟩
        | 7, ho, hsk =>
          obtain rfl := Option.some.inj ho
          have e0 : a'.eval (.tmp 69) = .pointer (some ⟨b5, 5, none⟩) := is_tq (hin 6 69 (by kernel_rfl) (by kernel_rfl)) rfl
          exact o_load36 (.tmp 69) rfl ⟨b5, 5, none⟩ _ e0 (x_cells ((unhide G).x5.kept hk2 (by simp))).2.2.2.2.2 ⟨_, rfl, tq_is _ _ _ _ rfl, Kept.refl _ _, fun _ _ _ _ _ => trivial⟩
        | 8, ho, hsk =>
          obtain rfl := Option.some.inj ho
          exact wp_move (.tmp 12) rfl _ ((hout 12 (by kernel_rfl)).trans rfl) ⟨_, rfl, tq_is _ _ _ _ rfl, Kept.refl _ _, fun _ _ _ _ _ => trivial⟩
        | 9, ho, hsk =>
          obtain rfl := Option.some.inj ho
          have e0 : a'.eval (.tmp 70) = .slice x.ao x.m x.c := is_tq (hin 7 70 (by kernel_rfl) (by kernel_rfl)) rfl
          have e1 : a'.eval (.tmp 71) = .int .i64 k := is_tq (hin 8 71 (by kernel_rfl) (by kernel_rfl)) rfl
          exact o_idx36o (.tmp 70) (.tmp 71) rfl lh loff _ x.c k hlt (e0.trans (by rw [unhide HAO])) e1 ⟨_, rfl, tq_is _ _ _ _ rfl, Kept.refl _ _, fun _ _ _ _ _ => trivial⟩
        | 10, ho, hsk =>
          obtain rfl := Option.some.inj ho
          have e0 : a'.eval (.tmp 72) = .pointer (some ⟨lh, loff + k * 64, none⟩) := is_tq (hin 9 72 (by kernel_rfl) (by kernel_rfl)) rfl
          exact wp_loadA row38 (.tmp 72) rfl lh (loff + k * 64) e0 (u8s s) (sec_u8 (unhide HSs)) (fun j u hj => hk2.cell (unhide RL j u hj) (by simp)) ⟨_, rfl, tq_is _ _ _ _ rfl, Kept.refl _ _, fun _ _ _ _ _ => trivial⟩
        | 11, ho, hsk =>
          obtain rfl := Option.some.inj ho
          have e0 : a'.eval (.tmp 68) = secV s := is_tq (hin 5 68 (by kernel_rfl) (by kernel_rfl)) rfl
          have e1 : a'.eval (.tmp 73) = secV s := is_tq (hin 10 73 (by kernel_rfl) (by kernel_rfl)) rfl
          exact o_eqlS (.tmp 68) (.tmp 73) rfl _ _ (unhide HSs) (unhide HSs) true (by simp) e0 e1 ⟨_, rfl, tq_is _ _ _ _ rfl, Kept.refl _ _, fun _ _ _ _ _ => trivial⟩
        | 12, ho, hsk =>
          obtain rfl := Option.some.inj ho
          have e0 : a'.eval (.tmp 64) = .bool true := is_tq (hin 1 64 (by kernel_rfl) (by kernel_rfl)) rfl
          have e1 : a'.eval (.tmp 74) = .bool true := is_tq (hin 11 74 (by kernel_rfl) (by kernel_rfl)) rfl
          exact o_pick (.tmp 64) (.tmp 74) rfl _ e0 e1 ⟨_, rfl, tq_is _ _ _ _ rfl, Kept.refl _ _, fun _ _ _ _ _ => trivial⟩
      intro w9 hk9
      replace hk9 : Kept [] wr w9 := ⟨hk9.os, hk9.tape, hk9.output, hk9.size, hk9.block⟩
      simp only [valsQ, List.map_cons, List.map_nil, Option.getD_some, List.take_succ_cons, List.take_zero, putAll, Act.put, List.setIfInBounds_toArray, List.set_cons_succ, List.set_cons_zero]
      refine wpAny_all (rs := [13]) (by kernel_rfl) (by simp) ?_
      intro i hi
      obtain rfl : i = 13 := by simpa using hi
      refine wpOp_of rfl rfl (wp_assignV (.tmp 75) rfl (.bool true) (by kernel_rfl) ?_)
      refine wpAny_done (by kernel_rfl) ?_ _
      replace G := hide ((unhide G).step hk9)
      replace HO4 := hide (Body.kept (unhide HO4) hk9 (by simp))
      clear hk9 q0 q1 q2 q3 q4 q5 RO RL HSs th
      go_wp2_with (
        first
        | (go_at_call 23
           refine (full23 9 _ (by omega)).mono ?_
           rintro e V1 ⟨rfl, k3⟩
           replace G := hide ((unhide G).step k3)
           replace HO4 := hide (Body.kept (unhide HO4) k3 (by simp))
           clear k3
           refine Stp.go ?_))
      constructor
      go_wp2_with (
        first
        | (refine wpStoreA row38 (by rfl) (.tmp 79) (.tmp 78) (by rfl) q (k * 64) (u8s (fullS 9)) (by kernel_rfl) (by kernel_rfl) (sec_u8 (fullS_sec (by omega))) (u8s_one _) (Body.there (unhide HO4) ho2 k (by omega)) ?_
           have hkk : Kept [q] V1 (V1.setCells q (k * 64) (u8s (fullS 9))) := (Kept.refl _ _).setCells _ _ (by simp)
           have G2 : Hid (Dg w (V1.setCells q (k * 64) (u8s (fullS 9))) b g r sg eg D' D b5 x) := by
             have hq := unhide NQ
             have gg := unhide G
             exact ⟨gg.dv.kept hkk (by simp; omega) (by simp; omega), gg.rv.kept hkk (by simp; omega) (by simp; omega) (by simp; omega), gg.x5.kept hkk (by simp; omega), gg.k.fresh hkk (fun i hi hl => by simp at hi; omega), gg.new⟩
           have HO6 : Hid (∃ O : List (List Int), O.length = x.m + 1 ∧ (∀ s ∈ O, Sec s) ∧ (∀ j, k + 1 ≤ j → j < x.m → O[j]? = x.L[j]?) ∧ Body (V1.setCells q (k * 64) (u8s (fullS 9))) q cap O) := by
             refine ⟨O.set k (fullS 9), by rw [List.length_set]; exact ho1, fun s hs => ?_, fun j hj hjm => by rw [List.getElem?_set_ne (by omega)]; exact unhide HO3 j (by omega) hjm, Body.put (unhide HO4) ho2 k (by omega) _ (fullS_sec (by omega)).1⟩
             rcases List.mem_or_eq_of_mem_set hs with h | h
             · exact ho2 s h
             · rw [h]; exact fullS_sec (by omega)
           generalize V1.setCells q (k * 64) (u8s (fullS 9)) = V2 at *
           clear hkk HO4 HO3 G))
      go_roundw
      case rel => exact ⟨k + 1, by omega, rfl, by go_num, HO6, G2⟩
      case measure => simp [intOf]; omega
    · clear HO2
      go_wp2_with fail
      clear q0 q1 q2 q3 q4 q5
      have J11c : ∀ {l : Array Bool} {W W' : World}, J11 w b g r sg eg D D' b5 x l W → l.size = 21 → Rv W' r sg eg D' → Kept [r, sg] W W' → J11 w b g r sg eg D D' b5 x (l.setIfInBounds 15 true) W' := by
        intro l W W' h hl d3 k3
        have hn := (unhide HA).ne
        have n5 := unhide N5
        refine ⟨h.dv.kept k3 (by simp; omega) (by simp; omega), by rw [getD_own (by omega)]; exact d3, h.x5.kept k3 (by simp; omega), h.k.trans (k3.mono ?_)⟩
        intro k hk
        simp at hk ⊢
        omega
      refine wp_region_any mixed (wpAny_tw (by kernel_rfl) [some (P0 b), some (P0 r), some (.bool true), some (.bool true), some (.int .i64 u1), some (.int .i64 u1), some (P0 r), some (.pointer (some ⟨b5, 1, none⟩)), some (.int .i64 x.nn), some (.pointer (some ⟨b5, 3, none⟩)), some (.int .i64 x.ee), some (.pointer (some ⟨b5, 2, none⟩)), some (.int .i64 x.aa), some (.pointer (some ⟨b5, 5, none⟩)), some (.slice x.ao x.m x.c), some (.int .i64 u1), some (.bool true), some (.bool true), some (P0 b), some (P0 r), some (.bool true)] rfl (by kernel_rfl) (by kernel_rfl) (J11 w b g r sg eg D D' b5 x) ?_ ?_ ?_ ?_)
      · have kk : Kept [] wr (wr.drew) := ⟨rfl, rfl, rfl, Nat.le_refl _, fun _ _ _ => rfl⟩
        have G1 := (unhide G).step kk
        have hrep : (Array.replicate 21 false).getD 15 false = false := by decide
        exact ⟨G1.dv, by rw [show (Array.replicate (#[_, _, _, _, _, _, _, _, _, _, _, _, _, _, _, _, _, _, _, _, _] : Array Oper).size false).getD 15 false = false from hrep]; exact G1.rv, G1.x5, G1.k⟩
      · exact fun j l w h _ hJ => hJ.same j (by rintro rfl; cases h) (by rintro rfl; cases h)
      · intro i o' hi hsk ho a' w2 ls hls hlf hJ hout hin hdep
        replace hls : ls.size = 21 := hls
        match i, ho, hsk with
        | 0, ho, hsk =>
          obtain rfl := Option.some.inj ho
          exact wp_move (.tmp 0) rfl _ ((hout 0 (by kernel_rfl)).trans rfl) ⟨_, rfl, tq_is _ _ _ _ rfl, hJ.same 0 (by decide) (by decide)⟩
        | 1, ho, hsk =>
          obtain rfl := Option.some.inj ho
          exact wp_move (.tmp 1) rfl _ ((hout 1 (by kernel_rfl)).trans rfl) ⟨_, rfl, tq_is _ _ _ _ rfl, hJ.same 1 (by decide) (by decide)⟩
        | 2, ho, hsk =>
          obtain rfl := Option.some.inj ho
          exact wp_move (.tmp 11) rfl _ ((hout 11 (by kernel_rfl)).trans rfl) ⟨_, rfl, tq_is _ _ _ _ rfl, hJ.same 2 (by decide) (by decide)⟩
        | 3, ho, hsk =>
          obtain rfl := Option.some.inj ho
          have e0 : a'.eval (.tmp 82) = .bool true := is_tq (w := w2) (hin 2 82 (by kernel_rfl) (by kernel_rfl)) rfl
          exact wp_move (.tmp 82) rfl _ e0 ⟨_, rfl, tq_is _ _ _ _ rfl, hJ.same 3 (by decide) (by decide)⟩
        | 4, ho, hsk =>
          obtain rfl := Option.some.inj ho
          exact wp_move (.tmp 10) rfl _ ((hout 10 (by kernel_rfl)).trans rfl) ⟨_, rfl, tq_is _ _ _ _ rfl, hJ.same 4 (by decide) (by decide)⟩
        | 5, ho, hsk =>
          obtain rfl := Option.some.inj ho
          have e0 : a'.eval (.tmp 84) = .int .i64 u1 := is_tq (w := w2) (hin 4 84 (by kernel_rfl) (by kernel_rfl)) rfl
          refine wp_callF 10 _ _ rfl #[.int .i64 u1] (by simp [e0]) (cg10 _ _) ((num10 _ _).mono ?_)
          rintro e w3 ⟨rfl, rfl⟩
          exact ⟨_, rfl, _, rfl, tq_is _ _ _ _ rfl, hJ.same 5 (by decide) (by decide)⟩
        | 6, ho, hsk =>
          obtain rfl := Option.some.inj ho
          exact wp_move (.tmp 1) rfl _ ((hout 1 (by kernel_rfl)).trans rfl) ⟨_, rfl, tq_is _ _ _ _ rfl, hJ.same 6 (by decide) (by decide)⟩
        | 7, ho, hsk =>
          obtain rfl := Option.some.inj ho
          exact o_fld40_1 (.tmp 5) rfl b5 ((hout 5 (by kernel_rfl)).trans rfl) ⟨_, rfl, tq_is _ _ _ _ rfl, hJ.same 7 (by decide) (by decide)⟩
        | 8, ho, hsk =>
          obtain rfl := Option.some.inj ho
          have e0 : a'.eval (.tmp 87) = .pointer (some ⟨b5, 1, none⟩) := is_tq (w := w2) (hin 7 87 (by kernel_rfl) (by kernel_rfl)) rfl
          exact o_load3 (.tmp 87) rfl ⟨b5, 1, none⟩ _ e0 (x_cells hJ.x5).2.1 ⟨_, rfl, tq_is _ _ _ _ rfl, hJ.same 8 (by decide) (by decide)⟩
        | 9, ho, hsk =>
          obtain rfl := Option.some.inj ho
          exact o_fld40_3 (.tmp 5) rfl b5 ((hout 5 (by kernel_rfl)).trans rfl) ⟨_, rfl, tq_is _ _ _ _ rfl, hJ.same 9 (by decide) (by decide)⟩
        | 10, ho, hsk =>
          obtain rfl := Option.some.inj ho
          have e0 : a'.eval (.tmp 89) = .pointer (some ⟨b5, 3, none⟩) := is_tq (w := w2) (hin 9 89 (by kernel_rfl) (by kernel_rfl)) rfl
          exact o_load2 (.tmp 89) rfl ⟨b5, 3, none⟩ _ e0 (x_cells hJ.x5).2.2.2.1 ⟨_, rfl, tq_is _ _ _ _ rfl, hJ.same 10 (by decide) (by decide)⟩
        | 11, ho, hsk =>
          obtain rfl := Option.some.inj ho
          exact o_fld40_2 (.tmp 5) rfl b5 ((hout 5 (by kernel_rfl)).trans rfl) ⟨_, rfl, tq_is _ _ _ _ rfl, hJ.same 11 (by decide) (by decide)⟩
        | 12, ho, hsk =>
          obtain rfl := Option.some.inj ho
          have e0 : a'.eval (.tmp 91) = .pointer (some ⟨b5, 2, none⟩) := is_tq (w := w2) (hin 11 91 (by kernel_rfl) (by kernel_rfl)) rfl
          exact o_load3 (.tmp 91) rfl ⟨b5, 2, none⟩ _ e0 (x_cells hJ.x5).2.2.1 ⟨_, rfl, tq_is _ _ _ _ rfl, hJ.same 12 (by decide) (by decide)⟩
        | 13, ho, hsk =>
          obtain rfl := Option.some.inj ho
          exact o_fld40_5 (.tmp 5) rfl b5 ((hout 5 (by kernel_rfl)).trans rfl) ⟨_, rfl, tq_is _ _ _ _ rfl, hJ.same 13 (by decide) (by decide)⟩
        | 14, ho, hsk =>
          obtain rfl := Option.some.inj ho
          have e0 : a'.eval (.tmp 93) = .pointer (some ⟨b5, 5, none⟩) := is_tq (w := w2) (hin 13 93 (by kernel_rfl) (by kernel_rfl)) rfl
          exact o_load36 (.tmp 93) rfl ⟨b5, 5, none⟩ _ e0 (x_cells hJ.x5).2.2.2.2.2 ⟨_, rfl, tq_is _ _ _ _ rfl, hJ.same 14 (by decide) (by decide)⟩
        | 15, ho, hsk =>
          obtain rfl := Option.some.inj ho
          have e0 : a'.eval (.tmp 86) = P0 r := is_tq (w := w2) (hin 6 86 (by kernel_rfl) (by kernel_rfl)) rfl
          have e1 : a'.eval (.tmp 88) = .int .i64 x.nn := is_tq (w := w2) (hin 8 88 (by kernel_rfl) (by kernel_rfl)) rfl
          have e2 : a'.eval (.tmp 90) = .int .i64 x.ee := is_tq (w := w2) (hin 10 90 (by kernel_rfl) (by kernel_rfl)) rfl
          have e3 : a'.eval (.tmp 92) = .int .i64 x.aa := is_tq (w := w2) (hin 12 92 (by kernel_rfl) (by kernel_rfl)) rfl
          have e4 : a'.eval (.tmp 94) = .slice x.ao x.m x.c := is_tq (w := w2) (hin 14 94 (by kernel_rfl) (by kernel_rfl)) rfl
          refine wp_callF 41 _ _ rfl #[P0 r, .int .i64 x.nn, .int .i64 x.ee, .int .i64 x.aa, .slice x.ao x.m x.c] (by simp [e0, e1, e2, e3, e4]) (ch41 _ _) ((unhide P41 _ (by have := hJ.rv; rw [hlf] at this; exact this) hJ.k).mono ?_)
          rintro e w3 ⟨rfl, d3, k3⟩
          exact ⟨_, rfl, _, rfl, tq_is _ _ _ _ rfl, J11c hJ hls d3 k3⟩
        | 16, ho, hsk =>
          obtain rfl := Option.some.inj ho
          have e0 : a'.eval (.tmp 85) = .int .i64 u1 := is_tq (w := w2) (hin 5 85 (by kernel_rfl) (by kernel_rfl)) rfl
          have e1 : a'.eval (.tmp 95) = .int .i64 u1 := is_tq (w := w2) (hin 15 95 (by kernel_rfl) (by kernel_rfl)) rfl
          exact o_eql3v (.tmp 85) (.tmp 95) rfl _ _ true (by simp) e0 e1 ⟨_, rfl, tq_is _ _ _ _ rfl, hJ.same 16 (by decide) (by decide)⟩
        | 17, ho, hsk =>
          obtain rfl := Option.some.inj ho
          have e0 : a'.eval (.tmp 83) = .bool true := is_tq (w := w2) (hin 3 83 (by kernel_rfl) (by kernel_rfl)) rfl
          have e1 : a'.eval (.tmp 96) = .bool true := is_tq (w := w2) (hin 16 96 (by kernel_rfl) (by kernel_rfl)) rfl
          exact o_pick (.tmp 83) (.tmp 96) rfl _ e0 e1 ⟨_, rfl, tq_is _ _ _ _ rfl, hJ.same 17 (by decide) (by decide)⟩
        | 18, ho, hsk =>
          obtain rfl := Option.some.inj ho
          have e0 : a'.eval (.tmp 80) = P0 b := is_tq (w := w2) (hin 0 80 (by kernel_rfl) (by kernel_rfl)) rfl
          exact wp_assignV (.tmp 80) rfl _ e0 ⟨_, rfl, tq_is _ _ _ _ rfl, hJ.same 18 (by decide) (by decide)⟩
        | 19, ho, hsk =>
          obtain rfl := Option.some.inj ho
          have e0 : a'.eval (.tmp 81) = P0 r := is_tq (w := w2) (hin 1 81 (by kernel_rfl) (by kernel_rfl)) rfl
          exact wp_assignV (.tmp 81) rfl _ e0 ⟨_, rfl, tq_is _ _ _ _ rfl, hJ.same 19 (by decide) (by decide)⟩
        | 20, ho, hsk =>
          obtain rfl := Option.some.inj ho
          have e0 : a'.eval (.tmp 97) = .bool true := is_tq (w := w2) (hin 17 97 (by kernel_rfl) (by kernel_rfl)) rfl
          exact wp_assignV (.tmp 97) rfl _ e0 ⟨_, rfl, tq_is _ _ _ _ rfl, hJ.same 20 (by decide) (by decide)⟩
      intro l w9 hl hJ
      simp only [valsQ, List.map_cons, List.map_nil, Option.getD_some, putAll, Act.put, List.setIfInBounds_toArray, List.set_cons_succ, List.set_cons_zero]
      have hd9 := hide hJ.dv
      have hr9 : Hid (Rv w9 r sg eg D') := by have := hJ.rv; rw [hl 15 (by decide)] at this; exact this
      have hk9 := hide hJ.k
      clear hJ hl J11c
      go_wp2_with fail
      exact bodyPost_ret (res14 _ _ _ _ _ rfl rfl rfl) rfl ⟨b, g, r, sg, eg, rfl, unhide hd9, unhide hr9, unhide HA, unhide hk9, Frs.same _ _ _ _ _ _⟩

end Go.Proofs.Ytffflafalffifaa.K

namespace Go.Proofs.Ytffflafalffifaa.K
open Go.RowKit

/-- One device is behind another. -/
structure Nx (D D' : Dev) : Prop where
  N : D'.N = D.N
  S : D'.S.length = D.S.length
  z : Tz D → Tz D'
  e : ∀ i : Nat, D.E.getD i 0 ≤ D'.E.getD i 0
theorem Nx.refl (D : Dev) : Nx D D := ⟨rfl, rfl, id, fun _ => Int.le_refl _⟩
theorem Nx.trans {D D' D2 : Dev} (h : Nx D D') (h2 : Nx D' D2) : Nx D D2 := ⟨h2.N.trans h.N, h2.S.trans h.S, fun z => h2.z (h.z z), fun i => Int.le_trans (h.e i) (h2.e i)⟩
theorem Nx.like {D D' : Dev} (hN : D'.N = D.N) (hS : D'.S.length = D.S.length) (hE : D'.E = D.E) : Nx D D' := ⟨hN, hS, by unfold Tz; rw [hN, hE]; exact id, fun _ => by rw [hE]; exact Int.le_refl _⟩
theorem step_like (D : Dev) (S' : List (List Int)) (E' : List Int) : (D.step S' E').1.N = D.N ∧ (((D.step S' E').1.E = D.E ∧ (D.step S' E').1.S = D.S) ∨ ((D.step S' E').1.E = E' ∧ (D.step S' E').1.S = S')) := by
  unfold Dev.step
  split
  · exact ⟨rfl, .inl ⟨rfl, rfl⟩⟩
  · exact ⟨rfl, .inr ⟨rfl, rfl⟩⟩
theorem Nx.stepS (D : Dev) (k : Nat) (s : List Int) : Nx D (D.step (D.S.set k s) D.E).1 := by
  obtain ⟨h1, h2⟩ := step_like D (D.S.set k s) D.E
  rcases h2 with ⟨h3, h4⟩ | ⟨h3, h4⟩
  · exact Nx.like h1 (by rw [h4]) h3
  · exact Nx.like h1 (by rw [h4, List.length_set]) h3
theorem Nx.stepE (D : Dev) (k : Nat) (v : Int) (hk : k < D.N) (hv : D.E.getD k 0 ≤ v) : Nx D (D.step D.S (D.E.set k v)).1 := by
  obtain ⟨h1, h2⟩ := step_like D D.S (D.E.set k v)
  rcases h2 with ⟨h3, h4⟩ | ⟨h3, h4⟩
  · exact Nx.like h1 (by rw [h4]) h3
  · refine ⟨h1, by rw [h4], ?_, ?_⟩
    · unfold Tz
      rw [h1, h3, List.drop_set_of_lt hk]
      exact id
    · intro i
      rw [h3]
      simp only [List.getD_eq_getElem?_getD, List.getElem?_set] at hv ⊢
      by_cases hik : k = i
      · subst hik
        by_cases hl : k < D.E.length
        · simpa [hl] using hv
        · simp [hl]
      · simp [hik]
theorem Nx.puts : ∀ (L : List (List Int)) (D : Dev) (k : Nat), Nx D (D.puts k L) := by
  intro L
  induction L with
  | nil => intro D k; exact Nx.refl D
  | cons s L ih =>
    intro D k
    unfold Dev.puts
    split
    · exact (Nx.stepS D k s).trans (ih _ _)
    · exact Nx.stepS D k s
theorem Nx.write (D : Dev) (x ep f : Int) (L : List (List Int)) : Nx D (D.write x ep f L).2 := by
  unfold Dev.write
  split
  · exact Nx.puts L D _
  · exact Nx.refl D
theorem Nx.next (D : Dev) (x : Sx) : Nx D (Dev.next D x) := by
  unfold Dev.next
  split
  · exact Nx.write D _ _ _ _
  split
  · unfold Dev.swap
    split
    · split
      · exact Nx.stepS D _ _
      · exact Nx.refl D
    · exact Nx.refl D
  split
  · unfold Dev.up
    split
    · next h =>
      obtain ⟨h0, h1⟩ := hasN_true h
      split
      · exact Nx.refl D
      · exact Nx.stepE D _ _ (by omega) (by show D.ep x.nn ≤ _; omega)
    · exact Nx.refl D
  split
  · unfold Dev.fence
    split
    · next h =>
      show Nx D (if D.ep x.aa ≤ x.bb then _ else _)
      split
      · next h2 =>
        have hN : hasN D.N x.aa = true := by
          cases hh : hasN D.N x.aa with
          | true => rfl
          | false => rw [hh] at h; simp [Dev.ref] at h
        obtain ⟨h0, h1⟩ := hasN_true hN
        exact Nx.stepE D _ _ (by omega) (by show D.ep x.aa ≤ _; omega)
      · exact Nx.refl D
    · exact Nx.refl D
  split
  · unfold Dev.cut
    split
    · exact Nx.refl D
    · split
      · exact Nx.refl D
      · exact Nx.like rfl rfl rfl
  split
  · exact Nx.like rfl rfl rfl
  split
  · exact Nx.like rfl rfl rfl
  · exact Nx.refl D
theorem tz_new (n N : Nat) : Tz (newDev n N) := by
  show (List.replicate 8 (0 : Int)).drop N = _
  rw [List.drop_replicate]
  rfl
theorem do14 (B b g r sg eg : Nat) (D : Dev) (x : Sx) (w : World) (hD : Dv w b g D) (hR : Rv w r sg eg D) (ap : Ap B b g r sg eg) (hx : x.Ok w B) (hz : Tz D) (hB : B ≤ w.heap.size) : Calls Try.prog 14 #[P0 b, P0 r, aggV x.C] w (DoR B b g r sg eg (Dev.next D x) w) := by
  have h0 := do_0 B b g r sg eg D x w hD hR ap hx
  have h1 := do_1 B b g r sg eg D x w hD hR ap hx
  have h2 := do_2 B b g r sg eg D x w hD hR ap hx
  have h3 := do_3 B b g r sg eg D x w hD hR ap hx
  have h4 := do_4 B b g r sg eg D x w hD hR ap hx
  have h5 := do_5 B b g r sg eg D x w hD hR ap hx
  have h6 := do_6 B b g r sg eg D x w hD hR ap hx
  have h7 := do_7 B b g r sg eg D x w hD hR ap hx hB
  have h8 := do_8 B b g r sg eg D x w hD hR ap hx hz hB
  unfold Dev.next
  by_cases e1 : x.kd = 1
  · rw [if_pos e1]; exact h1 e1
  rw [if_neg e1]
  by_cases e2 : x.kd = 2
  · rw [if_pos e2]; exact h2 e2
  rw [if_neg e2]
  by_cases e3 : x.kd = 3
  · rw [if_pos e3]; exact h3 e3
  rw [if_neg e3]
  by_cases e4 : x.kd = 4
  · rw [if_pos e4]; exact h4 e4
  rw [if_neg e4]
  by_cases e5 : x.kd = 5
  · rw [if_pos e5]; exact h5 e5
  rw [if_neg e5]
  by_cases e6 : x.kd = 6
  · rw [if_pos e6]; exact h6 e6
  rw [if_neg e6]
  by_cases e8 : x.kd = 8
  · rw [if_pos e8]; exact h8 e8
  rw [if_neg e8]
  by_cases e7 : x.kd = 7
  · exact h7 e7
  exact h0 ⟨e1, e2, e3, e4, e5, e6, e7, e8⟩
/-- Same, and the document's Same. -/
theorem same_rsame {D D2 : Dev} (hN : D.N = D2.N) (z : Tz D) (z2 : Tz D2) : Dev.same D D2 = Dev.rsame D D2 := by
  unfold Dev.same Dev.rsame
  have hE : D.E = D2.E ↔ D.E.take D.N = D2.E.take D2.N := by
    constructor
    · intro e; rw [e, hN]
    · intro e
      rw [← List.take_append_drop D.N D.E, ← List.take_append_drop D2.N D2.E, e, z, z2, hN]
  rw [decide_eq_true hN, Bool.true_and, Bool.and_comm, ← Bool.decide_and]
  congr 1
  rw [hE]

end Go.Proofs.Ytffflafalffifaa.K

namespace Go.Proofs.Ytffflafalffifaa.K
open Go.RowKit

/-- A script that came in. -/
structure Scr (w : World) (B : Nat) (ao : Option Addr) (m c : Nat) (X : List Sx) : Prop where
  len : X.length = m
  ok : ∀ x ∈ X, x.Ok w B
  lies : X ≠ [] → ∃ h off, ao = some ⟨h, off, none⟩ ∧ h < B ∧ ∀ (i : Nat) x, X[i]? = some x → w.rangeAt h (off + i * 134) x.C
theorem Scr.kept {w w' : World} {B : Nat} {ao : Option Addr} {m c : Nat} {X : List Sx} {Y : List Nat} (h : Scr w B ao m c X) (hk : Kept Y w w') (hY : ∀ k ∈ Y, B ≤ k) : Scr w' B ao m c X := by
  refine ⟨h.len, fun x hx => (h.ok x hx).kept hk hY, fun hne => ?_⟩
  obtain ⟨g, off, e, hg, hl⟩ := h.lies hne
  exact ⟨g, off, e, hg, fun i x hi j u hj => hk.cell (hl i x hi j u hj) (fun hm => by have := hY _ hm; simp at this; omega)⟩
section
variable {o : Oper} {a : Act} {w : World} {K : Act → World → Prop} {Q : Exit → Act → World → Prop}
theorem o_idx23 (x y : Operand) (ho : o.op = .indexAddr 23 x y) (g off m c k : Nat) (hk : k < m) (hx : a.eval x = .slice (some ⟨g, off, none⟩) m c) (hy : a.eval y = .int .i64 k) (h : K (a.put o.dst (.pointer (some ⟨g, off + k * 134, none⟩))) w) : o.wp Try.prog a w K Q := by
  unfold Oper.wp execOp
  simp only [ho, hx, hy]
  simp [go_sem, hk]
  exact h
theorem o_fld40_5o (x : Operand) (ho : o.op = .fieldAddr 40 x 5) (b off : Nat) (hx : a.eval x = .pointer (some ⟨b, off, none⟩)) (h : K (a.put o.dst (.pointer (some ⟨b, off + 5, none⟩))) w) : o.wp Try.prog a w K Q := by
  unfold Oper.wp execOp
  simp only [ho, hx]
  simp [go_sem]
  exact h
theorem o_min (t : Nat) (ho : o.op = .call { callee := .builtin .min, args := #[.tmp t, .const (.int .i64 9000)], argTypes := #[3, 3] }) (k : Nat) (hx : a.eval (.tmp t) = .int .i64 k) (h : K (a.put o.dst (.int .i64 (min k 9000 : Nat))) w) : o.wp Try.prog a w K Q := by
  have hr : (Builtin.min_ #[3, 3] o.type #[.int .i64 k, .int .i64 9000]).run Try.prog w = .ok (.int .i64 (min k 9000 : Nat)) w := by
    simp [Builtin.min_, Builtin.min2]
    split <;> omega
  have hx' : a.tmps[t]?.getD undef = .int .i64 k := by simpa [Act.eval] using hx
  unfold Oper.wp execOp
  simp only [ho]
  simp [resolve, invoke, builtin, go_sem, hx', hr]
  exact h
theorem o_idx22_0 (x : Operand) (ho : o.op = .indexAddr 22 x (.const (.int .i64 0))) (b : Nat) (hx : a.eval x = P0 b) (h : K (a.put o.dst (.pointer (some ⟨b, 0, none⟩))) w) : o.wp Try.prog a w K Q := by
  unfold Oper.wp execOp
  have h9 : a.eval (.const (.int .i64 0)) = .int .i64 0 := rfl
  simp only [ho, hx, h9]
  simp [go_sem]
  exact h
theorem o_idx22_1 (x : Operand) (ho : o.op = .indexAddr 22 x (.const (.int .i64 1))) (b : Nat) (hx : a.eval x = P0 b) (h : K (a.put o.dst (.pointer (some ⟨b, 1, none⟩))) w) : o.wp Try.prog a w K Q := by
  unfold Oper.wp execOp
  have h9 : a.eval (.const (.int .i64 1)) = .int .i64 1 := rfl
  simp only [ho, hx, h9]
  simp [go_sem]
  exact h
end
set_option maxHeartbeats 2000000 in
set_option maxRecDepth 100000 in
theorem much12 (B : Nat) (ao : Option Addr) (m c : Nat) (X : List Sx) (w : World) (hS : Scr w B ao m c X) (hm : m ≤ 9223372036854775807) : Calls Try.prog 12 #[.slice ao m c] w fun e w' => (∃ r : Bool, e = .returned (.bool r)) ∧ Kept [] w w' := by
  have HS := hide hS
  clear hS
  go_enter Try.func12, Try.ntmps12
  go_wp2_with fail
  go_loopw [3, 4] (fun n i wr => ∃ k s : Nat, k ≤ m ∧ k ≤ 60 ∧ s ≤ 9000 * k ∧ n = .int .i64 s ∧ i = .int .i64 k ∧ Hid (Kept [] w wr)) (fun _ i _ => 60 - (intOf i).toNat)
  case atStart => exact ⟨0, 0, by omega, by omega, by omega, rfl, rfl, Kept.refl _ _⟩
  case round =>
    obtain ⟨k, s, hk, hk6, hs, rfl, rfl, HK⟩ := hrel
    by_cases hlt : k < m
    · by_cases h60 : k < 60
      · obtain ⟨x, hx⟩ : ∃ x, X[k]? = some x := ⟨_, List.getElem?_eq_getElem (by rw [(unhide HS).len]; exact hlt)⟩
        obtain ⟨g, off, rfl, hg, hl⟩ := ((unhide HS).kept (unhide HK) (by simp)).lies (by intro e; rw [e] at hx; simp at hx)
        have HC : Hid (wr.cell? ⟨g, off + k * 134 + 5, none⟩ = some (.slice x.ao x.m x.c)) := hl k x hx 5 _ rfl
        have hc := unhide HC
        clear hl HC
        go_wp2_with fail
        go_roundw
        case rel =>
          refine ⟨k + 1, s + min x.m 9000, by omega, by omega, by omega, ?_, by go_num, HK⟩
          congr 1
          split <;> omega
        case measure => simp [intOf]; omega
      · go_wp2_with fail
        go_ret
        exact ⟨⟨_, rfl⟩, unhide HK⟩
    · go_wp2_with fail
      go_ret
      exact ⟨⟨_, rfl⟩, unhide HK⟩

end Go.Proofs.Ytffflafalffifaa.K
