/-
  Delete; operations of the regions that draw their order.
-/
import Derived.Test.YtpcggcicpojdoaaNj
namespace Go.Proofs.Ytpcggcicpojdoaa
open Go.RowKit

section
variable {o : Oper} {a : Act} {w : World} {K : Act → World → Prop} {Q : Exit → Act → World → Prop}
theorem o_nil (x : Operand) (ho : o.op = .nilCheck x) (b : Nat) (hx : a.eval x = P0 b) (h : K (a.put o.dst (P0 b)) w) : o.wp Try.prog a w K Q := by
  unfold Oper.wp execOp
  simp only [ho, hx]
  simp [go_sem]
  exact h
theorem o_fld58_0 (x : Operand) (ho : o.op = .fieldAddr 58 x 0) (b : Nat) (hx : a.eval x = P0 b) (h : K (a.put o.dst (.pointer (some ⟨b, 0, none⟩))) w) : o.wp Try.prog a w K Q := by
  unfold Oper.wp execOp
  simp only [ho, hx]
  simp [go_sem]
  exact h
theorem o_fld58_1 (x : Operand) (ho : o.op = .fieldAddr 58 x 1) (b : Nat) (hx : a.eval x = P0 b) (h : K (a.put o.dst (.pointer (some ⟨b, 1, none⟩))) w) : o.wp Try.prog a w K Q := by
  unfold Oper.wp execOp
  simp only [ho, hx]
  simp [go_sem]
  exact h
theorem o_fld58_2 (x : Operand) (ho : o.op = .fieldAddr 58 x 2) (b : Nat) (hx : a.eval x = P0 b) (h : K (a.put o.dst (.pointer (some ⟨b, 2, none⟩))) w) : o.wp Try.prog a w K Q := by
  unfold Oper.wp execOp
  simp only [ho, hx]
  simp [go_sem]
  exact h
theorem o_fld58_3 (x : Operand) (ho : o.op = .fieldAddr 58 x 3) (b : Nat) (hx : a.eval x = P0 b) (h : K (a.put o.dst (.pointer (some ⟨b, 3, none⟩))) w) : o.wp Try.prog a w K Q := by
  unfold Oper.wp execOp
  simp only [ho, hx]
  simp [go_sem]
  exact h
theorem o_fld47_0 (x : Operand) (ho : o.op = .fieldAddr 47 x 0) (b : Nat) (hx : a.eval x = P0 b) (h : K (a.put o.dst (.pointer (some ⟨b, 0, none⟩))) w) : o.wp Try.prog a w K Q := by
  unfold Oper.wp execOp
  simp only [ho, hx]
  simp [go_sem]
  exact h
theorem o_fld47_1 (x : Operand) (ho : o.op = .fieldAddr 47 x 1) (b : Nat) (hx : a.eval x = P0 b) (h : K (a.put o.dst (.pointer (some ⟨b, 1, none⟩))) w) : o.wp Try.prog a w K Q := by
  unfold Oper.wp execOp
  simp only [ho, hx]
  simp [go_sem]
  exact h
theorem o_fld47_2 (x : Operand) (ho : o.op = .fieldAddr 47 x 2) (b : Nat) (hx : a.eval x = P0 b) (h : K (a.put o.dst (.pointer (some ⟨b, 2, none⟩))) w) : o.wp Try.prog a w K Q := by
  unfold Oper.wp execOp
  simp only [ho, hx]
  simp [go_sem]
  exact h
theorem o_fld47_3 (x : Operand) (ho : o.op = .fieldAddr 47 x 3) (b : Nat) (hx : a.eval x = P0 b) (h : K (a.put o.dst (.pointer (some ⟨b, 3, none⟩))) w) : o.wp Try.prog a w K Q := by
  unfold Oper.wp execOp
  simp only [ho, hx]
  simp [go_sem]
  exact h
theorem o_fld60_0 (x : Operand) (ho : o.op = .fieldAddr 60 x 0) (b : Nat) (hx : a.eval x = P0 b) (h : K (a.put o.dst (.pointer (some ⟨b, 0, none⟩))) w) : o.wp Try.prog a w K Q := by
  unfold Oper.wp execOp
  simp only [ho, hx]
  simp [go_sem]
  exact h
theorem o_fld60_1 (x : Operand) (ho : o.op = .fieldAddr 60 x 1) (b : Nat) (hx : a.eval x = P0 b) (h : K (a.put o.dst (.pointer (some ⟨b, 1, none⟩))) w) : o.wp Try.prog a w K Q := by
  unfold Oper.wp execOp
  simp only [ho, hx]
  simp [go_sem]
  exact h
theorem o_fld60_2 (x : Operand) (ho : o.op = .fieldAddr 60 x 2) (b : Nat) (hx : a.eval x = P0 b) (h : K (a.put o.dst (.pointer (some ⟨b, 2, none⟩))) w) : o.wp Try.prog a w K Q := by
  unfold Oper.wp execOp
  simp only [ho, hx]
  simp [go_sem]
  exact h
theorem o_load55 (x : Operand) (ho : o.op = .load 55 x) (p : Addr) (v : Value) (hx : a.eval x = .pointer (some p)) (hc : w.cell? p = some v) (h : K (a.put o.dst v) w) : o.wp Try.prog a w K Q := by
  unfold Oper.wp execOp
  simp only [ho, hx]
  simp [go_sem, hc]
  exact h
theorem o_load56 (x : Operand) (ho : o.op = .load 56 x) (p : Addr) (v : Value) (hx : a.eval x = .pointer (some p)) (hc : w.cell? p = some v) (h : K (a.put o.dst v) w) : o.wp Try.prog a w K Q := by
  unfold Oper.wp execOp
  simp only [ho, hx]
  simp [go_sem, hc]
  exact h
theorem o_load43 (x : Operand) (ho : o.op = .load 43 x) (p : Addr) (v : Value) (hx : a.eval x = .pointer (some p)) (hc : w.cell? p = some v) (h : K (a.put o.dst v) w) : o.wp Try.prog a w K Q := by
  unfold Oper.wp execOp
  simp only [ho, hx]
  simp [go_sem, hc]
  exact h
theorem o_load34 (x : Operand) (ho : o.op = .load 34 x) (p : Addr) (v : Value) (hx : a.eval x = .pointer (some p)) (hc : w.cell? p = some v) (h : K (a.put o.dst v) w) : o.wp Try.prog a w K Q := by
  unfold Oper.wp execOp
  simp only [ho, hx]
  simp [go_sem, hc]
  exact h
theorem o_load3 (x : Operand) (ho : o.op = .load 3 x) (p : Addr) (v : Value) (hx : a.eval x = .pointer (some p)) (hc : w.cell? p = some v) (h : K (a.put o.dst v) w) : o.wp Try.prog a w K Q := by
  unfold Oper.wp execOp
  simp only [ho, hx]
  simp [go_sem, hc]
  exact h
theorem o_slA (x : Operand) (t : Nat) (ho : o.op = .slice 56 x none (some (.tmp t)) none) (g m c k : Nat) (hk : k ≤ c) (hx : a.eval x = .slice (some ⟨g, 0, none⟩) m c) (hy : a.eval (.tmp t) = .int .i64 k) (h : K (a.put o.dst (.slice (some ⟨g, 0, none⟩) k c)) w) : o.wp Try.prog a w K Q := by
  have hy' : a.tmps[t]?.getD undef = .int .i64 k := by simpa [Act.eval] using hy
  unfold Oper.wp execOp
  simp only [ho, hx]
  simp [go_sem, hy', hk]
  exact h
theorem o_slB (x : Operand) (t : Nat) (ho : o.op = .slice 56 x (some (.tmp t)) none none) (g m c k z : Nat) (hz : (if c = k then 0 else k) = z) (hk : k ≤ m) (hx : a.eval x = .slice (some ⟨g, 0, none⟩) m c) (hy : a.eval (.tmp t) = .int .i64 k) (h : K (a.put o.dst (.slice (some ⟨g, z, none⟩) (m - k) (c - k))) w) : o.wp Try.prog a w K Q := by
  subst hz
  have hy' : a.tmps[t]?.getD undef = .int .i64 k := by simpa [Act.eval] using hy
  unfold Oper.wp execOp
  simp only [ho, hx]
  simp [go_sem, hy', hk]
  by_cases hc : c = k
  · rw [if_pos hc] at h ⊢
    exact h
  · rw [if_neg hc] at h ⊢
    exact h
theorem o_slC (x : Operand) (s t : Nat) (ho : o.op = .slice 56 x (some (.tmp s)) (some (.tmp t)) none) (g m c k e d : Nat) (hd : e - k = d) (hk : k ≤ e) (he : e ≤ c) (hc : k < c) (hx : a.eval x = .slice (some ⟨g, 0, none⟩) m c) (hs : a.eval (.tmp s) = .int .i64 k) (hy : a.eval (.tmp t) = .int .i64 e) (h : K (a.put o.dst (.slice (some ⟨g, k, none⟩) d (c - k))) w) : o.wp Try.prog a w K Q := by
  subst hd
  have hy' : a.tmps[t]?.getD undef = .int .i64 e := by simpa [Act.eval] using hy
  have hs' : a.tmps[s]?.getD undef = .int .i64 k := by simpa [Act.eval] using hs
  have hne : ¬ c = k := by omega
  unfold Oper.wp execOp
  simp only [ho, hx]
  simp [go_sem, hy', hs', hk, he, hne]
  exact h
theorem o_slD (x : Operand) (s t u : Nat) (ho : o.op = .slice 56 x (some (.tmp s)) (some (.tmp t)) (some (.tmp u))) (g m c k e f : Nat) (hk : k ≤ e) (he : e ≤ f) (hf : f ≤ c) (hc : k < f) (hx : a.eval x = .slice (some ⟨g, 0, none⟩) m c) (hs : a.eval (.tmp s) = .int .i64 k) (hy : a.eval (.tmp t) = .int .i64 e) (hu : a.eval (.tmp u) = .int .i64 f) (h : K (a.put o.dst (.slice (some ⟨g, k, none⟩) (e - k) (f - k))) w) : o.wp Try.prog a w K Q := by
  have hy' : a.tmps[t]?.getD undef = .int .i64 e := by simpa [Act.eval] using hy
  have hs' : a.tmps[s]?.getD undef = .int .i64 k := by simpa [Act.eval] using hs
  have hu' : a.tmps[u]?.getD undef = .int .i64 f := by simpa [Act.eval] using hu
  have hne : ¬ f = k := by omega
  unfold Oper.wp execOp
  simp only [ho, hx]
  simp [go_sem, hy', hs', hu', hk, he, hf, hne]
  exact h
end
theorem last_of (y : Value) (q : List Value) : ∃ zs la, y :: q = zs ++ [la] ∧ zs.length = q.length := by
  refine ⟨(y :: q).dropLast, (y :: q).getLast (by simp), (List.dropLast_concat_getLast _).symm, by simp⟩
set_option maxHeartbeats 1000000 in
theorem del45 (g i n cap : Nat) (p q : List Value) (y : Value) (ex : List Value) (w : World) (hB : Blk w g 2 (p ++ y :: q ++ ex)) (hp : p.length = i) (hn : n = i + 1 + q.length) (hcap : cap = n + ex.length) (h1 : ∀ u ∈ q, u.oneCell' = true) :
    Calls Try.prog 45 #[.slice (some ⟨g, 0, none⟩) n cap, .int .i64 i, .int .i64 (i + 1 : Nat)] w fun e w' => e = .returned (.slice (some ⟨g, 0, none⟩) (i + q.length) cap) ∧ Blk w' g 2 (p ++ q ++ .int .i64 0 :: ex) ∧ Kept [g] w w' := by
  obtain ⟨zs, la, hz, hzl⟩ := last_of y q
  have HS : Hid (p ++ zs ++ ([la] ++ ex) = p ++ y :: q ++ ex) := by show _ = _; rw [hz]; simp
  obtain ⟨z, HZ⟩ : ∃ z, Hid ((if cap = i + 1 then 0 else i + 1) = z) := ⟨_, (rfl : _ = _)⟩
  have HY : Hid (∀ (j : Nat) (u : Value), q[j]? = some u → (p ++ zs ++ ([la] ++ ex))[z + j]? = some u) := by
    intro j u hj
    rw [← unhide HZ]
    have hlt : j < q.length := (List.getElem?_eq_some_iff.1 hj).1
    rw [unhide HS, if_neg (by omega), List.append_assoc, List.getElem?_append_right (by omega), show i + 1 + j - p.length = j + 1 by omega]
    simp only [List.cons_append, List.getElem?_cons_succ]
    rw [List.getElem?_append_left hlt]
    exact hj
  have HB := hide hB
  have H1 := hide h1
  obtain ⟨k, hk⟩ : ∃ k, i + q.length = k := ⟨_, rfl⟩
  rw [hk]
  have k1 : k ≤ i + q.length := by omega
  have k2 : i + q.length ≤ k := by omega
  have n1 : n ≤ i + 1 + q.length := by omega
  have n2 : i + 1 + q.length ≤ n := by omega
  have c1 : cap ≤ n + ex.length := by omega
  have c2 : n + ex.length ≤ cap := by omega
  have p1 : p.length ≤ i := by omega
  have p2 : i ≤ p.length := by omega
  have z1 : zs.length ≤ q.length := by omega
  have z2 : q.length ≤ zs.length := by omega
  clear hB h1 hz hn hcap hp hzl hk
  go_enter Try.func45, Try.ntmps45
  go_wp2_with (
    first
    | (refine wpList_plain (by rfl) fun K hK => o_slD (.tmp 8) 9 10 12 (by rfl) g n cap i (i + 1) n (by omega) (by omega) (by omega) (by omega) (by kernel_rfl) (by kernel_rfl) (by kernel_rfl) (by kernel_rfl) (hK _ _ ?_)))
  refine wp_region_any mixed (wpAny_gx 8 rfl (by kernel_rfl) [some (.slice (some ⟨g, 0, none⟩) n cap), some (.int .i64 i), some (.slice (some ⟨g, 0, none⟩) i cap), some (.slice (some ⟨g, 0, none⟩) n cap), some (.int .i64 (i + 1 : Nat)), some (.slice (some ⟨g, z, none⟩) (n - (i + 1)) (cap - (i + 1))), some (.slice (some ⟨g, 0, none⟩) k cap), some (.slice (some ⟨g, 0, none⟩) k cap)] rfl (by kernel_rfl) (fun l vs W => (fun (bb : Bool) (_ : Value) (W : World) => (bb = false → Kept [] w W) ∧ (bb = true → Blk W g 2 (p ++ q ++ ([la] ++ ex)) ∧ Kept [g] w W)) (l.getD 6 false) (vs 6) W) (⟨fun _ => ⟨rfl, rfl, rfl, Nat.le_refl _, fun _ _ _ => rfl⟩, fun h => by cases h⟩) ?_ ?_)
  · intro ix o' hi ho a' w2 l vs hls hlf hJ hout hin hdep hnot
    match ix, ho with
    | 0, ho =>
      obtain rfl := Option.some.inj ho
      have e0 := hout 0 (by kernel_rfl)
      replace e0 : a'.eval (.tmp 0) = _ := e0.trans rfl
      exact wp_move (.tmp 0) rfl _ e0 ⟨_, rfl, told_of rfl, keep1 (St := (fun (bb : Bool) (_ : Value) (W : World) => (bb = false → Kept [] w W) ∧ (bb = true → Blk W g 2 (p ++ q ++ ([la] ++ ex)) ∧ Kept [g] w W))) (v := undef) (vs := vs) (by omega) (by decide) hJ⟩
    | 1, ho =>
      obtain rfl := Option.some.inj ho
      have e0 := hout 1 (by kernel_rfl)
      replace e0 : a'.eval (.tmp 1) = _ := e0.trans rfl
      exact wp_move (.tmp 1) rfl _ e0 ⟨_, rfl, told_of rfl, keep1 (St := (fun (bb : Bool) (_ : Value) (W : World) => (bb = false → Kept [] w W) ∧ (bb = true → Blk W g 2 (p ++ q ++ ([la] ++ ex)) ∧ Kept [g] w W))) (v := undef) (vs := vs) (by omega) (by decide) hJ⟩
    | 2, ho =>
      obtain rfl := Option.some.inj ho
      have e0 : a'.eval (.tmp 20) = .slice (some ⟨g, 0, none⟩) n cap := by have h9 := hin 0 20 (by kernel_rfl) (by kernel_rfl); exact h9.1.trans (told_is _ h9.2 rfl)
      have e1 : a'.eval (.tmp 21) = .int .i64 i := by have h9 := hin 1 21 (by kernel_rfl) (by kernel_rfl); exact h9.1.trans (told_is _ h9.2 rfl)
      exact o_slA (.tmp 20) 21 rfl g n cap i (by omega) e0 e1 ⟨_, rfl, told_of rfl, keep1 (St := (fun (bb : Bool) (_ : Value) (W : World) => (bb = false → Kept [] w W) ∧ (bb = true → Blk W g 2 (p ++ q ++ ([la] ++ ex)) ∧ Kept [g] w W))) (v := undef) (vs := vs) (by omega) (by decide) hJ⟩
    | 3, ho =>
      obtain rfl := Option.some.inj ho
      have e0 := hout 0 (by kernel_rfl)
      replace e0 : a'.eval (.tmp 0) = _ := e0.trans rfl
      exact wp_move (.tmp 0) rfl _ e0 ⟨_, rfl, told_of rfl, keep1 (St := (fun (bb : Bool) (_ : Value) (W : World) => (bb = false → Kept [] w W) ∧ (bb = true → Blk W g 2 (p ++ q ++ ([la] ++ ex)) ∧ Kept [g] w W))) (v := undef) (vs := vs) (by omega) (by decide) hJ⟩
    | 4, ho =>
      obtain rfl := Option.some.inj ho
      have e0 := hout 2 (by kernel_rfl)
      replace e0 : a'.eval (.tmp 2) = _ := e0.trans rfl
      exact wp_move (.tmp 2) rfl _ e0 ⟨_, rfl, told_of rfl, keep1 (St := (fun (bb : Bool) (_ : Value) (W : World) => (bb = false → Kept [] w W) ∧ (bb = true → Blk W g 2 (p ++ q ++ ([la] ++ ex)) ∧ Kept [g] w W))) (v := undef) (vs := vs) (by omega) (by decide) hJ⟩
    | 5, ho =>
      obtain rfl := Option.some.inj ho
      have e0 : a'.eval (.tmp 23) = .slice (some ⟨g, 0, none⟩) n cap := by have h9 := hin 3 23 (by kernel_rfl) (by kernel_rfl); exact h9.1.trans (told_is _ h9.2 rfl)
      have e1 : a'.eval (.tmp 24) = .int .i64 (i + 1 : Nat) := by have h9 := hin 4 24 (by kernel_rfl) (by kernel_rfl); exact h9.1.trans (told_is _ h9.2 rfl)
      exact o_slB (.tmp 23) 24 rfl g n cap (i + 1) z (unhide HZ) (by omega) e0 e1 ⟨_, rfl, told_of rfl, keep1 (St := (fun (bb : Bool) (_ : Value) (W : World) => (bb = false → Kept [] w W) ∧ (bb = true → Blk W g 2 (p ++ q ++ ([la] ++ ex)) ∧ Kept [g] w W))) (v := undef) (vs := vs) (by omega) (by decide) hJ⟩
    | 6, ho =>
      obtain rfl := Option.some.inj ho
      have e0 : a'.eval (.tmp 22) = .slice (some ⟨g, 0, none⟩) i cap := by have h9 := hin 2 22 (by kernel_rfl) (by kernel_rfl); exact h9.1.trans (told_is _ h9.2 rfl)
      have e1 : a'.eval (.tmp 25) = .slice (some ⟨g, z, none⟩) (n - (i + 1)) (cap - (i + 1)) := by have h9 := hin 5 25 (by kernel_rfl) (by kernel_rfl); exact h9.1.trans (told_is _ h9.2 rfl)
      exact o_room (.tmp 22) (.tmp 25) rfl g i cap _ (n - (i + 1)) _ k (by omega) p q zs ([la] ++ ex) e0 e1 (by rw [unhide HS]; exact (unhide HB).kept (hJ.1 hlf) (by simp)) (by omega) (by omega) (by omega) (by omega) (unhide H1) (unhide HY) (fun W hb hk => ⟨_, rfl, told_of rfl, next1 (St := (fun (bb : Bool) (_ : Value) (W : World) => (bb = false → Kept [] w W) ∧ (bb = true → Blk W g 2 (p ++ q ++ ([la] ++ ex)) ∧ Kept [g] w W))) (v := undef) (vs := vs) (by omega) ⟨(fun h => by cases h), fun _ => ⟨hb, ((hJ.1 hlf).mono (by simp)).trans hk⟩⟩⟩)
    | 7, ho =>
      obtain rfl := Option.some.inj ho
      have e0 : a'.eval (.tmp 26) = .slice (some ⟨g, 0, none⟩) k cap := by have h9 := hin 6 26 (by kernel_rfl) (by kernel_rfl); exact h9.1.trans (told_is _ h9.2 rfl)
      exact wp_assignV (.tmp 26) rfl _ e0 ⟨_, rfl, told_of rfl, keep1 (St := (fun (bb : Bool) (_ : Value) (W : World) => (bb = false → Kept [] w W) ∧ (bb = true → Blk W g 2 (p ++ q ++ ([la] ++ ex)) ∧ Kept [g] w W))) (v := undef) (vs := vs) (by omega) (by decide) hJ⟩
  intro l vs w9 hl hJ htold
  have t0 : vs 0 = .slice (some ⟨g, 0, none⟩) n cap := told_is _ (htold 0 (by decide)) rfl
  have t1 : vs 1 = .int .i64 i := told_is _ (htold 1 (by decide)) rfl
  have t2 : vs 2 = .slice (some ⟨g, 0, none⟩) i cap := told_is _ (htold 2 (by decide)) rfl
  have t3 : vs 3 = .slice (some ⟨g, 0, none⟩) n cap := told_is _ (htold 3 (by decide)) rfl
  have t4 : vs 4 = .int .i64 (i + 1 : Nat) := told_is _ (htold 4 (by decide)) rfl
  have t5 : vs 5 = .slice (some ⟨g, z, none⟩) (n - (i + 1)) (cap - (i + 1)) := told_is _ (htold 5 (by decide)) rfl
  have t6 : vs 6 = .slice (some ⟨g, 0, none⟩) k cap := told_is _ (htold 6 (by decide)) rfl
  have t7 : vs 7 = .slice (some ⟨g, 0, none⟩) k cap := told_is _ (htold 7 (by decide)) rfl
  have hl6 := hl 6 (by decide)
  rw [hl6] at hJ
  rw [show (List.range 8).map vs = [vs 0, vs 1, vs 2, vs 3, vs 4, vs 5, vs 6, vs 7] from rfl]
  simp only [t0, t1, t2, t3, t4, t5, t6, t7, putAll, Act.put, List.setIfInBounds_toArray, List.set_cons_succ, List.set_cons_zero]
  clear t0 t1 t2 t3 t4 t5 t6 t7 htold hl hl6
  obtain ⟨HB9, HK9⟩ := hJ.2 rfl
  replace HB := hide HB9
  have HK := hide HK9
  clear hJ HB9 HK9
  go_wp2_with (
    first
    | (refine wpList_plain (by rfl) fun K hK => o_clr (.tmp 31) (by rfl) g k (n - k) (cap - k) (p ++ q ++ ([la] ++ ex)) (by omega) (by kernel_rfl) (unhide HB) (by simp; omega) fun W9 hb9 hk9 => hK _ _ ?_))
  go_ret
  refine ⟨rfl, ?_, (unhide HK).trans hk9⟩
  have e : (p ++ q ++ ([la] ++ ex)).set k (.int .i64 0) = p ++ q ++ .int .i64 0 :: ex := by
    rw [List.set_append_right _ _ (by simp; omega), show k - (p ++ q).length = 0 by simp; omega]
    rfl
  rw [e] at hb9
  exact hb9

end Go.Proofs.Ytpcggcicpojdoaa
