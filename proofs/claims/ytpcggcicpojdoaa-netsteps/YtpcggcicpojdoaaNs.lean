/-
  Letters that are gone over.
-/
import Derived.Test.YtpcggcicpojdoaaNr
namespace Go.Proofs.Ytpcggcicpojdoaa
open Go.RowKit

theorem box23 (b : Nat) (w : World) : (Instr.box 23 (P0 b)).run Try.prog w = .ok (P0 w.heap.size) (w.alloc (.cells [P0 b].toArray 23)) := by kernel_rfl
theorem box82 (f : Nat) (cs : Array Value) (w : World) : (Instr.box 82 (.func (.func f) #[] cs)).run Try.prog w = .ok (P0 w.heap.size) (w.alloc (.cells [Value.func (.func f) #[] cs].toArray 82)) := by kernel_rfl
theorem those46 (b f : Nat) (cs : Array Value) (w : World) : Calls Try.prog 46 #[P0 b, .func (.func f) #[] cs] w fun e w' => ∃ p1 p2, e = .returned (.func (.func 56) #[] #[P0 p1, P0 p2]) ∧ Blk w' p1 23 [P0 b] ∧ Blk w' p2 82 [.func (.func f) #[] cs] ∧ Kept [] w w' ∧ w.heap.size ≤ p1 ∧ w.heap.size ≤ p2 := by
  go_enter Try.func46, Try.ntmps46
  go_wp2_with (
    first
    | (refine wpBox1 (T := 23) (P0 b) (box23 b) (by rfl) (.tmp 0) (by rfl) (by kernel_rfl) ?_
       intro W1 p1 e1 B1 K1
       have H1 := hide B1
       have HK := hide K1
       have HF1 : Hid (w.heap.size ≤ p1) := by rw [e1]; exact (Nat.le_refl _ : w.heap.size ≤ w.heap.size)
       clear e1 B1 K1
       refine Stp.go ?_))
  constructor
  go_wp2_with (
    first
    | (refine wpBox1 (T := 82) (.func (.func f) #[] cs) (box82 f cs) (by rfl) (.tmp 1) (by rfl) (by kernel_rfl) ?_
       intro W2 p2 e2 B2 K2
       have H2 := hide B2
       have HF2 : Hid (w.heap.size ≤ p2) := by rw [e2]; exact (unhide HK).size
       replace H1 := hide ((unhide H1).kept K2 (by simp))
       replace HK := hide ((unhide HK).trans K2)
       clear e2 B2 K2))
  go_ret
  exact ⟨p1, p2, rfl, unhide H1, unhide H2, unhide HK, unhide HF1, unhide HF2⟩
theorem is47 (l : Ltr) (q : Nat) (node : Int) (w : World) (hq : Blk w q 3 [.int .i64 node]) : Calls Try.prog 47 #[aggV l.C, P0 q] w fun e w' => e = .returned (.bool (decide (l.to = node))) ∧ Kept [] w w' := by
  have HQ := hide hq
  clear hq
  go_enter Try.func47, Try.ntmps47
  go_wp2_with (
    first
    | (refine wpBoxV (by rfl) (.tmp 0) (by rfl) l.C (by kernel_rfl) ?_
       intro W1 p1 e1 B1 K1
       have hc2 := fits_cell B1 2 (.int .i64 l.to) rfl
       have hq0 := fits_cell ((unhide HQ).kept K1 (by simp)) 0 _ rfl
       have HK := hide K1
       clear e1 B1 K1))
  go_ret
  exact ⟨rfl, unhide HK⟩
theorem is53 (l : Ltr) (w : World) : Calls Try.prog 53 #[aggV l.C] w fun e w' => e = .returned (.bool true) ∧ Kept [] w w' := by
  go_enter Try.func53, Try.ntmps53
  go_wp2
  go_ret
  exact ⟨rfl, (Kept.refl _ _).alloc _⟩
section
variable {o : Oper} {a : Act} {w : World} {K : Act → World → Prop} {Q : Exit → Act → World → Prop}
theorem o_load23 (x : Operand) (ho : o.op = .load 23 x) (p : Addr) (v : Value) (hx : a.eval x = .pointer (some p)) (hc : w.cell? p = some v) (h : K (a.put o.dst v) w) : o.wp Try.prog a w K Q := by
  unfold Oper.wp execOp
  simp only [ho, hx]
  simp [go_sem, hc]
  exact h
theorem o_idx56 (x y : Operand) (ho : o.op = .indexAddr 56 x y) (g off m c k : Nat) (hk : k < m) (hx : a.eval x = .slice (some ⟨g, off, none⟩) m c) (hy : a.eval y = .int .i64 k) (h : K (a.put o.dst (.pointer (some ⟨g, off + k, none⟩))) w) : o.wp Try.prog a w K Q := by
  unfold Oper.wp execOp
  simp only [ho, hx, hy]
  simp [go_sem, hk]
  exact h
theorem o_look1 (m x : Operand) (ho : o.op = .lookup 55 m x false) (mb : Nat) (L : List Ltr) (k : Int) (l : Ltr) (hl : lookL k L = l) (hm : a.eval m = .map (some mb)) (hx : a.eval x = .int .i64 k) (hM : MapAt w mb L) (h : K (a.put o.dst (aggV l.C)) w) : o.wp Try.prog a w K Q := by
  have hr := run_look1 w mb L k hM
  rw [lookV_C, hl] at hr
  unfold Oper.wp execOp
  simp only [ho, hm, hx, Sem.run_bind, hr, Result.andThen_ok]
  exact h
theorem o_all47 (ho : o.op = .alloc 47) (h : K (a.put o.dst (P0 w.heap.size)) (w.alloc (.cells zL.toArray 47))) : o.wp Try.prog a w K Q := by
  unfold Oper.wp execOp
  simp only [ho, Sem.run_bind, alloc47, Result.andThen_ok]
  exact h
end
theorem Try.sl43 : Try.prog.underlying 43 = some (.slice 47) := by kernel_rfl
theorem Try.info47 : (Try.prog.info? 47).map (fun i => (i.zero, i.size, i.bytes)) = some (some (aggV zL), 4, 48) := by kernel_rfl
section
variable {ops : Array Oper} {rest : List Oper} {op : Oper} {a : Act} {w : World} {Q : Exit → Act → World → Prop}
theorem wpAppL (hgd : op.guard = none) (s x : Operand) (ho : op.op = .call { callee := .builtin .append, args := #[s, x], argTypes := #[43, 43] }) (B : Nat) (v : Value) (k : Nat) (xs : List Value) (hs : a.eval s = v) (g : Nat) (hx : a.eval x = .slice (some ⟨g, 0, none⟩) 1 1)
    (news : List Value) (hl : news.length = 4) (hB : Blk w g 47 news) (h1 : ∀ u ∈ news, u.oneCell' = true) (hown : w.ownsRow B 47 4 v k xs) (hk : k ≤ 100000) (hbase : B ≤ w.heap.size)
    (h : ∀ v' w', w'.ownsRow B 47 4 v' (k + 1) (xs ++ news) → w.grownBy w' v.ownBlock → wpList Try.prog ops Q rest (a.put op.dst v') w') : wpList Try.prog ops Q (op :: rest) a w := by
  obtain ⟨i0, hi, hz0, hz1, hz2⟩ := info_parts Try.info47
  refine wpList_append_own w hgd s x 43 ho B 47 i0 (aggV zL) 4 48 Try.sl43 hi hz0 hz1 hz2 rfl (by decide) v k xs hs hown ⟨g, 0, none⟩ 1 1 news hx (by omega) ?_ h1 (by unfold maxLen; omega) (by omega) hbase ?_
  · intro i u hu
    rw [Addr.add_lit, Nat.zero_add, hB.cell]; exact hu
  · intro v' w' g1 g2 _
    exact h v' w' g1 g2
theorem wpBSliceL (hgd : op.guard = none) (x : Operand) (ho : op.op = .buildSlice 43 1 #[(0, x)]) (c0 c1 c2 c3 : Value) (hx : a.eval x = aggV [c0, c1, c2, c3])
    (h : ∀ W g, w.heap.size = g → Blk W g 47 [c0, c1, c2, c3] → Kept [] w W → wpList Try.prog ops Q rest (a.put op.dst (.slice (some ⟨g, 0, none⟩) 1 1)) W) : wpList Try.prog ops Q (op :: rest) a w :=
  wpList_plain hgd fun K hK => by
    have hr : (Instr.buildSlice 43 1 #[(0, aggV [c0, c1, c2, c3])]).run Try.prog w = .ok (.slice (some ⟨w.heap.size, 0, none⟩) 1 1) (w.alloc (.cells [c0, c1, c2, c3].toArray 47)) := by kernel_rfl
    unfold Oper.wp execOp
    simp only [ho, List.map_toArray, List.map_cons, List.map_nil, hx, Sem.run_bind, hr, Result.andThen_ok]
    exact hK _ _ (h _ _ rfl (Blk.new w 47 _) ((Kept.refl _ _).alloc _))
end
/-- What is handed on: a letter's place, and its body. -/
structure Lx where
  i : Nat
  ao : Option Addr
  m : Nat
  c : Nat
def Lx.vals (F : List Ltr) (x : Lx) : Array Value := #[aggV (((F[x.i]?).getD zLtr).D (.slice x.ao x.m x.c))]
def Lx.done (F : List Ltr) (ys : List Lx) : Prop := ys.map (·.i) = List.range F.length
def Lx.part (F : List Ltr) (ys : List Lx) : Prop := ∃ k, k ≤ F.length ∧ 0 < k ∧ ys.map (·.i) = List.range k
def cellsL (L : List Ltr) : List Value := (L.map Ltr.C).flatten
theorem cellsL_app (A B : List Ltr) : cellsL (A ++ B) = cellsL A ++ cellsL B := by simp [cellsL]
theorem cellsL_one (l : Ltr) : cellsL [l] = l.C := by simp [cellsL]
theorem cellsL_get : ∀ (F : List Ltr) (k j : Nat) (l : Ltr), F[k]? = some l → j < 4 → (cellsL F)[k * 4 + j]? = l.C[j]? := by
  intro F
  induction F with
  | nil => intro k j l h; simp at h
  | cons x F ih =>
    intro k j l h hj
    have e : cellsL (x :: F) = x.C ++ cellsL F := by simp [cellsL]
    rw [e]
    cases k with
    | zero =>
      simp at h
      subst h
      rw [List.getElem?_append_left (by rw [Ltr.lenC]; omega)]
      congr 1
      omega
    | succ k =>
      rw [List.getElem?_append_right (by rw [Ltr.lenC]; omega), Ltr.lenC, show (k + 1) * 4 + j - 4 = k * 4 + j by omega]
      exact ih k j l (by simpa using h) hj
theorem cellsL_at {w : World} {base n : Nat} {F : List Ltr} {so : Option Addr} {sc k : Nat} {l : Ltr} (h : w.ownsRow base 47 4 (.slice so n sc) F.length (cellsL F)) (hl : F[k]? = some l) : ∃ g, so = some ⟨g, 0, none⟩ ∧ w.rangeAt g (k * 4) l.C := by
  have hlt : k < F.length := (List.getElem?_eq_some_iff.1 hl).1
  rcases h.2 with ⟨_, h2⟩ | ⟨g, cap, cur, h1, _, h3, _, _, _, h7⟩
  · omega
  · cases h1
    refine ⟨g, rfl, fun j v hj => ?_⟩
    have hj4 : j < 4 := by have := (List.getElem?_eq_some_iff.1 hj).1; rw [Ltr.lenC] at this; exact this
    have := cellsL_get F k j l hl hj4
    rw [hj, ← h7, List.getElem?_take_of_lt (by omega)] at this
    rw [cell_of_block h3, ← this, Array.getElem?_toList]
theorem owns_slN {w : World} {base e size n : Nat} {v : Value} {xs : List Value} (h : w.ownsRow base e size v n xs) : ∃ ao c, v = .slice ao n c := by
  rcases h.2 with ⟨rfl, rfl⟩ | ⟨g, cap, cur, rfl, _⟩
  · exact ⟨_, _, rfl⟩
  · exact ⟨_, _, rfl⟩
@[reducible] def T4s (w : World) (l0 : Ltr) (b12 : Bool) (v12 : Value) (b13 : Bool) (_ : Value) (W : World) : Prop :=
  Kept [] w W ∧ (b12 = true → ∃ p, v12 = P0 p ∧ w.heap.size ≤ p ∧ (b13 = false → Blk W p 47 zL) ∧ (b13 = true → Blk W p 47 l0.C))
/-- Those letters. -/
def filT (node : Int) (L : List Ltr) : List Ltr := L.filter (fun l => decide (l.to = node))
theorem filT_step (node : Int) (L : List Ltr) (k : Nat) (l : Ltr) (h : L[k]? = some l) : filT node (L.take (k + 1)) = filT node (L.take k) ++ (if (decide (l.to = node)) = true then [l] else []) := by
  obtain ⟨hlt, rfl⟩ := List.getElem?_eq_some_iff.1 h
  unfold filT
  rw [List.take_add_one, List.getElem?_eq_getElem hlt, Option.toList_some, List.filter_append]
  congr 1
  simp only [List.filter_cons, List.filter_nil]
set_option maxHeartbeats 4000000 in
set_option maxRecDepth 100000 in
theorem thoseT_in (n : Nat) (hn : 1 ≤ n) (lp p1 p2 b mb : Nat) (v : Value) (N : Nn) (node : Int) (q : Nat) (J Jx : List Lx → World → Prop) (W : World) (hN : Nt W b mb v N) (h1 : Blk W p1 23 [P0 b]) (h2 : Blk W p2 82 [.func (.func 47) #[] #[P0 q]]) (hq : Blk W q 3 [.int .i64 node])
    (hJ : ∀ s A B, J s A → A.grownBy B none → J s B)
    (hY : ∀ pre (x : Lx) W1, J pre W1 → pre.length < (filT node N.L).length → YieldAt Fence.wide (n - 1) Try.prog lp (Lx.vals (filT node N.L) x) W1 fun e W' => (e = .returned (.bool true) ∧ J (pre ++ [x]) W' ∧ KeptJ W1 W') ∨ (e = .returned (.bool false) ∧ Jx (pre ++ [x]) W'))
    (h0 : J [] W) :
    CallsIn Fence.wide n Try.prog 56 #[.func (.yield lp) #[] #[], P0 p1, P0 p2] W fun e W' => (∃ v, e = .returned v) ∧
      ((∃ ys, Lx.done (filT node N.L) ys ∧ J ys W') ∨ (∃ pre, Lx.part (filT node N.L) pre ∧ Jx pre W')) := by
  have hFw := wideF
  obtain ⟨oo, oc, rfl, hVo, _⟩ := owns_vals hN.ord
  have PL := hide (fun W' (hk : Kept [] W W') => len21 b mb _ N W' (hN.kept0 hk))
  have H1 := hide h1
  have H2 := hide h2
  have HN := hide hN
  have HVO := hide hVo
  have HK := hide (Kept.refl [] W)
  have hc1 := fits_cell h1 0 _ rfl
  have HQ := hide hq
  clear hq
  rw [callsIn_wide]
  clear h1 h2 hN hVo
  go_enter Try.func56, Try.ntmps56
  go_wp2_with (
    first
    | (go_at_call 21
       refine (unhide PL _ (Kept.refl _ _)).mono ?_
       rintro e V1 ⟨rfl, hw1⟩
       obtain rfl := hw1.symm
       clear hw1 hc1))
  go_loopw [4, 11] (fun sv i wr => ∃ k : Nat, k ≤ N.L.length ∧ i = .int .i64 k ∧ Hid (wr.ownsRow W.heap.size 47 4 sv (filT node (N.L.take k)).length (cellsL (filT node (N.L.take k)))) ∧ Hid (Kept [] W wr)) (fun _ i _ => N.L.length - (intOf i).toNat)
  case atStart => exact ⟨0, by omega, rfl, World.ownsRow_nil _ _ _ _, HK⟩
  case round =>
    clear HK
    obtain ⟨k, hk, rfl, HO, HK⟩ := hrel
    by_cases hlt : k < N.L.length
    · obtain ⟨l0, hl0⟩ : ∃ l, N.L[k]? = some l := ⟨_, List.getElem?_eq_getElem hlt⟩
      have hne : nums N.L ≠ [] := by intro e; have := congrArg List.length e; rw [nums_len] at this; simp at this; rw [this] at hlt; simp at hlt
      obtain ⟨g, off, rfl, hr⟩ := (unhide HVO).lies hne
      have HCE : Hid (wr.cell? ⟨g, off + k, none⟩ = some (.int .i64 l0.num)) := (unhide HK).cell (hr k (.int .i64 l0.num) (by simp [nums, hl0])) (by simp)
      have hNw := (unhide HN).kept0 (unhide HK)
      have hbl := hNw.body l0 (List.mem_of_getElem? hl0)
      have HLK : Hid (lookL l0.num N.L = l0) := lookL_some (place_self hNw.rise hl0)
      have HC : Hid (∀ u ∈ l0.C, u.oneCell' = true) := D_one (l := l0) hbl.one
      have HM := hide hNw.map
      have HH := hide hNw.head
      have H1w := hide ((unhide H1).kept (unhide HK) (by simp))
      have H2w := hide ((unhide H2).kept (unhide HK) (by simp))
      have hst := filT_step node N.L k l0 hl0
      have hltI : (k : Int) < N.L.length := by omega
      have hmany := hNw.many
      have HLN : Hid ((filT node (N.L.take k)).length ≤ 4096) := by have h1 := List.length_filter_le (fun l => decide (l.to = node)) (N.L.take k); have h2 := List.length_take_le k N.L; unfold filT; show _ ≤ _; omega
      skip
      clear hr hNw hbl hne hl0
      go_wp2_with fail
      refine wp_region_any mixed (wpAny_gx 14 rfl (by kernel_rfl) [some (P0 b), some (P0 b), some (.pointer (some ⟨b, 2, none⟩)), some (.map (some mb)), some (P0 b), some (P0 b), some (.pointer (some ⟨b, 3, none⟩)), some (.slice (some ⟨g, off, none⟩) N.L.length oc), some (.int .i64 k), some (.pointer (some ⟨g, off + k, none⟩)), some (.int .i64 l0.num), some (aggV l0.C), none, none] rfl (by kernel_rfl) (fun l vs W => (T4s wr l0) (l.getD 12 false) (vs 12) (l.getD 13 false) (vs 13) W) (⟨⟨rfl, rfl, rfl, Nat.le_refl _, fun _ _ _ => rfl⟩, fun h => by cases h⟩) ?_ ?_)
      · intro ix o' hi ho a' w2 l vs hls hlf hJ hout hin hdep hnot
        match ix, ho with
        | 0, ho =>
          obtain rfl := Option.some.inj ho
          have e0 := hout 1 (by kernel_rfl)
          replace e0 : a'.eval (.tmp 1) = _ := e0.trans rfl
          exact o_load23 (.tmp 1) rfl _ _ e0 (fits_cell ((unhide H1w).kept hJ.1 (by simp)) 0 _ rfl) ⟨_, rfl, told_of rfl, keep2 (St := (T4s wr l0)) (by omega) (by decide) (by decide) hJ⟩
        | 1, ho =>
          obtain rfl := Option.some.inj ho
          have e0 : a'.eval (.tmp 14) = P0 b := by have h9 := hin 0 14 (by kernel_rfl) (by kernel_rfl); exact h9.1.trans (told_is _ h9.2 rfl)
          exact o_nil (.tmp 14) rfl _ e0 ⟨_, rfl, told_of rfl, keep2 (St := (T4s wr l0)) (by omega) (by decide) (by decide) hJ⟩
        | 2, ho =>
          obtain rfl := Option.some.inj ho
          have e0 : a'.eval (.tmp 15) = P0 b := by have h9 := hin 1 15 (by kernel_rfl) (by kernel_rfl); exact h9.1.trans (told_is _ h9.2 rfl)
          exact o_fld58_2 (.tmp 15) rfl _ e0 ⟨_, rfl, told_of rfl, keep2 (St := (T4s wr l0)) (by omega) (by decide) (by decide) hJ⟩
        | 3, ho =>
          obtain rfl := Option.some.inj ho
          have e0 : a'.eval (.tmp 16) = .pointer (some ⟨b, 2, none⟩) := by have h9 := hin 2 16 (by kernel_rfl) (by kernel_rfl); exact h9.1.trans (told_is _ h9.2 rfl)
          exact o_load55 (.tmp 16) rfl _ _ e0 (fits_cell ((unhide HH).kept hJ.1 (by simp)) 2 _ rfl) ⟨_, rfl, told_of rfl, keep2 (St := (T4s wr l0)) (by omega) (by decide) (by decide) hJ⟩
        | 4, ho =>
          obtain rfl := Option.some.inj ho
          have e0 := hout 1 (by kernel_rfl)
          replace e0 : a'.eval (.tmp 1) = _ := e0.trans rfl
          exact o_load23 (.tmp 1) rfl _ _ e0 (fits_cell ((unhide H1w).kept hJ.1 (by simp)) 0 _ rfl) ⟨_, rfl, told_of rfl, keep2 (St := (T4s wr l0)) (by omega) (by decide) (by decide) hJ⟩
        | 5, ho =>
          obtain rfl := Option.some.inj ho
          have e0 : a'.eval (.tmp 18) = P0 b := by have h9 := hin 4 18 (by kernel_rfl) (by kernel_rfl); exact h9.1.trans (told_is _ h9.2 rfl)
          exact o_nil (.tmp 18) rfl _ e0 ⟨_, rfl, told_of rfl, keep2 (St := (T4s wr l0)) (by omega) (by decide) (by decide) hJ⟩
        | 6, ho =>
          obtain rfl := Option.some.inj ho
          have e0 : a'.eval (.tmp 19) = P0 b := by have h9 := hin 5 19 (by kernel_rfl) (by kernel_rfl); exact h9.1.trans (told_is _ h9.2 rfl)
          exact o_fld58_3 (.tmp 19) rfl _ e0 ⟨_, rfl, told_of rfl, keep2 (St := (T4s wr l0)) (by omega) (by decide) (by decide) hJ⟩
        | 7, ho =>
          obtain rfl := Option.some.inj ho
          have e0 : a'.eval (.tmp 20) = .pointer (some ⟨b, 3, none⟩) := by have h9 := hin 6 20 (by kernel_rfl) (by kernel_rfl); exact h9.1.trans (told_is _ h9.2 rfl)
          exact o_load56 (.tmp 20) rfl _ _ e0 (fits_cell ((unhide HH).kept hJ.1 (by simp)) 3 _ rfl) ⟨_, rfl, told_of rfl, keep2 (St := (T4s wr l0)) (by omega) (by decide) (by decide) hJ⟩
        | 8, ho =>
          obtain rfl := Option.some.inj ho
          have e0 := hout 5 (by kernel_rfl)
          replace e0 : a'.eval (.tmp 5) = _ := e0.trans rfl
          exact wp_move (.tmp 5) rfl _ e0 ⟨_, rfl, told_of rfl, keep2 (St := (T4s wr l0)) (by omega) (by decide) (by decide) hJ⟩
        | 9, ho =>
          obtain rfl := Option.some.inj ho
          have e0 : a'.eval (.tmp 21) = .slice (some ⟨g, off, none⟩) N.L.length oc := by have h9 := hin 7 21 (by kernel_rfl) (by kernel_rfl); exact h9.1.trans (told_is _ h9.2 rfl)
          have e1 : a'.eval (.tmp 22) = .int .i64 k := by have h9 := hin 8 22 (by kernel_rfl) (by kernel_rfl); exact h9.1.trans (told_is _ h9.2 rfl)
          exact o_idx56 (.tmp 21) (.tmp 22) rfl g off N.L.length oc k hlt e0 e1 ⟨_, rfl, told_of rfl, keep2 (St := (T4s wr l0)) (by omega) (by decide) (by decide) hJ⟩
        | 10, ho =>
          obtain rfl := Option.some.inj ho
          have e0 : a'.eval (.tmp 23) = .pointer (some ⟨g, off + k, none⟩) := by have h9 := hin 9 23 (by kernel_rfl) (by kernel_rfl); exact h9.1.trans (told_is _ h9.2 rfl)
          exact o_load2 (.tmp 23) rfl _ _ e0 (hJ.1.cell (unhide HCE) (by simp)) ⟨_, rfl, told_of rfl, keep2 (St := (T4s wr l0)) (by omega) (by decide) (by decide) hJ⟩
        | 11, ho =>
          obtain rfl := Option.some.inj ho
          have e0 : a'.eval (.tmp 17) = .map (some mb) := by have h9 := hin 3 17 (by kernel_rfl) (by kernel_rfl); exact h9.1.trans (told_is _ h9.2 rfl)
          have e1 : a'.eval (.tmp 24) = .int .i64 l0.num := by have h9 := hin 10 24 (by kernel_rfl) (by kernel_rfl); exact h9.1.trans (told_is _ h9.2 rfl)
          exact o_look1 (.tmp 17) (.tmp 24) rfl mb N.L l0.num l0 (unhide HLK) e0 e1 ((unhide HM).kept hJ.1 (by simp)) ⟨_, rfl, told_of rfl, keep2 (St := (T4s wr l0)) (by omega) (by decide) (by decide) hJ⟩
        | 12, ho =>
          obtain rfl := Option.some.inj ho
          exact o_all47 rfl ⟨_, rfl, told_no rfl, next2a (St := (T4s wr l0)) (by omega) (by decide) ⟨hJ.1.alloc _, fun _ => ⟨w2.heap.size, rfl, hJ.1.size, fun _ => Blk.new w2 47 zL, fun h13 => by rw [hnot 13 (by kernel_rfl)] at h13; cases h13⟩⟩⟩
        | 13, ho =>
          obtain rfl := Option.some.inj ho
          have e0 : a'.eval (.tmp 6) = vs 12 := (hin 12 6 (by kernel_rfl) (by kernel_rfl)).1
          have e1 : a'.eval (.tmp 25) = aggV l0.C := by have h9 := hin 11 25 (by kernel_rfl) (by kernel_rfl); exact h9.1.trans (told_is _ h9.2 rfl)
          obtain ⟨p, hp, hge, hz, _⟩ := hJ.2 (hdep 12 (by kernel_rfl))
          exact wp_storeN row47 (.tmp 6) (.tmp 25) rfl rfl p 0 l0.C (e0.trans hp) e1 rfl (unhide HC) ((hz hlf).there (by decide)) ⟨undef, rfl, told_no rfl, next2b (St := (T4s wr l0)) (v := undef) (by omega) (by decide) ⟨hJ.1.setCells _ _ (by omega), fun _ => ⟨p, hp, hge, fun h => (by cases h), fun _ => (hz hlf).put rfl⟩⟩⟩
      intro l vs w9 hl hJ htold
      have t0 : vs 0 = P0 b := told_is _ (htold 0 (by decide)) rfl
      have t1 : vs 1 = P0 b := told_is _ (htold 1 (by decide)) rfl
      have t2 : vs 2 = .pointer (some ⟨b, 2, none⟩) := told_is _ (htold 2 (by decide)) rfl
      have t3 : vs 3 = .map (some mb) := told_is _ (htold 3 (by decide)) rfl
      have t4 : vs 4 = P0 b := told_is _ (htold 4 (by decide)) rfl
      have t5 : vs 5 = P0 b := told_is _ (htold 5 (by decide)) rfl
      have t6 : vs 6 = .pointer (some ⟨b, 3, none⟩) := told_is _ (htold 6 (by decide)) rfl
      have t7 : vs 7 = .slice (some ⟨g, off, none⟩) N.L.length oc := told_is _ (htold 7 (by decide)) rfl
      have t8 : vs 8 = .int .i64 k := told_is _ (htold 8 (by decide)) rfl
      have t9 : vs 9 = .pointer (some ⟨g, off + k, none⟩) := told_is _ (htold 9 (by decide)) rfl
      have t10 : vs 10 = .int .i64 l0.num := told_is _ (htold 10 (by decide)) rfl
      have t11 : vs 11 = aggV l0.C := told_is _ (htold 11 (by decide)) rfl
      have hl12 := hl 12 (by decide)
      have hl13 := hl 13 (by decide)
      rw [hl12, hl13] at hJ
      rw [show (List.range 14).map vs = [vs 0, vs 1, vs 2, vs 3, vs 4, vs 5, vs 6, vs 7, vs 8, vs 9, vs 10, vs 11, vs 12, vs 13] from rfl]
      simp only [t0, t1, t2, t3, t4, t5, t6, t7, t8, t9, t10, t11, putAll, Act.put, List.setIfInBounds_toArray, List.set_cons_succ, List.set_cons_zero]
      clear t0 t1 t2 t3 t4 t5 t6 t7 t8 t9 t10 t11 htold hl hl12 hl13
      obtain ⟨pv, hpv, hge, _, hBp⟩ := hJ.2 rfl
      replace HK := hide ((unhide HK).trans hJ.1)
      rw [hpv]
      have HB := hide (hBp rfl)
      replace HO := hide (owns_keptX (unhide HO) hJ.1 (by simp))
      replace H2w := hide ((unhide H2w).kept hJ.1 (by simp))
      have hc2 := fits_cell (unhide H2w) 0 _ rfl
      have PW := hide (fun W' (hk : Kept [] w9 W') => is47 l0 q node W' ((((unhide HQ).kept (unhide HK) (by simp)).kept hk (by simp))))
      clear hJ hBp hge hpv HH HM HLK HCE
      by_cases hto : l0.to = node
      · rw [if_pos (decide_eq_true hto)] at hst
        rw [decide_eq_true hto] at PW
        go_wp2_with (
          first
          | (refine wpLoadA row47 (by rfl) (.tmp 6) (by rfl) pv 0 (by kernel_rfl) l0.C rfl (unhide HB).range ?_
             refine Stp.go ?_))
        constructor
        go_wp2_with (
          first
          | (go_at_call 47
             refine (unhide PW _ (Kept.refl _ _)).mono ?_
             rintro e W6 ⟨rfl, K6⟩
             replace HB := hide ((unhide HB).kept K6 (by simp))
             replace HO := hide (owns_keptX (unhide HO) K6 (by simp))
             replace HK := hide ((unhide HK).trans K6)
             clear K6 hc2
             refine Stp.go ?_))
        constructor
        go_wp2_with (
          first
          | (refine wpLoadA row47 (by rfl) (.tmp 6) (by rfl) pv 0 (by kernel_rfl) l0.C rfl (unhide HB).range ?_
             refine Stp.go ?_))
        constructor
        go_wp2_with (
          first
          | (refine wpBSliceL (by rfl) (.tmp 30) (by rfl) (.int .i64 l0.num) (.int .i64 l0.fr) (.int .i64 l0.to) l0.v (by kernel_rfl) ?_
             intro W7 g7 e7 B7 K7
             have HB7 : Hid (Blk W7 g7 47 l0.C) := B7
             replace HO := hide (owns_keptX (unhide HO) K7 (by simp))
             replace HK := hide ((unhide HK).trans K7)
             clear e7 B7 K7
             refine Stp.go ?_))
        constructor
        go_wp2_with (
          first
          | (at_builtin; refine wpAppL (by rfl) (.tmp 29) (.tmp 31) (by rfl) W.heap.size u4 _ _ (by kernel_rfl) g7 (by kernel_rfl) l0.C rfl (unhide HB7) (unhide HC) (unhide HO) (by have := unhide HLN; omega) (unhide HK).size ?_
             intro v8 W8 hO8 g8
             have HO8 := hide hO8
             replace HK := hide (kept_grown (unhide HK) g8 (fun k hk => ((unhide HO).lt k hk).1))
             clear hO8 g8))
        go_roundw
        case rel => exact ⟨k + 1, by omega, by go_num, by rw [hst, List.length_append, cellsL_app, cellsL_one]; exact unhide HO8, HK⟩
        case measure => simp [intOf]; omega
      · rw [if_neg (by simpa using hto)] at hst
        rw [decide_eq_false hto] at PW
        go_wp2_with (
          first
          | (refine wpLoadA row47 (by rfl) (.tmp 6) (by rfl) pv 0 (by kernel_rfl) l0.C rfl (unhide HB).range ?_
             refine Stp.go ?_))
        constructor
        go_wp2_with (
          first
          | (go_at_call 47
             refine (unhide PW _ (Kept.refl _ _)).mono ?_
             rintro e W6 ⟨rfl, K6⟩
             replace HB := hide ((unhide HB).kept K6 (by simp))
             replace HO := hide (owns_keptX (unhide HO) K6 (by simp))
             replace HK := hide ((unhide HK).trans K6)
             clear K6 hc2))
        go_roundw
        case rel => exact ⟨k + 1, by omega, by go_num, by rw [hst, List.append_nil]; exact unhide HO, HK⟩
        case measure => simp [intOf]; omega
    · obtain rfl : k = N.L.length := by omega
      rw [List.take_length] at HO
      obtain ⟨so, sc, rfl⟩ := owns_slN (unhide HO)
      go_wp2_with fail
      have HJ0 := hide (hJ [] W wr h0 (grown_of_kept (unhide HK)))
      have HBD : Hid (∀ l ∈ filT node N.L, Bod wr l.v l.bs ∧ l.bs.length ≤ 512) := fun l hl => by have h9 := (List.mem_filter.1 hl).1; exact ⟨((unhide HN).body l h9).kept (unhide HK) (by simp), (unhide HN).small l h9⟩
      have hF4 : (filT node N.L).length ≤ 4096 := by have h1 := List.length_filter_le (fun l => decide (l.to = node)) N.L; have h2 := (unhide HN).many; show (List.filter _ _).length ≤ 4096; omega
      clear HK PL H1 H2 HVO
      obtain ⟨F, hF⟩ : ∃ F, filT node N.L = F := ⟨_, rfl⟩
      rw [hF] at HO HBD hY hF4
      rw [hF]
      rw [← wpIn_wide (n := n)]
      gi_loopw [36] (fun i w1 => ∃ (k : Nat) (ys : List Lx), k ≤ F.length ∧ i = .int .i64 k ∧ Hid (ys.map (·.i) = List.range k) ∧ Hid (J ys w1) ∧ Hid (KeptJ wr w1)) (fun i _ => F.length - (intOf i).toNat)
      case atStart => exact ⟨0, [], by omega, rfl, rfl, HJ0, KeptJ.refl _⟩
      case round =>
        clear HJ0
        obtain ⟨k, ys, hk, rfl, hys, HJ, HKJ⟩ := hrel
        by_cases hlt : k < F.length
        · obtain ⟨l1, hl1⟩ : ∃ l, F[k]? = some l := ⟨_, List.getElem?_eq_getElem hlt⟩
          have hOw := (unhide HKJ).owns (.inl rfl) (unhide HO)
          obtain ⟨g, hso, hrg⟩ := cellsL_at hOw hl1
          subst hso
          have HR := hide hrg
          have hbl := unhide HBD l1 (List.mem_of_getElem? hl1)
          have HB1 : Hid (Bod wr l1.v l1.bs) := ⟨(unhide HKJ).owns (.inr rfl) hbl.1.own, hbl.1.byte⟩
          have HS1 := hide hbl.2
          have HC1 : Hid (∀ u ∈ l1.C, u.oneCell' = true) := D_one (l := l1) hbl.1.one
          have hltI : (k : Int) < F.length := by omega
          clear hOw hrg hbl
          gi_wp2_with (
            first
            | (refine inLoadA row47 wideF (by rfl) (.tmp 38) (by rfl) (by rfl) g (k * 4) (by kernel_rfl) l1.C rfl (unhide HR) ?_)
            | (refine inNew row47 zL rfl alloc47 8 (by rfl) wideF (by rfl) (by rfl) (by rfl) (.tmp 39) (by rfl) (by rfl) (fun _ => by rfl) (by rfl) l1.C rfl (unhide HC1) (by rfl) (by rfl) ?_
               intro W3 b8 e8 B8 K8
               have HB8 := hide B8
               replace HB1 := hide ((unhide HB1).kept K8 (by simp))
               replace HJ := hide (hJ _ _ W3 (unhide HJ) (grown_of_kept K8))
               replace HKJ := hide ((unhide HKJ).trans (KeptJ.of_kept K8))
               clear e8 B8 K8 HR)
            | (refine inLoadA row47 wideF (by rfl) (.tmp 8) (by rfl) (by rfl) b8 0 (by rfl) l1.C rfl (unhide HB8).range ?_)
            | (gi_at_call 52; refine (callsIn_wide.2 (own52 l1 _ (unhide HB1) (unhide HS1))).mono ?_; rintro e' W4 ⟨u, rfl, hBu, _, K4⟩
               obtain ⟨ua, uc, hu, _, _⟩ := hBu.sl
               subst hu
               have HJ4 := hJ _ _ W4 (unhide HJ) (grown_of_kept K4)
               replace HKJ := hide ((unhide HKJ).trans (KeptJ.of_kept K4))
               obtain ⟨fn, tmps, assign, body, hy, hR⟩ := hY ys ⟨k, ua, l1.bs.length, uc⟩ W4 HJ4 (by have := congrArg List.length (unhide hys); rw [List.length_map, List.length_range] at this; omega)
               simp only [Lx.vals, hl1, Option.getD_some] at hy
               have hR' := hide hR
               clear HJ hR HJ4 K4 hBu))
          refine (unhide hR').mono ?_
          rintro e W5 (⟨rfl, hJ5, hk5⟩ | ⟨rfl, hJx5⟩)
          · have HJ5 := hide hJ5
            replace HKJ := hide ((unhide HKJ).trans hk5)
            clear hJ5 hk5 hR'
            gi_wp2
            go_roundw
            case rel => exact ⟨k + 1, ys ++ [⟨k, ua, l1.bs.length, uc⟩], by omega, by go_num, by rw [List.map_append, unhide hys, List.range_succ]; rfl, HJ5, HKJ⟩
            case measure => simp [intOf]; omega
          · have HX5 := hide hJx5
            clear hJx5 hR'
            gi_wp2
            refine bodyPost_ret (results_none rfl _ _ _) rfl ?_
            exact ⟨⟨_, rfl⟩, .inr ⟨_, ⟨k + 1, by rw [hF]; omega, by omega, by rw [List.map_append, unhide hys, List.range_succ]; rfl⟩, unhide HX5⟩⟩
        · obtain rfl : k = F.length := by omega
          gi_wp2
          go_end0
          exact ⟨⟨_, rfl⟩, .inl ⟨ys, by unfold Lx.done; rw [hF]; exact unhide hys, unhide HJ⟩⟩

end Go.Proofs.Ytpcggcicpojdoaa
