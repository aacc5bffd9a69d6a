/-
  To: the numbers of the letters to a node.
-/
import Derived.Test.YtpcggcicpojdoaaNs
namespace Go.Proofs.Ytpcggcicpojdoaa
open Go.RowKit Go.Shelf
attribute [local go_sem] Oper.semAt_some

theorem alloc56 (w : World) : (Instr.alloc 56 true (.tuple #[])).run Try.prog w = .ok (P0 w.heap.size) (w.alloc (.cells [Value.slice none 0 0].toArray 56)) := by kernel_rfl
theorem blk_grown {W W' : World} {row : Option Nat} {b T : Nat} {us : List Value} (h : Blk W b T us) (hg : W.grownBy W' row) (hr : ∀ r, row = some r → ∃ o : Obj, W.heap[r]? = some o ∧ o.isCells = false) : Blk W' b T us := cells_kept h hg hr
theorem owns_grown {W W' : World} {row : Option Nat} {base e size n : Nat} {v : Value} {xs : List Value} (h : W.ownsRow base e size v n xs) (hg : W.grownBy W' row) (hr : ∀ r, row = some r → ∃ o : Obj, W.heap[r]? = some o ∧ o.isCells = false) : W'.ownsRow base e size v n xs := by
  refine ⟨h.1, ?_⟩
  rcases h.2 with h2 | ⟨g, cap, cur, h1, h2, h3, h4⟩
  · exact .inl h2
  · exact .inr ⟨g, cap, cur, h1, h2, cells_kept h3 hg hr, h4⟩
theorem keepsFrom_X {B : Nat} {W W' : World} {X : List Nat} (h : Kept X W W') (hX : ∀ k ∈ X, ∃ cs T p, W.heap[k]? = some (Obj.cells cs T p)) : KeepsFrom B W W' :=
  ⟨h.size, fun k o _ hk hc => by
    rw [h.block k (lt_of_block hk) (fun hm => by obtain ⟨cs, T, p, e⟩ := hX k hm; rw [hk] at e; cases e; simp [Obj.isCells] at hc)]
    exact hk⟩
theorem thoseT_stops (n : Nat) (hn : 1 ≤ n) (p1 p2 b mb : Nat) (v : Value) (N : Nn) (node : Int) (q : Nat) (w : World) (hN : Nt w b mb v N) (h1 : Blk w p1 23 [P0 b]) (h2 : Blk w p2 82 [.func (.func 47) #[] #[P0 q]]) (hq : Blk w q 3 [.int .i64 node]) :
    SeqStopsK Fence.wide n Try.prog 56 #[P0 p1, P0 p2] (Lx.vals (filT node N.L)) KeptJ (Lx.done (filT node N.L)) (Lx.part (filT node N.L)) (filT node N.L).length w := by
  intro l J Jx W hW hJ _ hY h0
  have hk : Kept [] w W := Kept.of_below hW
  exact thoseT_in n hn l p1 p2 b mb v N node q J Jx W (hN.kept0 hk) (h1.kept hk (by simp)) (h2.kept hk (by simp)) (hq.kept hk (by simp)) (fun s A B hs hg => hJ s A B none hs hg (fun r e => by cases e)) hY h0
/-- The number that is handed on. -/
def Lx.num (F : List Ltr) (x : Lx) : Value := .int .i64 ((F[x.i]?).getD zLtr).num
theorem Lx.nums_done {F : List Ltr} {ys : List Lx} (h : Lx.done F ys) : ys.map (Lx.num F) = nums F := by
  have e : ys.map (Lx.num F) = (ys.map (·.i)).map (fun i => Value.int .i64 ((F[i]?).getD zLtr).num) := by simp [Lx.num]
  rw [e, h]
  unfold nums
  apply List.ext_getElem?
  intro i
  simp only [List.getElem?_map]
  by_cases hi : i < F.length
  · rw [List.getElem?_range hi, List.getElem?_eq_getElem hi]
    simp [List.getElem?_eq_getElem hi]
  · rw [List.getElem?_eq_none (by simpa using hi), List.getElem?_eq_none (by omega)]
    rfl
/-- What To keeps along its rounds. -/
structure TI (w : World) (bn : Nat) (F : List Ltr) (pre : List Lx) (W : World) : Prop where
  row : ∃ u, Blk W bn 56 [u] ∧ W.ownsRow w.heap.size 2 1 u pre.length (pre.map (Lx.num F))
  k : Kept [] w W
theorem TI.kept {w W W' : World} {bn : Nat} {F : List Ltr} {pre : List Lx} (h : TI w bn F pre W) (hk : Kept [] W W') : TI w bn F pre W' := by
  obtain ⟨u, h1, h2⟩ := h.row
  exact ⟨⟨u, h1.kept hk (by simp), owns_keptX h2 hk (by simp)⟩, h.k.trans hk⟩
theorem keepsFrom_of_kept {B : Nat} {W W' : World} (h : Kept [] W W') : KeepsFrom B W W' := (KeepsOthers.of_grownBy (grown_of_kept h) (fun _ _ e => by cases e)).from B
theorem wpBS1 {ops : Array Oper} {rest : List Oper} {op : Oper} {a : Act} {w : World} {Q : Exit → Act → World → Prop} (hgd : op.guard = none) (x : Operand) (ho : op.op = .buildSlice 56 1 #[(0, x)]) (k : Int) (hx : a.eval x = .int .i64 k)
    (h : ∀ W g, g = w.heap.size → Blk W g 2 [.int .i64 k] → Kept [] w W → wpList Try.prog ops Q rest (a.put op.dst (.slice (some ⟨g, 0, none⟩) 1 1)) W) : wpList Try.prog ops Q (op :: rest) a w :=
  wpList_plain hgd fun _ hK => o_bs1 x ho k hx (hK _ _ (h _ _ rfl (Blk.new w 2 [.int .i64 k]) ((Kept.refl _ _).alloc _)))
theorem owns_slN' {w : World} {base e size n : Nat} {v : Value} {xs : List Value} (h : w.ownsRow base e size v n xs) : ∃ ao m c, v = .slice ao m c := by
  obtain ⟨ao, c, e⟩ := owns_slN h
  exact ⟨ao, n, c, e⟩
theorem toW {W W6 W7 : World} {bn base n : Nat} {u : Value} {xs : List Value} (h1 : Blk W bn 56 [u]) (h2 : W.ownsRow base 2 1 u n xs) (h3 : Kept [] W W6) (h4 : W6.grownBy W7 u.ownBlock) : Blk W7 bn 56 [u] := by
  have hne : u.ownBlock ≠ some bn := not_in_own h1 (owns_base h2 (Nat.zero_le _)) (by decide)
  have h5 := h1.kept h3 (by simp)
  unfold Blk at h5 ⊢
  rw [h4.block bn (lt_of_block h5) (fun e => hne e.symm)]
  exact h5
theorem to_end {w W W6 W7 W8 : World} {bn B : Nat} {u v7 : Value} {F : List Ltr} {pre : List Lx} {x : Lx} {y : Ltr} (hgn : w.heap.size ≤ bn) (hk : Kept [] w W) (h1 : Blk W bn 56 [u]) (h2 : W.ownsRow w.heap.size 2 1 u pre.length (pre.map (Lx.num F))) (h3 : Kept [] W W6) (h4 : W6.grownBy W7 u.ownBlock)
    (h5 : W7.ownsRow w.heap.size 2 1 v7 (pre.map (Lx.num F) ++ [Value.int .i64 y.num]).length (pre.map (Lx.num F) ++ [Value.int .i64 y.num])) (hy : Lx.num F x = .int .i64 y.num) (h6 : Blk W8 bn 56 ([u].set 0 v7)) (h7 : Kept [bn] W7 W8) : KeepsFrom B W W8 ∧ KeptJ W W8 ∧ TI w bn F (pre ++ [x]) W8 := by
  have k7 : Kept u.ownBlock.toList W W7 := kept_grow (h3.mono (by simp)) h4 (fun k hk => by rw [hk]; simp)
  have k8 : Kept (bn :: u.ownBlock.toList) W W8 := (k7.mono (fun k hk => List.mem_cons_of_mem _ hk)).trans (h7.mono (by simp))
  have hc : ∀ k ∈ bn :: u.ownBlock.toList, ∃ cs T p, W.heap[k]? = some (Obj.cells cs T p) ∧ T ≠ 47 ∧ T ≠ 5 ∧ w.heap.size ≤ k := by
    intro k hm
    rw [List.mem_cons, Option.mem_toList] at hm
    rcases hm with rfl | hm
    · exact ⟨_, _, _, h1, by decide, by decide, hgn⟩
    · obtain ⟨cs, e⟩ := owns_block h2 k hm
      exact ⟨_, _, _, e, by decide, by decide, (h2.lt k hm).1⟩
  have h5' : W8.ownsRow w.heap.size 2 1 v7 (pre.map (Lx.num F) ++ [Value.int .i64 y.num]).length (pre.map (Lx.num F) ++ [Value.int .i64 y.num]) := owns_keptX h5 h7 (fun k hk => by
    simp
    intro e
    subst e
    have := toW h1 h2 h3 h4
    exact not_in_own this (owns_base h5 (Nat.zero_le _)) (by decide) hk)
  refine ⟨keepsFrom_X k8 (fun k hm => by obtain ⟨cs, T, p, e, _⟩ := hc k hm; exact ⟨cs, T, p, e⟩), (KeptJ.refl W).keptX k8 (fun k hm cs T p e => by obtain ⟨cs', T', p', e', g1, g2, _⟩ := hc k hm; rw [e'] at e; cases e; exact ⟨g1, g2⟩), ⟨⟨v7, h6, ?_⟩, hk.fresh k8 (fun k hm hl => by obtain ⟨_, _, _, _, _, _, g⟩ := hc k hm; omega)⟩⟩
  have e1 : (pre ++ [x]).map (Lx.num F) = pre.map (Lx.num F) ++ [Value.int .i64 y.num] := by rw [List.map_append]; simp [hy]
  have e2 : (pre ++ [x]).length = (pre.map (Lx.num F) ++ [Value.int .i64 y.num]).length := by simp
  rw [e1, e2]
  exact h5'
set_option maxRecDepth 100000 in
set_option maxHeartbeats 4000000 in
theorem to23_in (b mb : Nat) (v : Value) (N : Nn) (node : Int) (w : World) (h : Nt w b mb v N) : CallsIn Fence.wide 3 Try.prog 23 #[P0 b, .int .i64 node] w fun e w' => ∃ u, e = .returned u ∧ w'.ownsRow w.heap.size 2 1 u (filT node N.L).length (nums (filT node N.L)) ∧ Kept [] w w' := by
  have hFw := wideF
  have HN := hide h
  have HK := hide (Kept.refl [] w)
  have PT := hide (fun q (W : World) => those46 b 47 #[P0 q] W)
  clear h
  refine callsIn_of_wp_marks Try.func23 rfl trivial ?_ rfl
  simp only [Try.ntmps23, List.size_toArray, List.length_cons, List.length_nil, Nat.reduceAdd, Nat.reduceSub, Array.replicate_succ, Array.replicate_zero, List.push_toArray, List.append_toArray, List.nil_append, List.cons_append]
  rw [wpIn_wide]
  go_wp2_with (
    first
    | (refine wpBox1 (T := 3) (.int .i64 node) (box3 node) (by rfl) (.tmp 1) (by rfl) (by kernel_rfl) ?_
       intro W1 q e1 B1 K1
       have HQ := hide B1
       replace HK := hide ((unhide HK).trans K1)
       clear e1 B1 K1
       refine Stp.go ?_))
  constructor
  go_wp2_with (
    first
    | (refine wpAllocW [.slice none 0 0] alloc56 5 (by rfl) (by rfl) (by rfl) ?_
       intro W2 bn e2 B2 K2
       have HBN := hide B2
       have HGN : Hid (w.heap.size ≤ bn) := by rw [e2]; exact (unhide HK).size
       replace HQ := hide ((unhide HQ).kept K2 (by simp))
       replace HK := hide ((unhide HK).trans K2)
       clear e2 B2 K2
       refine Stp.go ?_))
  constructor
  go_wp2_with (
    first
    | (go_at_call 46
       refine (unhide PT q _).mono ?_
       rintro e W3 ⟨p1, p2, rfl, b1, b2, K3, _, _⟩
       have H1 := hide b1
       have H2 := hide b2
       replace HQ := hide ((unhide HQ).kept K3 (by simp))
       replace HBN := hide ((unhide HBN).kept K3 (by simp))
       replace HK := hide ((unhide HK).trans K3)
       clear b1 b2 K3))
  rw [← wpIn_wide (n := 3)]
  obtain ⟨F, hF⟩ : ∃ F, filT node N.L = F := ⟨_, rfl⟩
  have hF4 : F.length ≤ 4096 := by have h1 := List.length_filter_le (fun l => decide (l.to = node)) N.L; have h2 := (unhide HN).many; rw [← hF]; show (List.filter _ _).length ≤ 4096; omega
  have hseq := thoseT_stops 2 (by omega) p1 p2 b mb v N node q _ ((unhide HN).kept0 (unhide HK)) (unhide H1) (unhide H2) (unhide HQ)
  rw [hF] at hseq
  have HT0 : TI w bn F [] W3 := ⟨⟨_, unhide HBN, World.ownsRow_nil _ _ _ _⟩, unhide HK⟩
  have hgn : w.heap.size ≤ bn := unhide HGN
  have HW3 := hide (unhide HK).size
  have HFF := hide hF
  clear HK HQ H1 H2 HBN HN PT hF
  refine wpIn_rangeFunc_ownH rfl (by omega) (gf := 56) (lb := #[P0 p1, P0 p2]) rfl trivial cf56 hseq KeptJ.trans (keptJ_b _) (Below.refl _ _) (fun _ => rfl) (TI w bn F) (fun _ _ _ => False) ?hI (fun _ _ _ _ _ h => h.elim) HT0
    (fun x a' W => ∃ bx, Blk W bx 47 (((F[x.i]?).getD zLtr).D (.slice x.ao x.m x.c)) ∧ a' = { tmps := #[P0 b, .int .i64 node, undef, P0 q, .slice none 0 0, P0 bn, P0 bx, P0 b, .func (.func 47) #[] #[P0 q], .func (.func 56) #[] #[P0 p1, P0 p2], aggV (((F[x.i]?).getD zLtr).D (.slice x.ao x.m x.c)), undef, undef, undef, undef, undef, undef], defers := [] }) (fun x a' s A B row hs hg hr => by obtain ⟨bx, h1, h2⟩ := hs; exact ⟨bx, blk_grown h1 hg (fun r e => (hr r e).2), h2⟩) ?assign ?body ?done ?stop
  case hI =>
    intro s A B row hs hg hr
    obtain ⟨u, g1, g2⟩ := hs.row
    have hr2 : ∀ r, row = some r → ∃ o : Obj, A.heap[r]? = some o ∧ o.isCells = false := fun r e => (hr r e).2
    exact ⟨⟨u, blk_grown g1 hg hr2, owns_grown g2 hg hr2⟩, kept_kept (B := w.heap.size) hs.k hg (Nat.le_refl _) (fun r e => by have h3 := (hr r e).1; have h4 := unhide HW3; omega)⟩
  case assign =>
    intro l pre x W K hI hK
    simp only [Lx.vals, List.zip_toArray, List.zip_cons_cons, List.zip_nil_right, List.foldl_toArray, List.foldl_cons, List.foldl_nil, List.setIfInBounds_toArray, List.set_cons_succ, List.set_cons_zero]
    gi_wp2_with (
      first
      | (refine inNew row47 zL rfl alloc47 6 (by rfl) (fun _ => trivial) (by rfl) (by rfl) (by rfl) (.tmp 10) (by rfl) (by rfl) (fun _ => by rfl) (by rfl) (((F[x.i]?).getD zLtr).D (.slice x.ao x.m x.c)) rfl (D_one rfl) (by rfl) (by rfl) ?_
         intro W9 bx ex BX KX
         have HBX := hide BX
         have HKX := hide KX
         clear ex BX KX))
    exact hK _ _ (keepsFrom_of_kept (unhide HKX)) (KeptJ.of_kept (unhide HKX)) (hI.kept (unhide HKX)) ⟨bx, unhide HBX, rfl⟩
  case body =>
    rintro l pre x a' W _ _ hI ⟨bx, hbx, rfl⟩ hlt
    obtain ⟨u, hu1, hu2⟩ := hI.row
    have hk0 := hide hI.k
    obtain ⟨y, hy⟩ : ∃ y, ((F[x.i]?).getD zLtr) = y := ⟨_, rfl⟩
    rw [hy] at hbx ⊢
    have HY : Hid (Lx.num F x = .int .i64 y.num) := by unfold Lx.num; rw [hy]; exact (rfl : Value.int .i64 y.num = .int .i64 y.num)
    have hc0 := fits_cell hu1 0 _ rfl
    have hcx := fits_cell hbx 0 (.int .i64 y.num) rfl
    have HU1 := hide hu1
    have HU2 := hide hu2
    obtain ⟨uo, uc, hus⟩ := owns_slN hu2
    have HUS := hide hus
    clear hI hu1 hu2 hbx hy hus
    gi_wp2_with (
      first
      | (refine listIn_of_list (by rintro ⟨a, w, h⟩; exact h) _ _ _ (noDefer_spec (by kernel_rfl)) ?_
         refine Stp.go ?_))
    constructor
    go_wp2_with (
      first
      | (refine wpBS1 (by rfl) (.tmp 13) (by rfl) y.num (by kernel_rfl) ?_
         intro W6 g6 e6 B6 K6
         have HB6 := hide B6
         have HG6 : Hid (W.heap.size ≤ g6) := by rw [e6]; exact (Nat.le_refl _ : W.heap.size ≤ W.heap.size)
         have HK6 := hide K6
         clear e6 B6 K6
         refine Stp.go ?_))
    constructor
    go_wp2_with (
      first
      | (at_builtin; refine wpAppV (T := 56) (e := 2) (z := .int .i64 0) (by8 := 8) Try.sl56 Try.zero2 rfl (by decide) (by rfl) (.tmp 11) (.tmp 14) (by rfl) w.heap.size u (pre.map (Lx.num F)) [Value.int .i64 y.num] (by kernel_rfl) (some ⟨g6, 0, none⟩) 1 1 (by kernel_rfl) (fun h => by cases h) ⟨rfl, Nat.le_refl _, fun _ => ⟨g6, 0, rfl, (unhide HB6).range⟩⟩ (by simp [Value.oneCell']) (by rw [List.length_map]; exact owns_keptX (unhide HU2) (unhide HK6) (by simp)) (by rw [List.length_map]; omega) (by have h1 := (unhide hk0).size; have h2 := (unhide HK6).size; omega) ?_
         intro v7 W7 hO7 g7
         have HO7 := hide hO7
         have HG7 := hide g7
         clear hO7 g7
         refine Stp.go ?_))
    constructor
    go_wp2_with (
      first
      | (refine wpStoreV (T := 56) (b := bn) (i := 0) (v := v7) (by rfl) (.tmp 5) (.tmp 15) (by rfl) (by rfl) (by kernel_rfl) (by kernel_rfl) 56 [u] (toW (unhide HU1) (unhide HU2) (unhide HK6) (unhide HG7)) (by obtain ⟨a7, m7, c7, e7⟩ := owns_slN' (unhide HO7); rw [e7]; exact st56 _ _ _ _ _ _ _ _ (toW (unhide HU1) (unhide HU2) (unhide HK6) (unhide HG7)) (by simp)) ?_
         intro W8 B8 K8
         have HX := hide (to_end (B := W3.heap.size) hgn (unhide hk0) (unhide HU1) (unhide HU2) (unhide HK6) (unhide HG7) (unhide HO7) (unhide HY) B8 K8)
         clear B8 K8))
    have hux := unhide HX
    exact hux
  case done =>
    rintro D xs W hD hS hI hK
    obtain ⟨u, hu1, hu2⟩ := hI.row
    have hc0 := fits_cell hu1 0 _ rfl
    have hlen : xs.length = F.length := by have := congrArg List.length hS; rw [List.length_map, List.length_range] at this; exact this
    rw [Lx.nums_done hS, hlen] at hu2
    have HU2 := hide hu2
    have HKK := hide hI.k
    have HDK := hide hK
    have HDG : Hid (w.heap.size ≤ D) := by have := unhide HW3; show _ ≤ _; omega
    clear hI hu1 hu2 hK hS
    go_wp2_with fail
    have hgr := grownBy_putObj' W D (Obj.deferred none)
    have hnc : ∀ r, some D = some r → ∃ o : Obj, W.heap[r]? = some o ∧ o.isCells = false := fun r e => by cases e; exact ⟨_, unhide HDK, rfl⟩
    refine (show LeavesInM Fence.wide 3 Try.prog Try.f23 _ _ [{ target := .collected D, args := #[] }] .returning W from ?_)
    refine ⟨by simp, .inl ⟨_, _, rfl, run_takeDeferred (unhide HDK), ?_⟩⟩
    exact ⟨_, results_tmp rfl _ _ _, u, rfl, by rw [unhide HFF]; exact owns_grown (unhide HU2) hgr hnc, kept_kept (B := w.heap.size) (unhide HKK) hgr (Nat.le_refl _) (fun r e => by cases e; exact unhide HDG)⟩
  case stop =>
    rintro D c pre W _ _ h
    exact h.elim

end Go.Proofs.Ytpcggcicpojdoaa
