/-
  Nets that are not there, gone over.
-/
import Derived.Test.YtpcggcicpojdoaaNz
namespace Go.Proofs.Ytpcggcicpojdoaa
open Go.RowKit Go.Shelf
attribute [local go_sem] Oper.semAt_some

theorem box23o (p : Option Addr) (w : World) : (Instr.box 23 (.pointer p)).run Try.prog w = .ok (P0 w.heap.size) (w.alloc (.cells [Value.pointer p].toArray 23)) := by kernel_rfl
theorem those46o (p : Option Addr) (f : Nat) (cs : Array Value) (w : World) : Calls Try.prog 46 #[.pointer p, .func (.func f) #[] cs] w fun e w' => ∃ p1 p2, e = .returned (.func (.func 56) #[] #[P0 p1, P0 p2]) ∧ Blk w' p1 23 [.pointer p] ∧ Blk w' p2 82 [.func (.func f) #[] cs] ∧ Kept [] w w' := by
  go_enter Try.func46, Try.ntmps46
  go_wp2_with (
    first
    | (refine wpBox1 (T := 23) (.pointer p) (box23o p) (by rfl) (.tmp 0) (by rfl) (by kernel_rfl) ?_
       intro W1 p1 e1 B1 K1
       have H1 := hide B1
       have HK := hide K1
       clear e1 B1 K1
       refine Stp.go ?_))
  constructor
  go_wp2_with (
    first
    | (refine wpBox1 (T := 82) (.func (.func f) #[] cs) (box82 f cs) (by rfl) (.tmp 1) (by rfl) (by kernel_rfl) ?_
       intro W2 p2 e2 B2 K2
       have H2 := hide B2
       replace H1 := hide ((unhide H1).kept K2 (by simp))
       replace HK := hide ((unhide HK).trans K2)
       clear e2 B2 K2))
  go_ret
  exact ⟨p1, p2, rfl, unhide H1, unhide H2, unhide HK⟩
theorem all37 (p : Option Addr) (w : World) : Calls Try.prog 37 #[.pointer p] w fun e w' => ∃ p1 p2, e = .returned (.func (.func 56) #[] #[P0 p1, P0 p2]) ∧ Blk w' p1 23 [.pointer p] ∧ Blk w' p2 82 [.func (.func 53) #[] #[]] ∧ Kept [] w w' := by
  have P := hide (those46o p 53 #[] w)
  go_enter Try.func37, Try.ntmps37
  go_wp2_with (
    first
    | (go_at_call 46
       refine (unhide P).mono ?_
       rintro e W1 ⟨p1, p2, rfl, h1, h2, h3⟩
       have H := hide (And.intro h1 (And.intro h2 h3))
       clear h1 h2 h3))
  go_ret
  exact ⟨p1, p2, rfl, unhide H⟩
set_option maxHeartbeats 1000000 in
theorem thoseZ_in (n : Nat) (lp p1 p2 : Nat) (p : Option Addr) (J : List Lx → World → Prop) (W : World) (hN : Nz p W) (h1 : Blk W p1 23 [.pointer p]) (h0 : J [] W) :
    CallsIn Fence.wide n Try.prog 56 #[.func (.yield lp) #[] #[], P0 p1, P0 p2] W fun e W' => (∃ v, e = .returned v) ∧ J [] W' := by
  have PL := hide (z21 p W hN)
  have hc1 := fits_cell h1 0 _ rfl
  rw [callsIn_wide]
  clear h1 hN
  go_enter Try.func56, Try.ntmps56
  go_wp2_with (
    first
    | (go_at_call 21
       refine (unhide PL).mono ?_
       rintro e V1 ⟨rfl, hw1⟩
       obtain rfl := hw1.symm
       clear hw1 hc1))
  go_loopw [4, 11] (fun sv i wr => sv = .slice none 0 0 ∧ i = .int .i64 0 ∧ wr = W) (fun _ _ _ => 0)
  case atStart => exact ⟨rfl, rfl, rfl⟩
  case round =>
    obtain ⟨rfl, rfl, rfl⟩ := hrel
    go_wp2
    go_loopw [36] (fun i w2 => i = .int .i64 0 ∧ w2 = wr) (fun _ _ => 0)
    case atStart => exact ⟨rfl, rfl⟩
    case round =>
      obtain ⟨rfl, rfl⟩ := hrel
      go_wp2
      go_end0
      exact ⟨⟨_, rfl⟩, h0⟩
theorem thoseZ_stops (n : Nat) (p1 p2 : Nat) (p : Option Addr) (w : World) (hN : Nz p w) (h1 : Blk w p1 23 [.pointer p]) :
    SeqStopsK Fence.wide n Try.prog 56 #[P0 p1, P0 p2] (Lx.vals []) KeptJ (Lx.done []) (Lx.part []) ([] : List Ltr).length w := by
  intro l J Jx W hW hJ _ hY h0
  have hk : Kept [] w W := Kept.of_below hW
  refine (thoseZ_in n l p1 p2 p J W (hN.kept hk) (h1.kept hk (by simp)) h0).mono ?_
  rintro e W' ⟨h1, h2⟩
  exact ⟨h1, .inl ⟨[], rfl, h2⟩⟩
set_option maxRecDepth 100000 in
set_option maxHeartbeats 4000000 in
theorem toZ_in (p : Option Addr) (node : Int) (w : World) (h : Nz p w) : CallsIn Fence.wide 3 Try.prog 23 #[.pointer p, .int .i64 node] w fun e w' => ∃ u, e = .returned u ∧ w'.ownsRow w.heap.size 2 1 u (([] : List Ltr)).length (nums (([] : List Ltr))) ∧ Kept [] w w' := by
  have hFw := wideF
  have HN := hide h
  have HK := hide (Kept.refl [] w)
  have PT := hide (fun q (W : World) => those46o p 47 #[P0 q] W)
  clear h
  refine callsIn_of_wp_marks Try.func23 rfl trivial ?_ rfl
  simp only [Try.ntmps23, List.size_toArray, List.length_cons, List.length_nil, Nat.reduceAdd, Nat.reduceSub, Array.replicate_succ, Array.replicate_zero, List.push_toArray, List.append_toArray, List.nil_append, List.cons_append]
  rw [wpIn_wide]
  go_wp2_with (
    first
    | (refine wpBox1 (T := 3) (.int .i64 node) (box3 node) (by rfl) (.tmp 1) (by rfl) (by kernel_rfl) ?_
       intro W1 q e1 B1 K1
       have HQ := hide B1
       replace HK := hide ((unhide HK).trans K1)
       clear e1 B1 K1
       refine Stp.go ?_))
  constructor
  go_wp2_with (
    first
    | (refine wpAllocW [.slice none 0 0] alloc56 5 (by rfl) (by rfl) (by rfl) ?_
       intro W2 bn e2 B2 K2
       have HBN := hide B2
       have HGN : Hid (w.heap.size ≤ bn) := by rw [e2]; exact (unhide HK).size
       replace HQ := hide ((unhide HQ).kept K2 (by simp))
       replace HK := hide ((unhide HK).trans K2)
       clear e2 B2 K2
       refine Stp.go ?_))
  constructor
  go_wp2_with (
    first
    | (go_at_call 46
       refine (unhide PT q _).mono ?_
       rintro e W3 ⟨p1, p2, rfl, b1, b2, K3⟩
       have H1 := hide b1
       have H2 := hide b2
       replace HQ := hide ((unhide HQ).kept K3 (by simp))
       replace HBN := hide ((unhide HBN).kept K3 (by simp))
       replace HK := hide ((unhide HK).trans K3)
       clear b1 b2 K3))
  rw [← wpIn_wide (n := 3)]
  obtain ⟨F, hF⟩ : ∃ F, ([] : List Ltr) = F := ⟨_, rfl⟩
  have hF4 : F.length ≤ 4096 := by rw [← hF]; simp
  have hseq := thoseZ_stops 2 p1 p2 p _ ((unhide HN).kept (unhide HK)) (unhide H1)
  rw [hF] at hseq
  have HT0 : TI w bn F [] W3 := ⟨⟨_, unhide HBN, World.ownsRow_nil _ _ _ _⟩, unhide HK⟩
  have hgn : w.heap.size ≤ bn := unhide HGN
  have HW3 := hide (unhide HK).size
  have HFF := hide hF
  clear HK HQ H1 H2 HBN HN PT
  refine wpIn_rangeFunc_ownH rfl (by omega) (gf := 56) (lb := #[P0 p1, P0 p2]) rfl trivial cf56 hseq KeptJ.trans (keptJ_b _) (Below.refl _ _) (fun _ => rfl) (TI w bn F) (fun _ _ _ => False) ?hI (fun _ _ _ _ _ h => h.elim) HT0
    (fun x a' W => ∃ bx, Blk W bx 47 (((F[x.i]?).getD zLtr).D (.slice x.ao x.m x.c)) ∧ a' = { tmps := #[.pointer p, .int .i64 node, undef, P0 q, .slice none 0 0, P0 bn, P0 bx, .pointer p, .func (.func 47) #[] #[P0 q], .func (.func 56) #[] #[P0 p1, P0 p2], aggV (((F[x.i]?).getD zLtr).D (.slice x.ao x.m x.c)), undef, undef, undef, undef, undef, undef], defers := [] }) (fun x a' s A B row hs hg hr => by obtain ⟨bx, h1, h2⟩ := hs; exact ⟨bx, blk_grown h1 hg (fun r e => (hr r e).2), h2⟩) ?assign ?body ?done ?stop
  case hI =>
    intro s A B row hs hg hr
    obtain ⟨u, g1, g2⟩ := hs.row
    have hr2 : ∀ r, row = some r → ∃ o : Obj, A.heap[r]? = some o ∧ o.isCells = false := fun r e => (hr r e).2
    exact ⟨⟨u, blk_grown g1 hg hr2, owns_grown g2 hg hr2⟩, kept_kept (B := w.heap.size) hs.k hg (Nat.le_refl _) (fun r e => by have h3 := (hr r e).1; have h4 := unhide HW3; omega)⟩
  case assign =>
    intro l pre x W K hI hK
    simp only [Lx.vals, List.zip_toArray, List.zip_cons_cons, List.zip_nil_right, List.foldl_toArray, List.foldl_cons, List.foldl_nil, List.setIfInBounds_toArray, List.set_cons_succ, List.set_cons_zero]
    gi_wp2_with (
      first
      | (refine inNew row47 zL rfl alloc47 6 (by rfl) (fun _ => trivial) (by rfl) (by rfl) (by rfl) (.tmp 10) (by rfl) (by rfl) (fun _ => by rfl) (by rfl) (((F[x.i]?).getD zLtr).D (.slice x.ao x.m x.c)) rfl (D_one rfl) (by rfl) (by rfl) ?_
         intro W9 bx ex BX KX
         have HBX := hide BX
         have HKX := hide KX
         clear ex BX KX))
    exact hK _ _ (keepsFrom_of_kept (unhide HKX)) (KeptJ.of_kept (unhide HKX)) (hI.kept (unhide HKX)) ⟨bx, unhide HBX, rfl⟩
  case body =>
    rintro l pre x a' W _ _ hI ⟨bx, hbx, rfl⟩ hlt
    obtain ⟨u, hu1, hu2⟩ := hI.row
    have hk0 := hide hI.k
    obtain ⟨y, hy⟩ : ∃ y, ((F[x.i]?).getD zLtr) = y := ⟨_, rfl⟩
    rw [hy] at hbx ⊢
    have HY : Hid (Lx.num F x = .int .i64 y.num) := by unfold Lx.num; rw [hy]; exact (rfl : Value.int .i64 y.num = .int .i64 y.num)
    have hc0 := fits_cell hu1 0 _ rfl
    have hcx := fits_cell hbx 0 (.int .i64 y.num) rfl
    have HU1 := hide hu1
    have HU2 := hide hu2
    obtain ⟨uo, uc, hus⟩ := owns_slN hu2
    have HUS := hide hus
    clear hI hu1 hu2 hbx hy hus
    gi_wp2_with (
      first
      | (refine listIn_of_list (by rintro ⟨a, w, h⟩; exact h) _ _ _ (noDefer_spec (by kernel_rfl)) ?_
         refine Stp.go ?_))
    constructor
    go_wp2_with (
      first
      | (refine wpBS1 (by rfl) (.tmp 13) (by rfl) y.num (by kernel_rfl) ?_
         intro W6 g6 e6 B6 K6
         have HB6 := hide B6
         have HG6 : Hid (W.heap.size ≤ g6) := by rw [e6]; exact (Nat.le_refl _ : W.heap.size ≤ W.heap.size)
         have HK6 := hide K6
         clear e6 B6 K6
         refine Stp.go ?_))
    constructor
    go_wp2_with (
      first
      | (at_builtin; refine wpAppV (T := 56) (e := 2) (z := .int .i64 0) (by8 := 8) Try.sl56 Try.zero2 rfl (by decide) (by rfl) (.tmp 11) (.tmp 14) (by rfl) w.heap.size u (pre.map (Lx.num F)) [Value.int .i64 y.num] (by kernel_rfl) (some ⟨g6, 0, none⟩) 1 1 (by kernel_rfl) (fun h => by cases h) ⟨rfl, Nat.le_refl _, fun _ => ⟨g6, 0, rfl, (unhide HB6).range⟩⟩ (by simp [Value.oneCell']) (by rw [List.length_map]; exact owns_keptX (unhide HU2) (unhide HK6) (by simp)) (by rw [List.length_map]; omega) (by have h1 := (unhide hk0).size; have h2 := (unhide HK6).size; omega) ?_
         intro v7 W7 hO7 g7
         have HO7 := hide hO7
         have HG7 := hide g7
         clear hO7 g7
         refine Stp.go ?_))
    constructor
    go_wp2_with (
      first
      | (refine wpStoreV (T := 56) (b := bn) (i := 0) (v := v7) (by rfl) (.tmp 5) (.tmp 15) (by rfl) (by rfl) (by kernel_rfl) (by kernel_rfl) 56 [u] (toW (unhide HU1) (unhide HU2) (unhide HK6) (unhide HG7)) (by obtain ⟨a7, m7, c7, e7⟩ := owns_slN' (unhide HO7); rw [e7]; exact st56 _ _ _ _ _ _ _ _ (toW (unhide HU1) (unhide HU2) (unhide HK6) (unhide HG7)) (by simp)) ?_
         intro W8 B8 K8
         have HX := hide (to_end (B := W3.heap.size) hgn (unhide hk0) (unhide HU1) (unhide HU2) (unhide HK6) (unhide HG7) (unhide HO7) (unhide HY) B8 K8)
         clear B8 K8))
    have hux := unhide HX
    exact hux
  case done =>
    rintro D xs W hD hS hI hK
    obtain ⟨u, hu1, hu2⟩ := hI.row
    have hc0 := fits_cell hu1 0 _ rfl
    have hlen : xs.length = F.length := by have := congrArg List.length hS; rw [List.length_map, List.length_range] at this; exact this
    rw [Lx.nums_done hS, hlen] at hu2
    have HU2 := hide hu2
    have HKK := hide hI.k
    have HDK := hide hK
    have HDG : Hid (w.heap.size ≤ D) := by have := unhide HW3; show _ ≤ _; omega
    clear hI hu1 hu2 hK hS
    go_wp2_with fail
    have hgr := grownBy_putObj' W D (Obj.deferred none)
    have hnc : ∀ r, some D = some r → ∃ o : Obj, W.heap[r]? = some o ∧ o.isCells = false := fun r e => by cases e; exact ⟨_, unhide HDK, rfl⟩
    refine (show LeavesInM Fence.wide 3 Try.prog Try.f23 _ _ [{ target := .collected D, args := #[] }] .returning W from ?_)
    refine ⟨by simp, .inl ⟨_, _, rfl, run_takeDeferred (unhide HDK), ?_⟩⟩
    exact ⟨_, results_tmp rfl _ _ _, u, rfl, by have h9 := owns_grown (unhide HU2) hgr hnc; rw [← unhide HFF] at h9; exact h9, kept_kept (B := w.heap.size) (unhide HKK) hgr (Nat.le_refl _) (fun r e => by cases e; exact unhide HDG)⟩
  case stop =>
    rintro D c pre W _ _ h
    exact h.elim

theorem z23 (p : Option Addr) (node : Int) (w : World) (h : Nz p w) : Calls Try.prog 23 #[.pointer p, .int .i64 node] w fun e w' => ∃ ao c, e = .returned (.slice ao 0 c) ∧ Kept [] w w' := by
  refine (callsIn_wide.1 (toZ_in p node w h)).mono ?_
  rintro e w' ⟨u, rfl, ho, hk⟩
  obtain ⟨ao, c, rfl⟩ := owns_slN ho
  exact ⟨ao, c, rfl, hk⟩
theorem alloc4 (w : World) : (Instr.alloc 4 true (.tuple #[])).run Try.prog w = .ok (P0 w.heap.size) (w.alloc (.cells [Value.bool false].toArray 4)) := by kernel_rfl
theorem st4 (w : World) (b : Nat) (u : Value) (n : Bool) (h : Blk w b 4 [u]) : (storeVar 4 ⟨b, 0, none⟩ (.bool n)).run Try.prog w = .ok () (w.setCell ⟨b, 0, none⟩ (.bool n)) := by
  have hc := fits_cell h 0 u rfl
  have hf := h.frozen 0
  simp [storeVar, go_sem, hc, hf]
theorem res22 (w : World) (b : Nat) (v : Bool) (tmps : Array Value) (h4 : tmps[2]?.getD undef = P0 b) (hb : Blk w b 4 [.bool v]) : (results Try.f22 tmps).run Try.prog w = .ok (.bool v) w := by
  have hc := fits_cell hb 0 _ rfl
  simp [results, Try.results22, h4, asAddr, go_sem, hc]
theorem eq74 (x y : Nat) (W : World) : Sem.run Try.prog (binOp BinOp.eql 74 (.func (.func 56) #[] #[P0 x, P0 y]) .nilFunc) W = .ok (.bool false) W := by kernel_rfl
set_option maxRecDepth 100000 in
set_option maxHeartbeats 8000000 in
theorem nothing_in (p : Option Addr) (w : World) (h : Nz p w) : CallsIn Fence.wide 3 Try.prog 22 #[.pointer p] w fun e w' => e = .returned (.bool true) ∧ Kept [] w w' := by
  have hFw := wideF
  have HN := hide h
  have HK := hide (Kept.refl [] w)
  clear h
  refine callsIn_of_wp_marks Try.func22 rfl trivial ?_ rfl
  simp only [Try.ntmps22, List.size_toArray, List.length_cons, List.length_nil, Nat.reduceAdd, Nat.reduceSub, Array.replicate_succ, Array.replicate_zero, List.push_toArray, List.append_toArray, List.nil_append, List.cons_append]
  rw [wpIn_wide]
  go_wp2_with (
    first
    | (refine wpAllocW [.bool false] alloc4 2 (by rfl) (by rfl) (by rfl) ?_
       intro W1 bp e1 B1 K1
       have HBP := hide B1
       have HGP : Hid (w.heap.size ≤ bp) := by rw [e1]; exact (unhide HK).size
       replace HN := hide ((unhide HN).kept K1)
       replace HK := hide ((unhide HK).trans K1)
       clear e1 B1 K1
       refine Stp.go ?_))
  constructor
  go_wp2_with (
    first
    | (go_at_call 16
       refine (z16 p 0 1 none 0 0 _ (unhide HN)).mono ?_
       rintro e V2 ⟨rfl, hw9⟩
       obtain rfl := hw9.symm
       clear hw9
       refine Stp.go ?_))
  constructor
  go_wp2_with (
    first
    | (go_at_call 18
       refine (z18 p 1 _ (unhide HN)).mono ?_
       rintro e V3 ⟨rfl, hk⟩
       replace HN := hide ((unhide HN).kept hk)
       replace HK := hide ((unhide HK).trans hk)
       replace HBP := hide ((unhide HBP).kept hk (by simp))
       clear hk
       refine Stp.go ?_))
  constructor
  go_wp2_with (
    first
    | (refine wpNew row47 zL rfl alloc47 5 (by rfl) (by rfl) (by rfl) (.tmp 22) (by rfl) (by rfl) (by rfl) zL rfl zL_one (by kernel_rfl) (by kernel_rfl) ?_
       intro V4 q4 e4 B4 K4
       replace HN := hide ((unhide HN).kept K4)
       replace HK := hide ((unhide HK).trans K4)
       replace HBP := hide ((unhide HBP).kept K4 (by simp))
       clear e4 B4 K4
       refine Stp.go ?_))
  constructor
  go_wp2_with (
    first
    | (go_at_call 17
       refine (z17 p 1 _ (unhide HN)).mono ?_
       rintro e V5 ⟨rfl, hw9⟩
       obtain rfl := hw9.symm
       clear hw9
       refine Stp.go ?_))
  constructor
  go_wp2_with (
    first
    | (go_at_call 34
       refine (z34 p 1 _ (unhide HN)).mono ?_
       rintro e V6 ⟨rfl, hk⟩
       replace HN := hide ((unhide HN).kept hk)
       replace HK := hide ((unhide HK).trans hk)
       replace HBP := hide ((unhide HBP).kept hk (by simp))
       clear hk
       refine Stp.go ?_))
  constructor
  go_wp2_with (
    first
    | (refine wpNew row47 zL rfl alloc47 9 (by rfl) (by rfl) (by rfl) (.tmp 32) (by rfl) (by rfl) (by rfl) zL rfl zL_one (by kernel_rfl) (by kernel_rfl) ?_
       intro V7 q7 e7 B7 K7
       replace HN := hide ((unhide HN).kept K7)
       replace HK := hide ((unhide HK).trans K7)
       replace HBP := hide ((unhide HBP).kept K7 (by simp))
       clear e7 B7 K7
       refine Stp.go ?_))
  constructor
  go_wp2_with (
    first
    | (go_at_call 24
       refine (z24 p _ (unhide HN)).mono ?_
       rintro e V8 ⟨rfl, hk⟩
       replace HN := hide ((unhide HN).kept hk)
       replace HK := hide ((unhide HK).trans hk)
       replace HBP := hide ((unhide HBP).kept hk (by simp))
       clear hk
       refine Stp.go ?_))
  constructor
  go_wp2_with (
    first
    | (refine wpNew row47 zL rfl alloc47 11 (by rfl) (by rfl) (by rfl) (.tmp 37) (by rfl) (by rfl) (by rfl) zL rfl zL_one (by kernel_rfl) (by kernel_rfl) ?_
       intro V9 q9 e9 B9 K9
       replace HN := hide ((unhide HN).kept K9)
       replace HK := hide ((unhide HK).trans K9)
       replace HBP := hide ((unhide HBP).kept K9 (by simp))
       clear e9 B9 K9
       refine Stp.go ?_))
  constructor
  go_wp2_with (
    first
    | (go_at_call 37
       refine (all37 p _).mono ?_
       rintro e V10 ⟨p1, p2, rfl, h1, h2, hk⟩
       have H1 := hide h1
       have hq74 := eq74 p1 p2
       replace HN := hide ((unhide HN).kept hk)
       replace HK := hide ((unhide HK).trans hk)
       replace HBP := hide ((unhide HBP).kept hk (by simp))
       clear hk h1 h2))
  rw [← wpIn_wide (n := 3)]
  have hseq := thoseZ_stops 2 p1 p2 p _ (unhide HN) (unhide H1)
  have HW3 := hide (unhide HK).size
  have HI0 := And.intro (unhide HK) (And.intro (unhide HBP) (unhide HN))
  clear HK HBP HN H1 hq74
  refine wpIn_rangeFunc_ownH rfl (by omega) (gf := 56) (lb := #[P0 p1, P0 p2]) rfl trivial cf56 hseq KeptJ.trans (keptJ_b _) (Below.refl _ _) (fun _ => rfl) (fun _ W => Kept [] w W ∧ Blk W bp 4 [.bool false] ∧ Nz p W) (fun _ _ _ => False) ?hI (fun _ _ _ _ _ h => h.elim) HI0 (fun _ _ _ => True) (fun _ _ _ _ _ _ _ _ _ => trivial) ?assign ?body ?done ?stop
  case hI =>
    rintro s A B row ⟨g1, g2, g3⟩ hg hr
    have hr2 : ∀ r, row = some r → ∃ o : Obj, A.heap[r]? = some o ∧ o.isCells = false := fun r e => (hr r e).2
    refine ⟨kept_kept (B := w.heap.size) g1 hg (Nat.le_refl _) (fun r e => by have h3 := (hr r e).1; have h4 := unhide HW3; omega), blk_grown g2 hg hr2, ?_⟩
    rcases g3 with h | ⟨z, h1, h2⟩
    · exact .inl h
    · exact .inr ⟨z, h1, blk_grown h2 hg hr2⟩
  case assign =>
    intro l pre x W K hI hK
    gi_wp2
    exact hK _ _ (KeepsFrom.refl _ _) (KeptJ.refl _) hI trivial
  case body =>
    intro l pre x a' W _ _ _ _ hlt
    exact absurd hlt (Nat.not_lt_zero _)
  case done =>
    rintro D xs W hD _ ⟨g1, g2, g3⟩ hK
    have HK := hide g1
    have HBP := hide g2
    have HN := hide g3
    have HD := hide hK
    have HDG : Hid (w.heap.size ≤ D) := by have := unhide HW3; show _ ≤ _; omega
    clear g1 g2 g3 hK hD
    go_wp2_with (
      first
      | (go_at_call 9
         refine (st_num9 _ _).mono ?_
         rintro e w' ⟨rfl, hw9⟩
         obtain rfl := hw9.symm
         clear hw9
         refine Stp.go ?_))
    constructor
    go_wp2_with (
      first
      | (go_at_call 9
         refine (st_num9 _ _).mono ?_
         rintro e w' ⟨rfl, hw9⟩
         obtain rfl := hw9.symm
         clear hw9
         refine Stp.go ?_))
    constructor
    go_wp2_with (
      first
      | (go_at_call 9
         refine (st_num9 _ _).mono ?_
         rintro e w' ⟨rfl, hw9⟩
         obtain rfl := hw9.symm
         clear hw9
         refine Stp.go ?_))
    constructor
    go_wp2_with (
      first
      | (go_at_call 20
         refine (z20 p 1 _ (unhide HN)).mono ?_
         rintro e V11 ⟨rfl, hk⟩
         replace HN := hide ((unhide HN).kept hk)
         replace HK := hide ((unhide HK).trans hk)
         replace HBP := hide ((unhide HBP).kept hk (by simp))
         replace HD := hide (hk.heap (unhide HD) (by simp))
         clear hk
         refine Stp.go ?_))
    constructor
    go_wp2_with (
      first
      | (go_at_call 9
         refine (st_num9 _ _).mono ?_
         rintro e w' ⟨rfl, hw9⟩
         obtain rfl := hw9.symm
         clear hw9
         refine Stp.go ?_))
    constructor
    go_wp2_with (
      first
      | (go_at_call 21
         refine (z21 p _ (unhide HN)).mono ?_
         rintro e V12 ⟨rfl, hw9⟩
         obtain rfl := hw9.symm
         clear hw9
         refine Stp.go ?_))
    constructor
    go_wp2_with (
      first
      | (go_at_call 26
         refine (z26 p _ (unhide HN)).mono ?_
         rintro e V13 ⟨rfl, hw9⟩
         obtain rfl := hw9.symm
         clear hw9
         refine Stp.go ?_))
    constructor
    go_wp2_with (
      first
      | (go_at_call 23
         refine (z23 p 0 _ (unhide HN)).mono ?_
         rintro e V14 ⟨tao, tc, rfl, hk⟩
         replace HD := hide (hk.heap (unhide HD) (by simp))
         replace HN := hide ((unhide HN).kept hk)
         replace HK := hide ((unhide HK).trans hk)
         replace HBP := hide ((unhide HBP).kept hk (by simp))
         clear hk
         refine Stp.go ?_))
    constructor
    go_wp2_with (
      first
      | (go_at_call 25
         refine (z25 p _ (unhide HN)).mono ?_
         rintro e V15 ⟨rfl, hw9⟩
         obtain rfl := hw9.symm
         clear hw9
         refine Stp.go ?_))
    constructor
    go_wp2_with (
      first
      | (go_at_call 31
         refine (z31 p _ (unhide HN)).mono ?_
         rintro e V16 ⟨rfl, hw9⟩
         obtain rfl := hw9.symm
         clear hw9
         refine Stp.go ?_))
    constructor
    go_wp2_with (
      first
      | (go_at_call 14
         refine (z14 p _ (unhide HN)).mono ?_
         rintro e V17 ⟨rfl, hw9⟩
         obtain rfl := hw9.symm
         clear hw9
         refine Stp.go ?_))
    constructor
    go_wp2_with (
      first
      | (refine wpStoreV (T := 4) (b := bp) (i := 0) (v := .bool true) (by rfl) (.tmp 2) (.tmp 101) (by rfl) (by rfl) (by kernel_rfl) (by kernel_rfl) 4 _ (unhide HBP) (st4 _ _ _ _ (unhide HBP)) ?_
         intro V18 B18 K18
         replace HD := hide (K18.heap (unhide HD) (by simp; intro e; subst e; have h1 := unhide HBP; have h2 := unhide HD; unfold Blk at h1; rw [h1] at h2; cases h2))
         replace HBP : Hid (Blk V18 bp 4 [.bool true]) := B18
         replace HK := hide ((unhide HK).fresh K18 (fun i hi hl => by have : w.heap.size ≤ bp := unhide HGP; simp at hi; omega))
         clear B18 K18))
    have hgr := grownBy_putObj' V18 D (Obj.deferred none)
    have hnc : ∀ r, some D = some r → ∃ o : Obj, V18.heap[r]? = some o ∧ o.isCells = false := fun r e => by cases e; exact ⟨_, unhide HD, rfl⟩
    refine (show LeavesInM Fence.wide 3 Try.prog Try.f22 _ _ [{ target := .collected D, args := #[] }] .returning V18 from ?_)
    refine ⟨by simp, .inl ⟨_, _, rfl, run_takeDeferred (unhide HD), ?_⟩⟩
    exact ⟨_, res22 _ bp true _ rfl (blk_grown (unhide HBP) hgr hnc), rfl, kept_kept (B := w.heap.size) (unhide HK) hgr (Nat.le_refl _) (fun r e => by cases e; exact unhide HDG)⟩
  case stop =>
    rintro D c pre W _ _ h
    exact h.elim
theorem nothing22 (p : Option Addr) (w : World) (h : Nz p w) : Calls Try.prog 22 #[.pointer p] w fun e w' => e = .returned (.bool true) ∧ Kept [] w w' := callsIn_wide.1 (nothing_in p w h)

end Go.Proofs.Ytpcggcicpojdoaa
