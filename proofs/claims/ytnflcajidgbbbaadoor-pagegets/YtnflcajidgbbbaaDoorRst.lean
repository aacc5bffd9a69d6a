/-
  The walk of the document's Stamp.
-/
import Derived.Test.YtnflcajidgbbbaaDoorRget
import Derived.Test.YtnflcajidgbbbaaDoorTornl
namespace Go.Proofs.YtnflcajidgbbbaaDoor
open Go.RowKit

theorem res17 (w : World) (z : Nat) (vs : List Value) (r : Bool) (tmps : Array Value) (h4 : tmps[2]?.getD undef = P0 z) (h5 : tmps[3]?.getD undef = .bool r) (hl : vs.length = 3) (hb : Blk w z 44 vs) : (results Tryd.f17 tmps).run Tryd.prog w = .ok (.tuple #[aggV vs, .bool r]) w := by
  have := loadV row44 hl hb
  simp [results, Tryd.results17, h4, h5, this, asAddr]
theorem half_sym {p n h : Int} {x : List Int} (hx : Byts 48 x) (hn : 1 ≤ n ∧ n ≤ 2147483647) (hh : h = 0 ∨ h = 1) (w : World) : Calls Tryd.prog 13 #[.int .i64 p, aggV (verC n (x ++ x)), .int .i64 h] w fun e w' => e = .returned (aggV (u8s (laidL p h n x))) ∧ Kept [] w w' := by
  have hxx : Byts 96 (x ++ x) := ⟨by rw [List.length_append, hx.len], fun y hy => by rcases List.mem_append.1 hy with h | h <;> exact hx.byte y h⟩
  have h0 : n ≠ 0 := by omega
  rcases hh with rfl | rfl
  · have := half_fst p n (x ++ x) hxx (by omega) w
    rw [show fstL p n (x ++ x) = laidL p 0 n x by unfold fstL; rw [if_neg h0, List.take_left' hx.len]] at this
    exact this
  · have := half_snd p n (x ++ x) hxx (by omega) w
    rw [show sndL p n (x ++ x) = laidL p 1 n x by unfold sndL; rw [if_neg h0, List.drop_left' hx.len]] at this
    exact this

theorem said_n {s : List Int} (hs : Byts 64 s) {n : Int} (h : psnL s = n) (w : World) : Calls Tryd.prog 28 #[aggV (u8s s), aggV (u8s s)] w fun e w' => e = .returned (aggV (verC n (halfL s ++ halfL s))) ∧ Kept [] w w' := h ▸ said28 s s hs hs w
theorem o_neqA' {o : Oper} {a : Act} {w : World} {K : Act → World → Prop} {Q : Exit → Act → World → Prop} (x y : Operand) (ho : o.op = .binOp .neq 27 x y 27) (s t : List Int) (hs : s.length = 64) (ht : t.length = 64) (c : Bool) (hc : decide (s = t) = c) (hx : a.eval x = aggV (u8s s)) (hy : a.eval y = aggV (u8s t)) (h : K (a.put o.dst (.bool (!c))) w) : o.wp Tryd.prog a w K Q :=
  o_neqA 27 27 guard27 x y ho (u8s s) (u8s t) hx hy c ((equal27 w s t hs ht).trans (by rw [hc])) h

set_option maxHeartbeats 4000000 in
set_option maxRecDepth 100000 in
theorem rst_A (s : List Int) (hs : Byts 64 s) (m q n : Int) (hm : 0 ≤ m ∧ m < 256) (em : s.getD 0 0 = m) (eq : s.getD 1 0 = q) (en : psnL s = n) (e1 : decide (m - 161 < 0) = true) (w : World) : Calls Tryd.prog 17 #[aggV (u8s s)] w fun e w' => e = .returned (.tuple #[aggV (stC 0 0 0), .bool false]) ∧ Kept [] w w' := by
  have hsu : (u8s s).length = 64 := by rw [u8s_len, hs.len]
  have hvl : (verC n (halfL s ++ halfL s)).length = 97 := verC_len (halves_byts hs hs).len
  have hc0 : (u8s s)[0]? = some (.int .u8 m) := by rw [← em]; simp [u8s, List.getD, hs.len]
  have hc1 : (u8s s)[1]? = some (.int .u8 q) := by rw [← eq]; simp [u8s, List.getD, hs.len]
  have EN := hide en
  clear em eq en
  go_enter Tryd.func17, Tryd.ntmps17
  go_wp2_with (
    first
    | (refine wpBoxV 1 (by rfl) (by rfl) (.tmp 0) (by rfl) (u8s s) (by rfl) ?_
       intro W1 b1 hb1 B1 K1
       have M : Hid (Mem w W1 [(b1, 27, u8s s)]) := ⟨by simpa using B1, K1⟩
       have L1 : w.heap.size ≤ b1 := by omega
       clear hb1 B1 K1)
    | (refine wpAllocV (stC 0 0 0) zero44 2 (by rfl) (by rfl) (by rfl) ?_
       intro W2 eW2
       have L2 : w.heap.size ≤ W1.heap.size := (unhide M).k.size
       replace M := hide ((unhide M).add (show Kept [] W1 W2 by rw [eW2]; exact (Kept.refl _ _).alloc _) (show Blk W2 W1.heap.size 44 (stC 0 0 0) by rw [eW2]; exact Blk.new' rfl))
       generalize W1.heap.size = b2 at *
       clear eW2
       have c0 := mem_cell (unhide M) b1 27 (u8s s) (by simp) 0 (.int .u8 m) hc0)
    | (refine wpLoadA row27 (by rfl) (.tmp 1) (by rfl) b1 0 (by rfl) (u8s s) hsu ((unhide M).blk (b1, 27, u8s s) (by simp)).range ?_))
  refine (said_n hs (unhide EN) _).mono ?_
  rintro e w1 ⟨rfl, k1⟩
  replace M := hide ((unhide M).quiet k1)
  clear k1
  clear c0
  go_wp2_with (
    first
    | (refine wpNew row25 (verC 0 (zs 96)) verC_zero zero25 5 (by rfl) (by rfl) (by rfl) (.tmp 12) (by rfl) (by rfl) (by rfl) (verC n (halfL s ++ halfL s)) hvl (verC_one _ _) (by kernel_rfl) (by kernel_rfl) ?_
       intro W5 b5 hb5 B5 K5
       replace M := hide ((unhide M).add K5 B5)
       clear hb5 B5 K5
       have c1 := mem_cell (unhide M) b1 27 (u8s s) (by simp) 1 (.int .u8 q) hc1
       have cn := mem_cell (unhide M) b5 25 (verC n (halfL s ++ halfL s)) (by simp) 0 (.int .i64 n) rfl)
    | (refine wpBuildZ (stC 0 0 0) build44z (by rfl) (by rfl) ?_)
    | (refine wpStoreA row44 (by rfl) (.tmp 2) (.tmp 35) (by rfl) b2 0 (stC 0 0 0) (by rfl) (by rfl) rfl (stC_one _ _ _) (((unhide M).blk (b2, 44, stC 0 0 0) (by simp)).there (by simp [stC])) ?_))
  have hb2 := ((unhide M).blk (b2, 44, stC 0 0 0) (by simp))
  have g4 := hb2.put (vs := stC 0 0 0) rfl
  exact bodyPost_ret (res17 _ _ _ _ _ rfl rfl rfl g4) rfl ⟨rfl, (unhide M).k.setCells _ _ (by omega)⟩

set_option maxHeartbeats 4000000 in
set_option maxRecDepth 100000 in
theorem rst_B (s : List Int) (hs : Byts 64 s) (m q n : Int) (hm : 0 ≤ m ∧ m < 256) (em : s.getD 0 0 = m) (eq : s.getD 1 0 = q) (en : psnL s = n) (e1 : decide (m - 161 < 0) = false) (e2 : decide (1 < m - 161) = true) (w : World) : Calls Tryd.prog 17 #[aggV (u8s s)] w fun e w' => e = .returned (.tuple #[aggV (stC 0 0 0), .bool false]) ∧ Kept [] w w' := by
  have hsu : (u8s s).length = 64 := by rw [u8s_len, hs.len]
  have hvl : (verC n (halfL s ++ halfL s)).length = 97 := verC_len (halves_byts hs hs).len
  have hc0 : (u8s s)[0]? = some (.int .u8 m) := by rw [← em]; simp [u8s, List.getD, hs.len]
  have hc1 : (u8s s)[1]? = some (.int .u8 q) := by rw [← eq]; simp [u8s, List.getD, hs.len]
  have EN := hide en
  clear em eq en
  go_enter Tryd.func17, Tryd.ntmps17
  go_wp2_with (
    first
    | (refine wpBoxV 1 (by rfl) (by rfl) (.tmp 0) (by rfl) (u8s s) (by rfl) ?_
       intro W1 b1 hb1 B1 K1
       have M : Hid (Mem w W1 [(b1, 27, u8s s)]) := ⟨by simpa using B1, K1⟩
       have L1 : w.heap.size ≤ b1 := by omega
       clear hb1 B1 K1)
    | (refine wpAllocV (stC 0 0 0) zero44 2 (by rfl) (by rfl) (by rfl) ?_
       intro W2 eW2
       have L2 : w.heap.size ≤ W1.heap.size := (unhide M).k.size
       replace M := hide ((unhide M).add (show Kept [] W1 W2 by rw [eW2]; exact (Kept.refl _ _).alloc _) (show Blk W2 W1.heap.size 44 (stC 0 0 0) by rw [eW2]; exact Blk.new' rfl))
       generalize W1.heap.size = b2 at *
       clear eW2
       have c0 := mem_cell (unhide M) b1 27 (u8s s) (by simp) 0 (.int .u8 m) hc0)
    | (refine wpLoadA row27 (by rfl) (.tmp 1) (by rfl) b1 0 (by rfl) (u8s s) hsu ((unhide M).blk (b1, 27, u8s s) (by simp)).range ?_))
  refine (said_n hs (unhide EN) _).mono ?_
  rintro e w1 ⟨rfl, k1⟩
  replace M := hide ((unhide M).quiet k1)
  clear k1
  clear c0
  go_wp2_with (
    first
    | (refine wpNew row25 (verC 0 (zs 96)) verC_zero zero25 5 (by rfl) (by rfl) (by rfl) (.tmp 12) (by rfl) (by rfl) (by rfl) (verC n (halfL s ++ halfL s)) hvl (verC_one _ _) (by kernel_rfl) (by kernel_rfl) ?_
       intro W5 b5 hb5 B5 K5
       replace M := hide ((unhide M).add K5 B5)
       clear hb5 B5 K5
       have c1 := mem_cell (unhide M) b1 27 (u8s s) (by simp) 1 (.int .u8 q) hc1
       have cn := mem_cell (unhide M) b5 25 (verC n (halfL s ++ halfL s)) (by simp) 0 (.int .i64 n) rfl)
    | (refine wpBuildZ (stC 0 0 0) build44z (by rfl) (by rfl) ?_)
    | (refine wpStoreA row44 (by rfl) (.tmp 2) (.tmp 35) (by rfl) b2 0 (stC 0 0 0) (by rfl) (by rfl) rfl (stC_one _ _ _) (((unhide M).blk (b2, 44, stC 0 0 0) (by simp)).there (by simp [stC])) ?_))
  have hb2 := ((unhide M).blk (b2, 44, stC 0 0 0) (by simp))
  have g4 := hb2.put (vs := stC 0 0 0) rfl
  exact bodyPost_ret (res17 _ _ _ _ _ rfl rfl rfl g4) rfl ⟨rfl, (unhide M).k.setCells _ _ (by omega)⟩

set_option maxHeartbeats 4000000 in
set_option maxRecDepth 100000 in
theorem rst_C (s : List Int) (hs : Byts 64 s) (m q n : Int) (hm : 0 ≤ m ∧ m < 256) (hq : 0 ≤ q ∧ q < 256) (em : s.getD 0 0 = m) (eq : s.getD 1 0 = q) (en : psnL s = n) (e1 : decide (m - 161 < 0) = false) (e2 : decide (1 < m - 161) = false) (e3 : decide (16 ≤ q) = true) (w : World) : Calls Tryd.prog 17 #[aggV (u8s s)] w fun e w' => e = .returned (.tuple #[aggV (stC 0 0 0), .bool false]) ∧ Kept [] w w' := by
  have hsu : (u8s s).length = 64 := by rw [u8s_len, hs.len]
  have hvl : (verC n (halfL s ++ halfL s)).length = 97 := verC_len (halves_byts hs hs).len
  have hc0 : (u8s s)[0]? = some (.int .u8 m) := by rw [← em]; simp [u8s, List.getD, hs.len]
  have hc1 : (u8s s)[1]? = some (.int .u8 q) := by rw [← eq]; simp [u8s, List.getD, hs.len]
  have EN := hide en
  clear em eq en
  go_enter Tryd.func17, Tryd.ntmps17
  go_wp2_with (
    first
    | (refine wpBoxV 1 (by rfl) (by rfl) (.tmp 0) (by rfl) (u8s s) (by rfl) ?_
       intro W1 b1 hb1 B1 K1
       have M : Hid (Mem w W1 [(b1, 27, u8s s)]) := ⟨by simpa using B1, K1⟩
       have L1 : w.heap.size ≤ b1 := by omega
       clear hb1 B1 K1)
    | (refine wpAllocV (stC 0 0 0) zero44 2 (by rfl) (by rfl) (by rfl) ?_
       intro W2 eW2
       have L2 : w.heap.size ≤ W1.heap.size := (unhide M).k.size
       replace M := hide ((unhide M).add (show Kept [] W1 W2 by rw [eW2]; exact (Kept.refl _ _).alloc _) (show Blk W2 W1.heap.size 44 (stC 0 0 0) by rw [eW2]; exact Blk.new' rfl))
       generalize W1.heap.size = b2 at *
       clear eW2
       have c0 := mem_cell (unhide M) b1 27 (u8s s) (by simp) 0 (.int .u8 m) hc0)
    | (refine wpLoadA row27 (by rfl) (.tmp 1) (by rfl) b1 0 (by rfl) (u8s s) hsu ((unhide M).blk (b1, 27, u8s s) (by simp)).range ?_))
  refine (said_n hs (unhide EN) _).mono ?_
  rintro e w1 ⟨rfl, k1⟩
  replace M := hide ((unhide M).quiet k1)
  clear k1
  clear c0
  go_wp2_with (
    first
    | (refine wpNew row25 (verC 0 (zs 96)) verC_zero zero25 5 (by rfl) (by rfl) (by rfl) (.tmp 12) (by rfl) (by rfl) (by rfl) (verC n (halfL s ++ halfL s)) hvl (verC_one _ _) (by kernel_rfl) (by kernel_rfl) ?_
       intro W5 b5 hb5 B5 K5
       replace M := hide ((unhide M).add K5 B5)
       clear hb5 B5 K5
       have c1 := mem_cell (unhide M) b1 27 (u8s s) (by simp) 1 (.int .u8 q) hc1
       have cn := mem_cell (unhide M) b5 25 (verC n (halfL s ++ halfL s)) (by simp) 0 (.int .i64 n) rfl)
    | (refine wpBuildZ (stC 0 0 0) build44z (by rfl) (by rfl) ?_)
    | (refine wpStoreA row44 (by rfl) (.tmp 2) (.tmp 35) (by rfl) b2 0 (stC 0 0 0) (by rfl) (by rfl) rfl (stC_one _ _ _) (((unhide M).blk (b2, 44, stC 0 0 0) (by simp)).there (by simp [stC])) ?_))
  have hb2 := ((unhide M).blk (b2, 44, stC 0 0 0) (by simp))
  have g4 := hb2.put (vs := stC 0 0 0) rfl
  exact bodyPost_ret (res17 _ _ _ _ _ rfl rfl rfl g4) rfl ⟨rfl, (unhide M).k.setCells _ _ (by omega)⟩

set_option maxHeartbeats 4000000 in
set_option maxRecDepth 100000 in
theorem rst_D (s : List Int) (hs : Byts 64 s) (m q n : Int) (hm : 0 ≤ m ∧ m < 256) (hq : 0 ≤ q ∧ q < 256) (em : s.getD 0 0 = m) (eq : s.getD 1 0 = q) (en : psnL s = n) (e1 : decide (m - 161 < 0) = false) (e2 : decide (1 < m - 161) = false) (e3 : decide (16 ≤ q) = false) (e4 : decide (n < 1) = true) (w : World) : Calls Tryd.prog 17 #[aggV (u8s s)] w fun e w' => e = .returned (.tuple #[aggV (stC 0 0 0), .bool false]) ∧ Kept [] w w' := by
  have hsu : (u8s s).length = 64 := by rw [u8s_len, hs.len]
  have hvl : (verC n (halfL s ++ halfL s)).length = 97 := verC_len (halves_byts hs hs).len
  have hc0 : (u8s s)[0]? = some (.int .u8 m) := by rw [← em]; simp [u8s, List.getD, hs.len]
  have hc1 : (u8s s)[1]? = some (.int .u8 q) := by rw [← eq]; simp [u8s, List.getD, hs.len]
  have EN := hide en
  clear em eq en
  go_enter Tryd.func17, Tryd.ntmps17
  go_wp2_with (
    first
    | (refine wpBoxV 1 (by rfl) (by rfl) (.tmp 0) (by rfl) (u8s s) (by rfl) ?_
       intro W1 b1 hb1 B1 K1
       have M : Hid (Mem w W1 [(b1, 27, u8s s)]) := ⟨by simpa using B1, K1⟩
       have L1 : w.heap.size ≤ b1 := by omega
       clear hb1 B1 K1)
    | (refine wpAllocV (stC 0 0 0) zero44 2 (by rfl) (by rfl) (by rfl) ?_
       intro W2 eW2
       have L2 : w.heap.size ≤ W1.heap.size := (unhide M).k.size
       replace M := hide ((unhide M).add (show Kept [] W1 W2 by rw [eW2]; exact (Kept.refl _ _).alloc _) (show Blk W2 W1.heap.size 44 (stC 0 0 0) by rw [eW2]; exact Blk.new' rfl))
       generalize W1.heap.size = b2 at *
       clear eW2
       have c0 := mem_cell (unhide M) b1 27 (u8s s) (by simp) 0 (.int .u8 m) hc0)
    | (refine wpLoadA row27 (by rfl) (.tmp 1) (by rfl) b1 0 (by rfl) (u8s s) hsu ((unhide M).blk (b1, 27, u8s s) (by simp)).range ?_))
  refine (said_n hs (unhide EN) _).mono ?_
  rintro e w1 ⟨rfl, k1⟩
  replace M := hide ((unhide M).quiet k1)
  clear k1
  clear c0
  go_wp2_with (
    first
    | (refine wpNew row25 (verC 0 (zs 96)) verC_zero zero25 5 (by rfl) (by rfl) (by rfl) (.tmp 12) (by rfl) (by rfl) (by rfl) (verC n (halfL s ++ halfL s)) hvl (verC_one _ _) (by kernel_rfl) (by kernel_rfl) ?_
       intro W5 b5 hb5 B5 K5
       replace M := hide ((unhide M).add K5 B5)
       clear hb5 B5 K5
       have c1 := mem_cell (unhide M) b1 27 (u8s s) (by simp) 1 (.int .u8 q) hc1
       have cn := mem_cell (unhide M) b5 25 (verC n (halfL s ++ halfL s)) (by simp) 0 (.int .i64 n) rfl)
    | (refine wpBuildZ (stC 0 0 0) build44z (by rfl) (by rfl) ?_)
    | (refine wpStoreA row44 (by rfl) (.tmp 2) (.tmp 35) (by rfl) b2 0 (stC 0 0 0) (by rfl) (by rfl) rfl (stC_one _ _ _) (((unhide M).blk (b2, 44, stC 0 0 0) (by simp)).there (by simp [stC])) ?_))
  have hb2 := ((unhide M).blk (b2, 44, stC 0 0 0) (by simp))
  have g4 := hb2.put (vs := stC 0 0 0) rfl
  exact bodyPost_ret (res17 _ _ _ _ _ rfl rfl rfl g4) rfl ⟨rfl, (unhide M).k.setCells _ _ (by omega)⟩

set_option maxHeartbeats 4000000 in
set_option maxRecDepth 100000 in
theorem rst_E (s : List Int) (hs : Byts 64 s) (m q n : Int) (hm : 0 ≤ m ∧ m < 256) (hq : 0 ≤ q ∧ q < 256) (em : s.getD 0 0 = m) (eq : s.getD 1 0 = q) (en : psnL s = n) (e1 : decide (m - 161 < 0) = false) (e2 : decide (1 < m - 161) = false) (e3 : decide (16 ≤ q) = false) (e4 : decide (n < 1) = false) (e5 : decide (2147483647 < n) = true) (w : World) : Calls Tryd.prog 17 #[aggV (u8s s)] w fun e w' => e = .returned (.tuple #[aggV (stC 0 0 0), .bool false]) ∧ Kept [] w w' := by
  have hsu : (u8s s).length = 64 := by rw [u8s_len, hs.len]
  have hvl : (verC n (halfL s ++ halfL s)).length = 97 := verC_len (halves_byts hs hs).len
  have hc0 : (u8s s)[0]? = some (.int .u8 m) := by rw [← em]; simp [u8s, List.getD, hs.len]
  have hc1 : (u8s s)[1]? = some (.int .u8 q) := by rw [← eq]; simp [u8s, List.getD, hs.len]
  have EN := hide en
  clear em eq en
  go_enter Tryd.func17, Tryd.ntmps17
  go_wp2_with (
    first
    | (refine wpBoxV 1 (by rfl) (by rfl) (.tmp 0) (by rfl) (u8s s) (by rfl) ?_
       intro W1 b1 hb1 B1 K1
       have M : Hid (Mem w W1 [(b1, 27, u8s s)]) := ⟨by simpa using B1, K1⟩
       have L1 : w.heap.size ≤ b1 := by omega
       clear hb1 B1 K1)
    | (refine wpAllocV (stC 0 0 0) zero44 2 (by rfl) (by rfl) (by rfl) ?_
       intro W2 eW2
       have L2 : w.heap.size ≤ W1.heap.size := (unhide M).k.size
       replace M := hide ((unhide M).add (show Kept [] W1 W2 by rw [eW2]; exact (Kept.refl _ _).alloc _) (show Blk W2 W1.heap.size 44 (stC 0 0 0) by rw [eW2]; exact Blk.new' rfl))
       generalize W1.heap.size = b2 at *
       clear eW2
       have c0 := mem_cell (unhide M) b1 27 (u8s s) (by simp) 0 (.int .u8 m) hc0)
    | (refine wpLoadA row27 (by rfl) (.tmp 1) (by rfl) b1 0 (by rfl) (u8s s) hsu ((unhide M).blk (b1, 27, u8s s) (by simp)).range ?_))
  refine (said_n hs (unhide EN) _).mono ?_
  rintro e w1 ⟨rfl, k1⟩
  replace M := hide ((unhide M).quiet k1)
  clear k1
  clear c0
  go_wp2_with (
    first
    | (refine wpNew row25 (verC 0 (zs 96)) verC_zero zero25 5 (by rfl) (by rfl) (by rfl) (.tmp 12) (by rfl) (by rfl) (by rfl) (verC n (halfL s ++ halfL s)) hvl (verC_one _ _) (by kernel_rfl) (by kernel_rfl) ?_
       intro W5 b5 hb5 B5 K5
       replace M := hide ((unhide M).add K5 B5)
       clear hb5 B5 K5
       have c1 := mem_cell (unhide M) b1 27 (u8s s) (by simp) 1 (.int .u8 q) hc1
       have cn := mem_cell (unhide M) b5 25 (verC n (halfL s ++ halfL s)) (by simp) 0 (.int .i64 n) rfl)
    | (refine wpBuildZ (stC 0 0 0) build44z (by rfl) (by rfl) ?_)
    | (refine wpStoreA row44 (by rfl) (.tmp 2) (.tmp 35) (by rfl) b2 0 (stC 0 0 0) (by rfl) (by rfl) rfl (stC_one _ _ _) (((unhide M).blk (b2, 44, stC 0 0 0) (by simp)).there (by simp [stC])) ?_))
  have hb2 := ((unhide M).blk (b2, 44, stC 0 0 0) (by simp))
  have g4 := hb2.put (vs := stC 0 0 0) rfl
  exact bodyPost_ret (res17 _ _ _ _ _ rfl rfl rfl g4) rfl ⟨rfl, (unhide M).k.setCells _ _ (by omega)⟩

def rsTg (m q n : Int) (s : List Int) (b1 : Nat) : List Fc := [.is (.pointer (some ⟨b1, 1, none⟩)), .is (.int .u8 q), .is (.int .i64 q), .is (aggV (verC n (halfL s ++ halfL s))), .is (.int .i64 (m - 161)), .is (aggV (u8s (laidL q (m - 161) n (halfL s)))), .is (aggV (u8s s)), .is (.bool false)]
set_option maxHeartbeats 4000000 in
set_option maxRecDepth 100000 in
theorem rst_g (s : List Int) (hs : Byts 64 s) (m q n : Int) (hm : 0 ≤ m ∧ m < 256) (hq : 0 ≤ q ∧ q < 256) (em : s.getD 0 0 = m) (eq : s.getD 1 0 = q) (en : psnL s = n) (e1 : decide (m - 161 < 0) = false) (e2 : decide (1 < m - 161) = false) (e3 : decide (16 ≤ q) = false) (e4 : decide (n < 1) = false) (e5 : decide (2147483647 < n) = false) (hQ : decide (laidL q (m - 161) n (halfL s) = s) = true) (hn : 1 ≤ n ∧ n ≤ 2147483647) (hh : m - 161 = 0 ∨ m - 161 = 1) (w : World) : Calls Tryd.prog 17 #[aggV (u8s s)] w fun e w' => e = .returned (.tuple #[aggV (stC q (m - 161) n), .bool true]) ∧ Kept [] w w' := by
  have hsu : (u8s s).length = 64 := by rw [u8s_len, hs.len]
  have hvl : (verC n (halfL s ++ halfL s)).length = 97 := verC_len (halves_byts hs hs).len
  have hc0 : (u8s s)[0]? = some (.int .u8 m) := by rw [← em]; simp [u8s, List.getD, hs.len]
  have hc1 : (u8s s)[1]? = some (.int .u8 q) := by rw [← eq]; simp [u8s, List.getD, hs.len]
  have EN := hide en
  clear em eq en
  go_enter Tryd.func17, Tryd.ntmps17
  go_wp2_with (
    first
    | (refine wpBoxV 1 (by rfl) (by rfl) (.tmp 0) (by rfl) (u8s s) (by rfl) ?_
       intro W1 b1 hb1 B1 K1
       have M : Hid (Mem w W1 [(b1, 27, u8s s)]) := ⟨by simpa using B1, K1⟩
       have L1 : w.heap.size ≤ b1 := by omega
       clear hb1 B1 K1)
    | (refine wpAllocV (stC 0 0 0) zero44 2 (by rfl) (by rfl) (by rfl) ?_
       intro W2 eW2
       have L2 : w.heap.size ≤ W1.heap.size := (unhide M).k.size
       replace M := hide ((unhide M).add (show Kept [] W1 W2 by rw [eW2]; exact (Kept.refl _ _).alloc _) (show Blk W2 W1.heap.size 44 (stC 0 0 0) by rw [eW2]; exact Blk.new' rfl))
       generalize W1.heap.size = b2 at *
       clear eW2
       have c0 := mem_cell (unhide M) b1 27 (u8s s) (by simp) 0 (.int .u8 m) hc0)
    | (refine wpLoadA row27 (by rfl) (.tmp 1) (by rfl) b1 0 (by rfl) (u8s s) hsu ((unhide M).blk (b1, 27, u8s s) (by simp)).range ?_))
  refine (said_n hs (unhide EN) _).mono ?_
  rintro e w1 ⟨rfl, k1⟩
  replace M := hide ((unhide M).quiet k1)
  clear k1
  clear c0
  go_wp2_with (
    first
    | (refine wpNew row25 (verC 0 (zs 96)) verC_zero zero25 5 (by rfl) (by rfl) (by rfl) (.tmp 12) (by rfl) (by rfl) (by rfl) (verC n (halfL s ++ halfL s)) hvl (verC_one _ _) (by kernel_rfl) (by kernel_rfl) ?_
       intro W5 b5 hb5 B5 K5
       replace M := hide ((unhide M).add K5 B5)
       clear hb5 B5 K5
       have c1 := mem_cell (unhide M) b1 27 (u8s s) (by simp) 1 (.int .u8 q) hc1
       have cn := mem_cell (unhide M) b5 25 (verC n (halfL s ++ halfL s)) (by simp) 0 (.int .i64 n) rfl))
  refine wp_region_prefS mixed 8 0 rfl (by kernel_rfl) (tc (rsTg m q n s b1)) (fun _ _ _ _ => True) (skipOf (rsTg m q n s b1)) (fun j o i b _ => guardsS_some (by kernel_rfl) j o i b) (fun j o _ => guardsS_none (by kernel_rfl) j o) (fun j w => skip_undef w) (fun _ _ _ _ => trivial) (tc_kept _) (by kernel_rfl) ?_ ?_
  · intro j o hj hs' ho a1 w2 hout hin hk
    show o.wp Tryd.prog a1 w2 (opPc (rsTg m q n s b1) o a1 w2 j 8) _
    match j, ho with
    | 0, ho =>
      obtain rfl := Option.some.inj ho
      exact o_idx27 (.tmp 1) 1 (by omega) rfl b1 0 ((hout 1 (by kernel_rfl)).trans (by kernel_rfl)) (postc rfl (Kept.refl _ _))
    | 1, ho =>
      obtain rfl := Option.some.inj ho
      exact o_load5 (.tmp 36) rfl ⟨b1, 1, none⟩ _ (hin 0 36 (by kernel_rfl) (by kernel_rfl)) (fits_cell (((unhide M).blk (b1, 27, u8s s) (by simp)).kept hk (by simp)) 1 _ hc1) (postc rfl (Kept.refl _ _))
    | 2, ho =>
      obtain rfl := Option.some.inj ho
      exact o_conv53 (.tmp 37) rfl q hq (hin 1 37 (by kernel_rfl) (by kernel_rfl)) (postc rfl (Kept.refl _ _))
    | 3, ho =>
      obtain rfl := Option.some.inj ho
      exact wp_loadA row25 (.tmp 5) rfl b5 0 ((hout 5 (by kernel_rfl)).trans (by kernel_rfl)) (verC n (halfL s ++ halfL s)) hvl (((unhide M).blk (b5, 25, verC n (halfL s ++ halfL s)) (by simp)).kept hk (by simp)).range (postc rfl (Kept.refl _ _))
    | 4, ho =>
      obtain rfl := Option.some.inj ho
      exact wp_move (.tmp 4) rfl (by rw [show a1.eval (.tmp 4) = _ from ((hout 4 (by kernel_rfl)).trans (by kernel_rfl))]; exact (postc rfl (Kept.refl _ _)))
    | 5, ho =>
      obtain rfl := Option.some.inj ho
      have e0 : a1.eval (.tmp 38) = _ := (hin 2 38 (by kernel_rfl) (by kernel_rfl))
      have e1 : a1.eval (.tmp 39) = _ := (hin 3 39 (by kernel_rfl) (by kernel_rfl))
      have e2 : a1.eval (.tmp 40) = _ := (hin 4 40 (by kernel_rfl) (by kernel_rfl))
      refine wp_callF 13 _ _ rfl #[.int .i64 q, aggV (verC n (halfL s ++ halfL s)), .int .i64 (m - 161)] (by simp [e0, e1, e2]) (cf13g _ _) ((half_sym (halfL_byts hs) hn hh w2).mono ?_)
      rintro x w3 ⟨rfl, hk3⟩
      exact ⟨_, rfl, postc rfl hk3⟩
    | 6, ho =>
      obtain rfl := Option.some.inj ho
      exact wp_loadA row27 (.tmp 1) rfl b1 0 ((hout 1 (by kernel_rfl)).trans (by kernel_rfl)) (u8s s) hsu (((unhide M).blk (b1, 27, u8s s) (by simp)).kept hk (by simp)).range (postc rfl (Kept.refl _ _))
    | 7, ho =>
      obtain rfl := Option.some.inj ho
      exact o_neqA' (.tmp 41) (.tmp 42) rfl (laidL q (m - 161) n (halfL s)) s (laidL_byts (halfL_byts hs)).len hs.len true hQ (hin 5 41 (by kernel_rfl) (by kernel_rfl)) (hin 6 42 (by kernel_rfl) (by kernel_rfl)) (postc rfl (Kept.refl _ _))
  · intro vs w5 hlen hF _ hk5
    match vs, hlen with
    | [x0, x1, x2, x3, x4, x5, x6, x7], _ =>
    obtain rfl : x0 = _ := hF 0 _ rfl
    obtain rfl : x1 = _ := hF 1 _ rfl
    obtain rfl : x2 = _ := hF 2 _ rfl
    obtain rfl : x3 = _ := hF 3 _ rfl
    obtain rfl : x4 = _ := hF 4 _ rfl
    obtain rfl : x5 = _ := hF 5 _ rfl
    obtain rfl : x6 = _ := hF 6 _ rfl
    obtain rfl : x7 = _ := hF 7 _ rfl
    clear hF c1 cn
    simp only [List.take_succ_cons, List.take_zero, putAll, Act.put, List.setIfInBounds_toArray, List.set_cons_succ, List.set_cons_zero]
    refine wpAny_done (by kernel_rfl) ?_ _
    replace M := hide ((unhide M).quiet hk5)
    clear hk5
    have c1 := mem_cell (unhide M) b1 27 (u8s s) (by simp) 1 (.int .u8 q) hc1
    have cn := mem_cell (unhide M) b5 25 (verC n (halfL s ++ halfL s)) (by simp) 0 (.int .i64 n) rfl
    go_wp2_with (
      first
      | (refine wpBuildP (by rfl) _ (by rfl) #[(0, .int .i64 q), (1, .int .i64 (m - 161)), (2, .int .i64 n)] (by rfl) _ (build44 _ _ _ _) ?_)
      | (refine wpStoreA row44 (by rfl) (.tmp 2) (.tmp 51) (by rfl) b2 0 (stC q (m - 161) n) (by rfl) (by rfl) rfl (stC_one _ _ _) (((unhide M).blk (b2, 44, stC 0 0 0) (by simp)).there (by simp [stC])) ?_))
    have hb2 := ((unhide M).blk (b2, 44, stC 0 0 0) (by simp))
    have g4 := hb2.put (vs := stC q (m - 161) n) rfl
    exact bodyPost_ret (res17 _ _ _ _ _ rfl rfl rfl g4) rfl ⟨rfl, (unhide M).k.setCells _ _ (by omega)⟩

def rsTf (m q n : Int) (s : List Int) (b1 : Nat) : List Fc := [.is (.pointer (some ⟨b1, 1, none⟩)), .is (.int .u8 q), .is (.int .i64 q), .is (aggV (verC n (halfL s ++ halfL s))), .is (.int .i64 (m - 161)), .is (aggV (u8s (laidL q (m - 161) n (halfL s)))), .is (aggV (u8s s)), .is (.bool true)]
set_option maxHeartbeats 4000000 in
set_option maxRecDepth 100000 in
theorem rst_f (s : List Int) (hs : Byts 64 s) (m q n : Int) (hm : 0 ≤ m ∧ m < 256) (hq : 0 ≤ q ∧ q < 256) (em : s.getD 0 0 = m) (eq : s.getD 1 0 = q) (en : psnL s = n) (e1 : decide (m - 161 < 0) = false) (e2 : decide (1 < m - 161) = false) (e3 : decide (16 ≤ q) = false) (e4 : decide (n < 1) = false) (e5 : decide (2147483647 < n) = false) (hQ : decide (laidL q (m - 161) n (halfL s) = s) = false) (hn : 1 ≤ n ∧ n ≤ 2147483647) (hh : m - 161 = 0 ∨ m - 161 = 1) (w : World) : Calls Tryd.prog 17 #[aggV (u8s s)] w fun e w' => e = .returned (.tuple #[aggV (stC 0 0 0), .bool false]) ∧ Kept [] w w' := by
  have hsu : (u8s s).length = 64 := by rw [u8s_len, hs.len]
  have hvl : (verC n (halfL s ++ halfL s)).length = 97 := verC_len (halves_byts hs hs).len
  have hc0 : (u8s s)[0]? = some (.int .u8 m) := by rw [← em]; simp [u8s, List.getD, hs.len]
  have hc1 : (u8s s)[1]? = some (.int .u8 q) := by rw [← eq]; simp [u8s, List.getD, hs.len]
  have EN := hide en
  clear em eq en
  go_enter Tryd.func17, Tryd.ntmps17
  go_wp2_with (
    first
    | (refine wpBoxV 1 (by rfl) (by rfl) (.tmp 0) (by rfl) (u8s s) (by rfl) ?_
       intro W1 b1 hb1 B1 K1
       have M : Hid (Mem w W1 [(b1, 27, u8s s)]) := ⟨by simpa using B1, K1⟩
       have L1 : w.heap.size ≤ b1 := by omega
       clear hb1 B1 K1)
    | (refine wpAllocV (stC 0 0 0) zero44 2 (by rfl) (by rfl) (by rfl) ?_
       intro W2 eW2
       have L2 : w.heap.size ≤ W1.heap.size := (unhide M).k.size
       replace M := hide ((unhide M).add (show Kept [] W1 W2 by rw [eW2]; exact (Kept.refl _ _).alloc _) (show Blk W2 W1.heap.size 44 (stC 0 0 0) by rw [eW2]; exact Blk.new' rfl))
       generalize W1.heap.size = b2 at *
       clear eW2
       have c0 := mem_cell (unhide M) b1 27 (u8s s) (by simp) 0 (.int .u8 m) hc0)
    | (refine wpLoadA row27 (by rfl) (.tmp 1) (by rfl) b1 0 (by rfl) (u8s s) hsu ((unhide M).blk (b1, 27, u8s s) (by simp)).range ?_))
  refine (said_n hs (unhide EN) _).mono ?_
  rintro e w1 ⟨rfl, k1⟩
  replace M := hide ((unhide M).quiet k1)
  clear k1
  clear c0
  go_wp2_with (
    first
    | (refine wpNew row25 (verC 0 (zs 96)) verC_zero zero25 5 (by rfl) (by rfl) (by rfl) (.tmp 12) (by rfl) (by rfl) (by rfl) (verC n (halfL s ++ halfL s)) hvl (verC_one _ _) (by kernel_rfl) (by kernel_rfl) ?_
       intro W5 b5 hb5 B5 K5
       replace M := hide ((unhide M).add K5 B5)
       clear hb5 B5 K5
       have c1 := mem_cell (unhide M) b1 27 (u8s s) (by simp) 1 (.int .u8 q) hc1
       have cn := mem_cell (unhide M) b5 25 (verC n (halfL s ++ halfL s)) (by simp) 0 (.int .i64 n) rfl))
  refine wp_region_prefS mixed 8 0 rfl (by kernel_rfl) (tc (rsTf m q n s b1)) (fun _ _ _ _ => True) (skipOf (rsTf m q n s b1)) (fun j o i b _ => guardsS_some (by kernel_rfl) j o i b) (fun j o _ => guardsS_none (by kernel_rfl) j o) (fun j w => skip_undef w) (fun _ _ _ _ => trivial) (tc_kept _) (by kernel_rfl) ?_ ?_
  · intro j o hj hs' ho a1 w2 hout hin hk
    show o.wp Tryd.prog a1 w2 (opPc (rsTf m q n s b1) o a1 w2 j 8) _
    match j, ho with
    | 0, ho =>
      obtain rfl := Option.some.inj ho
      exact o_idx27 (.tmp 1) 1 (by omega) rfl b1 0 ((hout 1 (by kernel_rfl)).trans (by kernel_rfl)) (postc rfl (Kept.refl _ _))
    | 1, ho =>
      obtain rfl := Option.some.inj ho
      exact o_load5 (.tmp 36) rfl ⟨b1, 1, none⟩ _ (hin 0 36 (by kernel_rfl) (by kernel_rfl)) (fits_cell (((unhide M).blk (b1, 27, u8s s) (by simp)).kept hk (by simp)) 1 _ hc1) (postc rfl (Kept.refl _ _))
    | 2, ho =>
      obtain rfl := Option.some.inj ho
      exact o_conv53 (.tmp 37) rfl q hq (hin 1 37 (by kernel_rfl) (by kernel_rfl)) (postc rfl (Kept.refl _ _))
    | 3, ho =>
      obtain rfl := Option.some.inj ho
      exact wp_loadA row25 (.tmp 5) rfl b5 0 ((hout 5 (by kernel_rfl)).trans (by kernel_rfl)) (verC n (halfL s ++ halfL s)) hvl (((unhide M).blk (b5, 25, verC n (halfL s ++ halfL s)) (by simp)).kept hk (by simp)).range (postc rfl (Kept.refl _ _))
    | 4, ho =>
      obtain rfl := Option.some.inj ho
      exact wp_move (.tmp 4) rfl (by rw [show a1.eval (.tmp 4) = _ from ((hout 4 (by kernel_rfl)).trans (by kernel_rfl))]; exact (postc rfl (Kept.refl _ _)))
    | 5, ho =>
      obtain rfl := Option.some.inj ho
      have e0 : a1.eval (.tmp 38) = _ := (hin 2 38 (by kernel_rfl) (by kernel_rfl))
      have e1 : a1.eval (.tmp 39) = _ := (hin 3 39 (by kernel_rfl) (by kernel_rfl))
      have e2 : a1.eval (.tmp 40) = _ := (hin 4 40 (by kernel_rfl) (by kernel_rfl))
      refine wp_callF 13 _ _ rfl #[.int .i64 q, aggV (verC n (halfL s ++ halfL s)), .int .i64 (m - 161)] (by simp [e0, e1, e2]) (cf13g _ _) ((half_sym (halfL_byts hs) hn hh w2).mono ?_)
      rintro x w3 ⟨rfl, hk3⟩
      exact ⟨_, rfl, postc rfl hk3⟩
    | 6, ho =>
      obtain rfl := Option.some.inj ho
      exact wp_loadA row27 (.tmp 1) rfl b1 0 ((hout 1 (by kernel_rfl)).trans (by kernel_rfl)) (u8s s) hsu (((unhide M).blk (b1, 27, u8s s) (by simp)).kept hk (by simp)).range (postc rfl (Kept.refl _ _))
    | 7, ho =>
      obtain rfl := Option.some.inj ho
      exact o_neqA' (.tmp 41) (.tmp 42) rfl (laidL q (m - 161) n (halfL s)) s (laidL_byts (halfL_byts hs)).len hs.len false hQ (hin 5 41 (by kernel_rfl) (by kernel_rfl)) (hin 6 42 (by kernel_rfl) (by kernel_rfl)) (postc rfl (Kept.refl _ _))
  · intro vs w5 hlen hF _ hk5
    match vs, hlen with
    | [x0, x1, x2, x3, x4, x5, x6, x7], _ =>
    obtain rfl : x0 = _ := hF 0 _ rfl
    obtain rfl : x1 = _ := hF 1 _ rfl
    obtain rfl : x2 = _ := hF 2 _ rfl
    obtain rfl : x3 = _ := hF 3 _ rfl
    obtain rfl : x4 = _ := hF 4 _ rfl
    obtain rfl : x5 = _ := hF 5 _ rfl
    obtain rfl : x6 = _ := hF 6 _ rfl
    obtain rfl : x7 = _ := hF 7 _ rfl
    clear hF c1 cn
    simp only [List.take_succ_cons, List.take_zero, putAll, Act.put, List.setIfInBounds_toArray, List.set_cons_succ, List.set_cons_zero]
    refine wpAny_done (by kernel_rfl) ?_ _
    replace M := hide ((unhide M).quiet hk5)
    clear hk5
    have c1 := mem_cell (unhide M) b1 27 (u8s s) (by simp) 1 (.int .u8 q) hc1
    have cn := mem_cell (unhide M) b5 25 (verC n (halfL s ++ halfL s)) (by simp) 0 (.int .i64 n) rfl
    go_wp2_with (
      first
      | (refine wpBuildZ (stC 0 0 0) build44z (by rfl) (by rfl) ?_)
      | (refine wpStoreA row44 (by rfl) (.tmp 2) (.tmp 44) (by rfl) b2 0 (stC 0 0 0) (by rfl) (by rfl) rfl (stC_one _ _ _) (((unhide M).blk (b2, 44, stC 0 0 0) (by simp)).there (by simp [stC])) ?_))
    have hb2 := ((unhide M).blk (b2, 44, stC 0 0 0) (by simp))
    have g4 := hb2.put (vs := stC 0 0 0) rfl
    exact bodyPost_ret (res17 _ _ _ _ _ rfl rfl rfl g4) rfl ⟨rfl, (unhide M).k.setCells _ _ (by omega)⟩

theorem isStampB_iff {s : List Int} : isStampB s = true ↔ (0 ≤ s.getD 1 0 ∧ s.getD 1 0 < 16) ∧ (s.getD 0 0 - 161 = 0 ∨ s.getD 0 0 - 161 = 1) ∧ 1 ≤ psnL s ∧ psnL s ≤ 2147483647 := by
  unfold isStampB isPageB isWrit
  rw [Bool.and_eq_true, Bool.and_eq_true, decide_eq_true_iff, decide_eq_true_iff, decide_eq_true_iff]
  exact Iff.rfl
theorem rstamp17 (s : List Int) (hs : Byts 64 s) (w : World) : Calls Tryd.prog 17 #[aggV (u8s s)] w fun e w' => e = .returned (.tuple #[aggV (stC (stampL s).1.1 (stampL s).1.2.1 (stampL s).1.2.2), .bool (stampL s).2]) ∧ Kept [] w w' := by
  have hq : 0 ≤ s.getD 1 0 ∧ s.getD 1 0 < 256 := by
    have := hs.byte (s[1]'(by rw [hs.len]; omega)) (List.getElem_mem (by rw [hs.len]; omega))
    simpa [List.getD, hs.len] using this
  have hm : 0 ≤ s.getD 0 0 ∧ s.getD 0 0 < 256 := by
    have := hs.byte (s[0]'(by rw [hs.len]; omega)) (List.getElem_mem (by rw [hs.len]; omega))
    simpa [List.getD, hs.len] using this
  by_cases h1 : s.getD 0 0 - 161 < 0
  · have e : stampL s = ((0, 0, 0), false) := by
      unfold stampL; rw [if_neg]; rintro ⟨h, _⟩; have := isStampB_iff.1 h; omega
    rw [e]
    exact rst_A s hs _ _ _ hm rfl rfl rfl (decide_eq_true h1) w
  by_cases h2 : 1 < s.getD 0 0 - 161
  · have e : stampL s = ((0, 0, 0), false) := by
      unfold stampL; rw [if_neg]; rintro ⟨h, _⟩; have := isStampB_iff.1 h; omega
    rw [e]
    exact rst_B s hs _ _ _ hm rfl rfl rfl (decide_eq_false h1) (decide_eq_true h2) w
  by_cases h3 : 16 ≤ s.getD 1 0
  · have e : stampL s = ((0, 0, 0), false) := by
      unfold stampL; rw [if_neg]; rintro ⟨h, _⟩; have := isStampB_iff.1 h; omega
    rw [e]
    exact rst_C s hs _ _ _ hm hq rfl rfl rfl (decide_eq_false h1) (decide_eq_false h2) (decide_eq_true h3) w
  by_cases h4 : psnL s < 1
  · have e : stampL s = ((0, 0, 0), false) := by
      unfold stampL; rw [if_neg]; rintro ⟨h, _⟩; have := isStampB_iff.1 h; omega
    rw [e]
    exact rst_D s hs _ _ _ hm hq rfl rfl rfl (decide_eq_false h1) (decide_eq_false h2) (decide_eq_false h3) (decide_eq_true h4) w
  by_cases h5 : 2147483647 < psnL s
  · have e : stampL s = ((0, 0, 0), false) := by
      unfold stampL; rw [if_neg]; rintro ⟨h, _⟩; have := isStampB_iff.1 h; omega
    rw [e]
    exact rst_E s hs _ _ _ hm hq rfl rfl rfl (decide_eq_false h1) (decide_eq_false h2) (decide_eq_false h3) (decide_eq_false h4) (decide_eq_true h5) w
  have hS : isStampB s = true := isStampB_iff.2 (by omega)
  have hn : 1 ≤ psnL s ∧ psnL s ≤ 2147483647 := by omega
  have hh : s.getD 0 0 - 161 = 0 ∨ s.getD 0 0 - 161 = 1 := by omega
  by_cases h6 : laidL (s.getD 1 0) (s.getD 0 0 - 161) (psnL s) (halfL s) = s
  · have e : stampL s = ((pOf s, hOf s, psnL s), true) := by unfold stampL; rw [if_pos ⟨hS, h6.symm⟩]
    rw [e]
    exact rst_g s hs _ _ _ hm hq rfl rfl rfl (decide_eq_false h1) (decide_eq_false h2) (decide_eq_false h3) (decide_eq_false h4) (decide_eq_false h5) (decide_eq_true h6) hn hh w
  · have e : stampL s = ((0, 0, 0), false) := by unfold stampL; rw [if_neg]; rintro ⟨_, h⟩; exact h6 h.symm
    rw [e]
    exact rst_f s hs _ _ _ hm hq rfl rfl rfl (decide_eq_false h1) (decide_eq_false h2) (decide_eq_false h3) (decide_eq_false h4) (decide_eq_false h5) (decide_eq_false h6) hn hh w

set_option maxHeartbeats 1000000 in
set_option maxRecDepth 100000 in
theorem better18 (n m : Int) (s t : List Int) (r : Bool) (hr : decide (m < n) = r) (w : World) : Calls Tryd.prog 18 #[aggV (verC n s), aggV (verC m t)] w fun e w' => e = .returned (.bool r) ∧ Kept [] w w' := by
  go_enter Tryd.func18, Tryd.ntmps18
  go_wp2_with (
    first
    | (refine wpBoxV 2 (by rfl) (by rfl) (.tmp 0) (by rfl) (verC n s) (by rfl) ?_
       intro W2 b2 hb2 B2 K2
       have M : Hid (Mem w W2 [(b2, 25, verC n s)]) := ⟨by simpa using B2, K2⟩
       clear hb2 B2 K2)
    | (refine wpBoxV 3 (by rfl) (by rfl) (.tmp 1) (by rfl) (verC m t) (by rfl) ?_
       intro W3 b3 hb3 B3 K3
       replace M := hide ((unhide M).add K3 B3)
       have c0 := mem_cell (unhide M) b2 25 (verC n s) (by simp) 0 (.int .i64 n) rfl
       have c1 := mem_cell (unhide M) b3 25 (verC m t) (by simp) 0 (.int .i64 m) rfl
       clear hb3 B3 K3))
  go_ret
  exact ⟨rfl, (unhide M).k⟩

end Go.Proofs.YtnflcajidgbbbaaDoor
