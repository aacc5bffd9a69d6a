/-
  Nets that are not there.
-/
import Derived.Test.YtpcggcicpojdoaaKna
namespace Go.Proofs.Ytpcggcicpojdoaa
open Go.RowKit

/-- No net, or a zero one. -/
def Nz (o : Option Addr) (W : World) : Prop := o = none ∨ ∃ z, o = some ⟨z, 0, none⟩ ∧ Blk W z 58 [.int .i64 0, .int .i64 0, .map none, .slice none 0 0]
theorem Nz.kept {o : Option Addr} {W W' : World} (h : Nz o W) (hk : Kept [] W W') : Nz o W' := by
  rcases h with h | ⟨z, h1, h2⟩
  · exact .inl h
  · exact .inr ⟨z, h1, h2.kept hk (by simp)⟩
theorem z38 (o : Option Addr) (w : World) (h : Nz o w) : Calls Try.prog 38 #[.pointer o] w fun e w' => e = .returned (.bool true) ∧ w' = w := by
  rcases h with rfl | ⟨z, rfl, h2⟩
  · exact nil38 w
  · have hc := fits_cell h2 0 _ rfl
    go_enter Try.func38, Try.ntmps38
    go_wp2
    go_ret
    exact ⟨rfl, rfl⟩
theorem z16 (o : Option Addr) (fr to : Int) (ao : Option Addr) (m c : Nat) (w : World) (h : Nz o w) : Calls Try.prog 16 #[.pointer o, .int .i64 fr, .int .i64 to, .slice ao m c] w fun e w' => e = .returned (.tuple #[.int .i64 0, .int .i64 1]) ∧ w' = w := by
  have PN := hide (z38 o w h)
  clear h
  go_enter Try.func16, Try.ntmps16
  go_wp2_with (
    first
    | (go_at_call 38
       refine (unhide PN).mono ?_
       rintro e V1 ⟨rfl, hw1⟩
       obtain rfl := hw1.symm
       clear hw1))
  go_ret2
  exact ⟨rfl, rfl⟩
theorem z17 (o : Option Addr) (k : Int) (w : World) (h : Nz o w) : Calls Try.prog 17 #[.pointer o, .int .i64 k] w fun e w' => e = .returned (.tuple #[.int .i64 0, .int .i64 1]) ∧ w' = w := by
  have PN := hide (z38 o w h)
  clear h
  go_enter Try.func17, Try.ntmps17
  go_wp2_with (
    first
    | (go_at_call 38
       refine (unhide PN).mono ?_
       rintro e V1 ⟨rfl, hw1⟩
       obtain rfl := hw1.symm
       clear hw1))
  go_ret2
  exact ⟨rfl, rfl⟩
theorem z21 (o : Option Addr) (w : World) (h : Nz o w) : Calls Try.prog 21 #[.pointer o] w fun e w' => e = .returned (.int .i64 0) ∧ w' = w := by
  have PN := hide (z38 o w h)
  clear h
  go_enter Try.func21, Try.ntmps21
  go_wp2_with (
    first
    | (go_at_call 38
       refine (unhide PN).mono ?_
       rintro e V1 ⟨rfl, hw1⟩
       obtain rfl := hw1.symm
       clear hw1))
  go_ret
  exact ⟨rfl, rfl⟩
theorem z26 (o : Option Addr) (w : World) (h : Nz o w) : Calls Try.prog 26 #[.pointer o] w fun e w' => e = .returned (.int .i64 0) ∧ w' = w := by
  have PN := hide (z38 o w h)
  clear h
  go_enter Try.func26, Try.ntmps26
  go_wp2_with (
    first
    | (go_at_call 38
       refine (unhide PN).mono ?_
       rintro e V1 ⟨rfl, hw1⟩
       obtain rfl := hw1.symm
       clear hw1))
  go_ret
  exact ⟨rfl, rfl⟩
theorem z25 (o : Option Addr) (w : World) (h : Nz o w) : Calls Try.prog 25 #[.pointer o] w fun e w' => e = .returned (.int .i64 0) ∧ w' = w := by
  have PN := hide (z38 o w h)
  clear h
  go_enter Try.func25, Try.ntmps25
  go_wp2_with (
    first
    | (go_at_call 38
       refine (unhide PN).mono ?_
       rintro e V1 ⟨rfl, hw1⟩
       obtain rfl := hw1.symm
       clear hw1))
  go_ret
  exact ⟨rfl, rfl⟩
theorem z31 (o : Option Addr) (w : World) (h : Nz o w) : Calls Try.prog 31 #[.pointer o] w fun e w' => e = .returned (.pointer none) ∧ w' = w := by
  have PN := hide (z38 o w h)
  clear h
  go_enter Try.func31, Try.ntmps31
  go_wp2_with (
    first
    | (go_at_call 38
       refine (unhide PN).mono ?_
       rintro e V1 ⟨rfl, hw1⟩
       obtain rfl := hw1.symm
       clear hw1))
  go_ret
  exact ⟨rfl, rfl⟩
theorem z18 (o : Option Addr) (k : Int) (w : World) (h : Nz o w) : Calls Try.prog 18 #[.pointer o, .int .i64 k] w fun e w' => e = .returned (.tuple #[aggV zL, .int .i64 1]) ∧ Kept [] w w' := by
  have PN := hide (fun W (hk : Kept [] w W) => z38 o W (h.kept hk))
  have HK := hide (Kept.refl [] w)
  clear h
  go_enter Try.func18, Try.ntmps18
  go_wp2_with (
    first
    | (refine wpBox1 (T := 2) (.int .i64 k) (box2 k) (by rfl) (.tmp 1) (by rfl) (by kernel_rfl) ?_
       intro W1 q e1 B1 K1
       replace HK := hide ((unhide HK).trans K1)
       clear e1 B1 K1
       refine Stp.go ?_))
  constructor
  go_wp2_with (
    first
    | (refine wpAllocW zL alloc47 4 (by rfl) (by rfl) (by rfl) ?_
       intro W2 p2 e2 B2 K2
       have HF2 : Hid (w.heap.size ≤ p2) := by rw [e2]; exact (unhide HK).size
       have HZ := hide B2
       replace HK := hide ((unhide HK).trans K2)
       clear e2 B2 K2
       refine Stp.go ?_))
  constructor
  go_wp2_with (
    first
    | (go_at_call 38
       refine (unhide PN _ (unhide HK)).mono ?_
       rintro e V1 ⟨rfl, hw1⟩
       obtain rfl := hw1.symm
       clear hw1
       refine Stp.go ?_))
  constructor
  go_wp2_with (
    first
    | (refine wpBuildZ zL build47 (by rfl) (by rfl) ?_
       refine Stp.go ?_))
  constructor
  go_wp2_with (
    first
    | (refine wpStoreW row47 (by rfl) (.tmp 4) (.tmp 11) (by rfl) (by rfl) p2 zL zL (by kernel_rfl) (by kernel_rfl) rfl zL_one (unhide HZ) rfl ?_
       intro W5 B5 K5
       replace HZ := hide B5
       replace HK := hide ((unhide HK).fresh K5 (fun i hi hl => by have : w.heap.size ≤ p2 := unhide HF2; simp at hi; omega))
       clear B5 K5))
  exact bodyPost_ret (res18 _ p2 zL 1 _ rfl rfl rfl (unhide HZ)) rfl ⟨rfl, unhide HK⟩
theorem z34 (o : Option Addr) (k : Int) (w : World) (h : Nz o w) : Calls Try.prog 34 #[.pointer o, .int .i64 k] w fun e w' => e = .returned (.tuple #[aggV zL, .bool false]) ∧ Kept [] w w' := by
  have PN := hide (fun W (hk : Kept [] w W) => z38 o W (h.kept hk))
  have HK := hide (Kept.refl [] w)
  clear h
  go_enter Try.func34, Try.ntmps34
  go_wp2_with (
    first
    | (refine wpAllocW zL alloc47 4 (by rfl) (by rfl) (by rfl) ?_
       intro W2 p2 e2 B2 K2
       have HF2 : Hid (w.heap.size ≤ p2) := by rw [e2]; exact (unhide HK).size
       have HZ := hide B2
       replace HK := hide ((unhide HK).trans K2)
       clear e2 B2 K2
       refine Stp.go ?_))
  constructor
  go_wp2_with (
    first
    | (go_at_call 38
       refine (unhide PN _ (unhide HK)).mono ?_
       rintro e V1 ⟨rfl, hw1⟩
       obtain rfl := hw1.symm
       clear hw1
       refine Stp.go ?_))
  constructor
  go_wp2_with (
    first
    | (refine wpBuildZ zL build47 (by rfl) (by rfl) ?_
       refine Stp.go ?_))
  constructor
  go_wp2_with (
    first
    | (refine wpStoreW row47 (by rfl) (.tmp 4) (.tmp 10) (by rfl) (by rfl) p2 zL zL (by kernel_rfl) (by kernel_rfl) rfl zL_one (unhide HZ) rfl ?_
       intro W5 B5 K5
       replace HZ := hide B5
       replace HK := hide ((unhide HK).fresh K5 (fun i hi hl => by have : w.heap.size ≤ p2 := unhide HF2; simp at hi; omega))
       clear B5 K5))
  exact bodyPost_ret (res34 _ p2 zL false _ rfl rfl rfl (unhide HZ)) rfl ⟨rfl, unhide HK⟩
theorem z24 (o : Option Addr) (w : World) (h : Nz o w) : Calls Try.prog 24 #[.pointer o, .int .i64 0] w fun e w' => e = .returned (.tuple #[aggV zL, .bool false]) ∧ Kept [] w w' := by
  have PN := hide (fun W (hk : Kept [] w W) => z21 o W (h.kept hk))
  have HK := hide (Kept.refl [] w)
  clear h
  go_enter Try.func24, Try.ntmps24
  go_wp2_with (
    first
    | (refine wpAllocW zL alloc47 4 (by rfl) (by rfl) (by rfl) ?_
       intro W2 p2 e2 B2 K2
       have HF2 : Hid (w.heap.size ≤ p2) := by rw [e2]; exact (unhide HK).size
       have HZ := hide B2
       replace HK := hide ((unhide HK).trans K2)
       clear e2 B2 K2
       refine Stp.go ?_))
  constructor
  go_wp2_with (
    first
    | (go_at_call 21
       refine (unhide PN _ (unhide HK)).mono ?_
       rintro e V1 ⟨rfl, hw1⟩
       obtain rfl := hw1.symm
       clear hw1
       refine Stp.go ?_))
  constructor
  go_wp2_with (
    first
    | (refine wpBuildZ zL build47 (by rfl) (by rfl) ?_
       refine Stp.go ?_))
  constructor
  go_wp2_with (
    first
    | (refine wpStoreW row47 (by rfl) (.tmp 4) (.tmp 14) (by rfl) (by rfl) p2 zL zL (by kernel_rfl) (by kernel_rfl) rfl zL_one (unhide HZ) rfl ?_
       intro W5 B5 K5
       replace HZ := hide B5
       replace HK := hide ((unhide HK).fresh K5 (fun i hi hl => by have : w.heap.size ≤ p2 := unhide HF2; simp at hi; omega))
       clear B5 K5))
  exact bodyPost_ret (res24 _ p2 zL false _ rfl rfl rfl (unhide HZ)) rfl ⟨rfl, unhide HK⟩
theorem z20 (o : Option Addr) (k : Int) (w : World) (h : Nz o w) : Calls Try.prog 20 #[.pointer o, .int .i64 k] w fun e w' => e = .returned (.int .i64 1) ∧ Kept [] w w' := by
  have PD := hide (z18 o k w h)
  clear h
  go_enter Try.func20, Try.ntmps20
  go_wp2_with (
    first
    | (go_at_call 18
       refine (unhide PD).mono ?_
       rintro e W1 ⟨rfl, hr⟩
       have HK := hide hr
       clear hr
       refine Stp.go ?_))
  constructor
  go_wp2_with (
    first
    | (refine wpNew row47 zL rfl alloc47 5 (by rfl) (by rfl) (by rfl) (.tmp 11) (by rfl) (by rfl) (by rfl) zL rfl zL_one (by kernel_rfl) (by kernel_rfl) ?_
       intro W2 p2 e2 B2 K2
       replace HK := hide ((unhide HK).trans K2)
       clear e2 B2 K2))
  go_ret
  exact ⟨rfl, unhide HK⟩
/-- Same, of two that are not there. -/
theorem z14 (o : Option Addr) (w : World) (h : Nz o w) : Calls Try.prog 14 #[.pointer o, .pointer none] w fun e w' => e = .returned (.bool true) ∧ w' = w := by
  have PN := hide (z38 o w h)
  have PM := hide (z38 none w (.inl rfl))
  clear h
  go_enter Try.func14, Try.ntmps14
  go_wp2_with (
    first
    | (go_at_call 38
       refine (unhide PN).mono ?_
       rintro e V1 ⟨rfl, hw1⟩
       obtain rfl := hw1.symm
       clear hw1
       refine Stp.go ?_))
  constructor
  go_wp2_with (
    first
    | (go_at_call 38
       refine (unhide PN).mono ?_
       rintro e V1 ⟨rfl, hw1⟩
       obtain rfl := hw1.symm
       clear hw1
       refine Stp.go ?_))
  constructor
  go_wp2_with (
    first
    | (go_at_call 38
       refine (unhide PM).mono ?_
       rintro e V1 ⟨rfl, hw1⟩
       obtain rfl := hw1.symm
       clear hw1))
  go_ret
  exact ⟨rfl, rfl⟩
/-- Same, of a net and none. -/
theorem n14 (b mb : Nat) (v : Value) (N : Nn) (w : World) (h : Nt w b mb v N) : Calls Try.prog 14 #[P0 b, .pointer none] w fun e w' => e = .returned (.bool false) ∧ w' = w := by
  have PN := hide (none38 b mb v N w h)
  have PM := hide (z38 none w (.inl rfl))
  clear h
  go_enter Try.func14, Try.ntmps14
  go_wp2_with (
    first
    | (go_at_call 38
       refine (unhide PN).mono ?_
       rintro e V1 ⟨rfl, hw1⟩
       obtain rfl := hw1.symm
       clear hw1
       refine Stp.go ?_))
  constructor
  go_wp2_with (
    first
    | (go_at_call 38
       refine (unhide PM).mono ?_
       rintro e V1 ⟨rfl, hw1⟩
       obtain rfl := hw1.symm
       clear hw1
       refine Stp.go ?_))
  constructor
  go_wp2_with (
    first
    | (go_at_call 38
       refine (unhide PN).mono ?_
       rintro e V1 ⟨rfl, hw1⟩
       obtain rfl := hw1.symm
       clear hw1))
  go_ret
  exact ⟨rfl, rfl⟩
section
variable {o : Oper} {a : Act} {w : World} {K : Act → World → Prop} {Q : Exit → Act → World → Prop}
theorem o_eqlI3 (x y : Operand) (ho : o.op = .binOp .eql 3 x y 3) (m n : Int) (r : Bool) (hr : decide (m = n) = r) (hx : a.eval x = .int .i64 m) (hy : a.eval y = .int .i64 n) (h : K (a.put o.dst (.bool r)) w) : o.wp Try.prog a w K Q := by
  subst hr
  unfold Oper.wp execOp
  simp only [ho, hx, hy]
  simp [go_sem]
  exact h
theorem o_eqlI2 (x y : Operand) (ho : o.op = .binOp .eql 2 x y 2) (m n : Int) (r : Bool) (hr : decide (m = n) = r) (hx : a.eval x = .int .i64 m) (hy : a.eval y = .int .i64 n) (h : K (a.put o.dst (.bool r)) w) : o.wp Try.prog a w K Q := by
  subst hr
  unfold Oper.wp execOp
  simp only [ho, hx, hy]
  simp [go_sem]
  exact h
end
set_option maxHeartbeats 1000000 in
/-- Same, of nets of unlike last numbers. -/
theorem u14 (b mb b2 mb2 : Nat) (v v2 : Value) (N M : Nn) (w : World) (h : Nt w b mb v N) (h2 : Nt w b2 mb2 v2 M) (hn : M.nodes = N.nodes) (hne : ¬ N.last = M.last) : Calls Try.prog 14 #[P0 b, P0 b2] w fun e w' => e = .returned (.bool false) ∧ Kept [] w w' := by
  have PN := hide (none38 b mb v N w h)
  have PM := hide (none38 b2 mb2 v2 M w h2)
  have HA := hide h.head
  have hB := h2.head
  rw [hn] at hB
  have HB := hide hB
  clear h h2 hB
  go_enter Try.func14, Try.ntmps14
  go_wp2_with (
    first
    | (go_at_call 38
       refine (unhide PN).mono ?_
       rintro e V1 ⟨rfl, hw1⟩
       obtain rfl := hw1.symm
       clear hw1
       refine Stp.go ?_))
  constructor
  go_wp2_with (
    first
    | (go_at_call 38
       refine (unhide PM).mono ?_
       rintro e V1 ⟨rfl, hw1⟩
       obtain rfl := hw1.symm
       clear hw1))
  refine wp_region_any mixed (wpAny_tq 32 rfl (by kernel_rfl) [some (P0 b), some (P0 b), some (.pointer (some ⟨b, 0, none⟩)), some (.int .i64 N.nodes), some (P0 b2), some (P0 b2), some (.pointer (some ⟨b2, 0, none⟩)), some (.int .i64 N.nodes), some (.bool true), some (.bool true), some (P0 b), some (P0 b), some (.pointer (some ⟨b, 1, none⟩)), some (.int .i64 N.last), some (P0 b2), some (P0 b2), some (.pointer (some ⟨b2, 1, none⟩)), some (.int .i64 M.last), some (.bool false), some (.bool false), some (.bool false), none, none, none, none, none, none, none, none, none, some (.bool false), some (.bool false)] rfl (by kernel_rfl) (by kernel_rfl) ?_ ?_)
  · intro i o' hi hsk ho a' w2 hout hin hk2
    replace hk2 : Kept [] w w2 := ⟨hk2.os, hk2.tape, hk2.output, hk2.size, hk2.block⟩
    match i, ho, hsk with
    | 0, ho, hsk =>
      obtain rfl := Option.some.inj ho
      exact wp_move (.tmp 0) rfl _ ((hout 0 (by kernel_rfl)).trans rfl) ⟨_, rfl, tq_is _ _ _ _ rfl, Kept.refl _ _, fun _ _ _ _ _ => trivial⟩
    | 1, ho, hsk =>
      obtain rfl := Option.some.inj ho
      have e0 : a'.eval (.tmp 17) = P0 b := is_tq (hin 0 17 (by kernel_rfl) (by kernel_rfl)) rfl
      exact o_nil (.tmp 17) rfl _ e0 ⟨_, rfl, tq_is _ _ _ _ rfl, Kept.refl _ _, fun _ _ _ _ _ => trivial⟩
    | 2, ho, hsk =>
      obtain rfl := Option.some.inj ho
      have e0 : a'.eval (.tmp 18) = P0 b := is_tq (hin 1 18 (by kernel_rfl) (by kernel_rfl)) rfl
      exact o_fld58_0 (.tmp 18) rfl b e0 ⟨_, rfl, tq_is _ _ _ _ rfl, Kept.refl _ _, fun _ _ _ _ _ => trivial⟩
    | 3, ho, hsk =>
      obtain rfl := Option.some.inj ho
      have e0 : a'.eval (.tmp 19) = .pointer (some ⟨b, 0, none⟩) := is_tq (hin 2 19 (by kernel_rfl) (by kernel_rfl)) rfl
      exact o_load3 (.tmp 19) rfl ⟨b, 0, none⟩ _ e0 (fits_cell ((unhide HA).kept hk2 (by simp)) 0 _ rfl) ⟨_, rfl, tq_is _ _ _ _ rfl, Kept.refl _ _, fun _ _ _ _ _ => trivial⟩
    | 4, ho, hsk =>
      obtain rfl := Option.some.inj ho
      exact wp_move (.tmp 1) rfl _ ((hout 1 (by kernel_rfl)).trans rfl) ⟨_, rfl, tq_is _ _ _ _ rfl, Kept.refl _ _, fun _ _ _ _ _ => trivial⟩
    | 5, ho, hsk =>
      obtain rfl := Option.some.inj ho
      have e0 : a'.eval (.tmp 21) = P0 b2 := is_tq (hin 4 21 (by kernel_rfl) (by kernel_rfl)) rfl
      exact o_nil (.tmp 21) rfl _ e0 ⟨_, rfl, tq_is _ _ _ _ rfl, Kept.refl _ _, fun _ _ _ _ _ => trivial⟩
    | 6, ho, hsk =>
      obtain rfl := Option.some.inj ho
      have e0 : a'.eval (.tmp 22) = P0 b2 := is_tq (hin 5 22 (by kernel_rfl) (by kernel_rfl)) rfl
      exact o_fld58_0 (.tmp 22) rfl b2 e0 ⟨_, rfl, tq_is _ _ _ _ rfl, Kept.refl _ _, fun _ _ _ _ _ => trivial⟩
    | 7, ho, hsk =>
      obtain rfl := Option.some.inj ho
      have e0 : a'.eval (.tmp 23) = .pointer (some ⟨b2, 0, none⟩) := is_tq (hin 6 23 (by kernel_rfl) (by kernel_rfl)) rfl
      exact o_load3 (.tmp 23) rfl ⟨b2, 0, none⟩ _ e0 (fits_cell ((unhide HB).kept hk2 (by simp)) 0 _ rfl) ⟨_, rfl, tq_is _ _ _ _ rfl, Kept.refl _ _, fun _ _ _ _ _ => trivial⟩
    | 8, ho, hsk =>
      obtain rfl := Option.some.inj ho
      have e0 : a'.eval (.tmp 20) = .int .i64 N.nodes := is_tq (hin 3 20 (by kernel_rfl) (by kernel_rfl)) rfl
      have e1 : a'.eval (.tmp 24) = .int .i64 N.nodes := is_tq (hin 7 24 (by kernel_rfl) (by kernel_rfl)) rfl
      exact o_eqlI3 (.tmp 20) (.tmp 24) rfl _ _ true (decide_eq_true rfl) e0 e1 ⟨_, rfl, tq_is _ _ _ _ rfl, Kept.refl _ _, fun _ _ _ _ _ => trivial⟩
    | 9, ho, hsk =>
      obtain rfl := Option.some.inj ho
      have e0 : a'.eval (.tmp 25) = .bool true := is_tq (hin 8 25 (by kernel_rfl) (by kernel_rfl)) rfl
      exact wp_move (.tmp 25) rfl _ e0 ⟨_, rfl, tq_is _ _ _ _ rfl, Kept.refl _ _, fun _ _ _ _ _ => trivial⟩
    | 10, ho, hsk =>
      obtain rfl := Option.some.inj ho
      exact wp_move (.tmp 0) rfl _ ((hout 0 (by kernel_rfl)).trans rfl) ⟨_, rfl, tq_is _ _ _ _ rfl, Kept.refl _ _, fun _ _ _ _ _ => trivial⟩
    | 11, ho, hsk =>
      obtain rfl := Option.some.inj ho
      have e0 : a'.eval (.tmp 27) = P0 b := is_tq (hin 10 27 (by kernel_rfl) (by kernel_rfl)) rfl
      exact o_nil (.tmp 27) rfl _ e0 ⟨_, rfl, tq_is _ _ _ _ rfl, Kept.refl _ _, fun _ _ _ _ _ => trivial⟩
    | 12, ho, hsk =>
      obtain rfl := Option.some.inj ho
      have e0 : a'.eval (.tmp 28) = P0 b := is_tq (hin 11 28 (by kernel_rfl) (by kernel_rfl)) rfl
      exact o_fld58_1 (.tmp 28) rfl b e0 ⟨_, rfl, tq_is _ _ _ _ rfl, Kept.refl _ _, fun _ _ _ _ _ => trivial⟩
    | 13, ho, hsk =>
      obtain rfl := Option.some.inj ho
      have e0 : a'.eval (.tmp 29) = .pointer (some ⟨b, 1, none⟩) := is_tq (hin 12 29 (by kernel_rfl) (by kernel_rfl)) rfl
      exact o_load2 (.tmp 29) rfl ⟨b, 1, none⟩ _ e0 (fits_cell ((unhide HA).kept hk2 (by simp)) 1 _ rfl) ⟨_, rfl, tq_is _ _ _ _ rfl, Kept.refl _ _, fun _ _ _ _ _ => trivial⟩
    | 14, ho, hsk =>
      obtain rfl := Option.some.inj ho
      exact wp_move (.tmp 1) rfl _ ((hout 1 (by kernel_rfl)).trans rfl) ⟨_, rfl, tq_is _ _ _ _ rfl, Kept.refl _ _, fun _ _ _ _ _ => trivial⟩
    | 15, ho, hsk =>
      obtain rfl := Option.some.inj ho
      have e0 : a'.eval (.tmp 31) = P0 b2 := is_tq (hin 14 31 (by kernel_rfl) (by kernel_rfl)) rfl
      exact o_nil (.tmp 31) rfl _ e0 ⟨_, rfl, tq_is _ _ _ _ rfl, Kept.refl _ _, fun _ _ _ _ _ => trivial⟩
    | 16, ho, hsk =>
      obtain rfl := Option.some.inj ho
      have e0 : a'.eval (.tmp 32) = P0 b2 := is_tq (hin 15 32 (by kernel_rfl) (by kernel_rfl)) rfl
      exact o_fld58_1 (.tmp 32) rfl b2 e0 ⟨_, rfl, tq_is _ _ _ _ rfl, Kept.refl _ _, fun _ _ _ _ _ => trivial⟩
    | 17, ho, hsk =>
      obtain rfl := Option.some.inj ho
      have e0 : a'.eval (.tmp 33) = .pointer (some ⟨b2, 1, none⟩) := is_tq (hin 16 33 (by kernel_rfl) (by kernel_rfl)) rfl
      exact o_load2 (.tmp 33) rfl ⟨b2, 1, none⟩ _ e0 (fits_cell ((unhide HB).kept hk2 (by simp)) 1 _ rfl) ⟨_, rfl, tq_is _ _ _ _ rfl, Kept.refl _ _, fun _ _ _ _ _ => trivial⟩
    | 18, ho, hsk =>
      obtain rfl := Option.some.inj ho
      have e0 : a'.eval (.tmp 30) = .int .i64 N.last := is_tq (hin 13 30 (by kernel_rfl) (by kernel_rfl)) rfl
      have e1 : a'.eval (.tmp 34) = .int .i64 M.last := is_tq (hin 17 34 (by kernel_rfl) (by kernel_rfl)) rfl
      exact o_eqlI2 (.tmp 30) (.tmp 34) rfl _ _ false (decide_eq_false hne) e0 e1 ⟨_, rfl, tq_is _ _ _ _ rfl, Kept.refl _ _, fun _ _ _ _ _ => trivial⟩
    | 19, ho, hsk =>
      obtain rfl := Option.some.inj ho
      have e0 : a'.eval (.tmp 26) = .bool true := is_tq (hin 9 26 (by kernel_rfl) (by kernel_rfl)) rfl
      have e1 : a'.eval (.tmp 35) = .bool false := is_tq (hin 18 35 (by kernel_rfl) (by kernel_rfl)) rfl
      exact o_pick (.tmp 26) (.tmp 35) rfl _ e0 e1 ⟨_, rfl, tq_is _ _ _ _ rfl, Kept.refl _ _, fun _ _ _ _ _ => trivial⟩
    | 20, ho, hsk =>
      obtain rfl := Option.some.inj ho
      have e0 : a'.eval (.tmp 36) = .bool false := is_tq (hin 19 36 (by kernel_rfl) (by kernel_rfl)) rfl
      exact wp_move (.tmp 36) rfl _ e0 ⟨_, rfl, tq_is _ _ _ _ rfl, Kept.refl _ _, fun _ _ _ _ _ => trivial⟩
    | 21, ho, hsk =>
      cases hsk
    | 22, ho, hsk =>
      cases hsk
    | 23, ho, hsk =>
      cases hsk
    | 24, ho, hsk =>
      cases hsk
    | 25, ho, hsk =>
      cases hsk
    | 26, ho, hsk =>
      cases hsk
    | 27, ho, hsk =>
      cases hsk
    | 28, ho, hsk =>
      cases hsk
    | 29, ho, hsk =>
      cases hsk
    | 30, ho, hsk =>
      obtain rfl := Option.some.inj ho
      have e0 : a'.eval (.tmp 37) = .bool false := is_tq (hin 20 37 (by kernel_rfl) (by kernel_rfl)) rfl
      exact o_pickN (.tmp 37) (.tmp 46) rfl e0 ⟨_, rfl, tq_is _ _ _ _ rfl, Kept.refl _ _, fun _ _ _ _ _ => trivial⟩
    | 31, ho, hsk =>
      obtain rfl := Option.some.inj ho
      have e0 : a'.eval (.tmp 47) = .bool false := is_tq (hin 30 47 (by kernel_rfl) (by kernel_rfl)) rfl
      exact wp_assignV (.tmp 47) rfl _ e0 ⟨_, rfl, tq_is _ _ _ _ rfl, Kept.refl _ _, fun _ _ _ _ _ => trivial⟩
  intro w9 hk9
  replace hk9 : Kept [] w w9 := ⟨hk9.os, hk9.tape, hk9.output, hk9.size, hk9.block⟩
  simp only [valsQ, List.map_cons, List.map_nil, Option.getD_some, Option.getD_none, List.take_succ_cons, List.take_zero, putAll, Act.put, List.setIfInBounds_toArray, List.set_cons_succ, List.set_cons_zero]
  refine wpAny_done (by kernel_rfl) ?_ _
  go_wp2_with fail
  go_ret
  exact ⟨rfl, hk9⟩

end Go.Proofs.Ytpcggcicpojdoaa
