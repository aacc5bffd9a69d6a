/-
  What sessions that are not there answer.
-/
import Derived.Test.YthbgnpbkdeofcaaSn
namespace Go.Proofs.Ythbgnpbkdeofcaa
set_option maxRecDepth 100000
open Go.RowKit

theorem Non.kept {w W : World} {p : Value} (h : Non w p) (hk : Kept [] w W) : Non W p := by
  rcases h with rfl | ⟨b, rfl, hz⟩
  · exact .inl rfl
  · exact .inr ⟨b, rfl, hz.kept0 hk⟩
theorem mk300 (w : World) : (Instr.makeSlice 33 (.int .i64 300) (.int .i64 300)).run Try.prog w = .ok (.slice (some ⟨w.heap.size, 0, none⟩) 300 300) (w.alloc (.cells (u8s (List.replicate 300 0)).toArray 5)) := by kernel_rfl
theorem mk257 (w : World) : (Instr.makeSlice 33 (.int .i64 257) (.int .i64 257)).run Try.prog w = .ok (.slice (some ⟨w.heap.size, 0, none⟩) 257 257) (w.alloc (.cells (u8s (List.replicate 257 0)).toArray 5)) := by kernel_rfl
theorem mk256 (w : World) : (Instr.makeSlice 33 (.int .i64 256) (.int .i64 256)).run Try.prog w = .ok (.slice (some ⟨w.heap.size, 0, none⟩) 256 256) (w.alloc (.cells (u8s (List.replicate 256 0)).toArray 5)) := by kernel_rfl
section
variable {ops : Array Oper} {rest : List Oper} {op : Oper} {a : Act} {w : World} {Q : Exit → Act → World → Prop}
theorem wpMkG (n : Int) (m : Nat) (hr : ∀ w : World, (Instr.makeSlice 33 (.int .i64 n) (.int .i64 n)).run Try.prog w = .ok (.slice (some ⟨w.heap.size, 0, none⟩) m m) (w.alloc (.cells (u8s (List.replicate m 0)).toArray 5))) (hw : Region.wanted op (yielded ops a.tmps) = true) (ho : op.op = .makeSlice 33 (.const (.int .i64 n)) (.const (.int .i64 n))) (h : ∀ W g, Blk W g 5 (u8s (List.replicate m 0)) → Kept [] w W → wpList Try.prog ops Q rest (a.put op.dst (.slice (some ⟨g, 0, none⟩) m m)) W) : wpList Try.prog ops Q (op :: rest) a w :=
  BigFrame.wpList_want hw fun K hK => by
    unfold Oper.wp execOp
    simp only [ho, Act.eval, Sem.run_bind, hr, Result.andThen_ok]
    exact hK _ _ (h _ _ (Blk.new w 5 _) ((Kept.refl _ _).alloc _))
theorem wpBsP (hgd : op.guard = none) (x : Operand) (ho : op.op = .buildSlice 69 2 #[(0, .const (.pointer none)), (1, x)]) (z : Nat) (hx : a.eval x = P0 z)
    (h : ∀ W g, Blk W g 23 [.pointer none, P0 z] → Kept [] w W → wpList Try.prog ops Q rest (a.put op.dst (.slice (some ⟨g, 0, none⟩) 2 2)) W) : wpList Try.prog ops Q (op :: rest) a w :=
  wpList_plain hgd fun K hK => by
    have hr : (Instr.buildSlice 69 2 #[(0, .pointer none), (1, P0 z)]).run Try.prog w = .ok (.slice (some ⟨w.heap.size, 0, none⟩) 2 2) (w.alloc (.cells [.pointer none, P0 z].toArray 23)) := by kernel_rfl
    unfold Oper.wp execOp
    simp only [ho, List.map_toArray, List.map_cons, List.map_nil, hx, Sem.run_bind]
    have e : a.eval (.const (.pointer none)) = .pointer none := rfl
    rw [e, hr]
    exact hK _ _ (h _ _ (Blk.new w 23 _) ((Kept.refl _ _).alloc _))
end
def zC : List Value := [.int .i64 0, .int .i64 0, .int .i64 0, .int .i64 0, .int .i64 0, .int .i64 0, .bool false, .slice none 0 0]
theorem build68z (w : World) : (Instr.build 68 #[]).run Try.prog w = .ok (aggV zC) w := by kernel_rfl
theorem build35s (w : World) : (Instr.build 35 #[(3, .int .i64 1)]).run Try.prog w = .ok (aggV ((⟨0, 0, 0, 1, 0, []⟩ : Dg).C (.slice none 0 0))) w := by kernel_rfl
theorem ks1 : sameB (newP 0 1 1) (newP 0 1 2) = false := by kernel_rfl
theorem ks2 : sameB (newP 0 1 1) (newP 0 2 1) = false := by kernel_rfl
theorem ks3 : sameB (newP 0 1 1) (newP 3 1 1) = false := by kernel_rfl
theorem k_same (a b : Nat) (v v2 : Value) (ws ws2 : List Value) (P R : Ps) (r : Bool) (hr : sameB P R = r) (w : World) (h : Sx w a v ws P) (h2 : Sx w b v2 ws2 R) : Calls Try.prog 28 #[P0 a, P0 b] w fun e w' => e = .returned (.bool r) ∧ Kept [] w w' := hr ▸ same28 a b v v2 ws ws2 P R w h h2
set_option maxHeartbeats 8000000 in
theorem nil8 (w : World) : Calls Try.prog 8 #[] w fun e w' => e = .returned (.bool true) ∧ Kept [] w w' := by
  go_enter Try.func8, Try.ntmps8
  go_wp2_with (
    first
    | (refine wpBuildP (by rfl) #[] (by rfl) #[] (by kernel_rfl) zC (build68z _) ?_)
    | (refine wpBoxV (by rfl) (.tmp 14) (by rfl) zC (by kernel_rfl) ?_
       intro V1 z e1 B1 K1
       have HZ : Hid (Sz V1 z) := ⟨B1⟩
       have HK := hide K1
       clear e1 B1 K1)
    | (refine wpBsP (by rfl) (.tmp 15) (by rfl) z (by kernel_rfl) ?_
       intro V2 g B2 K2
       have HG := hide B2
       replace HZ := hide ((unhide HZ).kept0 K2)
       replace HK := hide ((unhide HK).trans K2)
       clear B2 K2))
  go_loopw [2] (fun i wr => ∃ k : Nat, k ≤ 2 ∧ i = .int .i64 k ∧ Hid (Kept [] w wr) ∧ Hid (Kept [] V2 wr)) (fun i _ => 2 - (intOf i).toNat)
  case atStart => exact ⟨0, by omega, rfl, HK, Kept.refl _ _⟩
  case round =>
    clear HK
    obtain ⟨k, hk, rfl, HK, HJ⟩ := hrel
    replace HZ := hide ((unhide HZ).kept0 (unhide HJ))
    replace HG := hide ((unhide HG).kept (unhide HJ) (by simp))
    have HKR := hide (Kept.refl [] wr)
    by_cases hlt : k < 2
    · obtain ⟨p, hp, hN⟩ : ∃ p, wr.cell? ⟨g, k, none⟩ = some p ∧ Non wr p := by
        have h2 : k = 0 ∨ k = 1 := by omega
        rcases h2 with rfl | rfl
        · exact ⟨_, fits_cell (unhide HG) 0 _ rfl, .inl rfl⟩
        · exact ⟨_, fits_cell (unhide HG) 1 _ rfl, .inr ⟨z, rfl, unhide HZ⟩⟩
      have hcell := hp
      have HN := hide hN
      have HJ0 := HJ
      have hltI : (k : Int) < 2 := by omega
      clear hp hN HKR
      have HK0 := HK
      clear HK
      have HK := hide (Kept.refl [] wr)
      go_wp2_with (
        first
        | (refine wpBuildP (by rfl) #[(3, .const (.int .i64 1))] (by rfl) #[(3, .int .i64 1)] (by kernel_rfl) ((⟨0, 0, 0, 1, 0, []⟩ : Dg).C (.slice none 0 0)) (build35s _) ?_
           refine Stp.go ?_))
      constructor
      go_wp2_with (
        first
        | (go_at_call 20
           refine (come_z p _ _ _ (unhide HN)).mono ?_
           rintro e V1 ⟨rfl, hk⟩
           replace HN := hide ((unhide HN).kept hk)
           replace HK := hide ((unhide HK).trans hk)
           clear hk hcell
           refine Stp.go ?_))
      constructor
      go_wp2_with (
        first
        | (refine wpMkG 300 300 mk300 (by rfl) (by rfl) ?_
           intro V2 g2 B2 hk
           replace HN := hide ((unhide HN).kept hk)
           replace HK := hide ((unhide HK).trans hk)
           clear hk B2
           refine Stp.go ?_))
      constructor
      go_wp2_with (
        first
        | (go_at_call 12
           refine (send_z p _ _ (unhide HN)).mono ?_
           rintro e V3 ⟨rfl, q3, hq⟩
           have hkq : Kept [] V2 V3 := by rw [hq]; exact kept_drewN _ _ _
           replace HN := hide ((unhide HN).kept hkq)
           replace HK := hide ((unhide HK).trans hkq)
           clear hq hkq
           refine Stp.go ?_))
      constructor
      go_wp2_with (
        first
        | (go_at_call 14
           refine (fresh_z p _ (unhide HN)).mono ?_
           rintro e V4 ⟨rfl, q4, hq⟩
           have hkq : Kept [] V3 V4 := by rw [hq]; exact kept_drewN _ _ _
           replace HN := hide ((unhide HN).kept hkq)
           replace HK := hide ((unhide HK).trans hkq)
           clear hq hkq
           refine Stp.go ?_))
      constructor
      go_wp2_with (
        first
        | (go_at_call 18
           refine (again_z p _ (unhide HN)).mono ?_
           rintro e V5 ⟨rfl, q5, hq⟩
           have hkq : Kept [] V4 V5 := by rw [hq]; exact kept_drewN _ _ _
           replace HN := hide ((unhide HN).kept hkq)
           replace HK := hide ((unhide HK).trans hkq)
           clear hq hkq
           refine Stp.go ?_))
      constructor
      go_wp2_with (
        first
        | (go_at_call 22
           refine (waits_z p _ (unhide HN)).mono ?_
           rintro e V6 ⟨rfl, q6, hq⟩
           have hkq : Kept [] V5 V6 := by rw [hq]; exact kept_drewN _ _ _
           replace HN := hide ((unhide HN).kept hkq)
           replace HK := hide ((unhide HK).trans hkq)
           clear hq hkq
           refine Stp.go ?_))
      constructor
      go_wp2_with (
        first
        | (go_at_call 23
           refine (got_z p _ (unhide HN)).mono ?_
           rintro e V7 ⟨rfl, q7, hq⟩
           have hkq : Kept [] V6 V7 := by rw [hq]; exact kept_drewN _ _ _
           replace HN := hide ((unhide HN).kept hkq)
           replace HK := hide ((unhide HK).trans hkq)
           clear hq hkq
           refine Stp.go ?_))
      constructor
      go_wp2_with (
        first
        | (go_at_call 24
           refine (owes_z p _ (unhide HN)).mono ?_
           rintro e V8 ⟨rfl, q8, hq⟩
           have hkq : Kept [] V7 V8 := by rw [hq]; exact kept_drewN _ _ _
           replace HN := hide ((unhide HN).kept hkq)
           replace HK := hide ((unhide HK).trans hkq)
           clear hq hkq
           refine Stp.go ?_))
      constructor
      go_wp2_with (
        first
        | (go_at_call 27
           refine (copy_z p _ (unhide HN)).mono ?_
           rintro e V9 ⟨rfl, q9, hq⟩
           have hkq : Kept [] V8 V9 := by rw [hq]; exact kept_drewN _ _ _
           replace HN := hide ((unhide HN).kept hkq)
           replace HK := hide ((unhide HK).trans hkq)
           clear hq hkq))
      go_roundw
      case rel => exact ⟨k + 1, by omega, by go_num, hide ((unhide HK0).trans (unhide HK)), hide ((unhide HJ0).trans (unhide HK))⟩
      case measure => simp [intOf]; omega
    · clear HKR HJ
      go_wp2_with (
        first
        | (go_at_call 9
           refine (new_yes 0 1 1 _ (by decide)).mono ?_
           rintro e X1 ⟨a, rfl, e1, hs, hk⟩
           have HGE : Hid (w.heap.size ≤ a) := by have := (unhide HK).size; exact (by omega : w.heap.size ≤ a)
           have Ha := hide hs
           replace HZ := hide ((unhide HZ).kept0 hk)
           replace HG := hide ((unhide HG).kept hk (by simp))
           replace HK := hide ((unhide HK).trans hk)
           clear hs hk e1
           refine Stp.go ?_))
      constructor
      go_wp2_with (
        first
        | (go_at_call 9
           refine (new_yes 0 1 2 _ (by decide)).mono ?_
           rintro e X2 ⟨b, rfl, e1, hs, hk⟩
           have Hb := hide hs
           replace Ha := hide ((unhide Ha).kept0 hk)
           replace HZ := hide ((unhide HZ).kept0 hk)
           replace HG := hide ((unhide HG).kept hk (by simp))
           replace HK := hide ((unhide HK).trans hk)
           clear hs hk e1
           refine Stp.go ?_))
      constructor
      go_wp2_with (
        first
        | (go_at_call 9
           refine (new_yes 0 2 1 _ (by decide)).mono ?_
           rintro e X3 ⟨c, rfl, e1, hs, hk⟩
           have Hc := hide hs
           replace Ha := hide ((unhide Ha).kept0 hk)
           replace Hb := hide ((unhide Hb).kept0 hk)
           replace HZ := hide ((unhide HZ).kept0 hk)
           replace HG := hide ((unhide HG).kept hk (by simp))
           replace HK := hide ((unhide HK).trans hk)
           clear hs hk e1
           refine Stp.go ?_))
      constructor
      go_wp2_with (
        first
        | (go_at_call 9
           refine (new_yes 3 1 1 _ (by decide)).mono ?_
           rintro e X4 ⟨d, rfl, e1, hs, hk⟩
           have Hd := hide hs
           replace Ha := hide ((unhide Ha).kept0 hk)
           replace Hb := hide ((unhide Hb).kept0 hk)
           replace Hc := hide ((unhide Hc).kept0 hk)
           replace HZ := hide ((unhide HZ).kept0 hk)
           replace HG := hide ((unhide HG).kept hk (by simp))
           replace HK := hide ((unhide HK).trans hk)
           clear hs hk e1
           refine Stp.go ?_))
      constructor
      have hcz := fits_cell (unhide HG) 1 _ rfl
      go_wp2_with (
        first
        | (go_at_call 28
           refine (same_zz (.pointer none) (P0 z) _ (.inl rfl) (.inr ⟨z, rfl, unhide HZ⟩)).mono ?_
           rintro e X5 ⟨rfl, hk⟩
           replace Ha := hide ((unhide Ha).kept0 hk)
           replace Hb := hide ((unhide Hb).kept0 hk)
           replace Hc := hide ((unhide Hc).kept0 hk)
           replace Hd := hide ((unhide Hd).kept0 hk)
           replace HZ := hide ((unhide HZ).kept0 hk)
           replace HK := hide ((unhide HK).trans hk)
           clear hk hcz
           refine Stp.go ?_))
      constructor
      go_wp2_with (
        first
        | (go_at_call 28
           refine (same_xz a _ _ _ (.pointer none) _ (unhide Ha) (.inl rfl)).mono ?_
           rintro e X6 ⟨rfl, hk⟩
           replace Ha := hide ((unhide Ha).kept0 hk)
           replace Hb := hide ((unhide Hb).kept0 hk)
           replace Hc := hide ((unhide Hc).kept0 hk)
           replace Hd := hide ((unhide Hd).kept0 hk)
           replace HZ := hide ((unhide HZ).kept0 hk)
           replace HK := hide ((unhide HK).trans hk)
           clear hk
           refine Stp.go ?_))
      constructor
      go_wp2_with (
        first
        | (go_at_call 28
           refine (k_same a b _ _ _ _ _ _ false ks1 _ (unhide Ha) (unhide Hb)).mono ?_
           rintro e X7 ⟨rfl, hk⟩
           replace Ha := hide ((unhide Ha).kept0 hk)
           replace Hb := hide ((unhide Hb).kept0 hk)
           replace Hc := hide ((unhide Hc).kept0 hk)
           replace Hd := hide ((unhide Hd).kept0 hk)
           replace HZ := hide ((unhide HZ).kept0 hk)
           replace HK := hide ((unhide HK).trans hk)
           clear hk
           refine Stp.go ?_))
      constructor
      go_wp2_with (
        first
        | (go_at_call 28
           refine (k_same a c _ _ _ _ _ _ false ks2 _ (unhide Ha) (unhide Hc)).mono ?_
           rintro e X8 ⟨rfl, hk⟩
           replace Ha := hide ((unhide Ha).kept0 hk)
           replace Hb := hide ((unhide Hb).kept0 hk)
           replace Hc := hide ((unhide Hc).kept0 hk)
           replace Hd := hide ((unhide Hd).kept0 hk)
           replace HZ := hide ((unhide HZ).kept0 hk)
           replace HK := hide ((unhide HK).trans hk)
           clear hk
           refine Stp.go ?_))
      constructor
      go_wp2_with (
        first
        | (go_at_call 28
           refine (k_same a d _ _ _ _ _ _ false ks3 _ (unhide Ha) (unhide Hd)).mono ?_
           rintro e X9 ⟨rfl, hk⟩
           replace Ha := hide ((unhide Ha).kept0 hk)
           replace Hb := hide ((unhide Hb).kept0 hk)
           replace Hc := hide ((unhide Hc).kept0 hk)
           replace Hd := hide ((unhide Hd).kept0 hk)
           replace HZ := hide ((unhide HZ).kept0 hk)
           replace HK := hide ((unhide HK).trans hk)
           clear hk
           refine Stp.go ?_))
      constructor
      go_wp2_with (
        first
        | (refine wpMkG 257 257 mk257 (by rfl) (by rfl) ?_
           intro X10 g10 B10 hk
           replace Ha := hide ((unhide Ha).kept0 hk)
           replace HK := hide ((unhide HK).trans hk)
           clear hk B10
           refine Stp.go ?_))
      constructor
      go_wp2_with (
        first
        | (go_at_call 12
           refine (send_no a _ _ _ _ 257 257 _ (unhide Ha) (by decide)).mono ?_
           rintro e X11 ⟨rfl, q11, hq⟩
           have hkq : Kept [] X10 X11 := by rw [hq]; exact kept_drewN _ _ _
           replace Ha := hide ((unhide Ha).kept0 hkq)
           replace HK := hide ((unhide HK).trans hkq)
           clear hq hkq
           refine Stp.go ?_))
      constructor
      go_wp2_with (
        first
        | (refine wpMkG 256 256 mk256 (by rfl) (by rfl) ?_
           intro X12 g12 B12 hk
           have HB12 := hide B12
           replace Ha := hide ((unhide Ha).kept0 hk)
           replace HK := hide ((unhide HK).trans hk)
           clear hk B12
           refine Stp.go ?_))
      constructor
      go_wp2_with (
        first
        | (go_at_call 12
           refine (send_yes a _ _ _ (some ⟨g12, 0, none⟩) 256 256 (List.replicate 256 0) _ (unhide Ha) ⟨by rw [u8s_len, List.length_replicate], Nat.le_refl _, fun _ => ⟨g12, 0, rfl, (unhide HB12).range⟩⟩ (fun e => by cases e) (fun x hx => by rw [List.eq_of_mem_replicate hx]; decide) (by decide) (by decide)).mono ?_
           rintro e X13 ⟨rfl, va, ua, hR, _⟩
           replace HK : Hid (Kept [] w X13) := (unhide HK).fresh hR.kept (fun i hi hl => by have := unhide HGE; simp [Value.ownBlock] at hi; omega)
           clear hR HB12
           refine Stp.go ?_))
      constructor
      go_wp2_with (
        first
        | (go_at_call 11
           refine (known11 _).mono ?_
           rintro e X14 ⟨rfl, hk⟩
           replace HK := hide ((unhide HK).trans hk)
           clear hk))
      go_ret
      exact ⟨rfl, unhide HK⟩

end Go.Proofs.Ythbgnpbkdeofcaa
