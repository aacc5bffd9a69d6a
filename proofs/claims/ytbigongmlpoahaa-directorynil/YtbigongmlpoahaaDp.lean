/-
  Copy and Same of none.
-/
import Derived.Test.YtbigongmlpoahaaDo
namespace Go.Proofs.Ytbigongmlpoahaa.D
set_option maxRecDepth 100000
set_option linter.unusedSimpArgs false
open Go.RowKit Go.Shelf
attribute [local go_sem] Oper.semAt_some

variable {A : Nat} {w W V : World} {b mb c : Nat} {L : List Lk} {v u : Value}
theorem res14 (w : World) (b : Nat) (v : Bool) (tmps : Array Value) (h2 : tmps[4]?.getD undef = P0 b) (hb : Blk w b 4 [.bool v]) : (results Try.f14 tmps).run Try.prog w = .ok (.bool v) w := by
  have hc := fits_cell hb 0 _ rfl
  simp [results, Try.results14, h2, asAddr, go_sem, hc]
set_option maxHeartbeats 2000000 in
theorem copy13_z (h : Nil w v) : Calls Try.prog 13 #[v] w fun e W => e = .returned (.pointer none) ∧ Kept [] w W := by
  obtain ⟨p, rfl⟩ := h.ptr
  have H := hide h
  have hFw := wideF
  clear h
  refine (callsIn_wide (n := 3)).1 ?_
  refine callsIn_of_wp_marks Try.func13 rfl trivial ?_ rfl
  refine wpIn_wide.2 ?_
  simp only [Try.ntmps13, List.size_toArray, List.length_cons, List.length_nil, Nat.reduceAdd, Nat.reduceSub, Array.replicate_succ, Array.replicate_zero, List.push_toArray, List.append_toArray, List.nil_append, List.cons_append]
  go_wp2_with (
    first
    | (go_at_call 35
       refine (none35_z (unhide H)).mono ?_
       rintro e W9 ⟨rfl, q9⟩
       replace q9 := q9.symm
       subst q9
       refine Stp.go ?_))
  constructor
  go_wp2_with fail
  exact ⟨_, results_tmp rfl _ _ _, rfl, Kept.refl _ _⟩
set_option maxHeartbeats 2000000 in
theorem same14_zz (h : Nil w v) (k : Nil w u) : Calls Try.prog 14 #[v, u] w fun e W => e = .returned (.bool true) ∧ Kept [] w W := by
  obtain ⟨p, rfl⟩ := h.ptr
  have H := hide h
  obtain ⟨q, rfl⟩ := k.ptr
  have HB := hide k
  clear h k
  have hFw := wideF
  refine (callsIn_wide (n := 3)).1 ?_
  refine callsIn_of_wp_marks Try.func14 rfl trivial ?_ rfl
  refine wpIn_wide.2 ?_
  simp only [Try.ntmps14, List.size_toArray, List.length_cons, List.length_nil, Nat.reduceAdd, Nat.reduceSub, Array.replicate_succ, Array.replicate_zero, List.push_toArray, List.append_toArray, List.nil_append, List.cons_append]
  go_wp2_with (
    first
    | (refine wpBoxQ rfl (.tmp 1) rfl q rfl ?_
       intro W1 c e1 B1 K1
       have HC := hide B1
       have HK := hide K1
       have c3 := fits_cell B1 0 _ rfl
       clear e1 B1 K1
       refine Stp.go ?_))
  constructor
  go_wp2_with (
    first
    | (refine wpAllocW ([Value.bool false]) zero4d 4 rfl rfl rfl ?_
       intro W2 z e1 B1 K1
       have HZ := hide B1
       replace c3 := K1.cell c3 (by simp)
       have HG : Hid (w.heap.size ≤ z) := by have h9 := (unhide HK).size; show _ ≤ _; omega
       replace HK := hide ((unhide HK).trans K1)
       clear e1 B1 K1
       refine Stp.go ?_))
  constructor
  go_wp2_with (
    first
    | (go_at_call 35
       refine (none35_z ((unhide H).step (unhide HK))).mono ?_
       rintro e W9 ⟨rfl, q9⟩
       replace q9 := q9.symm
       subst q9
       refine Stp.go ?_))
  constructor
  go_wp2_with (
    first
    | (go_at_call 35
       refine (none35_z ((unhide H).step (unhide HK))).mono ?_
       rintro e W9 ⟨rfl, q9⟩
       replace q9 := q9.symm
       subst q9
       refine Stp.go ?_))
  constructor
  go_wp2_with (
    first
    | (go_at_call 35
       refine (none35_z ((unhide HB).step (unhide HK))).mono ?_
       rintro e W9 ⟨rfl, q9⟩
       replace q9 := q9.symm
       subst q9
       refine Stp.go ?_))
  constructor
  go_wp2_with (
    first
    | (refine wpStF size4d rfl (.tmp 4) (.tmp 18) rfl rfl z 0 (.bool true) ⟨rfl, rfl⟩ rfl rfl (unhide HZ) (by decide) ?_
       intro W5 B5 K5
       replace HZ := hide B5
       replace HK := hide ((unhide HK).fresh K5 (fun i hi hl => by simp at hi; have := unhide HG; omega))
       clear B5 K5
       refine Stp.go ?_))
  constructor
  go_wp2_with fail
  exact ⟨_, res14 _ z _ _ rfl (unhide HZ), rfl, unhide HK⟩
set_option maxHeartbeats 2000000 in
theorem same14_zp (h : Nil w v) (k : Dg A w b mb L) : Calls Try.prog 14 #[v, P0 b] w fun e W => e = .returned (.bool false) ∧ Kept [] w W := by
  obtain ⟨p, rfl⟩ := h.ptr
  have H := hide h
  have HB := hide k
  clear h k
  have hFw := wideF
  refine (callsIn_wide (n := 3)).1 ?_
  refine callsIn_of_wp_marks Try.func14 rfl trivial ?_ rfl
  refine wpIn_wide.2 ?_
  simp only [Try.ntmps14, List.size_toArray, List.length_cons, List.length_nil, Nat.reduceAdd, Nat.reduceSub, Array.replicate_succ, Array.replicate_zero, List.push_toArray, List.append_toArray, List.nil_append, List.cons_append]
  go_wp2_with (
    first
    | (refine wpBoxQ rfl (.tmp 1) rfl (some ⟨b, 0, none⟩) rfl ?_
       intro W1 c e1 B1 K1
       have HC := hide B1
       have HK := hide K1
       have c3 := fits_cell B1 0 _ rfl
       clear e1 B1 K1
       refine Stp.go ?_))
  constructor
  go_wp2_with (
    first
    | (refine wpAllocW ([Value.bool false]) zero4d 4 rfl rfl rfl ?_
       intro W2 z e1 B1 K1
       have HZ := hide B1
       replace c3 := K1.cell c3 (by simp)
       have HG : Hid (w.heap.size ≤ z) := by have h9 := (unhide HK).size; show _ ≤ _; omega
       replace HK := hide ((unhide HK).trans K1)
       clear e1 B1 K1
       refine Stp.go ?_))
  constructor
  go_wp2_with (
    first
    | (go_at_call 35
       refine (none35_z ((unhide H).step (unhide HK))).mono ?_
       rintro e W9 ⟨rfl, q9⟩
       replace q9 := q9.symm
       subst q9
       refine Stp.go ?_))
  constructor
  go_wp2_with (
    first
    | (go_at_call 35
       refine (none35_z ((unhide H).step (unhide HK))).mono ?_
       rintro e W9 ⟨rfl, q9⟩
       replace q9 := q9.symm
       subst q9
       refine Stp.go ?_))
  constructor
  go_wp2_with (
    first
    | (go_at_call 35
       refine (none35 ((unhide HB).step0 (unhide HK))).mono ?_
       rintro e W9 ⟨rfl, q9⟩
       replace q9 := q9.symm
       subst q9
       refine Stp.go ?_))
  constructor
  go_wp2_with (
    first
    | (refine wpStF size4d rfl (.tmp 4) (.tmp 18) rfl rfl z 0 (.bool false) ⟨rfl, rfl⟩ rfl rfl (unhide HZ) (by decide) ?_
       intro W5 B5 K5
       replace HZ := hide B5
       replace HK := hide ((unhide HK).fresh K5 (fun i hi hl => by simp at hi; have := unhide HG; omega))
       clear B5 K5
       refine Stp.go ?_))
  constructor
  go_wp2_with fail
  exact ⟨_, res14 _ z _ _ rfl (unhide HZ), rfl, unhide HK⟩
set_option maxHeartbeats 2000000 in
theorem same14_pz (h : Dg A w b mb L) (k : Nil w u) : Calls Try.prog 14 #[P0 b, u] w fun e W => e = .returned (.bool false) ∧ Kept [] w W := by
  have H := hide h
  obtain ⟨q, rfl⟩ := k.ptr
  have HB := hide k
  clear h k
  have hFw := wideF
  refine (callsIn_wide (n := 3)).1 ?_
  refine callsIn_of_wp_marks Try.func14 rfl trivial ?_ rfl
  refine wpIn_wide.2 ?_
  simp only [Try.ntmps14, List.size_toArray, List.length_cons, List.length_nil, Nat.reduceAdd, Nat.reduceSub, Array.replicate_succ, Array.replicate_zero, List.push_toArray, List.append_toArray, List.nil_append, List.cons_append]
  go_wp2_with (
    first
    | (refine wpBoxQ rfl (.tmp 1) rfl q rfl ?_
       intro W1 c e1 B1 K1
       have HC := hide B1
       have HK := hide K1
       have c3 := fits_cell B1 0 _ rfl
       clear e1 B1 K1
       refine Stp.go ?_))
  constructor
  go_wp2_with (
    first
    | (refine wpAllocW ([Value.bool false]) zero4d 4 rfl rfl rfl ?_
       intro W2 z e1 B1 K1
       have HZ := hide B1
       replace c3 := K1.cell c3 (by simp)
       have HG : Hid (w.heap.size ≤ z) := by have h9 := (unhide HK).size; show _ ≤ _; omega
       replace HK := hide ((unhide HK).trans K1)
       clear e1 B1 K1
       refine Stp.go ?_))
  constructor
  go_wp2_with (
    first
    | (go_at_call 35
       refine (none35 ((unhide H).step0 (unhide HK))).mono ?_
       rintro e W9 ⟨rfl, q9⟩
       replace q9 := q9.symm
       subst q9
       refine Stp.go ?_))
  constructor
  go_wp2_with (
    first
    | (go_at_call 35
       refine (none35_z ((unhide HB).step (unhide HK))).mono ?_
       rintro e W9 ⟨rfl, q9⟩
       replace q9 := q9.symm
       subst q9
       refine Stp.go ?_))
  constructor
  go_wp2_with (
    first
    | (go_at_call 35
       refine (none35 ((unhide H).step0 (unhide HK))).mono ?_
       rintro e W9 ⟨rfl, q9⟩
       replace q9 := q9.symm
       subst q9
       refine Stp.go ?_))
  constructor
  go_wp2_with (
    first
    | (refine wpStF size4d rfl (.tmp 4) (.tmp 18) rfl rfl z 0 (.bool false) ⟨rfl, rfl⟩ rfl rfl (unhide HZ) (by decide) ?_
       intro W5 B5 K5
       replace HZ := hide B5
       replace HK := hide ((unhide HK).fresh K5 (fun i hi hl => by simp at hi; have := unhide HG; omega))
       clear B5 K5
       refine Stp.go ?_))
  constructor
  go_wp2_with fail
  exact ⟨_, res14 _ z _ _ rfl (unhide HZ), rfl, unhide HK⟩

end Go.Proofs.Ytbigongmlpoahaa.D
