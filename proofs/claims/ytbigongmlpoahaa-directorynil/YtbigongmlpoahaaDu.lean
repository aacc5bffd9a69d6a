/-
  Pages and Held of none.
-/
import Derived.Test.YtbigongmlpoahaaDr
import Derived.Test.YtbigongmlpoahaaDp
namespace Go.Proofs.Ytbigongmlpoahaa.D
set_option maxRecDepth 100000
set_option linter.unusedSimpArgs false
open Go.RowKit Go.Shelf
attribute [local go_sem] Oper.semAt_some

variable {w W V : World} {v : Value} {g c1 c2 : Nat} {cs : Array Value} {m : Int} {p : Option Addr}
set_option maxHeartbeats 2000000 in
theorem asItIs55_z (h : Nil w v) : Calls Try.prog 55 #[v, fnV g cs] w fun e W => ∃ c1 c2, e = .returned (fnV 88 #[P0 c1, P0 c2]) ∧ Blk W c1 42 [.pointer none] ∧ Kept [] w W := by
  obtain ⟨p, rfl⟩ := h.ptr
  have H := hide h
  clear h
  go_enter Try.func55, Try.ntmps55
  go_wp2_with (
    first
    | (refine wpBoxF rfl (.tmp 1) rfl g cs rfl ?_
       intro W1 c2 e1 B1 K1
       have HK := hide K1
       clear e1 B1 K1
       refine Stp.go ?_))
  constructor
  go_wp2_with (
    first
    | (go_at_call 13
       refine (copy13_z ((unhide H).step (unhide HK))).mono ?_
       rintro e W2 ⟨rfl, g5⟩
       replace HK := hide ((unhide HK).trans g5)
       clear g5
       refine Stp.go ?_))
  constructor
  go_wp2_with (
    first
    | (refine wpAllocW ([Value.pointer none]) zero42 5 rfl rfl rfl ?_
       intro W3 c1 e1 B1 K1
       have HC1 := hide B1
       have HG : Hid (w.heap.size ≤ c1) := by have h9 := (unhide HK).size; show _ ≤ _; omega
       replace HK := hide ((unhide HK).trans K1)
       clear e1 B1 K1
       refine Stp.go ?_))
  constructor
  go_wp2_with (
    first
    | (refine wpStF size42 rfl (.tmp 5) (.tmp 7) rfl rfl c1 0 (.pointer none) ⟨rfl, rfl⟩ rfl rfl (unhide HC1) (by decide) ?_
       intro W5 B5 K5
       replace HC1 : Hid (Blk W5 c1 42 [.pointer none]) := B5
       replace HK := hide ((unhide HK).fresh K5 (fun i hi hl => by simp at hi; have := unhide HG; omega))
       clear B5 K5
       refine Stp.go ?_))
  constructor
  go_wp2_with fail
  go_ret
  exact ⟨c1, c2, rfl, unhide HC1, unhide HK⟩
set_option maxHeartbeats 2000000 in
theorem asItIs57_z (h : Nil w v) : Calls Try.prog 57 #[v, fnV g cs] w fun e W => ∃ c1 c2, e = .returned (fnV 89 #[P0 c1, P0 c2]) ∧ Blk W c1 42 [.pointer none] ∧ Kept [] w W := by
  obtain ⟨p, rfl⟩ := h.ptr
  have H := hide h
  clear h
  go_enter Try.func57, Try.ntmps57
  go_wp2_with (
    first
    | (refine wpBoxF rfl (.tmp 1) rfl g cs rfl ?_
       intro W1 c2 e1 B1 K1
       have HK := hide K1
       clear e1 B1 K1
       refine Stp.go ?_))
  constructor
  go_wp2_with (
    first
    | (go_at_call 13
       refine (copy13_z ((unhide H).step (unhide HK))).mono ?_
       rintro e W2 ⟨rfl, g5⟩
       replace HK := hide ((unhide HK).trans g5)
       clear g5
       refine Stp.go ?_))
  constructor
  go_wp2_with (
    first
    | (refine wpAllocW ([Value.pointer none]) zero42 5 rfl rfl rfl ?_
       intro W3 c1 e1 B1 K1
       have HC1 := hide B1
       have HG : Hid (w.heap.size ≤ c1) := by have h9 := (unhide HK).size; show _ ≤ _; omega
       replace HK := hide ((unhide HK).trans K1)
       clear e1 B1 K1
       refine Stp.go ?_))
  constructor
  go_wp2_with (
    first
    | (refine wpStF size42 rfl (.tmp 5) (.tmp 7) rfl rfl c1 0 (.pointer none) ⟨rfl, rfl⟩ rfl rfl (unhide HC1) (by decide) ?_
       intro W5 B5 K5
       replace HC1 : Hid (Blk W5 c1 42 [.pointer none]) := B5
       replace HK := hide ((unhide HK).fresh K5 (fun i hi hl => by simp at hi; have := unhide HG; omega))
       clear B5 K5
       refine Stp.go ?_))
  constructor
  go_wp2_with fail
  go_ret
  exact ⟨c1, c2, rfl, unhide HC1, unhide HK⟩
set_option maxHeartbeats 2000000 in
theorem pages22_z (h : Nil w v) : Calls Try.prog 22 #[v] w fun e W => ∃ c1 c2, e = .returned (fnV 88 #[P0 c1, P0 c2]) ∧ Blk W c1 42 [.pointer none] ∧ Kept [] w W := by
  have H := hide h
  clear h
  go_enter Try.func22, Try.ntmps22
  go_wp2_with (
    first
    | (go_at_call 55
       refine (asItIs55_z (g := 56) (cs := #[]) (unhide H)).mono ?_
       rintro e W2 ⟨c1, c2, rfl, g1, g2⟩
       have HR := hide g1
       have HK := hide g2
       clear g1 g2
       refine Stp.go ?_))
  constructor
  go_wp2_with fail
  go_ret
  exact ⟨c1, c2, rfl, unhide HR, unhide HK⟩
set_option maxHeartbeats 2000000 in
theorem held23_z (h : Nil w v) (m : Int) : Calls Try.prog 23 #[v, .int .i64 m] w fun e W => ∃ c1 c2, e = .returned (fnV 89 #[P0 c1, P0 c2]) ∧ Blk W c1 42 [.pointer none] ∧ Kept [] w W := by
  have H := hide h
  clear h
  go_enter Try.func23, Try.ntmps23
  go_wp2_with (
    first
    | (refine wpBox1 rfl (.tmp 1) rfl m rfl ?_
       intro W1 cn e1 B1 K1
       have HK := hide K1
       clear e1 B1 K1
       refine Stp.go ?_))
  constructor
  go_wp2_with (
    first
    | (go_at_call 57
       refine (asItIs57_z (g := 58) (cs := #[P0 cn]) ((unhide H).step (unhide HK))).mono ?_
       rintro e W2 ⟨c1, c2, rfl, g1, g2⟩
       have HR := hide g1
       replace HK := hide ((unhide HK).trans g2)
       clear g1 g2
       refine Stp.go ?_))
  constructor
  go_wp2_with fail
  go_ret
  exact ⟨c1, c2, rfl, unhide HR, unhide HK⟩
set_option maxHeartbeats 4000000 in
theorem as88_z (l : Nat) (h1 : Blk V c1 42 [.pointer none]) : CallsIn Fence.wide 3 Try.prog 88 (#[.func (.yield l) #[] #[]] ++ #[P0 c1, P0 c2]) V fun e W' => (∃ v, e = .returned v) ∧ Kept [] V W' := by
  have hFw := wideF
  have HC1 := hide h1
  have k0 := fits_cell h1 0 _ rfl
  clear h1
  show CallsIn Fence.wide 3 Try.prog 88 #[.func (.yield l) #[] #[], P0 c1, P0 c2] V _
  refine callsIn_of_wp_marks Try.func88 rfl trivial ?_ rfl
  refine wpIn_wide.2 ?_
  simp only [Try.ntmps88, List.size_toArray, List.length_cons, List.length_nil, Nat.reduceAdd, Nat.reduceSub, Array.replicate_succ, Array.replicate_zero, List.push_toArray, List.append_toArray, List.nil_append, List.cons_append]
  go_wp2_with (
    first
    | (refine wpBoxY rfl (.tmp 0) rfl l rfl ?_
       intro W1 b4 e1 B1 K1
       have HK := hide K1
       have k1 := K1.cell k0 (by simp)
       clear e1 B1 K1 k0
       refine Stp.go ?_))
  constructor
  go_wp2_with (
    first
    | (go_at_call 38
       refine (rising38 none _).mono ?_
       rintro e W3 ⟨c3, rfl, hb3, hg3, K3⟩
       have HC3 := hide hb3
       replace HK := hide ((unhide HK).trans K3)
       clear hb3 hg3 K3 k1
       refine Stp.go ?_))
  constructor
  go_wp2_with fail
  refine (wpIn_wide (n := 3)).1 ?_
  refine wp_rangeE 2 73 #[P0 c3] rfl ent73 (fun lp U hk => rising73_z lp ((unhide HC3).kept hk (by simp)) (.inl rfl)) ?_
  intro D W4 hD hk hW
  have HW := hide hW
  have HGD : Hid (V.heap.size ≤ D) := Nat.le_trans (unhide HK).size hD
  replace HK := hide ((unhide HK).trans hk)
  clear hW hD hk
  go_wp2_with fail
  refine (show LeavesInM Fence.wide 3 Try.prog Try.f88 _ _ [{ target := .collected D, args := #[] }] .returning W4 from ?_)
  refine ⟨by simp, .inl ⟨_, _, rfl, run_takeDeferred (unhide HW), ?_⟩⟩
  refine ⟨_, results_none rfl _ _ _, ⟨_, rfl⟩, ?_⟩
  exact (unhide HK).fresh (Kept.put1 (l := D)) (by intro i hi hl; simp at hi; have := unhide HGD; omega)
set_option maxHeartbeats 4000000 in
theorem as89_z (l : Nat) (h1 : Blk V c1 42 [.pointer none]) : CallsIn Fence.wide 3 Try.prog 89 (#[.func (.yield l) #[] #[]] ++ #[P0 c1, P0 c2]) V fun e W' => (∃ v, e = .returned v) ∧ Kept [] V W' := by
  have hFw := wideF
  have HC1 := hide h1
  have k0 := fits_cell h1 0 _ rfl
  clear h1
  show CallsIn Fence.wide 3 Try.prog 89 #[.func (.yield l) #[] #[], P0 c1, P0 c2] V _
  refine callsIn_of_wp_marks Try.func89 rfl trivial ?_ rfl
  refine wpIn_wide.2 ?_
  simp only [Try.ntmps89, List.size_toArray, List.length_cons, List.length_nil, Nat.reduceAdd, Nat.reduceSub, Array.replicate_succ, Array.replicate_zero, List.push_toArray, List.append_toArray, List.nil_append, List.cons_append]
  go_wp2_with (
    first
    | (refine wpBoxY rfl (.tmp 0) rfl l rfl ?_
       intro W1 b4 e1 B1 K1
       have HK := hide K1
       have k1 := K1.cell k0 (by simp)
       clear e1 B1 K1 k0
       refine Stp.go ?_))
  constructor
  go_wp2_with (
    first
    | (go_at_call 38
       refine (rising38 none _).mono ?_
       rintro e W3 ⟨c3, rfl, hb3, hg3, K3⟩
       have HC3 := hide hb3
       replace HK := hide ((unhide HK).trans K3)
       clear hb3 hg3 K3 k1
       refine Stp.go ?_))
  constructor
  go_wp2_with fail
  refine (wpIn_wide (n := 3)).1 ?_
  refine wp_rangeE 2 73 #[P0 c3] rfl ent73 (fun lp U hk => rising73_z lp ((unhide HC3).kept hk (by simp)) (.inl rfl)) ?_
  intro D W4 hD hk hW
  have HW := hide hW
  have HGD : Hid (V.heap.size ≤ D) := Nat.le_trans (unhide HK).size hD
  replace HK := hide ((unhide HK).trans hk)
  clear hW hD hk
  go_wp2_with fail
  refine (show LeavesInM Fence.wide 3 Try.prog Try.f89 _ _ [{ target := .collected D, args := #[] }] .returning W4 from ?_)
  refine ⟨by simp, .inl ⟨_, _, rfl, run_takeDeferred (unhide HW), ?_⟩⟩
  refine ⟨_, results_none rfl _ _ _, ⟨_, rfl⟩, ?_⟩
  exact (unhide HK).fresh (Kept.put1 (l := D)) (by intro i hi hl; simp at hi; have := unhide HGD; omega)

end Go.Proofs.Ytbigongmlpoahaa.D
