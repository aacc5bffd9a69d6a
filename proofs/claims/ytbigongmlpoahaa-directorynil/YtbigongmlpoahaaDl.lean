/-
  rising of none; Idle.
-/
import Derived.Test.YtbigongmlpoahaaDk
import Derived.Deep.CutBlock
namespace Go.Proofs.Ytbigongmlpoahaa.D
set_option maxRecDepth 100000
set_option linter.unusedSimpArgs false
open Go.RowKit Go.Shelf
attribute [local go_sem] Oper.semAt_some

variable {w W V : World} {A b mb c : Nat} {L : List Lk} {v : Value} {p : Option Addr}
set_option maxHeartbeats 2000000 in
theorem rising73_z (l : Nat) (hc : Blk V c 42 [.pointer p]) (hn : Nil V (.pointer p)) : CallsIn Fence.wide 2 Try.prog 73 (#[.func (.yield l) #[] #[]] ++ #[P0 c]) V fun e W' => (∃ v, e = .returned v) ∧ Kept [] V W' := by
  have HN := hide hn
  have c1 := fits_cell hc 0 _ rfl
  clear hc hn
  rw [callsIn_wide]
  show Calls Try.prog 73 #[.func (.yield l) #[] #[], P0 c] V _
  go_enter Try.func73, Try.ntmps73
  go_wp2_with (
    first
    | (go_at_call 35
       refine (none35_z (unhide HN)).mono ?_
       rintro e W9 ⟨rfl, q9⟩
       replace q9 := q9.symm
       subst q9
       refine Stp.go ?_))
  constructor
  go_wp2_with fail
  exact bodyPost_ret (results_none rfl _ _ _) rfl ⟨⟨_, rfl⟩, Kept.refl _ _⟩
theorem res21 (w : World) (b : Nat) (v : Bool) (tmps : Array Value) (h2 : tmps[2]?.getD undef = P0 b) (hb : Blk w b 4 [.bool v]) : (results Try.f21 tmps).run Try.prog w = .ok (.bool v) w := by
  have hc := fits_cell hb 0 _ rfl
  simp [results, Try.results21, h2, asAddr, go_sem, hc]
/-- How Idle leaves: the mark is taken. -/
theorem idle_leaves {D z : Nat} {bv : Bool} {tmps : Array Value} (h2 : tmps[2]?.getD undef = P0 z) (hz : Blk W z 4 [.bool bv]) (hk : Kept [] w W) (h1 : W.heap[D]? = some (.deferred (some []))) (g1 : w.heap.size ≤ D) :
    LeavesInM Fence.wide 3 Try.prog Try.f21 tmps (fun e w' => e = .returned (.bool bv) ∧ Kept [] w w') [{ target := .collected D, args := #[] }] .returning W := by
  have n1 : z ≠ D := by intro e; have := hz; subst e; unfold Blk at this; rw [this] at h1; cases h1
  have k1 : Kept [D] W (W.putObj D (.deferred none)) := Kept.put1
  refine ⟨by simp, .inl ⟨_, _, rfl, run_takeDeferred h1, ?_⟩⟩
  exact ⟨_, res21 _ _ _ _ h2 (hz.kept k1 (by simpa using n1)), rfl, hk.fresh k1 (fun i hi hl => by simp at hi; omega)⟩
theorem zero4d (w : World) : (Instr.alloc 4 true (.tuple #[])).run Try.prog w = .ok (P0 w.heap.size) (w.alloc (.cells [Value.bool false].toArray 4)) := by kernel_rfl
theorem size4d : (Try.prog.info? 4).map (·.size) = some 1 := by kernel_rfl
theorem st1d {T : Nat} (hs : (Try.prog.info? T).map (·.size) = some 1) {v : Value} (h1 : One v) : ∀ (w : World) (b : Nat) (u : Value), Blk w b T [u] → (storeVar T ⟨b, 0, none⟩ v).run Try.prog w = .ok () (w.setCell ⟨b, 0, none⟩ v) := fun _ _ _ h => storeVar1 hs h (by simp) v h1.1 h1.2
set_option maxHeartbeats 4000000 in
theorem idle21_z (h : Nil w v) : Calls Try.prog 21 #[v] w fun e W => e = .returned (.bool true) ∧ Kept [] w W := by
  obtain ⟨pz, rfl⟩ := h.ptr
  have H := hide h
  have hFw := wideF
  clear h
  refine (callsIn_wide (n := 3)).1 ?_
  refine callsIn_of_wp_marks Try.func21 rfl trivial ?_ rfl
  refine wpIn_wide.2 ?_
  simp only [Try.ntmps21, List.size_toArray, List.length_cons, List.length_nil, Nat.reduceAdd, Nat.reduceSub, Array.replicate_succ, Array.replicate_zero, List.push_toArray, List.append_toArray, List.nil_append, List.cons_append]
  go_wp2_with (
    first
    | (refine wpAllocW ([Value.bool false]) zero4d 2 rfl rfl rfl ?_
       intro W1 z e1 B1 K1
       have HZ := hide B1
       have HK := hide K1
       have HG : Hid (w.heap.size ≤ z) := by show _ ≤ _; omega
       clear e1 B1 K1
       refine Stp.go ?_))
  constructor
  go_wp2_with (
    first
    | (go_at_call 38
       refine (rising38 pz _).mono ?_
       rintro e W2 ⟨c, rfl, hc, hg, K2⟩
       have HC := hide hc
       have HGC : Hid (z < c) := by have := (unhide HZ).lt; show _ < _; omega
       replace HZ := hide ((unhide HZ).kept K2 (by simp))
       replace HK := hide ((unhide HK).trans K2)
       clear hc hg K2
       refine Stp.go ?_))
  constructor
  go_wp2_with fail
  refine (wpIn_wide (n := 3)).1 ?_
  refine wp_rangeE 2 73 #[P0 c] rfl ent73 (fun lp V hk => rising73_z lp ((unhide HC).kept hk (by simp)) (((unhide H).step (unhide HK)).step hk)) ?_
  intro D W3 hD hk hW
  have HW := hide hW
  have HGD := hide hD
  replace HZ := hide ((unhide HZ).kept hk (by simp))
  replace HK := hide ((unhide HK).trans hk)
  have HS : Hid (W2.heap.size ≤ D) := hD
  clear hW hD hk
  go_upto_region 5 with fail
  refine (wpIn_wide (n := 3)).1 ?_
  gi_wp2_with (
    first
    | (refine inStore1 (.bool false) (.bool true) (st1d size4d ⟨rfl, rfl⟩) wideF (by rfl) (.tmp 2) (.const (.bool true)) (by rfl) (by rfl) (by rfl) z (by rfl) (by rfl) (unhide HZ) ?_
       intro W7 B7 e7
       have HB7 := hide B7
       have HK7 : Hid (Kept [z] W3 W7) := by rw [e7]; exact (Kept.refl _ _).setCell (p := ⟨z, 0, none⟩) (by simp) _
       clear B7 e7)
    | fail)
  have hk7 := unhide HK7
  have hne : D ≠ z := by intro e; have h1 := unhide HW; have h2 := unhide HZ; unfold Blk at h2; rw [e, h2] at h1; cases h1
  go_wp2_with fail
  exact idle_leaves rfl (unhide HB7) ((unhide HK).fresh hk7 (fun i hi hl => by simp at hi; have := unhide HG; omega)) (hk7.heap (unhide HW) (by simpa using hne)) (by have := unhide HS; have := unhide HGC; have := unhide HG; have := (unhide HC).lt; omega)

/-- Nothing is in hand of any page. -/
def idleD (L : List Lk) : Bool := (rise L).all fun y => !y.s.busy
theorem Dg.lts (h : Dg A w b mb L) : b < w.heap.size ∧ mb < w.heap.size ∧ ∀ x ∈ L, x.p < w.heap.size ∧ ∀ i, x.ln.ownBlock = some i → i < w.heap.size :=
  ⟨h.blk.lt, h.map.lt, fun x hx => ⟨(h.lk x hx).blk.lt, fun _ hi => (h.lk x hx).row.lt hi⟩⟩
theorem Dg.fresh {X : List Nat} {B : Nat} (h : Dg A w b mb L) (hl : b < B ∧ mb < B ∧ ∀ x ∈ L, x.p < B ∧ ∀ i, x.ln.ownBlock = some i → i < B) (hk : Kept X w W) (hX : ∀ i ∈ X, B ≤ i) : Dg A W b mb L :=
  h.step hk (fun e => by have := hX _ e; omega) (fun e => by have := hX _ e; omega) (fun x hx => ⟨fun e => by have := hX _ e; have := (hl.2.2 x hx).1; omega, fun i hi e => by have := hX _ e; have := (hl.2.2 x hx).2 i hi; omega⟩)
theorem rise_mem {y : Lk} (h : y ∈ rise L) : y ∈ L := by
  unfold rise riseTo at h
  obtain ⟨_, _, hi⟩ := List.mem_filterMap.1 h
  exact (lkOf_some hi).1
/-- What stays while Idle goes over the locks. -/
structure Id (w W : World) (A b mb z : Nat) (L : List Lk) : Prop where
  dg : Dg A W b mb L
  z : Blk W z 4 [.bool false]
  k : Kept [] w W
def idFr (t : Array Value) (y : Lk) : Act := { tmps := ((t.setIfInBounds 7 (.int .i64 y.k)).setIfInBounds 8 (P0 y.p)).setIfInBounds 4 (P0 y.p), defers := [] }
set_option maxHeartbeats 8000000 in
theorem idle21 (h : Dg A w b mb L) : Calls Try.prog 21 #[P0 b] w fun e W => e = .returned (.bool (idleD L)) ∧ Kept [] w W := by
  have H := hide h
  have hFw := wideF
  clear h
  refine (callsIn_wide (n := 3)).1 ?_
  refine callsIn_of_wp_marks Try.func21 rfl trivial ?_ rfl
  refine wpIn_wide.2 ?_
  simp only [Try.ntmps21, List.size_toArray, List.length_cons, List.length_nil, Nat.reduceAdd, Nat.reduceSub, Array.replicate_succ, Array.replicate_zero, List.push_toArray, List.append_toArray, List.nil_append, List.cons_append]
  go_wp2_with (
    first
    | (refine wpAllocW ([Value.bool false]) zero4d 2 rfl rfl rfl ?_
       intro W1 z e1 B1 K1
       have HZ := hide B1
       have HK := hide K1
       have HG : Hid (w.heap.size ≤ z) := by show _ ≤ _; omega
       clear e1 B1 K1
       refine Stp.go ?_))
  constructor
  go_wp2_with (
    first
    | (go_at_call 38
       refine (rising38 (some ⟨b, 0, none⟩) _).mono ?_
       rintro e W2 ⟨c, rfl, hc, hg, K2⟩
       have HC := hide hc
       have HGC : Hid (z < c) := by have := (unhide HZ).lt; show _ < _; omega
       replace HZ := hide ((unhide HZ).kept K2 (by simp))
       replace HK := hide ((unhide HK).trans K2)
       clear hc hg K2
       refine Stp.go ?_))
  constructor
  go_wp2_with fail
  refine (wpIn_wide (n := 3)).1 ?_
  have HI : Hid (Id w W2 A b mb z L) := ⟨(unhide H).step0 (unhide HK), unhide HZ, unhide HK⟩
  have HLT := hide (unhide HI).dg.lts
  have HZL : Hid (z < W2.heap.size) := (unhide HZ).lt
  have hbz : b ≠ z := by have h1 := (unhide H).blk.lt; have h2 := unhide HG; omega
  have hmz : mb ≠ z := by have h1 := (unhide H).map.lt; have h2 := unhide HG; omega
  have hcz : c ≠ z := by have h1 := unhide HGC; omega
  have hxz : ∀ x ∈ L, x.p ≠ z ∧ ∀ i, x.ln.ownBlock = some i → i ≠ z := fun x hx => ⟨by have h1 := ((unhide H).lk x hx).blk.lt; have h2 := unhide HG; omega, fun i hi => by have h1 := ((unhide H).lk x hx).row.lt hi; have h2 := unhide HG; omega⟩
  have HNE := hide (show b ≠ z ∧ mb ≠ z ∧ c ≠ z ∧ ∀ x ∈ L, x.p ≠ z ∧ ∀ i, x.ln.ownBlock = some i → i ≠ z from ⟨hbz, hmz, hcz, hxz⟩)
  clear hbz hmz hcz hxz HZ HK
  refine wp_rangeV 2 73 #[P0 c] (rise L).length 2 (RiE L) (fun k x W h => h.two) [z] rfl ent73 rfl (by intro k hk; simp at hk; rw [hk]; exact unhide HZL) ?it (fun k W => Id w W A b mb z L ∧ ∀ j, j < k → ∀ y, (rise L)[j]? = some y → y.s.busy = false)
    (fun cd k W => cd = .ret ∧ Blk W z 4 [.bool false] ∧ Kept [] w W ∧ ∃ y ∈ rise L, y.s.busy = true) ?i1 ?i2 ⟨unhide HI, fun j hj => by omega⟩ (fun k a' W => ∃ y, (rise L)[k]? = some y ∧ a' = idFr #[P0 b, undef, P0 z, undef, undef, P0 b, fnV 73 #[P0 c], undef, undef, undef, undef, undef] y) ?f1 ?ag ?bd ?dn ?st
  case it =>
    intro V hk hs
    have hlt := unhide HLT
    have hzl := unhide HZL
    have hne := unhide HNE
    have hcl := (unhide HC).lt
    have hI := unhide HI
    refine rising73_in _ _ ((unhide HC).kept hk (by simp)) (hI.dg.blk.kept hk (by simp)) (hI.dg.map.kept hk (by simp)) ⟨A, hI.dg.step0 hk⟩ ?_ ?_ ?_
    · simp; omega
    · simp; omega
    · simp; omega
  case i1 =>
    rintro k A1 B1 Z ⟨h1, h2⟩ hk hz
    have hzl := unhide HZL
    have hg := unhide HG
    exact ⟨⟨h1.dg.fresh (unhide HLT) hk (fun i hi => (hz i hi).1), h1.z.kept hk (fun e => by have := (hz _ e).1; omega), h1.k.fresh hk (fun i hi hl => by have := (hz i hi).1; have := (unhide HI).k.size; omega)⟩, h2⟩
  case i2 =>
    rintro cd k A1 B1 Z ⟨h1, h2, h3, h4⟩ hk hz
    have hzl := unhide HZL
    exact ⟨h1, h2.kept hk (fun e => by have := (hz _ e).1; omega), h3.fresh hk (fun i hi hl => by have := (hz i hi).1; have := (unhide HI).k.size; omega), h4⟩
  case f1 => exact fun k a' A1 B1 h _ => h
  case ag =>
    rintro l k x W K hkN ⟨y, hy, rfl⟩ hI hsz hK
    simp only [List.zip_toArray, List.zip_cons_cons, List.zip_nil_right, List.foldl_toArray, List.foldl_cons, List.foldl_nil, List.setIfInBounds_toArray, List.set_cons_succ, List.set_cons_zero]
    have HKK := hide (hK _ W (Kept.refl _ _) ⟨y, hy, rfl⟩)
    clear hK hI hy
    simp only [idFr, List.setIfInBounds_toArray, List.set_cons_succ, List.set_cons_zero] at HKK
    gi_wp2
    exact unhide HKK
  case bd =>
    rintro l k a' W hkN ⟨hI, hall⟩ ⟨y, hy, rfl⟩ hsz
    simp only [idFr, List.setIfInBounds_toArray, List.set_cons_succ, List.set_cons_zero]
    have hyL : y ∈ rise L := List.mem_of_getElem? hy
    have HYL := hide hyL
    have HB := hide (hI.dg.lk y (rise_mem hyL)).blk
    have HZ := hide hI.z
    have HII := hide hI
    have HALL := hide hall
    have HY := hide hy
    clear hI hall hy hyL
    cases hb : y.s.busy with
    | false =>
      have HBB := hide hb
      clear hb
      gi_wp2_with (
        first
        | (refine CallsIn.mono (CallsIn.inRound l (callsIn_wide.2 (idle17 y.s y.ln y.p _ (unhide HB)))) ?_
           rw [show y.s.busy = false from unhide HBB]
           rintro e W5 ⟨rfl, q9⟩
           replace q9 := q9.symm
           subst q9)
        | fail)
      refine ⟨Kept.refl _ _, unhide HII, fun j hj z hz => ?_⟩
      by_cases e : j = k
      · subst e
        rw [unhide HY] at hz
        cases hz
        exact unhide HBB
      · exact unhide HALL j (by omega) z hz
    | true =>
      have HBB := hide hb
      clear hb
      gi_wp2_with (
        first
        | (refine CallsIn.mono (CallsIn.inRound l (callsIn_wide.2 (idle17 y.s y.ln y.p _ (unhide HB)))) ?_
           rw [show y.s.busy = true from unhide HBB]
           rintro e W5 ⟨rfl, q9⟩
           replace q9 := q9.symm
           subst q9)
        | (refine inStore1 (.bool false) (.bool false) (st1d size4d ⟨rfl, rfl⟩) wideF (by rfl) (.tmp 2) (.const (.bool false)) (by rfl) (by rfl) (by rfl) z (by rfl) (by rfl) (unhide HZ) ?_
           intro W7 B7 e7
           have HB7 := hide B7
           have HK7 : Hid (Kept [z] W W7) := by rw [e7]; exact (Kept.refl _ _).setCell (p := ⟨z, 0, none⟩) (by simp) _
           clear B7 e7)
        | fail)
      have hk7 := unhide HK7
      exact ⟨hk7, rfl, unhide HB7, (unhide HII).k.fresh hk7 (fun i hi hl => by simp at hi; have := unhide HG; omega), y, unhide HYL, unhide HBB⟩
  case dn =>
    intro W hk hsz hI hD
    have HE : Hid (idleD L = true) := by
      show _ = _
      unfold idleD
      rw [List.all_eq_true]
      intro y hy
      obtain ⟨j, hj⟩ := List.getElem?_of_mem hy
      rw [hI.2 j (List.getElem?_eq_some_iff.1 hj).1 y hj]
      rfl
    have HZ := hide hI.1.z
    have HKW := hide hI.1.k
    have HD := hide hD
    clear hI hD hk
    go_upto_region 5 with fail
    refine (wpIn_wide (n := 3)).1 ?_
    gi_wp2_with (
      first
      | (refine inStore1 (.bool false) (.bool true) (st1d size4d ⟨rfl, rfl⟩) wideF (by rfl) (.tmp 2) (.const (.bool true)) (by rfl) (by rfl) (by rfl) z (by rfl) (by rfl) (unhide HZ) ?_
         intro W7 B7 e7
         have HB7 := hide B7
         have HK7 : Hid (Kept [z] W W7) := by rw [e7]; exact (Kept.refl _ _).setCell (p := ⟨z, 0, none⟩) (by simp) _
         clear B7 e7)
      | fail)
    have hk7 := unhide HK7
    have hne : W2.heap.size ≠ z := by have := unhide HZL; omega
    go_wp2_with fail
    rw [unhide HE]
    exact idle_leaves rfl (unhide HB7) ((unhide HKW).fresh hk7 (fun i hi hl => by simp at hi; have := unhide HG; omega)) (hk7.heap (unhide HD) (by simpa using hne)) (unhide HI).k.size
  case st =>
    rintro cd k W hk hkX hsz ⟨rfl, h2, h3, y, h4, h5⟩ hD
    have HE : Hid (idleD L = false) := by
      show _ = _
      unfold idleD
      exact List.all_eq_false.2 ⟨y, h4, by rw [h5]; decide⟩
    have HZ := hide h2
    have HKW := hide h3
    have HD := hide hD
    clear h2 h3 hD h4 h5 hkX
    gi_wp2
    rw [unhide HE]
    exact idle_leaves rfl (unhide HZ) (unhide HKW) (unhide HD) (unhide HI).k.size

end Go.Proofs.Ytbigongmlpoahaa.D
