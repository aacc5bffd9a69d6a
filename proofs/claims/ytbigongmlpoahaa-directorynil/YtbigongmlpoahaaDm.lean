/-
  Held: who goes over the pages that a node holds.
-/
import Derived.Test.YtbigongmlpoahaaDl
namespace Go.Proofs.Ytbigongmlpoahaa.D
set_option maxRecDepth 100000
set_option linter.unusedSimpArgs false
open Go.RowKit Go.Shelf
attribute [local go_sem] Oper.semAt_some


section
variable {ops : Array Oper} {rest : List Oper} {op : Oper} {a : Act} {w : World} {Q : Exit → Act → World → Prop}
theorem wpBoxY {T : Nat} (hgd : op.guard = none) (x : Operand) (ho : op.op = .box T x) (l : Nat) (hx : a.eval x = .func (.yield l) #[] #[])
    (h : ∀ W b, b = w.heap.size → Blk W b T [.func (.yield l) #[] #[]] → Kept [] w W → wpList Try.prog ops Q rest (a.put op.dst (P0 b)) W) : wpList Try.prog ops Q (op :: rest) a w :=
  wpList_plain hgd fun _ hK => by
    unfold Oper.wp execOp
    simp only [ho, hx]
    exact hK _ _ (h _ _ rfl (Blk.new w T _) ((Kept.refl _ _).alloc _))
end
/-- How many of the first k are told of. -/
def cntT {α : Type} (f : Lk → Option α) (R : List Lk) (k : Nat) : Nat := ((R.take k).filterMap f).length
theorem cntT_some {α : Type} {f : Lk → Option α} {R : List Lk} {k : Nat} {y : Lk} {u : α} (h : R[k]? = some y) (hf : f y = some u) : cntT f R (k + 1) = cntT f R k + 1 ∧ (R.filterMap f)[cntT f R k]? = some u := by
  unfold cntT
  have e : R.take (k + 1) = R.take k ++ [y] := by rw [List.take_add_one, h]; rfl
  refine ⟨by rw [e, List.filterMap_append, List.length_append]; simp [hf], ?_⟩
  have h2 : R = R.take (k + 1) ++ R.drop (k + 1) := (List.take_append_drop _ _).symm
  have h3 : R.filterMap f = (R.take k).filterMap f ++ ([u] ++ (R.drop (k + 1)).filterMap f) := by
    conv => lhs; rw [h2, e]
    rw [List.filterMap_append, List.filterMap_append]
    simp [hf]
  rw [h3]
  simp
theorem cntT_none {α : Type} {f : Lk → Option α} {R : List Lk} {k : Nat} {y : Lk} (h : R[k]? = some y) (hf : f y = none) : cntT f R (k + 1) = cntT f R k := by
  unfold cntT
  rw [show R.take (k + 1) = R.take k ++ [y] from by rw [List.take_add_one, h]; rfl, List.filterMap_append, List.length_append]
  simp [hf]
theorem cntT_all {α : Type} (f : Lk → Option α) (R : List Lk) : cntT f R R.length = (R.filterMap f).length := by unfold cntT; rw [List.take_length]
/-- What Held tells of a lock. -/
def tellM (m : Int) (y : Lk) : Option (Int × Int) := if (holdsP y.s m).2 = true then some (y.k, (holdsP y.s m).1) else none
def heldL (m : Int) (L : List Lk) : List (Int × Int) := (rise L).filterMap (tellM m)
def HeE (m : Int) (L : List Lk) (k : Nat) (x : Array Value) (_ : World) : Prop := ∃ u, (heldL m L)[k]? = some u ∧ x = #[.int .i64 u.1, .int .i64 u.2]
theorem HeE.two {m : Int} {L : List Lk} {k : Nat} {x : Array Value} {W : World} (h : HeE m L k x W) : x.size = 2 := by
  obtain ⟨y, _, rfl⟩ := h
  rfl
theorem ent58 : Ent 58 := fun vs w => by kernel_rfl
theorem ent89 : Ent 89 := fun vs w => by kernel_rfl
variable {w W V : World} {A b mb c1 c2 cn : Nat} {L : List Lk} {v : Value} {y : Lk} {m : Int}
theorem cl58 (h : Blk w y.p 108 (y.s.C y.ln)) (hn : Blk w cn 3 [.int .i64 m]) : Calls Try.prog 58 (#[P0 y.p] ++ #[P0 cn]) w fun e w' => e = .returned (.tuple #[.int .i64 (holdsP y.s m).1, .bool (holdsP y.s m).2]) ∧ w' = w := by
  have H := hide h
  have k0 := fits_cell hn 0 _ rfl
  clear h hn
  show Calls Try.prog 58 #[P0 y.p, P0 cn] w _
  go_enter Try.func58, Try.ntmps58
  go_wp2_with (
    first
    | (go_at_call 59
       refine (holds18 y.s y.ln y.p m w (unhide H)).mono ?_
       rintro e W9 ⟨rfl, q9⟩
       replace q9 := q9.symm
       subst q9
       refine Stp.go ?_))
  constructor
  go_wp2_with fail
  go_ret2
  exact ⟨rfl, rfl⟩
/-- What a range of Held may turn is nothing of the directory's. -/
structure Off (X : List Nat) (b mb : Nat) (L : List Lk) (cs : List Nat) : Prop where
  b : b ∉ X
  mb : mb ∉ X
  lk : ∀ x ∈ L, x.p ∉ X ∧ ∀ i, x.ln.ownBlock = some i → i ∉ X
  cs : ∀ c ∈ cs, c ∉ X
set_option maxHeartbeats 8000000 in
theorem as89_in (l : Nat) (X : List Nat) (hX : ∀ k ∈ X, k < V.heap.size) (h1 : Blk V c1 42 [P0 b]) (h2 : Blk V c2 103 [fnV 58 #[P0 cn]]) (h3 : Blk V cn 3 [.int .i64 m]) (hD : Dg A V b mb L) (ho : Off X b mb L [c1, c2, cn]) : ItV 3 89 #[P0 c1, P0 c2] (heldL m L).length (HeE m L) V l X := by
  intro J Jx hJ hJx hY h0
  have hFw := wideF
  have HX := hide hX
  have HC1 := hide h1
  have HC2 := hide h2
  have HCN := hide h3
  have HD := hide hD
  have HO := hide ho
  have H0 := hide h0
  have HJ := hide hJ
  have HJX := hide hJx
  have HY := hide hY
  have k0 := fits_cell h1 0 _ rfl
  clear hX h1 h2 h3 hD ho h0 hJ hJx hY
  show CallsIn Fence.wide 3 Try.prog 89 #[.func (.yield l) #[] #[], P0 c1, P0 c2] V _
  refine callsIn_of_wp_marks Try.func89 rfl trivial ?_ rfl
  refine wpIn_wide.2 ?_
  simp only [Try.ntmps89, List.size_toArray, List.length_cons, List.length_nil, Nat.reduceAdd, Nat.reduceSub, Array.replicate_succ, Array.replicate_zero, List.push_toArray, List.append_toArray, List.nil_append, List.cons_append]
  go_wp2_with (
    first
    | (refine wpBoxY rfl (.tmp 0) rfl l rfl ?_
       intro W1 b4 e1 B1 K1
       have HK := hide K1
       have HB4 := hide B1
       have HG4 : Hid (V.heap.size ≤ b4) := by show _ ≤ _; omega
       have k1 := K1.cell k0 (by simp)
       clear e1 B1 K1 k0
       refine Stp.go ?_))
  constructor
  go_wp2_with (
    first
    | (go_at_call 38
       refine (rising38 (some ⟨b, 0, none⟩) _).mono ?_
       rintro e W3 ⟨c3, rfl, hb3, hg3, K3⟩
       have HC3 := hide hb3
       have HG3 : Hid (V.heap.size ≤ c3) := Nat.le_trans (unhide HK).size hg3
       replace HB4 := hide ((unhide HB4).kept K3 (by simp))
       replace HK := hide ((unhide HK).trans K3)
       clear hb3 hg3 K3 k1
       refine Stp.go ?_))
  constructor
  go_wp2_with fail
  refine (wpIn_wide (n := 3)).1 ?_
  refine wp_rangeV 2 73 #[P0 c3] (rise L).length 2 (RiE L) (fun k x W h => h.two) X rfl ent73 rfl (fun k hk => Nat.lt_of_lt_of_le ((unhide HX) k hk) (unhide HK).size) ?it
    (fun k W => J (cntT (tellM m) (rise L) k) W ∧ Kept X V W ∧ Blk W b4 118 [.func (.yield l) #[] #[]])
    (fun cd _ W => cd = .ret ∧ (∃ j, j < (heldL m L).length ∧ Jx (j + 1) W) ∧ Kept X V W) ?i1 ?i2 ?i0
    (fun k a' W => ∃ y, (rise L)[k]? = some y ∧ a' = { tmps := ((#[.func (.yield l) #[] #[], P0 c1, P0 c2, P0 b4, undef, undef, undef, undef, P0 b, fnV 73 #[P0 c3], undef, undef, undef, undef, undef, undef, undef, undef, undef, undef, undef, undef, undef, undef, undef, undef].setIfInBounds 10 (.int .i64 y.k)).setIfInBounds 11 (P0 y.p)).setIfInBounds 4 (.int .i64 y.k) |>.setIfInBounds 5 (P0 y.p), defers := [] }) ?f1 ?ag ?bd ?dn ?st
  case it =>
    intro U hk hs
    have ho := unhide HO
    have hx := unhide HX
    have hD := (unhide HD).step0 ((unhide HK).trans hk)
    have hks := (unhide HK).size
    have hl := (unhide HD).lts
    refine rising73_in _ _ ((unhide HC3).kept hk (by simp)) hD.blk hD.map ⟨A, hD⟩ ?_ ?_ ?_
    · intro e
      rcases List.mem_cons.1 e with e | e
      · have := (unhide HC3).lt; omega
      · have := hx _ e; have := unhide HG3; omega
    · intro e
      rcases List.mem_cons.1 e with e | e
      · omega
      · exact ho.b e
    · intro e
      rcases List.mem_cons.1 e with e | e
      · omega
      · exact ho.mb e
  case i1 =>
    rintro k A1 B1 Z ⟨g1, g2, g3⟩ hk hz
    refine ⟨unhide HJ _ _ _ _ g1 hk (fun i hi => ⟨Nat.le_trans (unhide HK).size (hz i hi).1, (hz i hi).2⟩), g2.fresh hk (fun i hi hl => by have := (hz i hi).1; have := (unhide HK).size; omega), g3.kept hk (fun e => ?_)⟩
    have := (hz _ e).1
    have := (unhide HB4).lt
    omega
  case i2 =>
    rintro cd k A1 B1 Z ⟨g1, ⟨j, hj, g2⟩, g3⟩ hk hz
    exact ⟨g1, ⟨j, hj, unhide HJX _ _ _ _ g2 hk (fun i hi => ⟨Nat.le_trans (unhide HK).size (hz i hi).1, (hz i hi).2⟩)⟩, g3.fresh hk (fun i hi hl => by have := (hz i hi).1; have := (unhide HK).size; omega)⟩
  case i0 => exact ⟨by rw [show cntT (tellM m) (rise L) 0 = 0 from rfl]; exact unhide HJ _ _ _ _ (unhide H0) (unhide HK) (by simp), (unhide HK).mono (by simp), unhide HB4⟩
  case f1 => exact fun k a' A1 B1 h _ => h
  case ag =>
    rintro l2 k x W K hkN ⟨y, hy, rfl⟩ hI hsz hK
    simp only [List.zip_toArray, List.zip_cons_cons, List.zip_nil_right, List.foldl_toArray, List.foldl_cons, List.foldl_nil, List.setIfInBounds_toArray, List.set_cons_succ, List.set_cons_zero]
    have HKK := hide (hK _ W (Kept.refl _ _) ⟨y, hy, rfl⟩)
    clear hK hI hy
    simp only [List.setIfInBounds_toArray, List.set_cons_succ, List.set_cons_zero] at HKK
    gi_wp2
    exact unhide HKK
  case bd =>
    rintro l2 k a' W hkN ⟨g1, g2, g3⟩ ⟨y, hy, rfl⟩ hsz
    have hks := (unhide HK).size
    have hyL : y ∈ L := rise_mem (List.mem_of_getElem? hy)
    have ho := unhide HO
    have HYB := hide (((unhide HD).lk y hyL).blk.kept g2 (ho.lk y hyL).1)
    have HN2 := hide ((unhide HCN).kept g2 (ho.cs cn (by simp)))
    have kc2 := fits_cell ((unhide HC2).kept g2 (ho.cs c2 (by simp))) 0 _ rfl
    have kb4 := fits_cell g3 0 _ rfl
    have HG2 := hide g2
    have HB9 := hide g3
    have HSZ : Hid (V.heap.size ≤ W.heap.size) := g2.size
    obtain ⟨hm, hmd⟩ : ∃ x, (holdsP y.s m).1 = x := ⟨_, rfl⟩
    simp only [List.setIfInBounds_toArray, List.set_cons_succ, List.set_cons_zero]
    cases hh : (holdsP y.s m).2 with
    | false =>
      have HH : Hid (holdsP y.s m = (hm, false)) := by show _ = _; rw [← hmd, ← hh]
      have HCT := hide (cntT_none (f := tellM m) hy (by unfold tellM; rw [hh]; rfl))
      have HG1 := hide g1
      clear g1 g2 g3 hy hyL ho hmd hh hks hsz
      gi_wp2_with (
        first
        | (refine CallsIn.mono (CallsIn.inRound l2 (callsIn_wide.2 (cl58 (unhide HYB) (unhide HN2)))) ?_
           rw [show holdsP y.s m = (hm, false) from unhide HH]
           rintro e W5 ⟨rfl, q9⟩
           replace q9 := q9.symm
           subst q9)
        | fail)
      exact ⟨Kept.refl _ _, by rw [unhide HCT]; exact unhide HG1, unhide HG2, unhide HB9⟩
    | true =>
      have HH : Hid (holdsP y.s m = (hm, true)) := by show _ = _; rw [← hmd, ← hh]
      have hct := cntT_some (f := tellM m) hy (u := (y.k, hm)) (by unfold tellM; rw [hh, hmd]; rfl)
      have HCT := hide hct.1
      have hjl : cntT (tellM m) (rise L) k < (heldL m L).length := (List.getElem?_eq_some_iff.1 hct.2).1
      have HJL := hide hjl
      have HYY := hide (unhide HY _ #[.int .i64 y.k, .int .i64 hm] W hjl ⟨_, hct.2, rfl⟩ g1 g2.size)
      clear g1 g2 g3 hy hyL ho hmd hh hks hsz hct hjl
      gi_wp2_with (
        first
        | (refine CallsIn.mono (CallsIn.inRound l2 (callsIn_wide.2 (cl58 (unhide HYB) (unhide HN2)))) ?_
           rw [show holdsP y.s m = (hm, true) from unhide HH]
           rintro e W5 ⟨rfl, q9⟩
           replace q9 := q9.symm
           subst q9
           refine Stp.go ?_))
      constructor
      gi_wp2_with (
        first
        | (refine inYield (by rfl) 20 #[.tmp 21, .tmp 22] #[3, 29] (by rfl) (by rfl) #[.int .i64 y.k, .int .i64 hm] (by simp; exact ⟨rfl, rfl⟩) (unhide HYY) ?_
           refine Stp.go ?_))
      constructor
      rintro e W8 K8 (⟨rfl, hI8⟩ | ⟨rfl, hX8⟩)
      · refine ⟨_, rfl, ?_⟩
        have HI8 := hide hI8
        have HK8 := hide K8
        clear hI8 K8 HYY
        gi_wp2_with fail
        refine ⟨unhide HK8, by rw [unhide HCT]; exact unhide HI8, (unhide HG2).trans (unhide HK8), (unhide HB9).kept (unhide HK8) (fun e => ?_)⟩
        have := unhide HX _ e
        have := unhide HG4
        omega
      · refine ⟨_, rfl, ?_⟩
        have HX8 := hide hX8
        have HK8 := hide K8
        clear hX8 K8 HYY
        gi_wp2_with fail
        exact ⟨unhide HK8, rfl, ⟨_, unhide HJL, unhide HX8⟩, (unhide HG2).trans (unhide HK8)⟩
  case dn =>
    intro Wd kD hsz hI hD
    have HKD := hide hI.2.1
    have HDD := hide hD
    have HI9 : Hid (J (heldL m L).length Wd) := by have h9 := hI.1; rw [cntT_all] at h9; exact h9
    have HS3 : Hid (V.heap.size ≤ W3.heap.size) := (unhide HK).size
    clear kD hsz hI hD
    go_wp2_with fail
    refine (show LeavesInM Fence.wide 3 Try.prog Try.f89 _ _ [{ target := .collected W3.heap.size, args := #[] }] .returning Wd from ?_)
    refine ⟨by simp, .inl ⟨_, _, rfl, run_takeDeferred (unhide HDD), ?_⟩⟩
    refine ⟨_, results_none rfl _ _ _, ⟨_, rfl⟩, ?_, .inl (unhide HJ _ _ _ _ (unhide HI9) (Kept.put1 (l := W3.heap.size)) (by intro i hi; simp at hi; subst hi; exact ⟨unhide HS3, noD_mark (unhide HDD)⟩))⟩
    exact (unhide HKD).fresh (Kept.put1 (l := W3.heap.size)) (by intro i hi hl; simp at hi; have := unhide HS3; omega)
  case st =>
    rintro cd k Wd hk kD hsz ⟨rfl, ⟨j, hj, hX8⟩, hK9⟩ hD
    have HKD := hide hK9
    have HDD := hide hD
    have HI9 := hide hX8
    have HKK := hide hj
    have HS3 : Hid (V.heap.size ≤ W3.heap.size) := (unhide HK).size
    clear kD hsz hX8 hD hk hj hK9
    rw [wpIn_wide]
    go_wp2_with fail
    refine (show LeavesInM Fence.wide 3 Try.prog Try.f89 _ _ [{ target := .collected W3.heap.size, args := #[] }] .returning Wd from ?_)
    refine ⟨by simp, .inl ⟨_, _, rfl, run_takeDeferred (unhide HDD), ?_⟩⟩
    refine ⟨_, results_none rfl _ _ _, ⟨_, rfl⟩, ?_, .inr ⟨j, unhide HKK, unhide HJX _ _ _ _ (unhide HI9) (Kept.put1 (l := W3.heap.size)) (by intro i hi; simp at hi; subst hi; exact ⟨unhide HS3, noD_mark (unhide HDD)⟩)⟩⟩
    exact (unhide HKD).fresh (Kept.put1 (l := W3.heap.size)) (by intro i hi hl; simp at hi; have := unhide HS3; omega)

end Go.Proofs.Ytbigongmlpoahaa.D
