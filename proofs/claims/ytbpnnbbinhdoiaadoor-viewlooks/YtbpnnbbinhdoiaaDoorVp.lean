/-
  Pages, the document's Pages, and whether two rows are the same.
-/
import Derived.Test.YtbpnnbbinhdoiaaDoorVo
namespace Go.Proofs.YtbpnnbbinhdoiaaDoor
set_option maxRecDepth 100000
open Go.RowKit


/-- Is the node the page's master? -/
def Vw.has (v : Vw) (n : Int) (p : Nat) : Bool := (v.master (p : Int)).2 && decide ((v.master (p : Int)).1 = n)
/-- The first pages whose master the node is. -/
def Vw.pgs (v : Vw) (n : Int) (j : Nat) : List Int := ((List.range j).filter (v.has n)).map (fun p : Nat => (p : Int))
def Vw.pages (v : Vw) (n m : Int) : List Int := if 16 < m then [] else v.pgs n m.toNat
theorem pgs_succ (v : Vw) (n : Int) (j : Nat) : v.pgs n (j + 1) = v.pgs n j ++ (if v.has n j then [(j : Int)] else []) := by
  unfold Vw.pgs
  rw [List.range_succ, List.filter_append, List.map_append]
  congr 1
  cases h : v.has n j <;> simp [h]
theorem pgs_len (v : Vw) (n : Int) (j : Nat) : (v.pgs n j).length ≤ j := by
  unfold Vw.pgs
  rw [List.length_map]
  have := List.length_filter_le (v.has n) (List.range j)
  simpa using this
set_option maxHeartbeats 2000000 in
theorem pages_big (v : Vw) (n m : Int) (w : World) (hF : First w) (hm : 16 < m) : Calls Tryd.prog 28 #[aggV (vwC v), .int .i64 n, .int .i64 m] w fun e w' => ∃ u, e = .returned u ∧ Ints w' w.heap.size u (v.pages n m) ∧ Kept [] w w' := by
  have hr : v.pages n m = [] := by unfold Vw.pages; rw [if_pos hm]
  rw [hr]
  have hd : decide (16 < m) = true := by simpa using hm
  go_enter Tryd.func28, Tryd.ntmps28
  have M : Hid (Mm w w []) := hide (Mm.init hF)
  go_wp2_with (
    first
    | (refine wpBoxV rfl (.tmp 0) rfl (vwC v) rfl ?_
       intro W1 b1 e1 B1 K1
       replace M : Hid (Mm w W1 [(b1, 26, vwC v)]) := hide ((unhide M).new e1 B1 K1)
       clear e1 B1 K1
       refine Stp.go ?_))
  constructor
  go_wp2_with fail
  go_ret
  exact ⟨_, rfl, Ints.nil _ _, (unhide M).kept⟩
set_option maxHeartbeats 2000000 in
theorem pages_in (v : Vw) (n m : Int) (w : World) (hF : First w) (hv : v.ms.length = 8) (hm : m ≤ 16) : Calls Tryd.prog 28 #[aggV (vwC v), .int .i64 n, .int .i64 m] w fun e w' => ∃ u, e = .returned u ∧ Ints w' w.heap.size u (v.pages n m) ∧ Kept [] w w' := by
  have hd16 : decide (16 < m) = false := by simp; omega
  go_enter Tryd.func28, Tryd.ntmps28
  have M : Hid (Mm w w []) := hide (Mm.init hF)
  go_wp2_with (
    first
    | (refine wpBoxV rfl (.tmp 0) rfl (vwC v) rfl ?_
       intro W1 b1 e1 B1 K1
       replace M : Hid (Mm w W1 [(b1, 26, vwC v)]) := hide ((unhide M).new e1 B1 K1)
       clear e1 B1 K1
       refine Stp.go ?_))
  constructor
  go_wp2_with fail
  go_loopw [7, 14] (fun u i wr => ∃ j : Nat, j ≤ 16 ∧ ((j : Int) ≤ m ∨ j = 0) ∧ i = .int .i64 j ∧ Hid (Ints wr w.heap.size u (v.pgs n j)) ∧ Hid (Mm w wr [(b1, 26, vwC v)])) (fun _ i _ => 16 - (intOf i).toNat)
  case atStart => exact ⟨0, by omega, by omega, rfl, Ints.nil _ _, M⟩
  case round =>
    clear M
    obtain ⟨j, hj, hjm, rfl, HI, M⟩ := hrel
    by_cases hlt : (j : Int) < m
    · have hltI : (j : Int) < m := hlt
      have hd : decide ((j : Int) < m) = true := by simpa using hlt
      obtain ⟨mm, hmm⟩ : ∃ mm, (v.master (j : Int)).1 = mm := ⟨_, rfl⟩
      obtain ⟨mb, hmb⟩ : ∃ mb, (v.master (j : Int)).2 = mb := ⟨_, rfl⟩
      have P23 : ∀ W, First W → Hid (Calls Tryd.prog 23 #[aggV (vwC v), .int .i64 j] W fun e w' => e = .returned (.tuple #[.int .i64 mm, .bool mb]) ∧ Kept [] W w') := fun W hW => hide (by have := master23 v j W hW hv (by constructor <;> omega); rw [hmm, hmb] at this; exact this)
      have hh : v.has n j = (mb && decide (mm = n)) := by unfold Vw.has; rw [hmm, hmb]
      have HL : Hid ((v.pgs n j).length ≤ 1000) := by show _ ≤ _; have := pgs_len v n j; omega
      clear hmm hmb
      cases mb with
      | false =>
        have HH : Hid (v.has n j = false) := hide (by rw [hh]; rfl)
        clear hh
        go_wp2_with (
          first
          | (refine wpLoadA row26 rfl (.tmp 3) rfl b1 0 rfl (vwC v) (vwC_len hv) ((unhide M).at 0 _ rfl).range ?_
             refine Stp.go ?_))
        constructor
        go_wp2_with (
          first
          | (go_at_call 23
             refine (unhide (P23 _ (unhide M).first)).mono ?_
             rintro e W11 ⟨rfl, K11⟩
             replace M : Hid (Mm w W11 [(b1, 26, vwC v)]) := hide ((unhide M).step K11)
             replace HI := hide ((unhide HI).kept K11 (by simp))
             clear K11
             refine Stp.go ?_))
        constructor
        go_wp2_with fail
        go_roundw
        case rel =>
          refine ⟨j + 1, by omega, by omega, by go_num, ?_, M⟩
          rw [pgs_succ, unhide HH]
          simpa using HI
        case measure => simp [intOf]; omega
      | true =>
        by_cases he : mm = n
        · have HH : Hid (v.has n j = true) := hide (by rw [hh]; simpa using he)
          have hde : (mm == n) = true := by simpa using he
          clear hh he
          go_wp2_with (
            first
            | (refine wpLoadA row26 rfl (.tmp 3) rfl b1 0 rfl (vwC v) (vwC_len hv) ((unhide M).at 0 _ rfl).range ?_
               refine Stp.go ?_))
          constructor
          go_wp2_with (
            first
            | (go_at_call 23
               refine (unhide (P23 _ (unhide M).first)).mono ?_
               rintro e W11 ⟨rfl, K11⟩
               replace M : Hid (Mm w W11 [(b1, 26, vwC v)]) := hide ((unhide M).step K11)
               replace HI := hide ((unhide HI).kept K11 (by simp))
               clear K11
               refine Stp.go ?_))
          constructor
          go_wp2_with (
            first
            | (refine wpApp50 rfl rfl (.tmp 30) 31 rfl rfl (.tmp 29) rfl u7 (v.pgs n j) (j : Int) rfl (fun _ => rfl) (fun _ => rfl) (unhide M) (unhide HI) (unhide HL) rfl ?_
               intro u9 W12 M9 I9
               replace M : Hid (Mm w W12 [(b1, 26, vwC v)]) := hide M9
               replace HI := hide I9
               clear M9 I9
               refine Stp.go ?_))
          constructor
          go_wp2_with fail
          go_roundw
          case rel =>
            refine ⟨j + 1, by omega, by omega, by go_num, ?_, M⟩
            rw [pgs_succ, unhide HH]
            simpa using HI
          case measure => simp [intOf]; omega
        · have HH : Hid (v.has n j = false) := hide (by rw [hh]; simpa using he)
          have hde : (mm == n) = false := by simpa using he
          clear hh
          go_wp2_with (
            first
            | (refine wpLoadA row26 rfl (.tmp 3) rfl b1 0 rfl (vwC v) (vwC_len hv) ((unhide M).at 0 _ rfl).range ?_
               refine Stp.go ?_))
          constructor
          go_wp2_with (
            first
            | (go_at_call 23
               refine (unhide (P23 _ (unhide M).first)).mono ?_
               rintro e W11 ⟨rfl, K11⟩
               replace M : Hid (Mm w W11 [(b1, 26, vwC v)]) := hide ((unhide M).step K11)
               replace HI := hide ((unhide HI).kept K11 (by simp))
               clear K11
               refine Stp.go ?_))
          constructor
          go_wp2_with fail
          go_roundw
          case rel =>
            refine ⟨j + 1, by omega, by omega, by go_num, ?_, M⟩
            rw [pgs_succ, unhide HH]
            simpa using HI
          case measure => simp [intOf]; omega
    · have hd : decide ((j : Int) < m) = false := by simp; omega
      have HE : Hid (v.pages n m = v.pgs n j) := by
        show _ = _
        unfold Vw.pages
        rw [if_neg (by omega)]
        congr 1
        omega
      go_wp2_with fail
      go_ret
      refine ⟨_, rfl, ?_, (unhide M).kept⟩
      rw [unhide HE]
      exact unhide HI
theorem pages28 (v : Vw) (n m : Int) (w : World) (hF : First w) (hv : v.ms.length = 8) : Calls Tryd.prog 28 #[aggV (vwC v), .int .i64 n, .int .i64 m] w fun e w' => ∃ u, e = .returned u ∧ Ints w' w.heap.size u (v.pages n m) ∧ Kept [] w w' := by
  by_cases h : 16 < m
  · exact pages_big v n m w hF h
  · exact pages_in v n m w hF hv (by omega)
set_option maxHeartbeats 2000000 in
theorem rpages_big (v : Vw) (n m : Int) (w : World) (hF : First w) (hm : 16 < m) : Calls Tryd.prog 29 #[aggV (vwC v), .int .i64 n, .int .i64 m] w fun e w' => ∃ u, e = .returned u ∧ Ints w' w.heap.size u (v.pages n m) ∧ Kept [] w w' := by
  have hr : v.pages n m = [] := by unfold Vw.pages; rw [if_pos hm]
  rw [hr]
  have hd : decide (m ≤ 16) = false := by simp; omega
  have hd2 : decide (0 < m) = true := by simp; omega
  go_enter Tryd.func29, Tryd.ntmps29
  have M : Hid (Mm w w []) := hide (Mm.init hF)
  go_wp2_with (
    first
    | (refine wpBoxV rfl (.tmp 0) rfl (vwC v) rfl ?_
       intro W1 b1 e1 B1 K1
       replace M : Hid (Mm w W1 [(b1, 26, vwC v)]) := hide ((unhide M).new e1 B1 K1)
       clear e1 B1 K1
       refine Stp.go ?_))
  constructor
  go_wp2_with fail
  go_loopw [7, 8] (fun u i wr => u = .slice none 0 0 ∧ i = .int .i64 0 ∧ Hid (Mm w wr [(b1, 26, vwC v)])) (fun _ _ _ => 0)
  case atStart => exact ⟨rfl, rfl, M⟩
  case round =>
    clear M
    obtain ⟨rfl, rfl, M⟩ := hrel
    go_wp2_with fail
    go_ret
    exact ⟨_, rfl, Ints.nil _ _, (unhide M).kept⟩
set_option maxHeartbeats 2000000 in
theorem rpages_in (v : Vw) (n m : Int) (w : World) (hF : First w) (hv : v.ms.length = 8) (hm : m ≤ 16) : Calls Tryd.prog 29 #[aggV (vwC v), .int .i64 n, .int .i64 m] w fun e w' => ∃ u, e = .returned u ∧ Ints w' w.heap.size u (v.pages n m) ∧ Kept [] w w' := by
  have hd16 : decide (m ≤ 16) = true := by simpa using hm
  go_enter Tryd.func29, Tryd.ntmps29
  have M : Hid (Mm w w []) := hide (Mm.init hF)
  go_wp2_with (
    first
    | (refine wpBoxV rfl (.tmp 0) rfl (vwC v) rfl ?_
       intro W1 b1 e1 B1 K1
       replace M : Hid (Mm w W1 [(b1, 26, vwC v)]) := hide ((unhide M).new e1 B1 K1)
       clear e1 B1 K1
       refine Stp.go ?_))
  constructor
  go_wp2_with fail
  go_loopw [7, 8] (fun u i wr => ∃ j : Nat, j ≤ 16 ∧ ((j : Int) ≤ m ∨ j = 0) ∧ i = .int .i64 j ∧ Hid (Ints wr w.heap.size u (v.pgs n j)) ∧ Hid (Mm w wr [(b1, 26, vwC v)])) (fun _ i _ => 16 - (intOf i).toNat)
  case atStart => exact ⟨0, by omega, by omega, rfl, Ints.nil _ _, M⟩
  case round =>
    clear M
    obtain ⟨j, hj, hjm, rfl, HI, M⟩ := hrel
    by_cases hlt : (j : Int) < m
    · have hltI : (j : Int) < m := hlt
      have hd : decide ((j : Int) < m) = true := by simpa using hlt
      obtain ⟨mm, hmm⟩ : ∃ mm, (v.master (j : Int)).1 = mm := ⟨_, rfl⟩
      obtain ⟨mb, hmb⟩ : ∃ mb, (v.master (j : Int)).2 = mb := ⟨_, rfl⟩
      have P24 : ∀ W, First W → Hid (Calls Tryd.prog 24 #[aggV (vwC v), .int .i64 j] W fun e w' => e = .returned (.tuple #[.int .i64 mm, .bool mb]) ∧ Kept [] W w') := fun W hW => hide (by have := rmaster24 v j W hW hv (by constructor <;> omega); rw [hmm, hmb] at this; exact this)
      have hh : v.has n j = (mb && decide (mm = n)) := by unfold Vw.has; rw [hmm, hmb]
      have HL : Hid ((v.pgs n j).length ≤ 1000) := by show _ ≤ _; have := pgs_len v n j; omega
      clear hmm hmb
      cases mb with
      | false =>
        have HH : Hid (v.has n j = false) := hide (by rw [hh]; rfl)
        clear hh
        go_wp2_with (
          first
          | (refine wpLoadA row26 rfl (.tmp 3) rfl b1 0 rfl (vwC v) (vwC_len hv) ((unhide M).at 0 _ rfl).range ?_
             refine Stp.go ?_))
        constructor
        go_wp2_with (
          first
          | (go_at_call 24
             refine (unhide (P24 _ (unhide M).first)).mono ?_
             rintro e W11 ⟨rfl, K11⟩
             replace M : Hid (Mm w W11 [(b1, 26, vwC v)]) := hide ((unhide M).step K11)
             replace HI := hide ((unhide HI).kept K11 (by simp))
             clear K11
             refine Stp.go ?_))
        constructor
        go_wp2_with fail
        go_roundw
        case rel =>
          refine ⟨j + 1, by omega, by omega, by go_num, ?_, M⟩
          rw [pgs_succ, unhide HH]
          simpa using HI
        case measure => simp [intOf]; omega
      | true =>
        by_cases he : mm = n
        · have HH : Hid (v.has n j = true) := hide (by rw [hh]; simpa using he)
          have hde : (mm == n) = true := by simpa using he
          clear hh he
          go_wp2_with (
            first
            | (refine wpLoadA row26 rfl (.tmp 3) rfl b1 0 rfl (vwC v) (vwC_len hv) ((unhide M).at 0 _ rfl).range ?_
               refine Stp.go ?_))
          constructor
          go_wp2_with (
            first
            | (go_at_call 24
               refine (unhide (P24 _ (unhide M).first)).mono ?_
               rintro e W11 ⟨rfl, K11⟩
               replace M : Hid (Mm w W11 [(b1, 26, vwC v)]) := hide ((unhide M).step K11)
               replace HI := hide ((unhide HI).kept K11 (by simp))
               clear K11
               refine Stp.go ?_))
          constructor
          go_wp2_with (
            first
            | (refine wpApp50 rfl rfl (.tmp 33) 34 rfl rfl (.tmp 32) rfl u7 (v.pgs n j) (j : Int) rfl (fun _ => rfl) (fun _ => rfl) (unhide M) (unhide HI) (unhide HL) rfl ?_
               intro u9 W12 M9 I9
               replace M : Hid (Mm w W12 [(b1, 26, vwC v)]) := hide M9
               replace HI := hide I9
               clear M9 I9
               refine Stp.go ?_))
          constructor
          go_wp2_with fail
          go_roundw
          case rel =>
            refine ⟨j + 1, by omega, by omega, by go_num, ?_, M⟩
            rw [pgs_succ, unhide HH]
            simpa using HI
          case measure => simp [intOf]; omega
        · have HH : Hid (v.has n j = false) := hide (by rw [hh]; simpa using he)
          have hde : (mm == n) = false := by simpa using he
          clear hh
          go_wp2_with (
            first
            | (refine wpLoadA row26 rfl (.tmp 3) rfl b1 0 rfl (vwC v) (vwC_len hv) ((unhide M).at 0 _ rfl).range ?_
               refine Stp.go ?_))
          constructor
          go_wp2_with (
            first
            | (go_at_call 24
               refine (unhide (P24 _ (unhide M).first)).mono ?_
               rintro e W11 ⟨rfl, K11⟩
               replace M : Hid (Mm w W11 [(b1, 26, vwC v)]) := hide ((unhide M).step K11)
               replace HI := hide ((unhide HI).kept K11 (by simp))
               clear K11
               refine Stp.go ?_))
          constructor
          go_wp2_with fail
          go_roundw
          case rel =>
            refine ⟨j + 1, by omega, by omega, by go_num, ?_, M⟩
            rw [pgs_succ, unhide HH]
            simpa using HI
          case measure => simp [intOf]; omega
    · have hd : decide ((j : Int) < m) = false := by simp; omega
      have HE : Hid (v.pages n m = v.pgs n j) := by
        show _ = _
        unfold Vw.pages
        rw [if_neg (by omega)]
        congr 1
        omega
      go_wp2_with fail
      go_ret
      refine ⟨_, rfl, ?_, (unhide M).kept⟩
      rw [unhide HE]
      exact unhide HI
theorem rpages29 (v : Vw) (n m : Int) (w : World) (hF : First w) (hv : v.ms.length = 8) : Calls Tryd.prog 29 #[aggV (vwC v), .int .i64 n, .int .i64 m] w fun e w' => ∃ u, e = .returned u ∧ Ints w' w.heap.size u (v.pages n m) ∧ Kept [] w w' := by
  by_cases h : 16 < m
  · exact rpages_big v n m w hF h
  · exact rpages_in v n m w hF hv (by omega)
section
variable {o : Oper} {a : Act} {w : World} {K : Act → World → Prop} {Q : Exit → Act → World → Prop}
theorem o_idx50 (x y : Operand) (ho : o.op = .indexAddr 50 x y) (g m c k : Nat) (hk : k < m) (hx : a.eval x = .slice (some ⟨g, 0, none⟩) m c) (hy : a.eval y = .int .i64 k) (h : K (a.put o.dst (.pointer (some ⟨g, k, none⟩))) w) : o.wp Tryd.prog a w K Q := by
  unfold Oper.wp execOp
  simp only [ho, hx, hy]
  simp [go_sem, hk]
  exact h
theorem o_load3 (x : Operand) (ho : o.op = .load 3 x) (p : Addr) (v : Value) (hx : a.eval x = .pointer (some p)) (hc : w.cell? p = some v) (h : K (a.put o.dst v) w) : o.wp Tryd.prog a w K Q := by
  unfold Oper.wp execOp
  simp only [ho, hx]
  simp [go_sem, hc]
  exact h
theorem o_neqI (x y : Operand) (ho : o.op = .binOp .neq 3 x y 3) (m : Int) (hx : a.eval x = .int .i64 m) (hy : a.eval y = .int .i64 m) (h : K (a.put o.dst (.bool false)) w) : o.wp Tryd.prog a w K Q := by
  unfold Oper.wp execOp
  simp only [ho, hx, hy]
  simp [go_sem]
  exact h
end
set_option maxHeartbeats 2000000 in
theorem same27 (u1 u2 : Value) (B1 B2 : Nat) (L : List Int) (w : World) (h1 : Ints w B1 u1 L) (h2 : Ints w B2 u2 L) (hL : L.length ≤ 1000) : Calls Tryd.prog 27 #[u1, u2] w fun e w' => e = .returned (.bool true) ∧ Kept [] w w' := by
  obtain ⟨N, hN⟩ : ∃ N, N = L.length := ⟨_, rfl⟩
  have HI1 := hide h1
  have HI2 := hide h2
  have HN := hide hN
  obtain ⟨a1, c1, rfl⟩ := h1.sl
  obtain ⟨a2, c2, rfl⟩ := h2.sl
  rw [← hN] at HI1 HI2 hL ⊢
  clear h1 h2 hN
  go_enter Tryd.func27, Tryd.ntmps27
  go_wp2_with fail
  go_loopw [5] (fun i wr => ∃ j : Nat, j ≤ N ∧ i = .int .i64 j ∧ Hid (Kept [] w wr)) (fun i _ => N - (intOf i).toNat)
  case atStart => exact ⟨0, by omega, rfl, Kept.refl _ _⟩
  case round =>
    obtain ⟨j, hj, rfl, HK⟩ := hrel
    by_cases hlt : j < N
    · have hjL : j < L.length := by have := unhide HN; omega
      obtain ⟨x, hx⟩ : ∃ x, L[j]? = some x := ⟨_, List.getElem?_eq_getElem hjL⟩
      obtain ⟨g1, d1, e1, hc1⟩ := ((unhide HI1).kept (unhide HK) (by simp)).get hx
      obtain ⟨g2, d2, e2, hc2⟩ := ((unhide HI2).kept (unhide HK) (by simp)).get hx
      injection e1 with e1 _ _
      injection e2 with e2 _ _
      subst e1 e2
      have H1 := hide hc1
      have H2 := hide hc2
      have HLT := hide hlt
      have hltI : (j : Int) < (N : Int) := by omega
      have hd : decide ((j : Int) < (N : Int)) = true := by simpa using hltI
      clear hx hc1 hc2 hjL
      go_wp2_with fail
      refine wp_region_any mixed (wpAny_tq 9 rfl (by kernel_rfl) [some (.slice (some ⟨g1, 0, none⟩) N c1), some (.int .i64 j), some (.pointer (some ⟨g1, j, none⟩)), some (.int .i64 x), some (.slice (some ⟨g2, 0, none⟩) N c2), some (.int .i64 j), some (.pointer (some ⟨g2, j, none⟩)), some (.int .i64 x), some (.bool false)] rfl (by kernel_rfl) (by kernel_rfl) ?_ ?_)
      · intro i o' hi hsk ho a' w2 hout hin hk2
        replace hk2 : Kept [] wr w2 := ⟨hk2.os, hk2.tape, hk2.output, hk2.size, hk2.block⟩
        match i, ho, hsk with
        | 0, ho, hsk =>
          obtain rfl := Option.some.inj ho
          exact wp_move (.tmp 0) rfl _ ((hout 0 (by kernel_rfl)).trans rfl) ⟨_, rfl, tq_is _ _ _ _ rfl, Kept.refl _ _, fun _ _ _ _ _ => trivial⟩
        | 1, ho, hsk =>
          obtain rfl := Option.some.inj ho
          exact wp_move (.tmp 5) rfl _ ((hout 5 (by kernel_rfl)).trans rfl) ⟨_, rfl, tq_is _ _ _ _ rfl, Kept.refl _ _, fun _ _ _ _ _ => trivial⟩
        | 2, ho, hsk =>
          obtain rfl := Option.some.inj ho
          have e0 : a'.eval (.tmp 17) = .slice (some ⟨g1, 0, none⟩) N c1 := is_tq (hin 0 17 (by kernel_rfl) (by kernel_rfl)) rfl
          have e1 : a'.eval (.tmp 18) = .int .i64 j := is_tq (hin 1 18 (by kernel_rfl) (by kernel_rfl)) rfl
          exact o_idx50 (.tmp 17) (.tmp 18) rfl g1 N c1 j (unhide HLT) e0 e1 ⟨_, rfl, tq_is _ _ _ _ rfl, Kept.refl _ _, fun _ _ _ _ _ => trivial⟩
        | 3, ho, hsk =>
          obtain rfl := Option.some.inj ho
          have e0 : a'.eval (.tmp 19) = .pointer (some ⟨g1, j, none⟩) := is_tq (hin 2 19 (by kernel_rfl) (by kernel_rfl)) rfl
          exact o_load3 (.tmp 19) rfl _ _ e0 (hk2.cell (unhide H1) (by simp)) ⟨_, rfl, tq_is _ _ _ _ rfl, Kept.refl _ _, fun _ _ _ _ _ => trivial⟩
        | 4, ho, hsk =>
          obtain rfl := Option.some.inj ho
          exact wp_move (.tmp 1) rfl _ ((hout 1 (by kernel_rfl)).trans rfl) ⟨_, rfl, tq_is _ _ _ _ rfl, Kept.refl _ _, fun _ _ _ _ _ => trivial⟩
        | 5, ho, hsk =>
          obtain rfl := Option.some.inj ho
          exact wp_move (.tmp 5) rfl _ ((hout 5 (by kernel_rfl)).trans rfl) ⟨_, rfl, tq_is _ _ _ _ rfl, Kept.refl _ _, fun _ _ _ _ _ => trivial⟩
        | 6, ho, hsk =>
          obtain rfl := Option.some.inj ho
          have e0 : a'.eval (.tmp 21) = .slice (some ⟨g2, 0, none⟩) N c2 := is_tq (hin 4 21 (by kernel_rfl) (by kernel_rfl)) rfl
          have e1 : a'.eval (.tmp 22) = .int .i64 j := is_tq (hin 5 22 (by kernel_rfl) (by kernel_rfl)) rfl
          exact o_idx50 (.tmp 21) (.tmp 22) rfl g2 N c2 j (unhide HLT) e0 e1 ⟨_, rfl, tq_is _ _ _ _ rfl, Kept.refl _ _, fun _ _ _ _ _ => trivial⟩
        | 7, ho, hsk =>
          obtain rfl := Option.some.inj ho
          have e0 : a'.eval (.tmp 23) = .pointer (some ⟨g2, j, none⟩) := is_tq (hin 6 23 (by kernel_rfl) (by kernel_rfl)) rfl
          exact o_load3 (.tmp 23) rfl _ _ e0 (hk2.cell (unhide H2) (by simp)) ⟨_, rfl, tq_is _ _ _ _ rfl, Kept.refl _ _, fun _ _ _ _ _ => trivial⟩
        | 8, ho, hsk =>
          obtain rfl := Option.some.inj ho
          have e0 : a'.eval (.tmp 20) = .int .i64 x := is_tq (hin 3 20 (by kernel_rfl) (by kernel_rfl)) rfl
          have e1 : a'.eval (.tmp 24) = .int .i64 x := is_tq (hin 7 24 (by kernel_rfl) (by kernel_rfl)) rfl
          exact o_neqI (.tmp 20) (.tmp 24) rfl x e0 e1 ⟨_, rfl, tq_is _ _ _ _ rfl, Kept.refl _ _, fun _ _ _ _ _ => trivial⟩
      intro w9 hk9
      replace hk9 : Kept [] wr w9 := ⟨hk9.os, hk9.tape, hk9.output, hk9.size, hk9.block⟩
      simp only [valsQ, List.map_cons, List.map_nil, Option.getD_some, List.take_succ_cons, List.take_zero, putAll, Act.put, List.setIfInBounds_toArray, List.set_cons_succ, List.set_cons_zero]
      refine wpAny_done (by kernel_rfl) ?_ _
      go_wp2_with fail
      go_roundw
      case rel => exact ⟨j + 1, by omega, by go_num, hide ((unhide HK).trans hk9)⟩
      case measure => simp [intOf]; omega
    · have hd : decide ((j : Int) < (N : Int)) = false := by simp; omega
      go_wp2_with fail
      go_ret
      exact ⟨rfl, unhide HK⟩

end Go.Proofs.YtbpnnbbinhdoiaaDoor
