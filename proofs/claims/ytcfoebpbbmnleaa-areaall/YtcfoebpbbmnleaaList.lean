/-
  The walk of the document's List: what lies in each sector.
-/
import Derived.Test.YtcfoebpbbmnleaaLm
import Derived.Laws.AppendOwn
namespace Go.Proofs.Ytcfoebpbbmnleaa
open Go.RowKit

theorem Try.info37 : (Try.prog.info? 37).map (fun i => (i.zero, i.size, i.bytes)) = some (some (aggV (fourC 0 0 0 0)), 4, 32) := by kernel_rfl
theorem own_kept {w W : World} {B k : Nat} {v : Value} {xs : List Value} (h : w.ownsRow B 37 4 v k xs) (hk : Kept [] w W) : W.ownsRow B 37 4 v k xs := by
  refine ⟨h.1, ?_⟩
  rcases h.2 with h1 | ⟨g, cap, cur, h1, h2, h3, h4⟩
  · exact .inl h1
  · exact .inr ⟨g, cap, cur, h1, h2, hk.heap h3 (by simp), h4⟩
theorem own_lower {w : World} {B B' k : Nat} {v : Value} {xs : List Value} (h : w.ownsRow B 37 4 v k xs) (hB : B' ≤ B) : w.ownsRow B' 37 4 v k xs := by
  refine ⟨h.1, ?_⟩
  rcases h.2 with h1 | ⟨g, cap, cur, h1, h2, h3⟩
  · exact .inl h1
  · exact .inr ⟨g, cap, cur, h1, Nat.le_trans hB h2, h3⟩
theorem own_new {w : World} {B g m : Nat} {xs : List Value} (h : Blk w g 37 xs) (hB : B ≤ g) (hl : xs.length = m * 4) (hm : m ≤ 100000) : w.ownsRow B 37 4 (.slice (some ⟨g, 0, none⟩) m m) m xs := by
  refine ⟨hl, .inr ⟨g, m, xs.toArray, rfl, hB, h, Nat.le_refl _, by unfold maxLen; omega, by simpa using hl, ?_⟩⟩
  simp [List.take_of_length_le, hl]
section
variable {ops : Array Oper} {rest : List Oper} {op : Oper} {a : Act} {w : World} {Q : Exit → Act → World → Prop}
theorem wpAppP (hgd : op.guard = none) (s x : Operand) (ho : op.op = .call { callee := .builtin .append, args := #[s, x], argTypes := #[25, 25] }) (B : Nat) (v : Value) (k : Nat) (xs : List Value) (hs : a.eval s = v) (g m : Nat) (hx : a.eval x = .slice (some ⟨g, 0, none⟩) m m)
    (news : List Value) (hl : news.length = m * 4) (hB : Blk w g 37 news) (h1 : ∀ u ∈ news, u.oneCell' = true) (hown : w.ownsRow B 37 4 v k xs) (hk : k + m ≤ 100000) (hbase : B ≤ w.heap.size)
    (h : ∀ v' w', w'.ownsRow B 37 4 v' (k + m) (xs ++ news) → (∀ W1, Below B W1 w → Below B W1 w') → wpList Try.prog ops Q rest (a.put op.dst v') w') : wpList Try.prog ops Q (op :: rest) a w := by
  obtain ⟨i0, hi, hz0, hz1, hz2⟩ := info_parts Try.info37
  refine wpList_append_own w hgd s x 25 ho B 37 i0 (aggV (fourC 0 0 0 0)) 4 32 Try.underlying25 hi hz0 hz1 hz2 rfl (by decide) v k xs hs hown ⟨g, 0, none⟩ m m news hx hl ?_ h1 (by unfold maxLen; omega) (by omega) hbase ?_
  · intro i u hu
    rw [Addr.add_lit, Nat.zero_add, hB.cell]; exact hu
  · intro v' w' g1 g2 _
    refine h v' w' g1 (fun W1 hb => hb.grown g2 hbase (fun i hi => (hown.lt i hi).1))
theorem wpBSliceP (n : Nat) (parts : Array (Nat × Operand)) (ho : op.op = .buildSlice 25 n parts) (hgd : op.guard = none) (ps : Array (Nat × Value)) (hp : (parts.map fun (i, x) => (i, a.eval x)) = ps) (cells : List Value) (hr : ∀ w : World, (Instr.buildSlice 25 n ps).run Try.prog w = .ok (.slice (some ⟨w.heap.size, 0, none⟩) n n) (w.alloc (.cells cells.toArray 37)))
    (h : ∀ W g, w.heap.size = g → Blk W g 37 cells → Kept [] w W → wpList Try.prog ops Q rest (a.put op.dst (.slice (some ⟨g, 0, none⟩) n n)) W) : wpList Try.prog ops Q (op :: rest) a w :=
  wpList_plain hgd fun K hK => by
    subst hp
    unfold Oper.wp execOp
    simp only [ho, Sem.run_bind, hr, Result.andThen_ok]
    exact hK _ _ (h _ _ rfl (Blk.new w 37 cells) ((Kept.refl _ _).alloc _))
end
theorem bs1 (a b c d : Int) (w : World) : (Instr.buildSlice 25 1 #[(0, aggV (fourC a b c d))]).run Try.prog w = .ok (.slice (some ⟨w.heap.size, 0, none⟩) 1 1) (w.alloc (.cells (fourC a b c d).toArray 37)) := by kernel_rfl
theorem bs2 (a b c d a' b' c' d' : Int) (w : World) : (Instr.buildSlice 25 2 #[(0, aggV (fourC a b c d)), (1, aggV (fourC a' b' c' d'))]).run Try.prog w = .ok (.slice (some ⟨w.heap.size, 0, none⟩) 2 2) (w.alloc (.cells (fourC a b c d ++ fourC a' b' c' d').toArray 37)) := by kernel_rfl
theorem build37f (w : World) (k n i : Int) : (Instr.build 37 #[(0, .int .i64 k), (1, .int .i64 n), (2, .int .i64 i)]).run Try.prog w = .ok (aggV (fourC k n i 0)) w := by kernel_rfl
theorem build37g (w : World) (k i : Int) : (Instr.build 37 #[(0, .int .i64 k), (2, .int .i64 i)]).run Try.prog w = .ok (aggV (fourC k 0 i 0)) w := by kernel_rfl
theorem four2_one (a b c d a' b' c' d' : Int) : ∀ v ∈ fourC a b c d ++ fourC a' b' c' d', v.oneCell' = true := by
  intro v hv
  rcases List.mem_append.1 hv with h | h
  · exact fourC_one _ _ _ _ v h
  · exact fourC_one _ _ _ _ v h

theorem pre_1 {j : Job} (hm : j.may = true) : j.pre 1 = fourC 1 0 0 0 := by
  have hN := Job.N_yes hm
  have hL := Job.L_le hm
  have hP := Job.p_le hm
  rcases pl_ways hm 0 (by omega) with ⟨_, e⟩ | ⟨n, hn, h, e⟩ | ⟨n, hn, h, e⟩ | ⟨n, i, g, hn, _, _, h, e⟩ | ⟨i, g, _, _, h, e⟩
  · rw [Job.pre_succ, e]; rfl
  · have : 0 ≤ n ∧ n < 8 := by simpa [below] using hn
    omega
  · have := node_le hm hn
    omega
  · have := node_le hm hn
    simp [below] at *; omega
  · simp [below] at *; omega
theorem pre_lease {j : Job} (hm : j.may = true) (n : Nat) (h : n < 8) : j.pre (1 + n + 1) = j.pre (1 + n) ++ fourC 2 n 0 0 := by
  obtain ⟨k, hk, e, hp⟩ := pl_lease hm n (by simp [below]; omega)
  obtain rfl : k = 1 + n := by omega
  rw [Job.pre_succ, hp]; rfl
theorem pre_head {j : Job} (hm : j.may = true) (n K : Nat) (h : (n : Int) < j.n) (hK : (K : Int) = 9 + n * (1 + 2 * j.l)) : K < j.N ∧ j.pre (K + 1) = j.pre K ++ fourC 3 n 0 0 := by
  obtain ⟨k, hk, e, hp⟩ := pl_head hm n (by simp [below]; omega)
  obtain rfl : k = K := by omega
  exact ⟨hk, by rw [Job.pre_succ, hp]; rfl⟩
theorem pre_rec {j : Job} (hm : j.may = true) (n i K : Nat) (h : (n : Int) < j.n) (hi : (i : Int) < j.l) (hK : (K : Int) = 9 + n * (1 + 2 * j.l) + 1 + 2 * i) : K + 1 < j.N ∧ j.pre (K + 2) = j.pre K ++ (fourC 4 n i 0 ++ fourC 4 n i 1) := by
  obtain ⟨k, hk, e, hp⟩ := pl_rec hm n i 0 (by simp [below]; omega) (by omega) (.inl rfl)
  obtain ⟨k', hk', e', hp'⟩ := pl_rec hm n i 1 (by simp [below]; omega) (by omega) (.inr rfl)
  obtain rfl : k = K := by omega
  obtain rfl : k' = k + 1 := by omega
  exact ⟨hk', by rw [show k + 2 = k + 1 + 1 from rfl, Job.pre_succ, Job.pre_succ, hp, hp', List.append_assoc]; rfl⟩
theorem pre_page {j : Job} (hm : j.may = true) (i K : Nat) (hi : (i : Int) < j.p) (hK : (K : Int) = j.L + 9 + 2 * i) : K + 1 < j.N ∧ j.pre (K + 2) = j.pre K ++ (fourC 5 0 i 0 ++ fourC 5 0 i 1) := by
  obtain ⟨k, hk, e, hp⟩ := pl_page hm i 0 (by simp [below]; omega) (.inl rfl)
  obtain ⟨k', hk', e', hp'⟩ := pl_page hm i 1 (by simp [below]; omega) (.inr rfl)
  obtain rfl : k = K := by omega
  obtain rfl : k' = k + 1 := by omega
  exact ⟨hk', by rw [show k + 2 = k + 1 + 1 from rfl, Job.pre_succ, Job.pre_succ, hp, hp', List.append_assoc]; rfl⟩

/-- How List ends: a row of its own that holds all places. -/
def GivesL (w : World) (j : Job) (e : Ending) (w' : World) : Prop := ∃ v, e = .returned v ∧ w'.ownsRow w.heap.size 37 4 v j.N (j.pre j.N) ∧ Kept [] w w'


set_option maxHeartbeats 2000000 in
set_option maxRecDepth 100000 in
theorem list7 (j : Job) (w : World) : Calls Try.prog 7 #[aggV (jobC j)] w fun e w' => GivesL w j e w' := by
  cases hm : j.may with
  | false =>
    go_enter Try.func7, Try.ntmps7
    go_wp2_with (
      first
      | (refine wpBoxV rfl (.tmp 0) rfl (jobC j) rfl ?_
         intro W1 b1 e1 B1 K1
         have BB := hide B1
         have KK := hide K1
         have hM := hide (may10 j W1)
         rw [hm] at hM
         clear e1 B1 K1)
      | (refine wpLoadA row23 rfl (.tmp 1) rfl b1 0 rfl (jobC j) rfl (unhide BB).range ?_)
      | (go_at_call 10; refine (unhide hM).mono ?_; rintro e W2 ⟨rfl, K2⟩
         have BB2 := hide ((unhide BB).kept K2 (by simp))
         have KK2 := hide ((unhide KK).trans K2)
         clear BB KK hM K2))
    go_ret
    refine ⟨_, rfl, ?_, unhide KK2⟩
    rw [Job.N_no hm]
    exact World.ownsRow_nil _ _ _ _
  | true =>
    have hN := Job.N_yes hm
    have hNl := Job.N_le j
    have hL := Job.L_le hm
    have hP := Job.p_le hm
    have hl := Job.l_le hm
    have hn : 2 ≤ j.n ∧ j.n ≤ 8 := by have := hm; simp only [Job.may, decide_eq_true_eq] at this; omega
    go_enter Try.func7, Try.ntmps7
    go_wp2_with (
      first
      | (refine wpBoxV rfl (.tmp 0) rfl (jobC j) rfl ?_
         intro W1 b1 e1 B1 K1
         have BB := hide B1
         have KK := hide K1
         have hM := hide (may10 j W1)
         rw [hm] at hM
         clear e1 B1 K1)
      | (refine wpLoadA row23 rfl (.tmp 1) rfl b1 0 rfl (jobC j) rfl (unhide BB).range ?_)
      | (go_at_call 10; refine (unhide hM).mono ?_; rintro e W2 ⟨rfl, K2⟩
         have BB2 := hide ((unhide BB).kept K2 (by simp))
         have KK2 := hide ((unhide KK).trans K2)
         clear BB KK hM K2)
      | (refine wpBuildP rfl _ rfl #[(0, .int .i64 1)] (by kernel_rfl) (fourC 1 0 0 0) (build37a _ _) ?_)
      | (refine wpBSliceP 1 _ rfl rfl #[(0, aggV (fourC 1 0 0 0))] (by kernel_rfl) (fourC 1 0 0 0) (bs1 _ _ _ _) ?_
         intro W3 g hg BG KG
         have OW := hide (own_new (B := W2.heap.size) (m := 1) BG (by omega) rfl (by omega))
         have BL := hide (Kept.below (Below.refl W2.heap.size W2) KG (Nat.le_refl _) (by simp))
         clear hg BG KG))
    go_loopw [4, 3] (fun i v wr => ∃ k : Nat, k ≤ 8 ∧ i = .int .i64 k ∧ Hid (wr.ownsRow W2.heap.size 37 4 v (1 + k) (j.pre (1 + k))) ∧ Hid (Below W2.heap.size W2 wr)) (fun i _ _ => 8 - (intOf i).toNat)
    case atStart => exact ⟨0, by omega, rfl, by rw [pre_1 hm]; exact unhide OW, BL⟩
    case round =>
      clear OW BL
      obtain ⟨k, hk8, rfl, OW, BL⟩ := hrel
      by_cases hlt : k < 8
      · have hpl := hide (pre_lease hm k hlt)
        go_wp2_with (
          first
          | (refine wpBuildP rfl _ rfl #[(0, .int .i64 2), (1, .int .i64 k)] (by kernel_rfl) (fourC 2 k 0 0) (build37b _ _ _) ?_)
          | (refine wpBSliceP 1 _ rfl rfl #[(0, aggV (fourC 2 k 0 0))] (by kernel_rfl) (fourC 2 k 0 0) (bs1 _ _ _ _) ?_
             intro W3 g hg BG KG
             have HG := hide BG
             have HO := hide (own_kept (unhide OW) KG)
             have HB := hide (Kept.below (unhide BL) KG (by have := (unhide BL).size; omega) (by simp))
             have hgs := hide hg
             clear hg BG KG OW BL)
          | (at_builtin; go_must (refine wpAppP rfl (.tmp 17) (.tmp 20) rfl W2.heap.size _ (1 + k) (j.pre (1 + k)) rfl g 1 rfl (fourC 2 k 0 0) rfl (unhide HG) (fourC_one _ _ _ _) (unhide HO) (by omega) (unhide HB).size ?_)
             intro v' W4 hO hB
             have OW := hide hO
             have BL := hide (hB _ (unhide HB))
             clear hO hB HG HO HB hgs))
        go_roundw
        case rel => exact ⟨k + 1, by omega, by go_num, by rw [← Nat.add_assoc, unhide hpl]; exact unhide OW, BL⟩
        case measure => simp [intOf]; omega
      · obtain rfl : k = 8 := by omega
        go_wp2_with fail
        have ow9 : Hid (wr.ownsRow W2.heap.size 37 4 u3 9 (j.pre 9)) := OW
        clear OW hk8 hlt
        go_loopw [5, 3] (fun i v wr => ∃ n K : Nat, (n : Int) ≤ j.n ∧ i = .int .i64 n ∧ Hid ((K : Int) = 9 + n * (1 + 2 * j.l)) ∧ Hid (wr.ownsRow W2.heap.size 37 4 v K (j.pre K)) ∧ Hid (Below W2.heap.size W2 wr)) (fun i _ _ => (j.n - intOf i).toNat)
        case atStart => exact ⟨0, 9, by omega, rfl, by show ((9 : Nat) : Int) = _; simp, ow9, BL⟩
        case round =>
          clear ow9 BL
          obtain ⟨n, K, hnn, rfl, hK, OW, BL⟩ := hrel
          obtain ⟨c0, c1, c2, c3, c4⟩ := Job.cells (Blk.kept (unhide BB2) (Kept.of_below (X := []) (unhide BL)) (by simp))
          by_cases hlt : (n : Int) < j.n
          · obtain ⟨hKN, hpl⟩ := pre_head hm n K hlt (unhide hK)
            have hpl := hide hpl
            go_wp2_with (
              first
              | (refine wpBuildP rfl _ rfl #[(0, .int .i64 3), (1, .int .i64 n)] (by kernel_rfl) (fourC 3 n 0 0) (build37b _ _ _) ?_)
              | (refine wpBSliceP 1 _ rfl rfl #[(0, aggV (fourC 3 n 0 0))] (by kernel_rfl) (fourC 3 n 0 0) (bs1 _ _ _ _) ?_
                 intro W3 g hg BG KG
                 have HG := hide BG
                 have HO := hide (own_kept (unhide OW) KG)
                 have HB := hide (Kept.below (unhide BL) KG (by have := (unhide BL).size; omega) (by simp))
                 have hgs := hide hg
                 clear hg BG KG OW BL)
              | (at_builtin; go_must (refine wpAppP rfl (.tmp 28) (.tmp 31) rfl W2.heap.size _ K (j.pre K) rfl g 1 rfl (fourC 3 n 0 0) rfl (unhide HG) (fourC_one _ _ _ _) (unhide HO) (by omega) (unhide HB).size ?_)
                 intro v' W4 hO hB
                 have OW := hide hO
                 have BL := hide (hB _ (unhide HB))
                 clear hO hB HG HO HB hgs))
            rw [← unhide hpl] at OW
            have hK1 : Hid (((K + 1 : Nat) : Int) = 9 + n * (1 + 2 * j.l) + 1 + 2 * ((0 : Nat) : Int)) := by have := unhide hK; show _ = _; omega
            go_loopw [6, 3] (fun i v wr => ∃ i' K : Nat, (i' : Int) ≤ j.l ∧ i = .int .i64 i' ∧ Hid ((K : Int) = 9 + n * (1 + 2 * j.l) + 1 + 2 * i') ∧ Hid (wr.ownsRow W2.heap.size 37 4 v K (j.pre K)) ∧ Hid (Below W2.heap.size W2 wr)) (fun i _ _ => (j.l - intOf i).toNat)
            case atStart => exact ⟨0, K + 1, by omega, rfl, hK1, OW, BL⟩
            case round =>
              clear OW BL hK1 c0 c1 c2 c3 c4
              obtain ⟨i', K', hii, rfl, hK', OW, BL⟩ := hrel
              obtain ⟨c0, c1, c2, c3, c4⟩ := Job.cells (Blk.kept (unhide BB2) (Kept.of_below (X := []) (unhide BL)) (by simp))
              by_cases hlt2 : (i' : Int) < j.l
              · obtain ⟨hKN', hpl'⟩ := pre_rec hm n i' K' hlt hlt2 (unhide hK')
                have hpl' := hide hpl'
                go_wp2_with (
                  first
                  | (refine wpBuildP rfl #[(0, .const (.int .i64 4)), (1, .tmp 40), (2, .tmp 41)] rfl #[(0, .int .i64 4), (1, .int .i64 n), (2, .int .i64 i')] (by kernel_rfl) (fourC 4 n i' 0) (build37f _ _ _ _) ?_)
                  | (refine wpBuildP rfl #[(0, .const (.int .i64 4)), (1, .tmp 43), (2, .tmp 44), (3, .const (.int .i64 1))] rfl #[(0, .int .i64 4), (1, .int .i64 n), (2, .int .i64 i'), (3, .int .i64 1)] (by kernel_rfl) (fourC 4 n i' 1) (build37d _ _ _ _ _) ?_)
                  | (refine wpBSliceP 2 _ rfl rfl #[(0, aggV (fourC 4 n i' 0)), (1, aggV (fourC 4 n i' 1))] (by kernel_rfl) (fourC 4 n i' 0 ++ fourC 4 n i' 1) (bs2 _ _ _ _ _ _ _ _) ?_
                     intro W3 g hg BG KG
                     have HG := hide BG
                     have HO := hide (own_kept (unhide OW) KG)
                     have HB := hide (Kept.below (unhide BL) KG (by have := (unhide BL).size; omega) (by simp))
                     have hgs := hide hg
                     clear hg BG KG OW BL)
                  | (at_builtin; go_must (refine wpAppP rfl (.tmp 39) (.tmp 46) rfl W2.heap.size _ K' (j.pre K') rfl g 2 rfl (fourC 4 n i' 0 ++ fourC 4 n i' 1) rfl (unhide HG) (four2_one _ _ _ _ _ _ _ _) (unhide HO) (by omega) (unhide HB).size ?_)
                     intro v' W4 hO hB
                     have OW := hide hO
                     have BL := hide (hB _ (unhide HB))
                     clear hO hB HG HO HB hgs))
                rw [← unhide hpl'] at OW
                go_roundw
                case rel => exact ⟨i' + 1, K' + 2, by omega, by go_num, by have := unhide hK'; show _ = _; omega, OW, BL⟩
                case measure => simp [intOf]; omega
              · go_wp2_with fail
                go_roundw
                case rel =>
                  have hKx : Hid ((K' : Int) = 9 + ((n + 1 : Nat) : Int) * (1 + 2 * j.l)) := by
                    have := unhide hK'
                    have e : (i' : Int) = j.l := by omega
                    rw [e] at this
                    show _ = _
                    rw [this, Int.natCast_add, Int.add_mul]; omega
                  exact ⟨n + 1, by omega, by go_num, K', hKx, OW⟩
                case measure => simp [intOf]; omega
          · have hK9 : Hid ((K : Int) = j.L + 9 + 2 * ((0 : Nat) : Int)) := by
              have := unhide hK
              have e : (n : Int) = j.n := by omega
              rw [e] at this
              have : j.n * (1 + 2 * j.l) = j.L := rfl
              show _ = _
              omega
            go_wp2_with fail
            go_loopw [7, 3] (fun i v wr => ∃ q K : Nat, (q : Int) ≤ j.p ∧ i = .int .i64 q ∧ Hid ((K : Int) = j.L + 9 + 2 * q) ∧ Hid (wr.ownsRow W2.heap.size 37 4 v K (j.pre K)) ∧ Hid (Below W2.heap.size W2 wr)) (fun i _ _ => (j.p - intOf i).toNat)
            case atStart => exact ⟨0, K, by omega, rfl, hK9, OW, BL⟩
            case round =>
              clear OW BL hK9 hK c0 c1 c2 c3 c4
              obtain ⟨q, K', hqq, rfl, hK', OW, BL⟩ := hrel
              obtain ⟨c0, c1, c2, c3, c4⟩ := Job.cells (Blk.kept (unhide BB2) (Kept.of_below (X := []) (unhide BL)) (by simp))
              by_cases hlt2 : (q : Int) < j.p
              · obtain ⟨hKN', hpl'⟩ := pre_page hm q K' hlt2 (unhide hK')
                have hpl' := hide hpl'
                go_wp2_with (
                  first
                  | (refine wpBuildP rfl #[(0, .const (.int .i64 5)), (2, .tmp 55)] rfl #[(0, .int .i64 5), (2, .int .i64 q)] (by kernel_rfl) (fourC 5 0 q 0) (build37g _ _ _) ?_)
                  | (refine wpBuildP rfl #[(0, .const (.int .i64 5)), (2, .tmp 57), (3, .const (.int .i64 1))] rfl #[(0, .int .i64 5), (2, .int .i64 q), (3, .int .i64 1)] (by kernel_rfl) (fourC 5 0 q 1) (build37c _ _ _ _) ?_)
                  | (refine wpBSliceP 2 _ rfl rfl #[(0, aggV (fourC 5 0 q 0)), (1, aggV (fourC 5 0 q 1))] (by kernel_rfl) (fourC 5 0 q 0 ++ fourC 5 0 q 1) (bs2 _ _ _ _ _ _ _ _) ?_
                     intro W3 g hg BG KG
                     have HG := hide BG
                     have HO := hide (own_kept (unhide OW) KG)
                     have HB := hide (Kept.below (unhide BL) KG (by have := (unhide BL).size; omega) (by simp))
                     have hgs := hide hg
                     clear hg BG KG OW BL)
                  | (at_builtin; go_must (refine wpAppP rfl (.tmp 54) (.tmp 59) rfl W2.heap.size _ K' (j.pre K') rfl g 2 rfl (fourC 5 0 q 0 ++ fourC 5 0 q 1) rfl (unhide HG) (four2_one _ _ _ _ _ _ _ _) (unhide HO) (by omega) (unhide HB).size ?_)
                     intro v' W4 hO hB
                     have OW := hide hO
                     have BL := hide (hB _ (unhide HB))
                     clear hO hB HG HO HB hgs))
                rw [← unhide hpl'] at OW
                go_roundw
                case rel => exact ⟨q + 1, K' + 2, by omega, by go_num, by have := unhide hK'; show _ = _; omega, OW, BL⟩
                case measure => simp [intOf]; omega
              · have hKK : K' = j.N := by have := unhide hK'; omega
                have hKH := hide hKK
                clear hKK
                go_wp2_with fail
                go_ret
                have ow2 := unhide OW
                rw [unhide hKH] at ow2
                exact ⟨_, rfl, own_lower ow2 (unhide KK2).size, keptBelow (unhide KK2) (unhide BL) (unhide KK2).size⟩

end Go.Proofs.Ytcfoebpbbmnleaa
