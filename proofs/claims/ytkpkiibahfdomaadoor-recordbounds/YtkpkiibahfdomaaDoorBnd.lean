/-
  The walk of RecordBounds.
-/
import Derived.Test.YtkpkiibahfdomaaDoorBnda
namespace Go.Proofs.YtkpkiibahfdomaaDoor
open Go.RowKit

theorem build27v (w : World) (a b : Int) : (Instr.build 27 #[(0, .int .i64 a), (1, .int .i64 b)]).run Tryd.prog w = .ok (aggV (hdC a b)) w := by kernel_rfl
theorem gl7_at {w : World} {b k : Nat} (h : Blk w b 70 (recsC gL7)) (hk : k < 8) : ∃ r : Rec, (isRec r = false ∧ Byts 96 r.bd) ∧ w.rangeAt b (k * 101) (recC r) := by
  have hS := RecS.of_blk (w := w) (g := b) (T := 70) (l := gL7) (ex := []) (by rw [List.append_nil]; exact h) (fun r hr => (gL7_no r hr).2.len)
  have hl : k < gL7.length := hk
  obtain ⟨b', o', e, hr⟩ := hS k gL7[k] (List.getElem?_eq_getElem hl)
  cases e
  rw [Nat.zero_add] at hr
  exact ⟨gL7[k], gL7_no _ (List.getElem_mem hl), hr⟩

set_option maxHeartbeats 4000000 in
set_option maxRecDepth 100000 in
theorem bounds7 (w : World) (hF0 : First w) : Calls Tryd.prog 7 #[] w fun e w' => e = .returned (.bool true) ∧ Kept [] w w' := by
  have hpos := hF0.pos
  have F0 := hide hF0
  clear hF0
  go_enter Tryd.func7, Tryd.ntmps7
  have KK0 := hide (Kept.refl [] w)
  go_wp2_with (
    first
    | (refine wpBuildP (by rfl) _ (by rfl) #[(0, .int .i64 7), (1, .int .i64 2147483647), (2, .int .i64 2147483647), (3, .int .i64 15), (4, .int .i64 2147483647)] (by kernel_rfl) (recC gr0) (build25g _) ?_)
    | (refine wpNew row25 (recC zrec) zrecl zero25 1 (by rfl) (by rfl) (by rfl) (.tmp 17) (by rfl) (by rfl) (by rfl) (recC gr0) gr0_l (recC_one _) (by kernel_rfl) (by kernel_rfl) ?_
       intro W1 b1 e1 B1 K1
       have Z1 : Hid (w.heap.size ≤ b1) := by have := (unhide KK0).size; show _ ≤ _; omega
       have X1_FF := hide ((unhide F0).kept K1)
       have KK1 := hide ((unhide KK0).trans K1)
       have X1_r := hide B1
       clear e1 B1 K1 F0 KK0)
    | (refine wpStore1 size5 (by rfl) (.tmp 19) (.const (.int .u8 255)) (by rfl) (by rfl) b1 100 .u8 255 25 (recC gr0) (by kernel_rfl) (by kernel_rfl) (unhide X1_r) (by kernel_rfl) ?_
       intro W2 B2 K2
       have X2_r : Hid (Blk W2 b1 25 (recC gr)) := by rw [set_g] at B2; exact B2
       have X2_FF := hide ((unhide X1_FF).keptX K2 (by have := unhide Z1; simp; omega))
       have KK2 := hide ((unhide KK1).fresh K2 (by have := unhide Z1; intro i hi hl; simp at hi; omega))
       clear B2 K2 X1_FF KK1 X1_r)
    | (refine wpLoadA row25 (by rfl) (.tmp 1) (by rfl) b1 0 (by kernel_rfl) (recC gr) gr_l (unhide X2_r).range ?_))
  refine (put_at gr_b put_g _).mono ?_
  rintro e W3 ⟨rfl, K3⟩
  have X3_FF := hide ((unhide X2_FF).kept K3)
  have X3_r := hide ((unhide X2_r).kept K3 (by simp))
  have KK3 := hide ((unhide KK2).trans K3)
  clear K3 X2_FF X2_r KK2
  go_wp2_with (
    first
    | (refine wpNew row30 (u8s (zs 128)) (zl 128) zero30 2 (by rfl) (by rfl) (by rfl) (.tmp 23) (by rfl) (by rfl) (by rfl) (u8s (gA0 ++ gA1)) (pair_len gA0_b gA1_b) (u8s_one _) (by kernel_rfl) (by kernel_rfl) ?_
       intro W4 b4 e4 B4 K4
       have Z4 : Hid (w.heap.size ≤ b4) := by have := (unhide KK3).size; show _ ≤ _; omega
       have X4_FF := hide ((unhide X3_FF).kept K4)
       have X4_r := hide ((unhide X3_r).kept K4 (by simp))
       have KK4 := hide ((unhide KK3).trans K4)
       clear e4 B4 K4 X3_FF X3_r KK3)
    | (refine wpAllocW (recsC (List.replicate 8 zrec)) zero70 4 (by rfl) (by rfl) (by rfl) ?_
       intro W5 b5 e5 B5 K5
       have Z5 : Hid (w.heap.size ≤ b5) := by have := (unhide KK4).size; show _ ≤ _; omega
       have O5_r : Hid (b1 < b5) := by have := (unhide X4_r).lt; show _ < _; omega
       have X5_FF := hide ((unhide X4_FF).kept K5)
       have X5_r := hide ((unhide X4_r).kept K5 (by simp))
       have KK5 := hide ((unhide KK4).trans K5)
       have X5_l : Hid (Blk W5 b5 70 (recsC (fillL 0))) := B5
       clear e5 B5 K5 X4_FF X4_r KK4))
  obtain ⟨G, hGd⟩ : ∃ G : Rec, gr = G := ⟨_, rfl⟩
  have G_l : (recC G).length = 101 := hGd ▸ gr_l
  obtain ⟨F, hF⟩ : ∃ F : Nat → List Value, ∀ k, recsC (fillL k) = F k := ⟨_, fun _ => rfl⟩
  have hFl : Hid (∀ k, k ≤ 8 → (F k).length = 808) := fun k hk => by rw [← hF]; exact fill_len k hk
  have hFs : Hid (∀ (w : World) (k : Nat), k < 8 → Blk w b5 70 (F k) → Blk (w.setCells b5 (k * 101) (recC G)) b5 70 (F (k + 1))) := fun w k hk h => by rw [← hF] at h ⊢; rw [← hGd]; exact fill_step hk h
  rw [hGd] at X5_r
  rw [hF] at X5_l
  obtain ⟨M0, M1, M2, M3, M4, M5, M6, M7, q0, q1, q2, q3, q4, q5, q6, q7, hM⟩ : ∃ M0 M1 M2 M3 M4 M5 M6 M7 : List Value, (F 8).set 0 (.int .i64 8) = M0 ∧ M0.set 102 (.int .i64 2147483648) = M1 ∧ M1.set 204 (.int .i64 2147483648) = M2 ∧ M2.set 306 (.int .i64 16) = M3 ∧ M3.set 408 (.int .i64 2147483648) = M4 ∧ M4.set 506 (.int .i64 0) = M5 ∧ M5.set 608 (.int .i64 0) = M6 ∧ M6.set 711 (.int .i64 0) = M7 ∧
      (∀ w : World, Blk w b5 70 M7 → ∀ k, k < 8 → ∃ r : Rec, (isRec r = false ∧ Byts 96 r.bd) ∧ w.rangeAt b5 (k * 101) (recC r)) :=
    ⟨recsC gL0, recsC gL1, recsC gL2, recsC gL3, recsC gL4, recsC gL5, recsC gL6, recsC gL7, by rw [← hF]; exact sg0, sg1, sg2, sg3, sg4, sg5, sg6, sg7, fun w h k hk => gl7_at h hk⟩
  have Q0 := hide q0
  have Q1 := hide q1
  have Q2 := hide q2
  have Q3 := hide q3
  have Q4 := hide q4
  have Q5 := hide q5
  have Q6 := hide q6
  have Q7 := hide q7
  have HM := hide hM
  clear hGd hF q0 q1 q2 q3 q4 q5 q6 q7 hM
  generalize recC gr0 = rr0
  generalize recC gr = rr
  generalize u8s (gA0 ++ gA1) = yy
  go_loopw [5] (fun i wr => ∃ k : Nat, k ≤ 8 ∧ i = .int .i64 k ∧ Hid (First wr) ∧ Hid (Blk wr b1 25 (recC G)) ∧ Hid (Blk wr b5 70 (F k)) ∧ Hid (Kept [] w wr)) (fun i _ => 8 - (intOf i).toNat)
  case atStart => exact ⟨0, by omega, rfl, X5_FF, X5_r, X5_l, KK5⟩
  case round =>
    obtain ⟨k, hk8, rfl, RF, RR, RL, RK⟩ := hrel
    clear X5_FF X5_r X5_l KK5
    by_cases hlt : k < 8
    · have hz := unhide Z5
      have ho := unhide O5_r
      have SL := hide (unhide hFs wr k hlt (unhide RL))
      have SK : Hid (Kept [] w (wr.setCells b5 (k * 101) (recC G))) := (unhide RK).setCells (recC G) (k * 101) (fun h => absurd h (Nat.not_lt.2 hz))
      have SR : Hid (Blk (wr.setCells b5 (k * 101) (recC G)) b1 25 (recC G)) := (unhide RR).other (Nat.ne_of_lt ho)
      have SF : Hid (First (wr.setCells b5 (k * 101) (recC G))) := (unhide RF).keptX ((Kept.refl [b5] _).setCells (recC G) (k * 101) (by simp)) (by simp; omega)
      have TH : Hid (wr.there b5 (k * 101) 101) := (unhide RL).there (by rw [unhide hFl k (Nat.le_of_lt hlt)]; omega)
      clear hz ho RL RK RF
      go_wp2_with (
        first
        | (refine wpLoadA row25 (by rfl) (.tmp 1) (by rfl) b1 0 (by kernel_rfl) (recC G) G_l (unhide RR).range ?_)
        | (refine wpIdx70 (by rfl) (.tmp 4) (.tmp 29) (by rfl) b5 k hlt (by kernel_rfl) (by kernel_rfl) ?_)
        | (refine wpStoreA row25 (by rfl) (.tmp 31) (.tmp 30) (by rfl) b5 (k * 101) (recC G) (by kernel_rfl) (by kernel_rfl) G_l (recC_one _) (unhide TH) ?_
           generalize wr.setCells b5 (k * 101) (recC G) = WN at SL SK SR SF ⊢))
      go_roundw
      case rel => exact ⟨k + 1, by omega, by simp, SF, SR, SL, SK⟩
      case measure => simp [intOf]; omega
    · obtain rfl : k = 8 := by omega
      have hz := unhide Z5
      have ML : Hid ((F 8).length = 808 ∧ M0.length = 808 ∧ M1.length = 808 ∧ M2.length = 808 ∧ M3.length = 808 ∧ M4.length = 808 ∧ M5.length = 808 ∧ M6.length = 808) := by
        have h8 := unhide hFl 8 (by omega)
        have h0 : M0.length = 808 := by rw [← unhide Q0, List.length_set]; exact h8
        have h1 : M1.length = 808 := by rw [← unhide Q1, List.length_set]; exact h0
        have h2 : M2.length = 808 := by rw [← unhide Q2, List.length_set]; exact h1
        have h3 : M3.length = 808 := by rw [← unhide Q3, List.length_set]; exact h2
        have h4 : M4.length = 808 := by rw [← unhide Q4, List.length_set]; exact h3
        have h5 : M5.length = 808 := by rw [← unhide Q5, List.length_set]; exact h4
        have h6 : M6.length = 808 := by rw [← unhide Q6, List.length_set]; exact h5
        exact ⟨h8, h0, h1, h2, h3, h4, h5, h6⟩
      obtain ⟨l8, l0, l1, l2, l3, l4, l5, l6⟩ := unhide ML
      have D0 := hide (show decide (0 < (F 8).length) = true by rw [l8]; rfl)
      have D1 := hide (show decide (102 < M0.length) = true by rw [l0]; rfl)
      have D2 := hide (show decide (204 < M1.length) = true by rw [l1]; rfl)
      have D3 := hide (show decide (306 < M2.length) = true by rw [l2]; rfl)
      have D4 := hide (show decide (408 < M3.length) = true by rw [l3]; rfl)
      have D5 := hide (show decide (506 < M4.length) = true by rw [l4]; rfl)
      have D6 := hide (show decide (608 < M5.length) = true by rw [l5]; rfl)
      have D7 := hide (show decide (711 < M6.length) = true by rw [l6]; rfl)
      clear l8 l0 l1 l2 l3 l4 l5 l6 hz ML RR
      go_wp2_with (
        first
        | (refine wpIdx70 (by rfl) (.tmp 4) (.const (.int .i64 0)) (by rfl) b5 0 (by decide) (by kernel_rfl) (by rfl) ?_)
        | (refine wpIdx70 (by rfl) (.tmp 4) (.const (.int .i64 1)) (by rfl) b5 1 (by decide) (by kernel_rfl) (by rfl) ?_)
        | (refine wpIdx70 (by rfl) (.tmp 4) (.const (.int .i64 2)) (by rfl) b5 2 (by decide) (by kernel_rfl) (by rfl) ?_)
        | (refine wpIdx70 (by rfl) (.tmp 4) (.const (.int .i64 3)) (by rfl) b5 3 (by decide) (by kernel_rfl) (by rfl) ?_)
        | (refine wpIdx70 (by rfl) (.tmp 4) (.const (.int .i64 4)) (by rfl) b5 4 (by decide) (by kernel_rfl) (by rfl) ?_)
        | (refine wpIdx70 (by rfl) (.tmp 4) (.const (.int .i64 5)) (by rfl) b5 5 (by decide) (by kernel_rfl) (by rfl) ?_)
        | (refine wpIdx70 (by rfl) (.tmp 4) (.const (.int .i64 6)) (by rfl) b5 6 (by decide) (by kernel_rfl) (by rfl) ?_)
        | (refine wpIdx70 (by rfl) (.tmp 4) (.const (.int .i64 7)) (by rfl) b5 7 (by decide) (by kernel_rfl) (by rfl) ?_)
        | (refine wpStore1 size3 (by rfl) (.tmp 33) (.const (.int .i64 8)) (by rfl) (by rfl) b5 0 .i64 8 70 (F 8) (by kernel_rfl) (by kernel_rfl) (unhide RL) (unhide D0) ?_
           intro V0 B0 K0
           have L0 : Hid (Blk V0 b5 70 M0) := by rw [unhide Q0] at B0; exact B0
           replace RF := hide ((unhide RF).keptX K0 (by have := unhide Z5; simp; omega))
           replace RK := hide ((unhide RK).fresh K0 (by have := unhide Z5; intro i hi hl; simp at hi; omega))
           clear B0 K0 RL)
        | (refine wpStore1 size2 (by rfl) (.tmp 35) (.const (.int .i64 2147483648)) (by rfl) (by rfl) b5 102 .i64 2147483648 70 M0 (by kernel_rfl) (by kernel_rfl) (unhide L0) (unhide D1) ?_
           intro V1 B1 K1
           have L1 : Hid (Blk V1 b5 70 M1) := by rw [unhide Q1] at B1; exact B1
           replace RF := hide ((unhide RF).keptX K1 (by have := unhide Z5; simp; omega))
           replace RK := hide ((unhide RK).fresh K1 (by have := unhide Z5; intro i hi hl; simp at hi; omega))
           clear B1 K1 L0)
        | (refine wpStore1 size2 (by rfl) (.tmp 37) (.const (.int .i64 2147483648)) (by rfl) (by rfl) b5 204 .i64 2147483648 70 M1 (by kernel_rfl) (by kernel_rfl) (unhide L1) (unhide D2) ?_
           intro V2 B2 K2
           have L2 : Hid (Blk V2 b5 70 M2) := by rw [unhide Q2] at B2; exact B2
           replace RF := hide ((unhide RF).keptX K2 (by have := unhide Z5; simp; omega))
           replace RK := hide ((unhide RK).fresh K2 (by have := unhide Z5; intro i hi hl; simp at hi; omega))
           clear B2 K2 L1)
        | (refine wpStore1 size3 (by rfl) (.tmp 39) (.const (.int .i64 16)) (by rfl) (by rfl) b5 306 .i64 16 70 M2 (by kernel_rfl) (by kernel_rfl) (unhide L2) (unhide D3) ?_
           intro V3 B3 K3
           have L3 : Hid (Blk V3 b5 70 M3) := by rw [unhide Q3] at B3; exact B3
           replace RF := hide ((unhide RF).keptX K3 (by have := unhide Z5; simp; omega))
           replace RK := hide ((unhide RK).fresh K3 (by have := unhide Z5; intro i hi hl; simp at hi; omega))
           clear B3 K3 L2)
        | (refine wpStore1 size2 (by rfl) (.tmp 41) (.const (.int .i64 2147483648)) (by rfl) (by rfl) b5 408 .i64 2147483648 70 M3 (by kernel_rfl) (by kernel_rfl) (unhide L3) (unhide D4) ?_
           intro V4 B4 K4
           have L4 : Hid (Blk V4 b5 70 M4) := by rw [unhide Q4] at B4; exact B4
           replace RF := hide ((unhide RF).keptX K4 (by have := unhide Z5; simp; omega))
           replace RK := hide ((unhide RK).fresh K4 (by have := unhide Z5; intro i hi hl; simp at hi; omega))
           clear B4 K4 L3)
        | (refine wpStore1 size2 (by rfl) (.tmp 43) (.const (.int .i64 0)) (by rfl) (by rfl) b5 506 .i64 0 70 M4 (by kernel_rfl) (by kernel_rfl) (unhide L4) (unhide D5) ?_
           intro V5 B5 K5
           have L5 : Hid (Blk V5 b5 70 M5) := by rw [unhide Q5] at B5; exact B5
           replace RF := hide ((unhide RF).keptX K5 (by have := unhide Z5; simp; omega))
           replace RK := hide ((unhide RK).fresh K5 (by have := unhide Z5; intro i hi hl; simp at hi; omega))
           clear B5 K5 L4)
        | (refine wpStore1 size2 (by rfl) (.tmp 45) (.const (.int .i64 0)) (by rfl) (by rfl) b5 608 .i64 0 70 M5 (by kernel_rfl) (by kernel_rfl) (unhide L5) (unhide D6) ?_
           intro V6 B6 K6
           have L6 : Hid (Blk V6 b5 70 M6) := by rw [unhide Q6] at B6; exact B6
           replace RF := hide ((unhide RF).keptX K6 (by have := unhide Z5; simp; omega))
           replace RK := hide ((unhide RK).fresh K6 (by have := unhide Z5; intro i hi hl; simp at hi; omega))
           clear B6 K6 L5)
        | (refine wpStore1 size2 (by rfl) (.tmp 47) (.const (.int .i64 0)) (by rfl) (by rfl) b5 711 .i64 0 70 M6 (by kernel_rfl) (by kernel_rfl) (unhide L6) (unhide D7) ?_
           intro V7 B7 K7
           have L7 : Hid (Blk V7 b5 70 M7) := by rw [unhide Q7] at B7; exact B7
           replace RF := hide ((unhide RF).keptX K7 (by have := unhide Z5; simp; omega))
           replace RK := hide ((unhide RK).fresh K7 (by have := unhide Z5; intro i hi hl; simp at hi; omega))
           clear B7 K7 L6))
      go_loopw [6] (fun i wr => ∃ k : Nat, k ≤ 8 ∧ i = .int .i64 k ∧ Hid (First wr) ∧ Hid (Blk wr b5 70 M7) ∧ Hid (Kept [] w wr)) (fun i _ => 8 - (intOf i).toNat)
      case atStart => exact ⟨0, by omega, rfl, RF, L7, RK⟩
      case round =>
        clear RF L7 RK
        obtain ⟨k, hk8, rfl, RF, RL, RK⟩ := hrel
        by_cases hlt : k < 8
        · obtain ⟨r, hr, hrg⟩ := unhide HM wr (unhide RL) k hlt
          have HR := hide hrg
          have hrl := recC_len hr.2.len
          have P8 := hide (put_no hr)
          clear hr hrg
          go_wp2_with (
            first
            | (refine wpIdx70 (by rfl) (.tmp 4) (.tmp 53) (by rfl) b5 k hlt (by kernel_rfl) (by kernel_rfl) ?_)
            | (refine wpLoadA row25 (by rfl) (.tmp 54) (by rfl) b5 (k * 101) (by kernel_rfl) (recC r) hrl (unhide HR) ?_)
            | (go_at_call 8; refine (unhide P8 _).mono ?_; clear P8 HR; rintro e V9 ⟨rfl, K9⟩
               replace RF := hide ((unhide RF).kept K9)
               replace RL := hide ((unhide RL).kept K9 (by simp))
               replace RK := hide ((unhide RK).trans K9)
               clear K9)
            | (refine wpNew row30 (u8s (zs 128)) (zl 128) zero30 7 (by rfl) (by rfl) (by rfl) (.tmp 57) (by rfl) (by rfl) (by rfl) (u8s (zs 128)) (zl 128) (u8s_one _) (by kernel_rfl) (by kernel_rfl) ?_
               intro V10 bv ev BV KV
               replace RF := hide ((unhide RF).kept KV)
               replace RL := hide ((unhide RL).kept KV (by simp))
               replace RK := hide ((unhide RK).trans KV)
               clear ev BV KV)
            | (go_at_call 11; refine (num11 _ _).mono ?_; rintro e W' ⟨rfl, rfl⟩))
          go_roundw
          case rel => exact ⟨k + 1, by omega, by go_num, RF, RL, RK⟩
          case measure => simp [intOf]; omega
        · obtain rfl : k = 8 := by omega
          obtain ⟨S1, lS1, c1⟩ : ∃ S : List Int, (u8s S).length = 64 ∧ ∀ W, First W → Calls Tryd.prog 9 #[aggV (hdC 2147483647 2147483647)] W fun e w' => e = .returned (.tuple #[aggV (u8s S), .int .i64 0]) ∧ Kept [] W w' := ⟨_, by rw [u8s_len]; exact (puthR_byts 2147483647 2147483647).len, fun W h => puth_at (x := ((puthR 2147483647 2147483647).1, 0)) (by rw [ph_1]) W h⟩
          have P1 := hide c1
          have P2 : Hid (∀ W, First W → Calls Tryd.prog 9 #[aggV (hdC 2147483648 1)] W fun e w' => e = .returned (.tuple #[aggV (u8s (zs 64)), .int .i64 2]) ∧ Kept [] W w') := fun W h => puth_at ph_2 W h
          have P3 : Hid (∀ W, First W → Calls Tryd.prog 9 #[aggV (hdC 0 1)] W fun e w' => e = .returned (.tuple #[aggV (u8s (zs 64)), .int .i64 2]) ∧ Kept [] W w') := fun W h => puth_at ph_3 W h
          have P4 : Hid (∀ W, First W → Calls Tryd.prog 9 #[aggV (hdC 1 2147483648)] W fun e w' => e = .returned (.tuple #[aggV (u8s (zs 64)), .int .i64 2]) ∧ Kept [] W w') := fun W h => puth_at ph_4 W h
          obtain ⟨FA, FB, fA, fB, fF⟩ : ∃ FA FB : Rec, (∀ W : World, (Instr.build 25 #[(2, .int .i64 9223372036854775807)]).run Tryd.prog W = .ok (aggV (recC FA)) W) ∧ (∀ W : World, (Instr.build 25 #[(2, .int .i64 (-9223372036854775808))]).run Tryd.prog W = .ok (aggV (recC FB)) W) ∧ ∀ W, Calls Tryd.prog 24 #[aggV (recC FA), aggV (recC FB)] W fun e w' => e = .returned (.bool false) ∧ Kept [] W w' := ⟨fa, fb, build25fa, build25fb, fol_ab⟩
          have HFA := hide fA
          have HFB := hide fB
          have P5 := hide fF
          clear c1 fA fB fF RL
          go_wp2_with (
            first
            | (refine wpBuildP (by rfl) #[(0, .const (.int .i64 2147483647)), (1, .const (.int .i64 2147483647))] (by rfl) #[(0, .int .i64 2147483647), (1, .int .i64 2147483647)] (by kernel_rfl) (hdC 2147483647 2147483647) (build27v _ _ _) ?_)
            | (refine wpBuildP (by rfl) #[(0, .const (.int .i64 2147483648)), (1, .const (.int .i64 1))] (by rfl) #[(0, .int .i64 2147483648), (1, .int .i64 1)] (by kernel_rfl) (hdC 2147483648 1) (build27v _ _ _) ?_)
            | (refine wpBuildP (by rfl) #[(0, .const (.int .i64 0)), (1, .const (.int .i64 1))] (by rfl) #[(0, .int .i64 0), (1, .int .i64 1)] (by kernel_rfl) (hdC 0 1) (build27v _ _ _) ?_)
            | (refine wpBuildP (by rfl) #[(0, .const (.int .i64 1)), (1, .const (.int .i64 2147483648))] (by rfl) #[(0, .int .i64 1), (1, .int .i64 2147483648)] (by kernel_rfl) (hdC 1 2147483648) (build27v _ _ _) ?_)
            | (go_at_call 9; refine (unhide P1 _ (unhide RF)).mono ?_; clear P1; rintro e V1 ⟨rfl, K1⟩
               replace RF := hide ((unhide RF).kept K1)
               replace RK := hide ((unhide RK).trans K1)
               clear K1)
            | (go_at_call 9; refine (unhide P2 _ (unhide RF)).mono ?_; clear P2; rintro e V1 ⟨rfl, K1⟩
               replace RF := hide ((unhide RF).kept K1)
               replace RK := hide ((unhide RK).trans K1)
               clear K1)
            | (go_at_call 9; refine (unhide P3 _ (unhide RF)).mono ?_; clear P3; rintro e V1 ⟨rfl, K1⟩
               replace RF := hide ((unhide RF).kept K1)
               replace RK := hide ((unhide RK).trans K1)
               clear K1)
            | (go_at_call 9; refine (unhide P4 _ (unhide RF)).mono ?_; clear P4; rintro e V1 ⟨rfl, K1⟩
               replace RF := hide ((unhide RF).kept K1)
               replace RK := hide ((unhide RK).trans K1)
               clear K1)
            | (refine wpNew row29 (u8s (zs 64)) (zl 64) zero29 9 (by rfl) (by rfl) (by rfl) (.tmp 65) (by rfl) (by rfl) (by rfl) (u8s S1) lS1 (u8s_one _) (by kernel_rfl) (by kernel_rfl) ?_
               intro V2 bv ev BV KV
               replace RF := hide ((unhide RF).kept KV)
               replace RK := hide ((unhide RK).trans KV)
               clear ev BV KV)
            | (refine wpNew row29 (u8s (zs 64)) (zl 64) zero29 11 (by rfl) (by rfl) (by rfl) (.tmp 70) (by rfl) (by rfl) (by rfl) (u8s (zs 64)) (zl 64) (u8s_one _) (by kernel_rfl) (by kernel_rfl) ?_
               intro V2 bv ev BV KV
               replace RF := hide ((unhide RF).kept KV)
               replace RK := hide ((unhide RK).trans KV)
               clear ev BV KV)
            | (refine wpNew row29 (u8s (zs 64)) (zl 64) zero29 13 (by rfl) (by rfl) (by rfl) (.tmp 75) (by rfl) (by rfl) (by rfl) (u8s (zs 64)) (zl 64) (u8s_one _) (by kernel_rfl) (by kernel_rfl) ?_
               intro V2 bv ev BV KV
               replace RF := hide ((unhide RF).kept KV)
               replace RK := hide ((unhide RK).trans KV)
               clear ev BV KV)
            | (refine wpNew row29 (u8s (zs 64)) (zl 64) zero29 15 (by rfl) (by rfl) (by rfl) (.tmp 80) (by rfl) (by rfl) (by rfl) (u8s (zs 64)) (zl 64) (u8s_one _) (by kernel_rfl) (by kernel_rfl) ?_
               intro V2 bv ev BV KV
               replace RF := hide ((unhide RF).kept KV)
               replace RK := hide ((unhide RK).trans KV)
               clear ev BV KV)
            | (go_at_call 11; refine (num11 _ _).mono ?_; rintro e W' ⟨rfl, rfl⟩)
            | (go_at_call 23; refine (run_0 _).mono ?_; rintro e V3 ⟨rfl, K3⟩
               replace RF := hide ((unhide RF).kept K3)
               replace RK := hide ((unhide RK).trans K3)
               clear K3)
            | (refine wpBuildG #[(2, .const (.int .i64 9223372036854775807))] (by rfl) (by kernel_rfl) #[(2, .int .i64 9223372036854775807)] (by kernel_rfl) (recC FA) (unhide HFA _) ?_)
            | (refine wpBuildG #[(2, .const (.int .i64 (-9223372036854775808)))] (by rfl) (by kernel_rfl) #[(2, .int .i64 (-9223372036854775808))] (by kernel_rfl) (recC FB) (unhide HFB _) ?_)
            | (go_at_call 24; refine (unhide P5 _).mono ?_; clear P5; rintro e V4 ⟨rfl, K4⟩
               replace RF := hide ((unhide RF).kept K4)
               replace RK := hide ((unhide RK).trans K4)
               clear K4)
            | (go_at_call 15; refine (known15 _ (unhide RF)).mono ?_; rintro e V5 ⟨rfl, K5⟩
               replace RK := hide ((unhide RK).trans K5)
               clear K5))
          go_ret
          exact ⟨rfl, unhide RK⟩

end Go.Proofs.YtkpkiibahfdomaaDoor
