/-
  New: a device for a job, all nodes up.
-/
import Derived.Test.YtmeajhdhiebkdaaDoorLu
namespace Go.Proofs.YtmeajhdhiebkdaaDoor
set_option maxRecDepth 100000
open Go.RowKit

def ups (D : Dv.Dev) : Nat → Dv.Dev
  | 0 => D
  | k + 1 => ((ups D k).up k).2.2
@[reducible] def S10 (w V : World) (D : Dv.Dev) (d : Nat → Bool) (vs : Nat → Value) (W : World) : Prop :=
  Kept [] V W ∧ ∃ b g : Nat, (d 4 = true → vs 4 = .tuple #[P0 b, .int .i64 0] ∧ w.heap.size ≤ b ∧ w.heap.size ≤ g ∧ Dv.Dv W b g D) ∧ (d 5 = true → vs 5 = .tuple #[P0 b, .int .i64 0]) ∧ (d 6 = true → vs 6 = P0 b) ∧ (d 8 = true → vs 8 = P0 b)
theorem S10.loc {w V : World} {D : Dv.Dev} : ∀ d d' vs vs' W, (∀ i ∈ [4, 5, 6, 8], d i = d' i ∧ vs i = vs' i) → S10 w V D d vs W → S10 w V D d' vs' W := by
  intro d d' vs vs' W H h
  have e0 := H 4 (by simp)
  have e1 := H 5 (by simp)
  have e2 := H 6 (by simp)
  have e3 := H 8 (by simp)
  unfold S10 at h ⊢
  rw [← e0.1, ← e0.2, ← e1.1, ← e1.2, ← e2.1, ← e2.2, ← e3.1, ← e3.2]
  exact h
theorem cg25 (vs : Array Value) (w : World) : (callFunc 25 vs).run Tryd.prog w = .ok (.enter 25 vs) w := by kernel_rfl
theorem cg30 (vs : Array Value) (w : World) : (callFunc 30 vs).run Tryd.prog w = .ok (.enter 30 vs) w := by kernel_rfl
section
variable {o : Oper} {a : Act} {w : World} {K : Act → World → Prop} {Q : Exit → Act → World → Prop}
theorem o_fld23_0 (x : Operand) (ho : o.op = .fieldAddr 23 x 0) (b : Nat) (hx : a.eval x = P0 b) (h : K (a.put o.dst (.pointer (some ⟨b, 0, none⟩))) w) : o.wp Tryd.prog a w K Q := by
  unfold Oper.wp execOp
  simp only [ho, hx]
  simp [go_sem]
  exact h
end
set_option maxHeartbeats 4000000 in
theorem lnew10 (J : Ar.Job) (hm : J.may = true) (w : World) : Calls Tryd.prog 10 #[aggV (Ar.jobC J)] w fun e w' => ∃ b g, e = .returned (P0 b) ∧ w.heap.size ≤ b ∧ w.heap.size ≤ g ∧ Dv.Dv w' b g (ups (Dv.newDev J.sectors.1.toNat J.n.toNat) J.n.toNat) ∧ Kept [] w w' := by
  have P25 := hide (fun W => rsect25 J hm W)
  obtain ⟨n, hn⟩ : ∃ x, x = J.sectors.1.toNat := ⟨_, rfl⟩
  obtain ⟨N, hN⟩ : ∃ x, x = J.n.toNat := ⟨_, rfl⟩
  obtain ⟨D, hDd⟩ : ∃ x, x = Dv.newDev n N := ⟨_, rfl⟩
  have HDD : Hid (D = Dv.newDev n N) := hDd
  have hsec : (n : Int) = J.sectors.1 ∧ 1 ≤ n ∧ n ≤ 4096 := by
    have h9 := hm
    simp only [Ar.Job.may, decide_eq_true_eq] at h9
    have h1 : J.n * (1 + 2 * J.l) ≤ 8 * 129 := Int.mul_le_mul (by omega) (by omega) (by omega) (by omega)
    have h2 : 0 ≤ J.n * (1 + 2 * J.l) := Int.mul_nonneg (by omega) (by omega)
    have e : J.sectors.1 = J.p * 2 + (J.n * (1 + 2 * J.l) + 9) := by unfold Ar.Job.sectors Ar.Job.L; rw [if_pos hm]
    rw [e] at hn ⊢
    omega
  simp only [Ar.Job.may, decide_eq_true_eq] at hm
  have hNn : (N : Int) = J.n := by omega
  have HNB : Hid (Dv.newB n N = true) := by
    show _ = _
    simp only [Dv.newB, decide_eq_true_eq]
    omega
  rw [← hsec.1] at P25
  rw [← hn, ← hN, ← hDd]
  have hN8 : N ≤ 8 := by omega
  have HNN := hide hNn
  clear hn hN hDd hsec hm hNn
  go_enter Tryd.func10, Tryd.ntmps10
  go_wp2_with (
    first
    | (refine wpBoxV (by rfl) (.tmp 0) (by rfl) (Ar.jobC J) (by kernel_rfl) ?_
       intro V q1b e1 B1 K1
       have H1 := hide B1
       have HK := hide K1
       have HCN : Hid (V.cell? ⟨q1b, 0, none⟩ = some (.int .i64 (N : Int))) := by show _ = _; rw [unhide HNN]; exact fits_cell B1 0 _ rfl
       have HG1 : Hid (w.heap.size ≤ q1b) := by rw [e1]; exact (Nat.le_refl _ : w.heap.size ≤ w.heap.size)
       clear e1 B1 K1
       refine Stp.go ?_))
  constructor
  go_wp2_with fail
  refine wp_region_any mixed (wpAny_gx 10 rfl (by kernel_rfl) [some (aggV (Ar.jobC J)), some (.int .i64 (n : Int)), some (.pointer (some ⟨q1b, 0, none⟩)), some (.int .i64 (N : Int)), none, none, none, some (.int .i64 0), none, some (.int .i64 0)] rfl (by kernel_rfl) (fun l_ vs W => (S10 w V D) (fun i => l_.getD i false) vs W) (⟨⟨rfl, rfl, rfl, Nat.le_refl _, fun _ _ _ => rfl⟩, 0, 0, (fun h => by cases h), (fun h => by cases h), (fun h => by cases h), fun h => by cases h⟩) ?_ ?_)
  · intro ix o' hi ho a' w2 l_ vs hls hlf hJ hout hin hdep hnot
    match ix, ho with
    | 0, ho =>
      obtain rfl := Option.some.inj ho
      have e0 := hout 1 (by kernel_rfl)
      replace e0 : a'.eval (.tmp 1) = _ := e0.trans rfl
      exact wp_loadA row23 (.tmp 1) rfl q1b 0 e0 (Ar.jobC J) rfl ((unhide H1).kept hJ.1 (by simp)).range ⟨_, rfl, told_of rfl, keepG (St := (S10 w V D)) [4, 5, 6, 8] S10.loc (by omega) (by decide) hJ⟩
    | 1, ho =>
      obtain rfl := Option.some.inj ho
      have e0 : a'.eval (.tmp 7) = aggV (Ar.jobC J) := by have h9 := hin 0 7 (by kernel_rfl) (by kernel_rfl); exact h9.1.trans (told_is _ h9.2 rfl)
      refine wp_callF 25 _ _ rfl #[aggV (Ar.jobC J)] (by simp [e0]) (cg25 _ _) ((unhide P25 w2).mono ?_)
      rintro e w3 ⟨rfl, hk3⟩
      obtain ⟨hk0, b, g, g1, g2, g3, g4⟩ := hJ
      exact ⟨_, rfl, _, rfl, told_of rfl, keepG (St := (S10 w V D)) [4, 5, 6, 8] S10.loc (by omega) (by decide) ⟨hk0.trans hk3, b, g, (fun h => by obtain ⟨q1, q2, q3, q4⟩ := g1 h; exact ⟨q1, q2, q3, q4.kept hk3 (by simp) (by simp)⟩), g2, g3, g4⟩⟩
    | 2, ho =>
      obtain rfl := Option.some.inj ho
      have e0 := hout 1 (by kernel_rfl)
      replace e0 : a'.eval (.tmp 1) = _ := e0.trans rfl
      exact o_fld23_0 (.tmp 1) rfl _ e0 ⟨_, rfl, told_of rfl, keepG (St := (S10 w V D)) [4, 5, 6, 8] S10.loc (by omega) (by decide) hJ⟩
    | 3, ho =>
      obtain rfl := Option.some.inj ho
      have e0 : a'.eval (.tmp 9) = .pointer (some ⟨q1b, 0, none⟩) := by have h9 := hin 2 9 (by kernel_rfl) (by kernel_rfl); exact h9.1.trans (told_is _ h9.2 rfl)
      exact q_load3 (.tmp 9) rfl _ _ e0 (hJ.1.cell (unhide HCN) (by simp)) ⟨_, rfl, told_of rfl, keepG (St := (S10 w V D)) [4, 5, 6, 8] S10.loc (by omega) (by decide) hJ⟩
    | 4, ho =>
      obtain rfl := Option.some.inj ho
      have e0 : a'.eval (.tmp 8) = .int .i64 (n : Int) := by have h9 := hin 1 8 (by kernel_rfl) (by kernel_rfl); exact h9.1.trans (told_is _ h9.2 rfl)
      have e1 : a'.eval (.tmp 10) = .int .i64 (N : Int) := by have h9 := hin 3 10 (by kernel_rfl) (by kernel_rfl); exact h9.1.trans (told_is _ h9.2 rfl)
      refine wp_callF 30 _ _ rfl #[.int .i64 (n : Int), .int .i64 (N : Int)] (by simp [e0, e1]) (cg30 _ _) ((Dv.new_yes n N w2 (unhide HNB)).mono ?_)
      rintro e w3 ⟨b, g, rfl, hb3, hg3, hD3, hk3⟩
      have hw2 : w.heap.size ≤ w2.heap.size := Nat.le_trans (unhide HK).size hJ.1.size
      exact ⟨_, rfl, _, rfl, told_no rfl, nextG (St := (S10 w V D)) (by omega) ⟨hJ.1.trans hk3, b, g, (fun _ => ⟨rfl, by omega, by omega, by rw [unhide HDD]; exact hD3⟩), (fun h => by have h9 : l_.getD 5 false = true := h; rw [hnot 5 (by kernel_rfl)] at h9; cases h9), (fun h => by have h9 : l_.getD 6 false = true := h; rw [hnot 6 (by kernel_rfl)] at h9; cases h9), (fun h => by have h9 : l_.getD 8 false = true := h; rw [hnot 8 (by kernel_rfl)] at h9; cases h9)⟩⟩
    | 5, ho =>
      obtain rfl := Option.some.inj ho
      have e0 : a'.eval (.tmp 11) = vs 4 := (hin 4 11 (by kernel_rfl) (by kernel_rfl)).1
      obtain ⟨hk0, b, g, g1, g2, g3, g4⟩ := hJ
      exact wp_move (.tmp 11) rfl _ e0 ⟨_, rfl, told_no rfl, nextG (St := (S10 w V D)) (by omega) ⟨hk0, b, g, (fun h => g1 h), (fun _ => (g1 (hdep 4 (by kernel_rfl))).1), (fun h => g3 h), fun h => g4 h⟩⟩
    | 6, ho =>
      obtain rfl := Option.some.inj ho
      have e0 : a'.eval (.tmp 6) = vs 5 := (hin 5 6 (by kernel_rfl) (by kernel_rfl)).1
      obtain ⟨hk0, b, g, g1, g2, g3, g4⟩ := hJ
      exact o_ext0 (.tmp 6) rfl _ _ (e0.trans (g2 (hdep 5 (by kernel_rfl)))) ⟨_, rfl, told_no rfl, nextG (St := (S10 w V D)) (by omega) ⟨hk0, b, g, (fun h => g1 h), (fun h => g2 h), (fun _ => rfl), fun h => g4 h⟩⟩
    | 7, ho =>
      obtain rfl := Option.some.inj ho
      have e0 : a'.eval (.tmp 6) = vs 5 := (hin 5 6 (by kernel_rfl) (by kernel_rfl)).1
      obtain ⟨b, g, g1, g2, g3, g4⟩ := hJ.2
      exact o_ext1 (.tmp 6) rfl _ _ (e0.trans (g2 (hdep 5 (by kernel_rfl)))) ⟨_, rfl, told_of rfl, keepG (St := (S10 w V D)) [4, 5, 6, 8] S10.loc (by omega) (by decide) hJ⟩
    | 8, ho =>
      obtain rfl := Option.some.inj ho
      have e0 : a'.eval (.tmp 12) = vs 6 := (hin 6 12 (by kernel_rfl) (by kernel_rfl)).1
      obtain ⟨hk0, b, g, g1, g2, g3, g4⟩ := hJ
      exact wp_assignV (.tmp 12) rfl _ e0 ⟨_, rfl, told_no rfl, nextG (St := (S10 w V D)) (by omega) ⟨hk0, b, g, (fun h => g1 h), (fun h => g2 h), (fun h => g3 h), fun _ => g3 (hdep 6 (by kernel_rfl))⟩⟩
    | 9, ho =>
      obtain rfl := Option.some.inj ho
      have e0 : a'.eval (.tmp 13) = .int .i64 0 := by have h9 := hin 7 13 (by kernel_rfl) (by kernel_rfl); exact h9.1.trans (told_is _ h9.2 rfl)
      exact wp_assignV (.tmp 13) rfl _ e0 ⟨_, rfl, told_of rfl, keepG (St := (S10 w V D)) [4, 5, 6, 8] S10.loc (by omega) (by decide) hJ⟩
  intro l_ vs9 V9 hl hJ htold
  have t0 : vs9 0 = aggV (Ar.jobC J) := told_is _ (htold 0 (by decide)) rfl
  have t1 : vs9 1 = .int .i64 (n : Int) := told_is _ (htold 1 (by decide)) rfl
  have t2 : vs9 2 = .pointer (some ⟨q1b, 0, none⟩) := told_is _ (htold 2 (by decide)) rfl
  have t3 : vs9 3 = .int .i64 (N : Int) := told_is _ (htold 3 (by decide)) rfl
  have t7 : vs9 7 = .int .i64 0 := told_is _ (htold 7 (by decide)) rfl
  have t9 : vs9 9 = .int .i64 0 := told_is _ (htold 9 (by decide)) rfl
  rw [show (List.range 10).map vs9 = [vs9 0, vs9 1, vs9 2, vs9 3, vs9 4, vs9 5, vs9 6, vs9 7, vs9 8, vs9 9] from rfl]
  simp only [t0, t1, t2, t3, t7, t9, putAll, Act.put, List.setIfInBounds_toArray, List.set_cons_succ, List.set_cons_zero]
  clear t0 t1 t2 t3 t7 t9 htold
  obtain ⟨hk0, b, g, g1, g2, g3, g4⟩ := hJ
  obtain ⟨g5, hb9, hg9, hD9⟩ := g1 (hl 4 (by decide))
  rw [g5, g2 (hl 5 (by decide)), g3 (hl 6 (by decide)), g4 (hl 8 (by decide))]
  have HD9 := hide hD9
  have HB9 : Hid (w.heap.size ≤ b ∧ w.heap.size ≤ g) := ⟨hb9, hg9⟩
  have HC9 : Hid (V9.cell? ⟨q1b, 0, none⟩ = some (.int .i64 (N : Int))) := hk0.cell (unhide HCN) (by simp)
  have HT : Hid (Blk V9 q1b 23 (Ar.jobC J)) := (unhide H1).kept hk0 (by simp)
  replace HK := hide ((unhide HK).trans hk0)
  clear hk0 g1 g2 g3 g4 g5 hl hb9 hg9 hD9 HCN H1 P25
  have hne : q1b ∉ [b, g] := by
    obtain ⟨cap, h1, ex, h2, _⟩ := (unhide HD9).lay
    have h3 := unhide HT
    unfold Dv.Head at h1
    unfold Blk at h3
    intro hm
    simp only [List.mem_cons, List.not_mem_nil, or_false] at hm
    rcases hm with rfl | rfl
    · rw [h3] at h1
      injection h1 with h1
      injection h1 with _ h1
      exact absurd h1 (by decide)
    · rw [h3] at h2
      injection h2 with h2
      injection h2 with _ h2
      exact absurd h2 (by decide)
  have HNE := hide hne
  clear hne HT
  go_wp2_with fail
  go_loopw [5] (fun i wr => ∃ k : Nat, k ≤ N ∧ i = .int .i64 k ∧ Hid (Dv.Dv wr b g (ups D k)) ∧ Hid (wr.cell? ⟨q1b, 0, none⟩ = some (.int .i64 (N : Int))) ∧ Hid (Kept [] w wr)) (fun i _ => N - (intOf i).toNat)
  case atStart => exact ⟨0, by omega, rfl, HD9, HC9, HK⟩
  case round =>
    clear HD9 HC9 HK
    obtain ⟨k, hkN, rfl, RD, RC, RK⟩ := hrel
    have hcn := unhide RC
    by_cases hlt : k < N
    · have P19 := hide (Dv.up27 b g (ups D k) k wr (unhide RD))
      go_wp2_with (
        first
        | (go_at_call 19
           refine (unhide P19).mono ?_
           rintro e W8 ⟨rfl, hD8, hk8⟩
           have HD8 := hide hD8
           have HC8 : Hid (W8.cell? ⟨q1b, 0, none⟩ = some (.int .i64 (N : Int))) := hk8.cell hcn (unhide HNE)
           have HK8 : Hid (Kept [] w W8) := (unhide RK).fresh hk8 (fun i hi hl => by have := unhide HB9; simp at hi; omega)
           clear hD8 hk8))
      go_roundw
      case rel => exact ⟨k + 1, by omega, by go_num, HD8, HC8, HK8⟩
      case measure => simp [intOf]; omega
    · obtain rfl : k = N := by omega
      go_wp2_with fail
      go_ret
      exact ⟨b, g, rfl, (unhide HB9).1, (unhide HB9).2, unhide RD, unhide RK⟩

end Go.Proofs.YtmeajhdhiebkdaaDoor
