/-
  do: set, pin, unpin.
-/
import Derived.Test.YtgnafbohikbpfaaRl
namespace Go.Proofs.Ytgnafbohikbpfaa
set_option maxRecDepth 100000
set_option linter.unusedSimpArgs false
open Go.RowKit


variable {w0 w W W' : World} {b mb r g y : Nat} {P P1 Q : Po} {xc : List Value}
theorem cg28 (vs : Array Value) (w : World) : (callFunc 28 vs).run Try.prog w = .ok (.enter 28 vs) w := by kernel_rfl
theorem cg31 (vs : Array Value) (w : World) : (callFunc 31 vs).run Try.prog w = .ok (.enter 31 vs) w := by kernel_rfl

section
variable {o : Oper} {a : Act} {w : World} {K : Act → World → Prop} {Q : Exit → Act → World → Prop}
theorem o_fld41_1 (x : Operand) (ho : o.op = .fieldAddr 41 x 1) (b i j : Nat) (hj : i + 1 = j) (hx : a.eval x = .pointer (some ⟨b, i, none⟩)) (h : K (a.put o.dst (.pointer (some ⟨b, j, none⟩))) w) : o.wp Try.prog a w K Q := by
  subst hj
  unfold Oper.wp execOp
  simp only [ho, hx]
  simp [go_sem]
  exact h
theorem o_fld41_2 (x : Operand) (ho : o.op = .fieldAddr 41 x 2) (b i j : Nat) (hj : i + 2 = j) (hx : a.eval x = .pointer (some ⟨b, i, none⟩)) (h : K (a.put o.dst (.pointer (some ⟨b, j, none⟩))) w) : o.wp Try.prog a w K Q := by
  subst hj
  unfold Oper.wp execOp
  simp only [ho, hx]
  simp [go_sem]
  exact h
end
/-- Two calls inside a drawn region: kp the program's, kd the document's, in any order. -/
structure S3 (w0 w1 : World) (b mb r g y : Nat) (xc : List Value) (P P1 : Po) (kp kd : Nat) (d : Nat → Bool) (_vs : Nat → Value) (W : World) : Prop where
  by_ : Blk W y 41 xc
  kept : Kept [b, mb, r, g] w1 W
  st : ∃ m' g', On w0 W b m' (cond (d kp) P1 P) ∧ Ro w0 W r g' (cond (d kd) P1 P) ∧ Apt b m' r g' ∧ (m' = mb ∨ w1.heap.size ≤ m') ∧ (g' = g ∨ w1.heap.size ≤ g') ∧ (d kp = false → m' = mb) ∧ (d kd = false → g' = g)
theorem S3.loc {w1 : World} {kp kd : Nat} : ∀ d d' vs vs' W, (∀ i ∈ [kp, kd], d i = d' i ∧ vs i = vs' i) → S3 w0 w1 b mb r g y xc P P1 kp kd d vs W → S3 w0 w1 b mb r g y xc P P1 kp kd d' vs' W := by
  intro d d' vs vs' W H h
  have e1 := (H kp (by simp)).1
  have e2 := (H kd (by simp)).1
  exact ⟨h.by_, h.kept, by rw [← e1, ← e2]; exact h.st⟩
theorem S3.prog {w1 : World} {kp kd : Nat} {d : Nat → Bool} {vs : Nat → Value} {v : Value} (h : S3 w0 w1 b mb r g y xc P P1 kp kd d vs W) (hne : ¬ kd = kp) (hy : y ≠ b ∧ y ≠ mb) {m2 g2 : Nat} (hr : Ro w0 W r g2 (cond (d kd) P1 P)) (ha : Apt b mb r g2) (hg : g2 = g ∨ w1.heap.size ≤ g2) (hg2 : d kd = false → g2 = g) (on0 : On w0 W b mb P) (on : On w0 W' b m2 P1) (hk : Kept [b, mb] W W') (hm : m2 = mb ∨ W.heap.size ≤ m2) :
    S3 w0 w1 b mb r g y xc P P1 kp kd (fun i => if i = kp then true else d i) (fun i => if i = kp then v else vs i) W' := by
  obtain ⟨h1, h2⟩ := hr.other ha hk on0 hm
  refine ⟨h.by_.kept hk (by simp; exact hy), h.kept.trans (hk.mono (by simp)), m2, g2, ?_, ?_, h2, ?_, hg, (fun e => by simp at e), ?_⟩
  · simp only [if_true]; exact on
  · simp only [if_neg hne]; exact h1
  · rcases hm with e | e
    · exact .inl e
    · exact .inr (Nat.le_trans h.kept.size e)
  · simp only [if_neg hne]; exact hg2
theorem S3.doc {w1 : World} {kp kd : Nat} {d : Nat → Bool} {vs : Nat → Value} {v : Value} (h : S3 w0 w1 b mb r g y xc P P1 kp kd d vs W) (hne : ¬ kp = kd) (hy : y ≠ r ∧ y ≠ g) {m2 g2 : Nat} (ho : On w0 W b m2 (cond (d kp) P1 P)) (ha : Apt b m2 r g) (hm : m2 = mb ∨ w1.heap.size ≤ m2) (hm2 : d kp = false → m2 = mb) (ro0 : Ro w0 W r g P) (ro : Ro w0 W' r g2 P1) (hk : Kept [r, g] W W') (hg : g2 = g ∨ W.heap.size ≤ g2) :
    S3 w0 w1 b mb r g y xc P P1 kp kd (fun i => if i = kd then true else d i) (fun i => if i = kd then v else vs i) W' := by
  obtain ⟨h1, h2⟩ := ho.farR ha hk ro0 hg
  refine ⟨h.by_.kept hk (by simp; exact hy), h.kept.trans (hk.mono (by simp)), m2, g2, ?_, ?_, h2, hm, ?_, ?_, (fun e => by simp at e)⟩
  · simp only [if_neg hne]; exact h1
  · simp only [if_true]; exact ro
  · rcases hg with e | e
    · exact .inl e
    · exact .inr (Nat.le_trans h.kept.size e)
  · simp only [if_neg hne]; exact hm2
set_option maxHeartbeats 1000000 in
theorem do_1 (h : Tw w0 w b mb r g P) (x : Se)  (hk1 : x.kd = 1) : Calls Try.prog 11 #[P0 b, P0 r, aggV x.C] w (DC w0 w b mb r g (doP P x)) := by
  have hdp : doP P x = (setP P x.f).1 := by unfold doP; rw [if_pos hk1]
  rw [hdp]
  clear hdp
  have dk1 : decide (x.kd = 1) = true := by simpa using hk1
  have dq1 : (x.kd == 1) = true := by simpa using hk1
  obtain ⟨xc, hxc⟩ : ∃ c, c = x.C := ⟨_, rfl⟩
  have HX0 : Hid (xc[0]? = some (.int .i64 x.kd)) := by show _ = _; rw [hxc]; rfl
  have HX1 : Hid (xc[1]? = some (.int .i64 x.pg)) := by show _ = _; rw [hxc]; rfl
  rw [← hxc]
  have HT := hide h
  obtain ⟨n, hn⟩ : ∃ n, n = (setP P x.f).2 := ⟨_, rfl⟩
  obtain ⟨P1, hP1⟩ : ∃ p, p = (setP P x.f).1 := ⟨_, rfl⟩
  obtain ⟨fc, hfc⟩ : ∃ c, c = x.f.C := ⟨_, rfl⟩
  have HLF : Hid (fc.length = 102) := by show _ = _; rw [hfc, Fr.len]
  have HRF : Hid (∀ (W : World) (y : Nat), Blk W y 41 xc → W.rangeAt y 2 fc) := fun W y hB => by
    rw [hfc]
    refine hB.rangeIn _ (fun j hj => ?_)
    rw [hxc]
    show (_ :: _ :: x.f.C)[2 + j]? = _
    rw [show 2 + j = j + 1 + 1 by omega, List.getElem?_cons_succ, List.getElem?_cons_succ]
  have PA : Hid (∀ W, On w0 W b mb P → Calls Try.prog 19 #[P0 b, aggV fc] W (OC w0 W b mb P1 (.int .i64 n))) := fun W h => by rw [hP1, hn, hfc]; exact on_set h x.f
  have PB : Hid (∀ W, Ro w0 W r g P → Calls Try.prog 28 #[P0 r, aggV fc] W (ROC w0 W r g P1 (.int .i64 n))) := fun W h => by rw [hP1, hn, hfc]; exact ro_set h x.f
  rw [← hP1]
  clear hxc hn hP1 hfc h hk1
  go_enter Try.func11, Try.ntmps11
  go_wp2_with (
    first
    | (refine wpBoxV rfl (.tmp 2) rfl xc rfl ?_
       intro W1 y e1 B1 K1
       have HK1 := hide K1
       have HNY : Hid ((y ≠ b ∧ y ≠ mb) ∧ y ≠ r ∧ y ≠ g) := by have h1 := (unhide HT).on.lt; have h2 := (unhide HT).ro.lt; show (_ ∧ _) ∧ _ ∧ _; omega
       have ck : W1.cell? ⟨y, 0, none⟩ = some (.int .i64 x.kd) := fits_cell B1 0 _ (unhide HX0)
       have HBY := hide B1
       clear e1 B1 K1
       refine Stp.go ?_))
  constructor
  go_wp2_with fail
  have HT1 := (unhide HT).step0 (unhide HK1)
  refine wp_region_any mixed (wpAny_gx 15 rfl (by kernel_rfl) [some (P0 b), some (P0 r), some (P0 b), some (.pointer (some ⟨y, 2, none⟩)), some (aggV fc), some (.int .i64 n), some (.int .i64 n), some (P0 r), some (.pointer (some ⟨y, 2, none⟩)), some (aggV fc), some (.int .i64 n), some (.bool true), some (P0 b), some (P0 r), some (.bool true)] rfl (by kernel_rfl) (fun l vs W => (S3 w0 W1 b mb r g y xc P P1 5 10) (fun i => l.getD i false) vs W) (⟨(unhide HBY).drew, (Kept.refl _ _).drew, mb, g, HT1.on.step0 (Kept.refl _ _).drew, HT1.ro.step0 (Kept.refl _ _).drew, HT1.ap, .inl rfl, .inl rfl, (fun _ => rfl), fun _ => rfl⟩) ?_ ?_)
  · intro ix o' hi ho a' w2 l vs hls hlf hJ hout hin hdep hnot
    match ix, ho with
    | 0, ho =>
      obtain rfl := Option.some.inj ho
      have e0 := hout 0 (by kernel_rfl)
      replace e0 : a'.eval (.tmp 0) = _ := e0.trans rfl
      exact wp_move (.tmp 0) rfl _ e0 ⟨_, rfl, told_of rfl, keepG (St := (S3 w0 W1 b mb r g y xc P P1 5 10)) [5, 10] S3.loc (by omega) (by decide) hJ⟩
    | 1, ho =>
      obtain rfl := Option.some.inj ho
      have e0 := hout 1 (by kernel_rfl)
      replace e0 : a'.eval (.tmp 1) = _ := e0.trans rfl
      exact wp_move (.tmp 1) rfl _ e0 ⟨_, rfl, told_of rfl, keepG (St := (S3 w0 W1 b mb r g y xc P P1 5 10)) [5, 10] S3.loc (by omega) (by decide) hJ⟩
    | 2, ho =>
      obtain rfl := Option.some.inj ho
      have e0 := hout 0 (by kernel_rfl)
      replace e0 : a'.eval (.tmp 0) = _ := e0.trans rfl
      exact wp_move (.tmp 0) rfl _ e0 ⟨_, rfl, told_of rfl, keepG (St := (S3 w0 W1 b mb r g y xc P P1 5 10)) [5, 10] S3.loc (by omega) (by decide) hJ⟩
    | 3, ho =>
      obtain rfl := Option.some.inj ho
      have e0 := hout 5 (by kernel_rfl)
      replace e0 : a'.eval (.tmp 5) = _ := e0.trans rfl
      exact o_fld41_2 (.tmp 5) rfl y (0) (2) rfl e0 ⟨_, rfl, told_of rfl, keepG (St := (S3 w0 W1 b mb r g y xc P P1 5 10)) [5, 10] S3.loc (by omega) (by decide) hJ⟩
    | 4, ho =>
      obtain rfl := Option.some.inj ho
      have e0 : a'.eval (.tmp 30) = .pointer (some ⟨y, 2, none⟩) := by have h9 := hin 3 30 (by kernel_rfl) (by kernel_rfl); exact h9.1.trans (told_is _ h9.2 rfl)
      exact wp_loadA row39 (.tmp 30) rfl y (2) e0 (fc) (unhide HLF) (unhide HRF _ _ hJ.by_) ⟨_, rfl, told_of rfl, keepG (St := (S3 w0 W1 b mb r g y xc P P1 5 10)) [5, 10] S3.loc (by omega) (by decide) hJ⟩
    | 5, ho =>
      obtain rfl := Option.some.inj ho
      have e0 : a'.eval (.tmp 29) = P0 b := by have h9 := hin 2 29 (by kernel_rfl) (by kernel_rfl); exact h9.1.trans (told_is _ h9.2 rfl)
      have e1 : a'.eval (.tmp 31) = aggV fc := by have h9 := hin 4 31 (by kernel_rfl) (by kernel_rfl); exact h9.1.trans (told_is _ h9.2 rfl)
      have hJ2 := hJ
      obtain ⟨m2, g2, ho, hr, ha, hm, hg, hm2, hg2⟩ := hJ2.st
      rw [hlf] at ho
      obtain rfl := (hm2 hlf).symm
      refine wp_callF 19 _ _ rfl #[P0 b, aggV fc] (by simp [e0, e1]) (cg19 _ _) ((unhide PA _ ho).mono ?_)
      rintro e w3 ⟨m3, rfl, o3, k3, f3⟩
      exact ⟨_, rfl, _, rfl, told_of rfl, nextG (St := (S3 w0 W1 b mb r g y xc P P1 5 10)) (by omega) (S3.prog hJ2 (by decide) (unhide HNY).1 hr ha hg hg2 ho o3 k3 f3)⟩
    | 6, ho =>
      obtain rfl := Option.some.inj ho
      have e0 : a'.eval (.tmp 32) = .int .i64 n := by have h9 := hin 5 32 (by kernel_rfl) (by kernel_rfl); exact h9.1.trans (told_is _ h9.2 rfl)
      refine wp_callF 9 _ _ rfl #[.int .i64 n] (by simp [e0]) (cg9 _ _) ((num9 _ _).mono ?_)
      rintro e w3 ⟨rfl, rfl⟩
      exact ⟨_, rfl, _, rfl, told_of rfl, keepG (St := (S3 w0 W1 b mb r g y xc P P1 5 10)) [5, 10] S3.loc (by omega) (by decide) hJ⟩
    | 7, ho =>
      obtain rfl := Option.some.inj ho
      have e0 := hout 1 (by kernel_rfl)
      replace e0 : a'.eval (.tmp 1) = _ := e0.trans rfl
      exact wp_move (.tmp 1) rfl _ e0 ⟨_, rfl, told_of rfl, keepG (St := (S3 w0 W1 b mb r g y xc P P1 5 10)) [5, 10] S3.loc (by omega) (by decide) hJ⟩
    | 8, ho =>
      obtain rfl := Option.some.inj ho
      have e0 := hout 5 (by kernel_rfl)
      replace e0 : a'.eval (.tmp 5) = _ := e0.trans rfl
      exact o_fld41_2 (.tmp 5) rfl y (0) (2) rfl e0 ⟨_, rfl, told_of rfl, keepG (St := (S3 w0 W1 b mb r g y xc P P1 5 10)) [5, 10] S3.loc (by omega) (by decide) hJ⟩
    | 9, ho =>
      obtain rfl := Option.some.inj ho
      have e0 : a'.eval (.tmp 35) = .pointer (some ⟨y, 2, none⟩) := by have h9 := hin 8 35 (by kernel_rfl) (by kernel_rfl); exact h9.1.trans (told_is _ h9.2 rfl)
      exact wp_loadA row39 (.tmp 35) rfl y (2) e0 (fc) (unhide HLF) (unhide HRF _ _ hJ.by_) ⟨_, rfl, told_of rfl, keepG (St := (S3 w0 W1 b mb r g y xc P P1 5 10)) [5, 10] S3.loc (by omega) (by decide) hJ⟩
    | 10, ho =>
      obtain rfl := Option.some.inj ho
      have e0 : a'.eval (.tmp 34) = P0 r := by have h9 := hin 7 34 (by kernel_rfl) (by kernel_rfl); exact h9.1.trans (told_is _ h9.2 rfl)
      have e1 : a'.eval (.tmp 36) = aggV fc := by have h9 := hin 9 36 (by kernel_rfl) (by kernel_rfl); exact h9.1.trans (told_is _ h9.2 rfl)
      have hJ2 := hJ
      obtain ⟨m2, g2, ho, hr, ha, hm, hg, hm2, hg2⟩ := hJ2.st
      rw [hlf] at hr
      obtain rfl := (hg2 hlf).symm
      refine wp_callF 28 _ _ rfl #[P0 r, aggV fc] (by simp [e0, e1]) (cg28 _ _) ((unhide PB _ hr).mono ?_)
      rintro e w3 ⟨m3, rfl, o3, k3, f3⟩
      exact ⟨_, rfl, _, rfl, told_of rfl, nextG (St := (S3 w0 W1 b mb r g y xc P P1 5 10)) (by omega) (S3.doc hJ2 (by decide) (unhide HNY).2 ho ha hm hm2 hr o3 k3 f3)⟩
    | 11, ho =>
      obtain rfl := Option.some.inj ho
      have e0 : a'.eval (.tmp 33) = .int .i64 n := by have h9 := hin 6 33 (by kernel_rfl) (by kernel_rfl); exact h9.1.trans (told_is _ h9.2 rfl)
      have e1 : a'.eval (.tmp 37) = .int .i64 n := by have h9 := hin 10 37 (by kernel_rfl) (by kernel_rfl); exact h9.1.trans (told_is _ h9.2 rfl)
      exact c_eql3 (.tmp 33) (.tmp 37) rfl _ _ (true) (decide_eq_true rfl) e0 e1 ⟨_, rfl, told_of rfl, keepG (St := (S3 w0 W1 b mb r g y xc P P1 5 10)) [5, 10] S3.loc (by omega) (by decide) hJ⟩
    | 12, ho =>
      obtain rfl := Option.some.inj ho
      have e0 : a'.eval (.tmp 27) = P0 b := by have h9 := hin 0 27 (by kernel_rfl) (by kernel_rfl); exact h9.1.trans (told_is _ h9.2 rfl)
      exact wp_assignV (.tmp 27) rfl _ e0 ⟨_, rfl, told_of rfl, keepG (St := (S3 w0 W1 b mb r g y xc P P1 5 10)) [5, 10] S3.loc (by omega) (by decide) hJ⟩
    | 13, ho =>
      obtain rfl := Option.some.inj ho
      have e0 : a'.eval (.tmp 28) = P0 r := by have h9 := hin 1 28 (by kernel_rfl) (by kernel_rfl); exact h9.1.trans (told_is _ h9.2 rfl)
      exact wp_assignV (.tmp 28) rfl _ e0 ⟨_, rfl, told_of rfl, keepG (St := (S3 w0 W1 b mb r g y xc P P1 5 10)) [5, 10] S3.loc (by omega) (by decide) hJ⟩
    | 14, ho =>
      obtain rfl := Option.some.inj ho
      have e0 : a'.eval (.tmp 38) = .bool true := by have h9 := hin 11 38 (by kernel_rfl) (by kernel_rfl); exact h9.1.trans (told_is _ h9.2 rfl)
      exact wp_assignV (.tmp 38) rfl _ e0 ⟨_, rfl, told_of rfl, keepG (St := (S3 w0 W1 b mb r g y xc P P1 5 10)) [5, 10] S3.loc (by omega) (by decide) hJ⟩
  intro l_ vs4 V4 hl hJ htold
  have t0 : vs4 0 = P0 b := told_is _ (htold 0 (by decide)) rfl
  have t1 : vs4 1 = P0 r := told_is _ (htold 1 (by decide)) rfl
  have t2 : vs4 2 = P0 b := told_is _ (htold 2 (by decide)) rfl
  have t3 : vs4 3 = .pointer (some ⟨y, 2, none⟩) := told_is _ (htold 3 (by decide)) rfl
  have t4 : vs4 4 = aggV fc := told_is _ (htold 4 (by decide)) rfl
  have t5 : vs4 5 = .int .i64 n := told_is _ (htold 5 (by decide)) rfl
  have t6 : vs4 6 = .int .i64 n := told_is _ (htold 6 (by decide)) rfl
  have t7 : vs4 7 = P0 r := told_is _ (htold 7 (by decide)) rfl
  have t8 : vs4 8 = .pointer (some ⟨y, 2, none⟩) := told_is _ (htold 8 (by decide)) rfl
  have t9 : vs4 9 = aggV fc := told_is _ (htold 9 (by decide)) rfl
  have t10 : vs4 10 = .int .i64 n := told_is _ (htold 10 (by decide)) rfl
  have t11 : vs4 11 = .bool true := told_is _ (htold 11 (by decide)) rfl
  have t12 : vs4 12 = P0 b := told_is _ (htold 12 (by decide)) rfl
  have t13 : vs4 13 = P0 r := told_is _ (htold 13 (by decide)) rfl
  have t14 : vs4 14 = .bool true := told_is _ (htold 14 (by decide)) rfl
  rw [show (List.range 15).map vs4 = [vs4 0, vs4 1, vs4 2, vs4 3, vs4 4, vs4 5, vs4 6, vs4 7, vs4 8, vs4 9, vs4 10, vs4 11, vs4 12, vs4 13, vs4 14] from rfl]
  simp only [t0, t1, t2, t3, t4, t5, t6, t7, t8, t9, t10, t11, t12, t13, t14, putAll, Act.put, List.setIfInBounds_toArray, List.set_cons_succ, List.set_cons_zero]
  clear t0 t1 t2 t3 t4 t5 t6 t7 t8 t9 t10 t11 t12 t13 t14 htold
  obtain ⟨m2, g2, ho, hr, ha, hm, hg, _, _⟩ := hJ.st
  rw [hl 5 (by decide)] at ho
  rw [hl 10 (by decide)] at hr
  have hkk := hJ.kept
  have HF : Hid (DS w0 w b mb r g P1 b m2 g2 V4) := ⟨⟨ho, hr, ha⟩, ((unhide HK1).mono (by simp)).trans hkk, .inl rfl, hm.imp_right (Nat.le_trans (unhide HK1).size), hg.imp_right (Nat.le_trans (unhide HK1).size)⟩
  clear ho hr ha hm hg hkk hJ hl
  go_wp2_with fail
  refine bodyPost_ret (res11 _ _ _ _ _ rfl rfl rfl) rfl ?_
  exact ⟨b, m2, g2, rfl, unhide HF⟩
set_option maxHeartbeats 1000000 in
theorem do_4 (h : Tw w0 w b mb r g P) (x : Se) (hk1 : ¬ x.kd = 1) (hk2 : ¬ x.kd = 2) (hk3 : ¬ x.kd = 3) (hk4 : x.kd = 4) (hp : ∀ i, (P.S i).pn ≤ 1000000) : Calls Try.prog 11 #[P0 b, P0 r, aggV x.C] w (DC w0 w b mb r g (doP P x)) := by
  have hdp : doP P x = (pinP P x.pg).1 := by unfold doP; rw [if_neg hk1, if_neg hk2, if_neg hk3, if_pos hk4]
  rw [hdp]
  clear hdp
  have dk1 : decide (x.kd = 1) = false := by simpa using hk1
  have dq1 : (x.kd == 1) = false := by simpa using hk1
  have dk2 : decide (x.kd = 2) = false := by simpa using hk2
  have dq2 : (x.kd == 2) = false := by simpa using hk2
  have dk3 : decide (x.kd = 3) = false := by simpa using hk3
  have dq3 : (x.kd == 3) = false := by simpa using hk3
  have dk4 : decide (x.kd = 4) = true := by simpa using hk4
  have dq4 : (x.kd == 4) = true := by simpa using hk4
  obtain ⟨xc, hxc⟩ : ∃ c, c = x.C := ⟨_, rfl⟩
  have HX0 : Hid (xc[0]? = some (.int .i64 x.kd)) := by show _ = _; rw [hxc]; rfl
  have HX1 : Hid (xc[1]? = some (.int .i64 x.pg)) := by show _ = _; rw [hxc]; rfl
  rw [← hxc]
  have HT := hide h
  obtain ⟨n, hn⟩ : ∃ n, n = (pinP P x.pg).2 := ⟨_, rfl⟩
  obtain ⟨P1, hP1⟩ : ∃ p, p = (pinP P x.pg).1 := ⟨_, rfl⟩
  have PA : Hid (∀ W, On w0 W b mb P → Calls Try.prog 21 #[P0 b, .int .i64 x.pg] W (OC w0 W b mb P1 (.int .i64 n))) := fun W h => by rw [hP1, hn]; exact on_pin h x.pg hp
  have PB : Hid (∀ W, Ro w0 W r g P → Calls Try.prog 31 #[P0 r, .int .i64 x.pg, .int .i64 1] W (ROC w0 W r g P1 (.int .i64 n))) := fun W h => by rw [hP1, hn]; exact ro_pin h x.pg hp
  rw [← hP1]
  clear hxc hn hP1 hp h hk1 hk2 hk3 hk4
  go_enter Try.func11, Try.ntmps11
  go_wp2_with (
    first
    | (refine wpBoxV rfl (.tmp 2) rfl xc rfl ?_
       intro W1 y e1 B1 K1
       have HK1 := hide K1
       have HNY : Hid ((y ≠ b ∧ y ≠ mb) ∧ y ≠ r ∧ y ≠ g) := by have h1 := (unhide HT).on.lt; have h2 := (unhide HT).ro.lt; show (_ ∧ _) ∧ _ ∧ _; omega
       have ck : W1.cell? ⟨y, 0, none⟩ = some (.int .i64 x.kd) := fits_cell B1 0 _ (unhide HX0)
       have HBY := hide B1
       clear e1 B1 K1
       refine Stp.go ?_))
  constructor
  go_wp2_with fail
  have HT1 := (unhide HT).step0 (unhide HK1)
  refine wp_region_any mixed (wpAny_gx 15 rfl (by kernel_rfl) [some (P0 b), some (P0 r), some (P0 b), some (.pointer (some ⟨y, 1, none⟩)), some (.int .i64 x.pg), some (.int .i64 n), some (.int .i64 n), some (P0 r), some (.pointer (some ⟨y, 1, none⟩)), some (.int .i64 x.pg), some (.int .i64 n), some (.bool true), some (P0 b), some (P0 r), some (.bool true)] rfl (by kernel_rfl) (fun l vs W => (S3 w0 W1 b mb r g y xc P P1 5 10) (fun i => l.getD i false) vs W) (⟨(unhide HBY).drew, (Kept.refl _ _).drew, mb, g, HT1.on.step0 (Kept.refl _ _).drew, HT1.ro.step0 (Kept.refl _ _).drew, HT1.ap, .inl rfl, .inl rfl, (fun _ => rfl), fun _ => rfl⟩) ?_ ?_)
  · intro ix o' hi ho a' w2 l vs hls hlf hJ hout hin hdep hnot
    match ix, ho with
    | 0, ho =>
      obtain rfl := Option.some.inj ho
      have e0 := hout 0 (by kernel_rfl)
      replace e0 : a'.eval (.tmp 0) = _ := e0.trans rfl
      exact wp_move (.tmp 0) rfl _ e0 ⟨_, rfl, told_of rfl, keepG (St := (S3 w0 W1 b mb r g y xc P P1 5 10)) [5, 10] S3.loc (by omega) (by decide) hJ⟩
    | 1, ho =>
      obtain rfl := Option.some.inj ho
      have e0 := hout 1 (by kernel_rfl)
      replace e0 : a'.eval (.tmp 1) = _ := e0.trans rfl
      exact wp_move (.tmp 1) rfl _ e0 ⟨_, rfl, told_of rfl, keepG (St := (S3 w0 W1 b mb r g y xc P P1 5 10)) [5, 10] S3.loc (by omega) (by decide) hJ⟩
    | 2, ho =>
      obtain rfl := Option.some.inj ho
      have e0 := hout 0 (by kernel_rfl)
      replace e0 : a'.eval (.tmp 0) = _ := e0.trans rfl
      exact wp_move (.tmp 0) rfl _ e0 ⟨_, rfl, told_of rfl, keepG (St := (S3 w0 W1 b mb r g y xc P P1 5 10)) [5, 10] S3.loc (by omega) (by decide) hJ⟩
    | 3, ho =>
      obtain rfl := Option.some.inj ho
      have e0 := hout 5 (by kernel_rfl)
      replace e0 : a'.eval (.tmp 5) = _ := e0.trans rfl
      exact o_fld41_1 (.tmp 5) rfl y (0) (1) rfl e0 ⟨_, rfl, told_of rfl, keepG (St := (S3 w0 W1 b mb r g y xc P P1 5 10)) [5, 10] S3.loc (by omega) (by decide) hJ⟩
    | 4, ho =>
      obtain rfl := Option.some.inj ho
      have e0 : a'.eval (.tmp 98) = .pointer (some ⟨y, 1, none⟩) := by have h9 := hin 3 98 (by kernel_rfl) (by kernel_rfl); exact h9.1.trans (told_is _ h9.2 rfl)
      exact o_load3 (.tmp 98) rfl _ _ e0 (fits_cell hJ.by_ 1 _ (unhide HX1)) ⟨_, rfl, told_of rfl, keepG (St := (S3 w0 W1 b mb r g y xc P P1 5 10)) [5, 10] S3.loc (by omega) (by decide) hJ⟩
    | 5, ho =>
      obtain rfl := Option.some.inj ho
      have e0 : a'.eval (.tmp 97) = P0 b := by have h9 := hin 2 97 (by kernel_rfl) (by kernel_rfl); exact h9.1.trans (told_is _ h9.2 rfl)
      have e1 : a'.eval (.tmp 99) = .int .i64 x.pg := by have h9 := hin 4 99 (by kernel_rfl) (by kernel_rfl); exact h9.1.trans (told_is _ h9.2 rfl)
      have hJ2 := hJ
      obtain ⟨m2, g2, ho, hr, ha, hm, hg, hm2, hg2⟩ := hJ2.st
      rw [hlf] at ho
      obtain rfl := (hm2 hlf).symm
      refine wp_callF 21 _ _ rfl #[P0 b, .int .i64 x.pg] (by simp [e0, e1]) (cg21 _ _) ((unhide PA _ ho).mono ?_)
      rintro e w3 ⟨m3, rfl, o3, k3, f3⟩
      exact ⟨_, rfl, _, rfl, told_of rfl, nextG (St := (S3 w0 W1 b mb r g y xc P P1 5 10)) (by omega) (S3.prog hJ2 (by decide) (unhide HNY).1 hr ha hg hg2 ho o3 k3 f3)⟩
    | 6, ho =>
      obtain rfl := Option.some.inj ho
      have e0 : a'.eval (.tmp 100) = .int .i64 n := by have h9 := hin 5 100 (by kernel_rfl) (by kernel_rfl); exact h9.1.trans (told_is _ h9.2 rfl)
      refine wp_callF 9 _ _ rfl #[.int .i64 n] (by simp [e0]) (cg9 _ _) ((num9 _ _).mono ?_)
      rintro e w3 ⟨rfl, rfl⟩
      exact ⟨_, rfl, _, rfl, told_of rfl, keepG (St := (S3 w0 W1 b mb r g y xc P P1 5 10)) [5, 10] S3.loc (by omega) (by decide) hJ⟩
    | 7, ho =>
      obtain rfl := Option.some.inj ho
      have e0 := hout 1 (by kernel_rfl)
      replace e0 : a'.eval (.tmp 1) = _ := e0.trans rfl
      exact wp_move (.tmp 1) rfl _ e0 ⟨_, rfl, told_of rfl, keepG (St := (S3 w0 W1 b mb r g y xc P P1 5 10)) [5, 10] S3.loc (by omega) (by decide) hJ⟩
    | 8, ho =>
      obtain rfl := Option.some.inj ho
      have e0 := hout 5 (by kernel_rfl)
      replace e0 : a'.eval (.tmp 5) = _ := e0.trans rfl
      exact o_fld41_1 (.tmp 5) rfl y (0) (1) rfl e0 ⟨_, rfl, told_of rfl, keepG (St := (S3 w0 W1 b mb r g y xc P P1 5 10)) [5, 10] S3.loc (by omega) (by decide) hJ⟩
    | 9, ho =>
      obtain rfl := Option.some.inj ho
      have e0 : a'.eval (.tmp 103) = .pointer (some ⟨y, 1, none⟩) := by have h9 := hin 8 103 (by kernel_rfl) (by kernel_rfl); exact h9.1.trans (told_is _ h9.2 rfl)
      exact o_load3 (.tmp 103) rfl _ _ e0 (fits_cell hJ.by_ 1 _ (unhide HX1)) ⟨_, rfl, told_of rfl, keepG (St := (S3 w0 W1 b mb r g y xc P P1 5 10)) [5, 10] S3.loc (by omega) (by decide) hJ⟩
    | 10, ho =>
      obtain rfl := Option.some.inj ho
      have e0 : a'.eval (.tmp 102) = P0 r := by have h9 := hin 7 102 (by kernel_rfl) (by kernel_rfl); exact h9.1.trans (told_is _ h9.2 rfl)
      have e1 : a'.eval (.tmp 104) = .int .i64 x.pg := by have h9 := hin 9 104 (by kernel_rfl) (by kernel_rfl); exact h9.1.trans (told_is _ h9.2 rfl)
      have hJ2 := hJ
      obtain ⟨m2, g2, ho, hr, ha, hm, hg, hm2, hg2⟩ := hJ2.st
      rw [hlf] at hr
      obtain rfl := (hg2 hlf).symm
      refine wp_callF 31 _ _ rfl #[P0 r, .int .i64 x.pg, .int .i64 1] (by simp [e0, e1] <;> rfl) (cg31 _ _) ((unhide PB _ hr).mono ?_)
      rintro e w3 ⟨m3, rfl, o3, k3, f3⟩
      exact ⟨_, rfl, _, rfl, told_of rfl, nextG (St := (S3 w0 W1 b mb r g y xc P P1 5 10)) (by omega) (S3.doc hJ2 (by decide) (unhide HNY).2 ho ha hm hm2 hr o3 k3 f3)⟩
    | 11, ho =>
      obtain rfl := Option.some.inj ho
      have e0 : a'.eval (.tmp 101) = .int .i64 n := by have h9 := hin 6 101 (by kernel_rfl) (by kernel_rfl); exact h9.1.trans (told_is _ h9.2 rfl)
      have e1 : a'.eval (.tmp 105) = .int .i64 n := by have h9 := hin 10 105 (by kernel_rfl) (by kernel_rfl); exact h9.1.trans (told_is _ h9.2 rfl)
      exact c_eql3 (.tmp 101) (.tmp 105) rfl _ _ (true) (decide_eq_true rfl) e0 e1 ⟨_, rfl, told_of rfl, keepG (St := (S3 w0 W1 b mb r g y xc P P1 5 10)) [5, 10] S3.loc (by omega) (by decide) hJ⟩
    | 12, ho =>
      obtain rfl := Option.some.inj ho
      have e0 : a'.eval (.tmp 95) = P0 b := by have h9 := hin 0 95 (by kernel_rfl) (by kernel_rfl); exact h9.1.trans (told_is _ h9.2 rfl)
      exact wp_assignV (.tmp 95) rfl _ e0 ⟨_, rfl, told_of rfl, keepG (St := (S3 w0 W1 b mb r g y xc P P1 5 10)) [5, 10] S3.loc (by omega) (by decide) hJ⟩
    | 13, ho =>
      obtain rfl := Option.some.inj ho
      have e0 : a'.eval (.tmp 96) = P0 r := by have h9 := hin 1 96 (by kernel_rfl) (by kernel_rfl); exact h9.1.trans (told_is _ h9.2 rfl)
      exact wp_assignV (.tmp 96) rfl _ e0 ⟨_, rfl, told_of rfl, keepG (St := (S3 w0 W1 b mb r g y xc P P1 5 10)) [5, 10] S3.loc (by omega) (by decide) hJ⟩
    | 14, ho =>
      obtain rfl := Option.some.inj ho
      have e0 : a'.eval (.tmp 106) = .bool true := by have h9 := hin 11 106 (by kernel_rfl) (by kernel_rfl); exact h9.1.trans (told_is _ h9.2 rfl)
      exact wp_assignV (.tmp 106) rfl _ e0 ⟨_, rfl, told_of rfl, keepG (St := (S3 w0 W1 b mb r g y xc P P1 5 10)) [5, 10] S3.loc (by omega) (by decide) hJ⟩
  intro l_ vs4 V4 hl hJ htold
  have t0 : vs4 0 = P0 b := told_is _ (htold 0 (by decide)) rfl
  have t1 : vs4 1 = P0 r := told_is _ (htold 1 (by decide)) rfl
  have t2 : vs4 2 = P0 b := told_is _ (htold 2 (by decide)) rfl
  have t3 : vs4 3 = .pointer (some ⟨y, 1, none⟩) := told_is _ (htold 3 (by decide)) rfl
  have t4 : vs4 4 = .int .i64 x.pg := told_is _ (htold 4 (by decide)) rfl
  have t5 : vs4 5 = .int .i64 n := told_is _ (htold 5 (by decide)) rfl
  have t6 : vs4 6 = .int .i64 n := told_is _ (htold 6 (by decide)) rfl
  have t7 : vs4 7 = P0 r := told_is _ (htold 7 (by decide)) rfl
  have t8 : vs4 8 = .pointer (some ⟨y, 1, none⟩) := told_is _ (htold 8 (by decide)) rfl
  have t9 : vs4 9 = .int .i64 x.pg := told_is _ (htold 9 (by decide)) rfl
  have t10 : vs4 10 = .int .i64 n := told_is _ (htold 10 (by decide)) rfl
  have t11 : vs4 11 = .bool true := told_is _ (htold 11 (by decide)) rfl
  have t12 : vs4 12 = P0 b := told_is _ (htold 12 (by decide)) rfl
  have t13 : vs4 13 = P0 r := told_is _ (htold 13 (by decide)) rfl
  have t14 : vs4 14 = .bool true := told_is _ (htold 14 (by decide)) rfl
  rw [show (List.range 15).map vs4 = [vs4 0, vs4 1, vs4 2, vs4 3, vs4 4, vs4 5, vs4 6, vs4 7, vs4 8, vs4 9, vs4 10, vs4 11, vs4 12, vs4 13, vs4 14] from rfl]
  simp only [t0, t1, t2, t3, t4, t5, t6, t7, t8, t9, t10, t11, t12, t13, t14, putAll, Act.put, List.setIfInBounds_toArray, List.set_cons_succ, List.set_cons_zero]
  clear t0 t1 t2 t3 t4 t5 t6 t7 t8 t9 t10 t11 t12 t13 t14 htold
  obtain ⟨m2, g2, ho, hr, ha, hm, hg, _, _⟩ := hJ.st
  rw [hl 5 (by decide)] at ho
  rw [hl 10 (by decide)] at hr
  have hkk := hJ.kept
  have HF : Hid (DS w0 w b mb r g P1 b m2 g2 V4) := ⟨⟨ho, hr, ha⟩, ((unhide HK1).mono (by simp)).trans hkk, .inl rfl, hm.imp_right (Nat.le_trans (unhide HK1).size), hg.imp_right (Nat.le_trans (unhide HK1).size)⟩
  clear ho hr ha hm hg hkk hJ hl
  go_wp2_with fail
  refine bodyPost_ret (res11 _ _ _ _ _ rfl rfl rfl) rfl ?_
  exact ⟨b, m2, g2, rfl, unhide HF⟩
set_option maxHeartbeats 1000000 in
theorem do_5 (h : Tw w0 w b mb r g P) (x : Se) (hk1 : ¬ x.kd = 1) (hk2 : ¬ x.kd = 2) (hk3 : ¬ x.kd = 3) (hk4 : ¬ x.kd = 4) (hk5 : x.kd = 5) (hp : ∀ i, (P.S i).pn ≤ 1000000) : Calls Try.prog 11 #[P0 b, P0 r, aggV x.C] w (DC w0 w b mb r g (doP P x)) := by
  have hdp : doP P x = (unpinP P x.pg).1 := by unfold doP; rw [if_neg hk1, if_neg hk2, if_neg hk3, if_neg hk4, if_pos hk5]
  rw [hdp]
  clear hdp
  have dk1 : decide (x.kd = 1) = false := by simpa using hk1
  have dq1 : (x.kd == 1) = false := by simpa using hk1
  have dk2 : decide (x.kd = 2) = false := by simpa using hk2
  have dq2 : (x.kd == 2) = false := by simpa using hk2
  have dk3 : decide (x.kd = 3) = false := by simpa using hk3
  have dq3 : (x.kd == 3) = false := by simpa using hk3
  have dk4 : decide (x.kd = 4) = false := by simpa using hk4
  have dq4 : (x.kd == 4) = false := by simpa using hk4
  have dk5 : decide (x.kd = 5) = true := by simpa using hk5
  have dq5 : (x.kd == 5) = true := by simpa using hk5
  obtain ⟨xc, hxc⟩ : ∃ c, c = x.C := ⟨_, rfl⟩
  have HX0 : Hid (xc[0]? = some (.int .i64 x.kd)) := by show _ = _; rw [hxc]; rfl
  have HX1 : Hid (xc[1]? = some (.int .i64 x.pg)) := by show _ = _; rw [hxc]; rfl
  rw [← hxc]
  have HT := hide h
  obtain ⟨n, hn⟩ : ∃ n, n = (unpinP P x.pg).2 := ⟨_, rfl⟩
  obtain ⟨P1, hP1⟩ : ∃ p, p = (unpinP P x.pg).1 := ⟨_, rfl⟩
  have PA : Hid (∀ W, On w0 W b mb P → Calls Try.prog 26 #[P0 b, .int .i64 x.pg] W (OC w0 W b mb P1 (.int .i64 n))) := fun W h => by rw [hP1, hn]; exact on_unpin h x.pg hp
  have PB : Hid (∀ W, Ro w0 W r g P → Calls Try.prog 31 #[P0 r, .int .i64 x.pg, .int .i64 (-1)] W (ROC w0 W r g P1 (.int .i64 n))) := fun W h => by rw [hP1, hn]; exact ro_unpin h x.pg hp
  rw [← hP1]
  clear hxc hn hP1 hp h hk1 hk2 hk3 hk4 hk5
  go_enter Try.func11, Try.ntmps11
  go_wp2_with (
    first
    | (refine wpBoxV rfl (.tmp 2) rfl xc rfl ?_
       intro W1 y e1 B1 K1
       have HK1 := hide K1
       have HNY : Hid ((y ≠ b ∧ y ≠ mb) ∧ y ≠ r ∧ y ≠ g) := by have h1 := (unhide HT).on.lt; have h2 := (unhide HT).ro.lt; show (_ ∧ _) ∧ _ ∧ _; omega
       have ck : W1.cell? ⟨y, 0, none⟩ = some (.int .i64 x.kd) := fits_cell B1 0 _ (unhide HX0)
       have HBY := hide B1
       clear e1 B1 K1
       refine Stp.go ?_))
  constructor
  go_wp2_with fail
  have HT1 := (unhide HT).step0 (unhide HK1)
  refine wp_region_any mixed (wpAny_gx 15 rfl (by kernel_rfl) [some (P0 b), some (P0 r), some (P0 b), some (.pointer (some ⟨y, 1, none⟩)), some (.int .i64 x.pg), some (.int .i64 n), some (.int .i64 n), some (P0 r), some (.pointer (some ⟨y, 1, none⟩)), some (.int .i64 x.pg), some (.int .i64 n), some (.bool true), some (P0 b), some (P0 r), some (.bool true)] rfl (by kernel_rfl) (fun l vs W => (S3 w0 W1 b mb r g y xc P P1 5 10) (fun i => l.getD i false) vs W) (⟨(unhide HBY).drew, (Kept.refl _ _).drew, mb, g, HT1.on.step0 (Kept.refl _ _).drew, HT1.ro.step0 (Kept.refl _ _).drew, HT1.ap, .inl rfl, .inl rfl, (fun _ => rfl), fun _ => rfl⟩) ?_ ?_)
  · intro ix o' hi ho a' w2 l vs hls hlf hJ hout hin hdep hnot
    match ix, ho with
    | 0, ho =>
      obtain rfl := Option.some.inj ho
      have e0 := hout 0 (by kernel_rfl)
      replace e0 : a'.eval (.tmp 0) = _ := e0.trans rfl
      exact wp_move (.tmp 0) rfl _ e0 ⟨_, rfl, told_of rfl, keepG (St := (S3 w0 W1 b mb r g y xc P P1 5 10)) [5, 10] S3.loc (by omega) (by decide) hJ⟩
    | 1, ho =>
      obtain rfl := Option.some.inj ho
      have e0 := hout 1 (by kernel_rfl)
      replace e0 : a'.eval (.tmp 1) = _ := e0.trans rfl
      exact wp_move (.tmp 1) rfl _ e0 ⟨_, rfl, told_of rfl, keepG (St := (S3 w0 W1 b mb r g y xc P P1 5 10)) [5, 10] S3.loc (by omega) (by decide) hJ⟩
    | 2, ho =>
      obtain rfl := Option.some.inj ho
      have e0 := hout 0 (by kernel_rfl)
      replace e0 : a'.eval (.tmp 0) = _ := e0.trans rfl
      exact wp_move (.tmp 0) rfl _ e0 ⟨_, rfl, told_of rfl, keepG (St := (S3 w0 W1 b mb r g y xc P P1 5 10)) [5, 10] S3.loc (by omega) (by decide) hJ⟩
    | 3, ho =>
      obtain rfl := Option.some.inj ho
      have e0 := hout 5 (by kernel_rfl)
      replace e0 : a'.eval (.tmp 5) = _ := e0.trans rfl
      exact o_fld41_1 (.tmp 5) rfl y (0) (1) rfl e0 ⟨_, rfl, told_of rfl, keepG (St := (S3 w0 W1 b mb r g y xc P P1 5 10)) [5, 10] S3.loc (by omega) (by decide) hJ⟩
    | 4, ho =>
      obtain rfl := Option.some.inj ho
      have e0 : a'.eval (.tmp 112) = .pointer (some ⟨y, 1, none⟩) := by have h9 := hin 3 112 (by kernel_rfl) (by kernel_rfl); exact h9.1.trans (told_is _ h9.2 rfl)
      exact o_load3 (.tmp 112) rfl _ _ e0 (fits_cell hJ.by_ 1 _ (unhide HX1)) ⟨_, rfl, told_of rfl, keepG (St := (S3 w0 W1 b mb r g y xc P P1 5 10)) [5, 10] S3.loc (by omega) (by decide) hJ⟩
    | 5, ho =>
      obtain rfl := Option.some.inj ho
      have e0 : a'.eval (.tmp 111) = P0 b := by have h9 := hin 2 111 (by kernel_rfl) (by kernel_rfl); exact h9.1.trans (told_is _ h9.2 rfl)
      have e1 : a'.eval (.tmp 113) = .int .i64 x.pg := by have h9 := hin 4 113 (by kernel_rfl) (by kernel_rfl); exact h9.1.trans (told_is _ h9.2 rfl)
      have hJ2 := hJ
      obtain ⟨m2, g2, ho, hr, ha, hm, hg, hm2, hg2⟩ := hJ2.st
      rw [hlf] at ho
      obtain rfl := (hm2 hlf).symm
      refine wp_callF 26 _ _ rfl #[P0 b, .int .i64 x.pg] (by simp [e0, e1]) (cg26 _ _) ((unhide PA _ ho).mono ?_)
      rintro e w3 ⟨m3, rfl, o3, k3, f3⟩
      exact ⟨_, rfl, _, rfl, told_of rfl, nextG (St := (S3 w0 W1 b mb r g y xc P P1 5 10)) (by omega) (S3.prog hJ2 (by decide) (unhide HNY).1 hr ha hg hg2 ho o3 k3 f3)⟩
    | 6, ho =>
      obtain rfl := Option.some.inj ho
      have e0 : a'.eval (.tmp 114) = .int .i64 n := by have h9 := hin 5 114 (by kernel_rfl) (by kernel_rfl); exact h9.1.trans (told_is _ h9.2 rfl)
      refine wp_callF 9 _ _ rfl #[.int .i64 n] (by simp [e0]) (cg9 _ _) ((num9 _ _).mono ?_)
      rintro e w3 ⟨rfl, rfl⟩
      exact ⟨_, rfl, _, rfl, told_of rfl, keepG (St := (S3 w0 W1 b mb r g y xc P P1 5 10)) [5, 10] S3.loc (by omega) (by decide) hJ⟩
    | 7, ho =>
      obtain rfl := Option.some.inj ho
      have e0 := hout 1 (by kernel_rfl)
      replace e0 : a'.eval (.tmp 1) = _ := e0.trans rfl
      exact wp_move (.tmp 1) rfl _ e0 ⟨_, rfl, told_of rfl, keepG (St := (S3 w0 W1 b mb r g y xc P P1 5 10)) [5, 10] S3.loc (by omega) (by decide) hJ⟩
    | 8, ho =>
      obtain rfl := Option.some.inj ho
      have e0 := hout 5 (by kernel_rfl)
      replace e0 : a'.eval (.tmp 5) = _ := e0.trans rfl
      exact o_fld41_1 (.tmp 5) rfl y (0) (1) rfl e0 ⟨_, rfl, told_of rfl, keepG (St := (S3 w0 W1 b mb r g y xc P P1 5 10)) [5, 10] S3.loc (by omega) (by decide) hJ⟩
    | 9, ho =>
      obtain rfl := Option.some.inj ho
      have e0 : a'.eval (.tmp 117) = .pointer (some ⟨y, 1, none⟩) := by have h9 := hin 8 117 (by kernel_rfl) (by kernel_rfl); exact h9.1.trans (told_is _ h9.2 rfl)
      exact o_load3 (.tmp 117) rfl _ _ e0 (fits_cell hJ.by_ 1 _ (unhide HX1)) ⟨_, rfl, told_of rfl, keepG (St := (S3 w0 W1 b mb r g y xc P P1 5 10)) [5, 10] S3.loc (by omega) (by decide) hJ⟩
    | 10, ho =>
      obtain rfl := Option.some.inj ho
      have e0 : a'.eval (.tmp 116) = P0 r := by have h9 := hin 7 116 (by kernel_rfl) (by kernel_rfl); exact h9.1.trans (told_is _ h9.2 rfl)
      have e1 : a'.eval (.tmp 118) = .int .i64 x.pg := by have h9 := hin 9 118 (by kernel_rfl) (by kernel_rfl); exact h9.1.trans (told_is _ h9.2 rfl)
      have hJ2 := hJ
      obtain ⟨m2, g2, ho, hr, ha, hm, hg, hm2, hg2⟩ := hJ2.st
      rw [hlf] at hr
      obtain rfl := (hg2 hlf).symm
      refine wp_callF 31 _ _ rfl #[P0 r, .int .i64 x.pg, .int .i64 (-1)] (by simp [e0, e1] <;> rfl) (cg31 _ _) ((unhide PB _ hr).mono ?_)
      rintro e w3 ⟨m3, rfl, o3, k3, f3⟩
      exact ⟨_, rfl, _, rfl, told_of rfl, nextG (St := (S3 w0 W1 b mb r g y xc P P1 5 10)) (by omega) (S3.doc hJ2 (by decide) (unhide HNY).2 ho ha hm hm2 hr o3 k3 f3)⟩
    | 11, ho =>
      obtain rfl := Option.some.inj ho
      have e0 : a'.eval (.tmp 115) = .int .i64 n := by have h9 := hin 6 115 (by kernel_rfl) (by kernel_rfl); exact h9.1.trans (told_is _ h9.2 rfl)
      have e1 : a'.eval (.tmp 119) = .int .i64 n := by have h9 := hin 10 119 (by kernel_rfl) (by kernel_rfl); exact h9.1.trans (told_is _ h9.2 rfl)
      exact c_eql3 (.tmp 115) (.tmp 119) rfl _ _ (true) (decide_eq_true rfl) e0 e1 ⟨_, rfl, told_of rfl, keepG (St := (S3 w0 W1 b mb r g y xc P P1 5 10)) [5, 10] S3.loc (by omega) (by decide) hJ⟩
    | 12, ho =>
      obtain rfl := Option.some.inj ho
      have e0 : a'.eval (.tmp 109) = P0 b := by have h9 := hin 0 109 (by kernel_rfl) (by kernel_rfl); exact h9.1.trans (told_is _ h9.2 rfl)
      exact wp_assignV (.tmp 109) rfl _ e0 ⟨_, rfl, told_of rfl, keepG (St := (S3 w0 W1 b mb r g y xc P P1 5 10)) [5, 10] S3.loc (by omega) (by decide) hJ⟩
    | 13, ho =>
      obtain rfl := Option.some.inj ho
      have e0 : a'.eval (.tmp 110) = P0 r := by have h9 := hin 1 110 (by kernel_rfl) (by kernel_rfl); exact h9.1.trans (told_is _ h9.2 rfl)
      exact wp_assignV (.tmp 110) rfl _ e0 ⟨_, rfl, told_of rfl, keepG (St := (S3 w0 W1 b mb r g y xc P P1 5 10)) [5, 10] S3.loc (by omega) (by decide) hJ⟩
    | 14, ho =>
      obtain rfl := Option.some.inj ho
      have e0 : a'.eval (.tmp 120) = .bool true := by have h9 := hin 11 120 (by kernel_rfl) (by kernel_rfl); exact h9.1.trans (told_is _ h9.2 rfl)
      exact wp_assignV (.tmp 120) rfl _ e0 ⟨_, rfl, told_of rfl, keepG (St := (S3 w0 W1 b mb r g y xc P P1 5 10)) [5, 10] S3.loc (by omega) (by decide) hJ⟩
  intro l_ vs4 V4 hl hJ htold
  have t0 : vs4 0 = P0 b := told_is _ (htold 0 (by decide)) rfl
  have t1 : vs4 1 = P0 r := told_is _ (htold 1 (by decide)) rfl
  have t2 : vs4 2 = P0 b := told_is _ (htold 2 (by decide)) rfl
  have t3 : vs4 3 = .pointer (some ⟨y, 1, none⟩) := told_is _ (htold 3 (by decide)) rfl
  have t4 : vs4 4 = .int .i64 x.pg := told_is _ (htold 4 (by decide)) rfl
  have t5 : vs4 5 = .int .i64 n := told_is _ (htold 5 (by decide)) rfl
  have t6 : vs4 6 = .int .i64 n := told_is _ (htold 6 (by decide)) rfl
  have t7 : vs4 7 = P0 r := told_is _ (htold 7 (by decide)) rfl
  have t8 : vs4 8 = .pointer (some ⟨y, 1, none⟩) := told_is _ (htold 8 (by decide)) rfl
  have t9 : vs4 9 = .int .i64 x.pg := told_is _ (htold 9 (by decide)) rfl
  have t10 : vs4 10 = .int .i64 n := told_is _ (htold 10 (by decide)) rfl
  have t11 : vs4 11 = .bool true := told_is _ (htold 11 (by decide)) rfl
  have t12 : vs4 12 = P0 b := told_is _ (htold 12 (by decide)) rfl
  have t13 : vs4 13 = P0 r := told_is _ (htold 13 (by decide)) rfl
  have t14 : vs4 14 = .bool true := told_is _ (htold 14 (by decide)) rfl
  rw [show (List.range 15).map vs4 = [vs4 0, vs4 1, vs4 2, vs4 3, vs4 4, vs4 5, vs4 6, vs4 7, vs4 8, vs4 9, vs4 10, vs4 11, vs4 12, vs4 13, vs4 14] from rfl]
  simp only [t0, t1, t2, t3, t4, t5, t6, t7, t8, t9, t10, t11, t12, t13, t14, putAll, Act.put, List.setIfInBounds_toArray, List.set_cons_succ, List.set_cons_zero]
  clear t0 t1 t2 t3 t4 t5 t6 t7 t8 t9 t10 t11 t12 t13 t14 htold
  obtain ⟨m2, g2, ho, hr, ha, hm, hg, _, _⟩ := hJ.st
  rw [hl 5 (by decide)] at ho
  rw [hl 10 (by decide)] at hr
  have hkk := hJ.kept
  have HF : Hid (DS w0 w b mb r g P1 b m2 g2 V4) := ⟨⟨ho, hr, ha⟩, ((unhide HK1).mono (by simp)).trans hkk, .inl rfl, hm.imp_right (Nat.le_trans (unhide HK1).size), hg.imp_right (Nat.le_trans (unhide HK1).size)⟩
  clear ho hr ha hm hg hkk hJ hl
  go_wp2_with fail
  refine bodyPost_ret (res11 _ _ _ _ _ rfl rfl rfl) rfl ?_
  exact ⟨b, m2, g2, rfl, unhide HF⟩

end Go.Proofs.Ytgnafbohikbpfaa
