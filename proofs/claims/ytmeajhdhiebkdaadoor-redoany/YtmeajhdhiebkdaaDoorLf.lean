/-
  Flush, walked.
-/
import Derived.Test.YtmeajhdhiebkdaaDoorLe
namespace Go.Proofs.YtmeajhdhiebkdaaDoor
set_option maxRecDepth 100000
open Go.RowKit

/-- What the region that makes the places keeps. -/
@[reducible] def S13 (V : World) (J : Ar.Job) (nd : Int) (d : Nat → Bool) (vs : Nat → Value) (W : World) : Prop :=
  (d 8 = false → Kept [] V W) ∧ (d 8 = true → ∃ c1 c2, vs 8 = plV c1 c2 ∧ Pl W c1 c2 J nd ∧ Kept [] V W ∧ V.heap.size ≤ c1 ∧ V.heap.size ≤ c2) ∧ (d 9 = true → vs 9 = vs 8)
theorem S13.loc {V : World} {J : Ar.Job} {nd : Int} : ∀ d d' vs vs' W, (∀ i ∈ [8, 9], d i = d' i ∧ vs i = vs' i) → S13 V J nd d vs W → S13 V J nd d' vs' W := by
  intro d d' vs vs' W H h
  have e0 := H 8 (by simp)
  have e1 := H 9 (by simp)
  unfold S13 at h ⊢
  rw [← e0.1, ← e0.2, ← e1.1, ← e1.2]
  exact h
@[reducible] def S0 (V : World) (_ : Nat → Bool) (_ : Nat → Value) (W : World) : Prop := Kept [] V W
theorem S0.loc {V : World} : ∀ d d' vs vs' W, (∀ i ∈ ([] : List Nat), d i = d' i ∧ vs i = vs' i) → S0 V d vs W → S0 V d' vs' W := fun _ _ _ _ _ _ h => h
/-- What the region that writes a record keeps. -/
@[reducible] def S8 (V : World) (l b g : Nat) (rv : Value) (D : Dv.Dev) (L : Lo) (d : Nat → Bool) (_ : Nat → Value) (W : World) : Prop :=
  (d 6 = false → Kept [] V W) ∧ (d 6 = true → Lt W l b g rv D L ∧ Kept [b, g] V W)
theorem S8.loc {V : World} {l b g : Nat} {rv : Value} {D : Dv.Dev} {L : Lo} : ∀ d d' vs vs' W, (∀ i ∈ [6], d i = d' i ∧ vs i = vs' i) → S8 V l b g rv D L d vs W → S8 V l b g rv D L d' vs' W := by
  intro d d' vs vs' W H h
  have e0 := H 6 (by simp)
  unfold S8 at h ⊢
  rw [← e0.1]
  exact h
theorem Lt.oneMore {W W' : World} {l b g : Nat} {rv : Value} {D : Dv.Dev} {L : Lo} (f : Nat) (hf : f ≤ L.R.length) (h : Lt W l b g rv D L) (hB : Blk W' l 72 (logC b (L.atF f) rv)) (hk : Kept [l] W W') : Lt W' l b g rv D (L.atF f) := by
  have hne := h.apart
  refine ⟨hB, h.dev.kept hk ?_ ?_, h.row.kept hk (fun k e => by simpa using (hne.2 k e).2), h.recs, h.may, h.node, h.ep, h.st, h.nx, hf, h.many⟩
  · intro hm
    have := hne.1
    simp at hm this
    omega
  · intro hm
    have := hne.1
    simp at hm this
    omega
set_option maxHeartbeats 8000000 in
theorem flush13 (l b g : Nat) (rv : Value) (D : Dv.Dev) (L : Lo) (w : World) (h : Lt w l b g rv D L) : Calls Tryd.prog 13 #[P0 l] w fun e w' => e = .returned (.int .i64 (L.flush D).2.2) ∧ Lt w' l b g rv (L.flush D).1 (L.atF (L.flush D).2.1) ∧ Kept [l, b, g] w w' := by
  obtain ⟨ro, rc, e1⟩ := h.sl
  have HL := hide h
  have HH := hide h.head
  have HFL := hide h.fl
  have HBY := hide h.recs
  have HCAP : Hid (L.R.length ≤ rc ∧ (ro = none → rc = 0)) := by
    obtain ⟨ao, c, e, h1, h2⟩ := h.row.sl
    rw [e1] at e
    cases e
    exact ⟨h1, h2⟩
  have HNO := hide (unhide HCAP).2
  replace HCAP := hide (unhide HCAP).1
  have HSM := hide h.lo
  have HW : Hid (l < w.heap.size ∧ b < w.heap.size ∧ g < w.heap.size) := ⟨h.head.lt, h.dev.lt.1, h.dev.lt.2⟩
  clear h
  go_enter Tryd.func13, Tryd.ntmps13
  go_wp2_with (
    first
    | (go_at_call 33
       refine (none33 l b g rv D L _ (unhide HL)).mono ?_
       rintro e w' ⟨rfl, hw9⟩
       obtain rfl := hw9.symm
       clear hw9
       refine Stp.go ?_))
  constructor
  go_wp2_with fail
  refine wp_region_any mixed (wpAny_gx 10 rfl (by kernel_rfl) [some (P0 l), some (P0 l), some (.pointer (some ⟨l, 1, none⟩)), some (aggV (Ar.jobC L.J)), some (P0 l), some (P0 l), some (.pointer (some ⟨l, 6, none⟩)), some (.int .i64 L.nd), none, none] rfl (by kernel_rfl) (fun l_ vs W => (S13 w L.J L.nd) (fun i => l_.getD i false) vs W) (⟨fun _ => ⟨rfl, rfl, rfl, Nat.le_refl _, fun _ _ _ => rfl⟩, (fun h => by cases h), fun h => by cases h⟩) ?_ ?_)
  · intro ix o' hi ho a' w2 l_ vs hls hlf hJ hout hin hdep hnot
    match ix, ho with
    | 0, ho =>
      obtain rfl := Option.some.inj ho
      have e0 := hout 0 (by kernel_rfl)
      replace e0 : a'.eval (.tmp 0) = _ := e0.trans rfl
      exact wp_move (.tmp 0) rfl _ e0 ⟨_, rfl, told_of rfl, keepG (St := (S13 w L.J L.nd)) [8, 9] S13.loc (by omega) (by decide) hJ⟩
    | 1, ho =>
      obtain rfl := Option.some.inj ho
      have e0 : a'.eval (.tmp 11) = P0 l := by have h9 := hin 0 11 (by kernel_rfl) (by kernel_rfl); exact h9.1.trans (told_is _ h9.2 rfl)
      exact o_nil (.tmp 11) rfl _ e0 ⟨_, rfl, told_of rfl, keepG (St := (S13 w L.J L.nd)) [8, 9] S13.loc (by omega) (by decide) hJ⟩
    | 2, ho =>
      obtain rfl := Option.some.inj ho
      have e0 : a'.eval (.tmp 12) = P0 l := by have h9 := hin 1 12 (by kernel_rfl) (by kernel_rfl); exact h9.1.trans (told_is _ h9.2 rfl)
      exact o_fld72_1 (.tmp 12) rfl _ e0 ⟨_, rfl, told_of rfl, keepG (St := (S13 w L.J L.nd)) [8, 9] S13.loc (by omega) (by decide) hJ⟩
    | 3, ho =>
      obtain rfl := Option.some.inj ho
      have e0 : a'.eval (.tmp 13) = .pointer (some ⟨l, 1, none⟩) := by have h9 := hin 2 13 (by kernel_rfl) (by kernel_rfl); exact h9.1.trans (told_is _ h9.2 rfl)
      exact wp_loadA row23 (.tmp 13) rfl l 1 e0 (Ar.jobC L.J) rfl (((unhide HH).kept (hJ.1 (hnot 8 (by kernel_rfl))) (by simp)).rangeIn (o := 1) (Ar.jobC L.J) (jobC_in b L rv)) ⟨_, rfl, told_of rfl, keepG (St := (S13 w L.J L.nd)) [8, 9] S13.loc (by omega) (by decide) hJ⟩
    | 4, ho =>
      obtain rfl := Option.some.inj ho
      have e0 := hout 0 (by kernel_rfl)
      replace e0 : a'.eval (.tmp 0) = _ := e0.trans rfl
      exact wp_move (.tmp 0) rfl _ e0 ⟨_, rfl, told_of rfl, keepG (St := (S13 w L.J L.nd)) [8, 9] S13.loc (by omega) (by decide) hJ⟩
    | 5, ho =>
      obtain rfl := Option.some.inj ho
      have e0 : a'.eval (.tmp 15) = P0 l := by have h9 := hin 4 15 (by kernel_rfl) (by kernel_rfl); exact h9.1.trans (told_is _ h9.2 rfl)
      exact o_nil (.tmp 15) rfl _ e0 ⟨_, rfl, told_of rfl, keepG (St := (S13 w L.J L.nd)) [8, 9] S13.loc (by omega) (by decide) hJ⟩
    | 6, ho =>
      obtain rfl := Option.some.inj ho
      have e0 : a'.eval (.tmp 16) = P0 l := by have h9 := hin 5 16 (by kernel_rfl) (by kernel_rfl); exact h9.1.trans (told_is _ h9.2 rfl)
      exact o_fld72_2 (.tmp 16) rfl _ e0 ⟨_, rfl, told_of rfl, keepG (St := (S13 w L.J L.nd)) [8, 9] S13.loc (by omega) (by decide) hJ⟩
    | 7, ho =>
      obtain rfl := Option.some.inj ho
      have e0 : a'.eval (.tmp 17) = .pointer (some ⟨l, 6, none⟩) := by have h9 := hin 6 17 (by kernel_rfl) (by kernel_rfl); exact h9.1.trans (told_is _ h9.2 rfl)
      exact q_load3 (.tmp 17) rfl _ _ e0 (fits_cell ((unhide HH).kept (hJ.1 (hnot 8 (by kernel_rfl))) (by simp)) 6 _ rfl) ⟨_, rfl, told_of rfl, keepG (St := (S13 w L.J L.nd)) [8, 9] S13.loc (by omega) (by decide) hJ⟩
    | 8, ho =>
      obtain rfl := Option.some.inj ho
      have e0 : a'.eval (.tmp 14) = aggV (Ar.jobC L.J) := by have h9 := hin 3 14 (by kernel_rfl) (by kernel_rfl); exact h9.1.trans (told_is _ h9.2 rfl)
      have e1 : a'.eval (.tmp 18) = .int .i64 L.nd := by have h9 := hin 7 18 (by kernel_rfl) (by kernel_rfl); exact h9.1.trans (told_is _ h9.2 rfl)
      refine wp_callF 34 _ _ rfl #[aggV (Ar.jobC L.J), .int .i64 L.nd] (by simp [e0, e1]) (cg34 _ _) ((places34 L.J L.nd w2).mono ?_)
      rintro e w3 ⟨c1, c2, rfl, hp3, hk3, hf1, hf2⟩
      have hk0 := hJ.1 hlf
      exact ⟨_, rfl, _, rfl, told_no rfl, nextG (St := (S13 w L.J L.nd)) (by omega) ⟨(fun h => by cases h), (fun _ => ⟨c1, c2, rfl, hp3, hk0.trans hk3, by have := hk0.size; omega, by have := hk0.size; omega⟩), (fun h => by have h9 : l_.getD 9 false = true := h; rw [hnot 9 (by kernel_rfl)] at h9; cases h9)⟩⟩
    | 9, ho =>
      obtain rfl := Option.some.inj ho
      have e0 : a'.eval (.tmp 19) = vs 8 := (hin 8 19 (by kernel_rfl) (by kernel_rfl)).1
      exact wp_assignV (.tmp 19) rfl _ e0 ⟨_, rfl, told_no rfl, nextG (St := (S13 w L.J L.nd)) (by omega) ⟨fun h => hJ.1 h, fun h => hJ.2.1 h, fun _ => rfl⟩⟩
  intro l_ vs V hl hJ htold
  have t0 : vs 0 = P0 l := told_is _ (htold 0 (by decide)) rfl
  have t1 : vs 1 = P0 l := told_is _ (htold 1 (by decide)) rfl
  have t2 : vs 2 = .pointer (some ⟨l, 1, none⟩) := told_is _ (htold 2 (by decide)) rfl
  have t3 : vs 3 = aggV (Ar.jobC L.J) := told_is _ (htold 3 (by decide)) rfl
  have t4 : vs 4 = P0 l := told_is _ (htold 4 (by decide)) rfl
  have t5 : vs 5 = P0 l := told_is _ (htold 5 (by decide)) rfl
  have t6 : vs 6 = .pointer (some ⟨l, 6, none⟩) := told_is _ (htold 6 (by decide)) rfl
  have t7 : vs 7 = .int .i64 L.nd := told_is _ (htold 7 (by decide)) rfl
  rw [show (List.range 10).map vs = [vs 0, vs 1, vs 2, vs 3, vs 4, vs 5, vs 6, vs 7, vs 8, vs 9] from rfl]
  simp only [t0, t1, t2, t3, t4, t5, t6, t7, putAll, Act.put, List.setIfInBounds_toArray, List.set_cons_succ, List.set_cons_zero]
  clear t0 t1 t2 t3 t4 t5 t6 t7 htold
  obtain ⟨c1, c2, e8, hpl, hk9, hf1, hf2⟩ := hJ.2.1 (hl 8 (by decide))
  have e9 := hJ.2.2 (hl 9 (by decide))
  simp only [e9, e8]
  subst e1
  have HPL := hide hpl
  have HK := hide hk9
  have HF : Hid (w.heap.size ≤ c1 ∧ w.heap.size ≤ c2) := ⟨hf1, hf2⟩
  replace HL := hide ((unhide HL).kept0 hk9)
  replace HH := hide (unhide HL).head
  clear hJ hl e8 e9 hpl hk9 hf1 hf2
  go_wp2_with fail
  refine wp_region_any mixed (wpAny_gx 11 rfl (by kernel_rfl) [some (P0 l), some (P0 l), some (.pointer (some ⟨l, 9, none⟩)), some (.slice ro L.R.length rc), some (P0 l), some (P0 l), some (.pointer (some ⟨l, 10, none⟩)), some (.int .i64 L.fl), some (restV ro L.R.length rc L.fl), some (.int .i64 (L.R.length - L.fl : Nat)), some (.int .i64 0)] rfl (by kernel_rfl) (fun l_ vs W => (S0 V) (fun i => l_.getD i false) vs W) (⟨rfl, rfl, rfl, Nat.le_refl _, fun _ _ _ => rfl⟩) ?_ ?_)
  · intro ix o' hi ho a' w2 l_ vs hls hlf hJ hout hin hdep hnot
    match ix, ho with
    | 0, ho =>
      obtain rfl := Option.some.inj ho
      have e0 := hout 0 (by kernel_rfl)
      replace e0 : a'.eval (.tmp 0) = _ := e0.trans rfl
      exact wp_move (.tmp 0) rfl _ e0 ⟨_, rfl, told_of rfl, keepG (St := (S0 V)) [] S0.loc (by omega) (by decide) hJ⟩
    | 1, ho =>
      obtain rfl := Option.some.inj ho
      have e0 : a'.eval (.tmp 20) = P0 l := by have h9 := hin 0 20 (by kernel_rfl) (by kernel_rfl); exact h9.1.trans (told_is _ h9.2 rfl)
      exact o_nil (.tmp 20) rfl _ e0 ⟨_, rfl, told_of rfl, keepG (St := (S0 V)) [] S0.loc (by omega) (by decide) hJ⟩
    | 2, ho =>
      obtain rfl := Option.some.inj ho
      have e0 : a'.eval (.tmp 21) = P0 l := by have h9 := hin 1 21 (by kernel_rfl) (by kernel_rfl); exact h9.1.trans (told_is _ h9.2 rfl)
      exact o_fld72_5 (.tmp 21) rfl _ e0 ⟨_, rfl, told_of rfl, keepG (St := (S0 V)) [] S0.loc (by omega) (by decide) hJ⟩
    | 3, ho =>
      obtain rfl := Option.some.inj ho
      have e0 : a'.eval (.tmp 22) = .pointer (some ⟨l, 9, none⟩) := by have h9 := hin 2 22 (by kernel_rfl) (by kernel_rfl); exact h9.1.trans (told_is _ h9.2 rfl)
      exact q_load37 (.tmp 22) rfl _ _ e0 (fits_cell ((unhide HH).kept hJ (by simp)) 9 _ rfl) ⟨_, rfl, told_of rfl, keepG (St := (S0 V)) [] S0.loc (by omega) (by decide) hJ⟩
    | 4, ho =>
      obtain rfl := Option.some.inj ho
      have e0 := hout 0 (by kernel_rfl)
      replace e0 : a'.eval (.tmp 0) = _ := e0.trans rfl
      exact wp_move (.tmp 0) rfl _ e0 ⟨_, rfl, told_of rfl, keepG (St := (S0 V)) [] S0.loc (by omega) (by decide) hJ⟩
    | 5, ho =>
      obtain rfl := Option.some.inj ho
      have e0 : a'.eval (.tmp 24) = P0 l := by have h9 := hin 4 24 (by kernel_rfl) (by kernel_rfl); exact h9.1.trans (told_is _ h9.2 rfl)
      exact o_nil (.tmp 24) rfl _ e0 ⟨_, rfl, told_of rfl, keepG (St := (S0 V)) [] S0.loc (by omega) (by decide) hJ⟩
    | 6, ho =>
      obtain rfl := Option.some.inj ho
      have e0 : a'.eval (.tmp 25) = P0 l := by have h9 := hin 5 25 (by kernel_rfl) (by kernel_rfl); exact h9.1.trans (told_is _ h9.2 rfl)
      exact o_fld72_6 (.tmp 25) rfl _ e0 ⟨_, rfl, told_of rfl, keepG (St := (S0 V)) [] S0.loc (by omega) (by decide) hJ⟩
    | 7, ho =>
      obtain rfl := Option.some.inj ho
      have e0 : a'.eval (.tmp 26) = .pointer (some ⟨l, 10, none⟩) := by have h9 := hin 6 26 (by kernel_rfl) (by kernel_rfl); exact h9.1.trans (told_is _ h9.2 rfl)
      exact q_load3 (.tmp 26) rfl _ _ e0 (fits_cell ((unhide HH).kept hJ (by simp)) 10 _ rfl) ⟨_, rfl, told_of rfl, keepG (St := (S0 V)) [] S0.loc (by omega) (by decide) hJ⟩
    | 8, ho =>
      obtain rfl := Option.some.inj ho
      have e0 : a'.eval (.tmp 23) = .slice ro L.R.length rc := by have h9 := hin 3 23 (by kernel_rfl) (by kernel_rfl); exact h9.1.trans (told_is _ h9.2 rfl)
      have e1 : a'.eval (.tmp 27) = .int .i64 L.fl := by have h9 := hin 7 27 (by kernel_rfl) (by kernel_rfl); exact h9.1.trans (told_is _ h9.2 rfl)
      exact o_rest (.tmp 23) 27 rfl ro L.R.length rc L.fl (unhide HCAP) (unhide HNO) (unhide HFL) e0 e1 ⟨_, rfl, told_of rfl, keepG (St := (S0 V)) [] S0.loc (by omega) (by decide) hJ⟩
    | 9, ho =>
      obtain rfl := Option.some.inj ho
      have e0 : a'.eval (.tmp 28) = restV ro L.R.length rc L.fl := by have h9 := hin 8 28 (by kernel_rfl) (by kernel_rfl); exact h9.1.trans (told_is _ h9.2 rfl)
      exact o_len37 28 rfl _ _ _ e0 ⟨_, rfl, told_of rfl, keepG (St := (S0 V)) [] S0.loc (by omega) (by decide) hJ⟩
    | 10, ho =>
      obtain rfl := Option.some.inj ho
      exact wp_move (.const (.int .i64 0)) rfl _ rfl ⟨_, rfl, told_of rfl, keepG (St := (S0 V)) [] S0.loc (by omega) (by decide) hJ⟩
  intro l_ vs2 w10 hl hJ htold
  have t0 : vs2 0 = P0 l := told_is _ (htold 0 (by decide)) rfl
  have t1 : vs2 1 = P0 l := told_is _ (htold 1 (by decide)) rfl
  have t2 : vs2 2 = .pointer (some ⟨l, 9, none⟩) := told_is _ (htold 2 (by decide)) rfl
  have t3 : vs2 3 = .slice ro L.R.length rc := told_is _ (htold 3 (by decide)) rfl
  have t4 : vs2 4 = P0 l := told_is _ (htold 4 (by decide)) rfl
  have t5 : vs2 5 = P0 l := told_is _ (htold 5 (by decide)) rfl
  have t6 : vs2 6 = .pointer (some ⟨l, 10, none⟩) := told_is _ (htold 6 (by decide)) rfl
  have t7 : vs2 7 = .int .i64 L.fl := told_is _ (htold 7 (by decide)) rfl
  have t8 : vs2 8 = restV ro L.R.length rc L.fl := told_is _ (htold 8 (by decide)) rfl
  have t9 : vs2 9 = .int .i64 (L.R.length - L.fl : Nat) := told_is _ (htold 9 (by decide)) rfl
  have t10 : vs2 10 = .int .i64 0 := told_is _ (htold 10 (by decide)) rfl
  rw [show (List.range 11).map vs2 = [vs2 0, vs2 1, vs2 2, vs2 3, vs2 4, vs2 5, vs2 6, vs2 7, vs2 8, vs2 9, vs2 10] from rfl]
  simp only [t0, t1, t2, t3, t4, t5, t6, t7, t8, t9, t10, putAll, Act.put, List.setIfInBounds_toArray, List.set_cons_succ, List.set_cons_zero]
  clear t0 t1 t2 t3 t4 t5 t6 t7 t8 t9 t10 htold
  have HK10 := hide (show Kept [] V w10 from hJ)
  clear hJ hl
  obtain ⟨ao, cc, e2, _, _⟩ := ((unhide HL).row.rest L.fl (unhide HFL)).sl
  rw [e2]
  obtain ⟨N, hN⟩ : ∃ N, N = L.R.length - L.fl := ⟨_, rfl⟩
  rw [← hN] at e2
  rw [← hN]
  have HE2 := hide e2
  have HN : Hid (N + L.fl ≤ L.R.length ∧ L.R.length ≤ N + L.fl) := by
    have := unhide HFL
    constructor <;> omega
  clear hN
  have S1 : Hid (Lt w10 l b g (.slice ro L.R.length rc) D (L.atF (L.fl + 0))) := (unhide HL).kept0 (unhide HK10)
  have S2 : Hid (Pl w10 c1 c2 L.J L.nd) := (unhide HPL).kept (unhide HK10) (by simp) (by simp)
  have S3 : Hid (Kept [l, b, g] w w10) := ((unhide HK).trans (unhide HK10)).mono (by simp)
  have HC : Hid (c1 ∉ [l, b, g] ∧ c2 ∉ [l, b, g]) := by
    have h1 := unhide HW
    have h2 := unhide HF
    constructor <;> simp <;> omega
  have hfl := unhide HFL
  have hsm := unhide HSM
  clear HL HH HPL HK HK10 e2 HF HCAP HNO HSM
  go_wp2_with fail
  go_loopw [30] (fun i wr => ∃ (k : Nat) (Dk : Dv.Dev), k ≤ N ∧ i = .int .i64 k ∧ Hid (Lt wr l b g (.slice ro L.R.length rc) Dk (L.atF (L.fl + k))) ∧ Hid (Pl wr c1 c2 L.J L.nd) ∧ Hid (Kept [l, b, g] w wr) ∧ Hid (flushR L.J L.nd L.ep Dk ((L.R.drop L.fl).drop k) (L.fl + k) = L.flush D)) (fun i _ => N - (intOf i).toNat)
  case atStart => exact ⟨0, D, by omega, rfl, S1, S2, S3, rfl⟩
  case round =>
    obtain ⟨k, Dk, hkm, rfl, RL, RP, RK, RF⟩ := hrel
    by_cases hlt : k < N
    · have hk' : k < (L.R.drop L.fl).length := by rw [List.length_drop]; have := unhide HN; omega
      have hbR : ∀ r ∈ L.R.drop L.fl, Rc.Byts 96 r.bd := fun r h => unhide HBY r (List.mem_of_mem_drop h)
      have hrow := (unhide RL).row.rest L.fl (unhide HFL)
      rw [unhide HE2] at hrow
      have hrow2 : OwnO wr (.slice ao N cc) (L.R.drop L.fl).length (cellsR (L.R.drop L.fl)) := by
        rw [List.length_drop, ← cellsR_drop _ _ (unhide HBY)]
        exact hrow
      obtain ⟨g5, off, c5, e5, hat⟩ := hrow2.rec_at hbR hk'
      injection e5 with ea en ec
      clear en ec
      subst ea
      obtain ⟨r, hr⟩ : ∃ r, r = (L.R.drop L.fl)[k] := ⟨_, rfl⟩
      have hrb : Rc.Byts 96 r.bd := by rw [hr]; exact hbR _ (List.getElem_mem _)
      have hcut : (L.R.drop L.fl).drop k = r :: (L.R.drop L.fl).drop (k + 1) := by rw [List.drop_eq_getElem_cons hk', hr]
      rw [← hr] at hat
      have HAT := hide hat
      have HRL := hide (recC_len hrb)
      obtain ⟨po, hpo⟩ : ∃ po, po = (L.J.record L.nd r.ls).1 := ⟨_, rfl⟩
      obtain ⟨X, hX⟩ : ∃ X, X = (Rc.putR r).1 := ⟨_, rfl⟩
      obtain ⟨cx, hcx⟩ : ∃ cx, cx = (Rc.putR r).2 := ⟨_, rfl⟩
      obtain ⟨m, hm⟩ : ∃ m, m = wrA (Dk.write L.nd L.ep po (secsR r)).1 := ⟨_, rfl⟩
      obtain ⟨D2, hD2⟩ : ∃ D2, D2 = (Dk.write L.nd L.ep po (secsR r)).2 := ⟨_, rfl⟩
      have P35 := hide (fun W => put35 r hrb W)
      have hXb := putR_byts r hrb
      rw [← hX, ← hcx] at P35
      rw [← hX] at hXb
      have HXB := hide hXb
      have HXL : Hid ((u8s X).length = 128) := by rw [u8s_len]; exact hXb.len
      have hFq := unhide RF
      rw [hcut, flushR, ← hpo, ← hD2] at hFq
      have HFQ := hide hFq
      have HM := hide hm
      have HPO : Hid (-9223372036854775808 ≤ po ∧ po ≤ 9223372036854775807) := by rw [hpo]; exact rec_pos _ _ _ (unhide RL).may (unhide RL).node
      have P36 : Hid (∀ (W : World) (p6 : Nat), Kept [] wr W → wr.heap.size ≤ p6 → Blk W p6 81 (u8s X) → Calls Tryd.prog 36 #[P0 l, .int .i64 po, .slice (some ⟨p6, 0, none⟩) 2 2] W fun e w' => e = .returned (.int .i64 m) ∧ Lt w' l b g (.slice ro L.R.length rc) D2 (L.atF (L.fl + k)) ∧ Kept [b, g] W w') := by
        intro W p6 hk6 hp6 hB6
        have hs := secs_two hB6 (unhide HXB)
        have hw := write36 l b g _ Dk (L.atF (L.fl + k)) po (some ⟨p6, 0, none⟩) 2 2 (secsR r) W ((unhide RL).kept0 hk6) (unhide HPO) (by omega) (by unfold secsR; rw [← hX]; exact hs) (by
          have h8 := (unhide RL).dev.lt
          intro q off e
          cases e
          simp
          omega)
        rw [hm, hD2]
        exact hw
      have P59 : Hid (∀ (W : World), Kept [] wr W → Calls Tryd.prog 59 #[.int .i64 r.ls, P0 c1, P0 c2] W fun e w' => e = .returned (.int .i64 po) ∧ Kept [] W w') := by
        intro W hk6
        rw [hpo]
        exact place59 c1 c2 L.J L.nd r.ls W ((unhide RP).kept hk6 (by simp) (by simp))
      clear hat hrb hXb hFq hX hcx hpo hm hD2 hcut hr hrow hrow2 hbR hk' RF
      go_wp2_with (
        first
        | (refine wpIdx37 (by rfl) (.tmp 28) (.tmp 30) (by rfl) g5 off N cc k hlt (by kernel_rfl) (by kernel_rfl) ?_
           refine Stp.go ?_))
      constructor
      go_wp2_with (
        first
        | (refine wpLoadA row45 (by rfl) (.tmp 32) (by rfl) g5 (off + k * 101) (by kernel_rfl) (Rc.recC r) (unhide HRL) (unhide HAT) ?_
           refine Stp.go ?_))
      constructor
      go_wp2_with (
        first
        | (refine wpNew row45 (Rc.recC Rc.zrec) (recC_len (r := Rc.zrec) (Rc.zs_byts 96)) (fun w => Rc.zero25 w) 5 (by rfl) (by rfl) (by rfl) (.tmp 33) (by rfl) (by rfl) (by rfl) (Rc.recC r) (unhide HRL) (recC_one r) (by kernel_rfl) (by kernel_rfl) ?_
           intro W5 p5 e5 B5 K5
           have HX := hide B5
           have HK5 := hide K5
           clear e5 B5 K5
           refine Stp.go ?_))
      constructor
      go_wp2_with (
        first
        | (refine wpLoadA row45 (by rfl) (.tmp 5) (by rfl) p5 0 (by kernel_rfl) (Rc.recC r) (unhide HRL) (unhide HX).range ?_
           refine Stp.go ?_))
      constructor
      go_wp2_with (
        first
        | (go_at_call 35
           refine (unhide P35 _).mono ?_
           rintro e W6 ⟨rfl, K6⟩
           replace HX := hide ((unhide HX).kept K6 (by simp))
           replace HK5 := hide ((unhide HK5).trans K6)
           clear K6
           refine Stp.go ?_))
      constructor
      go_wp2_with (
        first
        | (refine wpNew row81 (u8s (Rc.zs 128)) (by simp [u8s_len, Rc.zs]) (fun w => Rc.zero30 w) 6 (by rfl) (by rfl) (by rfl) (.tmp 37) (by rfl) (by rfl) (by rfl) (u8s X) (unhide HXL) (u8s_one _) (by kernel_rfl) (by kernel_rfl) ?_
           intro V8 p6 e6 B6 K6
           replace HX := hide ((unhide HX).kept K6 (by simp))
           have HN6 : Hid (wr.heap.size ≤ p6) := by rw [e6]; exact (unhide HK5).size
           replace HK5 := hide ((unhide HK5).trans K6)
           have HB6 := hide B6
           clear e6 B6 K6
           refine Stp.go ?_))
      constructor
      replace P36 : Hid (∀ W, Kept [] V8 W → _) := fun W hk => unhide P36 W p6 ((unhide HK5).trans hk) (unhide HN6) ((unhide HB6).kept hk (by simp))
      replace P59 : Hid (∀ W, Kept [] V8 W → _) := fun W hk => unhide P59 W ((unhide HK5).trans hk)
      go_wp2_with fail
      refine wp_region_any mixed (wpAny_gx 8 rfl (by kernel_rfl) [some (P0 l), some (plV c1 c2), some (.pointer (some ⟨p5, 2, none⟩)), some (.int .i64 r.ls), some (.int .i64 po), some (.slice (some ⟨p6, 0, none⟩) 2 2), some (.int .i64 m), some (.int .i64 m)] rfl (by kernel_rfl) (fun l_ vs W => (S8 V8 l b g (.slice ro L.R.length rc) D2 (L.atF (L.fl + k))) (fun i => l_.getD i false) vs W) (⟨fun _ => ⟨rfl, rfl, rfl, Nat.le_refl _, fun _ _ _ => rfl⟩, fun h => by cases h⟩) ?_ ?_)
      · intro ix o' hi ho a' w2 l_ vs hls hlf hJ hout hin hdep hnot
        match ix, ho with
        | 0, ho =>
          obtain rfl := Option.some.inj ho
          have e0 := hout 0 (by kernel_rfl)
          replace e0 : a'.eval (.tmp 0) = _ := e0.trans rfl
          exact wp_move (.tmp 0) rfl _ e0 ⟨_, rfl, told_of rfl, keepG (St := (S8 V8 l b g (.slice ro L.R.length rc) D2 (L.atF (L.fl + k)))) [6] S8.loc (by omega) (by decide) hJ⟩
        | 1, ho =>
          obtain rfl := Option.some.inj ho
          have e0 := hout 3 (by kernel_rfl)
          replace e0 : a'.eval (.tmp 3) = _ := e0.trans rfl
          exact wp_move (.tmp 3) rfl _ e0 ⟨_, rfl, told_of rfl, keepG (St := (S8 V8 l b g (.slice ro L.R.length rc) D2 (L.atF (L.fl + k)))) [6] S8.loc (by omega) (by decide) hJ⟩
        | 2, ho =>
          obtain rfl := Option.some.inj ho
          have e0 := hout 5 (by kernel_rfl)
          replace e0 : a'.eval (.tmp 5) = _ := e0.trans rfl
          exact o_fld45_2 (.tmp 5) rfl _ e0 ⟨_, rfl, told_of rfl, keepG (St := (S8 V8 l b g (.slice ro L.R.length rc) D2 (L.atF (L.fl + k)))) [6] S8.loc (by omega) (by decide) hJ⟩
        | 3, ho =>
          obtain rfl := Option.some.inj ho
          have e0 : a'.eval (.tmp 41) = .pointer (some ⟨p5, 2, none⟩) := by have h9 := hin 2 41 (by kernel_rfl) (by kernel_rfl); exact h9.1.trans (told_is _ h9.2 rfl)
          exact q_load2 (.tmp 41) rfl _ _ e0 (fits_cell ((unhide HX).kept (hJ.1 (hnot 6 (by kernel_rfl))) (by simp)) 2 _ rfl) ⟨_, rfl, told_of rfl, keepG (St := (S8 V8 l b g (.slice ro L.R.length rc) D2 (L.atF (L.fl + k)))) [6] S8.loc (by omega) (by decide) hJ⟩
        | 4, ho =>
          obtain rfl := Option.some.inj ho
          have e0 : a'.eval (.tmp 40) = plV c1 c2 := by have h9 := hin 1 40 (by kernel_rfl) (by kernel_rfl); exact h9.1.trans (told_is _ h9.2 rfl)
          have e1 : a'.eval (.tmp 42) = .int .i64 r.ls := by have h9 := hin 3 42 (by kernel_rfl) (by kernel_rfl); exact h9.1.trans (told_is _ h9.2 rfl)
          refine wp_callC 59 40 _ _ rfl #[P0 c1, P0 c2] e0 #[.int .i64 r.ls] (by simp [e1]) (cg59 _ _) ((unhide P59 w2 (hJ.1 (hnot 6 (by kernel_rfl)))).mono ?_)
          rintro e w3 ⟨rfl, hk3⟩
          exact ⟨_, rfl, _, rfl, told_of rfl, nextG (St := (S8 V8 l b g (.slice ro L.R.length rc) D2 (L.atF (L.fl + k)))) (by omega) ⟨fun h => (hJ.1 h).trans hk3, (fun h => by have h9 : l_.getD 6 false = true := h; rw [hnot 6 (by kernel_rfl)] at h9; cases h9)⟩⟩
        | 5, ho =>
          obtain rfl := Option.some.inj ho
          have e0 := hout 6 (by kernel_rfl)
          replace e0 : a'.eval (.tmp 6) = _ := e0.trans rfl
          exact o_all81 (.tmp 6) rfl p6 e0 ⟨_, rfl, told_of rfl, keepG (St := (S8 V8 l b g (.slice ro L.R.length rc) D2 (L.atF (L.fl + k)))) [6] S8.loc (by omega) (by decide) hJ⟩
        | 6, ho =>
          obtain rfl := Option.some.inj ho
          have e0 : a'.eval (.tmp 39) = P0 l := by have h9 := hin 0 39 (by kernel_rfl) (by kernel_rfl); exact h9.1.trans (told_is _ h9.2 rfl)
          have e1 : a'.eval (.tmp 43) = .int .i64 po := by have h9 := hin 4 43 (by kernel_rfl) (by kernel_rfl); exact h9.1.trans (told_is _ h9.2 rfl)
          have e2 : a'.eval (.tmp 44) = .slice (some ⟨p6, 0, none⟩) 2 2 := by have h9 := hin 5 44 (by kernel_rfl) (by kernel_rfl); exact h9.1.trans (told_is _ h9.2 rfl)
          refine wp_callF 36 _ _ rfl #[P0 l, .int .i64 po, .slice (some ⟨p6, 0, none⟩) 2 2] (by simp [e0, e1, e2]) (cg36 _ _) ((unhide P36 w2 (hJ.1 hlf)).mono ?_)
          rintro e w3 ⟨rfl, hL3, hk3⟩
          exact ⟨_, rfl, _, rfl, told_of rfl, nextG (St := (S8 V8 l b g (.slice ro L.R.length rc) D2 (L.atF (L.fl + k)))) (by omega) ⟨(fun h => by cases h), fun _ => ⟨hL3, ((hJ.1 hlf).mono (by simp)).trans hk3⟩⟩⟩
        | 7, ho =>
          obtain rfl := Option.some.inj ho
          have e0 : a'.eval (.tmp 45) = .int .i64 m := by have h9 := hin 6 45 (by kernel_rfl) (by kernel_rfl); exact h9.1.trans (told_is _ h9.2 rfl)
          exact wp_assignV (.tmp 45) rfl _ e0 ⟨_, rfl, told_of rfl, keepG (St := (S8 V8 l b g (.slice ro L.R.length rc) D2 (L.atF (L.fl + k)))) [6] S8.loc (by omega) (by decide) hJ⟩
      intro l_ vs3 w11 hl hJ htold
      have t0 : vs3 0 = P0 l := told_is _ (htold 0 (by decide)) rfl
      have t1 : vs3 1 = plV c1 c2 := told_is _ (htold 1 (by decide)) rfl
      have t2 : vs3 2 = .pointer (some ⟨p5, 2, none⟩) := told_is _ (htold 2 (by decide)) rfl
      have t3 : vs3 3 = .int .i64 r.ls := told_is _ (htold 3 (by decide)) rfl
      have t4 : vs3 4 = .int .i64 po := told_is _ (htold 4 (by decide)) rfl
      have t5 : vs3 5 = .slice (some ⟨p6, 0, none⟩) 2 2 := told_is _ (htold 5 (by decide)) rfl
      have t6 : vs3 6 = .int .i64 m := told_is _ (htold 6 (by decide)) rfl
      have t7 : vs3 7 = .int .i64 m := told_is _ (htold 7 (by decide)) rfl
      rw [show (List.range 8).map vs3 = [vs3 0, vs3 1, vs3 2, vs3 3, vs3 4, vs3 5, vs3 6, vs3 7] from rfl]
      simp only [t0, t1, t2, t3, t4, t5, t6, t7, putAll, Act.put, List.setIfInBounds_toArray, List.set_cons_succ, List.set_cons_zero]
      clear t0 t1 t2 t3 t4 t5 t6 t7 htold
      obtain ⟨hL9, hk9⟩ := hJ.2 (hl 6 (by decide))
      have HL9 := hide hL9
      have HK9 : Hid (Kept [l, b, g] w w11) := (unhide RK).trans (((unhide HK5).mono (by simp)).trans (hk9.mono (by intro q hq; simp at hq ⊢; omega)))
      have HP9 : Hid (Pl w11 c1 c2 L.J L.nd) := by
        refine ((unhide RP).kept (unhide HK5) (by simp) (by simp)).kept hk9 ?_ ?_
        · have := (unhide HC).1
          simp at this ⊢
          omega
        · have := (unhide HC).2
          simp at this ⊢
          omega
      clear hJ hl hL9 hk9 HX HK5 HN6 HB6 P36 P59 P35 HAT HRL HXL HXB RP RK RL HPO
      obtain ⟨f, hf⟩ : ∃ f, f = L.fl + k := ⟨_, rfl⟩
      rw [← hf] at HL9 HFQ
      have hf64 : f < 64 := by have := unhide HN; omega
      have hk64 : k < 64 := by omega
      have HFF : Hid (f = L.fl + k) := hf
      clear hf
      by_cases hm0 : m = 0
      · subst hm0
        have hz : (Dk.write L.nd L.ep po (secsR r)).1 = 0 := by
          have := unhide HM
          unfold wrA at this
          split at this
          · assumption
          · omega
        have hq := unhide HFQ
        rw [if_pos hz] at hq
        replace HFQ := hide hq
        have h10 : w11.cell? ⟨l, 10, none⟩ = some (.int .i64 (f : Int)) := fits_cell (unhide HL9).head 10 _ rfl
        have hz10 := (unhide HL9).head.frozen 10
        clear hz hq HM
        go_wp2_with fail
        go_roundw
        case rel =>
          have hf := unhide HFF
          have hB := (unhide HL9).head.set (i := 10) (.int .i64 ((f : Int) + 1))
          have hk1 : Kept [l] w11 (w11.setCell ⟨l, 10, none⟩ (.int .i64 ((f : Int) + 1))) := (Kept.refl _ _).setCell (by simp) _
          have hc := unhide HC
          have e : ((L.fl + (k + 1) : Nat) : Int) = (f : Int) + 1 := by omega
          refine ⟨k + 1, D2, by omega, by go_num, ?_, ?_, ?_, ?_⟩
          · refine Lt.oneMore (L := L.atF f) (L.fl + (k + 1)) (by have := unhide HN; show L.fl + (k + 1) ≤ L.R.length; omega) (unhide HL9) ?_ hk1
            show Blk _ l 72 [_, _, _, _, _, _, _, _, _, _, .int .i64 ((L.fl + (k + 1) : Nat) : Int)]
            rw [e]
            exact hB
          · exact (unhide HP9).kept hk1 (by have := hc.1; simp at this ⊢; omega) (by have := hc.2; simp at this ⊢; omega)
          · exact (unhide HK9).trans (hk1.mono (by simp))
          · show flushR _ _ _ _ _ (L.fl + (k + 1)) = _
            rw [show L.fl + (k + 1) = f + 1 by omega]
            exact unhide HFQ
        case measure => simp [intOf]; omega
      · have hz : ¬ (Dk.write L.nd L.ep po (secsR r)).1 = 0 := by
          intro e
          apply hm0
          have := unhide HM
          rw [e] at this
          exact this
        have hm8 : m = 8 := by
          have := unhide HM
          unfold wrA at this
          rw [if_neg hz] at this
          exact this
        have hq := unhide HFQ
        rw [if_neg hz] at hq
        replace HFQ := hide hq
        clear hz hq HM hm0
        subst hm8
        go_wp2_with fail
        go_ret
        rw [← unhide HFQ]
        exact ⟨rfl, unhide HL9, unhide HK9⟩
    · go_wp2_with fail
      go_ret
      have hq := unhide RF
      rw [List.drop_eq_nil_of_le (by rw [List.length_drop]; have := unhide HN; omega), flushR] at hq
      rw [← hq]
      exact ⟨rfl, unhide RL, unhide RK⟩

end Go.Proofs.YtmeajhdhiebkdaaDoor
