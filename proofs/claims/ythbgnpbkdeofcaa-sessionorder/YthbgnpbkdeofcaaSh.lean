/-
  Fresh, Again; what is forgotten.
-/
import Derived.Test.YthbgnpbkdeofcaaSg
import Derived.BigQuiet
namespace Go.Proofs.Ythbgnpbkdeofcaa
set_option maxRecDepth 100000
open Go.RowKit

def Ps.fresh (P : Ps) : List Dg := P.tellL (max P.told P.known)
def Ps.again (P : Ps) : List Dg := P.tellL P.known
/-- What a call that tells leaves. -/
def TR (w : World) (b : Nat) (v : Value) (ws : List Value) (P : Ps) (D : List Dg) (e : Ending) (w' : World) : Prop := ∃ dv L, e = .returned dv ∧ Dl w' w.heap.size dv L ∧ L.map Prod.fst = D ∧ SR w b v ws w' v ws P.toldP
theorem TR.after {w w1 : World} {b : Nat} {v : Value} {ws : List Value} {P : Ps} {D : List Dg} {e : Ending} {w' : World} (hk : Kept [] w w1) (h : TR w1 b v ws P D e w') : TR w b v ws P D e w' := by
  obtain ⟨dv, L, h1, h2, h3, h4⟩ := h
  exact ⟨dv, L, h1, h2.base hk.size, h3, h4.after hk⟩
set_option maxHeartbeats 2000000 in
theorem again18 (b : Nat) (v : Value) (ws : List Value) (P : Ps) (w : World) (h : Sx w b v ws P) : Calls Try.prog 18 #[P0 b] w fun e w' => TR w b v ws P P.again e w' := by
  have P33 := hide (none33 b v ws P w h)
  have HS := hide h
  clear h
  go_enter Try.func18, Try.ntmps18
  go_wp2_with (
    first
    | (go_at_call 33
       refine (unhide P33).mono ?_
       rintro e w1 ⟨rfl, q1, hq⟩
       have HK : Hid (Kept [] w w1) := by rw [hq]; exact kept_drewN _ _ _
       replace HS := hide ((unhide HS).kept0 (unhide HK))
       have hc3 := (unhide HS).cells.2.2.2.1
       clear hq P33)
    | (go_at_call 35
       refine (tell35 b v ws P P.known _ (unhide HS) (Nat.le_refl _) (unhide HS).ok.known).mono ?_
       rintro e w2 ⟨dv, L, rfl, hR⟩
       have HR : Hid (TR w1 b v ws P P.again (.returned dv) w2) := ⟨dv, L, rfl, hR⟩
       clear hR hc3))
  go_ret
  exact (unhide HR).after (unhide HK)
/-- What Fresh's region keeps. -/
@[reducible] def S14 (V : World) (b : Nat) (v : Value) (ws : List Value) (P : Ps) (d : Nat → Bool) (vs : Nat → Value) (W : World) : Prop :=
  (d 12 = false → Kept [] V W) ∧ (d 12 = true → TR V b v ws P P.fresh (.returned (vs 12)) W) ∧ (d 13 = true → vs 13 = vs 12)
theorem S14.loc {V : World} {b : Nat} {v : Value} {ws : List Value} {P : Ps} : ∀ d d' vs vs' W, (∀ i ∈ [12, 13], d i = d' i ∧ vs i = vs' i) → S14 V b v ws P d vs W → S14 V b v ws P d' vs' W := by
  intro d d' vs vs' W H h
  have e0 := H 12 (by simp)
  have e1 := H 13 (by simp)
  unfold S14 at h ⊢
  rw [← e0.1, ← e0.2, ← e1.1, ← e1.2]
  exact h
set_option maxHeartbeats 2000000 in
theorem fresh14 (b : Nat) (v : Value) (ws : List Value) (P : Ps) (w : World) (h : Sx w b v ws P) : Calls Try.prog 14 #[P0 b] w fun e w' => TR w b v ws P P.fresh e w' := by
  have P33 := hide (none33 b v ws P w h)
  obtain ⟨f, hf⟩ : ∃ f, f = max P.told P.known := ⟨_, rfl⟩
  have HF : Hid (max (P.told : Int) (P.known : Int) = (f : Nat)) := (by rw [hf]; omega : max (P.told : Int) (P.known : Int) = (f : Nat))
  have HFL : Hid (P.known ≤ f ∧ f ≤ P.sent.length ∧ P.tellL f = P.fresh) := ⟨by omega, by have := h.ok.known; have := h.ok.told; omega, by unfold Ps.fresh; rw [hf]⟩
  have HS := hide h
  clear h hf
  go_enter Try.func14, Try.ntmps14
  go_wp2_with (
    first
    | (go_at_call 33
       refine (unhide P33).mono ?_
       rintro e w1 ⟨rfl, q1, hq⟩
       have HK : Hid (Kept [] w w1) := by rw [hq]; exact kept_drewN _ _ _
       replace HS := hide ((unhide HS).kept0 (unhide HK))
       clear hq P33))
  have HH := hide (unhide HS).head
  refine wp_region_any mixed (wpAny_gx 14 rfl (by kernel_rfl) [some (P0 b), some (P0 b), some (P0 b), some (.pointer (some ⟨b, 0, none⟩)), some (.pointer (some ⟨b, 4, none⟩)), some (.int .i64 P.told), some (P0 b), some (P0 b), some (.pointer (some ⟨b, 0, none⟩)), some (.pointer (some ⟨b, 3, none⟩)), some (.int .i64 P.known), some (.int .i64 (f : Nat)), none, none] rfl (by kernel_rfl) (fun l vs W => (S14 w1 b v ws P) (fun i => l.getD i false) vs W) (⟨fun _ => ⟨rfl, rfl, rfl, Nat.le_refl _, fun _ _ _ => rfl⟩, (fun h => by cases h), (fun h => by cases h)⟩) ?_ ?_)
  · intro ix o' hi ho a' w2 l vs hls hlf hJ hout hin hdep hnot
    match ix, ho with
    | 0, ho =>
      obtain rfl := Option.some.inj ho
      have e0 := hout 0 (by kernel_rfl)
      replace e0 : a'.eval (.tmp 0) = _ := e0.trans rfl
      exact wp_move (.tmp 0) rfl _ e0 ⟨_, rfl, told_of rfl, keepG (St := (S14 w1 b v ws P)) [12, 13] S14.loc (by omega) (by decide) hJ⟩
    | 1, ho =>
      obtain rfl := Option.some.inj ho
      have e0 := hout 0 (by kernel_rfl)
      replace e0 : a'.eval (.tmp 0) = _ := e0.trans rfl
      exact wp_move (.tmp 0) rfl _ e0 ⟨_, rfl, told_of rfl, keepG (St := (S14 w1 b v ws P)) [12, 13] S14.loc (by omega) (by decide) hJ⟩
    | 2, ho =>
      obtain rfl := Option.some.inj ho
      have e0 : a'.eval (.tmp 6) = P0 b := by have h9 := hin 1 6 (by kernel_rfl) (by kernel_rfl); exact h9.1.trans (told_is _ h9.2 rfl)
      exact o_nil (.tmp 6) rfl _ e0 ⟨_, rfl, told_of rfl, keepG (St := (S14 w1 b v ws P)) [12, 13] S14.loc (by omega) (by decide) hJ⟩
    | 3, ho =>
      obtain rfl := Option.some.inj ho
      have e0 : a'.eval (.tmp 7) = P0 b := by have h9 := hin 2 7 (by kernel_rfl) (by kernel_rfl); exact h9.1.trans (told_is _ h9.2 rfl)
      exact o_fld68_0 (.tmp 7) rfl _ e0 ⟨_, rfl, told_of rfl, keepG (St := (S14 w1 b v ws P)) [12, 13] S14.loc (by omega) (by decide) hJ⟩
    | 4, ho =>
      obtain rfl := Option.some.inj ho
      have e0 : a'.eval (.tmp 8) = .pointer (some ⟨b, 0, none⟩) := by have h9 := hin 3 8 (by kernel_rfl) (by kernel_rfl); exact h9.1.trans (told_is _ h9.2 rfl)
      exact o_fld66_4 (.tmp 8) rfl _ e0 ⟨_, rfl, told_of rfl, keepG (St := (S14 w1 b v ws P)) [12, 13] S14.loc (by omega) (by decide) hJ⟩
    | 5, ho =>
      obtain rfl := Option.some.inj ho
      have e0 : a'.eval (.tmp 9) = .pointer (some ⟨b, 4, none⟩) := by have h9 := hin 4 9 (by kernel_rfl) (by kernel_rfl); exact h9.1.trans (told_is _ h9.2 rfl)
      exact o_load2 (.tmp 9) rfl _ _ e0 (fits_cell ((unhide HH).kept (hJ.1 (hnot 12 (by kernel_rfl))) (by simp)) 4 _ rfl) ⟨_, rfl, told_of rfl, keepG (St := (S14 w1 b v ws P)) [12, 13] S14.loc (by omega) (by decide) hJ⟩
    | 6, ho =>
      obtain rfl := Option.some.inj ho
      have e0 := hout 0 (by kernel_rfl)
      replace e0 : a'.eval (.tmp 0) = _ := e0.trans rfl
      exact wp_move (.tmp 0) rfl _ e0 ⟨_, rfl, told_of rfl, keepG (St := (S14 w1 b v ws P)) [12, 13] S14.loc (by omega) (by decide) hJ⟩
    | 7, ho =>
      obtain rfl := Option.some.inj ho
      have e0 : a'.eval (.tmp 11) = P0 b := by have h9 := hin 6 11 (by kernel_rfl) (by kernel_rfl); exact h9.1.trans (told_is _ h9.2 rfl)
      exact o_nil (.tmp 11) rfl _ e0 ⟨_, rfl, told_of rfl, keepG (St := (S14 w1 b v ws P)) [12, 13] S14.loc (by omega) (by decide) hJ⟩
    | 8, ho =>
      obtain rfl := Option.some.inj ho
      have e0 : a'.eval (.tmp 12) = P0 b := by have h9 := hin 7 12 (by kernel_rfl) (by kernel_rfl); exact h9.1.trans (told_is _ h9.2 rfl)
      exact o_fld68_0 (.tmp 12) rfl _ e0 ⟨_, rfl, told_of rfl, keepG (St := (S14 w1 b v ws P)) [12, 13] S14.loc (by omega) (by decide) hJ⟩
    | 9, ho =>
      obtain rfl := Option.some.inj ho
      have e0 : a'.eval (.tmp 13) = .pointer (some ⟨b, 0, none⟩) := by have h9 := hin 8 13 (by kernel_rfl) (by kernel_rfl); exact h9.1.trans (told_is _ h9.2 rfl)
      exact o_fld66_3 (.tmp 13) rfl _ e0 ⟨_, rfl, told_of rfl, keepG (St := (S14 w1 b v ws P)) [12, 13] S14.loc (by omega) (by decide) hJ⟩
    | 10, ho =>
      obtain rfl := Option.some.inj ho
      have e0 : a'.eval (.tmp 14) = .pointer (some ⟨b, 3, none⟩) := by have h9 := hin 9 14 (by kernel_rfl) (by kernel_rfl); exact h9.1.trans (told_is _ h9.2 rfl)
      exact o_load2 (.tmp 14) rfl _ _ e0 (fits_cell ((unhide HH).kept (hJ.1 (hnot 12 (by kernel_rfl))) (by simp)) 3 _ rfl) ⟨_, rfl, told_of rfl, keepG (St := (S14 w1 b v ws P)) [12, 13] S14.loc (by omega) (by decide) hJ⟩
    | 11, ho =>
      obtain rfl := Option.some.inj ho
      have e0 : a'.eval (.tmp 10) = .int .i64 P.told := by have h9 := hin 5 10 (by kernel_rfl) (by kernel_rfl); exact h9.1.trans (told_is _ h9.2 rfl)
      have e1 : a'.eval (.tmp 15) = .int .i64 P.known := by have h9 := hin 10 15 (by kernel_rfl) (by kernel_rfl); exact h9.1.trans (told_is _ h9.2 rfl)
      refine o_max2 (.tmp 10) (.tmp 15) rfl _ _ e0 e1 ?_
      rw [unhide HF]
      exact ⟨_, rfl, told_of rfl, keepG (St := (S14 w1 b v ws P)) [12, 13] S14.loc (by omega) (by decide) hJ⟩
    | 12, ho =>
      obtain rfl := Option.some.inj ho
      have e0 : a'.eval (.tmp 5) = P0 b := by have h9 := hin 0 5 (by kernel_rfl) (by kernel_rfl); exact h9.1.trans (told_is _ h9.2 rfl)
      have e1 : a'.eval (.tmp 16) = .int .i64 (f : Nat) := by have h9 := hin 11 16 (by kernel_rfl) (by kernel_rfl); exact h9.1.trans (told_is _ h9.2 rfl)
      have hk0 := (hJ.1 hlf)
      refine wp_callF 35 _ _ rfl #[P0 b, .int .i64 f] (by simp [e0, e1]) (cf35 _ _) ((tell35 b v ws P f _ ((unhide HS).kept0 hk0) (unhide HFL).1 (unhide HFL).2.1).mono ?_)
      rintro e w3 ⟨dv, L, rfl, hR⟩
      refine ⟨_, rfl, _, rfl, told_no rfl, nextG (St := (S14 w1 b v ws P)) (by omega) ⟨(fun h => by cases h), fun _ => ?_, fun h13 => ?_⟩⟩
      · have h9 : TR w2 b v ws P (P.tellL f) (.returned dv) w3 := ⟨dv, L, rfl, hR⟩
        rw [(unhide HFL).2.2] at h9
        exact h9.after hk0
      · have h9 : l.getD 13 false = true := h13; rw [hnot 13 (by kernel_rfl)] at h9; cases h9
    | 13, ho =>
      obtain rfl := Option.some.inj ho
      have e0 : a'.eval (.tmp 17) = vs 12 := (hin 12 17 (by kernel_rfl) (by kernel_rfl)).1
      exact wp_assignV (.tmp 17) rfl _ e0 ⟨_, rfl, told_no rfl, nextG (St := (S14 w1 b v ws P)) (by omega) ⟨fun h12 => (by have h9 : l.getD 12 false = false := h12; rw [hdep 12 (by kernel_rfl)] at h9; cases h9), fun _ => hJ.2.1 (hdep 12 (by kernel_rfl)), fun _ => rfl⟩⟩
  intro l vs w9 hl hJ htold
  have t0 : vs 0 = P0 b := told_is _ (htold 0 (by decide)) rfl
  have t1 : vs 1 = P0 b := told_is _ (htold 1 (by decide)) rfl
  have t2 : vs 2 = P0 b := told_is _ (htold 2 (by decide)) rfl
  have t3 : vs 3 = .pointer (some ⟨b, 0, none⟩) := told_is _ (htold 3 (by decide)) rfl
  have t4 : vs 4 = .pointer (some ⟨b, 4, none⟩) := told_is _ (htold 4 (by decide)) rfl
  have t5 : vs 5 = .int .i64 P.told := told_is _ (htold 5 (by decide)) rfl
  have t6 : vs 6 = P0 b := told_is _ (htold 6 (by decide)) rfl
  have t7 : vs 7 = P0 b := told_is _ (htold 7 (by decide)) rfl
  have t8 : vs 8 = .pointer (some ⟨b, 0, none⟩) := told_is _ (htold 8 (by decide)) rfl
  have t9 : vs 9 = .pointer (some ⟨b, 3, none⟩) := told_is _ (htold 9 (by decide)) rfl
  have t10 : vs 10 = .int .i64 P.known := told_is _ (htold 10 (by decide)) rfl
  have t11 : vs 11 = .int .i64 (f : Nat) := told_is _ (htold 11 (by decide)) rfl
  rw [show (List.range 14).map vs = [vs 0, vs 1, vs 2, vs 3, vs 4, vs 5, vs 6, vs 7, vs 8, vs 9, vs 10, vs 11, vs 12, vs 13] from rfl]
  simp only [t0, t1, t2, t3, t4, t5, t6, t7, t8, t9, t10, t11, putAll, Act.put, List.setIfInBounds_toArray, List.set_cons_succ, List.set_cons_zero]
  clear t0 t1 t2 t3 t4 t5 t6 t7 t8 t9 t10 t11 htold
  have h13 := hJ.2.2 (hl 13 (by decide))
  obtain ⟨dv, L, h1, h2, h3, h4⟩ := hJ.2.1 (hl 12 (by decide))
  have HR : Hid (TR w1 b v ws P P.fresh (.returned (vs 13)) w9) := by rw [h13]; exact ⟨dv, L, h1, h2, h3, h4⟩
  clear hJ hl h13 h1 h2 h3 h4
  go_wp2_with fail
  go_ret
  exact (unhide HR).after (unhide HK)

end Go.Proofs.Ythbgnpbkdeofcaa
