/-
  write: whatever the device refuses is told as 8.
-/
import Derived.Test.YtmeajhdhiebkdaaDoorLb
namespace Go.Proofs.YtmeajhdhiebkdaaDoor
set_option maxRecDepth 100000
open Go.RowKit

theorem cg63 (vs : Array Value) (w : World) : (callFunc 63 vs).run Tryd.prog w = .ok (.enter 63 vs) w := by kernel_rfl
theorem Lt.apart {W : World} {l b g : Nat} {rv : Value} {D : Dv.Dev} {L : Lo} (h : Lt W l b g rv D L) : l ∉ [b, g] ∧ ∀ k, rv.ownBlock = some k → k ∉ [b, g] ∧ k ≠ l := by
  obtain ⟨cap, h1, ex, h2, _⟩ := h.dev.lay
  have h3 := h.head
  unfold Dv.Head at h1
  unfold Blk at h3
  refine ⟨?_, fun k hk => ⟨?_, ?_⟩⟩
  · intro hm
    simp only [List.mem_cons, List.not_mem_nil, or_false] at hm
    rcases hm with rfl | rfl
    · rw [h3] at h1
      injection h1 with h1
      injection h1 with _ h1
      exact absurd h1 (by decide)
    · rw [h3] at h2
      injection h2 with h2
      injection h2 with _ h2
      exact absurd h2 (by decide)
  · obtain ⟨cs, hc⟩ := h.row.block k hk
    intro hm
    simp only [List.mem_cons, List.not_mem_nil, or_false] at hm
    rcases hm with rfl | rfl
    · rw [hc] at h1
      injection h1 with h1
      injection h1 with _ h1
      exact absurd h1 (by decide)
    · rw [hc] at h2
      injection h2 with h2
      injection h2 with _ h2
      exact absurd h2 (by decide)
  · obtain ⟨cs, hc⟩ := h.row.block k hk
    rintro rfl
    rw [hc] at h3
    injection h3 with h3
    injection h3 with _ h3
    exact absurd h3 (by decide)
/-- The device changed, nothing else. -/
theorem Lt.dev2 {W W' : World} {l b g : Nat} {rv : Value} {D D' : Dv.Dev} {L : Lo} (h : Lt W l b g rv D L) (hk : Kept [b, g] W W') (hD : Dv.Dv W' b g D') : Lt W' l b g rv D' L :=
  ⟨h.head.kept hk h.apart.1, hD, h.row.kept hk (fun k hk => (h.apart.2 k hk).1), h.recs, h.may, h.node, h.ep, h.st, h.nx, h.fl, h.many⟩
section
variable {o : Oper} {a : Act} {w : World} {K : Act → World → Prop} {Q : Exit → Act → World → Prop}
theorem o_neq34 (x : Operand) (c : Int) (ho : o.op = .binOp .neq 34 x (.const (.int .i64 c)) 34) (m : Int) (r : Bool) (hr : decide (m = c) = r) (hx : a.eval x = .int .i64 m) (h : K (a.put o.dst (.bool (!r))) w) : o.wp Tryd.prog a w K Q := by
  have h2 : (!r) = (m != c) := by subst hr; by_cases e : m = c <;> simp [e]
  rw [h2] at h
  unfold Oper.wp execOp
  simp only [ho, hx]
  simp [go_sem]
  exact h
end
def wrA (m : Int) : Int := if m = 0 then 0 else 8
/-- What write's region keeps. -/
@[reducible] def S36 (V : World) (b g : Nat) (D : Dv.Dev) (d : Nat → Bool) (_ : Nat → Value) (W : World) : Prop :=
  (d 14 = false → Kept [] V W) ∧ (d 14 = true → Dv.Dv W b g D ∧ Kept [b, g] V W)
theorem S36.loc {V : World} {b g : Nat} {D : Dv.Dev} : ∀ d d' vs vs' W, (∀ i ∈ [14], d i = d' i ∧ vs i = vs' i) → S36 V b g D d vs W → S36 V b g D d' vs' W := by
  intro d d' vs vs' W H h
  have e0 := H 14 (by simp)
  unfold S36 at h ⊢
  rw [← e0.1]
  exact h
set_option maxHeartbeats 4000000 in
theorem write_m (l b g : Nat) (rv : Value) (D D2 : Dv.Dev) (L : Lo) (f : Int) (ao : Option Addr) (n c : Nat) (m : Int) (w : World) (h : Lt w l b g rv D L) (P63 : Hid (∀ W, Kept [] w W → Calls Tryd.prog 63 #[P0 b, .int .i64 L.nd, .int .i64 L.ep, .int .i64 f, .slice ao n c] W fun e w' => e = .returned (.int .i64 m) ∧ Dv.Dv w' b g D2 ∧ Kept [b, g] W w')) :
    Calls Tryd.prog 36 #[P0 l, .int .i64 f, .slice ao n c] w fun e w' => e = .returned (.int .i64 (wrA m)) ∧ Dv.Dv w' b g D2 ∧ Kept [b, g] w w' := by
  have HH := hide h.head
  clear h
  go_enter Tryd.func36, Tryd.ntmps36
  go_wp2_with fail
  refine wp_region_any mixed (wpAny_gx 16 rfl (by kernel_rfl) [some (P0 l), some (P0 l), some (.pointer (some ⟨l, 0, none⟩)), some (P0 b), some (P0 l), some (P0 l), some (.pointer (some ⟨l, 6, none⟩)), some (.int .i64 L.nd), some (P0 l), some (P0 l), some (.pointer (some ⟨l, 7, none⟩)), some (.int .i64 L.ep), some (.int .i64 f), some (.slice ao n c), some (.int .i64 m), some (.bool (!decide (m = 0)))] rfl (by kernel_rfl) (fun l_ vs W => (S36 w b g D2) (fun i => l_.getD i false) vs W) (⟨fun _ => ⟨rfl, rfl, rfl, Nat.le_refl _, fun _ _ _ => rfl⟩, fun h => by cases h⟩) ?_ ?_)
  · intro ix o' hi ho a' w2 l_ vs hls hlf hJ hout hin hdep hnot
    match ix, ho with
    | 0, ho =>
      obtain rfl := Option.some.inj ho
      have e0 := hout 0 (by kernel_rfl)
      replace e0 : a'.eval (.tmp 0) = _ := e0.trans rfl
      exact wp_move (.tmp 0) rfl _ e0 ⟨_, rfl, told_of rfl, keepG (St := (S36 w b g D2)) [14] S36.loc (by omega) (by decide) hJ⟩
    | 1, ho =>
      obtain rfl := Option.some.inj ho
      have e0 : a'.eval (.tmp 7) = P0 l := by have h9 := hin 0 7 (by kernel_rfl) (by kernel_rfl); exact h9.1.trans (told_is _ h9.2 rfl)
      exact o_nil (.tmp 7) rfl _ e0 ⟨_, rfl, told_of rfl, keepG (St := (S36 w b g D2)) [14] S36.loc (by omega) (by decide) hJ⟩
    | 2, ho =>
      obtain rfl := Option.some.inj ho
      have e0 : a'.eval (.tmp 8) = P0 l := by have h9 := hin 1 8 (by kernel_rfl) (by kernel_rfl); exact h9.1.trans (told_is _ h9.2 rfl)
      exact o_fld72_0 (.tmp 8) rfl _ e0 ⟨_, rfl, told_of rfl, keepG (St := (S36 w b g D2)) [14] S36.loc (by omega) (by decide) hJ⟩
    | 3, ho =>
      obtain rfl := Option.some.inj ho
      have e0 : a'.eval (.tmp 9) = .pointer (some ⟨l, 0, none⟩) := by have h9 := hin 2 9 (by kernel_rfl) (by kernel_rfl); exact h9.1.trans (told_is _ h9.2 rfl)
      exact q_load31 (.tmp 9) rfl _ _ e0 (fits_cell ((unhide HH).kept (hJ.1 (hnot 14 (by kernel_rfl))) (by simp)) 0 _ rfl) ⟨_, rfl, told_of rfl, keepG (St := (S36 w b g D2)) [14] S36.loc (by omega) (by decide) hJ⟩
    | 4, ho =>
      obtain rfl := Option.some.inj ho
      have e0 := hout 0 (by kernel_rfl)
      replace e0 : a'.eval (.tmp 0) = _ := e0.trans rfl
      exact wp_move (.tmp 0) rfl _ e0 ⟨_, rfl, told_of rfl, keepG (St := (S36 w b g D2)) [14] S36.loc (by omega) (by decide) hJ⟩
    | 5, ho =>
      obtain rfl := Option.some.inj ho
      have e0 : a'.eval (.tmp 11) = P0 l := by have h9 := hin 4 11 (by kernel_rfl) (by kernel_rfl); exact h9.1.trans (told_is _ h9.2 rfl)
      exact o_nil (.tmp 11) rfl _ e0 ⟨_, rfl, told_of rfl, keepG (St := (S36 w b g D2)) [14] S36.loc (by omega) (by decide) hJ⟩
    | 6, ho =>
      obtain rfl := Option.some.inj ho
      have e0 : a'.eval (.tmp 12) = P0 l := by have h9 := hin 5 12 (by kernel_rfl) (by kernel_rfl); exact h9.1.trans (told_is _ h9.2 rfl)
      exact o_fld72_2 (.tmp 12) rfl _ e0 ⟨_, rfl, told_of rfl, keepG (St := (S36 w b g D2)) [14] S36.loc (by omega) (by decide) hJ⟩
    | 7, ho =>
      obtain rfl := Option.some.inj ho
      have e0 : a'.eval (.tmp 13) = .pointer (some ⟨l, 6, none⟩) := by have h9 := hin 6 13 (by kernel_rfl) (by kernel_rfl); exact h9.1.trans (told_is _ h9.2 rfl)
      exact q_load3 (.tmp 13) rfl _ _ e0 (fits_cell ((unhide HH).kept (hJ.1 (hnot 14 (by kernel_rfl))) (by simp)) 6 _ rfl) ⟨_, rfl, told_of rfl, keepG (St := (S36 w b g D2)) [14] S36.loc (by omega) (by decide) hJ⟩
    | 8, ho =>
      obtain rfl := Option.some.inj ho
      have e0 := hout 0 (by kernel_rfl)
      replace e0 : a'.eval (.tmp 0) = _ := e0.trans rfl
      exact wp_move (.tmp 0) rfl _ e0 ⟨_, rfl, told_of rfl, keepG (St := (S36 w b g D2)) [14] S36.loc (by omega) (by decide) hJ⟩
    | 9, ho =>
      obtain rfl := Option.some.inj ho
      have e0 : a'.eval (.tmp 15) = P0 l := by have h9 := hin 8 15 (by kernel_rfl) (by kernel_rfl); exact h9.1.trans (told_is _ h9.2 rfl)
      exact o_nil (.tmp 15) rfl _ e0 ⟨_, rfl, told_of rfl, keepG (St := (S36 w b g D2)) [14] S36.loc (by omega) (by decide) hJ⟩
    | 10, ho =>
      obtain rfl := Option.some.inj ho
      have e0 : a'.eval (.tmp 16) = P0 l := by have h9 := hin 9 16 (by kernel_rfl) (by kernel_rfl); exact h9.1.trans (told_is _ h9.2 rfl)
      exact o_fld72_3 (.tmp 16) rfl _ e0 ⟨_, rfl, told_of rfl, keepG (St := (S36 w b g D2)) [14] S36.loc (by omega) (by decide) hJ⟩
    | 11, ho =>
      obtain rfl := Option.some.inj ho
      have e0 : a'.eval (.tmp 17) = .pointer (some ⟨l, 7, none⟩) := by have h9 := hin 10 17 (by kernel_rfl) (by kernel_rfl); exact h9.1.trans (told_is _ h9.2 rfl)
      exact q_load2 (.tmp 17) rfl _ _ e0 (fits_cell ((unhide HH).kept (hJ.1 (hnot 14 (by kernel_rfl))) (by simp)) 7 _ rfl) ⟨_, rfl, told_of rfl, keepG (St := (S36 w b g D2)) [14] S36.loc (by omega) (by decide) hJ⟩
    | 12, ho =>
      obtain rfl := Option.some.inj ho
      have e0 := hout 1 (by kernel_rfl)
      replace e0 : a'.eval (.tmp 1) = _ := e0.trans rfl
      exact wp_move (.tmp 1) rfl _ e0 ⟨_, rfl, told_of rfl, keepG (St := (S36 w b g D2)) [14] S36.loc (by omega) (by decide) hJ⟩
    | 13, ho =>
      obtain rfl := Option.some.inj ho
      have e0 := hout 2 (by kernel_rfl)
      replace e0 : a'.eval (.tmp 2) = _ := e0.trans rfl
      exact wp_move (.tmp 2) rfl _ e0 ⟨_, rfl, told_of rfl, keepG (St := (S36 w b g D2)) [14] S36.loc (by omega) (by decide) hJ⟩
    | 14, ho =>
      obtain rfl := Option.some.inj ho
      have e0 : a'.eval (.tmp 10) = P0 b := by have h9 := hin 3 10 (by kernel_rfl) (by kernel_rfl); exact h9.1.trans (told_is _ h9.2 rfl)
      have e1 : a'.eval (.tmp 14) = .int .i64 L.nd := by have h9 := hin 7 14 (by kernel_rfl) (by kernel_rfl); exact h9.1.trans (told_is _ h9.2 rfl)
      have e2 : a'.eval (.tmp 18) = .int .i64 L.ep := by have h9 := hin 11 18 (by kernel_rfl) (by kernel_rfl); exact h9.1.trans (told_is _ h9.2 rfl)
      have e3 : a'.eval (.tmp 19) = .int .i64 f := by have h9 := hin 12 19 (by kernel_rfl) (by kernel_rfl); exact h9.1.trans (told_is _ h9.2 rfl)
      have e4 : a'.eval (.tmp 20) = .slice ao n c := by have h9 := hin 13 20 (by kernel_rfl) (by kernel_rfl); exact h9.1.trans (told_is _ h9.2 rfl)
      refine wp_callF 63 _ _ rfl #[P0 b, .int .i64 L.nd, .int .i64 L.ep, .int .i64 f, .slice ao n c] (by simp [e0, e1, e2, e3, e4]) (cg63 _ _) ((unhide P63 w2 (hJ.1 hlf)).mono ?_)
      rintro e w3 ⟨rfl, hD3, hk3⟩
      exact ⟨_, rfl, _, rfl, told_of rfl, nextG (St := (S36 w b g D2)) (by omega) ⟨(fun h => by cases h), fun _ => ⟨hD3, ((hJ.1 hlf).mono (by simp)).trans hk3⟩⟩⟩
    | 15, ho =>
      obtain rfl := Option.some.inj ho
      have e0 : a'.eval (.tmp 21) = .int .i64 m := by have h9 := hin 14 21 (by kernel_rfl) (by kernel_rfl); exact h9.1.trans (told_is _ h9.2 rfl)
      exact o_neq34 (.tmp 21) 0 rfl m _ rfl e0 ⟨_, rfl, told_of rfl, keepG (St := (S36 w b g D2)) [14] S36.loc (by omega) (by decide) hJ⟩
  intro l_ vs w9 hl hJ htold
  have t0 : vs 0 = P0 l := told_is _ (htold 0 (by decide)) rfl
  have t1 : vs 1 = P0 l := told_is _ (htold 1 (by decide)) rfl
  have t2 : vs 2 = .pointer (some ⟨l, 0, none⟩) := told_is _ (htold 2 (by decide)) rfl
  have t3 : vs 3 = P0 b := told_is _ (htold 3 (by decide)) rfl
  have t4 : vs 4 = P0 l := told_is _ (htold 4 (by decide)) rfl
  have t5 : vs 5 = P0 l := told_is _ (htold 5 (by decide)) rfl
  have t6 : vs 6 = .pointer (some ⟨l, 6, none⟩) := told_is _ (htold 6 (by decide)) rfl
  have t7 : vs 7 = .int .i64 L.nd := told_is _ (htold 7 (by decide)) rfl
  have t8 : vs 8 = P0 l := told_is _ (htold 8 (by decide)) rfl
  have t9 : vs 9 = P0 l := told_is _ (htold 9 (by decide)) rfl
  have t10 : vs 10 = .pointer (some ⟨l, 7, none⟩) := told_is _ (htold 10 (by decide)) rfl
  have t11 : vs 11 = .int .i64 L.ep := told_is _ (htold 11 (by decide)) rfl
  have t12 : vs 12 = .int .i64 f := told_is _ (htold 12 (by decide)) rfl
  have t13 : vs 13 = .slice ao n c := told_is _ (htold 13 (by decide)) rfl
  have t14 : vs 14 = .int .i64 m := told_is _ (htold 14 (by decide)) rfl
  have t15 : vs 15 = .bool (!decide (m = 0)) := told_is _ (htold 15 (by decide)) rfl
  rw [show (List.range 16).map vs = [vs 0, vs 1, vs 2, vs 3, vs 4, vs 5, vs 6, vs 7, vs 8, vs 9, vs 10, vs 11, vs 12, vs 13, vs 14, vs 15] from rfl]
  simp only [t0, t1, t2, t3, t4, t5, t6, t7, t8, t9, t10, t11, t12, t13, t14, t15, putAll, Act.put, List.setIfInBounds_toArray, List.set_cons_succ, List.set_cons_zero]
  clear t0 t1 t2 t3 t4 t5 t6 t7 t8 t9 t10 t11 t12 t13 t14 t15 htold
  have HR := hide (hJ.2 (hl 14 (by decide)))
  clear hJ hl
  by_cases hm : m = 0
  · subst hm
    go_wp2_with fail
    go_ret
    exact ⟨rfl, unhide HR⟩
  · have hm2 : decide (m = 0) = false := by simp [hm]
    have hA : wrA m = 8 := by simp [wrA, hm]
    simp only [hm2]
    go_wp2_with fail
    go_ret
    rw [hA]
    exact ⟨rfl, unhide HR⟩
theorem write36 (l b g : Nat) (rv : Value) (D : Dv.Dev) (L : Lo) (f : Int) (ao : Option Addr) (n c : Nat) (SS : List (List Int)) (w : World) (h : Lt w l b g rv D L) (hf : -9223372036854775808 ≤ f ∧ f ≤ 9223372036854775807) (hn : n ≤ 9223372036854775807) (hL : Dv.Secs w ao n c SS) (hA : Dv.Away ao [b, g]) :
    Calls Tryd.prog 36 #[P0 l, .int .i64 f, .slice ao n c] w fun e w' => e = .returned (.int .i64 (wrA (D.write L.nd L.ep f SS).1)) ∧ Lt w' l b g rv (D.write L.nd L.ep f SS).2 L ∧ Kept [b, g] w w' := by
  refine (write_m l b g rv D (D.write L.nd L.ep f SS).2 L f ao n c (D.write L.nd L.ep f SS).1 w h (fun W hk => Dv.write22 b g D L.nd L.ep f ao n c SS W (h.dev.kept hk (by simp) (by simp)) hf hn (hL.kept hk (by intro _ _ _; simp)) hA)).mono ?_
  rintro e w' ⟨rfl, h1, h2⟩
  exact ⟨rfl, h.dev2 h2 h1, h2⟩

end Go.Proofs.YtmeajhdhiebkdaaDoor
