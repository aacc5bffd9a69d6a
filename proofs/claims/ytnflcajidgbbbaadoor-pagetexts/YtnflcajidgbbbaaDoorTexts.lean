/-
  The walk of the law PageTexts.
-/
import Derived.Test.YtnflcajidgbbbaaDoorSamec
namespace Go.Proofs.YtnflcajidgbbbaaDoor
open Go.RowKit

theorem body_zero {L X : List Int} (h : bodyL L = (X, 0)) : textL X = L := by
  unfold bodyL at h
  split at h
  · simp at h
  · split at h
    · simp at h
    · split at h
      · next h3 => obtain ⟨rfl, _⟩ := Prod.mk.inj h; exact h3
      · simp at h
theorem body_b96 {L X : List Int} {F : Int} (hL : ∀ x ∈ L, 0 ≤ x ∧ x < 256) (h : bodyL L = (X, F)) : Byts 96 X := by
  unfold bodyL at h
  split at h
  · obtain ⟨rfl, _⟩ := Prod.mk.inj h; exact zs_byts 96
  · split at h
    · obtain ⟨rfl, _⟩ := Prod.mk.inj h; exact zs_byts 96
    · next h2 =>
      split at h
      · obtain ⟨rfl, _⟩ := Prod.mk.inj h; exact pad_byts (by omega) (meant_byte L hL)
      · obtain ⟨rfl, _⟩ := Prod.mk.inj h; exact zs_byts 96
theorem rbody_at {L : List Int} (hL : ∀ x ∈ L, 0 ≤ x ∧ x < 256) {r : List Int × Int} (h : bodyL L = r) (w : World) : Calls Tryd.prog 21 #[strV L] w fun e w' => e = .returned (.tuple #[aggV (u8s r.1), .int .i64 r.2]) ∧ Kept [] w w' := by
  have := rbody21 L hL w
  rw [same_body hL, h] at this
  exact this
theorem text_atX {X L : List Int} (hX : Byts 96 X) (h : textL X = L) (w : World) : Calls Tryd.prog 19 #[aggV (u8s X)] w fun e w' => e = .returned (strV L) ∧ Kept [] w w' := h ▸ text19 X hX w
theorem wpNeqS {ops : Array Oper} {rest : List Oper} {op : Oper} {a : Act} {w : World} {Q : Exit → Act → World → Prop} {l : List Int} (hl : ∀ x ∈ l, 0 ≤ x ∧ x < 256) (x y : Operand) (ho : op.op = .binOp .neq 9 x y 9) (hw : Region.wanted op (yielded ops a.tmps) = true) (hx : a.eval x = strV l) (hy : a.eval y = strV l)
    (h : wpList Tryd.prog ops Q rest (a.put op.dst (.bool false)) w) : wpList Tryd.prog ops Q (op :: rest) a w :=
  BigFrame.wpList_want hw fun K hK => by
    unfold Oper.wp execOp
    simp only [ho, hx, hy, Sem.run_bind, run_guardS, run_neqS l l hl hl, Result.andThen_ok, decide_true, Bool.not_true]
    exact hK _ _ h

set_option maxHeartbeats 1000000 in
set_option maxRecDepth 100000 in
theorem texts_long (s L : List Int) (e1 : decide (9000 < (L.length : Int)) = true) (w : World) : Calls Tryd.prog 5 #[aggV (u8s s), strV L] w fun e w' => e = .returned (.bool true) ∧ Kept [] w w' := by
  have hlen := run_lenS L
  go_enter Tryd.func5, Tryd.ntmps5
  go_wp2_with (refine wpBoxV 2 (by rfl) (by rfl) (.tmp 0) (by rfl) (u8s s) (by rfl) ?_
               intro W2 b2 hb2 B2 K2
               have M : Hid (Mem w W2 [(b2, 23, u8s s)]) := ⟨by simpa using B2, K2⟩
               clear hb2 B2 K2)
  refine (known11 _).mono ?_
  rintro e w1 ⟨rfl, k1⟩
  replace M := hide ((unhide M).quiet k1)
  clear k1
  go_wp2_with fail
  go_ret
  exact ⟨rfl, (unhide M).k⟩

set_option maxHeartbeats 4000000 in
set_option maxRecDepth 100000 in
theorem texts_ok (s L X : List Int) (hs : Byts 96 s) (hL : ∀ x ∈ L, 0 ≤ x ∧ x < 256) (hl : L.length ≤ 9000) (e1 : decide (9000 < (L.length : Int)) = false) (hB : Hid (bodyL L = (X, 0))) (hX : Byts 96 X) (w : World) : Calls Tryd.prog 5 #[aggV (u8s s), strV L] w fun e w' => e = .returned (.bool true) ∧ Kept [] w w' := by
  have hlen := run_lenS L
  have hsu : (u8s s).length = 96 := by rw [u8s_len, hs.len]
  have hxu : (u8s X).length = 96 := by rw [u8s_len, hX.len]
  have hTB := text_byte hs
  obtain ⟨T, hT⟩ : ∃ T, textL s = T := ⟨_, rfl⟩
  have hBT := hide (body_text hs)
  have hTl : T.length ≤ 9000000 := by rw [← hT]; unfold textL; split; simp; have := (escs_len (bare s)).2; have := bare_len hs; omega
  rw [hT] at hTB hBT
  have HT := hide hT
  have hrt := hide (fun w => rtext22 s hs w)
  rw [hT] at hrt
  clear hT
  go_enter Tryd.func5, Tryd.ntmps5
  go_wp2_with (
    first
    | (refine wpBoxV 2 (by rfl) (by rfl) (.tmp 0) (by rfl) (u8s s) (by rfl) ?_
       intro W2 b2 hb2 B2 K2
       have M : Hid (Mem w W2 [(b2, 23, u8s s)]) := ⟨by simpa using B2, K2⟩
       clear hb2 B2 K2)
    | (refine wpLoadA row23 (by rfl) (.tmp 2) (by rfl) b2 0 (by kernel_rfl) (u8s s) hsu ((unhide M).blk (b2, 23, u8s s) (by simp)).range ?_))
  refine (text_atX hs (unhide HT) _).mono ?_
  rintro e w1 ⟨rfl, k1⟩
  replace M := hide ((unhide M).quiet k1)
  clear k1
  go_wp2_with fail
  refine (body_at20 hTB hTl (unhide hBT) _).mono ?_
  rintro e w2 ⟨rfl, k2⟩
  replace M := hide ((unhide M).quiet k2)
  clear k2
  go_wp2_with (
    first
    | (refine wpNew row23 (u8s (zs 96)) zl96 zero23 6 (by rfl) (by rfl) (by rfl) (.tmp 21) (by rfl) (by rfl) (by rfl) (u8s s) hsu (u8s_one _) (by kernel_rfl) (by kernel_rfl) ?_
       intro W6 b6 hb6 B6 K6
       replace M := hide ((unhide M).add K6 B6)
       clear hb6 B6 K6))
  refine (body_at20 hL (by omega) (unhide hB) _).mono ?_
  rintro e w3 ⟨rfl, k3⟩
  replace M := hide ((unhide M).quiet k3)
  clear k3
  go_wp2_with (
    first
    | (refine wpNew row23 (u8s (zs 96)) zl96 zero23 8 (by rfl) (by rfl) (by rfl) (.tmp 26) (by rfl) (by rfl) (by rfl) (u8s X) hxu (u8s_one _) (by kernel_rfl) (by kernel_rfl) ?_
       intro W8 b8 hb8 B8 K8
       replace M := hide ((unhide M).add K8 B8)
       clear hb8 B8 K8))
  refine (rbody_at hL (unhide hB) _).mono ?_
  rintro e w4 ⟨rfl, k4⟩
  replace M := hide ((unhide M).quiet k4)
  clear k4
  go_wp2_with (
    first
    | (refine wpNew row23 (u8s (zs 96)) zl96 zero23 10 (by rfl) (by rfl) (by rfl) (.tmp 31) (by rfl) (by rfl) (by rfl) (u8s X) hxu (u8s_one _) (by kernel_rfl) (by kernel_rfl) ?_
       intro W10 b10 hb10 B10 K10
       replace M := hide ((unhide M).add K10 B10)
       clear hb10 B10 K10)
    | (refine wpLoadA row23 (by rfl) (.tmp 8) (by rfl) b8 0 (by kernel_rfl) (u8s X) hxu ((unhide M).blk (b8, 23, u8s X) (by simp)).range ?_)
    | (refine wpLoadA row23 (by rfl) (.tmp 10) (by rfl) b10 0 (by kernel_rfl) (u8s X) hxu ((unhide M).blk (b10, 23, u8s X) (by simp)).range ?_)
    | (refine wpNeqA 23 23 guard23 (.tmp 33) (.tmp 34) (by rfl) (by rfl) (u8s X) (u8s X) (by kernel_rfl) (by kernel_rfl) true ((equal23 _ _ _ hX.len hX.len).trans (by simp)) ?_)
    | (go_at_call 10; refine (num10 _ _).mono ?_; rintro e w' ⟨rfl, hw'⟩; obtain rfl := hw'.symm)
    | (refine wpLoadG row23 (.tmp 8) (by rfl) (by kernel_rfl) b8 0 (by kernel_rfl) (u8s X) hxu ((unhide M).blk (b8, 23, u8s X) (by simp)).range ?_))
  refine (text_atX hX (body_zero (unhide hB)) _).mono ?_
  rintro e w5 ⟨rfl, k5⟩
  replace M := hide ((unhide M).quiet k5)
  clear k5
  go_wp2_with (
    first
    | (refine wpNeqS hL (.tmp 47) (.tmp 48) (by rfl) (by kernel_rfl) (by kernel_rfl) (by kernel_rfl) ?_)
    | (refine wpLoadA row23 (by rfl) (.tmp 2) (by rfl) b2 0 (by kernel_rfl) (u8s s) hsu ((unhide M).blk (b2, 23, u8s s) (by simp)).range ?_))
  refine (unhide hrt _).mono ?_
  rintro e w6 ⟨rfl, k6⟩
  replace M := hide ((unhide M).quiet k6)
  clear k6
  go_wp2_with (
    first
    | (refine wpEqlS hTB hTB (.tmp 52) (.tmp 54) (by rfl) (by kernel_rfl) (by kernel_rfl) (by kernel_rfl) true (by simp) ?_)
    | (refine wpLoadG row23 (.tmp 6) (by rfl) (by kernel_rfl) b6 0 (by kernel_rfl) (u8s s) hsu ((unhide M).blk (b6, 23, u8s s) (by simp)).range ?_)
    | (refine wpLoadG row23 (.tmp 2) (by rfl) (by kernel_rfl) b2 0 (by kernel_rfl) (u8s s) hsu ((unhide M).blk (b2, 23, u8s s) (by simp)).range ?_)
    | (refine wpEqlG 23 23 guard23 (.tmp 57) (.tmp 58) (by rfl) (by kernel_rfl) (u8s s) (u8s s) (by kernel_rfl) (by kernel_rfl) true ((equal23 _ _ _ hs.len hs.len).trans (by simp)) ?_)
    | (go_at_call 10; refine (num10 _ _).mono ?_; rintro e w' ⟨rfl, hw'⟩; obtain rfl := hw'.symm))
  refine (known11 _).mono ?_
  rintro e w7 ⟨rfl, k7⟩
  replace M := hide ((unhide M).quiet k7)
  clear k7
  go_wp2_with fail
  go_ret
  exact ⟨rfl, (unhide M).k⟩

set_option maxHeartbeats 4000000 in
set_option maxRecDepth 100000 in
theorem texts_no (s L X : List Int) (F : Int) (hs : Byts 96 s) (hL : ∀ x ∈ L, 0 ≤ x ∧ x < 256) (hl : L.length ≤ 9000) (e1 : decide (9000 < (L.length : Int)) = false) (hB : Hid (bodyL L = (X, F))) (hX : Byts 96 X) (hF : (F == 0) = false) (w : World) : Calls Tryd.prog 5 #[aggV (u8s s), strV L] w fun e w' => e = .returned (.bool true) ∧ Kept [] w w' := by
  have hlen := run_lenS L
  have hsu : (u8s s).length = 96 := by rw [u8s_len, hs.len]
  have hxu : (u8s X).length = 96 := by rw [u8s_len, hX.len]
  have hTB := text_byte hs
  obtain ⟨T, hT⟩ : ∃ T, textL s = T := ⟨_, rfl⟩
  have hBT := hide (body_text hs)
  have hTl : T.length ≤ 9000000 := by rw [← hT]; unfold textL; split; simp; have := (escs_len (bare s)).2; have := bare_len hs; omega
  rw [hT] at hTB hBT
  have HT := hide hT
  have hrt := hide (fun w => rtext22 s hs w)
  rw [hT] at hrt
  clear hT
  go_enter Tryd.func5, Tryd.ntmps5
  go_wp2_with (
    first
    | (refine wpBoxV 2 (by rfl) (by rfl) (.tmp 0) (by rfl) (u8s s) (by rfl) ?_
       intro W2 b2 hb2 B2 K2
       have M : Hid (Mem w W2 [(b2, 23, u8s s)]) := ⟨by simpa using B2, K2⟩
       clear hb2 B2 K2)
    | (refine wpLoadA row23 (by rfl) (.tmp 2) (by rfl) b2 0 (by kernel_rfl) (u8s s) hsu ((unhide M).blk (b2, 23, u8s s) (by simp)).range ?_))
  refine (text_atX hs (unhide HT) _).mono ?_
  rintro e w1 ⟨rfl, k1⟩
  replace M := hide ((unhide M).quiet k1)
  clear k1
  go_wp2_with fail
  refine (body_at20 hTB hTl (unhide hBT) _).mono ?_
  rintro e w2 ⟨rfl, k2⟩
  replace M := hide ((unhide M).quiet k2)
  clear k2
  go_wp2_with (
    first
    | (refine wpNew row23 (u8s (zs 96)) zl96 zero23 6 (by rfl) (by rfl) (by rfl) (.tmp 21) (by rfl) (by rfl) (by rfl) (u8s s) hsu (u8s_one _) (by kernel_rfl) (by kernel_rfl) ?_
       intro W6 b6 hb6 B6 K6
       replace M := hide ((unhide M).add K6 B6)
       clear hb6 B6 K6))
  refine (body_at20 hL (by omega) (unhide hB) _).mono ?_
  rintro e w3 ⟨rfl, k3⟩
  replace M := hide ((unhide M).quiet k3)
  clear k3
  go_wp2_with (
    first
    | (refine wpNew row23 (u8s (zs 96)) zl96 zero23 8 (by rfl) (by rfl) (by rfl) (.tmp 26) (by rfl) (by rfl) (by rfl) (u8s X) hxu (u8s_one _) (by kernel_rfl) (by kernel_rfl) ?_
       intro W8 b8 hb8 B8 K8
       replace M := hide ((unhide M).add K8 B8)
       clear hb8 B8 K8))
  refine (rbody_at hL (unhide hB) _).mono ?_
  rintro e w4 ⟨rfl, k4⟩
  replace M := hide ((unhide M).quiet k4)
  clear k4
  go_wp2_with (
    first
    | (refine wpNew row23 (u8s (zs 96)) zl96 zero23 10 (by rfl) (by rfl) (by rfl) (.tmp 31) (by rfl) (by rfl) (by rfl) (u8s X) hxu (u8s_one _) (by kernel_rfl) (by kernel_rfl) ?_
       intro W10 b10 hb10 B10 K10
       replace M := hide ((unhide M).add K10 B10)
       clear hb10 B10 K10)
    | (refine wpLoadA row23 (by rfl) (.tmp 8) (by rfl) b8 0 (by kernel_rfl) (u8s X) hxu ((unhide M).blk (b8, 23, u8s X) (by simp)).range ?_)
    | (refine wpLoadA row23 (by rfl) (.tmp 10) (by rfl) b10 0 (by kernel_rfl) (u8s X) hxu ((unhide M).blk (b10, 23, u8s X) (by simp)).range ?_)
    | (refine wpNeqA 23 23 guard23 (.tmp 33) (.tmp 34) (by rfl) (by rfl) (u8s X) (u8s X) (by kernel_rfl) (by kernel_rfl) true ((equal23 _ _ _ hX.len hX.len).trans (by simp)) ?_)
    | (go_at_call 10; refine (num10 _ _).mono ?_; rintro e w' ⟨rfl, hw'⟩; obtain rfl := hw'.symm)
    | (refine wpLoadA row23 (by rfl) (.tmp 2) (by rfl) b2 0 (by kernel_rfl) (u8s s) hsu ((unhide M).blk (b2, 23, u8s s) (by simp)).range ?_))
  refine (unhide hrt _).mono ?_
  rintro e w6 ⟨rfl, k6⟩
  replace M := hide ((unhide M).quiet k6)
  clear k6
  go_wp2_with (
    first
    | (refine wpEqlS hTB hTB (.tmp 52) (.tmp 54) (by rfl) (by kernel_rfl) (by kernel_rfl) (by kernel_rfl) true (by simp) ?_)
    | (refine wpLoadG row23 (.tmp 6) (by rfl) (by kernel_rfl) b6 0 (by kernel_rfl) (u8s s) hsu ((unhide M).blk (b6, 23, u8s s) (by simp)).range ?_)
    | (refine wpLoadG row23 (.tmp 2) (by rfl) (by kernel_rfl) b2 0 (by kernel_rfl) (u8s s) hsu ((unhide M).blk (b2, 23, u8s s) (by simp)).range ?_)
    | (refine wpEqlG 23 23 guard23 (.tmp 57) (.tmp 58) (by rfl) (by kernel_rfl) (u8s s) (u8s s) (by kernel_rfl) (by kernel_rfl) true ((equal23 _ _ _ hs.len hs.len).trans (by simp)) ?_)
    | (go_at_call 10; refine (num10 _ _).mono ?_; rintro e w' ⟨rfl, hw'⟩; obtain rfl := hw'.symm))
  refine (known11 _).mono ?_
  rintro e w7 ⟨rfl, k7⟩
  replace M := hide ((unhide M).quiet k7)
  clear k7
  go_wp2_with fail
  go_ret
  exact ⟨rfl, (unhide M).k⟩

theorem texts5 (s L : List Int) (hs : Byts 96 s) (hL : ∀ x ∈ L, 0 ≤ x ∧ x < 256) (w : World) : Calls Tryd.prog 5 #[aggV (u8s s), strV L] w fun e w' => e = .returned (.bool true) ∧ Kept [] w w' := by
  by_cases h1 : 9000 < L.length
  · exact texts_long s L (decide_eq_true (by omega)) w
  obtain ⟨⟨X, F⟩, hB⟩ : ∃ r, bodyL L = r := ⟨_, rfl⟩
  by_cases hF : F = 0
  · subst hF
    exact texts_ok s L X hs hL (by omega) (decide_eq_false (by omega)) hB (body_b96 hL hB) w
  · exact texts_no s L X F hs hL (by omega) (decide_eq_false (by omega)) hB (body_b96 hL hB) (beq_eq_false_iff_ne.2 hF) w

end Go.Proofs.YtnflcajidgbbbaaDoor
