/-
  Mark.
-/
import Derived.Test.YthihladmifpokaaPf
namespace Go.Proofs.Ythihladmifpokaa
set_option maxRecDepth 100000
set_option linter.unusedSimpArgs false
open Go.RowKit


variable {w W W' : World} {b mb : Nat} {L : List Mk} {v : Value} {p s f : Int}
theorem build67 (w : World) (p s : Int) : (Instr.build 67 #[(0, .int .i64 p), (1, .int .i64 s)]).run Try.prog w = .ok (aggV (keyC p s)) w := by kernel_rfl
theorem key_one (p s : Int) : ∀ v ∈ keyC p s, v.oneCell' = true := by
  intro v hv
  simp only [keyC, List.mem_cons, List.not_mem_nil, or_false] at hv
  rcases hv with rfl | rfl <;> rfl
/-- What a mark does. -/
def okM (p s f : Int) : Bool := isPg p && (isSt s && isSt f)
def markP (p s f : Int) (L : List Mk) : Int × List Mk :=
  if okM p s f = true then match placeOf p s L 0 with
    | some (i, z) => (0, L.set i ⟨p, s, min z.f f⟩)
    | none => if L.length = 256 then (5, L) else (0, L ++ [⟨p, s, f⟩])
  else (2, L)
theorem isPg_of {n : Int} (h : isPg n = true) : 0 ≤ n ∧ n < 16 := by simpa [isPg] using h
theorem isSt_of {n : Int} (h : isSt n = true) : 1 ≤ n ∧ n ≤ 2147483647 := by simpa [isSt] using h
theorem Ok.new (h : Ok L) (hp : isPg p = true) (hs : isSt s = true) (hf : isSt f = true) (hl : ¬ L.length = 256) : Ok (L ++ [⟨p, s, f⟩]) := by
  refine ⟨fun l hl => ?_, ?_⟩
  · rcases List.mem_append.1 hl with h1 | h1
    · exact h.may l h1
    · obtain rfl : l = _ := by simpa using h1
      exact ⟨isPg_of hp, isSt_of hs, isSt_of hf⟩
  · have := h.many
    simp; omega
theorem Ok.old (h : Ok L) {i : Nat} {z : Mk} (hz : L[i]? = some z) (hp : isPg p = true) (hs : isSt s = true) (hf : isSt f = true) : Ok (L.set i ⟨p, s, min z.f f⟩) := by
  refine ⟨fun l hl => ?_, by rw [List.length_set]; exact h.many⟩
  rcases List.mem_or_eq_of_mem_set hl with h1 | h1
  · exact h.may l h1
  · subst h1
    have h2 := (h.may z (List.mem_of_getElem? hz)).2.2
    have h3 := isSt_of hf
    refine ⟨isPg_of hp, isSt_of hs, ?_, ?_⟩
    · show 1 ≤ min z.f f; omega
    · show min z.f f ≤ 2147483647; omega
theorem mark13_z (h : Nil w v) : Calls Try.prog 13 #[v, .int .i64 p, .int .i64 s, .int .i64 f] w fun e W => e = .returned (.int .i64 1) ∧ W = w := by
  have H := hide h
  clear h
  go_enter Try.func13, Try.ntmps13
  go_wp2_with (
    first
    | (go_at_call 31
       refine (none31_z (unhide H)).mono ?_
       rintro e W9 ⟨rfl, q9⟩
       replace q9 := q9.symm
       subst q9
       refine Stp.go ?_))
  constructor
  go_wp2_with fail
  go_ret
  exact ⟨rfl, rfl⟩
theorem mark13_p (h : Pg w b mb L) (hp : isPg p = false) : Calls Try.prog 13 #[P0 b, .int .i64 p, .int .i64 s, .int .i64 f] w fun e W => e = .returned (.int .i64 2) ∧ W = w := by
  have H := hide h
  have HP : Hid (∀ W, Calls Try.prog 34 #[.int .i64 p] W fun e w' => e = .returned (.bool false) ∧ w' = W) := fun W => by have h9 := isPage34 p W; rw [hp] at h9; exact h9
  clear h hp
  go_enter Try.func13, Try.ntmps13
  go_wp2_with (
    first
    | (go_at_call 31
       refine (none31 (unhide H)).mono ?_
       rintro e W9 ⟨rfl, q9⟩
       replace q9 := q9.symm
       subst q9
       refine Stp.go ?_))
  constructor
  go_wp2_with (
    first
    | (go_at_call 34
       refine (unhide HP _).mono ?_
       rintro e W9 ⟨rfl, q9⟩
       replace q9 := q9.symm
       subst q9
       refine Stp.go ?_))
  constructor
  go_wp2_with fail
  go_ret
  exact ⟨rfl, rfl⟩
theorem mark13_s (h : Pg w b mb L) (hp : isPg p = true) (hs : isSt s = false) : Calls Try.prog 13 #[P0 b, .int .i64 p, .int .i64 s, .int .i64 f] w fun e W => e = .returned (.int .i64 2) ∧ W = w := by
  have H := hide h
  have HP : Hid (∀ W, Calls Try.prog 34 #[.int .i64 p] W fun e w' => e = .returned (.bool true) ∧ w' = W) := fun W => by have h9 := isPage34 p W; rw [hp] at h9; exact h9
  have HS : Hid (∀ W, Calls Try.prog 35 #[.int .i64 s] W fun e w' => e = .returned (.bool false) ∧ w' = W) := fun W => by have h9 := isStamp35 s W; rw [hs] at h9; exact h9
  clear h hp hs
  go_enter Try.func13, Try.ntmps13
  go_wp2_with (
    first
    | (go_at_call 31
       refine (none31 (unhide H)).mono ?_
       rintro e W9 ⟨rfl, q9⟩
       replace q9 := q9.symm
       subst q9
       refine Stp.go ?_))
  constructor
  go_wp2_with (
    first
    | (go_at_call 34
       refine (unhide HP _).mono ?_
       rintro e W9 ⟨rfl, q9⟩
       replace q9 := q9.symm
       subst q9
       refine Stp.go ?_))
  constructor
  go_wp2_with (
    first
    | (go_at_call 35
       refine (unhide HS _).mono ?_
       rintro e W9 ⟨rfl, q9⟩
       replace q9 := q9.symm
       subst q9
       refine Stp.go ?_))
  constructor
  go_wp2_with fail
  go_ret
  exact ⟨rfl, rfl⟩
theorem mark13_f (h : Pg w b mb L) (hp : isPg p = true) (hs : isSt s = true) (hf : isSt f = false) : Calls Try.prog 13 #[P0 b, .int .i64 p, .int .i64 s, .int .i64 f] w fun e W => e = .returned (.int .i64 2) ∧ W = w := by
  have H := hide h
  have HP : Hid (∀ W, Calls Try.prog 34 #[.int .i64 p] W fun e w' => e = .returned (.bool true) ∧ w' = W) := fun W => by have h9 := isPage34 p W; rw [hp] at h9; exact h9
  have HS : Hid (∀ W, Calls Try.prog 35 #[.int .i64 s] W fun e w' => e = .returned (.bool true) ∧ w' = W) := fun W => by have h9 := isStamp35 s W; rw [hs] at h9; exact h9
  have HF : Hid (∀ W, Calls Try.prog 35 #[.int .i64 f] W fun e w' => e = .returned (.bool false) ∧ w' = W) := fun W => by have h9 := isStamp35 f W; rw [hf] at h9; exact h9
  clear h hp hs hf
  go_enter Try.func13, Try.ntmps13
  go_wp2_with (
    first
    | (go_at_call 31
       refine (none31 (unhide H)).mono ?_
       rintro e W9 ⟨rfl, q9⟩
       replace q9 := q9.symm
       subst q9
       refine Stp.go ?_))
  constructor
  go_wp2_with (
    first
    | (go_at_call 34
       refine (unhide HP _).mono ?_
       rintro e W9 ⟨rfl, q9⟩
       replace q9 := q9.symm
       subst q9
       refine Stp.go ?_))
  constructor
  go_wp2_with (
    first
    | (go_at_call 35
       refine (unhide HS _).mono ?_
       rintro e W9 ⟨rfl, q9⟩
       replace q9 := q9.symm
       subst q9
       refine Stp.go ?_))
  constructor
  go_wp2_with (
    first
    | (go_at_call 35
       refine (unhide HF _).mono ?_
       rintro e W9 ⟨rfl, q9⟩
       replace q9 := q9.symm
       subst q9
       refine Stp.go ?_))
  constructor
  go_wp2_with fail
  go_ret
  exact ⟨rfl, rfl⟩
@[reducible] def S0 (w : World) (_ : Nat → Bool) (_ : Nat → Value) (W : World) : Prop := Kept [] w W
theorem S0.loc {w : World} : ∀ d d' vs vs' W, (∀ i ∈ ([] : List Nat), d i = d' i ∧ vs i = vs' i) → S0 w d vs W → S0 w d' vs' W := fun _ _ _ _ _ _ h => h
section
variable {ops : Array Oper} {rest : List Oper} {op o : Oper} {a : Act} {w : World} {K : Act → World → Prop} {Q : Exit → Act → World → Prop}
theorem o_ext0 (x : Operand) (ho : o.op = .extract x 0) (u v : Value) (hx : a.eval x = .tuple #[u, v]) (h : K (a.put o.dst u) w) : o.wp Try.prog a w K Q := by
  unfold Oper.wp execOp
  simp only [ho, hx]
  simp [go_sem]
  exact h
theorem o_ext1 (x : Operand) (ho : o.op = .extract x 1) (u v : Value) (hx : a.eval x = .tuple #[u, v]) (h : K (a.put o.dst v) w) : o.wp Try.prog a w K Q := by
  unfold Oper.wp execOp
  simp only [ho, hx]
  simp [go_sem]
  exact h
end
theorem mark13_old (h : Pg w b mb L) (hp : isPg p = true) (hs : isSt s = true) (hf : isSt f = true) {q : Nat} {z : Mk} (ho : placeOf p s L 0 = some (q, z)) : Calls Try.prog 13 #[P0 b, .int .i64 p, .int .i64 s, .int .i64 f] w fun e W => e = .returned (.int .i64 0) ∧ Pg W b mb (L.set q ⟨p, s, min z.f f⟩) ∧ Kept [mb] w W := by
  have H := hide h
  have HU : Hid (lookV p s L = z.f) := by show _ = _; unfold lookV; rw [ho]
  have HV : Hid ((placeOf p s L 0).isSome = true) := by show _ = _; rw [ho]; rfl
  have HO := hide ho
  have HOK : Hid (Ok (L.set q ⟨p, s, min z.f f⟩)) := by obtain ⟨_, hq, _, _⟩ := placeOf_some ho; rw [Nat.sub_zero] at hq; exact h.ok.old hq hp hs hf
  have HP : Hid (∀ W, Calls Try.prog 34 #[.int .i64 p] W fun e w' => e = .returned (.bool true) ∧ w' = W) := fun W => by have h9 := isPage34 p W; rw [hp] at h9; exact h9
  have HS : Hid (∀ W, Calls Try.prog 35 #[.int .i64 s] W fun e w' => e = .returned (.bool true) ∧ w' = W) := fun W => by have h9 := isStamp35 s W; rw [hs] at h9; exact h9
  have HF : Hid (∀ W, Calls Try.prog 35 #[.int .i64 f] W fun e w' => e = .returned (.bool true) ∧ w' = W) := fun W => by have h9 := isStamp35 f W; rw [hf] at h9; exact h9
  clear h hp hs hf ho
  go_enter Try.func13, Try.ntmps13
  go_wp2_with (
    first
    | (go_at_call 31
       refine (none31 (unhide H)).mono ?_
       rintro e W9 ⟨rfl, q9⟩
       replace q9 := q9.symm
       subst q9
       refine Stp.go ?_))
  constructor
  go_wp2_with (
    first
    | (go_at_call 34
       refine (unhide HP _).mono ?_
       rintro e W9 ⟨rfl, q9⟩
       replace q9 := q9.symm
       subst q9
       refine Stp.go ?_))
  constructor
  go_wp2_with (
    first
    | (go_at_call 35
       refine (unhide HS _).mono ?_
       rintro e W9 ⟨rfl, q9⟩
       replace q9 := q9.symm
       subst q9
       refine Stp.go ?_))
  constructor
  go_wp2_with (
    first
    | (go_at_call 35
       refine (unhide HF _).mono ?_
       rintro e W9 ⟨rfl, q9⟩
       replace q9 := q9.symm
       subst q9
       refine Stp.go ?_))
  constructor
  go_wp2_with (
    first
    | (refine wpBuildP (by rfl) #[(0, .tmp 27), (1, .tmp 28)] (by rfl) #[(0, .int .i64 p), (1, .int .i64 s)] (by kernel_rfl) (keyC p s) (build67 _ p s) ?_
       refine Stp.go ?_))
  constructor
  go_wp2_with (
    first
    | (refine wpNew row67 (keyC 0 0) rfl zero67 9 rfl rfl rfl (.tmp 29) rfl rfl rfl (keyC p s) rfl (key_one p s) rfl rfl ?_
       intro W1 y e1 B1 K1
       have HY := hide B1
       have HK := hide K1
       replace H := hide ((unhide H).step K1 (by simp) (by simp))
       have c0 := (unhide H).cw
       clear e1 B1 K1
       refine Stp.go ?_))
  constructor
  go_wp2_with fail
  refine wp_region_any mixed (wpAny_gx 11 rfl (by kernel_rfl) [some (P0 b), some (P0 b), some (P0 b), some (.map (some mb)), some (aggV (keyC p s)), some (.tuple #[.int .i64 z.f, .bool true]), some (.tuple #[.int .i64 z.f, .bool true]), some (.int .i64 z.f), some (.bool true), some (.int .i64 z.f), some (.bool true)] rfl (by kernel_rfl) (fun l vs W => (S0 W1) (fun i => l.getD i false) vs W) ((Kept.refl [] _).drew) ?_ ?_)
  · intro ix o' hi ho a' w2 l vs hls hlf hJ hout hin hdep hnot
    match ix, ho with
    | 0, ho =>
      obtain rfl := Option.some.inj ho
      have e0 := hout 0 (by kernel_rfl)
      replace e0 : a'.eval (.tmp 0) = _ := e0.trans rfl
      exact wp_move (.tmp 0) rfl _ e0 ⟨_, rfl, told_of rfl, keepG (St := (S0 W1)) [] S0.loc (by omega) (by decide) hJ⟩
    | 1, ho =>
      obtain rfl := Option.some.inj ho
      have e0 : a'.eval (.tmp 31) = P0 b := by have h9 := hin 0 31 (by kernel_rfl) (by kernel_rfl); exact h9.1.trans (told_is _ h9.2 rfl)
      exact o_nil (.tmp 31) rfl _ e0 ⟨_, rfl, told_of rfl, keepG (St := (S0 W1)) [] S0.loc (by omega) (by decide) hJ⟩
    | 2, ho =>
      obtain rfl := Option.some.inj ho
      have e0 : a'.eval (.tmp 32) = P0 b := by have h9 := hin 1 32 (by kernel_rfl) (by kernel_rfl); exact h9.1.trans (told_is _ h9.2 rfl)
      exact o_fld52_0 (.tmp 32) rfl b (0) (0) rfl e0 ⟨_, rfl, told_of rfl, keepG (St := (S0 W1)) [] S0.loc (by omega) (by decide) hJ⟩
    | 3, ho =>
      obtain rfl := Option.some.inj ho
      have e0 : a'.eval (.tmp 33) = P0 b := by have h9 := hin 2 33 (by kernel_rfl) (by kernel_rfl); exact h9.1.trans (told_is _ h9.2 rfl)
      exact o_load50 (.tmp 33) rfl _ _ e0 (((unhide H).step hJ (by simp) (by simp)).cw) ⟨_, rfl, told_of rfl, keepG (St := (S0 W1)) [] S0.loc (by omega) (by decide) hJ⟩
    | 4, ho =>
      obtain rfl := Option.some.inj ho
      have e0 := hout 9 (by kernel_rfl)
      replace e0 : a'.eval (.tmp 9) = _ := e0.trans rfl
      exact wp_loadA row67 (.tmp 9) rfl y (0) e0 (keyC p s) (rfl) (((unhide HY).kept hJ (by simp)).range) ⟨_, rfl, told_of rfl, keepG (St := (S0 W1)) [] S0.loc (by omega) (by decide) hJ⟩
    | 5, ho =>
      obtain rfl := Option.some.inj ho
      have e0 : a'.eval (.tmp 34) = .map (some mb) := by have h9 := hin 3 34 (by kernel_rfl) (by kernel_rfl); exact h9.1.trans (told_is _ h9.2 rfl)
      have e1 : a'.eval (.tmp 35) = aggV (keyC p s) := by have h9 := hin 4 35 (by kernel_rfl) (by kernel_rfl); exact h9.1.trans (told_is _ h9.2 rfl)
      exact o_lookU (.tmp 34) (.tmp 35) rfl mb L (p) (s) (z.f) true (unhide HU) (unhide HV) (((unhide H).step hJ (by simp) (by simp)).map) e0 e1 ⟨_, rfl, told_of rfl, keepG (St := (S0 W1)) [] S0.loc (by omega) (by decide) hJ⟩
    | 6, ho =>
      obtain rfl := Option.some.inj ho
      have e0 : a'.eval (.tmp 36) = .tuple #[.int .i64 z.f, .bool true] := by have h9 := hin 5 36 (by kernel_rfl) (by kernel_rfl); exact h9.1.trans (told_is _ h9.2 rfl)
      exact wp_move (.tmp 36) rfl _ e0 ⟨_, rfl, told_of rfl, keepG (St := (S0 W1)) [] S0.loc (by omega) (by decide) hJ⟩
    | 7, ho =>
      obtain rfl := Option.some.inj ho
      have e0 : a'.eval (.tmp 30) = .tuple #[.int .i64 z.f, .bool true] := by have h9 := hin 6 30 (by kernel_rfl) (by kernel_rfl); exact h9.1.trans (told_is _ h9.2 rfl)
      exact o_ext0 (.tmp 30) rfl _ _ e0 ⟨_, rfl, told_of rfl, keepG (St := (S0 W1)) [] S0.loc (by omega) (by decide) hJ⟩
    | 8, ho =>
      obtain rfl := Option.some.inj ho
      have e0 : a'.eval (.tmp 30) = .tuple #[.int .i64 z.f, .bool true] := by have h9 := hin 6 30 (by kernel_rfl) (by kernel_rfl); exact h9.1.trans (told_is _ h9.2 rfl)
      exact o_ext1 (.tmp 30) rfl _ _ e0 ⟨_, rfl, told_of rfl, keepG (St := (S0 W1)) [] S0.loc (by omega) (by decide) hJ⟩
    | 9, ho =>
      obtain rfl := Option.some.inj ho
      have e0 : a'.eval (.tmp 37) = .int .i64 z.f := by have h9 := hin 7 37 (by kernel_rfl) (by kernel_rfl); exact h9.1.trans (told_is _ h9.2 rfl)
      exact wp_assignV (.tmp 37) rfl _ e0 ⟨_, rfl, told_of rfl, keepG (St := (S0 W1)) [] S0.loc (by omega) (by decide) hJ⟩
    | 10, ho =>
      obtain rfl := Option.some.inj ho
      have e0 : a'.eval (.tmp 38) = .bool true := by have h9 := hin 8 38 (by kernel_rfl) (by kernel_rfl); exact h9.1.trans (told_is _ h9.2 rfl)
      exact wp_assignV (.tmp 38) rfl _ e0 ⟨_, rfl, told_of rfl, keepG (St := (S0 W1)) [] S0.loc (by omega) (by decide) hJ⟩
  intro l_ vs4 w9 hl hJ htold
  have t0 : vs4 0 = P0 b := told_is _ (htold 0 (by decide)) rfl
  have t1 : vs4 1 = P0 b := told_is _ (htold 1 (by decide)) rfl
  have t2 : vs4 2 = P0 b := told_is _ (htold 2 (by decide)) rfl
  have t3 : vs4 3 = .map (some mb) := told_is _ (htold 3 (by decide)) rfl
  have t4 : vs4 4 = aggV (keyC p s) := told_is _ (htold 4 (by decide)) rfl
  have t5 : vs4 5 = .tuple #[.int .i64 z.f, .bool true] := told_is _ (htold 5 (by decide)) rfl
  have t6 : vs4 6 = .tuple #[.int .i64 z.f, .bool true] := told_is _ (htold 6 (by decide)) rfl
  have t7 : vs4 7 = .int .i64 z.f := told_is _ (htold 7 (by decide)) rfl
  have t8 : vs4 8 = .bool true := told_is _ (htold 8 (by decide)) rfl
  have t9 : vs4 9 = .int .i64 z.f := told_is _ (htold 9 (by decide)) rfl
  have t10 : vs4 10 = .bool true := told_is _ (htold 10 (by decide)) rfl
  rw [show (List.range 11).map vs4 = [vs4 0, vs4 1, vs4 2, vs4 3, vs4 4, vs4 5, vs4 6, vs4 7, vs4 8, vs4 9, vs4 10] from rfl]
  simp only [t0, t1, t2, t3, t4, t5, t6, t7, t8, t9, t10, putAll, Act.put, List.setIfInBounds_toArray, List.set_cons_succ, List.set_cons_zero]
  clear t0 t1 t2 t3 t4 t5 t6 t7 t8 t9 t10 htold
  have hk9 : Kept [] W1 w9 := hJ
  clear hJ hl
  replace H := hide ((unhide H).step hk9 (by simp) (by simp))
  replace HY := hide ((unhide HY).kept hk9 (by simp))
  replace HK := hide ((unhide HK).trans hk9)
  have c0 := (unhide H).cw
  clear hk9
  go_wp2_with fail
  refine wp_region_any mixed (wpAny_tq1 8 rfl (by kernel_rfl) [some (P0 b), some (P0 b), some (P0 b), some (.map (some mb)), some (aggV (keyC p s)), some (.int .i64 z.f), some (.int .i64 f), some (.int .i64 (min z.f f)), some (undef)] rfl (by kernel_rfl) (by kernel_rfl) ?_ ?_)
  · intro i o' hi hsk ho a' w2 hout hin hk2
    replace hk2 : Kept [] w9 w2 := ⟨hk2.os, hk2.tape, hk2.output, hk2.size, hk2.block⟩
    match i, ho, hsk with
    | 0, ho, hsk =>
      obtain rfl := Option.some.inj ho
      exact wp_move (.tmp 0) rfl _ ((hout 0 (by kernel_rfl)).trans rfl) ⟨_, rfl, tq_is _ _ _ _ rfl, Kept.refl _ _, fun _ _ _ _ _ => trivial⟩
    | 1, ho, hsk =>
      obtain rfl := Option.some.inj ho
      have e0 : a'.eval (.tmp 40) = P0 b := is_tq (hin 0 40 (by kernel_rfl) (by kernel_rfl)) rfl
      exact o_nil (.tmp 40) rfl _ e0 ⟨_, rfl, tq_is _ _ _ _ rfl, Kept.refl _ _, fun _ _ _ _ _ => trivial⟩
    | 2, ho, hsk =>
      obtain rfl := Option.some.inj ho
      have e0 : a'.eval (.tmp 41) = P0 b := is_tq (hin 1 41 (by kernel_rfl) (by kernel_rfl)) rfl
      exact o_fld52_0 (.tmp 41) rfl b (0) (0) rfl e0 ⟨_, rfl, tq_is _ _ _ _ rfl, Kept.refl _ _, fun _ _ _ _ _ => trivial⟩
    | 3, ho, hsk =>
      obtain rfl := Option.some.inj ho
      have e0 : a'.eval (.tmp 42) = P0 b := is_tq (hin 2 42 (by kernel_rfl) (by kernel_rfl)) rfl
      exact o_load50 (.tmp 42) rfl _ _ e0 (((unhide H).step hk2 (by simp) (by simp)).cw) ⟨_, rfl, tq_is _ _ _ _ rfl, Kept.refl _ _, fun _ _ _ _ _ => trivial⟩
    | 4, ho, hsk =>
      obtain rfl := Option.some.inj ho
      exact wp_loadA row67 (.tmp 9) rfl y (0) ((hout 9 (by kernel_rfl)).trans rfl) (keyC p s) (rfl) (((unhide HY).kept hk2 (by simp)).range) ⟨_, rfl, tq_is _ _ _ _ rfl, Kept.refl _ _, fun _ _ _ _ _ => trivial⟩
    | 5, ho, hsk =>
      obtain rfl := Option.some.inj ho
      exact wp_move (.tmp 10) rfl _ ((hout 10 (by kernel_rfl)).trans rfl) ⟨_, rfl, tq_is _ _ _ _ rfl, Kept.refl _ _, fun _ _ _ _ _ => trivial⟩
    | 6, ho, hsk =>
      obtain rfl := Option.some.inj ho
      exact wp_move (.tmp 3) rfl _ ((hout 3 (by kernel_rfl)).trans rfl) ⟨_, rfl, tq_is _ _ _ _ rfl, Kept.refl _ _, fun _ _ _ _ _ => trivial⟩
    | 7, ho, hsk =>
      obtain rfl := Option.some.inj ho
      have e0 : a'.eval (.tmp 45) = .int .i64 z.f := is_tq (hin 5 45 (by kernel_rfl) (by kernel_rfl)) rfl
      have e1 : a'.eval (.tmp 46) = .int .i64 f := is_tq (hin 6 46 (by kernel_rfl) (by kernel_rfl)) rfl
      exact o_min2 (.tmp 45) (.tmp 46) rfl _ _ e0 e1 ⟨_, rfl, tq_is _ _ _ _ rfl, Kept.refl _ _, fun _ _ _ _ _ => trivial⟩
    | 8, ho, hsk =>
      obtain rfl := Option.some.inj ho
      exact absurd hi (by decide)
  intro V9 hk9
  replace hk9 : Kept [] w9 V9 := ⟨hk9.os, hk9.tape, hk9.output, hk9.size, hk9.block⟩
  simp only [valsQ, List.map_cons, List.map_nil, Option.getD_some, Option.getD_none, List.take_succ_cons, List.take_zero, putAll, Act.put, List.setIfInBounds_toArray, List.set_cons_succ, List.set_cons_zero]
  refine wpAny_all (rs := [8]) (by kernel_rfl) (by simp) ?_
  intro i hi
  obtain rfl : i = 8 := by simpa using hi
  replace H := hide ((unhide H).step hk9 (by simp) (by simp))
  replace HK := hide ((unhide HK).trans hk9)
  clear hk9
  refine wpOp_of rfl rfl (o_updO (.tmp 43) (.tmp 44) (.tmp 47) rfl rfl mb L ⟨p, s, min z.f f⟩ z q rfl rfl rfl (unhide H).map (unhide HO) (fun W hM hW => ?_))
  refine wpAny_done (by kernel_rfl) ?_ _
  have HPG : Hid (Pg W b mb (L.set q ⟨p, s, min z.f f⟩)) := hide ((unhide H).to hW hM (unhide HOK))
  replace HK : Hid (Kept [mb] w W) := hide ((Kept.mono (unhide HK) (by simp)).trans hW)
  clear hM hW
  go_wp2_with fail
  go_ret
  exact ⟨rfl, unhide HPG, unhide HK⟩
theorem mark13_full (h : Pg w b mb L) (hp : isPg p = true) (hs : isSt s = true) (hf : isSt f = true) (ho : placeOf p s L 0 = none) (hl : L.length = 256) : Calls Try.prog 13 #[P0 b, .int .i64 p, .int .i64 s, .int .i64 f] w fun e W => e = .returned (.int .i64 5) ∧ Kept [] w W := by
  have H := hide h
  have HU : Hid (lookV p s L = 0) := by show _ = _; unfold lookV; rw [ho]
  have HV : Hid ((placeOf p s L 0).isSome = false) := by show _ = _; rw [ho]; rfl
  have HO := hide ho
  have D0 : ((L.length : Int) == 256) = true := by simp; omega
  have HP : Hid (∀ W, Calls Try.prog 34 #[.int .i64 p] W fun e w' => e = .returned (.bool true) ∧ w' = W) := fun W => by have h9 := isPage34 p W; rw [hp] at h9; exact h9
  have HS : Hid (∀ W, Calls Try.prog 35 #[.int .i64 s] W fun e w' => e = .returned (.bool true) ∧ w' = W) := fun W => by have h9 := isStamp35 s W; rw [hs] at h9; exact h9
  have HF : Hid (∀ W, Calls Try.prog 35 #[.int .i64 f] W fun e w' => e = .returned (.bool true) ∧ w' = W) := fun W => by have h9 := isStamp35 f W; rw [hf] at h9; exact h9
  clear h hp hs hf ho hl
  go_enter Try.func13, Try.ntmps13
  go_wp2_with (
    first
    | (go_at_call 31
       refine (none31 (unhide H)).mono ?_
       rintro e W9 ⟨rfl, q9⟩
       replace q9 := q9.symm
       subst q9
       refine Stp.go ?_))
  constructor
  go_wp2_with (
    first
    | (go_at_call 34
       refine (unhide HP _).mono ?_
       rintro e W9 ⟨rfl, q9⟩
       replace q9 := q9.symm
       subst q9
       refine Stp.go ?_))
  constructor
  go_wp2_with (
    first
    | (go_at_call 35
       refine (unhide HS _).mono ?_
       rintro e W9 ⟨rfl, q9⟩
       replace q9 := q9.symm
       subst q9
       refine Stp.go ?_))
  constructor
  go_wp2_with (
    first
    | (go_at_call 35
       refine (unhide HF _).mono ?_
       rintro e W9 ⟨rfl, q9⟩
       replace q9 := q9.symm
       subst q9
       refine Stp.go ?_))
  constructor
  go_wp2_with (
    first
    | (refine wpBuildP (by rfl) #[(0, .tmp 27), (1, .tmp 28)] (by rfl) #[(0, .int .i64 p), (1, .int .i64 s)] (by kernel_rfl) (keyC p s) (build67 _ p s) ?_
       refine Stp.go ?_))
  constructor
  go_wp2_with (
    first
    | (refine wpNew row67 (keyC 0 0) rfl zero67 9 rfl rfl rfl (.tmp 29) rfl rfl rfl (keyC p s) rfl (key_one p s) rfl rfl ?_
       intro W1 y e1 B1 K1
       have HY := hide B1
       have HK := hide K1
       replace H := hide ((unhide H).step K1 (by simp) (by simp))
       have c0 := (unhide H).cw
       clear e1 B1 K1
       refine Stp.go ?_))
  constructor
  go_wp2_with fail
  refine wp_region_any mixed (wpAny_gx 11 rfl (by kernel_rfl) [some (P0 b), some (P0 b), some (P0 b), some (.map (some mb)), some (aggV (keyC p s)), some (.tuple #[.int .i64 0, .bool false]), some (.tuple #[.int .i64 0, .bool false]), some (.int .i64 0), some (.bool false), some (.int .i64 0), some (.bool false)] rfl (by kernel_rfl) (fun l vs W => (S0 W1) (fun i => l.getD i false) vs W) ((Kept.refl [] _).drew) ?_ ?_)
  · intro ix o' hi ho a' w2 l vs hls hlf hJ hout hin hdep hnot
    match ix, ho with
    | 0, ho =>
      obtain rfl := Option.some.inj ho
      have e0 := hout 0 (by kernel_rfl)
      replace e0 : a'.eval (.tmp 0) = _ := e0.trans rfl
      exact wp_move (.tmp 0) rfl _ e0 ⟨_, rfl, told_of rfl, keepG (St := (S0 W1)) [] S0.loc (by omega) (by decide) hJ⟩
    | 1, ho =>
      obtain rfl := Option.some.inj ho
      have e0 : a'.eval (.tmp 31) = P0 b := by have h9 := hin 0 31 (by kernel_rfl) (by kernel_rfl); exact h9.1.trans (told_is _ h9.2 rfl)
      exact o_nil (.tmp 31) rfl _ e0 ⟨_, rfl, told_of rfl, keepG (St := (S0 W1)) [] S0.loc (by omega) (by decide) hJ⟩
    | 2, ho =>
      obtain rfl := Option.some.inj ho
      have e0 : a'.eval (.tmp 32) = P0 b := by have h9 := hin 1 32 (by kernel_rfl) (by kernel_rfl); exact h9.1.trans (told_is _ h9.2 rfl)
      exact o_fld52_0 (.tmp 32) rfl b (0) (0) rfl e0 ⟨_, rfl, told_of rfl, keepG (St := (S0 W1)) [] S0.loc (by omega) (by decide) hJ⟩
    | 3, ho =>
      obtain rfl := Option.some.inj ho
      have e0 : a'.eval (.tmp 33) = P0 b := by have h9 := hin 2 33 (by kernel_rfl) (by kernel_rfl); exact h9.1.trans (told_is _ h9.2 rfl)
      exact o_load50 (.tmp 33) rfl _ _ e0 (((unhide H).step hJ (by simp) (by simp)).cw) ⟨_, rfl, told_of rfl, keepG (St := (S0 W1)) [] S0.loc (by omega) (by decide) hJ⟩
    | 4, ho =>
      obtain rfl := Option.some.inj ho
      have e0 := hout 9 (by kernel_rfl)
      replace e0 : a'.eval (.tmp 9) = _ := e0.trans rfl
      exact wp_loadA row67 (.tmp 9) rfl y (0) e0 (keyC p s) (rfl) (((unhide HY).kept hJ (by simp)).range) ⟨_, rfl, told_of rfl, keepG (St := (S0 W1)) [] S0.loc (by omega) (by decide) hJ⟩
    | 5, ho =>
      obtain rfl := Option.some.inj ho
      have e0 : a'.eval (.tmp 34) = .map (some mb) := by have h9 := hin 3 34 (by kernel_rfl) (by kernel_rfl); exact h9.1.trans (told_is _ h9.2 rfl)
      have e1 : a'.eval (.tmp 35) = aggV (keyC p s) := by have h9 := hin 4 35 (by kernel_rfl) (by kernel_rfl); exact h9.1.trans (told_is _ h9.2 rfl)
      exact o_lookU (.tmp 34) (.tmp 35) rfl mb L (p) (s) (0) false (unhide HU) (unhide HV) (((unhide H).step hJ (by simp) (by simp)).map) e0 e1 ⟨_, rfl, told_of rfl, keepG (St := (S0 W1)) [] S0.loc (by omega) (by decide) hJ⟩
    | 6, ho =>
      obtain rfl := Option.some.inj ho
      have e0 : a'.eval (.tmp 36) = .tuple #[.int .i64 0, .bool false] := by have h9 := hin 5 36 (by kernel_rfl) (by kernel_rfl); exact h9.1.trans (told_is _ h9.2 rfl)
      exact wp_move (.tmp 36) rfl _ e0 ⟨_, rfl, told_of rfl, keepG (St := (S0 W1)) [] S0.loc (by omega) (by decide) hJ⟩
    | 7, ho =>
      obtain rfl := Option.some.inj ho
      have e0 : a'.eval (.tmp 30) = .tuple #[.int .i64 0, .bool false] := by have h9 := hin 6 30 (by kernel_rfl) (by kernel_rfl); exact h9.1.trans (told_is _ h9.2 rfl)
      exact o_ext0 (.tmp 30) rfl _ _ e0 ⟨_, rfl, told_of rfl, keepG (St := (S0 W1)) [] S0.loc (by omega) (by decide) hJ⟩
    | 8, ho =>
      obtain rfl := Option.some.inj ho
      have e0 : a'.eval (.tmp 30) = .tuple #[.int .i64 0, .bool false] := by have h9 := hin 6 30 (by kernel_rfl) (by kernel_rfl); exact h9.1.trans (told_is _ h9.2 rfl)
      exact o_ext1 (.tmp 30) rfl _ _ e0 ⟨_, rfl, told_of rfl, keepG (St := (S0 W1)) [] S0.loc (by omega) (by decide) hJ⟩
    | 9, ho =>
      obtain rfl := Option.some.inj ho
      have e0 : a'.eval (.tmp 37) = .int .i64 0 := by have h9 := hin 7 37 (by kernel_rfl) (by kernel_rfl); exact h9.1.trans (told_is _ h9.2 rfl)
      exact wp_assignV (.tmp 37) rfl _ e0 ⟨_, rfl, told_of rfl, keepG (St := (S0 W1)) [] S0.loc (by omega) (by decide) hJ⟩
    | 10, ho =>
      obtain rfl := Option.some.inj ho
      have e0 : a'.eval (.tmp 38) = .bool false := by have h9 := hin 8 38 (by kernel_rfl) (by kernel_rfl); exact h9.1.trans (told_is _ h9.2 rfl)
      exact wp_assignV (.tmp 38) rfl _ e0 ⟨_, rfl, told_of rfl, keepG (St := (S0 W1)) [] S0.loc (by omega) (by decide) hJ⟩
  intro l_ vs4 w9 hl hJ htold
  have t0 : vs4 0 = P0 b := told_is _ (htold 0 (by decide)) rfl
  have t1 : vs4 1 = P0 b := told_is _ (htold 1 (by decide)) rfl
  have t2 : vs4 2 = P0 b := told_is _ (htold 2 (by decide)) rfl
  have t3 : vs4 3 = .map (some mb) := told_is _ (htold 3 (by decide)) rfl
  have t4 : vs4 4 = aggV (keyC p s) := told_is _ (htold 4 (by decide)) rfl
  have t5 : vs4 5 = .tuple #[.int .i64 0, .bool false] := told_is _ (htold 5 (by decide)) rfl
  have t6 : vs4 6 = .tuple #[.int .i64 0, .bool false] := told_is _ (htold 6 (by decide)) rfl
  have t7 : vs4 7 = .int .i64 0 := told_is _ (htold 7 (by decide)) rfl
  have t8 : vs4 8 = .bool false := told_is _ (htold 8 (by decide)) rfl
  have t9 : vs4 9 = .int .i64 0 := told_is _ (htold 9 (by decide)) rfl
  have t10 : vs4 10 = .bool false := told_is _ (htold 10 (by decide)) rfl
  rw [show (List.range 11).map vs4 = [vs4 0, vs4 1, vs4 2, vs4 3, vs4 4, vs4 5, vs4 6, vs4 7, vs4 8, vs4 9, vs4 10] from rfl]
  simp only [t0, t1, t2, t3, t4, t5, t6, t7, t8, t9, t10, putAll, Act.put, List.setIfInBounds_toArray, List.set_cons_succ, List.set_cons_zero]
  clear t0 t1 t2 t3 t4 t5 t6 t7 t8 t9 t10 htold
  have hk9 : Kept [] W1 w9 := hJ
  clear hJ hl
  replace H := hide ((unhide H).step hk9 (by simp) (by simp))
  replace HY := hide ((unhide HY).kept hk9 (by simp))
  replace HK := hide ((unhide HK).trans hk9)
  have c0 := (unhide H).cw
  clear hk9
  go_wp2_with (
    first
    | (refine wpLen50 rfl (.tmp 51) rfl mb L rfl (unhide H).map ?_
       refine Stp.go ?_))
  constructor
  go_wp2_with fail
  go_ret
  exact ⟨rfl, unhide HK⟩
theorem mark13_new (h : Pg w b mb L) (hp : isPg p = true) (hs : isSt s = true) (hf : isSt f = true) (ho : placeOf p s L 0 = none) (hl : ¬ L.length = 256) : Calls Try.prog 13 #[P0 b, .int .i64 p, .int .i64 s, .int .i64 f] w fun e W => e = .returned (.int .i64 0) ∧ Pg W b mb (L ++ [⟨p, s, f⟩]) ∧ Kept [mb] w W := by
  have H := hide h
  have HU : Hid (lookV p s L = 0) := by show _ = _; unfold lookV; rw [ho]
  have HV : Hid ((placeOf p s L 0).isSome = false) := by show _ = _; rw [ho]; rfl
  have HO := hide ho
  have D0 : ((L.length : Int) == 256) = false := by simp; omega
  have HOK : Hid (Ok (L ++ [⟨p, s, f⟩])) := h.ok.new hp hs hf hl
  have HP : Hid (∀ W, Calls Try.prog 34 #[.int .i64 p] W fun e w' => e = .returned (.bool true) ∧ w' = W) := fun W => by have h9 := isPage34 p W; rw [hp] at h9; exact h9
  have HS : Hid (∀ W, Calls Try.prog 35 #[.int .i64 s] W fun e w' => e = .returned (.bool true) ∧ w' = W) := fun W => by have h9 := isStamp35 s W; rw [hs] at h9; exact h9
  have HF : Hid (∀ W, Calls Try.prog 35 #[.int .i64 f] W fun e w' => e = .returned (.bool true) ∧ w' = W) := fun W => by have h9 := isStamp35 f W; rw [hf] at h9; exact h9
  clear h hp hs hf ho hl
  go_enter Try.func13, Try.ntmps13
  go_wp2_with (
    first
    | (go_at_call 31
       refine (none31 (unhide H)).mono ?_
       rintro e W9 ⟨rfl, q9⟩
       replace q9 := q9.symm
       subst q9
       refine Stp.go ?_))
  constructor
  go_wp2_with (
    first
    | (go_at_call 34
       refine (unhide HP _).mono ?_
       rintro e W9 ⟨rfl, q9⟩
       replace q9 := q9.symm
       subst q9
       refine Stp.go ?_))
  constructor
  go_wp2_with (
    first
    | (go_at_call 35
       refine (unhide HS _).mono ?_
       rintro e W9 ⟨rfl, q9⟩
       replace q9 := q9.symm
       subst q9
       refine Stp.go ?_))
  constructor
  go_wp2_with (
    first
    | (go_at_call 35
       refine (unhide HF _).mono ?_
       rintro e W9 ⟨rfl, q9⟩
       replace q9 := q9.symm
       subst q9
       refine Stp.go ?_))
  constructor
  go_wp2_with (
    first
    | (refine wpBuildP (by rfl) #[(0, .tmp 27), (1, .tmp 28)] (by rfl) #[(0, .int .i64 p), (1, .int .i64 s)] (by kernel_rfl) (keyC p s) (build67 _ p s) ?_
       refine Stp.go ?_))
  constructor
  go_wp2_with (
    first
    | (refine wpNew row67 (keyC 0 0) rfl zero67 9 rfl rfl rfl (.tmp 29) rfl rfl rfl (keyC p s) rfl (key_one p s) rfl rfl ?_
       intro W1 y e1 B1 K1
       have HY := hide B1
       have HK := hide K1
       replace H := hide ((unhide H).step K1 (by simp) (by simp))
       have c0 := (unhide H).cw
       clear e1 B1 K1
       refine Stp.go ?_))
  constructor
  go_wp2_with fail
  refine wp_region_any mixed (wpAny_gx 11 rfl (by kernel_rfl) [some (P0 b), some (P0 b), some (P0 b), some (.map (some mb)), some (aggV (keyC p s)), some (.tuple #[.int .i64 0, .bool false]), some (.tuple #[.int .i64 0, .bool false]), some (.int .i64 0), some (.bool false), some (.int .i64 0), some (.bool false)] rfl (by kernel_rfl) (fun l vs W => (S0 W1) (fun i => l.getD i false) vs W) ((Kept.refl [] _).drew) ?_ ?_)
  · intro ix o' hi ho a' w2 l vs hls hlf hJ hout hin hdep hnot
    match ix, ho with
    | 0, ho =>
      obtain rfl := Option.some.inj ho
      have e0 := hout 0 (by kernel_rfl)
      replace e0 : a'.eval (.tmp 0) = _ := e0.trans rfl
      exact wp_move (.tmp 0) rfl _ e0 ⟨_, rfl, told_of rfl, keepG (St := (S0 W1)) [] S0.loc (by omega) (by decide) hJ⟩
    | 1, ho =>
      obtain rfl := Option.some.inj ho
      have e0 : a'.eval (.tmp 31) = P0 b := by have h9 := hin 0 31 (by kernel_rfl) (by kernel_rfl); exact h9.1.trans (told_is _ h9.2 rfl)
      exact o_nil (.tmp 31) rfl _ e0 ⟨_, rfl, told_of rfl, keepG (St := (S0 W1)) [] S0.loc (by omega) (by decide) hJ⟩
    | 2, ho =>
      obtain rfl := Option.some.inj ho
      have e0 : a'.eval (.tmp 32) = P0 b := by have h9 := hin 1 32 (by kernel_rfl) (by kernel_rfl); exact h9.1.trans (told_is _ h9.2 rfl)
      exact o_fld52_0 (.tmp 32) rfl b (0) (0) rfl e0 ⟨_, rfl, told_of rfl, keepG (St := (S0 W1)) [] S0.loc (by omega) (by decide) hJ⟩
    | 3, ho =>
      obtain rfl := Option.some.inj ho
      have e0 : a'.eval (.tmp 33) = P0 b := by have h9 := hin 2 33 (by kernel_rfl) (by kernel_rfl); exact h9.1.trans (told_is _ h9.2 rfl)
      exact o_load50 (.tmp 33) rfl _ _ e0 (((unhide H).step hJ (by simp) (by simp)).cw) ⟨_, rfl, told_of rfl, keepG (St := (S0 W1)) [] S0.loc (by omega) (by decide) hJ⟩
    | 4, ho =>
      obtain rfl := Option.some.inj ho
      have e0 := hout 9 (by kernel_rfl)
      replace e0 : a'.eval (.tmp 9) = _ := e0.trans rfl
      exact wp_loadA row67 (.tmp 9) rfl y (0) e0 (keyC p s) (rfl) (((unhide HY).kept hJ (by simp)).range) ⟨_, rfl, told_of rfl, keepG (St := (S0 W1)) [] S0.loc (by omega) (by decide) hJ⟩
    | 5, ho =>
      obtain rfl := Option.some.inj ho
      have e0 : a'.eval (.tmp 34) = .map (some mb) := by have h9 := hin 3 34 (by kernel_rfl) (by kernel_rfl); exact h9.1.trans (told_is _ h9.2 rfl)
      have e1 : a'.eval (.tmp 35) = aggV (keyC p s) := by have h9 := hin 4 35 (by kernel_rfl) (by kernel_rfl); exact h9.1.trans (told_is _ h9.2 rfl)
      exact o_lookU (.tmp 34) (.tmp 35) rfl mb L (p) (s) (0) false (unhide HU) (unhide HV) (((unhide H).step hJ (by simp) (by simp)).map) e0 e1 ⟨_, rfl, told_of rfl, keepG (St := (S0 W1)) [] S0.loc (by omega) (by decide) hJ⟩
    | 6, ho =>
      obtain rfl := Option.some.inj ho
      have e0 : a'.eval (.tmp 36) = .tuple #[.int .i64 0, .bool false] := by have h9 := hin 5 36 (by kernel_rfl) (by kernel_rfl); exact h9.1.trans (told_is _ h9.2 rfl)
      exact wp_move (.tmp 36) rfl _ e0 ⟨_, rfl, told_of rfl, keepG (St := (S0 W1)) [] S0.loc (by omega) (by decide) hJ⟩
    | 7, ho =>
      obtain rfl := Option.some.inj ho
      have e0 : a'.eval (.tmp 30) = .tuple #[.int .i64 0, .bool false] := by have h9 := hin 6 30 (by kernel_rfl) (by kernel_rfl); exact h9.1.trans (told_is _ h9.2 rfl)
      exact o_ext0 (.tmp 30) rfl _ _ e0 ⟨_, rfl, told_of rfl, keepG (St := (S0 W1)) [] S0.loc (by omega) (by decide) hJ⟩
    | 8, ho =>
      obtain rfl := Option.some.inj ho
      have e0 : a'.eval (.tmp 30) = .tuple #[.int .i64 0, .bool false] := by have h9 := hin 6 30 (by kernel_rfl) (by kernel_rfl); exact h9.1.trans (told_is _ h9.2 rfl)
      exact o_ext1 (.tmp 30) rfl _ _ e0 ⟨_, rfl, told_of rfl, keepG (St := (S0 W1)) [] S0.loc (by omega) (by decide) hJ⟩
    | 9, ho =>
      obtain rfl := Option.some.inj ho
      have e0 : a'.eval (.tmp 37) = .int .i64 0 := by have h9 := hin 7 37 (by kernel_rfl) (by kernel_rfl); exact h9.1.trans (told_is _ h9.2 rfl)
      exact wp_assignV (.tmp 37) rfl _ e0 ⟨_, rfl, told_of rfl, keepG (St := (S0 W1)) [] S0.loc (by omega) (by decide) hJ⟩
    | 10, ho =>
      obtain rfl := Option.some.inj ho
      have e0 : a'.eval (.tmp 38) = .bool false := by have h9 := hin 8 38 (by kernel_rfl) (by kernel_rfl); exact h9.1.trans (told_is _ h9.2 rfl)
      exact wp_assignV (.tmp 38) rfl _ e0 ⟨_, rfl, told_of rfl, keepG (St := (S0 W1)) [] S0.loc (by omega) (by decide) hJ⟩
  intro l_ vs4 w9 hl hJ htold
  have t0 : vs4 0 = P0 b := told_is _ (htold 0 (by decide)) rfl
  have t1 : vs4 1 = P0 b := told_is _ (htold 1 (by decide)) rfl
  have t2 : vs4 2 = P0 b := told_is _ (htold 2 (by decide)) rfl
  have t3 : vs4 3 = .map (some mb) := told_is _ (htold 3 (by decide)) rfl
  have t4 : vs4 4 = aggV (keyC p s) := told_is _ (htold 4 (by decide)) rfl
  have t5 : vs4 5 = .tuple #[.int .i64 0, .bool false] := told_is _ (htold 5 (by decide)) rfl
  have t6 : vs4 6 = .tuple #[.int .i64 0, .bool false] := told_is _ (htold 6 (by decide)) rfl
  have t7 : vs4 7 = .int .i64 0 := told_is _ (htold 7 (by decide)) rfl
  have t8 : vs4 8 = .bool false := told_is _ (htold 8 (by decide)) rfl
  have t9 : vs4 9 = .int .i64 0 := told_is _ (htold 9 (by decide)) rfl
  have t10 : vs4 10 = .bool false := told_is _ (htold 10 (by decide)) rfl
  rw [show (List.range 11).map vs4 = [vs4 0, vs4 1, vs4 2, vs4 3, vs4 4, vs4 5, vs4 6, vs4 7, vs4 8, vs4 9, vs4 10] from rfl]
  simp only [t0, t1, t2, t3, t4, t5, t6, t7, t8, t9, t10, putAll, Act.put, List.setIfInBounds_toArray, List.set_cons_succ, List.set_cons_zero]
  clear t0 t1 t2 t3 t4 t5 t6 t7 t8 t9 t10 htold
  have hk9 : Kept [] W1 w9 := hJ
  clear hJ hl
  replace H := hide ((unhide H).step hk9 (by simp) (by simp))
  replace HY := hide ((unhide HY).kept hk9 (by simp))
  replace HK := hide ((unhide HK).trans hk9)
  have c0 := (unhide H).cw
  clear hk9
  go_wp2_with (
    first
    | (refine wpLen50 rfl (.tmp 51) rfl mb L rfl (unhide H).map ?_
       refine Stp.go ?_))
  constructor
  go_wp2_with fail
  refine wp_region_any mixed (wpAny_tq1 6 rfl (by kernel_rfl) [some (P0 b), some (P0 b), some (P0 b), some (.map (some mb)), some (aggV (keyC p s)), some (.int .i64 f), some (undef)] rfl (by kernel_rfl) (by kernel_rfl) ?_ ?_)
  · intro i o' hi hsk ho a' w2 hout hin hk2
    replace hk2 : Kept [] w9 w2 := ⟨hk2.os, hk2.tape, hk2.output, hk2.size, hk2.block⟩
    match i, ho, hsk with
    | 0, ho, hsk =>
      obtain rfl := Option.some.inj ho
      exact wp_move (.tmp 0) rfl _ ((hout 0 (by kernel_rfl)).trans rfl) ⟨_, rfl, tq_is _ _ _ _ rfl, Kept.refl _ _, fun _ _ _ _ _ => trivial⟩
    | 1, ho, hsk =>
      obtain rfl := Option.some.inj ho
      have e0 : a'.eval (.tmp 54) = P0 b := is_tq (hin 0 54 (by kernel_rfl) (by kernel_rfl)) rfl
      exact o_nil (.tmp 54) rfl _ e0 ⟨_, rfl, tq_is _ _ _ _ rfl, Kept.refl _ _, fun _ _ _ _ _ => trivial⟩
    | 2, ho, hsk =>
      obtain rfl := Option.some.inj ho
      have e0 : a'.eval (.tmp 55) = P0 b := is_tq (hin 1 55 (by kernel_rfl) (by kernel_rfl)) rfl
      exact o_fld52_0 (.tmp 55) rfl b (0) (0) rfl e0 ⟨_, rfl, tq_is _ _ _ _ rfl, Kept.refl _ _, fun _ _ _ _ _ => trivial⟩
    | 3, ho, hsk =>
      obtain rfl := Option.some.inj ho
      have e0 : a'.eval (.tmp 56) = P0 b := is_tq (hin 2 56 (by kernel_rfl) (by kernel_rfl)) rfl
      exact o_load50 (.tmp 56) rfl _ _ e0 (((unhide H).step hk2 (by simp) (by simp)).cw) ⟨_, rfl, tq_is _ _ _ _ rfl, Kept.refl _ _, fun _ _ _ _ _ => trivial⟩
    | 4, ho, hsk =>
      obtain rfl := Option.some.inj ho
      exact wp_loadA row67 (.tmp 9) rfl y (0) ((hout 9 (by kernel_rfl)).trans rfl) (keyC p s) (rfl) (((unhide HY).kept hk2 (by simp)).range) ⟨_, rfl, tq_is _ _ _ _ rfl, Kept.refl _ _, fun _ _ _ _ _ => trivial⟩
    | 5, ho, hsk =>
      obtain rfl := Option.some.inj ho
      exact wp_move (.tmp 3) rfl _ ((hout 3 (by kernel_rfl)).trans rfl) ⟨_, rfl, tq_is _ _ _ _ rfl, Kept.refl _ _, fun _ _ _ _ _ => trivial⟩
    | 6, ho, hsk =>
      obtain rfl := Option.some.inj ho
      exact absurd hi (by decide)
  intro V9 hk9
  replace hk9 : Kept [] w9 V9 := ⟨hk9.os, hk9.tape, hk9.output, hk9.size, hk9.block⟩
  simp only [valsQ, List.map_cons, List.map_nil, Option.getD_some, Option.getD_none, List.take_succ_cons, List.take_zero, putAll, Act.put, List.setIfInBounds_toArray, List.set_cons_succ, List.set_cons_zero]
  refine wpAny_all (rs := [6]) (by kernel_rfl) (by simp) ?_
  intro i hi
  obtain rfl : i = 6 := by simpa using hi
  replace H := hide ((unhide H).step hk9 (by simp) (by simp))
  replace HK := hide ((unhide HK).trans hk9)
  clear hk9
  refine wpOp_of rfl rfl (o_updN (.tmp 57) (.tmp 58) (.tmp 59) rfl rfl mb L ⟨p, s, f⟩ rfl rfl rfl (unhide H).map (unhide HO) (fun W hM hW => ?_))
  refine wpAny_done (by kernel_rfl) ?_ _
  have HPG : Hid (Pg W b mb (L ++ [⟨p, s, f⟩])) := hide ((unhide H).to hW hM (unhide HOK))
  replace HK : Hid (Kept [mb] w W) := hide ((Kept.mono (unhide HK) (by simp)).trans hW)
  clear hM hW
  go_wp2_with fail
  go_ret
  exact ⟨rfl, unhide HPG, unhide HK⟩
theorem mark13 (h : Pg w b mb L) : Calls Try.prog 13 #[P0 b, .int .i64 p, .int .i64 s, .int .i64 f] w fun e W => e = .returned (.int .i64 (markP p s f L).1) ∧ Pg W b mb (markP p s f L).2 ∧ Kept [mb] w W := by
  unfold markP okM
  cases hp : isPg p with
  | false => exact (mark13_p h hp).mono fun e W ⟨h1, h2⟩ => by subst h2; exact ⟨h1, h, Kept.refl _ _⟩
  | true =>
    cases hs : isSt s with
    | false => exact (mark13_s h hp hs).mono fun e W ⟨h1, h2⟩ => by subst h2; exact ⟨h1, h, Kept.refl _ _⟩
    | true =>
      cases hf : isSt f with
      | false => exact (mark13_f h hp hs hf).mono fun e W ⟨h1, h2⟩ => by subst h2; exact ⟨h1, h, Kept.refl _ _⟩
      | true =>
        cases ho : placeOf p s L 0 with
        | some x =>
          obtain ⟨q, z⟩ := x
          simp only [Bool.and_self, if_true]
          exact mark13_old h hp hs hf ho
        | none =>
          by_cases hl : L.length = 256
          · refine (mark13_full h hp hs hf ho hl).mono fun e W ⟨h1, h2⟩ => ?_
            simp only [Bool.and_self, if_true, if_pos hl]
            exact ⟨h1, h.step h2 (by simp) (by simp), Kept.mono h2 (by simp)⟩
          · simp only [Bool.and_self, if_true, if_neg hl]
            exact mark13_new h hp hs hf ho hl

end Go.Proofs.Ythihladmifpokaa
