/-
  What a lock that is not there answers.
-/
import Derived.Test.YtbigongmlpoahaaFr
namespace Go.Proofs.Ytbigongmlpoahaa
set_option maxRecDepth 100000
set_option linter.unusedSimpArgs false
open Go.RowKit


/-- No lock: a nil one, or one that was not made. -/
def Nl (w : World) (v : Value) : Prop := v = .pointer none ∨ ∃ b, v = P0 b ∧ w.cell? ⟨b, 0, none⟩ = some (.bool false)
theorem Nl.kept {w w' : World} {v : Value} (h : Nl w v) (hk : Kept [] w w') : Nl w' v := by
  rcases h with h | ⟨b, h, hc⟩
  · exact .inl h
  · exact .inr ⟨b, h, hk.cell hc (by simp)⟩
theorem none_n (v : Value) (w : World) (h : Nl w v) : Calls Try.prog 68 #[v] w fun e w' => e = .returned (.bool true) ∧ w' = w := by
  rcases h with rfl | ⟨b, rfl, c0⟩
  · go_enter Try.func68, Try.ntmps68
    go_wp2_with fail
    go_ret
    exact ⟨rfl, rfl⟩
  · go_enter Try.func68, Try.ntmps68
    go_wp2_with fail
    go_ret
    exact ⟨rfl, rfl⟩
theorem holds_n (v : Value) (w : World) (h : Nl w v) : Calls Try.prog 59 #[v, .int .i64 0] w fun e w' => e = .returned (.tuple #[.int .i64 0, .bool false]) ∧ w' = w := by
  have P := hide (none_n v w h)
  clear h
  go_enter Try.func59, Try.ntmps59
  go_wp2_with (
    first
    | (go_at_call 68
       refine (unhide P).mono ?_
       rintro e W11 ⟨rfl, q11⟩
       replace q11 := q11.symm
       subst q11
       refine Stp.go ?_))
  constructor
  go_wp2_with fail
  go_ret2
  exact ⟨rfl, rfl⟩
theorem gone_n (v : Value) (w : World) (h : Nl w v) : Calls Try.prog 47 #[v, .int .i64 0, .int .i64 0] w fun e w' => e = .returned (.slice none 0 0) ∧ w' = w := by
  have P := hide (none_n v w h)
  clear h
  go_enter Try.func47, Try.ntmps47
  go_wp2_with (
    first
    | (go_at_call 68
       refine (unhide P).mono ?_
       rintro e W11 ⟨rfl, q11⟩
       replace q11 := q11.symm
       subst q11
       refine Stp.go ?_))
  constructor
  go_wp2_with fail
  go_ret
  exact ⟨rfl, rfl⟩
theorem got_n (v : Value) (w : World) (h : Nl w v) : Calls Try.prog 49 #[v, .int .i64 0, .int .i64 0] w fun e w' => e = .returned (.slice none 0 0) ∧ w' = w := by
  have P := hide (none_n v w h)
  clear h
  go_enter Try.func49, Try.ntmps49
  go_wp2_with (
    first
    | (go_at_call 68
       refine (unhide P).mono ?_
       rintro e W11 ⟨rfl, q11⟩
       replace q11 := q11.symm
       subst q11
       refine Stp.go ?_))
  constructor
  go_wp2_with fail
  go_ret
  exact ⟨rfl, rfl⟩
theorem rel_n (v : Value) (w : World) (h : Nl w v) : Calls Try.prog 51 #[v, .int .i64 0, .int .i64 0] w fun e w' => e = .returned (.slice none 0 0) ∧ w' = w := by
  have P := hide (none_n v w h)
  clear h
  go_enter Try.func51, Try.ntmps51
  go_wp2_with (
    first
    | (go_at_call 68
       refine (unhide P).mono ?_
       rintro e W11 ⟨rfl, q11⟩
       replace q11 := q11.symm
       subst q11
       refine Stp.go ?_))
  constructor
  go_wp2_with fail
  go_ret
  exact ⟨rfl, rfl⟩
theorem wrote_n (v : Value) (w : World) (h : Nl w v) : Calls Try.prog 53 #[v, .int .i64 0, .int .i64 0, .int .i64 0] w fun e w' => e = .returned (.slice none 0 0) ∧ w' = w := by
  have P := hide (none_n v w h)
  clear h
  go_enter Try.func53, Try.ntmps53
  go_wp2_with (
    first
    | (go_at_call 68
       refine (unhide P).mono ?_
       rintro e W11 ⟨rfl, q11⟩
       replace q11 := q11.symm
       subst q11
       refine Stp.go ?_))
  constructor
  go_wp2_with fail
  go_ret
  exact ⟨rfl, rfl⟩
theorem idle_n (v : Value) (w : World) (h : Nl w v) : Calls Try.prog 54 #[v] w fun e w' => e = .returned (.bool true) ∧ w' = w := by
  have P := hide (none_n v w h)
  clear h
  go_enter Try.func54, Try.ntmps54
  go_wp2_with (
    first
    | (go_at_call 68
       refine (unhide P).mono ?_
       rintro e W11 ⟨rfl, q11⟩
       replace q11 := q11.symm
       subst q11
       refine Stp.go ?_))
  constructor
  go_wp2_with fail
  go_ret
  exact ⟨rfl, rfl⟩
theorem copy_n (v : Value) (w : World) (h : Nl w v) : Calls Try.prog 39 #[v] w fun e w' => e = .returned (.pointer none) ∧ w' = w := by
  have P := hide (none_n v w h)
  clear h
  go_enter Try.func39, Try.ntmps39
  go_wp2_with (
    first
    | (go_at_call 68
       refine (unhide P).mono ?_
       rintro e W11 ⟨rfl, q11⟩
       replace q11 := q11.symm
       subst q11
       refine Stp.go ?_))
  constructor
  go_wp2_with fail
  go_ret
  exact ⟨rfl, rfl⟩
set_option maxHeartbeats 2000000 in
theorem ask_n (v : Value) (m k : Int) (w : World) (h : Nl w v) : Calls Try.prog 75 #[v, aggV [.int .i64 m, .int .i64 k]] w fun e w' => e = .returned (.slice none 0 0) ∧ Kept [] w w' := by
  have HN := hide h
  clear h
  go_enter Try.func75, Try.ntmps75
  go_wp2_with (
    first
    | (refine wpBoxV rfl (.tmp 1) rfl [.int .i64 m, .int .i64 k] rfl ?_
       intro W1 b3 e1 B1 K1
       have HK := hide K1
       clear e1 B1 K1
       refine Stp.go ?_))
  constructor
  go_wp2_with fail
  refine wp_region_any mixed (wpAny_tq 24 rfl (by kernel_rfl) [some (v), some (.bool true), some (.bool true), none, none, none, none, some (.bool true), some (.bool true), none, none, none, none, none, none, some (.bool true), some (.bool true), none, none, none, none, none, none, some (.bool true)] rfl (by kernel_rfl) (by kernel_rfl) ?_ ?_)
  · intro i o' hi hsk ho a' w2 hout hin hk2
    replace hk2 : Kept [] W1 w2 := ⟨hk2.os, hk2.tape, hk2.output, hk2.size, hk2.block⟩
    match i, ho, hsk with
    | 0, ho, hsk =>
      obtain rfl := Option.some.inj ho
      exact wp_move (.tmp 0) rfl _ ((hout 0 (by kernel_rfl)).trans rfl) ⟨_, rfl, tq_is _ _ _ _ rfl, Kept.refl _ _, fun _ _ _ _ _ => trivial⟩
    | 1, ho, hsk =>
      obtain rfl := Option.some.inj ho
      have e0 : a'.eval (.tmp 5) = v := is_tq (hin 0 5 (by kernel_rfl) (by kernel_rfl)) rfl
      refine wp_callF 68 _ _ rfl #[v] (by simp [e0]) (cg40 _ _) ((none_n v _ ((unhide HN).kept ((unhide HK).trans hk2))).mono ?_)
      rintro e w3 ⟨rfl, rfl⟩
      exact ⟨_, rfl, _, rfl, tq_is _ _ _ _ rfl, Kept.refl _ _, fun _ _ _ _ _ => trivial⟩
    | 2, ho, hsk =>
      obtain rfl := Option.some.inj ho
      have e0 : a'.eval (.tmp 6) = .bool true := is_tq (hin 1 6 (by kernel_rfl) (by kernel_rfl)) rfl
      exact wp_move (.tmp 6) rfl _ e0 ⟨_, rfl, tq_is _ _ _ _ rfl, Kept.refl _ _, fun _ _ _ _ _ => trivial⟩
    | 3, ho, hsk =>
      cases hsk
    | 4, ho, hsk =>
      cases hsk
    | 5, ho, hsk =>
      cases hsk
    | 6, ho, hsk =>
      cases hsk
    | 7, ho, hsk =>
      obtain rfl := Option.some.inj ho
      have e0 : a'.eval (.tmp 7) = .bool true := is_tq (hin 2 7 (by kernel_rfl) (by kernel_rfl)) rfl
      exact o_pickOrT (.tmp 7) (.tmp 11) rfl e0 ⟨_, rfl, tq_is _ _ _ _ rfl, Kept.refl _ _, fun _ _ _ _ _ => trivial⟩
    | 8, ho, hsk =>
      obtain rfl := Option.some.inj ho
      have e0 : a'.eval (.tmp 12) = .bool true := is_tq (hin 7 12 (by kernel_rfl) (by kernel_rfl)) rfl
      exact wp_move (.tmp 12) rfl _ e0 ⟨_, rfl, tq_is _ _ _ _ rfl, Kept.refl _ _, fun _ _ _ _ _ => trivial⟩
    | 9, ho, hsk =>
      cases hsk
    | 10, ho, hsk =>
      cases hsk
    | 11, ho, hsk =>
      cases hsk
    | 12, ho, hsk =>
      cases hsk
    | 13, ho, hsk =>
      cases hsk
    | 14, ho, hsk =>
      cases hsk
    | 15, ho, hsk =>
      obtain rfl := Option.some.inj ho
      have e0 : a'.eval (.tmp 13) = .bool true := is_tq (hin 8 13 (by kernel_rfl) (by kernel_rfl)) rfl
      exact o_pickOrT (.tmp 13) (.tmp 19) rfl e0 ⟨_, rfl, tq_is _ _ _ _ rfl, Kept.refl _ _, fun _ _ _ _ _ => trivial⟩
    | 16, ho, hsk =>
      obtain rfl := Option.some.inj ho
      have e0 : a'.eval (.tmp 20) = .bool true := is_tq (hin 15 20 (by kernel_rfl) (by kernel_rfl)) rfl
      exact wp_move (.tmp 20) rfl _ e0 ⟨_, rfl, tq_is _ _ _ _ rfl, Kept.refl _ _, fun _ _ _ _ _ => trivial⟩
    | 17, ho, hsk =>
      cases hsk
    | 18, ho, hsk =>
      cases hsk
    | 19, ho, hsk =>
      cases hsk
    | 20, ho, hsk =>
      cases hsk
    | 21, ho, hsk =>
      cases hsk
    | 22, ho, hsk =>
      cases hsk
    | 23, ho, hsk =>
      obtain rfl := Option.some.inj ho
      have e0 : a'.eval (.tmp 21) = .bool true := is_tq (hin 16 21 (by kernel_rfl) (by kernel_rfl)) rfl
      exact o_pickOrT (.tmp 21) (.tmp 27) rfl e0 ⟨_, rfl, tq_is _ _ _ _ rfl, Kept.refl _ _, fun _ _ _ _ _ => trivial⟩
  intro w9 hk9
  replace hk9 : Kept [] W1 w9 := ⟨hk9.os, hk9.tape, hk9.output, hk9.size, hk9.block⟩
  simp only [valsQ, List.map_cons, List.map_nil, Option.getD_some, Option.getD_none, List.take_succ_cons, List.take_zero, putAll, Act.put, List.setIfInBounds_toArray, List.set_cons_succ, List.set_cons_zero]
  refine wpAny_done (by kernel_rfl) ?_ _
  go_wp2_with fail
  go_ret
  exact ⟨rfl, (unhide HK).trans hk9⟩
theorem want_n (v : Value) (m : Int) (w : World) (h : Nl w v) : Calls Try.prog 43 #[v, .int .i64 m, .int .i64 1] w fun e w' => e = .returned (.slice none 0 0) ∧ Kept [] w w' := by
  have H := hide h
  clear h
  go_enter Try.func43, Try.ntmps43
  go_wp2_with (
    first
    | (refine wpBuildP (by rfl) #[(0, .tmp 11), (1, .const (.int .i64 1))] (by rfl) #[(0, .int .i64 m), (1, .int .i64 1)] (by kernel_rfl) [.int .i64 m, .int .i64 1] (bw _ m 1) ?_
       refine Stp.go ?_))
  constructor
  go_wp2_with (
    first
    | (go_at_call 75
       refine (ask_n v m 1 _ (unhide H)).mono ?_
       rintro e W9 ⟨rfl, K9⟩
       have HK := hide K9
       clear K9
       refine Stp.go ?_))
  constructor
  go_wp2_with fail
  go_ret
  exact ⟨rfl, unhide HK⟩
theorem clean_n (v : Value) (m : Int) (w : World) (h : Nl w v) : Calls Try.prog 45 #[v, .int .i64 m] w fun e w' => e = .returned (.slice none 0 0) ∧ Kept [] w w' := by
  have H := hide h
  clear h
  go_enter Try.func45, Try.ntmps45
  go_wp2_with (
    first
    | (refine wpBuildP (by rfl) #[(0, .tmp 6), (1, .const (.int .i64 3))] (by rfl) #[(0, .int .i64 m), (1, .int .i64 3)] (by kernel_rfl) [.int .i64 m, .int .i64 3] (bw _ m 3) ?_
       refine Stp.go ?_))
  constructor
  go_wp2_with (
    first
    | (go_at_call 75
       refine (ask_n v m 3 _ (unhide H)).mono ?_
       rintro e W9 ⟨rfl, K9⟩
       have HK := hide K9
       clear K9
       refine Stp.go ?_))
  constructor
  go_wp2_with fail
  go_ret
  exact ⟨rfl, unhide HK⟩
def bn43 : List Value := (Bo.mk (-1) (-1) [] [] ze8 [] 0 0 false 0).C (.slice none 0 0) (.slice none 0 0) (.slice none 0 0)
theorem bn43_one : ∀ v ∈ bn43, v.oneCell' = true := by
  intro v hv
  simp only [bn43, Bo.C, List.mem_cons, List.mem_nil_iff, or_false] at hv
  rcases hv with rfl | rfl | rfl | rfl | rfl | rfl | rfl | rfl | rfl | rfl | rfl | rfl | rfl | rfl | rfl | rfl | rfl <;> rfl
theorem buildN43 (w : World) : (Instr.build 40 #[(0, .int .i64 (-1)), (1, .int .i64 (-1))]).run Try.prog w = .ok (aggV bn43) w := by kernel_rfl
theorem book_n (v : Value) (w : World) (h : Nl w v) : Calls Try.prog 36 #[v] w fun e w' => e = .returned (aggV bn43) ∧ Kept [] w w' := by
  have P := fun W hk => hide (none_n v W (h.kept hk))
  clear h
  have M : Hid (Mm [] w w []) := hide Mm.init
  go_enter Try.func36, Try.ntmps36
  go_wp2_with (
    first
    | (refine wpAllocW (bz43) zero43 2 rfl rfl rfl ?_
       intro W1 b1 e1 B1 K1
       replace M : Hid (Mm [] w W1 [(b1, 40, bz43)]) := hide ((unhide M).new e1 B1 K1)
       clear e1 B1 K1
       refine Stp.go ?_))
  constructor
  go_wp2_with (
    first
    | (go_at_call 68
       refine (unhide (P _ (unhide M).kept)).mono ?_
       rintro e W7 ⟨rfl, q7⟩
       replace q7 := q7.symm
       subst q7
       refine Stp.go ?_))
  constructor
  go_wp2_with (
    first
    | (refine wpBuildP (by rfl) #[(0, .const (.int .i64 (-1))), (1, .const (.int .i64 (-1)))] (by rfl) #[(0, .int .i64 (-1)), (1, .int .i64 (-1))] (by kernel_rfl) bn43 (buildN43 _) ?_
       refine Stp.go ?_))
  constructor
  go_wp2_with (
    first
    | (refine wpStoreM row43 rfl (.tmp 2) (.tmp 5) rfl rfl b1 0 (bn43) rfl rfl rfl bn43_one (unhide M) rfl rfl ?_
       intro W2 N2
       replace M : Hid (Mm [] w W2 [(b1, 40, bn43)]) := hide N2
       clear N2
       refine Stp.go ?_))
  constructor
  go_wp2_with fail
  exact bodyPost_ret (res15 _ _ _ _ rfl rfl ((unhide M).at 0 _ rfl)) rfl ⟨rfl, (unhide M).kept⟩

end Go.Proofs.Ytbigongmlpoahaa
