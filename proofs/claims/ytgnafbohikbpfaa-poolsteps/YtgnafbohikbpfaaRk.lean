/-
  do: victims, clearing, nothing.
-/
import Derived.Test.YtgnafbohikbpfaaRj
namespace Go.Proofs.Ytgnafbohikbpfaa
set_option maxRecDepth 100000
set_option linter.unusedSimpArgs false
open Go.RowKit


variable {w0 w W W' : World} {b mb r g : Nat} {P Q : Po}
theorem res11 (w : World) (a b c : Value) (tmps : Array Value) (h4 : tmps[6]?.getD undef = a) (h5 : tmps[7]?.getD undef = b) (h6 : tmps[8]?.getD undef = c) : (results Try.f11 tmps).run Try.prog w = .ok (.tuple #[a, b, c]) w := by
  simp [results, Try.results11, h4, h5, h6]
/-- What a step leaves. -/
structure DS (w0 W : World) (b mb r g : Nat) (P' : Po) (b' mb' g' : Nat) (W' : World) : Prop where
  tw : Tw w0 W' b' mb' r g' P'
  kept : Kept [b, mb, r, g] W W'
  nb : b' = b ∨ W.heap.size ≤ b'
  nm : mb' = mb ∨ W.heap.size ≤ mb'
  ng : g' = g ∨ W.heap.size ≤ g'
@[reducible] def DC (w0 W : World) (b mb r g : Nat) (P' : Po) (e : Ending) (W' : World) : Prop := ∃ b' mb' g', e = .returned (.tuple #[P0 b', P0 r, .bool true]) ∧ DS w0 W b mb r g P' b' mb' g' W'
/-- The program's call, behind new blocks. -/
theorem Tw.prog {m' : Nat} {P' : Po} (h : Tw w0 W b mb r g P) (_ : On w0 W' b m' P') (hk : Kept [b, mb] W W') (hm : m' = mb ∨ W.heap.size ≤ m') : Ro w0 W' r g P ∧ Apt b m' r g := h.ro.other h.ap hk h.on hm
theorem DS.of {W1 W2 W3 : World} {m' g' : Nat} {P' : Po} (h : Tw w0 W b mb r g P) (k1 : Kept [] W W1) (on : On w0 W2 b m' P') (k2 : Kept [b, mb] W1 W2) (hm : m' = mb ∨ W1.heap.size ≤ m') (ro : Ro w0 W3 r g' P') (k3 : Kept [r, g] W2 W3) (hg : g' = g ∨ W2.heap.size ≤ g') : DS w0 W b mb r g P' b m' g' W3 := by
  obtain ⟨hr, ha⟩ := (h.step0 k1).prog on k2 hm
  obtain ⟨h1, h2⟩ := on.farR ha k3 hr hg
  refine ⟨⟨h1, ro, h2⟩, ((k1.mono (by simp)).trans (k2.mono (by simp))).trans (k3.mono (by simp)), .inl rfl, ?_, ?_⟩
  · rcases hm with e | e
    · exact .inl e
    · exact .inr (Nat.le_trans k1.size e)
  · rcases hg with e | e
    · exact .inl e
    · exact .inr (Nat.le_trans (Nat.le_trans k1.size k2.size) e)
set_option maxHeartbeats 1000000 in
theorem do_6 (h : Tw w0 w b mb r g P) (x : Se) (hk1 : ¬ x.kd = 1) (hk2 : ¬ x.kd = 2) (hk3 : ¬ x.kd = 3) (hk4 : ¬ x.kd = 4) (hk5 : ¬ x.kd = 5) (hk6 : x.kd = 6) : Calls Try.prog 11 #[P0 b, P0 r, aggV x.C] w (DC w0 w b mb r g (doP P x)) := by
  have hdp : doP P x = P.vic.1 := by unfold doP; rw [if_neg hk1, if_neg hk2, if_neg hk3, if_neg hk4, if_neg hk5, if_pos hk6]
  rw [hdp]
  clear hdp
  have dk1 : decide (x.kd = 1) = false := by simpa using hk1
  have dq1 : (x.kd == 1) = false := by simpa using hk1
  have dk2 : decide (x.kd = 2) = false := by simpa using hk2
  have dq2 : (x.kd == 2) = false := by simpa using hk2
  have dk3 : decide (x.kd = 3) = false := by simpa using hk3
  have dq3 : (x.kd == 3) = false := by simpa using hk3
  have dk4 : decide (x.kd = 4) = false := by simpa using hk4
  have dq4 : (x.kd == 4) = false := by simpa using hk4
  have dk5 : decide (x.kd = 5) = false := by simpa using hk5
  have dq5 : (x.kd == 5) = false := by simpa using hk5
  have dk6 : decide (x.kd = 6) = true := by simpa using hk6
  have dq6 : (x.kd == 6) = true := by simpa using hk6
  obtain ⟨xc, hxc⟩ : ∃ c, c = x.C := ⟨_, rfl⟩
  have HX0 : Hid (xc[0]? = some (.int .i64 x.kd)) := by show _ = _; rw [hxc]; rfl
  have HX1 : Hid (xc[1]? = some (.int .i64 x.pg)) := by show _ = _; rw [hxc]; rfl
  rw [← hxc]
  have HT := hide h
  obtain ⟨v1, hv1⟩ : ∃ v, v = P.vic.2.1 := ⟨_, rfl⟩
  obtain ⟨v2, hv2⟩ : ∃ v, v = P.vic.2.2 := ⟨_, rfl⟩
  have q1 : decide (v1 = v1) = true := decide_eq_true rfl
  have q2 : (v1 == v1) = true := by simp
  have q3 : (v2 == v2) = true := by simp
  have q4 : decide (v2 = v2) = true := decide_eq_true rfl
  clear hxc h hk1 hk2 hk3 hk4 hk5 hk6
  go_enter Try.func11, Try.ntmps11
  go_wp2_with (
    first
    | (refine wpBoxV rfl (.tmp 2) rfl xc rfl ?_
       intro W1 y e1 B1 K1
       have HK1 := hide K1
       have HYE : Hid (y = w.heap.size) := e1
       have ck : W1.cell? ⟨y, 0, none⟩ = some (.int .i64 x.kd) := fits_cell B1 0 _ (unhide HX0)
       have HBY := hide B1
       clear e1 B1 K1
       refine Stp.go ?_))
  constructor
  go_wp2_with (
    first
    | (go_at_call 17
       refine (on_vic ((unhide HT).step0 (unhide HK1)).on).mono ?_
       rintro e W2 ⟨m2, rfl, o2, k2, f2⟩
       have HO2 := hide o2
       have HK2 := hide k2
       have HF2 := hide f2
       clear o2 k2 f2
       refine Stp.go ?_))
  constructor
  go_wp2_with (
    first
    | (go_at_call 32
       refine (ro_vic (((unhide HT).step0 (unhide HK1)).prog (unhide HO2) (unhide HK2) (unhide HF2)).1).mono ?_
       rintro e W3 ⟨m3, rfl, o3, k3, f3⟩
       have HO3 := hide o3
       have HK3 := hide k3
       have HF3 := hide f3
       clear o3 k3 f3
       refine Stp.go ?_))
  constructor
  go_wp2_with fail
  refine bodyPost_ret (res11 _ _ _ _ _ rfl rfl rfl) rfl ?_
  exact ⟨b, m2, m3, rfl, DS.of (unhide HT) (unhide HK1) (unhide HO2) (unhide HK2) (unhide HF2) (unhide HO3) (unhide HK3) (unhide HF3)⟩
set_option maxHeartbeats 1000000 in
theorem do_7 (h : Tw w0 w b mb r g P) (x : Se) (hk1 : ¬ x.kd = 1) (hk2 : ¬ x.kd = 2) (hk3 : ¬ x.kd = 3) (hk4 : ¬ x.kd = 4) (hk5 : ¬ x.kd = 5) (hk6 : ¬ x.kd = 6) (hk7 : x.kd = 7) : Calls Try.prog 11 #[P0 b, P0 r, aggV x.C] w (DC w0 w b mb r g (doP P x)) := by
  have hdp : doP P x = po0 P.m := by unfold doP; rw [if_neg hk1, if_neg hk2, if_neg hk3, if_neg hk4, if_neg hk5, if_neg hk6, if_pos hk7]
  rw [hdp]
  clear hdp
  have dk1 : decide (x.kd = 1) = false := by simpa using hk1
  have dq1 : (x.kd == 1) = false := by simpa using hk1
  have dk2 : decide (x.kd = 2) = false := by simpa using hk2
  have dq2 : (x.kd == 2) = false := by simpa using hk2
  have dk3 : decide (x.kd = 3) = false := by simpa using hk3
  have dq3 : (x.kd == 3) = false := by simpa using hk3
  have dk4 : decide (x.kd = 4) = false := by simpa using hk4
  have dq4 : (x.kd == 4) = false := by simpa using hk4
  have dk5 : decide (x.kd = 5) = false := by simpa using hk5
  have dq5 : (x.kd == 5) = false := by simpa using hk5
  have dk6 : decide (x.kd = 6) = false := by simpa using hk6
  have dq6 : (x.kd == 6) = false := by simpa using hk6
  have dk7 : decide (x.kd = 7) = true := by simpa using hk7
  have dq7 : (x.kd == 7) = true := by simpa using hk7
  obtain ⟨xc, hxc⟩ : ∃ c, c = x.C := ⟨_, rfl⟩
  have HX0 : Hid (xc[0]? = some (.int .i64 x.kd)) := by show _ = _; rw [hxc]; rfl
  have HX1 : Hid (xc[1]? = some (.int .i64 x.pg)) := by show _ = _; rw [hxc]; rfl
  rw [← hxc]
  have HT := hide h
  obtain ⟨n, hn⟩ : ∃ n, n = cntB P.S P.m := ⟨_, rfl⟩
  have q1 : decide ((n : Int) = (n : Int)) = true := decide_eq_true rfl
  have q2 : ((n : Int) == (n : Int)) = true := by simp
  clear hxc h hk1 hk2 hk3 hk4 hk5 hk6 hk7
  go_enter Try.func11, Try.ntmps11
  go_wp2_with (
    first
    | (refine wpBoxV rfl (.tmp 2) rfl xc rfl ?_
       intro W1 y e1 B1 K1
       have HK1 := hide K1
       have HYE : Hid (y = w.heap.size) := e1
       have ck : W1.cell? ⟨y, 0, none⟩ = some (.int .i64 x.kd) := fits_cell B1 0 _ (unhide HX0)
       have HBY := hide B1
       clear e1 B1 K1
       refine Stp.go ?_))
  constructor
  go_wp2_with (
    first
    | (go_at_call 33
       refine (on_clear ((unhide HT).step0 (unhide HK1)).on).mono ?_
       rintro e W2 ⟨m2, rfl, o2, k2, f2⟩
       have HO2 := hide o2
       have HK2 := hide k2
       have HF2 := hide f2
       clear o2 k2 f2
       refine Stp.go ?_))
  constructor
  go_wp2_with (
    first
    | (go_at_call 34
       refine (ro_clear (((unhide HT).step0 (unhide HK1)).prog (unhide HO2) (unhide HK2) (unhide HF2)).1).mono ?_
       rintro e W3 ⟨m3, rfl, o3, k3, f3⟩
       have HO3 := hide o3
       have HK3 := hide k3
       have HF3 := hide f3
       clear o3 k3 f3
       refine Stp.go ?_))
  constructor
  go_wp2_with fail
  refine bodyPost_ret (res11 _ _ _ _ _ rfl rfl rfl) rfl ?_
  exact ⟨b, m2, m3, rfl, DS.of (unhide HT) (unhide HK1) (unhide HO2) (unhide HK2) (unhide HF2) (unhide HO3) (unhide HK3) (unhide HF3)⟩
set_option maxHeartbeats 1000000 in
theorem do_9 (h : Tw w0 w b mb r g P) (x : Se) (hk1 : ¬ x.kd = 1) (hk2 : ¬ x.kd = 2) (hk3 : ¬ x.kd = 3) (hk4 : ¬ x.kd = 4) (hk5 : ¬ x.kd = 5) (hk6 : ¬ x.kd = 6) (hk7 : ¬ x.kd = 7) (hk8 : ¬ x.kd = 8) : Calls Try.prog 11 #[P0 b, P0 r, aggV x.C] w (DC w0 w b mb r g (doP P x)) := by
  have hdp : doP P x = P := by unfold doP; rw [if_neg hk1, if_neg hk2, if_neg hk3, if_neg hk4, if_neg hk5, if_neg hk6, if_neg hk7]
  rw [hdp]
  clear hdp
  have dk1 : decide (x.kd = 1) = false := by simpa using hk1
  have dq1 : (x.kd == 1) = false := by simpa using hk1
  have dk2 : decide (x.kd = 2) = false := by simpa using hk2
  have dq2 : (x.kd == 2) = false := by simpa using hk2
  have dk3 : decide (x.kd = 3) = false := by simpa using hk3
  have dq3 : (x.kd == 3) = false := by simpa using hk3
  have dk4 : decide (x.kd = 4) = false := by simpa using hk4
  have dq4 : (x.kd == 4) = false := by simpa using hk4
  have dk5 : decide (x.kd = 5) = false := by simpa using hk5
  have dq5 : (x.kd == 5) = false := by simpa using hk5
  have dk6 : decide (x.kd = 6) = false := by simpa using hk6
  have dq6 : (x.kd == 6) = false := by simpa using hk6
  have dk7 : decide (x.kd = 7) = false := by simpa using hk7
  have dq7 : (x.kd == 7) = false := by simpa using hk7
  have dk8 : decide (x.kd = 8) = false := by simpa using hk8
  have dq8 : (x.kd == 8) = false := by simpa using hk8
  obtain ⟨xc, hxc⟩ : ∃ c, c = x.C := ⟨_, rfl⟩
  have HX0 : Hid (xc[0]? = some (.int .i64 x.kd)) := by show _ = _; rw [hxc]; rfl
  have HX1 : Hid (xc[1]? = some (.int .i64 x.pg)) := by show _ = _; rw [hxc]; rfl
  rw [← hxc]
  have HT := hide h
  clear hxc h hk1 hk2 hk3 hk4 hk5 hk6 hk7 hk8
  go_enter Try.func11, Try.ntmps11
  go_wp2_with (
    first
    | (refine wpBoxV rfl (.tmp 2) rfl xc rfl ?_
       intro W1 y e1 B1 K1
       have HK1 := hide K1
       have HYE : Hid (y = w.heap.size) := e1
       have ck : W1.cell? ⟨y, 0, none⟩ = some (.int .i64 x.kd) := fits_cell B1 0 _ (unhide HX0)
       have HBY := hide B1
       clear e1 B1 K1
       refine Stp.go ?_))
  constructor
  go_wp2_with fail
  refine bodyPost_ret (res11 _ _ _ _ _ rfl rfl rfl) rfl ?_
  exact ⟨b, mb, g, rfl, (unhide HT).step0 (unhide HK1), (unhide HK1).mono (by simp), .inl rfl, .inl rfl, .inl rfl⟩

end Go.Proofs.Ytgnafbohikbpfaa
