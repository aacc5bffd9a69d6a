/-
  The chapter's rows.
-/
import Derived.Test.YtgnafbohikbpfaaQm
import Derived.Deep.CutBlock
namespace Go.Proofs.Ytgnafbohikbpfaa
set_option maxRecDepth 100000
set_option linter.unusedSimpArgs false
open Go.RowKit


variable {w0 w W W' : World} {b mb : Nat} {P Q : Po} {L : List En} {pg : Int} {q k : Nat}
def k2 (h : Nat) (a c : Pl) : Po := ⟨2, h, fun i => if i = 0 then a else if i = 1 then c else pl0⟩
theorem On.k2 (h : On w0 W b mb P) {hh : Nat} {a c : Pl} (e1 : P.m = 2) (e2 : P.h = hh) (e3 : P.S 0 = a) (e4 : P.S 1 = c) : On w0 W b mb (Ytgnafbohikbpfaa.k2 hh a c) := by
  have hz := h.ok.z
  obtain ⟨m, h', S⟩ := P
  subst e1 e2 e3 e4
  have : S = fun i => if i = 0 then S 0 else if i = 1 then S 1 else pl0 := by
    funext i
    by_cases i0 : i = 0
    · rw [if_pos i0, i0]
    · rw [if_neg i0]
      by_cases i1 : i = 1
      · rw [if_pos i1, i1]
      · rw [if_neg i1]; exact hz i (by show 2 ≤ i; omega)
  have e : (⟨2, h', S⟩ : Po) = Ytgnafbohikbpfaa.k2 h' (S 0) (S 1) := by unfold Ytgnafbohikbpfaa.k2; rw [← this]
  rw [← e]; exact h
theorem OC.k2 {e : Ending} {v u : Value} {hh : Nat} {a c : Pl} (h : OC w0 W b mb P v e W') (hv : v = u) (e1 : P.m = 2) (e2 : P.h = hh) (e3 : P.S 0 = a) (e4 : P.S 1 = c) : OC w0 W b mb (Ytgnafbohikbpfaa.k2 hh a c) u e W' := by
  obtain ⟨m', h1, h2, h3, h4⟩ := h
  subst hv
  exact ⟨m', h1, h2.k2 e1 e2 e3 e4, h3, h4⟩
theorem Blk.two {W : World} {b T U : Nat} {vs us : List Value} (h : Blk W b T vs) (k : Blk W b U us) : T = U := by
  unfold Blk at h k
  rw [h] at k
  cases k
  rfl
theorem On.far (h : On w0 W b mb P) {g T : Nat} {vs : List Value} (hB : Blk W g T vs) (hT : T ≠ 70) : g ∉ [b, mb] := by
  obtain ⟨L, hp⟩ := h.pg
  simp
  refine ⟨fun e => ?_, map_not_cells hp.map hB⟩
  subst e
  exact hT (hB.two hp.blk)
theorem ks0 (fc : List Value) (hf : fc = (frS 16).C) (h : On w0 W b mb (k2 0 pl0 pl0)) : Calls Try.prog 19 #[P0 b, aggV fc] W (OC w0 W b mb (k2 0 pl0 pl0) (.int .i64 2)) := by rw [hf]; exact (on_set h (frS 16)).mono (fun e W' h9 => h9.k2 (by kernel_rfl) (by kernel_rfl) (by kernel_rfl) (by kernel_rfl) (by kernel_rfl))
theorem ks1 (fc : List Value) (hf : fc = (frS 1).C) (h : On w0 W b mb (k2 0 pl0 pl0)) : Calls Try.prog 19 #[P0 b, aggV fc] W (OC w0 W b mb (k2 0 ⟨frS 1, 0, true⟩ pl0) (.int .i64 0)) := by rw [hf]; exact (on_set h (frS 1)).mono (fun e W' h9 => h9.k2 (by kernel_rfl) (by kernel_rfl) (by kernel_rfl) (by kernel_rfl) (by kernel_rfl))
theorem ks2 (fc : List Value) (hf : fc = (frS 2).C) (h : On w0 W b mb (k2 0 ⟨frS 1, 0, true⟩ pl0)) : Calls Try.prog 19 #[P0 b, aggV fc] W (OC w0 W b mb (k2 0 ⟨frS 1, 0, true⟩ ⟨frS 2, 0, true⟩) (.int .i64 0)) := by rw [hf]; exact (on_set h (frS 2)).mono (fun e W' h9 => h9.k2 (by kernel_rfl) (by kernel_rfl) (by kernel_rfl) (by kernel_rfl) (by kernel_rfl))
theorem ks3 (fc : List Value) (hf : fc = (frS 3).C) (h : On w0 W b mb (k2 0 ⟨frS 1, 0, true⟩ ⟨frS 2, 0, true⟩)) : Calls Try.prog 19 #[P0 b, aggV fc] W (OC w0 W b mb (k2 0 ⟨frS 1, 0, true⟩ ⟨frS 2, 0, true⟩) (.int .i64 5)) := by rw [hf]; exact (on_set h (frS 3)).mono (fun e W' h9 => h9.k2 (by kernel_rfl) (by kernel_rfl) (by kernel_rfl) (by kernel_rfl) (by kernel_rfl))
theorem ks4 (h : On w0 W b mb (k2 0 ⟨frS 1, 0, true⟩ ⟨frS 2, 0, true⟩)) : Calls Try.prog 17 #[P0 b] W (OC w0 W b mb (k2 1 ⟨frS 1, 0, false⟩ ⟨frS 2, 0, false⟩) (.tuple #[.int .i64 1, .bool true])) := (on_vic h).mono (fun e W' h9 => h9.k2 (by kernel_rfl) (by kernel_rfl) (by kernel_rfl) (by kernel_rfl) (by kernel_rfl))
theorem ks5 (h : On w0 W b mb (k2 1 ⟨frS 1, 0, false⟩ ⟨frS 2, 0, false⟩)) : Calls Try.prog 17 #[P0 b] W (OC w0 W b mb (k2 0 ⟨frS 1, 0, false⟩ ⟨frS 2, 0, false⟩) (.tuple #[.int .i64 2, .bool true])) := (on_vic h).mono (fun e W' h9 => h9.k2 (by kernel_rfl) (by kernel_rfl) (by kernel_rfl) (by kernel_rfl) (by kernel_rfl))
theorem ks6 (h : On w0 W b mb (k2 0 ⟨frS 1, 0, false⟩ ⟨frS 2, 0, false⟩)) : Calls Try.prog 17 #[P0 b] W (OC w0 W b mb (k2 1 ⟨frS 1, 0, false⟩ ⟨frS 2, 0, false⟩) (.tuple #[.int .i64 1, .bool true])) := (on_vic h).mono (fun e W' h9 => h9.k2 (by kernel_rfl) (by kernel_rfl) (by kernel_rfl) (by kernel_rfl) (by kernel_rfl))
theorem ks7 (fc : List Value) (hf : fc = (frS 2).C) (h : On w0 W b mb (k2 1 ⟨frS 1, 0, false⟩ ⟨frS 2, 0, false⟩)) : Calls Try.prog 18 #[P0 b, .int .i64 2] W (OC w0 W b mb (k2 1 ⟨frS 1, 0, false⟩ ⟨frS 2, 0, true⟩) (.tuple #[aggV fc, .int .i64 0])) := by rw [hf]; exact (on_get h 2).mono (fun e W' h9 => h9.k2 (by kernel_rfl) (by kernel_rfl) (by kernel_rfl) (by kernel_rfl) (by kernel_rfl))
theorem ks8 (h : On w0 W b mb (k2 1 ⟨frS 1, 0, false⟩ ⟨frS 2, 0, true⟩)) : Calls Try.prog 17 #[P0 b] W (OC w0 W b mb (k2 1 ⟨frS 1, 0, false⟩ ⟨frS 2, 0, false⟩) (.tuple #[.int .i64 1, .bool true])) := (on_vic h).mono (fun e W' h9 => h9.k2 (by kernel_rfl) (by kernel_rfl) (by kernel_rfl) (by kernel_rfl) (by kernel_rfl))
theorem ks9 (h : On w0 W b mb (k2 1 ⟨frS 1, 0, false⟩ ⟨frS 2, 0, false⟩)) : Calls Try.prog 21 #[P0 b, .int .i64 1] W (OC w0 W b mb (k2 1 ⟨frS 1, 1, false⟩ ⟨frS 2, 0, false⟩) (.int .i64 0)) := (on_pin h 1 (fun i => by show (if i = 0 then _ else if i = 1 then _ else pl0 : Pl).pn ≤ _; split; decide; split <;> decide)).mono (fun e W' h9 => h9.k2 (by kernel_rfl) (by kernel_rfl) (by kernel_rfl) (by kernel_rfl) (by kernel_rfl))
theorem ks10 (h : On w0 W b mb (k2 1 ⟨frS 1, 1, false⟩ ⟨frS 2, 0, false⟩)) : Calls Try.prog 17 #[P0 b] W (OC w0 W b mb (k2 0 ⟨frS 1, 1, false⟩ ⟨frS 2, 0, false⟩) (.tuple #[.int .i64 2, .bool true])) := (on_vic h).mono (fun e W' h9 => h9.k2 (by kernel_rfl) (by kernel_rfl) (by kernel_rfl) (by kernel_rfl) (by kernel_rfl))
theorem ks11 (h : On w0 W b mb (k2 0 ⟨frS 1, 1, false⟩ ⟨frS 2, 0, false⟩)) : Calls Try.prog 21 #[P0 b, .int .i64 2] W (OC w0 W b mb (k2 0 ⟨frS 1, 1, false⟩ ⟨frS 2, 1, false⟩) (.int .i64 0)) := (on_pin h 2 (fun i => by show (if i = 0 then _ else if i = 1 then _ else pl0 : Pl).pn ≤ _; split; decide; split <;> decide)).mono (fun e W' h9 => h9.k2 (by kernel_rfl) (by kernel_rfl) (by kernel_rfl) (by kernel_rfl) (by kernel_rfl))
theorem ks12 (h : On w0 W b mb (k2 0 ⟨frS 1, 1, false⟩ ⟨frS 2, 1, false⟩)) : Calls Try.prog 17 #[P0 b] W (OC w0 W b mb (k2 0 ⟨frS 1, 1, false⟩ ⟨frS 2, 1, false⟩) (.tuple #[.int .i64 0, .bool false])) := (on_vic h).mono (fun e W' h9 => h9.k2 (by kernel_rfl) (by kernel_rfl) (by kernel_rfl) (by kernel_rfl) (by kernel_rfl))
theorem ks13 (fc : List Value) (hf : fc = (frS 1).C) (h : On w0 W b mb (k2 0 ⟨frS 1, 1, false⟩ ⟨frS 2, 1, false⟩)) : Calls Try.prog 22 #[P0 b, .int .i64 1] W (OC w0 W b mb (k2 0 pl0 ⟨frS 2, 1, false⟩) (.tuple #[aggV fc, .int .i64 0])) := by rw [hf]; exact (on_drop h 1).mono (fun e W' h9 => h9.k2 (by kernel_rfl) (by kernel_rfl) (by kernel_rfl) (by kernel_rfl) (by kernel_rfl))
theorem ks14 (h : On w0 W b mb (k2 0 pl0 ⟨frS 2, 1, false⟩)) : Calls Try.prog 26 #[P0 b, .int .i64 1] W (OC w0 W b mb (k2 0 pl0 ⟨frS 2, 1, false⟩) (.int .i64 6)) := (on_unpin h 1 (fun i => by show (if i = 0 then _ else if i = 1 then _ else pl0 : Pl).pn ≤ _; split; decide; split <;> decide)).mono (fun e W' h9 => h9.k2 (by kernel_rfl) (by kernel_rfl) (by kernel_rfl) (by kernel_rfl) (by kernel_rfl))
theorem ks15 (fc : List Value) (hf : fc = (frS 3).C) (h : On w0 W b mb (k2 0 pl0 ⟨frS 2, 1, false⟩)) : Calls Try.prog 19 #[P0 b, aggV fc] W (OC w0 W b mb (k2 0 ⟨frS 3, 0, true⟩ ⟨frS 2, 1, false⟩) (.int .i64 0)) := by rw [hf]; exact (on_set h (frS 3)).mono (fun e W' h9 => h9.k2 (by kernel_rfl) (by kernel_rfl) (by kernel_rfl) (by kernel_rfl) (by kernel_rfl))
theorem ks_pins3 (h : On w0 W b mb (k2 0 ⟨frS 3, 0, true⟩ ⟨frS 2, 1, false⟩)) (n : Int) (r : Nat) (hr : pinsP (k2 0 ⟨frS 3, 0, true⟩ ⟨frS 2, 1, false⟩) n = r) (r2 : Int) (hr2 : (r : Int) = r2) : Calls Try.prog 16 #[P0 b, .int .i64 n] W fun e w' => e = .returned (.int .i64 r2) ∧ Kept [] W w' := by
  have h9 := on_pins h n
  rw [hr, hr2] at h9
  exact h9
theorem ks_room (h : On w0 W b mb (k2 0 pl0 ⟨frS 2, 1, false⟩)) : Calls Try.prog 27 #[P0 b] W fun e w' => e = .returned (.int .i64 1) ∧ Kept [] W w' := by
  have h9 := on_room h
  rw [show (((k2 0 pl0 ⟨frS 2, 1, false⟩).m : Int) - (cntB (k2 0 pl0 ⟨frS 2, 1, false⟩).S (k2 0 pl0 ⟨frS 2, 1, false⟩).m : Int)) = 1 from by kernel_rfl] at h9
  exact h9
theorem ks_new (h : Kept [] w0 W) : Calls Try.prog 7 #[.int .i64 2] W fun e w' => ∃ b mb, e = .returned (.tuple #[P0 b, .int .i64 0]) ∧ W.heap.size ≤ b ∧ W.heap.size ≤ mb ∧ On w0 w' b mb (k2 0 pl0 pl0) ∧ Kept [] W w' := by
  refine (on_new 2 h (by decide)).mono (fun e w' h9 => ?_)
  obtain ⟨b, mb, he, h1, h2, h3, h4⟩ := h9
  exact ⟨b, mb, he, h1, h2, h3.k2 rfl rfl rfl rfl, h4⟩
theorem wpEq39W {ops : Array Oper} {rest : List Oper} {op : Oper} {a : Act} {w : World} {Q : Exit → Act → World → Prop} (hw : Region.wanted op (yielded ops a.tmps) = true) (x y : Operand) (ho : op.op = .binOp .eql 39 x y 39) (vs us : List Value) (c : Bool) (hx : a.eval x = aggV vs) (hy : a.eval y = aggV us) (he : (Op.equal 39 (aggV vs) (aggV us)).run Try.prog w = .ok c w) (h : wpList Try.prog ops Q rest (a.put op.dst (.bool c)) w) : wpList Try.prog ops Q (op :: rest) a w :=
  BigFrame.wpList_want hw fun _ hK => o_eqlA 39 39 guard39 x y ho vs us hx hy c he (hK _ _ h)
theorem cg9 (vs : Array Value) (w : World) : (callFunc 9 vs).run Try.prog w = .ok (.enter 9 vs) w := by kernel_rfl
theorem cg16 (vs : Array Value) (w : World) : (callFunc 16 vs).run Try.prog w = .ok (.enter 16 vs) w := by kernel_rfl
theorem cg20 (vs : Array Value) (w : World) : (callFunc 20 vs).run Try.prog w = .ok (.enter 20 vs) w := by kernel_rfl
set_option maxHeartbeats 4000000 in
theorem known10 (w : World) : Calls Try.prog 10 #[] w fun e w' => e = .returned (.bool true) ∧ Kept [] w w' := by
  obtain ⟨fc1, hfc1⟩ : ∃ c, c = (frS 1).C := ⟨_, rfl⟩
  have HF1 : Hid (∀ W, Calls Try.prog 20 #[.int .i64 1] W fun e w' => e = .returned (aggV fc1) ∧ Kept [] W w') := fun W => by rw [hfc1]; exact frame20 1 W
  have HC1 := hide hfc1
  have HL1 : Hid (fc1.length = 102) := by show _ = _; rw [hfc1, Fr.len]
  have HO1 : Hid (∀ v ∈ fc1, v.oneCell' = true) := by rw [hfc1]; exact Fr.one _
  have HE1 : Hid (∀ W, (Op.equal 39 (aggV fc1) (aggV fc1)).run Try.prog W = .ok true W) := fun W => by rw [hfc1]; have h9 := equal39 W (frS 1) (frS 1); rw [decide_eq_true rfl] at h9; exact h9
  clear hfc1
  obtain ⟨fc2, hfc2⟩ : ∃ c, c = (frS 2).C := ⟨_, rfl⟩
  have HF2 : Hid (∀ W, Calls Try.prog 20 #[.int .i64 2] W fun e w' => e = .returned (aggV fc2) ∧ Kept [] W w') := fun W => by rw [hfc2]; exact frame20 2 W
  have HC2 := hide hfc2
  have HL2 : Hid (fc2.length = 102) := by show _ = _; rw [hfc2, Fr.len]
  have HO2 : Hid (∀ v ∈ fc2, v.oneCell' = true) := by rw [hfc2]; exact Fr.one _
  have HE2 : Hid (∀ W, (Op.equal 39 (aggV fc2) (aggV fc2)).run Try.prog W = .ok true W) := fun W => by rw [hfc2]; have h9 := equal39 W (frS 2) (frS 2); rw [decide_eq_true rfl] at h9; exact h9
  clear hfc2
  obtain ⟨fc3, hfc3⟩ : ∃ c, c = (frS 3).C := ⟨_, rfl⟩
  have HF3 : Hid (∀ W, Calls Try.prog 20 #[.int .i64 3] W fun e w' => e = .returned (aggV fc3) ∧ Kept [] W w') := fun W => by rw [hfc3]; exact frame20 3 W
  have HC3 := hide hfc3
  have HL3 : Hid (fc3.length = 102) := by show _ = _; rw [hfc3, Fr.len]
  have HO3 : Hid (∀ v ∈ fc3, v.oneCell' = true) := by rw [hfc3]; exact Fr.one _
  have HE3 : Hid (∀ W, (Op.equal 39 (aggV fc3) (aggV fc3)).run Try.prog W = .ok true W) := fun W => by rw [hfc3]; have h9 := equal39 W (frS 3) (frS 3); rw [decide_eq_true rfl] at h9; exact h9
  clear hfc3
  obtain ⟨fc16, hfc16⟩ : ∃ c, c = (frS 16).C := ⟨_, rfl⟩
  have HF16 : Hid (∀ W, Calls Try.prog 20 #[.int .i64 16] W fun e w' => e = .returned (aggV fc16) ∧ Kept [] W w') := fun W => by rw [hfc16]; exact frame20 16 W
  have HC16 := hide hfc16
  have HL16 : Hid (fc16.length = 102) := by show _ = _; rw [hfc16, Fr.len]
  have HO16 : Hid (∀ v ∈ fc16, v.oneCell' = true) := by rw [hfc16]; exact Fr.one _
  have HE16 : Hid (∀ W, (Op.equal 39 (aggV fc16) (aggV fc16)).run Try.prog W = .ok true W) := fun W => by rw [hfc16]; have h9 := equal39 W (frS 16) (frS 16); rw [decide_eq_true rfl] at h9; exact h9
  clear hfc16
  obtain ⟨zc, hzc⟩ : ∃ c, c = fr0.C := ⟨_, rfl⟩
  have HZ39 : Hid (∀ w : World, (Instr.alloc 39 true (.tuple #[])).run Try.prog w = .ok (P0 w.heap.size) (w.alloc (.cells zc.toArray 39))) := fun w => by rw [hzc]; exact zero39 w
  have HLZ : Hid (zc.length = 102) := by show _ = _; rw [hzc, Fr.len]
  clear hzc
  go_enter Try.func10, Try.ntmps10
  go_wp2_with (
    first
    | (go_at_call 7
       refine (new7_no 0 _ (by decide)).mono ?_
       rintro e W9 ⟨rfl, q9⟩
       replace q9 := q9.symm
       subst q9
       refine Stp.go ?_))
  constructor
  go_wp2_with (
    first
    | (go_at_call 7
       refine (ks_new (Kept.refl [] _)).mono ?_
       rintro e W1 ⟨b, mb, rfl, _, _, hn1, _⟩
       have HN := hide hn1
       clear hn1
       refine Stp.go ?_))
  constructor
  go_wp2_with (
    first
    | (go_at_call 20
       refine (unhide HF16 _).mono ?_
       rintro e W2 ⟨rfl, K2⟩
       replace HN := hide ((unhide HN).step0 K2)
       skip
       clear K2
       refine Stp.go ?_))
  constructor
  go_wp2_with (
    first
    | (go_at_call 19
       refine (ks0 fc16 (unhide HC16) (unhide HN)).mono ?_
       rintro e W3 ⟨mb3, rfl, hn3, K3, _⟩
       skip
       replace HN := hide hn3
       clear hn3 K3
       refine Stp.go ?_))
  constructor
  go_wp2_with (
    first
    | (go_at_call 20
       refine (unhide HF1 _).mono ?_
       rintro e W4 ⟨rfl, K4⟩
       replace HN := hide ((unhide HN).step0 K4)
       skip
       clear K4
       refine Stp.go ?_))
  constructor
  go_wp2_with (
    first
    | (go_at_call 19
       refine (ks1 fc1 (unhide HC1) (unhide HN)).mono ?_
       rintro e W5 ⟨mb5, rfl, hn5, K5, _⟩
       skip
       replace HN := hide hn5
       clear hn5 K5
       refine Stp.go ?_))
  constructor
  go_wp2_with (
    first
    | (go_at_call 20
       refine (unhide HF2 _).mono ?_
       rintro e W6 ⟨rfl, K6⟩
       replace HN := hide ((unhide HN).step0 K6)
       skip
       clear K6
       refine Stp.go ?_))
  constructor
  go_wp2_with (
    first
    | (go_at_call 19
       refine (ks2 fc2 (unhide HC2) (unhide HN)).mono ?_
       rintro e W7 ⟨mb7, rfl, hn7, K7, _⟩
       skip
       replace HN := hide hn7
       clear hn7 K7
       refine Stp.go ?_))
  constructor
  go_wp2_with (
    first
    | (go_at_call 20
       refine (unhide HF3 _).mono ?_
       rintro e W8 ⟨rfl, K8⟩
       replace HN := hide ((unhide HN).step0 K8)
       skip
       clear K8
       refine Stp.go ?_))
  constructor
  go_wp2_with (
    first
    | (go_at_call 19
       refine (ks3 fc3 (unhide HC3) (unhide HN)).mono ?_
       rintro e W9 ⟨mb9, rfl, hn9, K9, _⟩
       skip
       replace HN := hide hn9
       clear hn9 K9
       refine Stp.go ?_))
  constructor
  go_wp2_with (
    first
    | (go_at_call 17
       refine (ks4 (unhide HN)).mono ?_
       rintro e W10 ⟨mb10, rfl, hn10, K10, _⟩
       skip
       replace HN := hide hn10
       clear hn10 K10
       refine Stp.go ?_))
  constructor
  go_wp2_with (
    first
    | (go_at_call 17
       refine (ks5 (unhide HN)).mono ?_
       rintro e W11 ⟨mb11, rfl, hn11, K11, _⟩
       skip
       replace HN := hide hn11
       clear hn11 K11
       refine Stp.go ?_))
  constructor
  go_wp2_with (
    first
    | (go_at_call 17
       refine (ks6 (unhide HN)).mono ?_
       rintro e W12 ⟨mb12, rfl, hn12, K12, _⟩
       skip
       replace HN := hide hn12
       clear hn12 K12
       refine Stp.go ?_))
  constructor
  go_wp2_with (
    first
    | (go_at_call 18
       refine (ks7 fc2 (unhide HC2) (unhide HN)).mono ?_
       rintro e W13 ⟨mb13, rfl, hn13, K13, _⟩
       skip
       replace HN := hide hn13
       clear hn13 K13
       refine Stp.go ?_))
  constructor
  go_wp2_with (
    first
    | (refine wpNew row39 zc (unhide HLZ) (unhide HZ39) 15 rfl rfl rfl (.tmp 68) rfl rfl rfl fc2 (unhide HL2) (unhide HO2) (by kernel_rfl) (by kernel_rfl) ?_
       intro W14 g15 e14 B14 K14
       skip
       have HB15 := hide B14
       replace HN := hide ((unhide HN).step0 K14)
       clear e14 B14 K14
       refine Stp.go ?_))
  constructor
  go_wp2_with (
    first
    | (go_at_call 17
       refine (ks8 (unhide HN)).mono ?_
       rintro e W15 ⟨mb15, rfl, hn15, K15, _⟩
       replace HB15 := hide ((unhide HB15).kept K15 ((unhide HN).far (unhide HB15) (by decide)))
       replace HN := hide hn15
       clear hn15 K15
       refine Stp.go ?_))
  constructor
  go_wp2_with (
    first
    | (go_at_call 21
       refine (ks9 (unhide HN)).mono ?_
       rintro e W16 ⟨mb16, rfl, hn16, K16, _⟩
       replace HB15 := hide ((unhide HB15).kept K16 ((unhide HN).far (unhide HB15) (by decide)))
       replace HN := hide hn16
       clear hn16 K16
       refine Stp.go ?_))
  constructor
  go_wp2_with (
    first
    | (go_at_call 17
       refine (ks10 (unhide HN)).mono ?_
       rintro e W17 ⟨mb17, rfl, hn17, K17, _⟩
       replace HB15 := hide ((unhide HB15).kept K17 ((unhide HN).far (unhide HB15) (by decide)))
       replace HN := hide hn17
       clear hn17 K17
       refine Stp.go ?_))
  constructor
  go_wp2_with (
    first
    | (go_at_call 21
       refine (ks11 (unhide HN)).mono ?_
       rintro e W18 ⟨mb18, rfl, hn18, K18, _⟩
       replace HB15 := hide ((unhide HB15).kept K18 ((unhide HN).far (unhide HB15) (by decide)))
       replace HN := hide hn18
       clear hn18 K18
       refine Stp.go ?_))
  constructor
  go_wp2_with (
    first
    | (go_at_call 17
       refine (ks12 (unhide HN)).mono ?_
       rintro e W19 ⟨mb19, rfl, hn19, K19, _⟩
       replace HB15 := hide ((unhide HB15).kept K19 ((unhide HN).far (unhide HB15) (by decide)))
       replace HN := hide hn19
       clear hn19 K19
       refine Stp.go ?_))
  constructor
  go_wp2_with (
    first
    | (go_at_call 22
       refine (ks13 fc1 (unhide HC1) (unhide HN)).mono ?_
       rintro e W20 ⟨mb20, rfl, hn20, K20, _⟩
       replace HB15 := hide ((unhide HB15).kept K20 ((unhide HN).far (unhide HB15) (by decide)))
       replace HN := hide hn20
       clear hn20 K20
       refine Stp.go ?_))
  constructor
  go_wp2_with (
    first
    | (refine wpNew row39 zc (unhide HLZ) (unhide HZ39) 25 rfl rfl rfl (.tmp 92) rfl rfl rfl fc1 (unhide HL1) (unhide HO1) (by kernel_rfl) (by kernel_rfl) ?_
       intro W21 g25 e21 B21 K21
       replace HB15 := hide ((unhide HB15).kept K21 (by simp))
       have HB25 := hide B21
       replace HN := hide ((unhide HN).step0 K21)
       clear e21 B21 K21
       refine Stp.go ?_))
  constructor
  go_wp2_with (
    first
    | (go_at_call 26
       refine (ks14 (unhide HN)).mono ?_
       rintro e W22 ⟨mb22, rfl, hn22, K22, _⟩
       replace HB15 := hide ((unhide HB15).kept K22 ((unhide HN).far (unhide HB15) (by decide)))
       replace HB25 := hide ((unhide HB25).kept K22 ((unhide HN).far (unhide HB25) (by decide)))
       replace HN := hide hn22
       clear hn22 K22
       refine Stp.go ?_))
  constructor
  go_wp2_with (
    first
    | (go_at_call 27
       refine (ks_room (unhide HN)).mono ?_
       rintro e W23 ⟨rfl, K23⟩
       replace HN := hide ((unhide HN).step0 K23)
       replace HB15 := hide ((unhide HB15).kept K23 (by simp))
       replace HB25 := hide ((unhide HB25).kept K23 (by simp))
       clear K23
       refine Stp.go ?_))
  constructor
  go_wp2_with (
    first
    | (go_at_call 20
       refine (unhide HF3 _).mono ?_
       rintro e W24 ⟨rfl, K24⟩
       replace HN := hide ((unhide HN).step0 K24)
       replace HB15 := hide ((unhide HB15).kept K24 (by simp))
       replace HB25 := hide ((unhide HB25).kept K24 (by simp))
       clear K24
       refine Stp.go ?_))
  constructor
  go_wp2_with (
    first
    | (go_at_call 19
       refine (ks15 fc3 (unhide HC3) (unhide HN)).mono ?_
       rintro e W25 ⟨mb25, rfl, hn25, K25, _⟩
       replace HB15 := hide ((unhide HB15).kept K25 ((unhide HN).far (unhide HB15) (by decide)))
       replace HB25 := hide ((unhide HB25).kept K25 ((unhide HN).far (unhide HB25) (by decide)))
       replace HN := hide hn25
       clear hn25 K25
       refine Stp.go ?_))
  constructor
  go_upto_region 17 with fail
  simp only [List.append_eq, List.cons_append, List.nil_append]
  refine wp_region_any mixed (wpAny_tq 93 rfl (by kernel_rfl) [some (.int .i64 2), some (.int .i64 2), some (.bool true), some (.bool true), some (.int .i64 0), some (.int .i64 0), some (.int .i64 0), some (.int .i64 0), some (.int .i64 (0 + 0)), some (.int .i64 0), some (.int .i64 0), some (.int .i64 (0 + 0 + 0)), some (.int .i64 0), some (.int .i64 0), some (.int .i64 (0 + 0 + 0 + 0)), some (.int .i64 0), some (.int .i64 0), some (.int .i64 (0 + 0 + 0 + 0 + 0)), some (.int .i64 0), some (.int .i64 0), some (.int .i64 (0 + 0 + 0 + 0 + 0 + 0)), some (.int .i64 0), some (.int .i64 0), some (.int .i64 (0 + 0 + 0 + 0 + 0 + 0 + 0)), some (.int .i64 0), some (.int .i64 0), some (.int .i64 (0 + 0 + 0 + 0 + 0 + 0 + 0 + 0)), some (.bool true), some (.bool true), some (.bool true), some (.int .i64 2), some (.int .i64 2), some (.bool true), some (.bool true), some (.bool true), some (.int .i64 5), some (.int .i64 5), some (.bool true), some (.bool true), some (.bool true), some (.int .i64 1), some (.bool true), some (.bool true), some (.bool true), some (.int .i64 2), some (.bool true), some (.bool true), some (.bool true), some (.int .i64 1), some (.bool true), some (.bool true), some (.bool true), some (aggV fc2), some (aggV fc2), some (.bool true), some (.bool true), some (.bool true), some (.int .i64 1), some (.bool true), some (.bool true), some (.bool true), some (.int .i64 2), some (.bool true), some (.bool true), some (.bool true), some (.bool false), some (.bool true), some (.bool true), some (.bool true), some (aggV fc1), some (aggV fc1), some (.bool true), some (.bool true), some (.bool true), some (.int .i64 6), some (.int .i64 6), some (.bool true), some (.bool true), some (.bool true), some (.int .i64 1), some (.bool true), some (.bool true), some (.bool true), some (P0 b), some (.int .i64 0), some (.bool true), some (.bool true), some (.bool true), some (P0 b), some (.int .i64 1), some (.bool true), some (.bool true), some (.bool true)] rfl (by kernel_rfl) (by kernel_rfl) ?_ ?_)
  · intro i o' hi hsk ho a' w2 hout hin hk2
    replace hk2 : Kept [] W25 w2 := ⟨hk2.os, hk2.tape, hk2.output, hk2.size, hk2.block⟩
    match i, ho, hsk with
    | 0, ho, hsk =>
      obtain rfl := Option.some.inj ho
      exact wp_move (.tmp 2) rfl _ ((hout 2 (by kernel_rfl)).trans rfl) ⟨_, rfl, tq_is _ _ _ _ rfl, Kept.refl _ _, fun _ _ _ _ _ => trivial⟩
    | 1, ho, hsk =>
      obtain rfl := Option.some.inj ho
      have e0 : a'.eval (.tmp 101) = .int .i64 2 := is_tq (hin 0 101 (by kernel_rfl) (by kernel_rfl)) rfl
      refine wp_callF 9 _ _ rfl #[.int .i64 2] (by simp [e0]) (cg9 _ _) ((num9 _ _).mono ?_)
      rintro e w3 ⟨rfl, rfl⟩
      exact ⟨_, rfl, _, rfl, tq_is _ _ _ _ rfl, Kept.refl _ _, fun _ _ _ _ _ => trivial⟩
    | 2, ho, hsk =>
      obtain rfl := Option.some.inj ho
      have e0 : a'.eval (.tmp 102) = .int .i64 2 := is_tq (hin 1 102 (by kernel_rfl) (by kernel_rfl)) rfl
      exact c_eql3 (.tmp 102) (.const (.int .i64 (2))) rfl _ _ (true) (by decide) e0 rfl ⟨_, rfl, tq_is _ _ _ _ rfl, Kept.refl _ _, fun _ _ _ _ _ => trivial⟩
    | 3, ho, hsk =>
      obtain rfl := Option.some.inj ho
      have e0 : a'.eval (.tmp 103) = .bool true := is_tq (hin 2 103 (by kernel_rfl) (by kernel_rfl)) rfl
      exact wp_move (.tmp 103) rfl _ e0 ⟨_, rfl, tq_is _ _ _ _ rfl, Kept.refl _ _, fun _ _ _ _ _ => trivial⟩
    | 4, ho, hsk =>
      obtain rfl := Option.some.inj ho
      exact wp_move (.tmp 4) rfl _ ((hout 4 (by kernel_rfl)).trans rfl) ⟨_, rfl, tq_is _ _ _ _ rfl, Kept.refl _ _, fun _ _ _ _ _ => trivial⟩
    | 5, ho, hsk =>
      obtain rfl := Option.some.inj ho
      have e0 : a'.eval (.tmp 105) = .int .i64 0 := is_tq (hin 4 105 (by kernel_rfl) (by kernel_rfl)) rfl
      refine wp_callF 9 _ _ rfl #[.int .i64 0] (by simp [e0]) (cg9 _ _) ((num9 _ _).mono ?_)
      rintro e w3 ⟨rfl, rfl⟩
      exact ⟨_, rfl, _, rfl, tq_is _ _ _ _ rfl, Kept.refl _ _, fun _ _ _ _ _ => trivial⟩
    | 6, ho, hsk =>
      obtain rfl := Option.some.inj ho
      exact wp_move (.tmp 6) rfl _ ((hout 6 (by kernel_rfl)).trans rfl) ⟨_, rfl, tq_is _ _ _ _ rfl, Kept.refl _ _, fun _ _ _ _ _ => trivial⟩
    | 7, ho, hsk =>
      obtain rfl := Option.some.inj ho
      have e0 : a'.eval (.tmp 107) = .int .i64 0 := is_tq (hin 6 107 (by kernel_rfl) (by kernel_rfl)) rfl
      refine wp_callF 9 _ _ rfl #[.int .i64 0] (by simp [e0]) (cg9 _ _) ((num9 _ _).mono ?_)
      rintro e w3 ⟨rfl, rfl⟩
      exact ⟨_, rfl, _, rfl, tq_is _ _ _ _ rfl, Kept.refl _ _, fun _ _ _ _ _ => trivial⟩
    | 8, ho, hsk =>
      obtain rfl := Option.some.inj ho
      have e0 : a'.eval (.tmp 106) = .int .i64 0 := is_tq (hin 5 106 (by kernel_rfl) (by kernel_rfl)) rfl
      have e1 : a'.eval (.tmp 108) = .int .i64 0 := is_tq (hin 7 108 (by kernel_rfl) (by kernel_rfl)) rfl
      exact c_add3 (.tmp 106) (.tmp 108) rfl _ _ (by decide) e0 e1 ⟨_, rfl, tq_is _ _ _ _ rfl, Kept.refl _ _, fun _ _ _ _ _ => trivial⟩
    | 9, ho, hsk =>
      obtain rfl := Option.some.inj ho
      exact wp_move (.tmp 7) rfl _ ((hout 7 (by kernel_rfl)).trans rfl) ⟨_, rfl, tq_is _ _ _ _ rfl, Kept.refl _ _, fun _ _ _ _ _ => trivial⟩
    | 10, ho, hsk =>
      obtain rfl := Option.some.inj ho
      have e0 : a'.eval (.tmp 110) = .int .i64 0 := is_tq (hin 9 110 (by kernel_rfl) (by kernel_rfl)) rfl
      refine wp_callF 9 _ _ rfl #[.int .i64 0] (by simp [e0]) (cg9 _ _) ((num9 _ _).mono ?_)
      rintro e w3 ⟨rfl, rfl⟩
      exact ⟨_, rfl, _, rfl, tq_is _ _ _ _ rfl, Kept.refl _ _, fun _ _ _ _ _ => trivial⟩
    | 11, ho, hsk =>
      obtain rfl := Option.some.inj ho
      have e0 : a'.eval (.tmp 109) = .int .i64 (0 + 0) := is_tq (hin 8 109 (by kernel_rfl) (by kernel_rfl)) rfl
      have e1 : a'.eval (.tmp 111) = .int .i64 0 := is_tq (hin 10 111 (by kernel_rfl) (by kernel_rfl)) rfl
      exact c_add3 (.tmp 109) (.tmp 111) rfl _ _ (by decide) e0 e1 ⟨_, rfl, tq_is _ _ _ _ rfl, Kept.refl _ _, fun _ _ _ _ _ => trivial⟩
    | 12, ho, hsk =>
      obtain rfl := Option.some.inj ho
      exact wp_move (.tmp 16) rfl _ ((hout 16 (by kernel_rfl)).trans rfl) ⟨_, rfl, tq_is _ _ _ _ rfl, Kept.refl _ _, fun _ _ _ _ _ => trivial⟩
    | 13, ho, hsk =>
      obtain rfl := Option.some.inj ho
      have e0 : a'.eval (.tmp 113) = .int .i64 0 := is_tq (hin 12 113 (by kernel_rfl) (by kernel_rfl)) rfl
      refine wp_callF 9 _ _ rfl #[.int .i64 0] (by simp [e0]) (cg9 _ _) ((num9 _ _).mono ?_)
      rintro e w3 ⟨rfl, rfl⟩
      exact ⟨_, rfl, _, rfl, tq_is _ _ _ _ rfl, Kept.refl _ _, fun _ _ _ _ _ => trivial⟩
    | 14, ho, hsk =>
      obtain rfl := Option.some.inj ho
      have e0 : a'.eval (.tmp 112) = .int .i64 (0 + 0 + 0) := is_tq (hin 11 112 (by kernel_rfl) (by kernel_rfl)) rfl
      have e1 : a'.eval (.tmp 114) = .int .i64 0 := is_tq (hin 13 114 (by kernel_rfl) (by kernel_rfl)) rfl
      exact c_add3 (.tmp 112) (.tmp 114) rfl _ _ (by decide) e0 e1 ⟨_, rfl, tq_is _ _ _ _ rfl, Kept.refl _ _, fun _ _ _ _ _ => trivial⟩
    | 15, ho, hsk =>
      obtain rfl := Option.some.inj ho
      exact wp_move (.tmp 19) rfl _ ((hout 19 (by kernel_rfl)).trans rfl) ⟨_, rfl, tq_is _ _ _ _ rfl, Kept.refl _ _, fun _ _ _ _ _ => trivial⟩
    | 16, ho, hsk =>
      obtain rfl := Option.some.inj ho
      have e0 : a'.eval (.tmp 116) = .int .i64 0 := is_tq (hin 15 116 (by kernel_rfl) (by kernel_rfl)) rfl
      refine wp_callF 9 _ _ rfl #[.int .i64 0] (by simp [e0]) (cg9 _ _) ((num9 _ _).mono ?_)
      rintro e w3 ⟨rfl, rfl⟩
      exact ⟨_, rfl, _, rfl, tq_is _ _ _ _ rfl, Kept.refl _ _, fun _ _ _ _ _ => trivial⟩
    | 17, ho, hsk =>
      obtain rfl := Option.some.inj ho
      have e0 : a'.eval (.tmp 115) = .int .i64 (0 + 0 + 0 + 0) := is_tq (hin 14 115 (by kernel_rfl) (by kernel_rfl)) rfl
      have e1 : a'.eval (.tmp 117) = .int .i64 0 := is_tq (hin 16 117 (by kernel_rfl) (by kernel_rfl)) rfl
      exact c_add3 (.tmp 115) (.tmp 117) rfl _ _ (by decide) e0 e1 ⟨_, rfl, tq_is _ _ _ _ rfl, Kept.refl _ _, fun _ _ _ _ _ => trivial⟩
    | 18, ho, hsk =>
      obtain rfl := Option.some.inj ho
      exact wp_move (.tmp 22) rfl _ ((hout 22 (by kernel_rfl)).trans rfl) ⟨_, rfl, tq_is _ _ _ _ rfl, Kept.refl _ _, fun _ _ _ _ _ => trivial⟩
    | 19, ho, hsk =>
      obtain rfl := Option.some.inj ho
      have e0 : a'.eval (.tmp 119) = .int .i64 0 := is_tq (hin 18 119 (by kernel_rfl) (by kernel_rfl)) rfl
      refine wp_callF 9 _ _ rfl #[.int .i64 0] (by simp [e0]) (cg9 _ _) ((num9 _ _).mono ?_)
      rintro e w3 ⟨rfl, rfl⟩
      exact ⟨_, rfl, _, rfl, tq_is _ _ _ _ rfl, Kept.refl _ _, fun _ _ _ _ _ => trivial⟩
    | 20, ho, hsk =>
      obtain rfl := Option.some.inj ho
      have e0 : a'.eval (.tmp 118) = .int .i64 (0 + 0 + 0 + 0 + 0) := is_tq (hin 17 118 (by kernel_rfl) (by kernel_rfl)) rfl
      have e1 : a'.eval (.tmp 120) = .int .i64 0 := is_tq (hin 19 120 (by kernel_rfl) (by kernel_rfl)) rfl
      exact c_add3 (.tmp 118) (.tmp 120) rfl _ _ (by decide) e0 e1 ⟨_, rfl, tq_is _ _ _ _ rfl, Kept.refl _ _, fun _ _ _ _ _ => trivial⟩
    | 21, ho, hsk =>
      obtain rfl := Option.some.inj ho
      exact wp_move (.tmp 26) rfl _ ((hout 26 (by kernel_rfl)).trans rfl) ⟨_, rfl, tq_is _ _ _ _ rfl, Kept.refl _ _, fun _ _ _ _ _ => trivial⟩
    | 22, ho, hsk =>
      obtain rfl := Option.some.inj ho
      have e0 : a'.eval (.tmp 122) = .int .i64 0 := is_tq (hin 21 122 (by kernel_rfl) (by kernel_rfl)) rfl
      refine wp_callF 9 _ _ rfl #[.int .i64 0] (by simp [e0]) (cg9 _ _) ((num9 _ _).mono ?_)
      rintro e w3 ⟨rfl, rfl⟩
      exact ⟨_, rfl, _, rfl, tq_is _ _ _ _ rfl, Kept.refl _ _, fun _ _ _ _ _ => trivial⟩
    | 23, ho, hsk =>
      obtain rfl := Option.some.inj ho
      have e0 : a'.eval (.tmp 121) = .int .i64 (0 + 0 + 0 + 0 + 0 + 0) := is_tq (hin 20 121 (by kernel_rfl) (by kernel_rfl)) rfl
      have e1 : a'.eval (.tmp 123) = .int .i64 0 := is_tq (hin 22 123 (by kernel_rfl) (by kernel_rfl)) rfl
      exact c_add3 (.tmp 121) (.tmp 123) rfl _ _ (by decide) e0 e1 ⟨_, rfl, tq_is _ _ _ _ rfl, Kept.refl _ _, fun _ _ _ _ _ => trivial⟩
    | 24, ho, hsk =>
      obtain rfl := Option.some.inj ho
      exact wp_move (.tmp 29) rfl _ ((hout 29 (by kernel_rfl)).trans rfl) ⟨_, rfl, tq_is _ _ _ _ rfl, Kept.refl _ _, fun _ _ _ _ _ => trivial⟩
    | 25, ho, hsk =>
      obtain rfl := Option.some.inj ho
      have e0 : a'.eval (.tmp 125) = .int .i64 0 := is_tq (hin 24 125 (by kernel_rfl) (by kernel_rfl)) rfl
      refine wp_callF 9 _ _ rfl #[.int .i64 0] (by simp [e0]) (cg9 _ _) ((num9 _ _).mono ?_)
      rintro e w3 ⟨rfl, rfl⟩
      exact ⟨_, rfl, _, rfl, tq_is _ _ _ _ rfl, Kept.refl _ _, fun _ _ _ _ _ => trivial⟩
    | 26, ho, hsk =>
      obtain rfl := Option.some.inj ho
      have e0 : a'.eval (.tmp 124) = .int .i64 (0 + 0 + 0 + 0 + 0 + 0 + 0) := is_tq (hin 23 124 (by kernel_rfl) (by kernel_rfl)) rfl
      have e1 : a'.eval (.tmp 126) = .int .i64 0 := is_tq (hin 25 126 (by kernel_rfl) (by kernel_rfl)) rfl
      exact c_add3 (.tmp 124) (.tmp 126) rfl _ _ (by decide) e0 e1 ⟨_, rfl, tq_is _ _ _ _ rfl, Kept.refl _ _, fun _ _ _ _ _ => trivial⟩
    | 27, ho, hsk =>
      obtain rfl := Option.some.inj ho
      have e0 : a'.eval (.tmp 127) = .int .i64 (0 + 0 + 0 + 0 + 0 + 0 + 0 + 0) := is_tq (hin 26 127 (by kernel_rfl) (by kernel_rfl)) rfl
      exact c_eql3 (.tmp 127) (.const (.int .i64 (0))) rfl _ _ (true) (by decide) e0 rfl ⟨_, rfl, tq_is _ _ _ _ rfl, Kept.refl _ _, fun _ _ _ _ _ => trivial⟩
    | 28, ho, hsk =>
      obtain rfl := Option.some.inj ho
      have e0 : a'.eval (.tmp 104) = .bool true := is_tq (hin 3 104 (by kernel_rfl) (by kernel_rfl)) rfl
      have e1 : a'.eval (.tmp 128) = .bool true := is_tq (hin 27 128 (by kernel_rfl) (by kernel_rfl)) rfl
      exact o_pick (.tmp 104) (.tmp 128) rfl _ e0 e1 ⟨_, rfl, tq_is _ _ _ _ rfl, Kept.refl _ _, fun _ _ _ _ _ => trivial⟩
    | 29, ho, hsk =>
      obtain rfl := Option.some.inj ho
      have e0 : a'.eval (.tmp 129) = .bool true := is_tq (hin 28 129 (by kernel_rfl) (by kernel_rfl)) rfl
      exact wp_move (.tmp 129) rfl _ e0 ⟨_, rfl, tq_is _ _ _ _ rfl, Kept.refl _ _, fun _ _ _ _ _ => trivial⟩
    | 30, ho, hsk =>
      obtain rfl := Option.some.inj ho
      exact wp_move (.tmp 5) rfl _ ((hout 5 (by kernel_rfl)).trans rfl) ⟨_, rfl, tq_is _ _ _ _ rfl, Kept.refl _ _, fun _ _ _ _ _ => trivial⟩
    | 31, ho, hsk =>
      obtain rfl := Option.some.inj ho
      have e0 : a'.eval (.tmp 131) = .int .i64 2 := is_tq (hin 30 131 (by kernel_rfl) (by kernel_rfl)) rfl
      refine wp_callF 9 _ _ rfl #[.int .i64 2] (by simp [e0]) (cg9 _ _) ((num9 _ _).mono ?_)
      rintro e w3 ⟨rfl, rfl⟩
      exact ⟨_, rfl, _, rfl, tq_is _ _ _ _ rfl, Kept.refl _ _, fun _ _ _ _ _ => trivial⟩
    | 32, ho, hsk =>
      obtain rfl := Option.some.inj ho
      have e0 : a'.eval (.tmp 132) = .int .i64 2 := is_tq (hin 31 132 (by kernel_rfl) (by kernel_rfl)) rfl
      exact c_eql3 (.tmp 132) (.const (.int .i64 (2))) rfl _ _ (true) (by decide) e0 rfl ⟨_, rfl, tq_is _ _ _ _ rfl, Kept.refl _ _, fun _ _ _ _ _ => trivial⟩
    | 33, ho, hsk =>
      obtain rfl := Option.some.inj ho
      have e0 : a'.eval (.tmp 130) = .bool true := is_tq (hin 29 130 (by kernel_rfl) (by kernel_rfl)) rfl
      have e1 : a'.eval (.tmp 133) = .bool true := is_tq (hin 32 133 (by kernel_rfl) (by kernel_rfl)) rfl
      exact o_pick (.tmp 130) (.tmp 133) rfl _ e0 e1 ⟨_, rfl, tq_is _ _ _ _ rfl, Kept.refl _ _, fun _ _ _ _ _ => trivial⟩
    | 34, ho, hsk =>
      obtain rfl := Option.some.inj ho
      have e0 : a'.eval (.tmp 134) = .bool true := is_tq (hin 33 134 (by kernel_rfl) (by kernel_rfl)) rfl
      exact wp_move (.tmp 134) rfl _ e0 ⟨_, rfl, tq_is _ _ _ _ rfl, Kept.refl _ _, fun _ _ _ _ _ => trivial⟩
    | 35, ho, hsk =>
      obtain rfl := Option.some.inj ho
      exact wp_move (.tmp 8) rfl _ ((hout 8 (by kernel_rfl)).trans rfl) ⟨_, rfl, tq_is _ _ _ _ rfl, Kept.refl _ _, fun _ _ _ _ _ => trivial⟩
    | 36, ho, hsk =>
      obtain rfl := Option.some.inj ho
      have e0 : a'.eval (.tmp 136) = .int .i64 5 := is_tq (hin 35 136 (by kernel_rfl) (by kernel_rfl)) rfl
      refine wp_callF 9 _ _ rfl #[.int .i64 5] (by simp [e0]) (cg9 _ _) ((num9 _ _).mono ?_)
      rintro e w3 ⟨rfl, rfl⟩
      exact ⟨_, rfl, _, rfl, tq_is _ _ _ _ rfl, Kept.refl _ _, fun _ _ _ _ _ => trivial⟩
    | 37, ho, hsk =>
      obtain rfl := Option.some.inj ho
      have e0 : a'.eval (.tmp 137) = .int .i64 5 := is_tq (hin 36 137 (by kernel_rfl) (by kernel_rfl)) rfl
      exact c_eql3 (.tmp 137) (.const (.int .i64 (5))) rfl _ _ (true) (by decide) e0 rfl ⟨_, rfl, tq_is _ _ _ _ rfl, Kept.refl _ _, fun _ _ _ _ _ => trivial⟩
    | 38, ho, hsk =>
      obtain rfl := Option.some.inj ho
      have e0 : a'.eval (.tmp 135) = .bool true := is_tq (hin 34 135 (by kernel_rfl) (by kernel_rfl)) rfl
      have e1 : a'.eval (.tmp 138) = .bool true := is_tq (hin 37 138 (by kernel_rfl) (by kernel_rfl)) rfl
      exact o_pick (.tmp 135) (.tmp 138) rfl _ e0 e1 ⟨_, rfl, tq_is _ _ _ _ rfl, Kept.refl _ _, fun _ _ _ _ _ => trivial⟩
    | 39, ho, hsk =>
      obtain rfl := Option.some.inj ho
      have e0 : a'.eval (.tmp 139) = .bool true := is_tq (hin 38 139 (by kernel_rfl) (by kernel_rfl)) rfl
      exact wp_move (.tmp 139) rfl _ e0 ⟨_, rfl, tq_is _ _ _ _ rfl, Kept.refl _ _, fun _ _ _ _ _ => trivial⟩
    | 40, ho, hsk =>
      obtain rfl := Option.some.inj ho
      exact wp_move (.tmp 9) rfl _ ((hout 9 (by kernel_rfl)).trans rfl) ⟨_, rfl, tq_is _ _ _ _ rfl, Kept.refl _ _, fun _ _ _ _ _ => trivial⟩
    | 41, ho, hsk =>
      obtain rfl := Option.some.inj ho
      have e0 : a'.eval (.tmp 141) = .int .i64 1 := is_tq (hin 40 141 (by kernel_rfl) (by kernel_rfl)) rfl
      exact c_eql3 (.tmp 141) (.const (.int .i64 (1))) rfl _ _ (true) (by decide) e0 rfl ⟨_, rfl, tq_is _ _ _ _ rfl, Kept.refl _ _, fun _ _ _ _ _ => trivial⟩
    | 42, ho, hsk =>
      obtain rfl := Option.some.inj ho
      have e0 : a'.eval (.tmp 140) = .bool true := is_tq (hin 39 140 (by kernel_rfl) (by kernel_rfl)) rfl
      have e1 : a'.eval (.tmp 142) = .bool true := is_tq (hin 41 142 (by kernel_rfl) (by kernel_rfl)) rfl
      exact o_pick (.tmp 140) (.tmp 142) rfl _ e0 e1 ⟨_, rfl, tq_is _ _ _ _ rfl, Kept.refl _ _, fun _ _ _ _ _ => trivial⟩
    | 43, ho, hsk =>
      obtain rfl := Option.some.inj ho
      have e0 : a'.eval (.tmp 143) = .bool true := is_tq (hin 42 143 (by kernel_rfl) (by kernel_rfl)) rfl
      exact wp_move (.tmp 143) rfl _ e0 ⟨_, rfl, tq_is _ _ _ _ rfl, Kept.refl _ _, fun _ _ _ _ _ => trivial⟩
    | 44, ho, hsk =>
      obtain rfl := Option.some.inj ho
      exact wp_move (.tmp 11) rfl _ ((hout 11 (by kernel_rfl)).trans rfl) ⟨_, rfl, tq_is _ _ _ _ rfl, Kept.refl _ _, fun _ _ _ _ _ => trivial⟩
    | 45, ho, hsk =>
      obtain rfl := Option.some.inj ho
      have e0 : a'.eval (.tmp 145) = .int .i64 2 := is_tq (hin 44 145 (by kernel_rfl) (by kernel_rfl)) rfl
      exact c_eql3 (.tmp 145) (.const (.int .i64 (2))) rfl _ _ (true) (by decide) e0 rfl ⟨_, rfl, tq_is _ _ _ _ rfl, Kept.refl _ _, fun _ _ _ _ _ => trivial⟩
    | 46, ho, hsk =>
      obtain rfl := Option.some.inj ho
      have e0 : a'.eval (.tmp 144) = .bool true := is_tq (hin 43 144 (by kernel_rfl) (by kernel_rfl)) rfl
      have e1 : a'.eval (.tmp 146) = .bool true := is_tq (hin 45 146 (by kernel_rfl) (by kernel_rfl)) rfl
      exact o_pick (.tmp 144) (.tmp 146) rfl _ e0 e1 ⟨_, rfl, tq_is _ _ _ _ rfl, Kept.refl _ _, fun _ _ _ _ _ => trivial⟩
    | 47, ho, hsk =>
      obtain rfl := Option.some.inj ho
      have e0 : a'.eval (.tmp 147) = .bool true := is_tq (hin 46 147 (by kernel_rfl) (by kernel_rfl)) rfl
      exact wp_move (.tmp 147) rfl _ e0 ⟨_, rfl, tq_is _ _ _ _ rfl, Kept.refl _ _, fun _ _ _ _ _ => trivial⟩
    | 48, ho, hsk =>
      obtain rfl := Option.some.inj ho
      exact wp_move (.tmp 13) rfl _ ((hout 13 (by kernel_rfl)).trans rfl) ⟨_, rfl, tq_is _ _ _ _ rfl, Kept.refl _ _, fun _ _ _ _ _ => trivial⟩
    | 49, ho, hsk =>
      obtain rfl := Option.some.inj ho
      have e0 : a'.eval (.tmp 149) = .int .i64 1 := is_tq (hin 48 149 (by kernel_rfl) (by kernel_rfl)) rfl
      exact c_eql3 (.tmp 149) (.const (.int .i64 (1))) rfl _ _ (true) (by decide) e0 rfl ⟨_, rfl, tq_is _ _ _ _ rfl, Kept.refl _ _, fun _ _ _ _ _ => trivial⟩
    | 50, ho, hsk =>
      obtain rfl := Option.some.inj ho
      have e0 : a'.eval (.tmp 148) = .bool true := is_tq (hin 47 148 (by kernel_rfl) (by kernel_rfl)) rfl
      have e1 : a'.eval (.tmp 150) = .bool true := is_tq (hin 49 150 (by kernel_rfl) (by kernel_rfl)) rfl
      exact o_pick (.tmp 148) (.tmp 150) rfl _ e0 e1 ⟨_, rfl, tq_is _ _ _ _ rfl, Kept.refl _ _, fun _ _ _ _ _ => trivial⟩
    | 51, ho, hsk =>
      obtain rfl := Option.some.inj ho
      have e0 : a'.eval (.tmp 151) = .bool true := is_tq (hin 50 151 (by kernel_rfl) (by kernel_rfl)) rfl
      exact wp_move (.tmp 151) rfl _ e0 ⟨_, rfl, tq_is _ _ _ _ rfl, Kept.refl _ _, fun _ _ _ _ _ => trivial⟩
    | 52, ho, hsk =>
      obtain rfl := Option.some.inj ho
      exact wp_loadA row39 (.tmp 15) rfl g15 (0) ((hout 15 (by kernel_rfl)).trans rfl) (fc2) (unhide HL2) (((unhide HB15).kept hk2 (by simp)).range) ⟨_, rfl, tq_is _ _ _ _ rfl, Kept.refl _ _, fun _ _ _ _ _ => trivial⟩
    | 53, ho, hsk =>
      obtain rfl := Option.some.inj ho
      refine wp_callF 20 _ _ rfl #[.int .i64 2] (by simp; rfl) (cg20 _ _) ((unhide HF2 _).mono ?_)
      rintro e w3 ⟨rfl, hk3⟩
      exact ⟨_, rfl, _, rfl, tq_is _ _ _ _ rfl, hk3, fun _ _ _ _ _ => trivial⟩
    | 54, ho, hsk =>
      obtain rfl := Option.some.inj ho
      have e0 : a'.eval (.tmp 153) = aggV fc2 := is_tq (hin 52 153 (by kernel_rfl) (by kernel_rfl)) rfl
      have e1 : a'.eval (.tmp 154) = aggV fc2 := is_tq (hin 53 154 (by kernel_rfl) (by kernel_rfl)) rfl
      exact o_eqlA 39 39 guard39 (.tmp 153) (.tmp 154) rfl (fc2) (fc2) e0 e1 (true) (unhide HE2 _) ⟨_, rfl, tq_is _ _ _ _ rfl, Kept.refl _ _, fun _ _ _ _ _ => trivial⟩
    | 55, ho, hsk =>
      obtain rfl := Option.some.inj ho
      have e0 : a'.eval (.tmp 152) = .bool true := is_tq (hin 51 152 (by kernel_rfl) (by kernel_rfl)) rfl
      have e1 : a'.eval (.tmp 155) = .bool true := is_tq (hin 54 155 (by kernel_rfl) (by kernel_rfl)) rfl
      exact o_pick (.tmp 152) (.tmp 155) rfl _ e0 e1 ⟨_, rfl, tq_is _ _ _ _ rfl, Kept.refl _ _, fun _ _ _ _ _ => trivial⟩
    | 56, ho, hsk =>
      obtain rfl := Option.some.inj ho
      have e0 : a'.eval (.tmp 156) = .bool true := is_tq (hin 55 156 (by kernel_rfl) (by kernel_rfl)) rfl
      exact wp_move (.tmp 156) rfl _ e0 ⟨_, rfl, tq_is _ _ _ _ rfl, Kept.refl _ _, fun _ _ _ _ _ => trivial⟩
    | 57, ho, hsk =>
      obtain rfl := Option.some.inj ho
      exact wp_move (.tmp 17) rfl _ ((hout 17 (by kernel_rfl)).trans rfl) ⟨_, rfl, tq_is _ _ _ _ rfl, Kept.refl _ _, fun _ _ _ _ _ => trivial⟩
    | 58, ho, hsk =>
      obtain rfl := Option.some.inj ho
      have e0 : a'.eval (.tmp 158) = .int .i64 1 := is_tq (hin 57 158 (by kernel_rfl) (by kernel_rfl)) rfl
      exact c_eql3 (.tmp 158) (.const (.int .i64 (1))) rfl _ _ (true) (by decide) e0 rfl ⟨_, rfl, tq_is _ _ _ _ rfl, Kept.refl _ _, fun _ _ _ _ _ => trivial⟩
    | 59, ho, hsk =>
      obtain rfl := Option.some.inj ho
      have e0 : a'.eval (.tmp 157) = .bool true := is_tq (hin 56 157 (by kernel_rfl) (by kernel_rfl)) rfl
      have e1 : a'.eval (.tmp 159) = .bool true := is_tq (hin 58 159 (by kernel_rfl) (by kernel_rfl)) rfl
      exact o_pick (.tmp 157) (.tmp 159) rfl _ e0 e1 ⟨_, rfl, tq_is _ _ _ _ rfl, Kept.refl _ _, fun _ _ _ _ _ => trivial⟩
    | 60, ho, hsk =>
      obtain rfl := Option.some.inj ho
      have e0 : a'.eval (.tmp 160) = .bool true := is_tq (hin 59 160 (by kernel_rfl) (by kernel_rfl)) rfl
      exact wp_move (.tmp 160) rfl _ e0 ⟨_, rfl, tq_is _ _ _ _ rfl, Kept.refl _ _, fun _ _ _ _ _ => trivial⟩
    | 61, ho, hsk =>
      obtain rfl := Option.some.inj ho
      exact wp_move (.tmp 20) rfl _ ((hout 20 (by kernel_rfl)).trans rfl) ⟨_, rfl, tq_is _ _ _ _ rfl, Kept.refl _ _, fun _ _ _ _ _ => trivial⟩
    | 62, ho, hsk =>
      obtain rfl := Option.some.inj ho
      have e0 : a'.eval (.tmp 162) = .int .i64 2 := is_tq (hin 61 162 (by kernel_rfl) (by kernel_rfl)) rfl
      exact c_eql3 (.tmp 162) (.const (.int .i64 (2))) rfl _ _ (true) (by decide) e0 rfl ⟨_, rfl, tq_is _ _ _ _ rfl, Kept.refl _ _, fun _ _ _ _ _ => trivial⟩
    | 63, ho, hsk =>
      obtain rfl := Option.some.inj ho
      have e0 : a'.eval (.tmp 161) = .bool true := is_tq (hin 60 161 (by kernel_rfl) (by kernel_rfl)) rfl
      have e1 : a'.eval (.tmp 163) = .bool true := is_tq (hin 62 163 (by kernel_rfl) (by kernel_rfl)) rfl
      exact o_pick (.tmp 161) (.tmp 163) rfl _ e0 e1 ⟨_, rfl, tq_is _ _ _ _ rfl, Kept.refl _ _, fun _ _ _ _ _ => trivial⟩
    | 64, ho, hsk =>
      obtain rfl := Option.some.inj ho
      have e0 : a'.eval (.tmp 164) = .bool true := is_tq (hin 63 164 (by kernel_rfl) (by kernel_rfl)) rfl
      exact wp_move (.tmp 164) rfl _ e0 ⟨_, rfl, tq_is _ _ _ _ rfl, Kept.refl _ _, fun _ _ _ _ _ => trivial⟩
    | 65, ho, hsk =>
      obtain rfl := Option.some.inj ho
      exact wp_move (.tmp 24) rfl _ ((hout 24 (by kernel_rfl)).trans rfl) ⟨_, rfl, tq_is _ _ _ _ rfl, Kept.refl _ _, fun _ _ _ _ _ => trivial⟩
    | 66, ho, hsk =>
      obtain rfl := Option.some.inj ho
      have e0 : a'.eval (.tmp 166) = .bool false := is_tq (hin 65 166 (by kernel_rfl) (by kernel_rfl)) rfl
      exact o_not (.tmp 166) rfl (false) e0 ⟨_, rfl, tq_is _ _ _ _ rfl, Kept.refl _ _, fun _ _ _ _ _ => trivial⟩
    | 67, ho, hsk =>
      obtain rfl := Option.some.inj ho
      have e0 : a'.eval (.tmp 165) = .bool true := is_tq (hin 64 165 (by kernel_rfl) (by kernel_rfl)) rfl
      have e1 : a'.eval (.tmp 167) = .bool true := is_tq (hin 66 167 (by kernel_rfl) (by kernel_rfl)) rfl
      exact o_pick (.tmp 165) (.tmp 167) rfl _ e0 e1 ⟨_, rfl, tq_is _ _ _ _ rfl, Kept.refl _ _, fun _ _ _ _ _ => trivial⟩
    | 68, ho, hsk =>
      obtain rfl := Option.some.inj ho
      have e0 : a'.eval (.tmp 168) = .bool true := is_tq (hin 67 168 (by kernel_rfl) (by kernel_rfl)) rfl
      exact wp_move (.tmp 168) rfl _ e0 ⟨_, rfl, tq_is _ _ _ _ rfl, Kept.refl _ _, fun _ _ _ _ _ => trivial⟩
    | 69, ho, hsk =>
      obtain rfl := Option.some.inj ho
      exact wp_loadA row39 (.tmp 25) rfl g25 (0) ((hout 25 (by kernel_rfl)).trans rfl) (fc1) (unhide HL1) (((unhide HB25).kept hk2 (by simp)).range) ⟨_, rfl, tq_is _ _ _ _ rfl, Kept.refl _ _, fun _ _ _ _ _ => trivial⟩
    | 70, ho, hsk =>
      obtain rfl := Option.some.inj ho
      refine wp_callF 20 _ _ rfl #[.int .i64 1] (by simp; rfl) (cg20 _ _) ((unhide HF1 _).mono ?_)
      rintro e w3 ⟨rfl, hk3⟩
      exact ⟨_, rfl, _, rfl, tq_is _ _ _ _ rfl, hk3, fun _ _ _ _ _ => trivial⟩
    | 71, ho, hsk =>
      obtain rfl := Option.some.inj ho
      have e0 : a'.eval (.tmp 170) = aggV fc1 := is_tq (hin 69 170 (by kernel_rfl) (by kernel_rfl)) rfl
      have e1 : a'.eval (.tmp 171) = aggV fc1 := is_tq (hin 70 171 (by kernel_rfl) (by kernel_rfl)) rfl
      exact o_eqlA 39 39 guard39 (.tmp 170) (.tmp 171) rfl (fc1) (fc1) e0 e1 (true) (unhide HE1 _) ⟨_, rfl, tq_is _ _ _ _ rfl, Kept.refl _ _, fun _ _ _ _ _ => trivial⟩
    | 72, ho, hsk =>
      obtain rfl := Option.some.inj ho
      have e0 : a'.eval (.tmp 169) = .bool true := is_tq (hin 68 169 (by kernel_rfl) (by kernel_rfl)) rfl
      have e1 : a'.eval (.tmp 172) = .bool true := is_tq (hin 71 172 (by kernel_rfl) (by kernel_rfl)) rfl
      exact o_pick (.tmp 169) (.tmp 172) rfl _ e0 e1 ⟨_, rfl, tq_is _ _ _ _ rfl, Kept.refl _ _, fun _ _ _ _ _ => trivial⟩
    | 73, ho, hsk =>
      obtain rfl := Option.some.inj ho
      have e0 : a'.eval (.tmp 173) = .bool true := is_tq (hin 72 173 (by kernel_rfl) (by kernel_rfl)) rfl
      exact wp_move (.tmp 173) rfl _ e0 ⟨_, rfl, tq_is _ _ _ _ rfl, Kept.refl _ _, fun _ _ _ _ _ => trivial⟩
    | 74, ho, hsk =>
      obtain rfl := Option.some.inj ho
      exact wp_move (.tmp 27) rfl _ ((hout 27 (by kernel_rfl)).trans rfl) ⟨_, rfl, tq_is _ _ _ _ rfl, Kept.refl _ _, fun _ _ _ _ _ => trivial⟩
    | 75, ho, hsk =>
      obtain rfl := Option.some.inj ho
      have e0 : a'.eval (.tmp 175) = .int .i64 6 := is_tq (hin 74 175 (by kernel_rfl) (by kernel_rfl)) rfl
      refine wp_callF 9 _ _ rfl #[.int .i64 6] (by simp [e0]) (cg9 _ _) ((num9 _ _).mono ?_)
      rintro e w3 ⟨rfl, rfl⟩
      exact ⟨_, rfl, _, rfl, tq_is _ _ _ _ rfl, Kept.refl _ _, fun _ _ _ _ _ => trivial⟩
    | 76, ho, hsk =>
      obtain rfl := Option.some.inj ho
      have e0 : a'.eval (.tmp 176) = .int .i64 6 := is_tq (hin 75 176 (by kernel_rfl) (by kernel_rfl)) rfl
      exact c_eql3 (.tmp 176) (.const (.int .i64 (6))) rfl _ _ (true) (by decide) e0 rfl ⟨_, rfl, tq_is _ _ _ _ rfl, Kept.refl _ _, fun _ _ _ _ _ => trivial⟩
    | 77, ho, hsk =>
      obtain rfl := Option.some.inj ho
      have e0 : a'.eval (.tmp 174) = .bool true := is_tq (hin 73 174 (by kernel_rfl) (by kernel_rfl)) rfl
      have e1 : a'.eval (.tmp 177) = .bool true := is_tq (hin 76 177 (by kernel_rfl) (by kernel_rfl)) rfl
      exact o_pick (.tmp 174) (.tmp 177) rfl _ e0 e1 ⟨_, rfl, tq_is _ _ _ _ rfl, Kept.refl _ _, fun _ _ _ _ _ => trivial⟩
    | 78, ho, hsk =>
      obtain rfl := Option.some.inj ho
      have e0 : a'.eval (.tmp 178) = .bool true := is_tq (hin 77 178 (by kernel_rfl) (by kernel_rfl)) rfl
      exact wp_move (.tmp 178) rfl _ e0 ⟨_, rfl, tq_is _ _ _ _ rfl, Kept.refl _ _, fun _ _ _ _ _ => trivial⟩
    | 79, ho, hsk =>
      obtain rfl := Option.some.inj ho
      exact wp_move (.tmp 28) rfl _ ((hout 28 (by kernel_rfl)).trans rfl) ⟨_, rfl, tq_is _ _ _ _ rfl, Kept.refl _ _, fun _ _ _ _ _ => trivial⟩
    | 80, ho, hsk =>
      obtain rfl := Option.some.inj ho
      have e0 : a'.eval (.tmp 180) = .int .i64 1 := is_tq (hin 79 180 (by kernel_rfl) (by kernel_rfl)) rfl
      exact c_eql3 (.tmp 180) (.const (.int .i64 (1))) rfl _ _ (true) (by decide) e0 rfl ⟨_, rfl, tq_is _ _ _ _ rfl, Kept.refl _ _, fun _ _ _ _ _ => trivial⟩
    | 81, ho, hsk =>
      obtain rfl := Option.some.inj ho
      have e0 : a'.eval (.tmp 179) = .bool true := is_tq (hin 78 179 (by kernel_rfl) (by kernel_rfl)) rfl
      have e1 : a'.eval (.tmp 181) = .bool true := is_tq (hin 80 181 (by kernel_rfl) (by kernel_rfl)) rfl
      exact o_pick (.tmp 179) (.tmp 181) rfl _ e0 e1 ⟨_, rfl, tq_is _ _ _ _ rfl, Kept.refl _ _, fun _ _ _ _ _ => trivial⟩
    | 82, ho, hsk =>
      obtain rfl := Option.some.inj ho
      have e0 : a'.eval (.tmp 182) = .bool true := is_tq (hin 81 182 (by kernel_rfl) (by kernel_rfl)) rfl
      exact wp_move (.tmp 182) rfl _ e0 ⟨_, rfl, tq_is _ _ _ _ rfl, Kept.refl _ _, fun _ _ _ _ _ => trivial⟩
    | 83, ho, hsk =>
      obtain rfl := Option.some.inj ho
      exact wp_move (.tmp 3) rfl _ ((hout 3 (by kernel_rfl)).trans rfl) ⟨_, rfl, tq_is _ _ _ _ rfl, Kept.refl _ _, fun _ _ _ _ _ => trivial⟩
    | 84, ho, hsk =>
      obtain rfl := Option.some.inj ho
      have e0 : a'.eval (.tmp 184) = P0 b := is_tq (hin 83 184 (by kernel_rfl) (by kernel_rfl)) rfl
      refine wp_callF 16 _ _ rfl #[P0 b, .int .i64 3] (by simp [e0]; rfl) (cg16 _ _) ((ks_pins3 ((unhide HN).step0 hk2) 3 0 (by kernel_rfl) 0 rfl).mono ?_)
      rintro e w3 ⟨rfl, hk3⟩
      exact ⟨_, rfl, _, rfl, tq_is _ _ _ _ rfl, hk3, fun _ _ _ _ _ => trivial⟩
    | 85, ho, hsk =>
      obtain rfl := Option.some.inj ho
      have e0 : a'.eval (.tmp 185) = .int .i64 0 := is_tq (hin 84 185 (by kernel_rfl) (by kernel_rfl)) rfl
      exact c_eql3 (.tmp 185) (.const (.int .i64 (0))) rfl _ _ (true) (by decide) e0 rfl ⟨_, rfl, tq_is _ _ _ _ rfl, Kept.refl _ _, fun _ _ _ _ _ => trivial⟩
    | 86, ho, hsk =>
      obtain rfl := Option.some.inj ho
      have e0 : a'.eval (.tmp 183) = .bool true := is_tq (hin 82 183 (by kernel_rfl) (by kernel_rfl)) rfl
      have e1 : a'.eval (.tmp 186) = .bool true := is_tq (hin 85 186 (by kernel_rfl) (by kernel_rfl)) rfl
      exact o_pick (.tmp 183) (.tmp 186) rfl _ e0 e1 ⟨_, rfl, tq_is _ _ _ _ rfl, Kept.refl _ _, fun _ _ _ _ _ => trivial⟩
    | 87, ho, hsk =>
      obtain rfl := Option.some.inj ho
      have e0 : a'.eval (.tmp 187) = .bool true := is_tq (hin 86 187 (by kernel_rfl) (by kernel_rfl)) rfl
      exact wp_move (.tmp 187) rfl _ e0 ⟨_, rfl, tq_is _ _ _ _ rfl, Kept.refl _ _, fun _ _ _ _ _ => trivial⟩
    | 88, ho, hsk =>
      obtain rfl := Option.some.inj ho
      exact wp_move (.tmp 3) rfl _ ((hout 3 (by kernel_rfl)).trans rfl) ⟨_, rfl, tq_is _ _ _ _ rfl, Kept.refl _ _, fun _ _ _ _ _ => trivial⟩
    | 89, ho, hsk =>
      obtain rfl := Option.some.inj ho
      have e0 : a'.eval (.tmp 189) = P0 b := is_tq (hin 88 189 (by kernel_rfl) (by kernel_rfl)) rfl
      refine wp_callF 16 _ _ rfl #[P0 b, .int .i64 2] (by simp [e0]; rfl) (cg16 _ _) ((ks_pins3 ((unhide HN).step0 hk2) 2 1 (by kernel_rfl) 1 rfl).mono ?_)
      rintro e w3 ⟨rfl, hk3⟩
      exact ⟨_, rfl, _, rfl, tq_is _ _ _ _ rfl, hk3, fun _ _ _ _ _ => trivial⟩
    | 90, ho, hsk =>
      obtain rfl := Option.some.inj ho
      have e0 : a'.eval (.tmp 190) = .int .i64 1 := is_tq (hin 89 190 (by kernel_rfl) (by kernel_rfl)) rfl
      exact c_eql3 (.tmp 190) (.const (.int .i64 (1))) rfl _ _ (true) (by decide) e0 rfl ⟨_, rfl, tq_is _ _ _ _ rfl, Kept.refl _ _, fun _ _ _ _ _ => trivial⟩
    | 91, ho, hsk =>
      obtain rfl := Option.some.inj ho
      have e0 : a'.eval (.tmp 188) = .bool true := is_tq (hin 87 188 (by kernel_rfl) (by kernel_rfl)) rfl
      have e1 : a'.eval (.tmp 191) = .bool true := is_tq (hin 90 191 (by kernel_rfl) (by kernel_rfl)) rfl
      exact o_pick (.tmp 188) (.tmp 191) rfl _ e0 e1 ⟨_, rfl, tq_is _ _ _ _ rfl, Kept.refl _ _, fun _ _ _ _ _ => trivial⟩
    | 92, ho, hsk =>
      obtain rfl := Option.some.inj ho
      have e0 : a'.eval (.tmp 192) = .bool true := is_tq (hin 91 192 (by kernel_rfl) (by kernel_rfl)) rfl
      exact wp_assignV (.tmp 192) rfl _ e0 ⟨_, rfl, tq_is _ _ _ _ rfl, Kept.refl _ _, fun _ _ _ _ _ => trivial⟩
  intro w9 hk9
  replace hk9 : Kept [] W25 w9 := ⟨hk9.os, hk9.tape, hk9.output, hk9.size, hk9.block⟩
  simp only [valsQ, List.map_cons, List.map_nil, Option.getD_some, List.take_succ_cons, List.take_zero, putAll, Act.put, List.setIfInBounds_toArray, List.set_cons_succ, List.set_cons_zero]
  refine wpAny_done (by kernel_rfl) ?_ _
  replace HN := hide ((unhide HN).step0 hk9)
  go_wp2_with fail
  go_ret
  exact ⟨rfl, (unhide HN).kept⟩

end Go.Proofs.Ytgnafbohikbpfaa
