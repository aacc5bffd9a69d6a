/-
  do: get, drop.
-/
import Derived.Test.YtgnafbohikbpfaaRk
namespace Go.Proofs.Ytgnafbohikbpfaa
set_option maxRecDepth 100000
set_option linter.unusedSimpArgs false
open Go.RowKit


variable {w0 w W W' : World} {b mb r g : Nat} {P Q : Po}
theorem wpEq39 {ops : Array Oper} {rest : List Oper} {op : Oper} {a : Act} {Q : Exit → Act → World → Prop} (hw : Region.wanted op (yielded ops a.tmps) = true) (x y : Operand) (ho : op.op = .binOp .eql 39 x y 39) (vs us : List Value) (c : Bool) (hx : a.eval x = aggV vs) (hy : a.eval y = aggV us) (he : (Op.equal 39 (aggV vs) (aggV us)).run Try.prog w = .ok c w) (h : wpList Try.prog ops Q rest (a.put op.dst (.bool c)) w) : wpList Try.prog ops Q (op :: rest) a w :=
  BigFrame.wpList_want hw fun _ hK => o_eqlA 39 39 guard39 x y ho vs us hx hy c he (hK _ _ h)
set_option maxHeartbeats 1000000 in
theorem do_2 (h : Tw w0 w b mb r g P) (x : Se) (hk1 : ¬ x.kd = 1) (hk2 : x.kd = 2) : Calls Try.prog 11 #[P0 b, P0 r, aggV x.C] w (DC w0 w b mb r g (doP P x)) := by
  have hdp : doP P x = (getP P x.pg).1 := by unfold doP; rw [if_neg hk1, if_pos hk2]
  rw [hdp]
  clear hdp
  have dk1 : decide (x.kd = 1) = false := by simpa using hk1
  have dq1 : (x.kd == 1) = false := by simpa using hk1
  have dk2 : decide (x.kd = 2) = true := by simpa using hk2
  have dq2 : (x.kd == 2) = true := by simpa using hk2
  obtain ⟨xc, hxc⟩ : ∃ c, c = x.C := ⟨_, rfl⟩
  have HX0 : Hid (xc[0]? = some (.int .i64 x.kd)) := by show _ = _; rw [hxc]; rfl
  have HX1 : Hid (xc[1]? = some (.int .i64 x.pg)) := by show _ = _; rw [hxc]; rfl
  rw [← hxc]
  have HT := hide h
  obtain ⟨fc, hfc⟩ : ∃ c, c = (getP P x.pg).2.1.C := ⟨_, rfl⟩
  obtain ⟨n, hn⟩ : ∃ n, n = (getP P x.pg).2.2 := ⟨_, rfl⟩
  have HLF : Hid (fc.length = 102) := by show _ = _; rw [hfc, Fr.len]
  have HOF : Hid (∀ v ∈ fc, v.oneCell' = true) := by rw [hfc]; exact Fr.one _
  have HEQ : Hid (∀ W, (Op.equal 39 (aggV fc) (aggV fc)).run Try.prog W = .ok true W) := fun W => by have h9 := equal39 W (getP P x.pg).2.1 (getP P x.pg).2.1; rw [decide_eq_true rfl] at h9; rw [hfc]; exact h9
  have q1 : decide (n = n) = true := decide_eq_true rfl
  have q2 : (n == n) = true := by simp
  have PA : Hid (∀ W, On w0 W b mb P → Calls Try.prog 18 #[P0 b, .int .i64 x.pg] W (OC w0 W b mb (getP P x.pg).1 (.tuple #[aggV fc, .int .i64 n]))) := fun W h => by rw [hfc, hn]; exact on_get h x.pg
  have PB : Hid (∀ W, Ro w0 W r g P → Calls Try.prog 29 #[P0 r, .int .i64 x.pg] W (ROC w0 W r g (getP P x.pg).1 (.tuple #[aggV fc, .int .i64 n]))) := fun W h => by rw [hfc, hn]; exact ro_get h x.pg
  clear hxc hfc hn h hk1 hk2
  go_enter Try.func11, Try.ntmps11
  go_wp2_with (
    first
    | (refine wpBoxV rfl (.tmp 2) rfl xc rfl ?_
       intro W1 y e1 B1 K1
       have HK1 := hide K1
       have HNY : Hid ((y ≠ b ∧ y ≠ mb) ∧ y ≠ r ∧ y ≠ g) := by have h1 := (unhide HT).on.lt; have h2 := (unhide HT).ro.lt; show (_ ∧ _) ∧ _ ∧ _; omega
       have ck : W1.cell? ⟨y, 0, none⟩ = some (.int .i64 x.kd) := fits_cell B1 0 _ (unhide HX0)
       have c1 := fits_cell B1 1 _ (unhide HX1)
       have HBY := hide B1
       clear e1 B1 K1
       refine Stp.go ?_))
  constructor
  go_wp2_with (
    first
    | (go_at_call 18
       refine (unhide PA _ ((unhide HT).step0 (unhide HK1)).on).mono ?_
       rintro e W2 ⟨m2, rfl, o2, k2, f2⟩
       have HO2 := hide o2
       have HK2 := hide k2
       have HF2 := hide f2
       replace HBY := hide ((unhide HBY).kept k2 (by have h9 := unhide HNY; simp; exact ⟨h9.1.1, h9.1.2⟩))
       clear o2 k2 f2
       refine Stp.go ?_))
  constructor
  go_wp2_with (
    first
    | (refine wpNew row39 fr0.C fr0.len zero39 9 rfl rfl rfl (.tmp 46) rfl rfl rfl fc (unhide HLF) (unhide HOF) (by kernel_rfl) (by kernel_rfl) ?_
       intro V2 ga e9 B9 K9
       have HS2 := (unhide HK2).size
       replace HO2 := hide ((unhide HO2).step0 K9)
       replace HK2 := hide ((unhide HK2).trans (K9.mono (by simp)))
       replace HBY := hide ((unhide HBY).kept K9 (by simp))
       have HBA := hide B9
       have HNA : Hid (ga ≠ r ∧ ga ≠ g) := by have h2 := (unhide HT).ro.lt; have h3 := (unhide HK1).size; have h4 := HS2; show _ ∧ _; omega
       have c1 := fits_cell (unhide HBY) 1 _ (unhide HX1)
       clear HS2 e9 B9 K9
       refine Stp.go ?_))
  constructor
  go_wp2_with (
    first
    | (go_at_call 29
       refine (unhide PB _ (((unhide HT).step0 (unhide HK1)).prog (unhide HO2) (unhide HK2) (unhide HF2)).1).mono ?_
       rintro e W3 ⟨m3, rfl, o3, k3, f3⟩
       have HO3 := hide o3
       have HK3 := hide k3
       have HF3 := hide f3
       replace HBA := hide ((unhide HBA).kept k3 (by have h9 := unhide HNA; simp; exact h9))
       clear o3 k3 f3
       refine Stp.go ?_))
  constructor
  go_wp2_with (
    first
    | (refine wpNew row39 fr0.C fr0.len zero39 11 rfl rfl rfl (.tmp 53) rfl rfl rfl fc (unhide HLF) (unhide HOF) (by kernel_rfl) (by kernel_rfl) ?_
       intro V3 gb e9 B9 K9
       replace HO3 := hide ((unhide HO3).step0 K9)
       replace HK3 := hide ((unhide HK3).trans (K9.mono (by simp)))
       replace HBA := hide ((unhide HBA).kept K9 (by simp))
       have HBB := hide B9
       clear e9 B9 K9
       refine Stp.go ?_))
  constructor
  go_wp2_with (
    first
    | (refine wpLoadA row39 rfl (.tmp 9) rfl ga 0 rfl fc (unhide HLF) (unhide HBA).range ?_
       refine Stp.go ?_))
  constructor
  go_wp2_with (
    first
    | (refine wpLoadA row39 rfl (.tmp 11) rfl gb 0 rfl fc (unhide HLF) (unhide HBB).range ?_
       refine Stp.go ?_))
  constructor
  go_wp2_with (
    first
    | (refine wpEq39 (by rfl) (.tmp 57) (.tmp 58) rfl fc fc true rfl rfl (unhide HEQ _) ?_
       refine Stp.go ?_))
  constructor
  go_wp2_with (
    first
    | (go_at_call 9
       refine (num9 _ _).mono ?_
       rintro e W9 ⟨rfl, q9⟩
       replace q9 := q9.symm
       subst q9
       refine Stp.go ?_))
  constructor
  go_wp2_with fail
  refine bodyPost_ret (res11 _ _ _ _ _ rfl rfl rfl) rfl ?_
  exact ⟨b, m2, m3, rfl, DS.of (unhide HT) (unhide HK1) (unhide HO2) (unhide HK2) (unhide HF2) (unhide HO3) (unhide HK3) (unhide HF3)⟩
set_option maxHeartbeats 1000000 in
theorem do_3 (h : Tw w0 w b mb r g P) (x : Se) (hk1 : ¬ x.kd = 1) (hk2 : ¬ x.kd = 2) (hk3 : x.kd = 3) : Calls Try.prog 11 #[P0 b, P0 r, aggV x.C] w (DC w0 w b mb r g (doP P x)) := by
  have hdp : doP P x = (dropP P x.pg).1 := by unfold doP; rw [if_neg hk1, if_neg hk2, if_pos hk3]
  rw [hdp]
  clear hdp
  have dk1 : decide (x.kd = 1) = false := by simpa using hk1
  have dq1 : (x.kd == 1) = false := by simpa using hk1
  have dk2 : decide (x.kd = 2) = false := by simpa using hk2
  have dq2 : (x.kd == 2) = false := by simpa using hk2
  have dk3 : decide (x.kd = 3) = true := by simpa using hk3
  have dq3 : (x.kd == 3) = true := by simpa using hk3
  obtain ⟨xc, hxc⟩ : ∃ c, c = x.C := ⟨_, rfl⟩
  have HX0 : Hid (xc[0]? = some (.int .i64 x.kd)) := by show _ = _; rw [hxc]; rfl
  have HX1 : Hid (xc[1]? = some (.int .i64 x.pg)) := by show _ = _; rw [hxc]; rfl
  rw [← hxc]
  have HT := hide h
  obtain ⟨fc, hfc⟩ : ∃ c, c = (dropP P x.pg).2.1.C := ⟨_, rfl⟩
  obtain ⟨n, hn⟩ : ∃ n, n = (dropP P x.pg).2.2 := ⟨_, rfl⟩
  have HLF : Hid (fc.length = 102) := by show _ = _; rw [hfc, Fr.len]
  have HOF : Hid (∀ v ∈ fc, v.oneCell' = true) := by rw [hfc]; exact Fr.one _
  have HEQ : Hid (∀ W, (Op.equal 39 (aggV fc) (aggV fc)).run Try.prog W = .ok true W) := fun W => by have h9 := equal39 W (dropP P x.pg).2.1 (dropP P x.pg).2.1; rw [decide_eq_true rfl] at h9; rw [hfc]; exact h9
  have q1 : decide (n = n) = true := decide_eq_true rfl
  have q2 : (n == n) = true := by simp
  have PA : Hid (∀ W, On w0 W b mb P → Calls Try.prog 22 #[P0 b, .int .i64 x.pg] W (OC w0 W b mb (dropP P x.pg).1 (.tuple #[aggV fc, .int .i64 n]))) := fun W h => by rw [hfc, hn]; exact on_drop h x.pg
  have PB : Hid (∀ W, Ro w0 W r g P → Calls Try.prog 30 #[P0 r, .int .i64 x.pg] W (ROC w0 W r g (dropP P x.pg).1 (.tuple #[aggV fc, .int .i64 n]))) := fun W h => by rw [hfc, hn]; exact ro_drop h x.pg
  clear hxc hfc hn h hk1 hk2 hk3
  go_enter Try.func11, Try.ntmps11
  go_wp2_with (
    first
    | (refine wpBoxV rfl (.tmp 2) rfl xc rfl ?_
       intro W1 y e1 B1 K1
       have HK1 := hide K1
       have HNY : Hid ((y ≠ b ∧ y ≠ mb) ∧ y ≠ r ∧ y ≠ g) := by have h1 := (unhide HT).on.lt; have h2 := (unhide HT).ro.lt; show (_ ∧ _) ∧ _ ∧ _; omega
       have ck : W1.cell? ⟨y, 0, none⟩ = some (.int .i64 x.kd) := fits_cell B1 0 _ (unhide HX0)
       have c1 := fits_cell B1 1 _ (unhide HX1)
       have HBY := hide B1
       clear e1 B1 K1
       refine Stp.go ?_))
  constructor
  go_wp2_with (
    first
    | (go_at_call 22
       refine (unhide PA _ ((unhide HT).step0 (unhide HK1)).on).mono ?_
       rintro e W2 ⟨m2, rfl, o2, k2, f2⟩
       have HO2 := hide o2
       have HK2 := hide k2
       have HF2 := hide f2
       replace HBY := hide ((unhide HBY).kept k2 (by have h9 := unhide HNY; simp; exact ⟨h9.1.1, h9.1.2⟩))
       clear o2 k2 f2
       refine Stp.go ?_))
  constructor
  go_wp2_with (
    first
    | (refine wpNew row39 fr0.C fr0.len zero39 13 rfl rfl rfl (.tmp 73) rfl rfl rfl fc (unhide HLF) (unhide HOF) (by kernel_rfl) (by kernel_rfl) ?_
       intro V2 ga e9 B9 K9
       have HS2 := (unhide HK2).size
       replace HO2 := hide ((unhide HO2).step0 K9)
       replace HK2 := hide ((unhide HK2).trans (K9.mono (by simp)))
       replace HBY := hide ((unhide HBY).kept K9 (by simp))
       have HBA := hide B9
       have HNA : Hid (ga ≠ r ∧ ga ≠ g) := by have h2 := (unhide HT).ro.lt; have h3 := (unhide HK1).size; have h4 := HS2; show _ ∧ _; omega
       have c1 := fits_cell (unhide HBY) 1 _ (unhide HX1)
       clear HS2 e9 B9 K9
       refine Stp.go ?_))
  constructor
  go_wp2_with (
    first
    | (go_at_call 30
       refine (unhide PB _ (((unhide HT).step0 (unhide HK1)).prog (unhide HO2) (unhide HK2) (unhide HF2)).1).mono ?_
       rintro e W3 ⟨m3, rfl, o3, k3, f3⟩
       have HO3 := hide o3
       have HK3 := hide k3
       have HF3 := hide f3
       replace HBA := hide ((unhide HBA).kept k3 (by have h9 := unhide HNA; simp; exact h9))
       clear o3 k3 f3
       refine Stp.go ?_))
  constructor
  go_wp2_with (
    first
    | (refine wpNew row39 fr0.C fr0.len zero39 15 rfl rfl rfl (.tmp 80) rfl rfl rfl fc (unhide HLF) (unhide HOF) (by kernel_rfl) (by kernel_rfl) ?_
       intro V3 gb e9 B9 K9
       replace HO3 := hide ((unhide HO3).step0 K9)
       replace HK3 := hide ((unhide HK3).trans (K9.mono (by simp)))
       replace HBA := hide ((unhide HBA).kept K9 (by simp))
       have HBB := hide B9
       clear e9 B9 K9
       refine Stp.go ?_))
  constructor
  go_wp2_with (
    first
    | (refine wpLoadA row39 rfl (.tmp 13) rfl ga 0 rfl fc (unhide HLF) (unhide HBA).range ?_
       refine Stp.go ?_))
  constructor
  go_wp2_with (
    first
    | (refine wpLoadA row39 rfl (.tmp 15) rfl gb 0 rfl fc (unhide HLF) (unhide HBB).range ?_
       refine Stp.go ?_))
  constructor
  go_wp2_with (
    first
    | (refine wpEq39 (by rfl) (.tmp 84) (.tmp 85) rfl fc fc true rfl rfl (unhide HEQ _) ?_
       refine Stp.go ?_))
  constructor
  go_wp2_with (
    first
    | (go_at_call 9
       refine (num9 _ _).mono ?_
       rintro e W9 ⟨rfl, q9⟩
       replace q9 := q9.symm
       subst q9
       refine Stp.go ?_))
  constructor
  go_wp2_with fail
  refine bodyPost_ret (res11 _ _ _ _ _ rfl rfl rfl) rfl ?_
  exact ⟨b, m2, m3, rfl, DS.of (unhide HT) (unhide HK1) (unhide HO2) (unhide HK2) (unhide HF2) (unhide HO3) (unhide HK3) (unhide HF3)⟩

end Go.Proofs.Ytgnafbohikbpfaa
