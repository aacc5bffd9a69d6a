/-
  The document's pool of one's own: each call by the plain function.
-/
import Derived.Test.YtgnafbohikbpfaaRh
import Derived.Test.YtgnafbohikbpfaaQq
namespace Go.Proofs.Ytgnafbohikbpfaa
set_option maxRecDepth 100000
set_option linter.unusedSimpArgs false
open Go.RowKit


/-- A document's pool of one's own. -/
structure Ro (w0 W : World) (b g : Nat) (P : Po) : Prop where
  rg : ∃ c, Rg W b g c P
  b0 : w0.heap.size ≤ b
  g0 : w0.heap.size ≤ g
  kept : Kept [] w0 W
variable {w0 w W W' : World} {b g b2 g2 m2 mb : Nat} {P Q : Po} {L : List En} {pg : Int} {q k : Nat}
theorem Ro.ok (h : Ro w0 W b g P) : P.Ok := by obtain ⟨c, h1⟩ := h.rg; exact h1.ok
theorem Ro.ne (h : Ro w0 W b g P) : b ≠ g := by obtain ⟨c, h1⟩ := h.rg; exact h1.ne
theorem Ro.lt (h : Ro w0 W b g P) : b < W.heap.size ∧ g < W.heap.size := by
  obtain ⟨c, h1⟩ := h.rg
  obtain ⟨post, h2⟩ := h1.row
  exact ⟨h1.bk.lt, h2.lt⟩
theorem Ro.step (h : Ro w0 W b g P) {X : List Nat} (hk : Kept X W W') (h1 : b ∉ X) (h2 : g ∉ X) (h3 : ∀ k ∈ X, w0.heap.size ≤ k) : Ro w0 W' b g P := by
  obtain ⟨c, hp⟩ := h.rg
  exact ⟨⟨c, hp.step hk h1 h2⟩, h.b0, h.g0, h.kept.own hk h3⟩
theorem Ro.step0 (h : Ro w0 W b g P) (hk : Kept [] W W') : Ro w0 W' b g P := h.step hk (by simp) (by simp) (by simp)
/-- What a call of it leaves. -/
@[reducible] def ROC (w0 W : World) (b g : Nat) (P' : Po) (v : Value) (e : Ending) (W' : World) : Prop := ∃ g', e = .returned v ∧ Ro w0 W' b g' P' ∧ Kept [b, g] W W' ∧ (g' = g ∨ W.heap.size ≤ g')
theorem ROC.put (h : Ro w0 W b g P) {c : Nat} {v : Value} {e : Ending} (he : e = .returned v) (hp : Rg W' b g c Q) (hk : Kept [b, g] W W') : ROC w0 W b g Q v e W' := ⟨g, he, ⟨⟨c, hp⟩, h.b0, h.g0, h.kept.own hk (by simp; exact ⟨h.b0, h.g0⟩)⟩, hk, .inl rfl⟩
theorem ROC.same (h : Ro w0 W b g P) {v : Value} {e : Ending} (he : e = .returned v) (hk : Kept [] W W') : ROC w0 W b g P v e W' := ⟨g, he, h.step0 hk, hk.mono (by simp), .inl rfl⟩
theorem ro_set (h : Ro w0 W b g P) (x : Fr) : Calls Try.prog 28 #[P0 b, aggV x.C] W (ROC w0 W b g (setP P x).1 (.int .i64 (setP P x).2)) := by
  obtain ⟨c, hp⟩ := h.rg
  unfold setP
  by_cases hm : mayF x = true
  · rw [if_pos hm]
    cases hf : P.find x.pg with
    | some q => exact (rset_old x hp hm hf).mono (fun e w' ⟨he, h1, h2⟩ => ROC.put h he h1 h2)
    | none =>
      simp only
      by_cases hq : lowTo P.S P.m = P.m
      · rw [if_pos hq]; exact (rset_full x hp hm hf hq rfl).mono (fun e w' ⟨he, h1⟩ => ROC.same h he h1)
      · rw [if_neg hq]
        have hlt := (lowTo_spec P.S P.m).1
        exact (rset_new x hp hm hf rfl (by omega)).mono (fun e w' ⟨he, h1, h2⟩ => ROC.put h he h1 h2)
  · rw [if_neg hm]
    have hm2 : mayF x = false := by simpa using hm
    exact (rset_bad x hp hm2).mono (fun e w' ⟨he, h1⟩ => ROC.same h he h1)
theorem ro_get (h : Ro w0 W b g P) (pg : Int) : Calls Try.prog 29 #[P0 b, .int .i64 pg] W (ROC w0 W b g (getP P pg).1 (.tuple #[aggV (getP P pg).2.1.C, .int .i64 (getP P pg).2.2])) := by
  obtain ⟨c, hp⟩ := h.rg
  unfold getP
  cases hf : P.find pg with
  | some q => exact (rget_ok hp hf).mono (fun e w' ⟨he, h1, h2⟩ => ROC.put h he h1 h2)
  | none => exact (rget_no W hp pg hf).mono (fun e w' ⟨he, h1⟩ => ROC.same h he h1)
theorem ro_look (h : Ro w0 W b g P) (pg : Int) : Calls Try.prog 37 #[P0 b, .int .i64 pg] W fun e w' => e = .returned (.tuple #[aggV (lookP P pg).1.C, .bool (lookP P pg).2]) ∧ Kept [] W w' := by
  obtain ⟨c, hp⟩ := h.rg
  unfold lookP
  cases hf : P.find pg with
  | some q => exact rlook_ok hp hf
  | none => exact rlook_no W hp pg hf
theorem ro_drop (h : Ro w0 W b g P) (pg : Int) : Calls Try.prog 30 #[P0 b, .int .i64 pg] W (ROC w0 W b g (dropP P pg).1 (.tuple #[aggV (dropP P pg).2.1.C, .int .i64 (dropP P pg).2.2])) := by
  obtain ⟨c, hp⟩ := h.rg
  unfold dropP
  cases hf : P.find pg with
  | some q => exact (rdrop_ok hp hf).mono (fun e w' ⟨he, h1, h2⟩ => ROC.put h he h1 h2)
  | none => exact (rdrop_no W hp pg hf).mono (fun e w' ⟨he, h1⟩ => ROC.same h he h1)
theorem ro_pins (h : Ro w0 W b g P) (pg : Int) : Calls Try.prog 38 #[P0 b, .int .i64 pg] W fun e w' => e = .returned (.int .i64 (pinsP P pg : Int)) ∧ Kept [] W w' := by
  obtain ⟨c, hp⟩ := h.rg
  unfold pinsP
  cases hf : P.find pg with
  | some q => exact rpins_ok hp hf
  | none => exact rpins_no W hp pg hf
theorem ro_pin (h : Ro w0 W b g P) (pg : Int) (hb : ∀ i, (P.S i).pn ≤ 1000000) : Calls Try.prog 31 #[P0 b, .int .i64 pg, .int .i64 1] W (ROC w0 W b g (pinP P pg).1 (.int .i64 (pinP P pg).2)) := by
  obtain ⟨c, hp⟩ := h.rg
  unfold pinP
  cases hf : P.find pg with
  | some q => exact (rpin_ok hp hf (hb q)).mono (fun e w' ⟨he, h1, h2⟩ => ROC.put h he h1 h2)
  | none => exact (rpin_no W hp pg 1 hf).mono (fun e w' ⟨he, h1⟩ => ROC.same h he h1)
theorem ro_unpin (h : Ro w0 W b g P) (pg : Int) (hb : ∀ i, (P.S i).pn ≤ 1000000) : Calls Try.prog 31 #[P0 b, .int .i64 pg, .int .i64 (-1)] W (ROC w0 W b g (unpinP P pg).1 (.int .i64 (unpinP P pg).2)) := by
  obtain ⟨c, hp⟩ := h.rg
  unfold unpinP
  cases hf : P.find pg with
  | some q =>
    simp only
    by_cases h0 : (P.S q).pn = 0
    · rw [if_pos h0]; exact (runpin0 hp hf h0).mono (fun e w' ⟨he, h1⟩ => ROC.same h he h1)
    · rw [if_neg h0]; exact (runpin_ok hp hf (hb q) h0).mono (fun e w' ⟨he, h1, h2⟩ => ROC.put h he h1 h2)
  | none => exact (rpin_no W hp pg (-1) hf).mono (fun e w' ⟨he, h1⟩ => ROC.same h he h1)
theorem ro_vic (h : Ro w0 W b g P) : Calls Try.prog 32 #[P0 b] W (ROC w0 W b g P.vic.1 (.tuple #[.int .i64 P.vic.2.1, .bool P.vic.2.2])) := by
  obtain ⟨c, hp⟩ := h.rg
  exact (rvictim32 hp).mono (fun e w' ⟨he, h1, h2⟩ => ROC.put h he h1 h2)
theorem ro_len (h : Ro w0 W b g P) : Calls Try.prog 35 #[P0 b] W fun e w' => e = .returned (.int .i64 (cntB P.S P.m : Int)) ∧ w' = W := by
  obtain ⟨c, hp⟩ := h.rg
  exact rlen35 _ hp
theorem ro_room (h : Ro w0 W b g P) : Calls Try.prog 36 #[P0 b] W fun e w' => e = .returned (.int .i64 ((P.m : Int) - (cntB P.S P.m : Int))) ∧ Kept [] W w' := by
  obtain ⟨c, hp⟩ := h.rg
  exact rroom36 hp
theorem ro_clear (h : Ro w0 W b g P) : Calls Try.prog 34 #[P0 b] W (ROC w0 W b g (po0 P.m) (.int .i64 (cntB P.S P.m : Int))) := by
  obtain ⟨c, hp⟩ := h.rg
  refine (rclear34 hp).mono (fun e w' h9 => ?_)
  obtain ⟨g3, he, h1, h2, h3⟩ := h9
  exact ⟨g3, he, ⟨⟨_, h2⟩, h.b0, Nat.le_trans h.kept.size h1, h.kept.own h3 (by simp; exact h.b0)⟩, h3.mono (by simp), .inr h1⟩
theorem ro_new (m : Nat) (h : Kept [] w0 W) (hm : 1 ≤ m ∧ m ≤ 16) : Calls Try.prog 8 #[.int .i64 (m : Int)] W fun e w' => ∃ b g, e = .returned (P0 b) ∧ W.heap.size ≤ b ∧ W.heap.size ≤ g ∧ Ro w0 w' b g (po0 m) ∧ Kept [] W w' := by
  refine (rnew_yes m W hm).mono (fun e w' h9 => ?_)
  obtain ⟨b, g, he, h1, h2, h3, h4⟩ := h9
  exact ⟨b, g, he, h1, h2, ⟨⟨_, h3⟩, Nat.le_trans h.size h1, Nat.le_trans h.size h2, h.trans h4⟩, h4⟩
theorem ro_same (h : Ro w0 W b g P) (k : Ro w0 W b2 g2 Q) : Calls Try.prog 14 #[P0 b, P0 b2] W fun e w' => e = .returned (.bool (sameP P Q)) ∧ Kept [] W w' := by
  obtain ⟨c, hp⟩ := h.rg
  obtain ⟨c2, kp⟩ := k.rg
  exact rsame14 hp kp
/-- The program's pool and the document's beside each other, over the same plain pool. -/
structure Tw (w0 W : World) (b mb r g : Nat) (P : Po) : Prop where
  on : On w0 W b mb P
  ro : Ro w0 W r g P
  ap : Apt b mb r g
/-- The program's call, then the document's. -/
theorem Ro.other (k : Ro w0 W b2 g2 Q) (hA : Apt b mb b2 g2) (hK : Kept [b, mb] W W') (h : On w0 W b mb P) {m' : Nat} (hm : m' = mb ∨ W.heap.size ≤ m') : Ro w0 W' b2 g2 Q ∧ Apt b m' b2 g2 := by
  have hx := hA.x
  have hl := k.lt
  refine ⟨k.step hK (by simp; exact ⟨fun e => hx.1 e.symm, fun e => hx.2.2.1 e.symm⟩) (by simp; exact ⟨fun e => hx.2.1 e.symm, fun e => hx.2.2.2 e.symm⟩) (by simp; exact ⟨h.b0, h.m0⟩), ?_⟩
  rcases hm with rfl | hm
  · exact hA
  · exact ⟨hx.1, hx.2.1, by omega, by omega⟩
theorem On.farR (k : On w0 W b mb P) (hA : Apt b mb b2 g2) (hK : Kept [b2, g2] W W') (h : Ro w0 W b2 g2 Q) {g' : Nat} (hg : g' = g2 ∨ W.heap.size ≤ g') : On w0 W' b mb P ∧ Apt b mb b2 g' := by
  have hx := hA.x
  have hl := k.lt
  refine ⟨k.step hK (by simp; exact ⟨hx.1, hx.2.1⟩) (by simp; exact ⟨hx.2.2.1, hx.2.2.2⟩) (by simp; exact ⟨h.b0, h.g0⟩), ?_⟩
  rcases hg with rfl | hg
  · exact hA
  · exact ⟨hx.1, by omega, hx.2.2.1, by omega⟩
theorem Tw.step0 {r : Nat} (h : Tw w0 W b mb r g P) (hk : Kept [] W W') : Tw w0 W' b mb r g P := ⟨h.on.step0 hk, h.ro.step0 hk, h.ap⟩

end Go.Proofs.Ytgnafbohikbpfaa
