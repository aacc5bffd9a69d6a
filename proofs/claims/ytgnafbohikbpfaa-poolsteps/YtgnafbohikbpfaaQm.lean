/-
  Each call by a plain function; a pool of one's own.
-/
import Derived.Test.YtgnafbohikbpfaaQl
namespace Go.Proofs.Ytgnafbohikbpfaa
set_option maxRecDepth 100000
set_option linter.unusedSimpArgs false
open Go.RowKit


def setP (P : Po) (x : Fr) : Po × Int := if mayF x = true then (match P.find x.pg with
  | some q => (P.up q ⟨x, (P.S q).pn, true⟩, 0)
  | none => if lowTo P.S P.m = P.m then (P, 5) else (P.up (lowTo P.S P.m) ⟨x, (P.S (lowTo P.S P.m)).pn, true⟩, 0)) else (P, 2)
def getP (P : Po) (pg : Int) : Po × Fr × Int := match P.find pg with
  | some q => (P.up q ⟨(P.S q).f, (P.S q).pn, true⟩, (P.S q).f, 0)
  | none => (P, fr0, 6)
def lookP (P : Po) (pg : Int) : Fr × Bool := match P.find pg with
  | some q => ((P.S q).f, true)
  | none => (fr0, false)
def dropP (P : Po) (pg : Int) : Po × Fr × Int := match P.find pg with
  | some q => (P.up q pl0, (P.S q).f, 0)
  | none => (P, fr0, 6)
def pinP (P : Po) (pg : Int) : Po × Int := match P.find pg with
  | some q => (P.up q ⟨(P.S q).f, (P.S q).pn + 1, (P.S q).us⟩, 0)
  | none => (P, 6)
def unpinP (P : Po) (pg : Int) : Po × Int := match P.find pg with
  | some q => if (P.S q).pn = 0 then (P, 6) else (P.up q ⟨(P.S q).f, (P.S q).pn - 1, (P.S q).us⟩, 0)
  | none => (P, 6)
def pinsP (P : Po) (pg : Int) : Nat := match P.find pg with
  | some q => (P.S q).pn
  | none => 0
/-- A pool of one's own. -/
structure On (w0 W : World) (b mb : Nat) (P : Po) : Prop where
  pg : ∃ L, Pg W b mb P L
  b0 : w0.heap.size ≤ b
  m0 : w0.heap.size ≤ mb
  kept : Kept [] w0 W
variable {w0 w W W' : World} {b mb : Nat} {P Q : Po} {L : List En} {pg : Int} {q k : Nat}
theorem On.ok (h : On w0 W b mb P) : P.Ok := by obtain ⟨L, h1⟩ := h.pg; exact h1.ok
theorem On.ne (h : On w0 W b mb P) : b ≠ mb := by obtain ⟨L, h1⟩ := h.pg; exact h1.ne
theorem On.blk (h : On w0 W b mb P) : Blk W b 70 (P.C (.map (some mb))) := by obtain ⟨L, h1⟩ := h.pg; exact h1.blk
theorem On.lt (h : On w0 W b mb P) : b < W.heap.size ∧ mb < W.heap.size := by obtain ⟨L, h1⟩ := h.pg; exact ⟨h1.blk.lt, h1.map.lt⟩
theorem On.step (h : On w0 W b mb P) {X : List Nat} (hk : Kept X W W') (h1 : b ∉ X) (h2 : mb ∉ X) (h3 : ∀ k ∈ X, w0.heap.size ≤ k) : On w0 W' b mb P := by
  obtain ⟨L, hp⟩ := h.pg
  exact ⟨⟨L, hp.step hk h1 h2⟩, h.b0, h.m0, h.kept.own hk h3⟩
theorem On.step0 (h : On w0 W b mb P) (hk : Kept [] W W') : On w0 W' b mb P := h.step hk (by simp) (by simp) (by simp)
/-- What a call of it leaves. -/
@[reducible] def OC (w0 W : World) (b mb : Nat) (P' : Po) (v : Value) (e : Ending) (W' : World) : Prop := ∃ m', e = .returned v ∧ On w0 W' b m' P' ∧ Kept [b, mb] W W' ∧ (m' = mb ∨ W.heap.size ≤ m')
theorem On.put (h : On w0 W b mb P) {L' : List En} (hp : Pg W' b mb Q L') (hk : Kept [b, mb] W W') : On w0 W' b mb Q := ⟨⟨L', hp⟩, h.b0, h.m0, h.kept.own hk (by simp; exact ⟨h.b0, h.m0⟩)⟩
theorem OC.put (h : On w0 W b mb P) {L' : List En} {v : Value} {e : Ending} (he : e = .returned v) (hp : Pg W' b mb Q L') (hk : Kept [b, mb] W W') : OC w0 W b mb Q v e W' := ⟨mb, he, h.put hp hk, hk, .inl rfl⟩
theorem OC.same (h : On w0 W b mb P) {v : Value} {e : Ending} (he : e = .returned v) (hk : Kept [] W W') : OC w0 W b mb P v e W' := ⟨mb, he, h.step0 hk, hk.mono (by simp), .inl rfl⟩
theorem fnd42_none (h : Pg w b mb P L) (hf : P.find pg = none) : ∀ W, Kept [] w W → Calls Try.prog 42 #[P0 b, .int .i64 pg] W fun e w' => e = .returned (.tuple #[.pointer none, .int .i64 6]) ∧ w' = W := fun W hk => by
  have h9 := find42 W (h.step hk (by simp) (by simp)) pg
  unfold Po.fnd at h9
  rw [hf] at h9
  exact h9
theorem on_set (h : On w0 W b mb P) (x : Fr) : Calls Try.prog 19 #[P0 b, aggV x.C] W (OC w0 W b mb (setP P x).1 (.int .i64 (setP P x).2)) := by
  obtain ⟨L, hp⟩ := h.pg
  unfold setP
  by_cases hm : mayF x = true
  · rw [if_pos hm]
    cases hf : P.find x.pg with
    | some q => exact (set19_old x hp hm hf).mono (fun e w' ⟨he, h1, h2⟩ => OC.put h he h1 (h2.mono (by simp)))
    | none =>
      simp only
      by_cases hq : lowTo P.S P.m = P.m
      · rw [if_pos hq]; exact (set19_full x hp hm hf hq).mono (fun e w' ⟨he, h1⟩ => OC.same h he h1)
      · rw [if_neg hq]
        have hlt := (lowTo_spec P.S P.m).1
        exact (set19_new x hp hm hf rfl (by omega)).mono (fun e w' ⟨he, h1, h2⟩ => OC.put h he h1 h2)
  · rw [if_neg hm]
    have hm2 : mayF x = false := by simpa using hm
    exact (set19_bad x hp hm2).mono (fun e w' ⟨he, h1⟩ => OC.same h he h1)
theorem on_get (h : On w0 W b mb P) (pg : Int) : Calls Try.prog 18 #[P0 b, .int .i64 pg] W (OC w0 W b mb (getP P pg).1 (.tuple #[aggV (getP P pg).2.1.C, .int .i64 (getP P pg).2.2])) := by
  obtain ⟨L, hp⟩ := h.pg
  unfold getP
  cases hf : P.find pg with
  | some q => exact (get_ok hp hf).mono (fun e w' ⟨he, h1, h2⟩ => OC.put h he h1 (h2.mono (by simp)))
  | none => exact (get_err W _ pg 6 (.inr rfl) (fnd42_none hp hf)).mono (fun e w' ⟨he, h1⟩ => OC.same h he h1)
theorem on_look (h : On w0 W b mb P) (pg : Int) : Calls Try.prog 15 #[P0 b, .int .i64 pg] W fun e w' => e = .returned (.tuple #[aggV (lookP P pg).1.C, .bool (lookP P pg).2]) ∧ Kept [] W w' := by
  obtain ⟨L, hp⟩ := h.pg
  unfold lookP
  cases hf : P.find pg with
  | some q => exact look_ok hp hf
  | none => exact look_err W _ pg 6 (.inr rfl) (fnd42_none hp hf)
theorem on_drop (h : On w0 W b mb P) (pg : Int) : Calls Try.prog 22 #[P0 b, .int .i64 pg] W (OC w0 W b mb (dropP P pg).1 (.tuple #[aggV (dropP P pg).2.1.C, .int .i64 (dropP P pg).2.2])) := by
  obtain ⟨L, hp⟩ := h.pg
  unfold dropP
  cases hf : P.find pg with
  | some q => exact (drop_ok hp hf).mono (fun e w' ⟨he, L', h1, h2⟩ => OC.put h he h1 h2)
  | none => exact (drop_err W _ pg 6 (.inr rfl) (fnd42_none hp hf)).mono (fun e w' ⟨he, h1⟩ => OC.same h he h1)
theorem on_pins (h : On w0 W b mb P) (pg : Int) : Calls Try.prog 16 #[P0 b, .int .i64 pg] W fun e w' => e = .returned (.int .i64 (pinsP P pg : Int)) ∧ Kept [] W w' := by
  obtain ⟨L, hp⟩ := h.pg
  unfold pinsP
  cases hf : P.find pg with
  | some q => exact pins_ok hp hf
  | none => exact pins_err W _ pg 6 (.inr rfl) (fnd42_none hp hf)
theorem on_pin (h : On w0 W b mb P) (pg : Int) (hb : ∀ i, (P.S i).pn ≤ 1000000) : Calls Try.prog 21 #[P0 b, .int .i64 pg] W (OC w0 W b mb (pinP P pg).1 (.int .i64 (pinP P pg).2)) := by
  obtain ⟨L, hp⟩ := h.pg
  unfold pinP
  cases hf : P.find pg with
  | some q => exact (pin_ok hp hf (hb q)).mono (fun e w' ⟨he, h1, h2⟩ => OC.put h he h1 (h2.mono (by simp)))
  | none => exact (pin_err W _ pg 6 (.inr rfl) (fnd42_none hp hf)).mono (fun e w' ⟨he, h1⟩ => OC.same h he h1)
theorem on_unpin (h : On w0 W b mb P) (pg : Int) (hb : ∀ i, (P.S i).pn ≤ 1000000) : Calls Try.prog 26 #[P0 b, .int .i64 pg] W (OC w0 W b mb (unpinP P pg).1 (.int .i64 (unpinP P pg).2)) := by
  obtain ⟨L, hp⟩ := h.pg
  unfold unpinP
  cases hf : P.find pg with
  | some q =>
    simp only
    by_cases h0 : (P.S q).pn = 0
    · rw [if_pos h0]; exact (unpin0_ok hp hf h0).mono (fun e w' ⟨he, h1⟩ => OC.same h he h1)
    · rw [if_neg h0]; exact (unpin_ok hp hf (hb q) h0).mono (fun e w' ⟨he, h1, h2⟩ => OC.put h he h1 (h2.mono (by simp)))
  | none => exact (unpin_err W _ pg 6 (.inr rfl) (fnd42_none hp hf)).mono (fun e w' ⟨he, h1⟩ => OC.same h he h1)
theorem on_vic (h : On w0 W b mb P) : Calls Try.prog 17 #[P0 b] W (OC w0 W b mb P.vic.1 (.tuple #[.int .i64 P.vic.2.1, .bool P.vic.2.2])) := by
  obtain ⟨L, hp⟩ := h.pg
  exact (victim17 hp).mono (fun e w' ⟨he, h1, h2⟩ => OC.put h he h1 (h2.mono (by simp)))
theorem on_len (h : On w0 W b mb P) : Calls Try.prog 24 #[P0 b] W fun e w' => e = .returned (.int .i64 (cntB P.S P.m : Int)) ∧ w' = W := by
  obtain ⟨L, hp⟩ := h.pg
  exact len24 hp
theorem on_room (h : On w0 W b mb P) : Calls Try.prog 27 #[P0 b] W fun e w' => e = .returned (.int .i64 ((P.m : Int) - (cntB P.S P.m : Int))) ∧ Kept [] W w' := by
  obtain ⟨L, hp⟩ := h.pg
  exact room27 hp
theorem on_clear (h : On w0 W b mb P) : Calls Try.prog 33 #[P0 b] W (OC w0 W b mb (po0 P.m) (.int .i64 (cntB P.S P.m : Int))) := by
  obtain ⟨L, hp⟩ := h.pg
  refine (clear33 hp).mono (fun e w' h9 => ?_)
  obtain ⟨m2, he, h1, h2, h3⟩ := h9
  exact ⟨m2, he, ⟨⟨_, h2⟩, h.b0, Nat.le_trans h.kept.size h1, h.kept.own h3 (by simp; exact h.b0)⟩, h3.mono (by simp), .inr h1⟩
theorem on_copy (h : On w0 W b mb P) : Calls Try.prog 23 #[P0 b] W fun e w' => ∃ b2 m2, e = .returned (P0 b2) ∧ W.heap.size ≤ b2 ∧ W.heap.size ≤ m2 ∧ On w0 w' b2 m2 P ∧ Kept [] W w' := by
  obtain ⟨L, hp⟩ := h.pg
  refine (copy23 hp).mono (fun e w' h9 => ?_)
  obtain ⟨b2, m2, he, h1, h2, h3, h4⟩ := h9
  exact ⟨b2, m2, he, h1, h2, ⟨⟨_, h3⟩, Nat.le_trans h.kept.size h1, Nat.le_trans h.kept.size h2, h.kept.trans h4⟩, h4⟩
theorem on_new (m : Nat) (h : Kept [] w0 W) (hm : 1 ≤ m ∧ m ≤ 16) : Calls Try.prog 7 #[.int .i64 (m : Int)] W fun e w' => ∃ b mb, e = .returned (.tuple #[P0 b, .int .i64 0]) ∧ W.heap.size ≤ b ∧ W.heap.size ≤ mb ∧ On w0 w' b mb (po0 m) ∧ Kept [] W w' := by
  refine (new7_yes m W hm).mono (fun e w' h9 => ?_)
  obtain ⟨b, mb, he, h1, h2, h3, h4⟩ := h9
  exact ⟨b, mb, he, h1, h2, ⟨⟨_, h3⟩, Nat.le_trans h.size h1, Nat.le_trans h.size h2, h.trans h4⟩, h4⟩
theorem on_same {c mc : Nat} (h : On w0 W b mb P) (k : On w0 W c mc Q) : Calls Try.prog 13 #[P0 b, P0 c] W fun e w' => e = .returned (.bool (sameP P Q)) ∧ Kept [] W w' := by
  obtain ⟨L, hp⟩ := h.pg
  obtain ⟨M, kp⟩ := k.pg
  exact same13 hp kp
/-- A shared frame of a page. -/
def frS (n : Int) : Fr := ⟨n, 1, 0, 0, 0, zb, by simp [zb], false⟩
theorem res20 (w : World) (z : Nat) (vs : List Value) (tmps : Array Value) (h4 : tmps[2]?.getD undef = P0 z) (hl : vs.length = 102) (hb : Blk w z 39 vs) : (results Try.f20 tmps).run Try.prog w = .ok (aggV vs) w := by
  have := loadV row39 hl hb
  simp [results, Try.results20, h4, this, asAddr]
theorem wpBldF {ops : Array Oper} {rest : List Oper} {op : Oper} {a : Act} {w : World} {Q : Exit → Act → World → Prop} (hgd : op.guard = none) (x : Operand) (ho : op.op = .build 39 #[(0, x), (1, .const (.int .i64 1))]) (n : Int) (hx : a.eval x = .int .i64 n) (h : wpList Try.prog ops Q rest (a.put op.dst (aggV (frS n).C)) w) : wpList Try.prog ops Q (op :: rest) a w :=
  wpList_plain hgd fun _ hK => wp_buildP #[(0, x), (1, .const (.int .i64 1))] ho #[(0, .int .i64 n), (1, .int .i64 1)] (by simp [hx]; rfl) (frS n).C (build39f w n) (hK _ _ h)
theorem frame20 (n : Int) (w : World) : Calls Try.prog 20 #[.int .i64 n] w fun e w' => e = .returned (aggV (frS n).C) ∧ Kept [] w w' := by
  have HK := hide (Kept.refl [] w)
  obtain ⟨fc, hfc⟩ : ∃ c, c = (frS n).C := ⟨_, rfl⟩
  rw [← hfc]
  have HF := hide hfc
  have HL : Hid (fc.length = 102) := by show _ = _; rw [hfc, Fr.len]
  have HO : Hid (∀ v ∈ fc, v.oneCell' = true) := by rw [hfc]; exact Fr.one _
  clear hfc
  go_enter Try.func20, Try.ntmps20
  go_wp2_with (
    first
    | (refine wpAlloc39 2 rfl rfl rfl ?_
       intro W1 g zc e1 B1 z1 K1
       have HB := hide B1
       have HZL := hide z1
       have HG : Hid (w.heap.size ≤ g) := by show _ ≤ _; omega
       replace HK := hide ((unhide HK).trans K1)
       clear e1 B1 z1 K1
       refine Stp.go ?_))
  constructor
  go_wp2_with (
    first
    | (refine wpBldF rfl (.tmp 3) rfl n rfl ?_
       rw [← unhide HF]
       refine Stp.go ?_))
  constructor
  go_wp2_with (
    first
    | (refine wpStoreA row39 rfl (.tmp 2) (.tmp 4) rfl g 0 fc rfl rfl (unhide HL) (unhide HO) ((unhide HB).there (by have := unhide HZL; omega)) ?_
       refine Stp.go ?_))
  constructor
  go_wp2_with fail
  have g4 := (unhide HB).put (vs := fc) (by rw [unhide HZL, unhide HL])
  exact bodyPost_ret (res20 _ g _ _ rfl (unhide HL) g4) rfl ⟨rfl, (unhide HK).setCells _ _ (fun hl => absurd hl (Nat.not_lt.2 (unhide HG)))⟩

end Go.Proofs.Ytgnafbohikbpfaa
