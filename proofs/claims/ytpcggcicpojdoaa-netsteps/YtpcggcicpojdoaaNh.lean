/-
  Letters that are looked up.
-/
import Derived.Test.YtpcggcicpojdoaaNg
namespace Go.Proofs.Ytpcggcicpojdoaa
open Go.RowKit


theorem row47 : Row 47 4 := ⟨_, Try.underlying47, rfl, by kernel_rfl⟩
theorem alloc47 (w : World) : (Instr.alloc 47 true (.tuple #[])).run Try.prog w = .ok (P0 w.heap.size) (w.alloc (.cells zL.toArray 47)) := by kernel_rfl
theorem build47 (w : World) : (Instr.build 47 #[]).run Try.prog w = .ok (aggV zL) w := by kernel_rfl
theorem res52 (w : World) (z : Nat) (vs : List Value) (tmps : Array Value) (hl : vs.length = 4) (h4 : tmps[2]?.getD undef = P0 z) (hb : Blk w z 47 vs) : (results Try.f52 tmps).run Try.prog w = .ok (aggV vs) w := by
  have := loadV row47 hl hb
  simp [results, Try.results52, h4, this, asAddr]
section
variable {ops : Array Oper} {rest : List Oper} {op : Oper} {a : Act} {w : World} {Q : Exit → Act → World → Prop}
theorem wpStoreW {T n : Nat} (hT : Row T n) (hgd : op.guard = none) (x y : Operand) (ho : op.op = .store T x y) (hd : op.dst = none) (b : Nat) (zv vs : List Value) (hx : a.eval x = .pointer (some ⟨b, 0, none⟩)) (hy : a.eval y = aggV vs) (hl : vs.length = n) (h1 : ∀ v ∈ vs, v.oneCell' = true) (hb : Blk w b T zv) (hz : zv.length = n)
    (h : ∀ W, Blk W b T vs → Kept [b] w W → wpList Try.prog ops Q rest a W) : wpList Try.prog ops Q (op :: rest) a w :=
  wpStoreA hT hgd x y ho b 0 vs hx hy hl h1 (hb.there (by omega)) (by rw [hd]; exact h _ (hb.put (by omega)) ((Kept.refl _ _).setCells _ _ (by simp)))
theorem wpLook (hgd : op.guard = none) (m x : Operand) (ho : op.op = .lookup 55 m x true) (mb : Nat) (L : List Ltr) (k : Int) (hm : a.eval m = .map (some mb)) (hx : a.eval x = .int .i64 k) (hM : MapAt w mb L)
    (h : wpList Try.prog ops Q rest (a.put op.dst (.tuple #[aggV (lookV k L), .bool (placeOf k L 0).isSome])) w) : wpList Try.prog ops Q (op :: rest) a w :=
  wpList_plain hgd fun K hK => by
    unfold Oper.wp execOp
    simp only [ho, hm, hx, Sem.run_bind, run_look w mb L k hM, Result.andThen_ok]
    exact hK _ _ h
end
/-- The letter that is found; none: a zero one. -/
def zLtr : Ltr := ⟨0, 0, 0, .slice none 0 0, []⟩
def lookL (k : Int) (L : List Ltr) : Ltr := match placeOf k L 0 with
  | none => zLtr
  | some x => x.2
theorem lookV_C (k : Int) (L : List Ltr) : lookV k L = (lookL k L).C := by unfold lookV lookL; cases placeOf k L 0 <;> rfl
theorem bod_nil (W : World) : Bod W (.slice none 0 0) [] := ⟨World.ownsRow_nil _ _ _ _, by simp⟩
theorem look_mem {k : Int} {L : List Ltr} {i : Nat} {l : Ltr} (h : placeOf k L 0 = some (i, l)) : l ∈ L := List.mem_of_getElem? (placeOf_some h).2.1
theorem Nt.look {W : World} {b mb : Nat} {v : Value} {N : Nn} (h : Nt W b mb v N) (k : Int) : Bod W (lookL k N.L).v (lookL k N.L).bs ∧ (lookL k N.L).bs.length ≤ 512 := by
  unfold lookL
  cases hp : placeOf k N.L 0 with
  | none => exact ⟨bod_nil W, by simp [zLtr]⟩
  | some x => exact ⟨h.body _ (look_mem hp), h.small _ (look_mem hp)⟩
/-- A letter's cells, with another body. -/
def Ltr.D (l : Ltr) (v : Value) : List Value := [.int .i64 l.num, .int .i64 l.fr, .int .i64 l.to, v]
theorem D_one {l : Ltr} {v : Value} (h : v.oneCell' = true) : ∀ u ∈ l.D v, u.oneCell' = true := by
  intro u hu
  simp [Ltr.D] at hu
  rcases hu with rfl | rfl | rfl | rfl
  · rfl
  · rfl
  · rfl
  · exact h
set_option maxHeartbeats 1000000 in
theorem own52 (l : Ltr) (w : World) (hb : Bod w l.v l.bs) (hs : l.bs.length ≤ 512) : Calls Try.prog 52 #[aggV l.C] w fun e w' => ∃ v, e = .returned (aggV (l.D v)) ∧ Bod w' v l.bs ∧ (∀ k, v.ownBlock = some k → w.heap.size ≤ k) ∧ Kept [] w w' := by
  obtain ⟨ao, c, hv, hV, hnil⟩ := hb.sl
  have P := hide (fun W (hk : Kept [] w W) => clone55 ao _ c l.bs W (hV.kept hk (fun _ _ _ => by simp)) hnil hb.byte (by omega))
  have hC : l.C = [.int .i64 l.num, .int .i64 l.fr, .int .i64 l.to, .slice ao l.bs.length c] := by unfold Ltr.C; rw [hv]
  rw [hC]
  have HK := hide (Kept.refl [] w)
  clear hb hV hv hC
  go_enter Try.func52, Try.ntmps52
  go_wp2_with (
    first
    | (refine wpBoxV (by rfl) (.tmp 0) (by rfl) [.int .i64 l.num, .int .i64 l.fr, .int .i64 l.to, .slice ao l.bs.length c] (by kernel_rfl) ?_
       intro W1 p1 e1 B1 K1
       have HE : Hid (w.heap.size ≤ p1) := by rw [e1]; exact (Nat.le_refl _ : w.heap.size ≤ w.heap.size)
       have HB := hide B1
       replace HK := hide ((unhide HK).trans K1)
       clear e1 B1 K1
       refine Stp.go ?_))
  constructor
  go_wp2_with (
    first
    | (refine wpAllocW zL alloc47 2 (by rfl) (by rfl) (by rfl) ?_
       intro W2 p2 e2 B2 K2
       have HF : Hid (p1 ≠ p2 ∧ w.heap.size ≤ p2) := by have := (unhide HB).lt; have := (unhide HK).size; exact ⟨by omega, by omega⟩
       replace HB := hide ((unhide HB).kept K2 (by simp))
       have hc3 := fits_cell (unhide HB) 3 _ rfl
       have HZ := hide B2
       replace HK := hide ((unhide HK).trans K2)
       clear e2 B2 K2
       refine Stp.go ?_))
  constructor
  go_wp2_with (
    first
    | (go_at_call 55
       refine (unhide P _ (unhide HK)).mono ?_
       rintro e W3 ⟨v, rfl, hB, hfr, K3⟩
       obtain ⟨av, cv, hv, _, _⟩ := hB.sl
       have HV := hide hv
       have HFR : Hid (∀ k, v.ownBlock = some k → w.heap.size ≤ k ∧ W2.heap.size ≤ k) := fun k hk => by have := hfr k hk; have := (unhide HK).size; exact ⟨by omega, by omega⟩
       have HLT : Hid (p1 < W2.heap.size ∧ p2 < W2.heap.size) := ⟨(unhide HB).lt, (unhide HZ).lt⟩
       have HBO := hide hB
       replace HB := hide ((unhide HB).kept K3 (by simp))
       replace HZ := hide ((unhide HZ).kept K3 (by simp))
       replace HK := hide ((unhide HK).trans K3)
       clear hB hfr K3 hc3 hv
       refine Stp.go ?_))
  constructor
  go_wp2_with (
    first
    | (refine wpStoreV (T := 34) (b := p1) (i := 3) (v := v) (by rfl) (.tmp 6) (.tmp 5) (by rfl) (by rfl) (by kernel_rfl) (by rfl) 47 _ (unhide HB) (by rw [unhide HV]; exact st34 _ _ _ _ _ _ _ _ (unhide HB) (by simp)) ?_
       intro W4 B4 K4
       replace HB : Hid (Blk W4 p1 47 (l.D v)) := B4
       replace HZ := hide ((unhide HZ).kept K4 (by have := unhide HF; simp; omega))
       replace HBO := hide ((unhide HBO).kept K4 (fun k hk => by have := unhide HFR k hk; have := unhide HLT; simp; omega))
       replace HK := hide ((unhide HK).fresh K4 (fun i hi hl => by have := unhide HE; simp at hi; omega))
       clear B4 K4
       refine Stp.go ?_))
  constructor
  go_wp2_with (
    first
    | (refine wpLoadA row47 (by rfl) (.tmp 1) (by rfl) p1 0 (by kernel_rfl) (l.D v) rfl (unhide HB).range ?_
       refine Stp.go ?_))
  constructor
  go_wp2_with (
    first
    | (refine wpStoreW row47 (by rfl) (.tmp 2) (.tmp 7) (by rfl) (by rfl) p2 zL (l.D v) (by kernel_rfl) (by kernel_rfl) rfl (D_one (by rw [unhide HV]; rfl)) (unhide HZ) rfl ?_
       intro W5 B5 K5
       replace HZ := hide B5
       replace HBO := hide ((unhide HBO).kept K5 (fun k hk => by have := unhide HFR k hk; have := unhide HLT; simp; omega))
       replace HK := hide ((unhide HK).fresh K5 (fun i hi hl => by have := (unhide HF).2; simp at hi; omega))
       clear B5 K5))
  exact bodyPost_ret (res52 _ p2 (l.D v) _ rfl rfl (unhide HZ)) rfl ⟨v, rfl, unhide HBO, fun k hk => (unhide HFR k hk).1, unhide HK⟩

end Go.Proofs.Ytpcggcicpojdoaa
