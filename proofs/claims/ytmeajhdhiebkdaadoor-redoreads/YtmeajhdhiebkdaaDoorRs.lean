/-
  slices.Clone of records, and Records of a log that stands.
-/
import Derived.Test.YtmeajhdhiebkdaaDoorLw
import Derived.Test.YtmeajhdhiebkdaaDoorLl
namespace Go.Proofs.YtmeajhdhiebkdaaDoor
set_option maxRecDepth 100000
open Go.RowKit

theorem wpAppM {ops : Array Oper} {rest : List Oper} {op : Oper} {a : Act} {w : World} {Q : Exit → Act → World → Prop} (hgd : op.guard = none) (s x : Operand) (ho : op.op = .call { callee := .builtin .append, args := #[s, x], argTypes := #[37, 37] }) (base : Nat) (v : Value) (hs : a.eval s = v) (hO : w.ownsRow base 45 101 v 0 []) (ad : Addr) (m c : Nat) (news : List Value) (hx : a.eval x = .slice (some ad) m c) (hl : news.length = m * 101) (hnews : ∀ j u, news[j]? = some u → w.cell? (ad.add j) = some u) (hone : ∀ u ∈ news, u.oneCell' = true) (hm : m ≤ 1000) (hb : base ≤ w.heap.size)
    (h : ∀ v' w', w'.ownsRow base 45 101 v' m news → Kept v.ownBlock.toList w w' → wpList Tryd.prog ops Q rest (a.put op.dst v') w') : wpList Tryd.prog ops Q (op :: rest) a w :=
  wpList_plain hgd fun K hK => by
    obtain ⟨i, hi, hz0, hz1, hz2⟩ := info_parts Tryd.info45
    obtain ⟨v', w', hr, g2, g3, _, _⟩ := run_append_own_at (P := Tryd.prog) w base 37 op.type 45 i _ 101 136 Tryd.sl37 hi hz0 hz1 hz2 rfl (by decide) v 0 [] hO ad m c news hl hnews hone (by unfold maxLen; omega) (by omega) hb
    rw [Nat.zero_add, List.nil_append] at g2
    unfold Oper.wp execOp
    simp only [ho, resolve, invoke, builtin, Sem.run_bind, Sem.run_pure, Result.andThen_ok, List.map_toArray, List.map_cons, List.map_nil, hs, hx, hr]
    exact hK _ _ (h v' w' g2 (Kept.of_grown g3 (fun k e _ => by rw [e]; simp)))
theorem bs37e (w : World) : (Instr.buildSlice 37 0 #[]).run Tryd.prog w = .ok (.slice (some ⟨w.heap.size, 0, none⟩) 0 0) (w.alloc (.cells #[] 45)) := by kernel_rfl
theorem wpBs37e {ops : Array Oper} {rest : List Oper} {op : Oper} {a : Act} {w : World} {Q : Exit → Act → World → Prop} (hgd : op.guard = none) (ho : op.op = .buildSlice 37 0 #[])
    (h : ∀ W g, g = w.heap.size → W.ownsRow w.heap.size 45 101 (.slice (some ⟨g, 0, none⟩) 0 0) 0 [] → Kept [] w W → wpList Tryd.prog ops Q rest (a.put op.dst (.slice (some ⟨g, 0, none⟩) 0 0)) W) : wpList Tryd.prog ops Q (op :: rest) a w :=
  wpList_plain hgd fun K hK => by
    unfold Oper.wp execOp
    simp only [ho, List.map_toArray, List.map_nil, Sem.run_bind, bs37e, Result.andThen_ok]
    exact hK _ _ (h _ _ rfl ⟨rfl, .inr ⟨w.heap.size, 0, #[], rfl, Nat.le_refl _, heap_alloc_new w _, Nat.le_refl _, by decide, rfl, rfl⟩⟩ ((Kept.refl _ _).alloc _))
theorem clone51 (v : Value) (R : List Rc.Rec) (w : World) (h : OwnO w v R.length (cellsR R)) (hm : R.length ≤ 1000) :
    Calls Tryd.prog 51 #[v] w fun e w' => ∃ v', e = .returned v' ∧ OwnO w' v' R.length (cellsR R) ∧ (∀ k, v'.ownBlock = some k → w.heap.size ≤ k) ∧ Kept [] w w' := by
  have hone : ∀ u ∈ cellsR R, u.oneCell' = true := by
    intro u hu
    simp only [cellsR, List.mem_flatten, List.mem_map] at hu
    obtain ⟨l, ⟨r, _, rfl⟩, hl⟩ := hu
    exact recC_one r u hl
  have hlen := h.len
  obtain ⟨ao, c, hv, _, hnil⟩ := h.sl
  subst hv
  obtain ⟨m, hme⟩ : ∃ m, R.length = m := ⟨_, rfl⟩
  rw [hme] at h hlen hm ⊢
  cases ao with
  | none =>
    obtain rfl : c = 0 := hnil rfl
    obtain rfl : m = 0 := by
      rcases h.lie with ⟨_, h1⟩ | ⟨g, off, cap, cur, h1, _⟩
      · exact h1
      · cases h1
    have hq : ∀ W, Sem.run Tryd.prog (binOp BinOp.eql 37 (.slice none 0 0) (.slice none 0 0)) W = .ok (.bool true) W := fun W => by kernel_rfl
    have HO := hide h
    clear h
    go_enter Tryd.func51, Tryd.ntmps51
    go_wp2_with fail
    go_ret
    exact ⟨_, rfl, unhide HO, (fun k e => by cases e), Kept.refl _ _⟩
  | some ad =>
    have HO := hide h
    have HL := hide hlen
    have HN := hide hone
    have hq : ∀ W, Sem.run Tryd.prog (binOp BinOp.eql 37 (.slice (some ad) m c) (.slice none 0 0)) W = .ok (.bool false) W := fun W => by kernel_rfl
    clear h hlen hone hnil
    go_enter Tryd.func51, Tryd.ntmps51
    go_wp2_with (
      first
      | (refine wpBs37e (by rfl) (by rfl) ?_
         intro W1 g1 e1 B1 K1
         have HB := hide B1
         have HK := hide K1
         have HE : Hid (w.heap.size ≤ g1) := by rw [e1]; exact (Nat.le_refl _ : w.heap.size ≤ w.heap.size)
         clear e1 B1 K1
         refine Stp.go ?_))
    constructor
    go_wp2_with (
      first
      | (refine wpAppM (by rfl) (.tmp 5) (.tmp 6) (by rfl) w.heap.size _ (by kernel_rfl) (unhide HB) ad m c (cellsR R) (by kernel_rfl) (unhide HL) (fun j u hj => (OwnO.kept (unhide HO) (unhide HK) (by simp)).cell hj) (unhide HN) hm (unhide HK).size ?_
         intro v4 W4 B4 K4
         have HB4 := hide B4
         have HK4 : Hid (Kept [] w W4) := (unhide HK).fresh K4 (fun i hi hl => by have := unhide HE; simp [Value.ownBlock] at hi; omega)
         clear B4 K4
         refine Stp.go ?_))
    constructor
    go_wp2_with fail
    go_ret
    refine ⟨_, rfl, own_O (unhide HB4), fun k e => ?_, unhide HK4⟩
    rcases (unhide HB4).2 with ⟨h1, _⟩ | ⟨g, cap, cur, h1, h2, _⟩
    · rw [h1] at e; cases e
    · rw [h1] at e; cases e; exact h2
theorem rz37 (w : World) : (Instr.alloc 37 true (.tuple #[])).run Tryd.prog w = .ok (P0 w.heap.size) (w.alloc (.cells [Value.slice none 0 0].toArray 37)) := by kernel_rfl
/-- Records of a log that stands: a row of its own. -/
theorem recs29 (l b g : Nat) (rv : Value) (D : Dv.Dev) (L : Lo) (w : World) (h : Lt w l b g rv D L) : Calls Tryd.prog 29 #[P0 l] w fun e w' => ∃ c u, e = .returned (.func (.func 52) #[] #[P0 c]) ∧ Blk w' c 37 [u] ∧ OwnO w' u L.R.length (cellsR L.R) ∧ (∀ k, u.ownBlock = some k → w.heap.size ≤ k) ∧ w.heap.size ≤ c ∧ Kept [] w w' := by
  have HL := hide h
  have HS : Hid (L.R.length ≤ 1000) := by have := h.lo; show _ ≤ _; omega
  clear h
  go_enter Tryd.func29, Tryd.ntmps29
  go_wp2_with (
    first
    | (refine wpAllocW [.slice none 0 0] (fun w => rz37 w) 3 (by rfl) (by rfl) (by rfl) ?_
       intro W2 c ec B2 K2
       have HB := hide B2
       have HK := hide K2
       have HG : Hid (w.heap.size ≤ c) := by rw [ec]; exact (Nat.le_refl _ : w.heap.size ≤ w.heap.size)
       replace HL := hide ((unhide HL).kept0 K2)
       have hc9 := (unhide HL).cells.2.2.2.2.2.1
       clear ec B2 K2
       refine Stp.go ?_))
  constructor
  go_wp2_with (
    first
    | (go_at_call 33
       refine (none33 l b g rv D L _ (unhide HL)).mono ?_
       rintro e W3 ⟨rfl, hw9⟩
       replace hw9 := hw9.symm
       subst hw9
       refine Stp.go ?_))
  constructor
  go_wp2_with (
    first
    | (go_at_call 51
       refine (clone51 rv L.R _ (unhide HL).row (unhide HS)).mono ?_
       rintro e W4 ⟨u, rfl, hO, hu, K4⟩
       have HO := hide hO
       have HU := hide hu
       obtain ⟨ro, rc, hur, _, _⟩ := hO.sl
       have HUR := hide hur
       replace HB := hide ((unhide HB).kept K4 (by simp))
       have HZ := hide (unhide HK).size
       replace HK := hide ((unhide HK).trans K4)
       clear hO hu hur K4 hc9
       refine Stp.go ?_))
  constructor
  go_wp2_with (
    first
    | (refine wpSt37 (by rfl) (.tmp 3) (.tmp 11) (by rfl) (by rfl) c 0 37 [.slice none 0 0] u (by kernel_rfl) (by kernel_rfl) ⟨_, _, _, unhide HUR⟩ (unhide HB) (by simp) ?_
       intro W5 B5 K5
       have HB5 : Hid (Blk W5 c 37 [u]) := B5
       have HO5 : Hid (OwnO W5 u L.R.length (cellsR L.R)) := (unhide HO).kept K5 (fun k e hm => by
         simp at hm
         subst hm
         obtain ⟨cs, hcs⟩ := (unhide HO).block _ e
         have h9 := unhide HB
         unfold Blk at h9
         rw [h9] at hcs
         injection hcs with hcs
         injection hcs with _ hcs
         exact absurd hcs (by decide))
       have HK5 : Hid (Kept [] w W5) := (unhide HK).fresh K5 (fun i hi hl => by have := unhide HG; simp at hi; omega)
       clear B5 K5
       refine Stp.go ?_))
  constructor
  go_wp2_with fail
  go_ret
  exact ⟨c, u, rfl, unhide HB5, unhide HO5, (fun k e => Nat.le_trans (unhide HZ) (unhide HU k e)), unhide HG, unhide HK5⟩

end Go.Proofs.YtmeajhdhiebkdaaDoor
