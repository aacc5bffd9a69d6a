/-
  The walks of form and Put over pairs.
-/
import Derived.Test.YtaljkpndfjfgdaaPair
import Derived.Deep.RegionHeld3
import Derived.Deep.DrawnRows
namespace Go.Proofs.Ytaljkpndfjfgdaa
open Go.RowKit
attribute [local go_sem ↓] Go.wp_at_zero Go.wp_at_succ

/-- 'append(own, src...)' as one operation, src some bytes. -/
theorem opAppOn {w : World} {o : Oper} {a : Act} {K : Act → World → Prop} {Q : Exit → Act → World → Prop} (s x : Operand)
    (ho : o.op = .call { callee := .builtin .append, args := #[s, x], argTypes := #[23, 23] })
    (B : Nat) (v : Value) (l : List Int) (hs : a.eval s = v) (ao : Option Addr) (m c : Nat) (hx : a.eval x = .slice ao m c) (ls : List Int) (hown : Owns w B v l) (hsrc : Holds w ao m c ls) (hne : 0 < ls.length) (hlen : l.length + ls.length ≤ 140737488355328) (hbase : B ≤ w.heap.size)
    (h : ∀ v' w', Owns w' B v' (l ++ ls) → w.grownBy w' v.ownBlock → K (a.put o.dst v') w') : o.wp Try.prog a w K Q := by
  obtain ⟨i0, hi, hz0, hz1, hz2⟩ := info_parts Try.info5
  obtain ⟨h1, _, h2, h3⟩ := hsrc
  subst h1
  cases ao with
  | none => have := (h2 rfl).1; omega
  | some ad =>
    refine wp_append_own w s x 23 ho B 5 i0 (.int .u8 0) 1 1 Try.underlying23 hi hz0 hz1 hz2 rfl (by decide) v _ _ hs hown ad _ c (u8s ls) hx (by simp [u8s]) (h3 ad rfl) (u8s_one ls) (by unfold maxLen; omega) (by omega) hbase ?_
    intro v' w' g1 g2 _
    refine h v' w' ?_ g2
    rw [← u8s_app, ← List.length_append] at g1
    exact g1

set_option maxHeartbeats 1000000 in
set_option maxRecDepth 100000 in
theorem form30 (a b : Nat) (w : World) (ha : a < 18446744073709551616) (hb : b < 18446744073709551616) :
    Calls Try.prog 30 #[.agg #[.int .u64 (a : Int), .int .u64 (b : Int)]] w fun e w' => Gives w w.heap.size (num a ++ num b) e w' := by
  have hL1 := num_len ha
  have hL2 := num_len hb
  have hp := num_pos b
  have u0 : (w.alloc (.cells #[.int .u64 (a : Int), .int .u64 (b : Int)] 59)).drew.cell? ⟨w.heap.size, 0, none⟩ = some (.int .u64 (a : Int)) := by simp
  have u1 : (w.alloc (.cells #[.int .u64 (a : Int), .int .u64 (b : Int)] 59)).drew.cell? ⟨w.heap.size, 1, none⟩ = some (.int .u64 (b : Int)) := by simp
  go_enter Try.func30, Try.ntmps30
  go_wp2
  have mark : True := trivial
  go_region_held3 (fun w' => w'.cell? ⟨w.heap.size, 0, none⟩ = some (.int .u64 (a : Int)) ∧ w'.cell? ⟨w.heap.size, 1, none⟩ = some (.int .u64 (b : Int))) (go_keep)
    (first
      | (go_at_call 9; clear mark; refine (number_any a _ ha).mono ?_; rintro e w1 ⟨ao1, m1, c1, rfl, hown1, hb1⟩; have k0 := Below.keeps hb1 _ _ u0; have k1 := Below.keeps hb1 _ _ u1)
      | (go_at_call 9; refine (number_any b _ hb).mono ?_; rintro e w2 ⟨ao2, m2, c2, rfl, hown2, hb2⟩; have n0 := Below.keeps hb2 _ _ k0; have n1 := Below.keeps hb2 _ _ k1; have o2 := (hown1.kept (below_grown hb2) (by intro k hk; cases hk)).2; have s2 := hown2.held; have hs2 := hb2.size)
      | (refine opAppOn _ _ (by rfl) _ _ _ (by rfl) _ _ _ (by rfl) _ o2 s2 hp (by omega) (Nat.le_trans hb1.size hs2) ?_; intro v3 w3 o3 g3; have z0 := g3.cell n0 (by intro e; have := (o2.lt _ e.symm).1; simp at this; omega); have z1 := g3.cell n1 (by intro e; have := (o2.lt _ e.symm).1; simp at this; omega)))
  have hB0 : Below w.heap.size w (w.alloc (.cells #[.int .u64 (a : Int), .int .u64 (b : Int)] 59)).drew := ((Below.refl w.heap.size w).alloc (Nat.le_refl _) _).drew
  have hB1 := hB0.trans (hb1.mono hB0.size)
  have hB2 := hB1.trans (hb2.mono hB1.size)
  have hB3 := hide (hB2.grown g3 hB2.size (by intro k hk; have := (o2.lt k hk).1; simp at this; omega))
  have ho3 := hide (Owns.lower o3 (B' := w.heap.size) (by simp))
  clear z0 z1 o3 g3 hB0 hB1 hB2 o2 s2 n0 n1 k0 k1 hb1 hb2 hown1 hown2
  go_wp2
  go_ret
  exact gives_of (unhide ho3) (unhide hB3)

/-- What is under way in Put. -/
theorem forms_take (l : List (Nat × Nat)) (k : Nat) (p : Nat × Nat) (h : l[k]? = some p) : forms (l.take (k + 1)) = forms (l.take k) ++ (num p.1 ++ num p.2) := by
  rw [List.take_add_one, h, forms_app]
  simp [forms]

theorem forms_take_le (l : List (Nat × Nat)) (k : Nat) : (forms (l.take k)).length ≤ (forms l).length := by
  have : forms l = forms (l.take k) ++ forms (l.drop k) := by rw [← forms_app, List.take_append_drop]
  rw [this]; simp

theorem eq61 (W : World) : Sem.run Try.prog (binOp BinOp.eql 61 (.func (.func 30) #[] #[]) .nilFunc) W = .ok (.bool false) W := by kernel_rfl

set_option maxHeartbeats 1000000 in
set_option maxRecDepth 100000 in
theorem put29 (lo : Option Addr) (lm lc : Nat) (l : List (Nat × Nat)) (w : World) (h : H2 w lo lm lc l) (hs : Small l) (hl : lm ≤ 1048577) :
    Calls Try.prog 29 #[.slice lo lm lc, .func (.func 30) #[] #[]] w fun e w' => ∃ ao m c, e = .returned (.tuple #[.slice ao m c, .int .i64 0]) ∧ OwnS w' w.heap.size ao m c (num lm ++ forms l) ∧ Below w.heap.size w w' := by
  have hlm := hide h.1
  have hfl := forms_len l hs
  have hL1 := num_len (n := lm) (by omega)
  have hfl2 : (forms l).length ≤ 20971540 := by have := hlm.out; omega
  clear hfl
  have hnil := eq61
  go_enter Try.func29, Try.ntmps29
  go_wp2_with fail
  refine (number_any lm _ (by omega)).mono ?_
  rintro e w1 ⟨ao1, m1, c1, rfl, hown1, hb1⟩
  have ho1 := hown1.2
  clear hown1
  go_wp2
  go_loopw [6, 8, 17] (fun v _ i wr => ∃ k : Nat, k ≤ lm ∧ i = .int .i64 k ∧ Owns wr w.heap.size v (num lm ++ forms (l.take k)) ∧ Below w.heap.size w wr) (fun _ _ i _ => lm - (intOf i).toNat)
  case atStart => exact ⟨0, by omega, rfl, by simpa [forms] using ho1, hb1⟩
  case round =>
    obtain ⟨k, hk, rfl, hown, hb⟩ := hrel
    have hsz := hb.size
    by_cases hlt : k < lm
    · obtain ⟨p, hp⟩ : ∃ p, l[k]? = some p := ⟨_, List.getElem?_eq_getElem (by rw [hlm.out]; exact hlt)⟩
      obtain ⟨g, off, rfl⟩ := h.lit.resolve_left (by intro e; rw [e] at hp; simp at hp)
      obtain ⟨c0, c1'⟩ := (h.below hb).pair k p hp
      have hft := hide (forms_take l k p hp)
      have hfl3 := forms_take_le l (k + 1)
      rw [hft.out] at hfl3
      have hps := hs p (List.mem_of_getElem? hp)
      clear hp
      revert hown hft hfl3
      generalize forms (l.take k) = F
      intro hown hft hfl3
      obtain ⟨a, b⟩ := p
      simp only at c0 c1' hft hfl3 hps
      have hownA : Owns (wr.alloc (.cells #[.int .u64 (a : Int), .int .u64 (b : Int)] 59)) w.heap.size u6 (num lm ++ F) := hown.alloc _
      have hbA := hb.alloc hsz (.cells #[.int .u64 (a : Int), .int .u64 (b : Int)] 59)
      go_wp2_with fail
      refine (form30 a b _ hps.1 hps.2).mono ?_
      rintro e w2 ⟨ao2, m2, c2, rfl, hown2, hb2⟩
      have hB2 := hbA.trans (hb2.mono hbA.size)
      have ho2 : Owns w2 w.heap.size u6 (num lm ++ F) := World.ownsRow.kept hownA (below_grown hb2) (by cases u6.ownBlock with | none => exact .inl rfl | some k => exact .inr (by simp))
      have hh2 := hown2.held
      have hsz2 := hB2.size
      clear hownA hbA hb2 hown hb
      go_wp2_with (at_builtin; go_must (refine wpApp rfl _ _ 23 5 rfl Try.underlying23 Try.info5 w.heap.size _ _ rfl _ _ _ rfl _ ho2 hh2 ?_ ?_ ?_))
      · simp at hfl3 ⊢; omega
      · omega
      intro v3 w3 hown3 hg3
      have hb3 : Below w.heap.size w w3 := rel_app ho2 hB2 (Nat.le_refl _) hg3
      have ho3 := owns_of hown3
      rw [← hft.out] at ho3
      clear hg3 hown3 ho2 hB2 hh2 hown2
      go_wp2
      go_roundw
      case rel => exact ⟨k + 1, by omega, by go_num, ho3, hb3⟩
      case measure => simp [intOf]; omega
    · obtain rfl : k = lm := by omega
      rw [List.take_of_length_le (by have := hlm.out; omega)] at hown
      obtain ⟨ao, c, rfl, _⟩ := Owns.holds hown
      have hfin := hide (And.intro hown hb)
      clear hown hb
      go_wp2
      go_ret2
      exact ⟨_, _, _, rfl, ⟨rfl, (unhide hfin).1⟩, (unhide hfin).2⟩

end Go.Proofs.Ytaljkpndfjfgdaa
