/-
  Proved: for any list of pairs and any place of the cut, the law WireLists returns true, and each argument reads afterwards as it read before. Condition: the arguments are together of bulk at most 1048576.
-/
import Derived.Test.YtaljkpndfjfgdaaLists
import Derived.Test.YtaljkpndfjfgdaaBulk
import Derived.OpenShut
namespace Go.Proofs.Ytaljkpndfjfgdaa
open Go.ChangeShapes Go.WideShapes Go.ChangeAt Go.RowKit Go.Deep

theorem Try.cells59 : Try.prog.cellsOf 59 = 2 := by kernel_rfl

theorem list_two {α : Type} {l : List α} (h : l.length = 2) : ∃ a b, l = [a, b] := by
  match l, h with
  | [a, b], _ => exact ⟨a, b, rfl⟩

/-- The pairs that came in. -/
theorem pairs_open {H : Type} {enc : TypeId × Value → H} {W : World} {fuel : Nat} {v : Value} {x : DataW H × List MemPlace}
    (h : DataW.trod enc Try.prog W 0 (fun _ => true) true fuel 58 [v] = some x) :
    ∃ (lo : Option Addr) (lm lc : Nat) (l : List (Nat × Nat)), v = .slice lo lm lc ∧ H2 W lo lm lc l ∧ Small l ∧ lm ≤ Rows.uptoBulk x.1 := by
  rcases open_slice Try.underlying58 h with ⟨hcs, hx⟩ | ⟨a, len, cap, m, n, D, Pl, hcs, _, hl, _, hm, hx, hel⟩
  · cases hcs
    exact ⟨none, 0, 0, [], rfl, ⟨rfl, Nat.le_refl _, fun _ => ⟨rfl, rfl⟩, fun ad h => (by cases h)⟩, fun p hp => (by cases hp), by omega⟩
  · cases hcs
    simp only [if_true] at hm
    have hch : ∀ i, i < len → ∃ q : Nat × Nat, W.cell? (a.add (i * 2)) = some (.int .u64 (q.1 : Int)) ∧ W.cell? (a.add (i * 2 + 1)) = some (.int .u64 (q.2 : Int)) ∧ q.1 < 18446744073709551616 ∧ q.2 < 18446744073709551616 := by
      intro i hi
      obtain ⟨cs', h1, h2⟩ := hel i (by omega)
      rw [Try.cells59] at h1
      obtain ⟨_, hlen, hcell⟩ := World.cells?_some h1
      obtain ⟨xs, k, _, _, _, hxl, hf⟩ := DataW.trod_array Try.under59 h2
      obtain ⟨y0, y1, rfl⟩ : ∃ y0 y1, xs = [y0, y1] := list_two hxl
      obtain ⟨v0, v1, rfl⟩ : ∃ v0 v1, cs' = [v0, v1] := list_two hlen
      have g0 := hf 0 (by decide)
      have g1 := hf 1 (by decide)
      simp [Try.cells22] at g0 g1
      obtain ⟨s, e0, _, b0⟩ := DataW.trod_int Try.underlying22 g0
      obtain ⟨t, e1, _, b1⟩ := DataW.trod_int Try.underlying22 g1
      have b0' := bounds_u64 b0
      have b1' := bounds_u64 b1
      simp only [List.cons.injEq, and_true] at e0 e1
      have k0 := hcell 0 (by omega)
      have k1 := hcell 1 (by omega)
      rw [add_add] at k0 k1
      subst e0 e1
      refine ⟨(s.toNat, t.toNat), ?_, ?_, by simp only; omega, by simp only; omega⟩
      · simp only [Int.toNat_of_nonneg b0'.1]; simpa using k0
      · simp only [Int.toNat_of_nonneg b1'.1]; simpa using k1
    obtain ⟨X, hX⟩ := choose_lt hch
    have hb2 := bulk_len ((List.range len).map D)
    have hbulk : Rows.uptoBulkAll ((List.range len).map D) ≤ Rows.uptoBulk x.1 := by rw [hx]; simp only [Rows.uptoBulk]; omega
    rw [List.length_map, List.length_range] at hb2
    refine ⟨some a, len, cap, (List.range len).map X, rfl, ⟨by simp, hl, fun h => (by cases h), ?_⟩, ?_, by omega⟩
    · intro ad had j u hj
      cases had
      have hjl : j < len * 2 := by
        have := (List.getElem?_eq_some_iff.1 hj).1
        rw [p2s_len] at this; simpa using this
      have hi : j / 2 < len := by omega
      obtain ⟨p0, p1⟩ := p2s_at ((List.range len).map X) (j / 2) (X (j / 2)) (by simp [hi])
      obtain ⟨k0, k1, _, _⟩ := hX (j / 2) hi
      rcases Nat.mod_two_eq_zero_or_one j with hz | hz
      · have e : j / 2 * 2 = j := by omega
        rw [e] at p0 k0
        rw [k0, ← hj, p0]
      · have e : j / 2 * 2 + 1 = j := by omega
        rw [e] at p1 k1
        rw [k1, ← hj, p1]
    · intro p hp
      simp only [List.mem_map, List.mem_range] at hp
      obtain ⟨i, hi, rfl⟩ := hp
      exact ⟨(hX i hi).2.2.1, (hX i hi).2.2.2⟩

set_option maxRecDepth 100000 in
theorem lists_contract (H : Type) (enc : TypeId × Value → H) (W : World) (base : Nat) (args : Array Value) (ds gs : List (DataW H)) (before : List MemPlace)
    (hval : ∀ (j : Nat) t v, Try.f6.params[j]? = some t → args[j]? = some v → Value.okWide Try.prog W .any base t v)
    (hW : DataW.Whole enc Try.prog Try.f6.params.toList Rows.wireListsSpec.vars false W args.toList ds gs before) (hk : Rows.uptoSmall H (ds ++ gs) = true) :
    Calls Try.prog 6 args W fun e W' => ∃ v, e = .returned v ∧ Rows.wireListsSpec.post enc Try.prog Try.f6 false true false false W args v W' := by
  have hW' := hW
  obtain ⟨p, q, hA0, hV, rfl, hfz, hnd⟩ := hW
  have hA : DataW.TrodAll enc Try.prog W 0 (fun _ => true) true Try.f6.params.toList args.toList ds p := hA0
  rw [Try.params6] at hA hval
  obtain ⟨v0, vs0, d0, ds0, p0, q0, hargs, rfl, rfl, h0, r0⟩ := trodAll_cons hA
  obtain ⟨v1, vs1, d1, ds1, p1, q1, rfl, rfl, rfl, h1, r1⟩ := trodAll_cons r0
  obtain ⟨rfl, rfl, rfl⟩ := trodAll_nil r1
  obtain rfl : args = #[v0, v1] := by cases args; simp_all
  obtain ⟨rfl, rfl⟩ := trodVars_none hV
  have k0 := h0
  have k1 := h1
  have lt0 : ∀ x ∈ p0, x.block < W.heap.size := by obtain ⟨m, hm⟩ := k0; exact DataW.trod_lt m _ _ _ hm
  have lt1 : ∀ x ∈ p1, x.block < W.heap.size := by obtain ⟨m, hm⟩ := k1; exact DataW.trod_lt m _ _ _ hm
  have hsum := bulk_two hk
  obtain ⟨a0, len0, cap0, rfl⟩ := okWide_slice Try.underlying58 (hval 0 58 v0 rfl rfl)
  obtain ⟨c, rfl⟩ := okWide_int Try.underlying3 (hval 1 3 v1 rfl rfl)
  obtain ⟨lo, lm, lc, l, hv0, hL, hs, hlm⟩ : ∃ (lo : Option Addr) (lm lc : Nat) (l : List (Nat × Nat)), Value.slice a0 len0 cap0 = .slice lo lm lc ∧ H2 W lo lm lc l ∧ Small l ∧ lm ≤ Rows.uptoBulk d0 := by
    obtain ⟨fuel, hf⟩ := h0
    exact pairs_open (v := .slice a0 len0 cap0) hf
  cases hv0
  have hcb : -9223372036854775808 ≤ c ∧ c ≤ 9223372036854775807 := by
    obtain ⟨fuel, hf⟩ := h1
    obtain ⟨t, e1, _, w1⟩ := DataW.trod_int (cs := [.int .i64 c]) Try.underlying3 hf
    simp only [List.cons.injEq, and_true, Value.int.injEq, true_and] at e1
    subst e1
    exact bounds_i64 w1
  clear hA0
  refine (lists6 _ _ _ l c W hL hs (by omega) hcb.1 hcb.2).mono fun e W' ⟨he, bel⟩ => ?_
  subst he
  exact ⟨_, rfl, _, _, _, [], _, [], hW', trodAll_mk1 (shut_bool Try.underlying4 _), (trodAll_cons_mk (Below.trod Try.laidOut (by kernel_rfl) (of_decide_eq_true (by kernel_rfl)) k0 bel lt0) (trodAll_cons_mk (Below.trod Try.laidOut (by kernel_rfl) (of_decide_eq_true (by kernel_rfl)) k1 bel lt1) trodAll_mk0)), rfl, bel.frame _, fun h => by cases h⟩

set_option maxRecDepth 100000 in
theorem lists_lifted (os : Os) (started : os.Started) (H : Type) (enc : TypeId × Value → H) (F : Stop.Interp) :
    ReturnsInHanded {} Try.checked os 6 .any ((Rows.OpenSpec.upto Rows.wireListsSpec).pre6 enc Try.prog Try.f6 Rows.wireListsUptoRow.domain false) (((Rows.OpenSpec.upto Rows.wireListsSpec).at F).post enc Try.prog Try.f6 false true false false) := by
  refine returnsInHanded_of_cond (C := Try.checked) (s := Rows.OpenSpec.upto Rows.wireListsSpec) (k := Rows.uptoSmall) rfl own started (by kernel_rfl) Try.func6
    (OpenSpec.witness (enc := enc) (C := Try.checked) (s := Rows.OpenSpec.upto Rows.wireListsSpec) (k := Rows.uptoSmall) rfl false ⟨#[], #[.slice none 0 0, .int .i64 0], []⟩ 8 (by kernel_rfl) (by kernel_rfl) (by kernel_rfl)
      (x := ([.nil, .lit (.int .i64 0)], [], [])) (by kernel_rfl) rfl (by kernel_rfl)) ?_
  intro W base args ds gs before hval hW _ hk _
  exact lists_contract H enc W base args ds gs before hval hW hk

/-- The statement. -/
theorem wireLists_holds : Rows.WireListsUptoSaid :=
  OpenClaim.holds_of_cond 6 Try.f6 rfl rfl rfl rfl rfl rfl rfl ⟨rfl, rfl, rfl, rfl, rfl⟩ rfl rfl rfl rfl rfl (by kernel_rfl) Try.func6 (by kernel_rfl)
    (of_decide_eq_true (by kernel_rfl)) (by unfold Func.isWrapper; rw [if_neg (of_decide_eq_false (by kernel_rfl))]; exact ⟨rfl, rfl⟩)
    (fun os started H enc _ F => lists_lifted os started H enc F)

#print axioms wireLists_holds

end Go.Proofs.Ytaljkpndfjfgdaa
