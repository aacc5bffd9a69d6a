/-
  Proved: for any bytes and any list of calls, the law WireReads returns true, and each argument reads afterwards as it read before. Condition: the arguments are together of bulk at most 1048576.
-/
import Derived.Test.YtaljkpndfjfgdaaReads
import Derived.Test.YtaljkpndfjfgdaaBulk
import Derived.Deep.SlicePairs
namespace Go.Proofs.Ytaljkpndfjfgdaa
open Go.ChangeShapes Go.WideShapes Go.ChangeAt Go.RowKit Go.Deep

theorem Try.cells43 : Try.prog.cellsOf 43 = 2 := by kernel_rfl
theorem Try.cells3 : Try.prog.cellsOf 3 = 1 := by kernel_rfl

/-- The calls that came in. -/
theorem calls_open {H : Type} {enc : TypeId × Value → H} {W : World} {fuel : Nat} {v : Value} {x : DataW H × List MemPlace}
    (h : DataW.trod enc Try.prog W 0 (fun _ => true) true fuel 35 [v] = some x) :
    ∃ (so : Option Addr) (sb soff sm sc : Nat) (K M : Nat → Int), v = .slice so sm sc ∧ (sm = 0 ∨ so = some ⟨sb, soff, none⟩) ∧
      (∀ i, i < sm → W.cell? ⟨sb, soff + i * 2, none⟩ = some (.int .i64 (K i)) ∧ W.cell? ⟨sb, soff + i * 2 + 1, none⟩ = some (.int .i64 (M i))) ∧ (∀ i, i < sm → M i ≤ 9223372036854775807) ∧ sm ≤ Rows.uptoBulk x.1 := by
  rcases open_slice_pairs Try.underlying35 Try.underlying43 Try.cells43 rfl rfl Try.cells3 Try.cells3 h with ⟨hcs, hx⟩ | ⟨a, len, cap, m, n, V0, V1, D0, D1, P0, P1, hcs, _, hl, _, hm, hx, hel⟩
  · cases hcs
    exact ⟨none, 0, 0, 0, 0, fun _ => 0, fun _ => 0, rfl, .inl rfl, fun i h => absurd h (by omega), fun i h => absurd h (by omega), by omega⟩
  · cases hcs
    simp only [if_true] at hm
    have hch : ∀ i, i < len → ∃ q : Int × Int, V0 i = .int .i64 q.1 ∧ V1 i = .int .i64 q.2 ∧ q.2 ≤ 9223372036854775807 := by
      intro i hi
      obtain ⟨_, _, h0, h1⟩ := hel i (by omega)
      obtain ⟨s, e0, _, _⟩ := DataW.trod_int Try.underlying3 h0
      obtain ⟨t, e1, _, w1⟩ := DataW.trod_int Try.underlying3 h1
      have b1 := bounds_i64 w1
      simp only [List.cons.injEq, and_true] at e0 e1
      exact ⟨(s, t), e0, e1, b1.2⟩
    have : Inhabited (Int × Int) := ⟨(0, 0)⟩
    obtain ⟨X, hX⟩ := choose_lt hch
    have hb2 := bulk_len ((List.range len).map fun i => DataW.agg [D0 i, D1 i])
    have hbulk : Rows.uptoBulkAll ((List.range len).map fun i => DataW.agg [D0 i, D1 i]) ≤ Rows.uptoBulk x.1 := by rw [hx]; simp only [Rows.uptoBulk]; omega
    rw [List.length_map, List.length_range] at hb2
    by_cases h0 : len = 0
    · subst h0
      exact ⟨some a, 0, 0, 0, cap, fun _ => 0, fun _ => 0, rfl, .inl rfl, fun i h => absurd h (by omega), fun i h => absurd h (by omega), by omega⟩
    · obtain ⟨b, off, spot⟩ := a
      have hsp : spot = none := by simpa [Addr.add] using World.cell?_spot (hel 0 (by omega)).1
      subst hsp
      refine ⟨_, b, off, len, cap, fun i => (X i).1, fun i => (X i).2, rfl, .inr rfl, ?_, fun i hi => (hX i hi).2.2, by omega⟩
      intro i hi
      obtain ⟨h1, h2, _, _⟩ := hel i (by omega)
      rw [Addr.add_lit] at h1 h2
      rw [(hX i hi).1] at h1
      rw [(hX i hi).2.1] at h2
      exact ⟨h1, by rw [Nat.add_assoc]; exact h2⟩

set_option maxRecDepth 100000 in
theorem slice_block {W : World} {r : Reach} {base : Nat} {ao : Option Addr} {m c : Nat} (h : Value.okWide Try.prog W r base 23 (.slice ao m c)) : ∀ a, ao = some a → a.block < W.heap.size := by
  intro a ha
  subst ha
  simp only [Value.okWide, Try.underlying23, Cell.okWide, Cell.ok] at h
  obtain ⟨_, _, _, _, row, cells, h3, _⟩ := h
  unfold World.shape? at h3
  cases hb : W.heap[a.block]? with
  | none => rw [hb] at h3; simp at h3
  | some o => exact (Array.getElem?_eq_some_iff.1 hb).1

set_option maxRecDepth 100000 in
theorem reads_contract (H : Type) (enc : TypeId × Value → H) (W : World) (base : Nat) (args : Array Value) (ds gs : List (DataW H)) (before : List MemPlace)
    (hval : ∀ (j : Nat) t v, Try.f4.params[j]? = some t → args[j]? = some v → Value.okWide Try.prog W .any base t v)
    (hW : DataW.Whole enc Try.prog Try.f4.params.toList Rows.wireReadsSpec.vars false W args.toList ds gs before) (hk : Rows.uptoSmall H (ds ++ gs) = true) :
    Calls Try.prog 4 args W fun e W' => ∃ v, e = .returned v ∧ Rows.wireReadsSpec.post enc Try.prog Try.f4 false true false false W args v W' := by
  have hW' := hW
  obtain ⟨p, q, hA0, hV, rfl, hfz, hnd⟩ := hW
  have hA : DataW.TrodAll enc Try.prog W 0 (fun _ => true) true Try.f4.params.toList args.toList ds p := hA0
  rw [Try.params4] at hA hval
  obtain ⟨v0, vs0, d0, ds0, p0, q0, hargs, rfl, rfl, h0, r0⟩ := trodAll_cons hA
  obtain ⟨v1, vs1, d1, ds1, p1, q1, rfl, rfl, rfl, h1, r1⟩ := trodAll_cons r0
  obtain ⟨rfl, rfl, rfl⟩ := trodAll_nil r1
  obtain rfl : args = #[v0, v1] := by cases args; simp_all
  obtain ⟨rfl, rfl⟩ := trodVars_none hV
  have k0 := h0
  have k1 := h1
  have lt0 : ∀ x ∈ p0, x.block < W.heap.size := by obtain ⟨m, hm⟩ := k0; exact DataW.trod_lt m _ _ _ hm
  have lt1 : ∀ x ∈ p1, x.block < W.heap.size := by obtain ⟨m, hm⟩ := k1; exact DataW.trod_lt m _ _ _ hm
  have hsum := bulk_two hk
  have o0 := hval 0 23 v0 rfl rfl
  obtain ⟨a0, len0, cap0, rfl⟩ := okWide_slice Try.underlying23 o0
  obtain ⟨a1, len1, cap1, rfl⟩ := okWide_slice Try.underlying35 (hval 1 35 v1 rfl rfl)
  obtain ⟨bo, bm, bc, bl, hv0, hB, hyB, hrB⟩ : ∃ ao m c l, Value.slice a0 len0 cap0 = .slice ao m c ∧ Holds W ao m c l ∧ Byt l ∧ Reads d0 m := by
    obtain ⟨fuel, hf⟩ := h0
    obtain ⟨ao, m, c, l, g1, g2, g3, g4⟩ := bytes_open (v := .slice a0 len0 cap0) hf
    exact ⟨ao, m, c, l, g1, g2, g3, g4⟩
  cases hv0
  obtain ⟨so, sb, soff, sm, sc, K, M, hv1, hso, hc, hM, hb1⟩ : ∃ (so : Option Addr) (sb soff sm sc : Nat) (K M : Nat → Int), Value.slice a1 len1 cap1 = .slice so sm sc ∧ (sm = 0 ∨ so = some ⟨sb, soff, none⟩) ∧
      (∀ i, i < sm → W.cell? ⟨sb, soff + i * 2, none⟩ = some (.int .i64 (K i)) ∧ W.cell? ⟨sb, soff + i * 2 + 1, none⟩ = some (.int .i64 (M i))) ∧ (∀ i, i < sm → M i ≤ 9223372036854775807) ∧ sm ≤ Rows.uptoBulk d1 := by
    obtain ⟨fuel, hf⟩ := h1
    exact calls_open (v := .slice a1 len1 cap1) hf
  cases hv1
  have hbm := reads_bulk hrB
  clear hA0
  refine (reads4 _ _ _ bl _ sb soff _ _ K M W hB hyB (by omega) (slice_block o0) hso (by omega) hc hM).mono fun e W' ⟨he, bel⟩ => ?_
  subst he
  exact ⟨_, rfl, _, _, _, [], _, [], hW', trodAll_mk1 (shut_bool Try.underlying4 _), (trodAll_cons_mk (Below.trod Try.laidOut (by kernel_rfl) (of_decide_eq_true (by kernel_rfl)) k0 bel lt0) (trodAll_cons_mk (Below.trod Try.laidOut (by kernel_rfl) (of_decide_eq_true (by kernel_rfl)) k1 bel lt1) trodAll_mk0)), rfl, bel.frame _, fun h => by cases h⟩

set_option maxRecDepth 100000 in
theorem reads_lifted (os : Os) (started : os.Started) (H : Type) (enc : TypeId × Value → H) (F : Stop.Interp) :
    ReturnsInHanded {} Try.checked os 4 .any ((Rows.OpenSpec.upto Rows.wireReadsSpec).pre6 enc Try.prog Try.f4 Rows.wireReadsUptoRow.domain false) (((Rows.OpenSpec.upto Rows.wireReadsSpec).at F).post enc Try.prog Try.f4 false true false false) := by
  refine returnsInHanded_of_cond (C := Try.checked) (s := Rows.OpenSpec.upto Rows.wireReadsSpec) (k := Rows.uptoSmall) rfl own started (by kernel_rfl) Try.func4
    (OpenSpec.witness (enc := enc) (C := Try.checked) (s := Rows.OpenSpec.upto Rows.wireReadsSpec) (k := Rows.uptoSmall) rfl false ⟨#[], #[.slice none 0 0, .slice none 0 0], []⟩ 8 (by kernel_rfl) (by kernel_rfl) (by kernel_rfl)
      (x := ([.nil, .nil], [], [])) (by kernel_rfl) rfl (by kernel_rfl)) ?_
  intro W base args ds gs before hval hW _ hk _
  exact reads_contract H enc W base args ds gs before hval hW hk

/-- The statement. -/
theorem wireReads_holds : Rows.WireReadsUptoSaid :=
  OpenClaim.holds_of_cond 4 Try.f4 rfl rfl rfl rfl rfl rfl rfl ⟨rfl, rfl, rfl, rfl, rfl⟩ rfl rfl rfl rfl rfl (by kernel_rfl) Try.func4 (by kernel_rfl)
    (of_decide_eq_true (by kernel_rfl)) (by unfold Func.isWrapper; rw [if_neg (of_decide_eq_false (by kernel_rfl))]; exact ⟨rfl, rfl⟩)
    (fun os started H enc _ F => reads_lifted os started H enc F)

#print axioms wireReads_holds

end Go.Proofs.Ytaljkpndfjfgdaa
