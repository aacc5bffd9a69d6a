/-
  Laws for comparing arrays and structs as a whole.
-/
import Derived.Test.YtmeajhdhiebkdaaDoorRcArr
namespace Go.Proofs.YtmeajhdhiebkdaaDoor.Rc
set_option maxRecDepth 100000
open Go.RowKit

theorem equal_byts' (W : World) (T n d : Nat) (hd : 2 ≤ d) (hu : Tryd.prog.underlying T = some (.array n 5)) (s t : List Int) (hs : s.length = n) (ht : t.length = n) : (Op.equalIn d T (aggV (u8s s)) (aggV (u8s t))).run Tryd.prog W = .ok (decide (s = t)) W := by
  obtain ⟨k, rfl⟩ : ∃ k, d = k + 2 := ⟨d - 2, by omega⟩
  exact equal_byts W T n k hu s t hs ht
theorem guard23 : Tryd.prog.eqGuardType Tryd.prog.depth 26 = false := by kernel_rfl
theorem guard61 : Tryd.prog.eqGuardType Tryd.prog.depth 28 = false := by kernel_rfl
theorem guard29 : Tryd.prog.eqGuardType Tryd.prog.depth 80 = false := by kernel_rfl
theorem guard30 : Tryd.prog.eqGuardType Tryd.prog.depth 81 = false := by kernel_rfl
theorem equal23 (W : World) (s t : List Int) (hs : s.length = 96) (ht : t.length = 96) : (Op.equal 26 (aggV (u8s s)) (aggV (u8s t))).run Tryd.prog W = .ok (decide (s = t)) W := equal_byts W 26 96 9998 Tryd.underlying26 s t hs ht
theorem equal29 (W : World) (s t : List Int) (hs : s.length = 64) (ht : t.length = 64) : (Op.equal 80 (aggV (u8s s)) (aggV (u8s t))).run Tryd.prog W = .ok (decide (s = t)) W := equal_byts W 80 64 9998 Tryd.underlying80 s t hs ht

theorem part_agg (W : World) (T n : Nat) (hT : Row T n) (pre vs post : List Value) (o : Nat) (ho : pre.length = o) (hl : vs.length = n) : (part T (pre ++ vs ++ post).toArray o).run Tryd.prog W = .ok (aggV vs) W := by
  obtain ⟨d, h1, h2, h3⟩ := hT
  cases hq : Tryd.prog.info? T with
  | none => simp [hq] at h3
  | some i =>
    have hs : i.size = n := by simpa [hq] using h3
    have hagg : (isAgg T).run Tryd.prog W = .ok true W := by
      unfold isAgg
      rw [Sem.run_bind, run_underlying h1 W]
      cases d <;> simp_all
    have he : ((pre ++ vs ++ post).toArray.extract o (o + n)) = vs.toArray := by
      subst ho hl
      simp [List.extract_toArray, List.extract_eq_take_drop]
    simp [part, Sem.run_bind, hagg, sizeOf, typeInfo, hq, hs, aggV]
    simpa using he

theorem items_nil (W : World) (d T n : Nat) (xs ys : Array Value) : (Op.eqItems d T n xs ys []).run Tryd.prog W = .ok true W := by simp [Op.eqItems]
theorem items_step (W : World) (d T n i o : Nat) (xs ys : Array Value) (is : List Nat) (a b : Value) (c e : Bool) (ho : i * n = o) (pa : (part T xs o).run Tryd.prog W = .ok a W) (pb : (part T ys o).run Tryd.prog W = .ok b W) (he : (Op.equalIn d T a b).run Tryd.prog W = .ok c W) (hf : (Op.eqItems d T n xs ys is).run Tryd.prog W = .ok e W) :
    (Op.eqItems d T n xs ys (i :: is)).run Tryd.prog W = .ok (c && e) W := by
  subst ho
  simp only [Op.eqItems, Sem.run_bind, pa, pb, he, Result.andThen_ok]
  cases c <;> simp [hf]
theorem fields_nil (W : World) (d : Nat) (xs ys : Array Value) : (Op.eqFields d xs ys []).run Tryd.prog W = .ok true W := by simp [Op.eqFields]
theorem fields_step (W : World) (d T o : Nat) (xs ys : Array Value) (f : Field) (fs : List Field) (a b : Value) (c e : Bool) (hn : f.name ≠ "_") (hT : f.type = T) (ho : f.offset = o) (pa : (part T xs o).run Tryd.prog W = .ok a W) (pb : (part T ys o).run Tryd.prog W = .ok b W) (he : (Op.equalIn d T a b).run Tryd.prog W = .ok c W) (hf : (Op.eqFields d xs ys fs).run Tryd.prog W = .ok e W) :
    (Op.eqFields d xs ys (f :: fs)).run Tryd.prog W = .ok (c && e) W := by
  subst hT ho
  simp only [Op.eqFields, ne_eq, hn, not_false_eq_true, if_true, Sem.run_bind, pa, pb, he, Result.andThen_ok]
  cases c <;> simp [hf]

theorem equal30 (W : World) (a b c d : List Int) (ha : a.length = 64) (hb : b.length = 64) (hc : c.length = 64) (hd : d.length = 64) : (Op.equal 81 (aggV (u8s (a ++ b))) (aggV (u8s (c ++ d)))).run Tryd.prog W = .ok (decide (a = c) && decide (b = d)) W := by
  have hi : ∃ i, Tryd.prog.info? 80 = some i ∧ i.size = 64 := by
    obtain ⟨_, _, _, h3⟩ := row29
    cases hq : Tryd.prog.info? 80 with
    | none => simp [hq] at h3
    | some i => exact ⟨i, rfl, by simpa [hq] using h3⟩
  obtain ⟨i0, hi, _⟩ := hi
  have h := run_equalIn_array (P := Tryd.prog) W 9999 (u8s (a ++ b)).toArray (u8s (c ++ d)).toArray Tryd.underlying81 hi
  have hcl : Tryd.prog.cellsOf 80 = 64 := by kernel_rfl
  have p1 := part_agg W 80 64 row29 [] (u8s a) (u8s b) 0 rfl (by rw [u8s_len, ha])
  have p2 := part_agg W 80 64 row29 (u8s a) (u8s b) [] 64 (by rw [u8s_len, ha]) (by rw [u8s_len, hb])
  have p3 := part_agg W 80 64 row29 [] (u8s c) (u8s d) 0 rfl (by rw [u8s_len, hc])
  have p4 := part_agg W 80 64 row29 (u8s c) (u8s d) [] 64 (by rw [u8s_len, hc]) (by rw [u8s_len, hd])
  rw [List.nil_append, ← u8s_app] at p1 p3
  rw [List.append_nil, ← u8s_app] at p2 p4
  have e1 := equal_byts' W 80 64 9999 (by omega) Tryd.underlying80 a c ha hc
  have e2 := equal_byts' W 80 64 9999 (by omega) Tryd.underlying80 b d hb hd
  rw [hcl] at h
  refine h.trans ?_
  have hh := items_step W 9999 80 64 0 0 _ _ [1] _ _ _ _ rfl p1 p3 e1 (items_step W 9999 80 64 1 64 _ _ [] _ _ _ _ rfl p2 p4 e2 (items_nil ..))
  rw [Bool.and_true] at hh
  exact hh

/-- A version as cells. -/
def verC (n : Int) (s : List Int) : List Value := .int .i64 n :: u8s s
theorem verC_len {n : Int} {s : List Int} (hs : s.length = 96) : (verC n s).length = 97 := by simp [verC, u8s_len, hs]
theorem verC_one (n : Int) (s : List Int) : ∀ v ∈ verC n s, v.oneCell' = true := by
  intro v hv
  simp only [verC, List.mem_cons] at hv
  rcases hv with rfl | hv
  · rfl
  · exact u8s_one s v hv
/-- A stamp as cells. -/
def stC (p h n : Int) : List Value := [.int .i64 p, .int .i64 h, .int .i64 n]

theorem eq2 (W : World) (d : Nat) (x y : Int) : (Op.equalIn (d + 1) 2 (.int .i64 x) (.int .i64 y)).run Tryd.prog W = .ok (decide (x = y)) W := by
  simp [Op.equalIn, Sem.run_bind, run_underlying Tryd.underlying2]
  rw [Bool.eq_iff_iff]; simp
theorem eq3 (W : World) (d : Nat) (x y : Int) : (Op.equalIn (d + 1) 3 (.int .i64 x) (.int .i64 y)).run Tryd.prog W = .ok (decide (x = y)) W := by
  simp [Op.equalIn, Sem.run_bind, run_underlying Tryd.underlying3]
  rw [Bool.eq_iff_iff]; simp

theorem fields61 : (Tryd.prog.fieldsOf 28).toList.map (fun f => (decide (f.name ≠ "_"), f.type, f.offset)) = [(true, 2, 0), (true, 26, 1)] := by kernel_rfl
theorem str61 : Tryd.prog.underlying 28 = some (.struct (Tryd.prog.fieldsOf 28)) := by kernel_rfl
theorem part2 (W : World) (vs : Array Value) (o : Nat) (v : Value) (h : vs[o]? = some v) : (part 2 vs o).run Tryd.prog W = .ok v W := by simp [part, isAgg, run_underlying Tryd.underlying2, h]
theorem part3 (W : World) (vs : Array Value) (o : Nat) (v : Value) (h : vs[o]? = some v) : (part 3 vs o).run Tryd.prog W = .ok v W := by simp [part, isAgg, run_underlying Tryd.underlying3, h]

theorem equal61 (W : World) (n m : Int) (s t : List Int) (hs : s.length = 96) (ht : t.length = 96) : (Op.equal 28 (aggV (verC n s)) (aggV (verC m t))).run Tryd.prog W = .ok (decide (n = m) && decide (s = t)) W := by
  have h := run_equalIn_struct (P := Tryd.prog) W 9999 28 (verC n s).toArray (verC m t).toArray str61 (by kernel_rfl)
  refine h.trans ?_
  generalize hf : (Tryd.prog.fieldsOf 28).toList = fs
  have hm := fields61
  rw [hf] at hm
  match fs, hm with
  | [f, g], hm =>
    simp only [List.map_cons, List.map_nil, List.cons.injEq, Prod.mk.injEq, and_true, decide_eq_true_eq] at hm
    obtain ⟨⟨f1, f2, f3⟩, g1, g2, g3⟩ := hm
    have p1 := part2 W (verC n s).toArray 0 (.int .i64 n) rfl
    have p2 := part2 W (verC m t).toArray 0 (.int .i64 m) rfl
    have p3 : (part 26 (verC n s).toArray 1).run Tryd.prog W = .ok (aggV (u8s s)) W := by
      have := part_agg W 26 96 row23 [.int .i64 n] (u8s s) [] 1 rfl (by rw [u8s_len, hs])
      simpa [verC] using this
    have p4 : (part 26 (verC m t).toArray 1).run Tryd.prog W = .ok (aggV (u8s t)) W := by
      have := part_agg W 26 96 row23 [.int .i64 m] (u8s t) [] 1 rfl (by rw [u8s_len, ht])
      simpa [verC] using this
    have e2 : (Op.equalIn 9999 26 (aggV (u8s s)) (aggV (u8s t))).run Tryd.prog W = .ok (decide (s = t)) W := equal_byts' W 26 96 9999 (by omega) Tryd.underlying26 s t hs ht
    have hh := fields_step W 9999 2 0 _ _ f [g] _ _ _ _ f1 f2 f3 p1 p2 (eq2 W 9998 n m) (fields_step W 9999 26 1 _ _ g [] _ _ _ _ g1 g2 g3 p3 p4 e2 (fields_nil ..))
    rw [Bool.and_true] at hh
    exact hh

end Go.Proofs.YtmeajhdhiebkdaaDoor.Rc
