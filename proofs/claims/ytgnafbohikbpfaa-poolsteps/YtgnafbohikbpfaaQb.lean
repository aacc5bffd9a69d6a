/-
  Rows of cells, noughts, comparisons.
-/
import Derived.Test.YtgnafbohikbpfaaQa
namespace Go.Proofs.Ytgnafbohikbpfaa
set_option maxRecDepth 100000
set_option linter.unusedSimpArgs false
open Go.RowKit

theorem part4 (W : World) (vs : Array Value) (o : Nat) (v : Value) (h : vs[o]? = some v) : (part 4 vs o).run Try.prog W = .ok v W := by simp [part, isAgg, run_underlying Try.underlying4, h]
theorem eq4 (W : World) (d : Nat) (x y : Bool) : (Op.equalIn (d + 1) 4 (.bool x) (.bool y)).run Try.prog W = .ok (decide (x = y)) W := by
  simp [Op.equalIn, Sem.run_bind, run_underlying Try.underlying4]
  cases x <;> cases y <;> rfl
theorem part_agg (W : World) (T n : Nat) (hT : Row T n) (pre vs post : List Value) (o : Nat) (ho : pre.length = o) (hl : vs.length = n) : (part T (pre ++ vs ++ post).toArray o).run Try.prog W = .ok (aggV vs) W := by
  obtain ⟨d, h1, h2, h3⟩ := hT
  cases hq : Try.prog.info? T with
  | none => simp [hq] at h3
  | some i =>
    have hs : i.size = n := by simpa [hq] using h3
    have hagg : (isAgg T).run Try.prog W = .ok true W := by
      unfold isAgg
      rw [Sem.run_bind, run_underlying h1 W]
      cases d <;> simp_all
    have he : ((pre ++ vs ++ post).toArray.extract o (o + n)) = vs.toArray := by
      subst ho hl
      simp [List.extract_toArray, List.extract_eq_take_drop]
    simp [part, Sem.run_bind, hagg, sizeOf, typeInfo, hq, hs, aggV]
    simpa using he
theorem items_step (W : World) (d T n i o : Nat) (xs ys : Array Value) (is : List Nat) (a b : Value) (c e : Bool) (ho : i * n = o) (pa : (part T xs o).run Try.prog W = .ok a W) (pb : (part T ys o).run Try.prog W = .ok b W) (he : (Op.equalIn d T a b).run Try.prog W = .ok c W) (hf : (Op.eqItems d T n xs ys is).run Try.prog W = .ok e W) :
    (Op.eqItems d T n xs ys (i :: is)).run Try.prog W = .ok (c && e) W := by
  subst ho
  simp only [Op.eqItems, Sem.run_bind, pa, pb, he, Result.andThen_ok]
  cases c <;> simp [hf]
theorem info5p : ∃ i, Try.prog.info? 5 = some i := by
  cases hq : Try.prog.info? 5 with
  | none => have h3 : (Try.prog.info? 5).map (·.size) = some 1 := by kernel_rfl
            simp [hq] at h3
  | some i => exact ⟨i, rfl⟩
theorem cells5 : Try.prog.cellsOf 5 = 1 := by kernel_rfl
theorem eq5 (W : World) (d : Nat) (x y : Int) : (Op.equalIn (d + 1) 5 (.int .u8 x) (.int .u8 y)).run Try.prog W = .ok (decide (x = y)) W := by
  simp [Op.equalIn, Sem.run_bind, run_underlying Try.underlying5]
  rw [Bool.eq_iff_iff]; simp
theorem items_byts (W : World) (d n : Nat) (s t : List Int) (hs : s.length = n) (ht : t.length = n) : ∀ is : List Nat, (∀ i ∈ is, i < n) →
    (Op.eqItems (d + 1) 5 1 (u8s s).toArray (u8s t).toArray is).run Try.prog W = .ok (decide (∀ i ∈ is, s[i]? = t[i]?)) W := by
  have h2 : ∀ (xs : Array Value) (j : Nat) (v : Value), xs[j]? = some v → (part 5 xs j).run Try.prog W = .ok v W := by
    intro xs j v hj
    simp [part, isAgg, run_underlying Try.underlying5, hj]
  intro is
  induction is with
  | nil => intro _; simp [Op.eqItems]
  | cons i is ih =>
    intro hi
    have hi0 := hi i (List.mem_cons_self ..)
    have h3 : (part 5 (u8s s).toArray (i * 1)).run Try.prog W = .ok (.int .u8 (s[i]'(by omega))) W := h2 _ _ _ (by simp [u8s, show i < s.length by omega])
    have h4 : (part 5 (u8s t).toArray (i * 1)).run Try.prog W = .ok (.int .u8 (t[i]'(by omega))) W := h2 _ _ _ (by simp [u8s, show i < t.length by omega])
    simp only [Op.eqItems, Sem.run_bind, h3, h4, Result.andThen_ok, eq5]
    by_cases he : s[i]'(by omega) = t[i]'(by omega)
    · have := ih (fun j hj => hi j (List.mem_cons_of_mem _ hj))
      simp [he, this, show i < s.length by omega, show i < t.length by omega]
    · simp [he, show i < s.length by omega, show i < t.length by omega]
theorem equal_byts (W : World) (T n d : Nat) (hu : Try.prog.underlying T = some (.array n 5)) (s t : List Int) (hs : s.length = n) (ht : t.length = n) : (Op.equalIn (d + 2) T (aggV (u8s s)) (aggV (u8s t))).run Try.prog W = .ok (decide (s = t)) W := by
  obtain ⟨i0, hi⟩ := info5p
  have h := run_equalIn_array (P := Try.prog) W (d + 1) (u8s s).toArray (u8s t).toArray hu hi
  rw [cells5, items_byts W d n s t hs ht (List.range n) (by simp)] at h
  have hd : decide (∀ i ∈ List.range n, s[i]? = t[i]?) = decide (s = t) := by
    rw [decide_eq_decide]
    constructor
    · intro h
      apply List.ext_getElem?
      intro i
      by_cases hi : i < n
      · exact h i (by simpa using hi)
      · rw [List.getElem?_eq_none (by omega), List.getElem?_eq_none (by omega)]
    · intro h i _; rw [h]
  rw [hd] at h
  exact h
theorem equal_byts' (W : World) (T n d : Nat) (hd : 2 ≤ d) (hu : Try.prog.underlying T = some (.array n 5)) (s t : List Int) (hs : s.length = n) (ht : t.length = n) : (Op.equalIn d T (aggV (u8s s)) (aggV (u8s t))).run Try.prog W = .ok (decide (s = t)) W := by
  obtain ⟨k, rfl⟩ : ∃ k, d = k + 2 := ⟨d - 2, by omega⟩
  exact equal_byts W T n k hu s t hs ht
theorem part33 (W : World) (vs : Array Value) (o : Nat) (v : Value) (h : vs[o]? = some v) : (part 33 vs o).run Try.prog W = .ok v W := by simp [part, isAgg, run_underlying Try.underlying33, h]
theorem eq33 (W : World) (d : Nat) (x y : Int) : (Op.equalIn (d + 1) 33 (.int .i64 x) (.int .i64 y)).run Try.prog W = .ok (decide (x = y)) W := by
  simp [Op.equalIn, Sem.run_bind, run_underlying Try.underlying33]
  rw [Bool.eq_iff_iff]; simp
theorem row70 : Row 70 1667 := ⟨_, Try.underlying70, rfl, by kernel_rfl⟩
theorem row73 : Row 73 2 := ⟨_, Try.underlying73, rfl, by kernel_rfl⟩
theorem row66 : Row 66 104 := ⟨_, Try.underlying66, rfl, by kernel_rfl⟩
theorem row84 : Row 84 105 := ⟨_, Try.underlying84, rfl, by kernel_rfl⟩
theorem row39 : Row 39 102 := ⟨_, Try.underlying39, rfl, by kernel_rfl⟩
theorem row37 : Row 37 97 := ⟨_, Try.underlying37, rfl, by kernel_rfl⟩
theorem row41 : Row 41 104 := ⟨_, Try.underlying41, rfl, by kernel_rfl⟩
theorem row35 : Row 35 96 := ⟨_, Try.underlying35, rfl, by kernel_rfl⟩
theorem row67 : Row 67 1664 := ⟨_, Try.underlying67, rfl, by kernel_rfl⟩
theorem size2 : (Try.prog.info? 2).map (·.size) = some 1 := by kernel_rfl
theorem size3 : (Try.prog.info? 3).map (·.size) = some 1 := by kernel_rfl
theorem size4 : (Try.prog.info? 4).map (·.size) = some 1 := by kernel_rfl
theorem size33 : (Try.prog.info? 33).map (·.size) = some 1 := by kernel_rfl
theorem size24 : (Try.prog.info? 24).map (·.size) = some 1 := by kernel_rfl
theorem size68 : (Try.prog.info? 68).map (·.size) = some 1 := by kernel_rfl
theorem size71 : (Try.prog.info? 71).map (·.size) = some 1 := by kernel_rfl
theorem size23 : (Try.prog.info? 23).map (·.size) = some 1 := by kernel_rfl
theorem size27 : (Try.prog.info? 27).map (·.size) = some 1 := by kernel_rfl
theorem size85 : (Try.prog.info? 85).map (·.size) = some 1 := by kernel_rfl
theorem size48 : (Try.prog.info? 48).map (·.size) = some 1 := by kernel_rfl
theorem size78 : (Try.prog.info? 78).map (·.size) = some 1 := by kernel_rfl
theorem guard35 : Try.prog.eqGuardType Try.prog.depth 35 = false := by kernel_rfl
theorem guard37 : Try.prog.eqGuardType Try.prog.depth 37 = false := by kernel_rfl
theorem guard39 : Try.prog.eqGuardType Try.prog.depth 39 = false := by kernel_rfl
theorem guard66 : Try.prog.eqGuardType Try.prog.depth 66 = false := by kernel_rfl
theorem guard67 : Try.prog.eqGuardType Try.prog.depth 67 = false := by kernel_rfl
theorem guard84 : Try.prog.eqGuardType Try.prog.depth 84 = false := by kernel_rfl
theorem fields37 : (Try.prog.fieldsOf 37).toList.map (fun f => (decide (f.name ≠ "_"), f.type, f.offset)) = [(true, 2, 0), (true, 35, 1)] := by kernel_rfl
theorem str37 : Try.prog.underlying 37 = some (.struct (Try.prog.fieldsOf 37)) := by kernel_rfl
theorem fields39 : (Try.prog.fieldsOf 39).toList.map (fun f => (decide (f.name ≠ "_"), f.type, f.offset)) = [(true, 3, 0), (true, 33, 1), (true, 2, 2), (true, 2, 3), (true, 37, 4), (true, 4, 101)] := by kernel_rfl
theorem str39 : Try.prog.underlying 39 = some (.struct (Try.prog.fieldsOf 39)) := by kernel_rfl
theorem fields66 : (Try.prog.fieldsOf 66).toList.map (fun f => (decide (f.name ≠ "_"), f.type, f.offset)) = [(true, 39, 0), (true, 3, 102), (true, 4, 103)] := by kernel_rfl
theorem str66 : Try.prog.underlying 66 = some (.struct (Try.prog.fieldsOf 66)) := by kernel_rfl
theorem fields84 : (Try.prog.fieldsOf 84).toList.map (fun f => (decide (f.name ≠ "_"), f.type, f.offset)) = [(true, 4, 0), (true, 39, 1), (true, 3, 103), (true, 4, 104)] := by kernel_rfl
theorem str84 : Try.prog.underlying 84 = some (.struct (Try.prog.fieldsOf 84)) := by kernel_rfl

instance instDF : DecidableEq Fr := fun x y => decidable_of_iff (x.pg = y.pg ∧ x.md = y.md ∧ x.op = y.op ∧ x.fi = y.fi ∧ x.ps = y.ps ∧ x.bd = y.bd ∧ x.dy = y.dy) ⟨fun ⟨h1, h2, h3, h4, h5, h6, h7⟩ => Fr.ext' h1 h2 h3 h4 h5 h6 h7, fun h => by subst h; exact ⟨rfl, rfl, rfl, rfl, rfl, rfl, rfl⟩⟩
theorem Pl.ext' {x y : Pl} (h1 : x.f = y.f) (h2 : x.pn = y.pn) (h3 : x.us = y.us) : x = y := by
  cases x; cases y; simp_all
instance instDP : DecidableEq Pl := fun x y => decidable_of_iff (x.f = y.f ∧ x.pn = y.pn ∧ x.us = y.us) ⟨fun ⟨h1, h2, h3⟩ => Pl.ext' h1 h2 h3, fun h => by subst h; exact ⟨rfl, rfl, rfl⟩⟩
def verC (n : Int) (s : List Int) : List Value := .int .i64 n :: u8s s
theorem verC_len {n : Int} {s : List Int} (hs : s.length = 96) : (verC n s).length = 97 := by simp [verC, u8s_len, hs]
theorem eqB35 (W : World) (d : Nat) (s t : List Int) (hs : s.length = 96) (ht : t.length = 96) : (Op.equalIn (d + 2) 35 (aggV (u8s s)) (aggV (u8s t))).run Try.prog W = .ok (decide (s = t)) W := equal_byts W 35 96 d Try.underlying35 s t hs ht
theorem eqV37 (W : World) (d : Nat) (n m : Int) (s t : List Int) (hs : s.length = 96) (ht : t.length = 96) : (Op.equalIn (d + 3) 37 (aggV (verC n s)) (aggV (verC m t))).run Try.prog W = .ok (decide (n = m) && decide (s = t)) W := by
  have h := run_equalIn_struct (P := Try.prog) W (d + 2) 37 (verC n s).toArray (verC m t).toArray str37 (by kernel_rfl)
  refine h.trans ?_
  generalize hf : (Try.prog.fieldsOf 37).toList = fs
  have hm := fields37
  rw [hf] at hm
  match fs, hm with
  | [f, g], hm =>
    simp only [List.map_cons, List.map_nil, List.cons.injEq, Prod.mk.injEq, and_true, decide_eq_true_eq] at hm
    obtain ⟨⟨f1, f2, f3⟩, g1, g2, g3⟩ := hm
    have p1 := part2 W (verC n s).toArray 0 (.int .i64 n) rfl
    have p2 := part2 W (verC m t).toArray 0 (.int .i64 m) rfl
    have p3 : (part 35 (verC n s).toArray 1).run Try.prog W = .ok (aggV (u8s s)) W := by
      have := part_agg W 35 96 row35 [.int .i64 n] (u8s s) [] 1 rfl (by rw [u8s_len, hs])
      simpa [verC] using this
    have p4 : (part 35 (verC m t).toArray 1).run Try.prog W = .ok (aggV (u8s t)) W := by
      have := part_agg W 35 96 row35 [.int .i64 m] (u8s t) [] 1 rfl (by rw [u8s_len, ht])
      simpa [verC] using this
    have hh := fields_step W (d + 2) 2 0 _ _ f [g] _ _ _ _ f1 f2 f3 p1 p2 (eq2 W (d + 1) n m) (fields_step W (d + 2) 35 1 _ _ g [] _ _ _ _ g1 g2 g3 p3 p4 (eqB35 W d s t hs ht) (fields_nil ..))
    rw [Bool.and_true] at hh
    exact hh
theorem Fr.C_ver (x : Fr) : x.C = [.int .i64 x.pg, .int .i64 x.md, .int .i64 x.op, .int .i64 x.fi] ++ verC x.ps x.bd ++ [.bool x.dy] := by simp [Fr.C, verC]
theorem Fr.at_dy (x : Fr) : x.C[101]? = some (.bool x.dy) := by
  rw [x.C_ver, List.getElem?_append_right (by rw [List.length_append, verC_len x.hb]; simp), List.length_append, verC_len x.hb]
  rfl
theorem eqF39 (W : World) (d : Nat) (x y : Fr) : (Op.equalIn (d + 4) 39 (aggV x.C) (aggV y.C)).run Try.prog W = .ok (decide (x = y)) W := by
  have h := run_equalIn_struct (P := Try.prog) W (d + 3) 39 x.C.toArray y.C.toArray str39 (by kernel_rfl)
  refine h.trans ?_
  generalize hf : (Try.prog.fieldsOf 39).toList = fs
  have hm := fields39
  rw [hf] at hm
  match fs, hm with
  | [f, g, k, l, m, n], hm =>
    simp only [List.map_cons, List.map_nil, List.cons.injEq, Prod.mk.injEq, and_true, decide_eq_true_eq] at hm
    obtain ⟨⟨f1, f2, f3⟩, ⟨g1, g2, g3⟩, ⟨k1, k2, k3⟩, ⟨l1, l2, l3⟩, ⟨m1, m2, m3⟩, n1, n2, n3⟩ := hm
    have pv : ∀ z : Fr, (part 37 z.C.toArray 4).run Try.prog W = .ok (aggV (verC z.ps z.bd)) W := fun z => by
      rw [z.C_ver]
      exact part_agg W 37 97 row37 _ _ _ 4 rfl (verC_len z.hb)
    have pd : ∀ z : Fr, (part 4 z.C.toArray 101).run Try.prog W = .ok (.bool z.dy) W := fun z => part4 W _ 101 _ (by rw [List.getElem?_toArray]; exact z.at_dy)
    have hh := fields_step W (d + 3) 3 0 _ _ f [g, k, l, m, n] _ _ _ _ f1 f2 f3 (part3 W x.C.toArray 0 (.int .i64 x.pg) rfl) (part3 W y.C.toArray 0 (.int .i64 y.pg) rfl) (eq3 W (d + 2) x.pg y.pg)
      (fields_step W (d + 3) 33 1 _ _ g [k, l, m, n] _ _ _ _ g1 g2 g3 (part33 W x.C.toArray 1 (.int .i64 x.md) rfl) (part33 W y.C.toArray 1 (.int .i64 y.md) rfl) (eq33 W (d + 2) x.md y.md)
      (fields_step W (d + 3) 2 2 _ _ k [l, m, n] _ _ _ _ k1 k2 k3 (part2 W x.C.toArray 2 (.int .i64 x.op) rfl) (part2 W y.C.toArray 2 (.int .i64 y.op) rfl) (eq2 W (d + 2) x.op y.op)
      (fields_step W (d + 3) 2 3 _ _ l [m, n] _ _ _ _ l1 l2 l3 (part2 W x.C.toArray 3 (.int .i64 x.fi) rfl) (part2 W y.C.toArray 3 (.int .i64 y.fi) rfl) (eq2 W (d + 2) x.fi y.fi)
      (fields_step W (d + 3) 37 4 _ _ m [n] _ _ _ _ m1 m2 m3 (pv x) (pv y) (eqV37 W d x.ps y.ps x.bd y.bd x.hb y.hb)
      (fields_step W (d + 3) 4 101 _ _ n [] _ _ _ _ n1 n2 n3 (pd x) (pd y) (eq4 W (d + 2) x.dy y.dy) (fields_nil ..))))))
    rw [hh]
    congr 1
    rw [Bool.eq_iff_iff]
    simp only [Bool.and_eq_true, decide_eq_true_eq, and_true]
    exact ⟨fun ⟨h1, h2, h3, h4, ⟨h5, h6⟩, h7⟩ => Fr.ext' h1 h2 h3 h4 h5 h6 h7, fun h => by subst h; exact ⟨rfl, rfl, rfl, rfl, ⟨rfl, rfl⟩, rfl⟩⟩
theorem equal39 (W : World) (x y : Fr) : (Op.equal 39 (aggV x.C) (aggV y.C)).run Try.prog W = .ok (decide (x = y)) W := eqF39 W 9996 x y
theorem equal35 (W : World) (s t : List Int) (hs : s.length = 96) (ht : t.length = 96) : (Op.equal 35 (aggV (u8s s)) (aggV (u8s t))).run Try.prog W = .ok (decide (s = t)) W := eqB35 W 9998 s t hs ht
set_option maxHeartbeats 2000000 in
theorem eqP66 (W : World) (d : Nat) (x y : Pl) : (Op.equalIn (d + 5) 66 (aggV x.C) (aggV y.C)).run Try.prog W = .ok (decide (x = y)) W := by
  have h := run_equalIn_struct (P := Try.prog) W (d + 4) 66 x.C.toArray y.C.toArray str66 (by kernel_rfl)
  refine h.trans ?_
  generalize hf : (Try.prog.fieldsOf 66).toList = fs
  have hm := fields66
  rw [hf] at hm
  match fs, hm with
  | [f, g, k], hm =>
    simp only [List.map_cons, List.map_nil, List.cons.injEq, Prod.mk.injEq, and_true, decide_eq_true_eq] at hm
    obtain ⟨⟨f1, f2, f3⟩, ⟨g1, g2, g3⟩, k1, k2, k3⟩ := hm
    have pf : ∀ z : Pl, (part 39 z.C.toArray 0).run Try.prog W = .ok (aggV z.f.C) W := fun z => part_agg W 39 102 row39 [] _ _ 0 rfl z.f.len
    have hh := fields_step W (d + 4) 39 0 _ _ f [g, k] _ _ _ _ f1 f2 f3 (pf x) (pf y) (eqF39 W d x.f y.f)
      (fields_step W (d + 4) 3 102 _ _ g [k] _ _ _ _ g1 g2 g3 (part3 W _ 102 _ (by rw [List.getElem?_toArray]; exact x.at_pn)) (part3 W _ 102 _ (by rw [List.getElem?_toArray]; exact y.at_pn)) (eq3 W (d + 3) _ _)
      (fields_step W (d + 4) 4 103 _ _ k [] _ _ _ _ k1 k2 k3 (part4 W _ 103 _ (by rw [List.getElem?_toArray]; exact x.at_us)) (part4 W _ 103 _ (by rw [List.getElem?_toArray]; exact y.at_us)) (eq4 W (d + 3) _ _) (fields_nil ..)))
    rw [hh]
    congr 1
    rw [Bool.eq_iff_iff]
    simp only [Bool.and_eq_true, decide_eq_true_eq, and_true]
    exact ⟨fun ⟨h1, h2, h3⟩ => Pl.ext' h1 (by omega) h3, fun h => by subst h; exact ⟨rfl, rfl, rfl⟩⟩
set_option maxHeartbeats 2000000 in
theorem eqS84 (W : World) (d : Nat) (x y : Pl) : (Op.equalIn (d + 5) 84 (aggV x.D) (aggV y.D)).run Try.prog W = .ok (decide (x = y)) W := by
  have h := run_equalIn_struct (P := Try.prog) W (d + 4) 84 x.D.toArray y.D.toArray str84 (by kernel_rfl)
  refine h.trans ?_
  generalize hf : (Try.prog.fieldsOf 84).toList = fs
  have hm := fields84
  rw [hf] at hm
  match fs, hm with
  | [e, f, g, k], hm =>
    simp only [List.map_cons, List.map_nil, List.cons.injEq, Prod.mk.injEq, and_true, decide_eq_true_eq] at hm
    obtain ⟨⟨e1, e2, e3⟩, ⟨f1, f2, f3⟩, ⟨g1, g2, g3⟩, k1, k2, k3⟩ := hm
    have pf : ∀ z : Pl, (part 39 z.D.toArray 1).run Try.prog W = .ok (aggV z.f.C) W := fun z => part_agg W 39 102 row39 [.bool z.bz] z.f.C [.int .i64 (z.pn : Int), .bool z.us] 1 rfl z.f.len
    have hh := fields_step W (d + 4) 4 0 _ _ e [f, g, k] _ _ _ _ e1 e2 e3 (part4 W _ 0 _ (by rw [List.getElem?_toArray]; exact x.D_is)) (part4 W _ 0 _ (by rw [List.getElem?_toArray]; exact y.D_is)) (eq4 W (d + 3) _ _)
      (fields_step W (d + 4) 39 1 _ _ f [g, k] _ _ _ _ f1 f2 f3 (pf x) (pf y) (eqF39 W d x.f y.f)
      (fields_step W (d + 4) 3 103 _ _ g [k] _ _ _ _ g1 g2 g3 (part3 W _ 103 _ (by rw [List.getElem?_toArray]; exact x.D_pn)) (part3 W _ 103 _ (by rw [List.getElem?_toArray]; exact y.D_pn)) (eq3 W (d + 3) _ _)
      (fields_step W (d + 4) 4 104 _ _ k [] _ _ _ _ k1 k2 k3 (part4 W _ 104 _ (by rw [List.getElem?_toArray]; exact x.D_us)) (part4 W _ 104 _ (by rw [List.getElem?_toArray]; exact y.D_us)) (eq4 W (d + 3) _ _) (fields_nil ..))))
    rw [hh]
    congr 1
    rw [Bool.eq_iff_iff]
    simp only [Bool.and_eq_true, decide_eq_true_eq, and_true]
    exact ⟨fun ⟨h0, h1, h2, h3⟩ => Pl.ext' h1 (by omega) h3, fun h => by subst h; exact ⟨rfl, rfl, rfl, rfl⟩⟩
theorem equal84 (W : World) (x y : Pl) : (Op.equal 84 (aggV x.D) (aggV y.D)).run Try.prog W = .ok (decide (x = y)) W := eqS84 W 9995 x y
def likeP (S R : Nat → Pl) : Bool := decide (∀ i ∈ List.range 16, S i = R i)
theorem likeP_iff {S R : Nat → Pl} : likeP S R = true ↔ ∀ i, i < 16 → S i = R i := by simp [likeP]
theorem part66 (W : World) (S : Nat → Pl) (i : Nat) (hi : i < 16) : (part 66 (plsC S 16).toArray (i * 104)).run Try.prog W = .ok (aggV (S i).C) W := by
  obtain ⟨post, hp⟩ := plsC_split S i 16 hi
  have e := hp (S i)
  rw [upd_self] at e
  rw [e]
  exact part_agg W 66 104 row66 _ _ _ _ (plsC_len _ _) (S i).len
theorem items66 (W : World) (d : Nat) (f g : Nat → Pl) (xs ys : Array Value) (hf : ∀ i, i < 16 → (part 66 xs (i * 104)).run Try.prog W = .ok (aggV (f i).C) W) (hg : ∀ i, i < 16 → (part 66 ys (i * 104)).run Try.prog W = .ok (aggV (g i).C) W) : ∀ is : List Nat, (∀ i ∈ is, i < 16) → (Op.eqItems (d + 5) 66 104 xs ys is).run Try.prog W = .ok (decide (∀ i ∈ is, f i = g i)) W := by
  intro is
  induction is with
  | nil => intro _; simp [Op.eqItems]
  | cons i is ih =>
    intro hi
    have hi0 := hi i (List.mem_cons_self ..)
    have := items_step W (d + 5) 66 104 i _ _ _ is _ _ _ _ rfl (hf i hi0) (hg i hi0) (eqP66 W d _ _) (ih (fun j hj => hi j (List.mem_cons_of_mem _ hj)))
    rw [this]
    have e : (decide (f i = g i) && decide (∀ i ∈ is, f i = g i)) = decide (∀ j ∈ i :: is, f j = g j) := by
      rw [Bool.eq_iff_iff]
      simp
    rw [e]
theorem equal67g (W : World) (d : Nat) (xs ys : List Value) (c : Bool) (h : (Op.eqItems d 66 104 xs.toArray ys.toArray (List.range 16)).run Try.prog W = .ok c W) : (Op.equalIn (d + 1) 67 (aggV xs) (aggV ys)).run Try.prog W = .ok c W := by
  have hi : ∃ i, Try.prog.info? 66 = some i := by
    cases hq : Try.prog.info? 66 with
    | none => have h3 : (Try.prog.info? 66).map (·.size) = some 104 := by kernel_rfl
              simp [hq] at h3
    | some i => exact ⟨i, rfl⟩
  obtain ⟨i0, hi⟩ := hi
  have c66 : Try.prog.cellsOf 66 = 104 := by kernel_rfl
  have h2 := run_equalIn_array (P := Try.prog) W d xs.toArray ys.toArray (by kernel_rfl : Try.prog.underlying 67 = some (.array 16 66)) hi
  rw [c66, h] at h2
  exact h2
theorem equal67 (W : World) (f g : Nat → Pl) : (Op.equal 67 (aggV (plsC f 16)) (aggV (plsC g 16))).run Try.prog W = .ok (likeP f g) W := equal67g W 9999 _ _ _ (items66 W 9994 f g _ _ (part66 W f) (part66 W g) (List.range 16) (by simp))
theorem zero39 (w : World) : (Instr.alloc 39 true (.tuple #[])).run Try.prog w = .ok (P0 w.heap.size) (w.alloc (.cells fr0.C.toArray 39)) := by kernel_rfl
theorem build39 (w : World) : (Instr.build 39 #[]).run Try.prog w = .ok (aggV fr0.C) w := by kernel_rfl
theorem build66 (w : World) : (Instr.build 66 #[]).run Try.prog w = .ok (aggV pl0.C) w := by kernel_rfl
theorem build84 (w : World) : (Instr.build 84 #[]).run Try.prog w = .ok (aggV pl0.D) w := by kernel_rfl
theorem build35 (w : World) : (Instr.build 35 #[]).run Try.prog w = .ok (aggV (u8s zb)) w := by kernel_rfl
theorem build39f (w : World) (n : Int) : (Instr.build 39 #[(0, .int .i64 n), (1, .int .i64 1)]).run Try.prog w = .ok (aggV (Fr.C ⟨n, 1, 0, 0, 0, zb, rfl, false⟩)) w := by kernel_rfl
def z16 : Nat → Pl := fun _ => pl0
theorem build70 (w : World) (m : Nat) (mb : Nat) : (Instr.build 70 #[(1, .int .i64 (m : Int)), (3, .map (some mb))]).run Try.prog w = .ok (aggV (Po.C ⟨m, 0, z16⟩ (.map (some mb)))) w := by kernel_rfl
theorem zero70 (w : World) : (Instr.alloc 70 true (.tuple #[])).run Try.prog w = .ok (P0 w.heap.size) (w.alloc (.cells (Po.C ⟨0, 0, z16⟩ (.map none)).toArray 70)) := by kernel_rfl

end Go.Proofs.Ytgnafbohikbpfaa
