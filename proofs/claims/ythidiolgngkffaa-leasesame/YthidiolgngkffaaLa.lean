/-
  Leases, looks and watches as plain data, and laws for them as a whole.
-/
import Derived.Test.YthidiolgngkffaaGx
namespace Go.Proofs.Ythidiolgngkffaa
set_option maxRecDepth 100000
open Go.RowKit


/-- A number that an int64 can be. -/
def I64 (n : Int) : Prop := -9223372036854775808 ≤ n ∧ n ≤ 9223372036854775807
/-- A lease. -/
structure Le where
  ep : Int
  be : Int
  re : Int
deriving DecidableEq
/-- What there is of a node. -/
structure Lk where
  is : Bool
  said : Le
  age : Int
deriving DecidableEq
/-- A watch. -/
structure Wt where
  n : Int
  p : Int
  ls : List Lk
deriving DecidableEq
/-- n bytes. -/
structure Byts (n : Nat) (s : List Int) : Prop where
  len : s.length = n
  byte : ∀ x ∈ s, 0 ≤ x ∧ x < 256
def zs (n : Nat) : List Int := List.replicate n 0
theorem zs_byts (n : Nat) : Byts n (zs n) := ⟨by simp [zs], fun x hx => by simp [zs] at hx; omega⟩
def Le.C (l : Le) : List Value := [.int .i64 l.ep, .int .i64 l.be, .int .i64 l.re]
def Lk.C (k : Lk) : List Value := [.bool k.is, .int .i64 k.said.ep, .int .i64 k.said.be, .int .i64 k.said.re, .int .i64 k.age]
def lksC (l : List Lk) : List Value := (l.map Lk.C).flatten
def Wt.C (v : Wt) : List Value := .int .i64 v.n :: .int .i64 v.p :: lksC v.ls
def le0 : Le := ⟨0, 0, 0⟩
def lk0 : Lk := ⟨false, le0, 0⟩
def lk8 : List Lk := List.replicate 8 lk0
def wt0 : Wt := ⟨0, 0, lk8⟩
theorem lksC_len (l : List Lk) : (lksC l).length = 5 * l.length := by
  induction l with
  | nil => rfl
  | cons m l ih => simp only [lksC, List.map_cons, List.flatten_cons, List.length_append, List.length_cons] at *; rw [ih]; simp [Lk.C]; omega
theorem lksC_cons (m : Lk) (l : List Lk) : lksC (m :: l) = m.C ++ lksC l := rfl
theorem lksC_app (a b : List Lk) : lksC (a ++ b) = lksC a ++ lksC b := by simp [lksC]
theorem leC_one (l : Le) : ∀ v ∈ l.C, v.oneCell' = true := by
  intro v hv
  simp only [Le.C, List.mem_cons, List.mem_nil_iff, or_false] at hv
  rcases hv with rfl | rfl | rfl <;> rfl
theorem lkC_one (l : Lk) : ∀ v ∈ l.C, v.oneCell' = true := by
  intro v hv
  simp only [Lk.C, List.mem_cons, List.mem_nil_iff, or_false] at hv
  rcases hv with rfl | rfl | rfl | rfl | rfl <;> rfl
theorem lksC_one (l : List Lk) : ∀ v ∈ lksC l, v.oneCell' = true := by
  induction l with
  | nil => intro v hv; simp [lksC] at hv
  | cons m l ih =>
    intro v hv
    rw [lksC_cons] at hv
    rcases List.mem_append.1 hv with hv | hv
    · exact lkC_one m v hv
    · exact ih v hv
theorem wtC_len {v : Wt} (h : v.ls.length = 8) : v.C.length = 42 := by simp [Wt.C, lksC_len, h]
theorem wtC_one (v : Wt) : ∀ u ∈ v.C, u.oneCell' = true := by
  intro u hu
  simp only [Wt.C, List.mem_cons] at hu
  rcases hu with rfl | rfl | hu
  iterate 2 rfl
  exact lksC_one _ u hu
theorem lksC_split (l : List Lk) (i : Nat) (h : i < l.length) : lksC l = lksC (l.take i) ++ l[i].C ++ lksC (l.drop (i + 1)) := by
  have he : l = l.take i ++ [l[i]] ++ l.drop (i + 1) := by simp
  conv => lhs; rw [he]
  rw [lksC_app, lksC_app]; simp [lksC]
/-- The cells of a look lie one behind the other. -/
theorem wtC_at {v : Wt} {i : Nat} {m : Lk} (h : v.ls[i]? = some m) (j : Nat) (hj : j < 5) : v.C[2 + i * 5 + j]? = m.C[j]? := by
  obtain ⟨hi, rfl⟩ := List.getElem?_eq_some_iff.1 h
  unfold Wt.C
  rw [show 2 + i * 5 + j = (i * 5 + j) + 1 + 1 by omega, List.getElem?_cons_succ, List.getElem?_cons_succ, lksC_split v.ls i hi]
  have hl : (lksC (v.ls.take i)).length = i * 5 := by rw [lksC_len, List.length_take]; omega
  rw [List.append_assoc, List.getElem?_append_right (by omega), hl, Nat.add_sub_cancel_left, List.getElem?_append_left (by simp [Lk.C]; omega)]
theorem lksC_set (l : List Lk) (i : Nat) (h : i < l.length) (m : Lk) : lksC (l.set i m) = lksC (l.take i) ++ m.C ++ lksC (l.drop (i + 1)) := by
  have hs : l.set i m = l.take i ++ [m] ++ l.drop (i + 1) := by rw [List.set_eq_take_append_cons_drop, if_pos h]; simp
  rw [hs, lksC_app, lksC_app]; simp [lksC]

theorem row23 : Row 23 3 := ⟨_, Try.underlying23, rfl, by kernel_rfl⟩
theorem row25 : Row 25 64 := ⟨_, Try.underlying25, rfl, by kernel_rfl⟩
theorem row48 : Row 48 5 := ⟨_, Try.underlying48, rfl, by kernel_rfl⟩
theorem row62 : Row 62 5 := ⟨_, Try.underlying62, rfl, by kernel_rfl⟩
theorem row63 : Row 63 40 := ⟨_, Try.underlying63, rfl, by kernel_rfl⟩
theorem row65 : Row 65 42 := ⟨_, Try.underlying65, rfl, by kernel_rfl⟩
theorem row76 : Row 76 5 := ⟨_, Try.underlying76, rfl, by kernel_rfl⟩
theorem row77 : Row 77 40 := ⟨_, Try.underlying77, rfl, by kernel_rfl⟩
theorem row79 : Row 79 42 := ⟨_, Try.underlying79, rfl, by kernel_rfl⟩
theorem row59 : Row 59 9 := ⟨_, Try.underlying59, rfl, by kernel_rfl⟩
theorem row38 : Row 38 2 := ⟨_, Try.underlying38, rfl, by kernel_rfl⟩
theorem row51 : Row 51 4 := ⟨_, Try.underlying51, rfl, by kernel_rfl⟩
theorem zero23 (w : World) : (Instr.alloc 23 true (.tuple #[])).run Try.prog w = .ok (P0 w.heap.size) (w.alloc (.cells le0.C.toArray 23)) := by kernel_rfl
theorem build23 (w : World) : (Instr.build 23 #[]).run Try.prog w = .ok (aggV le0.C) w := by kernel_rfl
theorem zero25 (w : World) : (Instr.alloc 25 true (.tuple #[])).run Try.prog w = .ok (P0 w.heap.size) (w.alloc (.cells (u8s (zs 64)).toArray 25)) := by kernel_rfl
theorem build25 (w : World) : (Instr.build 25 #[]).run Try.prog w = .ok (aggV (u8s (zs 64))) w := by kernel_rfl
theorem zero62 (w : World) : (Instr.alloc 62 true (.tuple #[])).run Try.prog w = .ok (P0 w.heap.size) (w.alloc (.cells lk0.C.toArray 62)) := by kernel_rfl
theorem build62 (w : World) : (Instr.build 62 #[]).run Try.prog w = .ok (aggV lk0.C) w := by kernel_rfl
theorem zero65 (w : World) : (Instr.alloc 65 true (.tuple #[])).run Try.prog w = .ok (P0 w.heap.size) (w.alloc (.cells wt0.C.toArray 65)) := by kernel_rfl
theorem build65 (w : World) : (Instr.build 65 #[]).run Try.prog w = .ok (aggV wt0.C) w := by kernel_rfl
theorem zero76 (w : World) : (Instr.alloc 76 true (.tuple #[])).run Try.prog w = .ok (P0 w.heap.size) (w.alloc (.cells lk0.C.toArray 76)) := by kernel_rfl
theorem build76 (w : World) : (Instr.build 76 #[]).run Try.prog w = .ok (aggV lk0.C) w := by kernel_rfl
theorem build63 (w : World) : (Instr.build 63 #[]).run Try.prog w = .ok (aggV (lksC lk8)) w := by kernel_rfl
theorem build77 (w : World) : (Instr.build 77 #[]).run Try.prog w = .ok (aggV (lksC lk8)) w := by kernel_rfl
theorem build65p (w : World) (n p : Int) : (Instr.build 65 #[(0, .int .i64 n), (1, .int .i64 p)]).run Try.prog w = .ok (aggV (Wt.mk n p lk8).C) w := by kernel_rfl
theorem build79p (w : World) (n p : Int) : (Instr.build 79 #[(0, .int .i64 n), (1, .int .i64 p)]).run Try.prog w = .ok (aggV (Wt.mk n p lk8).C) w := by kernel_rfl
theorem build62p (w : World) (l : Le) : (Instr.build 62 #[(0, .bool true), (1, aggV l.C)]).run Try.prog w = .ok (aggV (Lk.mk true l 0).C) w := by kernel_rfl
theorem build76p (w : World) (l : Le) : (Instr.build 76 #[(0, .bool true), (1, aggV l.C)]).run Try.prog w = .ok (aggV (Lk.mk true l 0).C) w := by kernel_rfl
theorem build23p (w : World) (a b c : Int) : (Instr.build 23 #[(0, .int .i64 a), (1, .int .i64 b), (2, .int .i64 c)]).run Try.prog w = .ok (aggV (Le.mk a b c).C) w := by kernel_rfl
theorem build23q (w : World) (b : Int) : (Instr.build 23 #[(1, .int .i64 b)]).run Try.prog w = .ok (aggV (Le.mk 0 b 0).C) w := by kernel_rfl
theorem build23r (w : World) (a b : Int) : (Instr.build 23 #[(0, .int .i64 a), (1, .int .i64 b)]).run Try.prog w = .ok (aggV (Le.mk a b 0).C) w := by kernel_rfl
theorem guard23 : Try.prog.eqGuardType Try.prog.depth 23 = false := by kernel_rfl
theorem guard25 : Try.prog.eqGuardType Try.prog.depth 25 = false := by kernel_rfl
theorem guard62 : Try.prog.eqGuardType Try.prog.depth 62 = false := by kernel_rfl
theorem guard65 : Try.prog.eqGuardType Try.prog.depth 65 = false := by kernel_rfl
theorem guard76 : Try.prog.eqGuardType Try.prog.depth 76 = false := by kernel_rfl
theorem guard79 : Try.prog.eqGuardType Try.prog.depth 79 = false := by kernel_rfl
theorem fields23 : (Try.prog.fieldsOf 23).toList.map (fun f => (decide (f.name ≠ "_"), f.type, f.offset)) = [(true, 2, 0), (true, 2, 1), (true, 2, 2)] := by kernel_rfl
theorem str23 : Try.prog.underlying 23 = some (.struct (Try.prog.fieldsOf 23)) := by kernel_rfl
theorem fields62 : (Try.prog.fieldsOf 62).toList.map (fun f => (decide (f.name ≠ "_"), f.type, f.offset)) = [(true, 4, 0), (true, 23, 1), (true, 3, 4)] := by kernel_rfl
theorem str62 : Try.prog.underlying 62 = some (.struct (Try.prog.fieldsOf 62)) := by kernel_rfl
theorem fields76 : (Try.prog.fieldsOf 76).toList.map (fun f => (decide (f.name ≠ "_"), f.type, f.offset)) = [(true, 4, 0), (true, 23, 1), (true, 3, 4)] := by kernel_rfl
theorem str76 : Try.prog.underlying 76 = some (.struct (Try.prog.fieldsOf 76)) := by kernel_rfl
theorem fields65 : (Try.prog.fieldsOf 65).toList.map (fun f => (decide (f.name ≠ "_"), f.type, f.offset)) = [(true, 3, 0), (true, 3, 1), (true, 63, 2)] := by kernel_rfl
theorem str65 : Try.prog.underlying 65 = some (.struct (Try.prog.fieldsOf 65)) := by kernel_rfl
theorem fields79 : (Try.prog.fieldsOf 79).toList.map (fun f => (decide (f.name ≠ "_"), f.type, f.offset)) = [(true, 3, 0), (true, 3, 1), (true, 77, 2)] := by kernel_rfl
theorem str79 : Try.prog.underlying 79 = some (.struct (Try.prog.fieldsOf 79)) := by kernel_rfl
theorem part4 (W : World) (vs : Array Value) (o : Nat) (v : Value) (h : vs[o]? = some v) : (part 4 vs o).run Try.prog W = .ok v W := by simp [part, isAgg, run_underlying Try.underlying4, h]
theorem eq4 (W : World) (d : Nat) (x y : Bool) : (Op.equalIn (d + 1) 4 (.bool x) (.bool y)).run Try.prog W = .ok (decide (x = y)) W := by
  simp [Op.equalIn, Sem.run_bind, run_underlying Try.underlying4]
  cases x <;> cases y <;> rfl
theorem part_agg (W : World) (T n : Nat) (hT : Row T n) (pre vs post : List Value) (o : Nat) (ho : pre.length = o) (hl : vs.length = n) : (part T (pre ++ vs ++ post).toArray o).run Try.prog W = .ok (aggV vs) W := by
  obtain ⟨d, h1, h2, h3⟩ := hT
  cases hq : Try.prog.info? T with
  | none => simp [hq] at h3
  | some i =>
    have hs : i.size = n := by simpa [hq] using h3
    have hagg : (isAgg T).run Try.prog W = .ok true W := by
      unfold isAgg
      rw [Sem.run_bind, run_underlying h1 W]
      cases d <;> simp_all
    have he : ((pre ++ vs ++ post).toArray.extract o (o + n)) = vs.toArray := by
      subst ho hl
      simp [List.extract_toArray, List.extract_eq_take_drop]
    simp [part, Sem.run_bind, hagg, sizeOf, typeInfo, hq, hs, aggV]
    simpa using he
theorem items_step (W : World) (d T n i o : Nat) (xs ys : Array Value) (is : List Nat) (a b : Value) (c e : Bool) (ho : i * n = o) (pa : (part T xs o).run Try.prog W = .ok a W) (pb : (part T ys o).run Try.prog W = .ok b W) (he : (Op.equalIn d T a b).run Try.prog W = .ok c W) (hf : (Op.eqItems d T n xs ys is).run Try.prog W = .ok e W) :
    (Op.eqItems d T n xs ys (i :: is)).run Try.prog W = .ok (c && e) W := by
  subst ho
  simp only [Op.eqItems, Sem.run_bind, pa, pb, he, Result.andThen_ok]
  cases c <;> simp [hf]
theorem equal23 (W : World) (d : Nat) (m q : Le) : (Op.equalIn (d + 2) 23 (aggV m.C) (aggV q.C)).run Try.prog W = .ok (decide (m = q)) W := by
  have hh := run_equalIn_struct (P := Try.prog) W (d + 1) 23 m.C.toArray q.C.toArray str23 (by kernel_rfl)
  refine hh.trans ?_
  generalize hf : (Try.prog.fieldsOf 23).toList = fs
  have hm := fields23
  rw [hf] at hm
  match fs, hm with
  | [a, g, k], hm =>
    simp only [List.map_cons, List.map_nil, List.cons.injEq, Prod.mk.injEq, and_true, decide_eq_true_eq] at hm
    obtain ⟨⟨a1, a2, a3⟩, ⟨g1, g2, g3⟩, k1, k2, k3⟩ := hm
    have hh := fields_step W (d + 1) 2 0 _ _ a [g, k] _ _ _ _ a1 a2 a3 (part2 W m.C.toArray 0 (.int .i64 m.ep) rfl) (part2 W q.C.toArray 0 (.int .i64 q.ep) rfl) (eq2 W d m.ep q.ep)
      (fields_step W (d + 1) 2 1 _ _ g [k] _ _ _ _ g1 g2 g3 (part2 W m.C.toArray 1 (.int .i64 m.be) rfl) (part2 W q.C.toArray 1 (.int .i64 q.be) rfl) (eq2 W d m.be q.be)
      (fields_step W (d + 1) 2 2 _ _ k [] _ _ _ _ k1 k2 k3 (part2 W m.C.toArray 2 (.int .i64 m.re) rfl) (part2 W q.C.toArray 2 (.int .i64 q.re) rfl) (eq2 W d m.re q.re)
      (fields_nil ..)))
    rw [Bool.and_true] at hh
    rw [hh]
    congr 1
    rw [Bool.eq_iff_iff]
    cases m; cases q; simp
theorem lk_said (W : World) (m : Lk) : (part 23 m.C.toArray 1).run Try.prog W = .ok (aggV m.said.C) W := part_agg W 23 3 row23 [.bool m.is] m.said.C [.int .i64 m.age] 1 rfl rfl
theorem equal62 (W : World) (d : Nat) (m q : Lk) : (Op.equalIn (d + 3) 62 (aggV m.C) (aggV q.C)).run Try.prog W = .ok (decide (m = q)) W := by
  have hh := run_equalIn_struct (P := Try.prog) W (d + 2) 62 m.C.toArray q.C.toArray str62 (by kernel_rfl)
  refine hh.trans ?_
  generalize hf : (Try.prog.fieldsOf 62).toList = fs
  have hm := fields62
  rw [hf] at hm
  match fs, hm with
  | [a, g, k], hm =>
    simp only [List.map_cons, List.map_nil, List.cons.injEq, Prod.mk.injEq, and_true, decide_eq_true_eq] at hm
    obtain ⟨⟨a1, a2, a3⟩, ⟨g1, g2, g3⟩, k1, k2, k3⟩ := hm
    have hh := fields_step W (d + 2) 4 0 _ _ a [g, k] _ _ _ _ a1 a2 a3 (part4 W m.C.toArray 0 (.bool m.is) rfl) (part4 W q.C.toArray 0 (.bool q.is) rfl) (eq4 W (d + 1) m.is q.is)
      (fields_step W (d + 2) 23 1 _ _ g [k] _ _ _ _ g1 g2 g3 (lk_said W m) (lk_said W q) (equal23 W d m.said q.said)
      (fields_step W (d + 2) 3 4 _ _ k [] _ _ _ _ k1 k2 k3 (part3 W m.C.toArray 4 (.int .i64 m.age) rfl) (part3 W q.C.toArray 4 (.int .i64 q.age) rfl) (eq3 W (d + 1) m.age q.age)
      (fields_nil ..)))
    rw [Bool.and_true] at hh
    rw [hh]
    congr 1
    rw [Bool.eq_iff_iff]
    cases m; cases q; simp
theorem lk_part62 (W : World) (l : List Lk) (i : Nat) (h : i < l.length) : (part 62 (lksC l).toArray (i * 5)).run Try.prog W = .ok (aggV l[i].C) W := by
  rw [lksC_split l i h]
  exact part_agg W 62 5 row62 _ _ _ _ (by rw [lksC_len, List.length_take]; omega) rfl
theorem items62 (W : World) (d n : Nat) (s t : List Lk) (hs : s.length = n) (ht : t.length = n) : ∀ is : List Nat, (∀ i ∈ is, i < n) →
    (Op.eqItems (d + 3) 62 5 (lksC s).toArray (lksC t).toArray is).run Try.prog W = .ok (decide (∀ i ∈ is, s[i]? = t[i]?)) W := by
  intro is
  induction is with
  | nil => intro _; simp [Op.eqItems]
  | cons i is ih =>
    intro hi
    have hi0 := hi i (List.mem_cons_self ..)
    have := items_step W (d + 3) 62 5 i (i * 5) _ _ is _ _ _ _ rfl (lk_part62 W s i (by omega)) (lk_part62 W t i (by omega)) (equal62 W d _ _) (ih (fun j hj => hi j (List.mem_cons_of_mem _ hj)))
    rw [this]
    congr 1
    rw [Bool.eq_iff_iff]
    simp [show i < s.length by omega, show i < t.length by omega]
theorem Try.cells62 : Try.prog.cellsOf 62 = 5 := by kernel_rfl
theorem equal63 (W : World) (d : Nat) (s t : List Lk) (hs : s.length = 8) (ht : t.length = 8) : (Op.equalIn (d + 4) 63 (aggV (lksC s)) (aggV (lksC t))).run Try.prog W = .ok (decide (s = t)) W := by
  have hi : ∃ i, Try.prog.info? 62 = some i := by
    cases hq : Try.prog.info? 62 with
    | none => have := row62; obtain ⟨d, _, _, h3⟩ := this; simp [hq] at h3
    | some i => exact ⟨i, rfl⟩
  obtain ⟨i0, hi⟩ := hi
  have h := run_equalIn_array (P := Try.prog) W (d + 3) (lksC s).toArray (lksC t).toArray Try.underlying63 hi
  rw [Try.cells62, items62 W d 8 s t hs ht (List.range 8) (by simp)] at h
  have hd : decide (∀ i ∈ List.range 8, s[i]? = t[i]?) = decide (s = t) := by
    rw [decide_eq_decide]
    constructor
    · intro h
      apply List.ext_getElem?
      intro i
      by_cases hi : i < 8
      · exact h i (by simpa using hi)
      · rw [List.getElem?_eq_none (by omega), List.getElem?_eq_none (by omega)]
    · intro h i _; rw [h]
  rw [hd] at h
  exact h
theorem wt_looks63 (W : World) (v : Wt) (hv : v.ls.length = 8) : (part 63 v.C.toArray 2).run Try.prog W = .ok (aggV (lksC v.ls)) W := by
  have := part_agg W 63 40 row63 [.int .i64 v.n, .int .i64 v.p] (lksC v.ls) [] 2 rfl (by rw [lksC_len, hv])
  rw [List.append_nil] at this
  exact this
theorem equal65 (W : World) (d : Nat) (v u : Wt) (hv : v.ls.length = 8) (hu : u.ls.length = 8) : (Op.equalIn (d + 5) 65 (aggV v.C) (aggV u.C)).run Try.prog W = .ok (decide (v = u)) W := by
  have hh := run_equalIn_struct (P := Try.prog) W (d + 4) 65 v.C.toArray u.C.toArray str65 (by kernel_rfl)
  refine hh.trans ?_
  generalize hf : (Try.prog.fieldsOf 65).toList = fs
  have hm := fields65
  rw [hf] at hm
  match fs, hm with
  | [a, g, k], hm =>
    simp only [List.map_cons, List.map_nil, List.cons.injEq, Prod.mk.injEq, and_true, decide_eq_true_eq] at hm
    obtain ⟨⟨a1, a2, a3⟩, ⟨g1, g2, g3⟩, k1, k2, k3⟩ := hm
    have hh := fields_step W (d + 4) 3 0 _ _ a [g, k] _ _ _ _ a1 a2 a3 (part3 W v.C.toArray 0 (.int .i64 v.n) rfl) (part3 W u.C.toArray 0 (.int .i64 u.n) rfl) (eq3 W (d + 3) v.n u.n)
      (fields_step W (d + 4) 3 1 _ _ g [k] _ _ _ _ g1 g2 g3 (part3 W v.C.toArray 1 (.int .i64 v.p) rfl) (part3 W u.C.toArray 1 (.int .i64 u.p) rfl) (eq3 W (d + 3) v.p u.p)
      (fields_step W (d + 4) 63 2 _ _ k [] _ _ _ _ k1 k2 k3 (wt_looks63 W v hv) (wt_looks63 W u hu) (equal63 W d v.ls u.ls hv hu)
      (fields_nil ..)))
    rw [Bool.and_true] at hh
    rw [hh]
    congr 1
    rw [Bool.eq_iff_iff]
    cases v; cases u; simp
theorem eqW65 (W : World) (v u : Wt) (hv : v.ls.length = 8) (hu : u.ls.length = 8) : (Op.equal 65 (aggV v.C) (aggV u.C)).run Try.prog W = .ok (decide (v = u)) W := equal65 W 9995 v u hv hu
theorem equal76 (W : World) (d : Nat) (m q : Lk) : (Op.equalIn (d + 3) 76 (aggV m.C) (aggV q.C)).run Try.prog W = .ok (decide (m = q)) W := by
  have hh := run_equalIn_struct (P := Try.prog) W (d + 2) 76 m.C.toArray q.C.toArray str76 (by kernel_rfl)
  refine hh.trans ?_
  generalize hf : (Try.prog.fieldsOf 76).toList = fs
  have hm := fields76
  rw [hf] at hm
  match fs, hm with
  | [a, g, k], hm =>
    simp only [List.map_cons, List.map_nil, List.cons.injEq, Prod.mk.injEq, and_true, decide_eq_true_eq] at hm
    obtain ⟨⟨a1, a2, a3⟩, ⟨g1, g2, g3⟩, k1, k2, k3⟩ := hm
    have hh := fields_step W (d + 2) 4 0 _ _ a [g, k] _ _ _ _ a1 a2 a3 (part4 W m.C.toArray 0 (.bool m.is) rfl) (part4 W q.C.toArray 0 (.bool q.is) rfl) (eq4 W (d + 1) m.is q.is)
      (fields_step W (d + 2) 23 1 _ _ g [k] _ _ _ _ g1 g2 g3 (lk_said W m) (lk_said W q) (equal23 W d m.said q.said)
      (fields_step W (d + 2) 3 4 _ _ k [] _ _ _ _ k1 k2 k3 (part3 W m.C.toArray 4 (.int .i64 m.age) rfl) (part3 W q.C.toArray 4 (.int .i64 q.age) rfl) (eq3 W (d + 1) m.age q.age)
      (fields_nil ..)))
    rw [Bool.and_true] at hh
    rw [hh]
    congr 1
    rw [Bool.eq_iff_iff]
    cases m; cases q; simp
theorem lk_part76 (W : World) (l : List Lk) (i : Nat) (h : i < l.length) : (part 76 (lksC l).toArray (i * 5)).run Try.prog W = .ok (aggV l[i].C) W := by
  rw [lksC_split l i h]
  exact part_agg W 76 5 row76 _ _ _ _ (by rw [lksC_len, List.length_take]; omega) rfl
theorem items76 (W : World) (d n : Nat) (s t : List Lk) (hs : s.length = n) (ht : t.length = n) : ∀ is : List Nat, (∀ i ∈ is, i < n) →
    (Op.eqItems (d + 3) 76 5 (lksC s).toArray (lksC t).toArray is).run Try.prog W = .ok (decide (∀ i ∈ is, s[i]? = t[i]?)) W := by
  intro is
  induction is with
  | nil => intro _; simp [Op.eqItems]
  | cons i is ih =>
    intro hi
    have hi0 := hi i (List.mem_cons_self ..)
    have := items_step W (d + 3) 76 5 i (i * 5) _ _ is _ _ _ _ rfl (lk_part76 W s i (by omega)) (lk_part76 W t i (by omega)) (equal76 W d _ _) (ih (fun j hj => hi j (List.mem_cons_of_mem _ hj)))
    rw [this]
    congr 1
    rw [Bool.eq_iff_iff]
    simp [show i < s.length by omega, show i < t.length by omega]
theorem Try.cells76 : Try.prog.cellsOf 76 = 5 := by kernel_rfl
theorem equal77 (W : World) (d : Nat) (s t : List Lk) (hs : s.length = 8) (ht : t.length = 8) : (Op.equalIn (d + 4) 77 (aggV (lksC s)) (aggV (lksC t))).run Try.prog W = .ok (decide (s = t)) W := by
  have hi : ∃ i, Try.prog.info? 76 = some i := by
    cases hq : Try.prog.info? 76 with
    | none => have := row76; obtain ⟨d, _, _, h3⟩ := this; simp [hq] at h3
    | some i => exact ⟨i, rfl⟩
  obtain ⟨i0, hi⟩ := hi
  have h := run_equalIn_array (P := Try.prog) W (d + 3) (lksC s).toArray (lksC t).toArray Try.underlying77 hi
  rw [Try.cells76, items76 W d 8 s t hs ht (List.range 8) (by simp)] at h
  have hd : decide (∀ i ∈ List.range 8, s[i]? = t[i]?) = decide (s = t) := by
    rw [decide_eq_decide]
    constructor
    · intro h
      apply List.ext_getElem?
      intro i
      by_cases hi : i < 8
      · exact h i (by simpa using hi)
      · rw [List.getElem?_eq_none (by omega), List.getElem?_eq_none (by omega)]
    · intro h i _; rw [h]
  rw [hd] at h
  exact h
theorem wt_looks77 (W : World) (v : Wt) (hv : v.ls.length = 8) : (part 77 v.C.toArray 2).run Try.prog W = .ok (aggV (lksC v.ls)) W := by
  have := part_agg W 77 40 row77 [.int .i64 v.n, .int .i64 v.p] (lksC v.ls) [] 2 rfl (by rw [lksC_len, hv])
  rw [List.append_nil] at this
  exact this
theorem equal79 (W : World) (d : Nat) (v u : Wt) (hv : v.ls.length = 8) (hu : u.ls.length = 8) : (Op.equalIn (d + 5) 79 (aggV v.C) (aggV u.C)).run Try.prog W = .ok (decide (v = u)) W := by
  have hh := run_equalIn_struct (P := Try.prog) W (d + 4) 79 v.C.toArray u.C.toArray str79 (by kernel_rfl)
  refine hh.trans ?_
  generalize hf : (Try.prog.fieldsOf 79).toList = fs
  have hm := fields79
  rw [hf] at hm
  match fs, hm with
  | [a, g, k], hm =>
    simp only [List.map_cons, List.map_nil, List.cons.injEq, Prod.mk.injEq, and_true, decide_eq_true_eq] at hm
    obtain ⟨⟨a1, a2, a3⟩, ⟨g1, g2, g3⟩, k1, k2, k3⟩ := hm
    have hh := fields_step W (d + 4) 3 0 _ _ a [g, k] _ _ _ _ a1 a2 a3 (part3 W v.C.toArray 0 (.int .i64 v.n) rfl) (part3 W u.C.toArray 0 (.int .i64 u.n) rfl) (eq3 W (d + 3) v.n u.n)
      (fields_step W (d + 4) 3 1 _ _ g [k] _ _ _ _ g1 g2 g3 (part3 W v.C.toArray 1 (.int .i64 v.p) rfl) (part3 W u.C.toArray 1 (.int .i64 u.p) rfl) (eq3 W (d + 3) v.p u.p)
      (fields_step W (d + 4) 77 2 _ _ k [] _ _ _ _ k1 k2 k3 (wt_looks77 W v hv) (wt_looks77 W u hu) (equal77 W d v.ls u.ls hv hu)
      (fields_nil ..)))
    rw [Bool.and_true] at hh
    rw [hh]
    congr 1
    rw [Bool.eq_iff_iff]
    cases v; cases u; simp
theorem eqW79 (W : World) (v u : Wt) (hv : v.ls.length = 8) (hu : u.ls.length = 8) : (Op.equal 79 (aggV v.C) (aggV u.C)).run Try.prog W = .ok (decide (v = u)) W := equal79 W 9995 v u hv hu
theorem eqL23 (W : World) (m q : Le) : (Op.equal 23 (aggV m.C) (aggV q.C)).run Try.prog W = .ok (decide (m = q)) W := equal23 W 9998 m q
theorem Try.info5 : (Try.prog.info? 5).map (fun i => (i.zero, i.size, i.bytes)) = some (some (.int .u8 0), 1, 1) := by kernel_rfl
theorem Try.cells5 : Try.prog.cellsOf 5 = 1 := by kernel_rfl
theorem eq5 (W : World) (d : Nat) (x y : Int) : (Op.equalIn (d + 1) 5 (.int .u8 x) (.int .u8 y)).run Try.prog W = .ok (decide (x = y)) W := by
  simp [Op.equalIn, Sem.run_bind, run_underlying Try.underlying5]
  rw [Bool.eq_iff_iff]; simp
theorem items_byts (W : World) (d n : Nat) (s t : List Int) (hs : s.length = n) (ht : t.length = n) : ∀ is : List Nat, (∀ i ∈ is, i < n) →
    (Op.eqItems (d + 1) 5 1 (u8s s).toArray (u8s t).toArray is).run Try.prog W = .ok (decide (∀ i ∈ is, s[i]? = t[i]?)) W := by
  have h2 : ∀ (xs : Array Value) (j : Nat) (v : Value), xs[j]? = some v → (part 5 xs j).run Try.prog W = .ok v W := by
    intro xs j v hj
    simp [part, isAgg, run_underlying Try.underlying5, hj]
  intro is
  induction is with
  | nil => intro _; simp [Op.eqItems]
  | cons i is ih =>
    intro hi
    have hi0 := hi i (List.mem_cons_self ..)
    have h3 : (part 5 (u8s s).toArray (i * 1)).run Try.prog W = .ok (.int .u8 (s[i]'(by omega))) W := h2 _ _ _ (by simp [u8s, show i < s.length by omega])
    have h4 : (part 5 (u8s t).toArray (i * 1)).run Try.prog W = .ok (.int .u8 (t[i]'(by omega))) W := h2 _ _ _ (by simp [u8s, show i < t.length by omega])
    simp only [Op.eqItems, Sem.run_bind, h3, h4, Result.andThen_ok, eq5]
    by_cases he : s[i]'(by omega) = t[i]'(by omega)
    · have := ih (fun j hj => hi j (List.mem_cons_of_mem _ hj))
      simp [he, this, show i < s.length by omega, show i < t.length by omega]
    · simp [he, show i < s.length by omega, show i < t.length by omega]

theorem equal_byts (W : World) (T n d : Nat) (hu : Try.prog.underlying T = some (.array n 5)) (s t : List Int) (hs : s.length = n) (ht : t.length = n) : (Op.equalIn (d + 2) T (aggV (u8s s)) (aggV (u8s t))).run Try.prog W = .ok (decide (s = t)) W := by
  obtain ⟨i0, hi, _⟩ := info_parts Try.info5
  have h := run_equalIn_array (P := Try.prog) W (d + 1) (u8s s).toArray (u8s t).toArray hu hi
  rw [Try.cells5, items_byts W d n s t hs ht (List.range n) (by simp)] at h
  have hd : decide (∀ i ∈ List.range n, s[i]? = t[i]?) = decide (s = t) := by
    rw [decide_eq_decide]
    constructor
    · intro h
      apply List.ext_getElem?
      intro i
      by_cases hi : i < n
      · exact h i (by simpa using hi)
      · rw [List.getElem?_eq_none (by omega), List.getElem?_eq_none (by omega)]
    · intro h i _; rw [h]
  rw [hd] at h
  exact h

theorem equal25 (W : World) (s t : List Int) (hs : s.length = 64) (ht : t.length = 64) : (Op.equal 25 (aggV (u8s s)) (aggV (u8s t))).run Try.prog W = .ok (decide (s = t)) W := equal_byts W 25 64 9998 (by kernel_rfl) s t hs ht

end Go.Proofs.Ythidiolgngkffaa
