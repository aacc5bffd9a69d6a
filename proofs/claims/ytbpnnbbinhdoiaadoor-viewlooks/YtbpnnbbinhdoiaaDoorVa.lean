/-
  Views, members and sectors as plain data, and laws for them as a whole.
-/
import Derived.Test.YtbpnnbbinhdoiaaDoorGx
namespace Go.Proofs.YtbpnnbbinhdoiaaDoor
set_option maxRecDepth 100000
open Go.RowKit


/-- A number that an int64 can be. -/
def I64 (n : Int) : Prop := -9223372036854775808 ≤ n ∧ n ≤ 9223372036854775807
/-- A view: its number, whether it is open, its founder, its members. -/
structure Vw where
  nu : Int
  op : Bool
  fd : Int
  ms : List (Bool × Int)
deriving DecidableEq
structure Vw.Ok (v : Vw) : Prop where
  nu : I64 v.nu
  fd : I64 v.fd
  len : v.ms.length = 8
  ep : ∀ m ∈ v.ms, I64 m.2
/-- n bytes. -/
structure Byts (n : Nat) (s : List Int) : Prop where
  len : s.length = n
  byte : ∀ x ∈ s, 0 ≤ x ∧ x < 256
def zs (n : Nat) : List Int := List.replicate n 0
theorem zs_byts (n : Nat) : Byts n (zs n) := ⟨by simp [zs], fun x hx => by simp [zs] at hx; omega⟩
def memC (m : Bool × Int) : List Value := [.bool m.1, .int .i64 m.2]
def memsC (l : List (Bool × Int)) : List Value := (l.map memC).flatten
def vwC (v : Vw) : List Value := .int .i64 v.nu :: .bool v.op :: .int .i64 v.fd :: memsC v.ms
def no8 : List (Bool × Int) := List.replicate 8 (false, 0)
def zv : Vw := ⟨0, false, 0, no8⟩
def fv : Vw := ⟨0, true, 0, no8⟩
theorem no8_ok : ∀ m ∈ no8, I64 m.2 := fun m hm => by simp [no8] at hm; subst hm; exact ⟨by decide, by decide⟩
theorem zv_ok : zv.Ok := ⟨⟨by decide, by decide⟩, ⟨by decide, by decide⟩, by simp [zv, no8], no8_ok⟩
theorem fv_ok : fv.Ok := ⟨⟨by decide, by decide⟩, ⟨by decide, by decide⟩, by simp [fv, no8], no8_ok⟩
theorem memsC_len (l : List (Bool × Int)) : (memsC l).length = 2 * l.length := by
  induction l with
  | nil => rfl
  | cons m l ih => simp only [memsC, List.map_cons, List.flatten_cons, List.length_append, List.length_cons] at *; rw [ih]; simp [memC]; omega
theorem memsC_cons (m : Bool × Int) (l : List (Bool × Int)) : memsC (m :: l) = .bool m.1 :: .int .i64 m.2 :: memsC l := rfl
theorem memsC_app (a b : List (Bool × Int)) : memsC (a ++ b) = memsC a ++ memsC b := by simp [memsC]
theorem memsC_at (l : List (Bool × Int)) : ∀ (i : Nat) (m : Bool × Int), l[i]? = some m → (memsC l)[2 * i]? = some (.bool m.1) ∧ (memsC l)[2 * i + 1]? = some (.int .i64 m.2) := by
  induction l with
  | nil => intro i m h; simp at h
  | cons x l ih =>
    intro i m h
    rw [memsC_cons]
    cases i with
    | zero => simp at h; subst h; exact ⟨rfl, rfl⟩
    | succ i =>
      have := ih i m (by simpa using h)
      exact ⟨by rw [show 2 * (i + 1) = 2 * i + 1 + 1 by omega, List.getElem?_cons_succ, List.getElem?_cons_succ]; exact this.1, by rw [show 2 * (i + 1) + 1 = 2 * i + 1 + 1 + 1 by omega, List.getElem?_cons_succ, List.getElem?_cons_succ]; exact this.2⟩
theorem memsC_one (l : List (Bool × Int)) : ∀ v ∈ memsC l, v.oneCell' = true := by
  induction l with
  | nil => intro v hv; simp [memsC] at hv
  | cons m l ih =>
    intro v hv
    rw [memsC_cons] at hv
    simp only [List.mem_cons] at hv
    rcases hv with rfl | rfl | hv
    · rfl
    · rfl
    · exact ih v hv
theorem memC_one (m : Bool × Int) : ∀ v ∈ memC m, v.oneCell' = true := by
  intro v hv
  simp only [memC, List.mem_cons, List.mem_nil_iff, or_false] at hv
  rcases hv with rfl | rfl <;> rfl
theorem vwC_len {v : Vw} (h : v.ms.length = 8) : (vwC v).length = 19 := by simp [vwC, memsC_len, h]
theorem vwC_one (v : Vw) : ∀ u ∈ vwC v, u.oneCell' = true := by
  intro u hu
  simp only [vwC, List.mem_cons] at hu
  rcases hu with rfl | rfl | rfl | hu
  iterate 3 rfl
  exact memsC_one _ u hu
theorem vwC_at {v : Vw} {i : Nat} {m : Bool × Int} (h : v.ms[i]? = some m) : (vwC v)[3 + 2 * i]? = some (.bool m.1) ∧ (vwC v)[3 + 2 * i + 1]? = some (.int .i64 m.2) := by
  have := memsC_at v.ms i m h
  unfold vwC
  exact ⟨by rw [show 3 + 2 * i = 2 * i + 1 + 1 + 1 by omega]; simpa using this.1, by rw [show 3 + 2 * i + 1 = 2 * i + 1 + 1 + 1 + 1 by omega]; simpa using this.2⟩
theorem memsC_set (l : List (Bool × Int)) : ∀ (i : Nat) (m : Bool × Int), ((memsC l).set (2 * i) (.bool m.1)).set (2 * i + 1) (.int .i64 m.2) = memsC (l.set i m) := by
  induction l with
  | nil => intro i m; simp [memsC]
  | cons x l ih =>
    intro i m
    cases i with
    | zero => rfl
    | succ i => rw [memsC_cons, List.set_cons_succ, memsC_cons, ← ih i m, show 2 * (i + 1) = 2 * i + 1 + 1 by omega, show 2 * i + 1 + 1 + 1 = 2 * i + 1 + 1 + 1 from rfl]; rfl

theorem row23 : Row 23 2 := ⟨_, Tryd.underlying23, rfl, by kernel_rfl⟩
theorem row24 : Row 24 16 := ⟨_, Tryd.underlying24, rfl, by kernel_rfl⟩
theorem row26 : Row 26 19 := ⟨_, Tryd.underlying26, rfl, by kernel_rfl⟩
theorem row28 : Row 28 64 := ⟨_, Tryd.underlying28, rfl, by kernel_rfl⟩
theorem row42 : Row 42 5 := ⟨_, Tryd.underlying42, rfl, by kernel_rfl⟩
theorem zero23 (w : World) : (Instr.alloc 23 true (.tuple #[])).run Tryd.prog w = .ok (P0 w.heap.size) (w.alloc (.cells (memC (false, 0)).toArray 23)) := by kernel_rfl
theorem zero26 (w : World) : (Instr.alloc 26 true (.tuple #[])).run Tryd.prog w = .ok (P0 w.heap.size) (w.alloc (.cells (vwC zv).toArray 26)) := by kernel_rfl
theorem zero28 (w : World) : (Instr.alloc 28 true (.tuple #[])).run Tryd.prog w = .ok (P0 w.heap.size) (w.alloc (.cells (u8s (zs 64)).toArray 28)) := by kernel_rfl
theorem zero42 (w : World) : (Instr.alloc 42 true (.tuple #[])).run Tryd.prog w = .ok (P0 w.heap.size) (w.alloc (.cells [Value.int .i64 0, .int .i64 0, .int .i64 0, .int .i64 0, .int .i64 0].toArray 42)) := by kernel_rfl
theorem build26 (w : World) : (Instr.build 26 #[]).run Tryd.prog w = .ok (aggV (vwC zv)) w := by kernel_rfl
theorem build28 (w : World) : (Instr.build 28 #[]).run Tryd.prog w = .ok (aggV (u8s (zs 64))) w := by kernel_rfl
theorem build23 (w : World) : (Instr.build 23 #[]).run Tryd.prog w = .ok (aggV (memC (false, 0))) w := by kernel_rfl
theorem build26f (w : World) : (Instr.build 26 #[(1, .bool true)]).run Tryd.prog w = .ok (aggV (vwC fv)) w := by kernel_rfl
theorem build26p (w : World) (n f : Int) (o : Bool) : (Instr.build 26 #[(0, .int .i64 n), (1, .bool o), (2, .int .i64 f)]).run Tryd.prog w = .ok (aggV (vwC ⟨n, o, f, no8⟩)) w := by kernel_rfl
theorem build23p (w : World) (o : Bool) (e : Int) : (Instr.build 23 #[(0, .bool o), (1, .int .i64 e)]).run Tryd.prog w = .ok (aggV (memC (o, e))) w := by kernel_rfl
theorem guard26 : Tryd.prog.eqGuardType Tryd.prog.depth 26 = false := by kernel_rfl
theorem guard28 : Tryd.prog.eqGuardType Tryd.prog.depth 28 = false := by kernel_rfl
theorem fields26 : (Tryd.prog.fieldsOf 26).toList.map (fun f => (decide (f.name ≠ "_"), f.type, f.offset)) = [(true, 2, 0), (true, 4, 1), (true, 3, 2), (true, 24, 3)] := by kernel_rfl
theorem fields23 : (Tryd.prog.fieldsOf 23).toList.map (fun f => (decide (f.name ≠ "_"), f.type, f.offset)) = [(true, 4, 0), (true, 2, 1)] := by kernel_rfl
theorem str26 : Tryd.prog.underlying 26 = some (.struct (Tryd.prog.fieldsOf 26)) := by kernel_rfl
theorem str23 : Tryd.prog.underlying 23 = some (.struct (Tryd.prog.fieldsOf 23)) := by kernel_rfl
theorem part4 (W : World) (vs : Array Value) (o : Nat) (v : Value) (h : vs[o]? = some v) : (part 4 vs o).run Tryd.prog W = .ok v W := by simp [part, isAgg, run_underlying Tryd.underlying4, h]
theorem eq4 (W : World) (d : Nat) (x y : Bool) : (Op.equalIn (d + 1) 4 (.bool x) (.bool y)).run Tryd.prog W = .ok (decide (x = y)) W := by
  simp [Op.equalIn, Sem.run_bind, run_underlying Tryd.underlying4]
  cases x <;> cases y <;> rfl
theorem part_agg (W : World) (T n : Nat) (hT : Row T n) (pre vs post : List Value) (o : Nat) (ho : pre.length = o) (hl : vs.length = n) : (part T (pre ++ vs ++ post).toArray o).run Tryd.prog W = .ok (aggV vs) W := by
  obtain ⟨d, h1, h2, h3⟩ := hT
  cases hq : Tryd.prog.info? T with
  | none => simp [hq] at h3
  | some i =>
    have hs : i.size = n := by simpa [hq] using h3
    have hagg : (isAgg T).run Tryd.prog W = .ok true W := by
      unfold isAgg
      rw [Sem.run_bind, run_underlying h1 W]
      cases d <;> simp_all
    have he : ((pre ++ vs ++ post).toArray.extract o (o + n)) = vs.toArray := by
      subst ho hl
      simp [List.extract_toArray, List.extract_eq_take_drop]
    simp [part, Sem.run_bind, hagg, sizeOf, typeInfo, hq, hs, aggV]
    simpa using he
theorem items_step (W : World) (d T n i o : Nat) (xs ys : Array Value) (is : List Nat) (a b : Value) (c e : Bool) (ho : i * n = o) (pa : (part T xs o).run Tryd.prog W = .ok a W) (pb : (part T ys o).run Tryd.prog W = .ok b W) (he : (Op.equalIn d T a b).run Tryd.prog W = .ok c W) (hf : (Op.eqItems d T n xs ys is).run Tryd.prog W = .ok e W) :
    (Op.eqItems d T n xs ys (i :: is)).run Tryd.prog W = .ok (c && e) W := by
  subst ho
  simp only [Op.eqItems, Sem.run_bind, pa, pb, he, Result.andThen_ok]
  cases c <;> simp [hf]
theorem equal23 (W : World) (d : Nat) (m q : Bool × Int) : (Op.equalIn (d + 2) 23 (aggV (memC m)) (aggV (memC q))).run Tryd.prog W = .ok (decide (m = q)) W := by
  have hh := run_equalIn_struct (P := Tryd.prog) W (d + 1) 23 (memC m).toArray (memC q).toArray str23 (by kernel_rfl)
  refine hh.trans ?_
  generalize hf : (Tryd.prog.fieldsOf 23).toList = fs
  have hm := fields23
  rw [hf] at hm
  match fs, hm with
  | [a, g], hm =>
    simp only [List.map_cons, List.map_nil, List.cons.injEq, Prod.mk.injEq, and_true, decide_eq_true_eq] at hm
    obtain ⟨⟨f1, f2, f3⟩, g1, g2, g3⟩ := hm
    have hh := fields_step W (d + 1) 4 0 _ _ a [g] _ _ _ _ f1 f2 f3 (part4 W (memC m).toArray 0 (.bool m.1) rfl) (part4 W (memC q).toArray 0 (.bool q.1) rfl) (eq4 W d m.1 q.1)
      (fields_step W (d + 1) 2 1 _ _ g [] _ _ _ _ g1 g2 g3 (part2 W (memC m).toArray 1 (.int .i64 m.2) rfl) (part2 W (memC q).toArray 1 (.int .i64 q.2) rfl) (eq2 W d m.2 q.2) (fields_nil ..))
    rw [Bool.and_true] at hh
    rw [hh]
    congr 1
    rw [Bool.eq_iff_iff]
    simp [Prod.ext_iff]
theorem mem_part (W : World) (l : List (Bool × Int)) (i : Nat) (h : i < l.length) : (part 23 (memsC l).toArray (i * 2)).run Tryd.prog W = .ok (aggV (memC l[i])) W := by
  have he : l = l.take i ++ [l[i]] ++ l.drop (i + 1) := by simp
  have hc : memsC l = memsC (l.take i) ++ memC l[i] ++ memsC (l.drop (i + 1)) := by
    conv => lhs; rw [he]
    rw [memsC_app, memsC_app]; simp [memsC]
  rw [hc]
  exact part_agg W 23 2 row23 _ _ _ _ (by rw [memsC_len, List.length_take]; omega) rfl
theorem items_mem (W : World) (d n : Nat) (s t : List (Bool × Int)) (hs : s.length = n) (ht : t.length = n) : ∀ is : List Nat, (∀ i ∈ is, i < n) →
    (Op.eqItems (d + 2) 23 2 (memsC s).toArray (memsC t).toArray is).run Tryd.prog W = .ok (decide (∀ i ∈ is, s[i]? = t[i]?)) W := by
  intro is
  induction is with
  | nil => intro _; simp [Op.eqItems]
  | cons i is ih =>
    intro hi
    have hi0 := hi i (List.mem_cons_self ..)
    have := items_step W (d + 2) 23 2 i (i * 2) _ _ is _ _ _ _ rfl (mem_part W s i (by omega)) (mem_part W t i (by omega)) (equal23 W d _ _) (ih (fun j hj => hi j (List.mem_cons_of_mem _ hj)))
    rw [this]
    congr 1
    rw [Bool.eq_iff_iff]
    simp [show i < s.length by omega, show i < t.length by omega]
theorem Tryd.cells23 : Tryd.prog.cellsOf 23 = 2 := by kernel_rfl
theorem equal24 (W : World) (d : Nat) (s t : List (Bool × Int)) (hs : s.length = 8) (ht : t.length = 8) : (Op.equalIn (d + 3) 24 (aggV (memsC s)) (aggV (memsC t))).run Tryd.prog W = .ok (decide (s = t)) W := by
  have hi : ∃ i, Tryd.prog.info? 23 = some i := by
    obtain ⟨_, _, _, h3⟩ := row23
    cases hq : Tryd.prog.info? 23 with
    | none => simp [hq] at h3
    | some i => exact ⟨i, rfl⟩
  obtain ⟨i0, hi⟩ := hi
  have h := run_equalIn_array (P := Tryd.prog) W (d + 2) (memsC s).toArray (memsC t).toArray Tryd.underlying24 hi
  rw [Tryd.cells23, items_mem W d 8 s t hs ht (List.range 8) (by simp)] at h
  have hd : decide (∀ i ∈ List.range 8, s[i]? = t[i]?) = decide (s = t) := by
    rw [decide_eq_decide]
    constructor
    · intro h
      apply List.ext_getElem?
      intro i
      by_cases hi : i < 8
      · exact h i (by simpa using hi)
      · rw [List.getElem?_eq_none (by omega), List.getElem?_eq_none (by omega)]
    · intro h i _; rw [h]
  rw [hd] at h
  exact h
theorem equal26 (W : World) (v u : Vw) (hv : v.ms.length = 8) (hu : u.ms.length = 8) : (Op.equal 26 (aggV (vwC v)) (aggV (vwC u))).run Tryd.prog W = .ok (decide (v = u)) W := by
  have h := run_equalIn_struct (P := Tryd.prog) W 9999 26 (vwC v).toArray (vwC u).toArray str26 (by kernel_rfl)
  refine h.trans ?_
  generalize hf : (Tryd.prog.fieldsOf 26).toList = fs
  have hm := fields26
  rw [hf] at hm
  match fs, hm with
  | [f, g, k, l], hm =>
    simp only [List.map_cons, List.map_nil, List.cons.injEq, Prod.mk.injEq, and_true, decide_eq_true_eq] at hm
    obtain ⟨⟨f1, f2, f3⟩, ⟨g1, g2, g3⟩, ⟨k1, k2, k3⟩, l1, l2, l3⟩ := hm
    have pm : ∀ v : Vw, v.ms.length = 8 → (part 24 (vwC v).toArray 3).run Tryd.prog W = .ok (aggV (memsC v.ms)) W := by
      intro v hv
      have := part_agg W 24 16 row24 [.int .i64 v.nu, .bool v.op, .int .i64 v.fd] (memsC v.ms) [] 3 rfl (by rw [memsC_len, hv])
      simpa [vwC] using this
    have hh := fields_step W 9999 2 0 _ _ f [g, k, l] _ _ _ _ f1 f2 f3 (part2 W (vwC v).toArray 0 (.int .i64 v.nu) rfl) (part2 W (vwC u).toArray 0 (.int .i64 u.nu) rfl) (eq2 W 9998 v.nu u.nu)
      (fields_step W 9999 4 1 _ _ g [k, l] _ _ _ _ g1 g2 g3 (part4 W (vwC v).toArray 1 (.bool v.op) rfl) (part4 W (vwC u).toArray 1 (.bool u.op) rfl) (eq4 W 9998 v.op u.op)
      (fields_step W 9999 3 2 _ _ k [l] _ _ _ _ k1 k2 k3 (part3 W (vwC v).toArray 2 (.int .i64 v.fd) rfl) (part3 W (vwC u).toArray 2 (.int .i64 u.fd) rfl) (eq3 W 9998 v.fd u.fd)
      (fields_step W 9999 24 3 _ _ l [] _ _ _ _ l1 l2 l3 (pm v hv) (pm u hu) (equal24 W 9996 v.ms u.ms hv hu) (fields_nil ..))))
    rw [Bool.and_true] at hh
    rw [hh]
    congr 1
    rw [Bool.eq_iff_iff]
    cases v; cases u; simp

theorem Tryd.info5 : (Tryd.prog.info? 5).map (fun i => (i.zero, i.size, i.bytes)) = some (some (.int .u8 0), 1, 1) := by kernel_rfl
theorem Tryd.cells5 : Tryd.prog.cellsOf 5 = 1 := by kernel_rfl
theorem eq5 (W : World) (d : Nat) (x y : Int) : (Op.equalIn (d + 1) 5 (.int .u8 x) (.int .u8 y)).run Tryd.prog W = .ok (decide (x = y)) W := by
  simp [Op.equalIn, Sem.run_bind, run_underlying Tryd.underlying5]
  rw [Bool.eq_iff_iff]; simp
theorem items_byts (W : World) (d n : Nat) (s t : List Int) (hs : s.length = n) (ht : t.length = n) : ∀ is : List Nat, (∀ i ∈ is, i < n) →
    (Op.eqItems (d + 1) 5 1 (u8s s).toArray (u8s t).toArray is).run Tryd.prog W = .ok (decide (∀ i ∈ is, s[i]? = t[i]?)) W := by
  have h2 : ∀ (xs : Array Value) (j : Nat) (v : Value), xs[j]? = some v → (part 5 xs j).run Tryd.prog W = .ok v W := by
    intro xs j v hj
    simp [part, isAgg, run_underlying Tryd.underlying5, hj]
  intro is
  induction is with
  | nil => intro _; simp [Op.eqItems]
  | cons i is ih =>
    intro hi
    have hi0 := hi i (List.mem_cons_self ..)
    have h3 : (part 5 (u8s s).toArray (i * 1)).run Tryd.prog W = .ok (.int .u8 (s[i]'(by omega))) W := h2 _ _ _ (by simp [u8s, show i < s.length by omega])
    have h4 : (part 5 (u8s t).toArray (i * 1)).run Tryd.prog W = .ok (.int .u8 (t[i]'(by omega))) W := h2 _ _ _ (by simp [u8s, show i < t.length by omega])
    simp only [Op.eqItems, Sem.run_bind, h3, h4, Result.andThen_ok, eq5]
    by_cases he : s[i]'(by omega) = t[i]'(by omega)
    · have := ih (fun j hj => hi j (List.mem_cons_of_mem _ hj))
      simp [he, this, show i < s.length by omega, show i < t.length by omega]
    · simp [he, show i < s.length by omega, show i < t.length by omega]

theorem equal_byts (W : World) (T n d : Nat) (hu : Tryd.prog.underlying T = some (.array n 5)) (s t : List Int) (hs : s.length = n) (ht : t.length = n) : (Op.equalIn (d + 2) T (aggV (u8s s)) (aggV (u8s t))).run Tryd.prog W = .ok (decide (s = t)) W := by
  obtain ⟨i0, hi, _⟩ := info_parts Tryd.info5
  have h := run_equalIn_array (P := Tryd.prog) W (d + 1) (u8s s).toArray (u8s t).toArray hu hi
  rw [Tryd.cells5, items_byts W d n s t hs ht (List.range n) (by simp)] at h
  have hd : decide (∀ i ∈ List.range n, s[i]? = t[i]?) = decide (s = t) := by
    rw [decide_eq_decide]
    constructor
    · intro h
      apply List.ext_getElem?
      intro i
      by_cases hi : i < n
      · exact h i (by simpa using hi)
      · rw [List.getElem?_eq_none (by omega), List.getElem?_eq_none (by omega)]
    · intro h i _; rw [h]
  rw [hd] at h
  exact h

theorem equal28 (W : World) (s t : List Int) (hs : s.length = 64) (ht : t.length = 64) : (Op.equal 28 (aggV (u8s s)) (aggV (u8s t))).run Tryd.prog W = .ok (decide (s = t)) W := equal_byts W 28 64 9998 Tryd.underlying28 s t hs ht

/-- The variable view.first stands. -/
structure First (w : World) : Prop where
  at0 : w.rangeAt 0 0 (vwC fv)
  lt : 0 < w.heap.size
theorem First.kept {w w' : World} (h : First w) (hk : Kept [] w w') : First w' :=
  ⟨fun j v hj => by have := h.at0 j v hj; exact hk.cell this (by simp), Nat.lt_of_lt_of_le h.lt hk.size⟩
theorem First.keptX {w w' : World} {X : List Nat} (h : First w) (hk : Kept X w w') (hX : 0 ∉ X) : First w' :=
  ⟨fun j v hj => by have := h.at0 j v hj; exact hk.cell this hX, Nat.lt_of_lt_of_le h.lt hk.size⟩

end Go.Proofs.YtbpnnbbinhdoiaaDoor
