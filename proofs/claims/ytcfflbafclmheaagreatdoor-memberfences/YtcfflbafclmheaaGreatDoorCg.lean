/-
  Master: a page's master.
-/
import Derived.Test.YtcfflbafclmheaaGreatDoorCc
import Derived.RangeFuncNested
import Derived.RangeFuncBound
import Derived.RangeFuncCalls
import Derived.RangeFuncLeaves
import Derived.Shelf.Abstract
import Derived.Shelf.RegionOpen
import Derived.OwnWalkIn
import Derived.TacticsInMore
import Derived.LoopNIn
import Derived.LoopIn
import Derived.RangeFuncWrites

/-
  Views, members and sectors as plain data, and laws for them as a whole.
-/
namespace Go.Proofs.YtcfflbafclmheaaGreatDoor.Vi
set_option maxRecDepth 100000
set_option maxRecDepth 100000
open Go.RowKit


/-- A number that an int64 can be. -/
def I64 (n : Int) : Prop := -9223372036854775808 ≤ n ∧ n ≤ 9223372036854775807
/-- A view: its number, whether it is open, its founder, its members. -/
structure Vw where
  nu : Int
  op : Bool
  fd : Int
  ms : List (Bool × Int)
deriving DecidableEq
structure Vw.Ok (v : Vw) : Prop where
  nu : I64 v.nu
  fd : I64 v.fd
  len : v.ms.length = 8
  ep : ∀ m ∈ v.ms, I64 m.2
/-- n bytes. -/
structure Byts (n : Nat) (s : List Int) : Prop where
  len : s.length = n
  byte : ∀ x ∈ s, 0 ≤ x ∧ x < 256
def zs (n : Nat) : List Int := List.replicate n 0
theorem zs_byts (n : Nat) : Byts n (zs n) := ⟨by simp [zs], fun x hx => by simp [zs] at hx; omega⟩
def memC (m : Bool × Int) : List Value := [.bool m.1, .int .i64 m.2]
def memsC (l : List (Bool × Int)) : List Value := (l.map memC).flatten
def vwC (v : Vw) : List Value := .int .i64 v.nu :: .bool v.op :: .int .i64 v.fd :: memsC v.ms
def no8 : List (Bool × Int) := List.replicate 8 (false, 0)
def zv : Vw := ⟨0, false, 0, no8⟩
def fv : Vw := ⟨0, true, 0, no8⟩
theorem no8_ok : ∀ m ∈ no8, I64 m.2 := fun m hm => by simp [no8] at hm; subst hm; exact ⟨by decide, by decide⟩
theorem zv_ok : zv.Ok := ⟨⟨by decide, by decide⟩, ⟨by decide, by decide⟩, by simp [zv, no8], no8_ok⟩
theorem fv_ok : fv.Ok := ⟨⟨by decide, by decide⟩, ⟨by decide, by decide⟩, by simp [fv, no8], no8_ok⟩
theorem memsC_len (l : List (Bool × Int)) : (memsC l).length = 2 * l.length := by
  induction l with
  | nil => rfl
  | cons m l ih => simp only [memsC, List.map_cons, List.flatten_cons, List.length_append, List.length_cons] at *; rw [ih]; simp [memC]; omega
theorem memsC_cons (m : Bool × Int) (l : List (Bool × Int)) : memsC (m :: l) = .bool m.1 :: .int .i64 m.2 :: memsC l := rfl
theorem memsC_app (a b : List (Bool × Int)) : memsC (a ++ b) = memsC a ++ memsC b := by simp [memsC]
theorem memsC_at (l : List (Bool × Int)) : ∀ (i : Nat) (m : Bool × Int), l[i]? = some m → (memsC l)[2 * i]? = some (.bool m.1) ∧ (memsC l)[2 * i + 1]? = some (.int .i64 m.2) := by
  induction l with
  | nil => intro i m h; simp at h
  | cons x l ih =>
    intro i m h
    rw [memsC_cons]
    cases i with
    | zero => simp at h; subst h; exact ⟨rfl, rfl⟩
    | succ i =>
      have := ih i m (by simpa using h)
      exact ⟨by rw [show 2 * (i + 1) = 2 * i + 1 + 1 by omega, List.getElem?_cons_succ, List.getElem?_cons_succ]; exact this.1, by rw [show 2 * (i + 1) + 1 = 2 * i + 1 + 1 + 1 by omega, List.getElem?_cons_succ, List.getElem?_cons_succ]; exact this.2⟩
theorem memsC_one (l : List (Bool × Int)) : ∀ v ∈ memsC l, v.oneCell' = true := by
  induction l with
  | nil => intro v hv; simp [memsC] at hv
  | cons m l ih =>
    intro v hv
    rw [memsC_cons] at hv
    simp only [List.mem_cons] at hv
    rcases hv with rfl | rfl | hv
    · rfl
    · rfl
    · exact ih v hv
theorem memC_one (m : Bool × Int) : ∀ v ∈ memC m, v.oneCell' = true := by
  intro v hv
  simp only [memC, List.mem_cons, List.mem_nil_iff, or_false] at hv
  rcases hv with rfl | rfl <;> rfl
theorem vwC_len {v : Vw} (h : v.ms.length = 8) : (vwC v).length = 19 := by simp [vwC, memsC_len, h]
theorem vwC_one (v : Vw) : ∀ u ∈ vwC v, u.oneCell' = true := by
  intro u hu
  simp only [vwC, List.mem_cons] at hu
  rcases hu with rfl | rfl | rfl | hu
  iterate 3 rfl
  exact memsC_one _ u hu
theorem vwC_at {v : Vw} {i : Nat} {m : Bool × Int} (h : v.ms[i]? = some m) : (vwC v)[3 + 2 * i]? = some (.bool m.1) ∧ (vwC v)[3 + 2 * i + 1]? = some (.int .i64 m.2) := by
  have := memsC_at v.ms i m h
  unfold vwC
  exact ⟨by rw [show 3 + 2 * i = 2 * i + 1 + 1 + 1 by omega]; simpa using this.1, by rw [show 3 + 2 * i + 1 = 2 * i + 1 + 1 + 1 + 1 by omega]; simpa using this.2⟩
theorem memsC_set (l : List (Bool × Int)) : ∀ (i : Nat) (m : Bool × Int), ((memsC l).set (2 * i) (.bool m.1)).set (2 * i + 1) (.int .i64 m.2) = memsC (l.set i m) := by
  induction l with
  | nil => intro i m; simp [memsC]
  | cons x l ih =>
    intro i m
    cases i with
    | zero => rfl
    | succ i => rw [memsC_cons, List.set_cons_succ, memsC_cons, ← ih i m, show 2 * (i + 1) = 2 * i + 1 + 1 by omega, show 2 * i + 1 + 1 + 1 = 2 * i + 1 + 1 + 1 from rfl]; rfl

theorem row23 : Row 26 2 := ⟨_, Tryz.underlying26, rfl, by kernel_rfl⟩
theorem row24 : Row 27 16 := ⟨_, Tryz.underlying27, rfl, by kernel_rfl⟩
theorem row26 : Row 29 19 := ⟨_, Tryz.underlying29, rfl, by kernel_rfl⟩
theorem row28 : Row 59 64 := ⟨_, Tryz.underlying59, rfl, by kernel_rfl⟩
theorem zero23 (w : World) : (Instr.alloc 26 true (.tuple #[])).run Tryz.prog w = .ok (P0 w.heap.size) (w.alloc (.cells (memC (false, 0)).toArray 26)) := by kernel_rfl
theorem zero26 (w : World) : (Instr.alloc 29 true (.tuple #[])).run Tryz.prog w = .ok (P0 w.heap.size) (w.alloc (.cells (vwC zv).toArray 29)) := by kernel_rfl
theorem zero28 (w : World) : (Instr.alloc 59 true (.tuple #[])).run Tryz.prog w = .ok (P0 w.heap.size) (w.alloc (.cells (u8s (zs 64)).toArray 59)) := by kernel_rfl
theorem build26 (w : World) : (Instr.build 29 #[]).run Tryz.prog w = .ok (aggV (vwC zv)) w := by kernel_rfl
theorem build28 (w : World) : (Instr.build 59 #[]).run Tryz.prog w = .ok (aggV (u8s (zs 64))) w := by kernel_rfl
theorem build23 (w : World) : (Instr.build 26 #[]).run Tryz.prog w = .ok (aggV (memC (false, 0))) w := by kernel_rfl
theorem build26f (w : World) : (Instr.build 29 #[(1, .bool true)]).run Tryz.prog w = .ok (aggV (vwC fv)) w := by kernel_rfl
theorem build26p (w : World) (n f : Int) (o : Bool) : (Instr.build 29 #[(0, .int .i64 n), (1, .bool o), (2, .int .i64 f)]).run Tryz.prog w = .ok (aggV (vwC ⟨n, o, f, no8⟩)) w := by kernel_rfl
theorem build23p (w : World) (o : Bool) (e : Int) : (Instr.build 26 #[(0, .bool o), (1, .int .i64 e)]).run Tryz.prog w = .ok (aggV (memC (o, e))) w := by kernel_rfl
theorem guard26 : Tryz.prog.eqGuardType Tryz.prog.depth 29 = false := by kernel_rfl
theorem guard28 : Tryz.prog.eqGuardType Tryz.prog.depth 59 = false := by kernel_rfl
theorem fields26 : (Tryz.prog.fieldsOf 29).toList.map (fun f => (decide (f.name ≠ "_"), f.type, f.offset)) = [(true, 2, 0), (true, 4, 1), (true, 3, 2), (true, 27, 3)] := by kernel_rfl
theorem fields23 : (Tryz.prog.fieldsOf 26).toList.map (fun f => (decide (f.name ≠ "_"), f.type, f.offset)) = [(true, 4, 0), (true, 2, 1)] := by kernel_rfl
theorem str26 : Tryz.prog.underlying 29 = some (.struct (Tryz.prog.fieldsOf 29)) := by kernel_rfl
theorem str23 : Tryz.prog.underlying 26 = some (.struct (Tryz.prog.fieldsOf 26)) := by kernel_rfl
theorem part4 (W : World) (vs : Array Value) (o : Nat) (v : Value) (h : vs[o]? = some v) : (part 4 vs o).run Tryz.prog W = .ok v W := by simp [part, isAgg, run_underlying Tryz.underlying4, h]
theorem eq4 (W : World) (d : Nat) (x y : Bool) : (Op.equalIn (d + 1) 4 (.bool x) (.bool y)).run Tryz.prog W = .ok (decide (x = y)) W := by
  simp [Op.equalIn, Sem.run_bind, run_underlying Tryz.underlying4]
  cases x <;> cases y <;> rfl
theorem part_agg (W : World) (T n : Nat) (hT : Row T n) (pre vs post : List Value) (o : Nat) (ho : pre.length = o) (hl : vs.length = n) : (part T (pre ++ vs ++ post).toArray o).run Tryz.prog W = .ok (aggV vs) W := by
  obtain ⟨d, h1, h2, h3⟩ := hT
  cases hq : Tryz.prog.info? T with
  | none => simp [hq] at h3
  | some i =>
    have hs : i.size = n := by simpa [hq] using h3
    have hagg : (isAgg T).run Tryz.prog W = .ok true W := by
      unfold isAgg
      rw [Sem.run_bind, run_underlying h1 W]
      cases d <;> simp_all
    have he : ((pre ++ vs ++ post).toArray.extract o (o + n)) = vs.toArray := by
      subst ho hl
      simp [List.extract_toArray, List.extract_eq_take_drop]
    simp [part, Sem.run_bind, hagg, sizeOf, typeInfo, hq, hs, aggV]
    simpa using he
theorem items_step (W : World) (d T n i o : Nat) (xs ys : Array Value) (is : List Nat) (a b : Value) (c e : Bool) (ho : i * n = o) (pa : (part T xs o).run Tryz.prog W = .ok a W) (pb : (part T ys o).run Tryz.prog W = .ok b W) (he : (Op.equalIn d T a b).run Tryz.prog W = .ok c W) (hf : (Op.eqItems d T n xs ys is).run Tryz.prog W = .ok e W) :
    (Op.eqItems d T n xs ys (i :: is)).run Tryz.prog W = .ok (c && e) W := by
  subst ho
  simp only [Op.eqItems, Sem.run_bind, pa, pb, he, Result.andThen_ok]
  cases c <;> simp [hf]
theorem equal23 (W : World) (d : Nat) (m q : Bool × Int) : (Op.equalIn (d + 2) 26 (aggV (memC m)) (aggV (memC q))).run Tryz.prog W = .ok (decide (m = q)) W := by
  have hh := run_equalIn_struct (P := Tryz.prog) W (d + 1) 26 (memC m).toArray (memC q).toArray str23 (by kernel_rfl)
  refine hh.trans ?_
  generalize hf : (Tryz.prog.fieldsOf 26).toList = fs
  have hm := fields23
  rw [hf] at hm
  match fs, hm with
  | [a, g], hm =>
    simp only [List.map_cons, List.map_nil, List.cons.injEq, Prod.mk.injEq, and_true, decide_eq_true_eq] at hm
    obtain ⟨⟨f1, f2, f3⟩, g1, g2, g3⟩ := hm
    have hh := fields_step W (d + 1) 4 0 _ _ a [g] _ _ _ _ f1 f2 f3 (part4 W (memC m).toArray 0 (.bool m.1) rfl) (part4 W (memC q).toArray 0 (.bool q.1) rfl) (eq4 W d m.1 q.1)
      (fields_step W (d + 1) 2 1 _ _ g [] _ _ _ _ g1 g2 g3 (part2 W (memC m).toArray 1 (.int .i64 m.2) rfl) (part2 W (memC q).toArray 1 (.int .i64 q.2) rfl) (eq2 W d m.2 q.2) (fields_nil ..))
    rw [Bool.and_true] at hh
    rw [hh]
    congr 1
    rw [Bool.eq_iff_iff]
    simp [Prod.ext_iff]
theorem mem_part (W : World) (l : List (Bool × Int)) (i : Nat) (h : i < l.length) : (part 26 (memsC l).toArray (i * 2)).run Tryz.prog W = .ok (aggV (memC l[i])) W := by
  have he : l = l.take i ++ [l[i]] ++ l.drop (i + 1) := by simp
  have hc : memsC l = memsC (l.take i) ++ memC l[i] ++ memsC (l.drop (i + 1)) := by
    conv => lhs; rw [he]
    rw [memsC_app, memsC_app]; simp [memsC]
  rw [hc]
  exact part_agg W 26 2 row23 _ _ _ _ (by rw [memsC_len, List.length_take]; omega) rfl
theorem items_mem (W : World) (d n : Nat) (s t : List (Bool × Int)) (hs : s.length = n) (ht : t.length = n) : ∀ is : List Nat, (∀ i ∈ is, i < n) →
    (Op.eqItems (d + 2) 26 2 (memsC s).toArray (memsC t).toArray is).run Tryz.prog W = .ok (decide (∀ i ∈ is, s[i]? = t[i]?)) W := by
  intro is
  induction is with
  | nil => intro _; simp [Op.eqItems]
  | cons i is ih =>
    intro hi
    have hi0 := hi i (List.mem_cons_self ..)
    have := items_step W (d + 2) 26 2 i (i * 2) _ _ is _ _ _ _ rfl (mem_part W s i (by omega)) (mem_part W t i (by omega)) (equal23 W d _ _) (ih (fun j hj => hi j (List.mem_cons_of_mem _ hj)))
    rw [this]
    congr 1
    rw [Bool.eq_iff_iff]
    simp [show i < s.length by omega, show i < t.length by omega]
theorem Tryz.cells23 : Tryz.prog.cellsOf 26 = 2 := by kernel_rfl
theorem equal24 (W : World) (d : Nat) (s t : List (Bool × Int)) (hs : s.length = 8) (ht : t.length = 8) : (Op.equalIn (d + 3) 27 (aggV (memsC s)) (aggV (memsC t))).run Tryz.prog W = .ok (decide (s = t)) W := by
  have hi : ∃ i, Tryz.prog.info? 26 = some i := by
    obtain ⟨_, _, _, h3⟩ := row23
    cases hq : Tryz.prog.info? 26 with
    | none => simp [hq] at h3
    | some i => exact ⟨i, rfl⟩
  obtain ⟨i0, hi⟩ := hi
  have h := run_equalIn_array (P := Tryz.prog) W (d + 2) (memsC s).toArray (memsC t).toArray Tryz.underlying27 hi
  rw [Tryz.cells23, items_mem W d 8 s t hs ht (List.range 8) (by simp)] at h
  have hd : decide (∀ i ∈ List.range 8, s[i]? = t[i]?) = decide (s = t) := by
    rw [decide_eq_decide]
    constructor
    · intro h
      apply List.ext_getElem?
      intro i
      by_cases hi : i < 8
      · exact h i (by simpa using hi)
      · rw [List.getElem?_eq_none (by omega), List.getElem?_eq_none (by omega)]
    · intro h i _; rw [h]
  rw [hd] at h
  exact h
theorem equal26 (W : World) (v u : Vw) (hv : v.ms.length = 8) (hu : u.ms.length = 8) : (Op.equal 29 (aggV (vwC v)) (aggV (vwC u))).run Tryz.prog W = .ok (decide (v = u)) W := by
  have h := run_equalIn_struct (P := Tryz.prog) W 9999 29 (vwC v).toArray (vwC u).toArray str26 (by kernel_rfl)
  refine h.trans ?_
  generalize hf : (Tryz.prog.fieldsOf 29).toList = fs
  have hm := fields26
  rw [hf] at hm
  match fs, hm with
  | [f, g, k, l], hm =>
    simp only [List.map_cons, List.map_nil, List.cons.injEq, Prod.mk.injEq, and_true, decide_eq_true_eq] at hm
    obtain ⟨⟨f1, f2, f3⟩, ⟨g1, g2, g3⟩, ⟨k1, k2, k3⟩, l1, l2, l3⟩ := hm
    have pm : ∀ v : Vw, v.ms.length = 8 → (part 27 (vwC v).toArray 3).run Tryz.prog W = .ok (aggV (memsC v.ms)) W := by
      intro v hv
      have := part_agg W 27 16 row24 [.int .i64 v.nu, .bool v.op, .int .i64 v.fd] (memsC v.ms) [] 3 rfl (by rw [memsC_len, hv])
      simpa [vwC] using this
    have hh := fields_step W 9999 2 0 _ _ f [g, k, l] _ _ _ _ f1 f2 f3 (part2 W (vwC v).toArray 0 (.int .i64 v.nu) rfl) (part2 W (vwC u).toArray 0 (.int .i64 u.nu) rfl) (eq2 W 9998 v.nu u.nu)
      (fields_step W 9999 4 1 _ _ g [k, l] _ _ _ _ g1 g2 g3 (part4 W (vwC v).toArray 1 (.bool v.op) rfl) (part4 W (vwC u).toArray 1 (.bool u.op) rfl) (eq4 W 9998 v.op u.op)
      (fields_step W 9999 3 2 _ _ k [l] _ _ _ _ k1 k2 k3 (part3 W (vwC v).toArray 2 (.int .i64 v.fd) rfl) (part3 W (vwC u).toArray 2 (.int .i64 u.fd) rfl) (eq3 W 9998 v.fd u.fd)
      (fields_step W 9999 27 3 _ _ l [] _ _ _ _ l1 l2 l3 (pm v hv) (pm u hu) (equal24 W 9996 v.ms u.ms hv hu) (fields_nil ..))))
    rw [Bool.and_true] at hh
    rw [hh]
    congr 1
    rw [Bool.eq_iff_iff]
    cases v; cases u; simp

theorem Tryz.info5 : (Tryz.prog.info? 5).map (fun i => (i.zero, i.size, i.bytes)) = some (some (.int .u8 0), 1, 1) := by kernel_rfl
theorem Tryz.cells5 : Tryz.prog.cellsOf 5 = 1 := by kernel_rfl
theorem eq5 (W : World) (d : Nat) (x y : Int) : (Op.equalIn (d + 1) 5 (.int .u8 x) (.int .u8 y)).run Tryz.prog W = .ok (decide (x = y)) W := by
  simp [Op.equalIn, Sem.run_bind, run_underlying Tryz.underlying5]
  rw [Bool.eq_iff_iff]; simp
theorem items_byts (W : World) (d n : Nat) (s t : List Int) (hs : s.length = n) (ht : t.length = n) : ∀ is : List Nat, (∀ i ∈ is, i < n) →
    (Op.eqItems (d + 1) 5 1 (u8s s).toArray (u8s t).toArray is).run Tryz.prog W = .ok (decide (∀ i ∈ is, s[i]? = t[i]?)) W := by
  have h2 : ∀ (xs : Array Value) (j : Nat) (v : Value), xs[j]? = some v → (part 5 xs j).run Tryz.prog W = .ok v W := by
    intro xs j v hj
    simp [part, isAgg, run_underlying Tryz.underlying5, hj]
  intro is
  induction is with
  | nil => intro _; simp [Op.eqItems]
  | cons i is ih =>
    intro hi
    have hi0 := hi i (List.mem_cons_self ..)
    have h3 : (part 5 (u8s s).toArray (i * 1)).run Tryz.prog W = .ok (.int .u8 (s[i]'(by omega))) W := h2 _ _ _ (by simp [u8s, show i < s.length by omega])
    have h4 : (part 5 (u8s t).toArray (i * 1)).run Tryz.prog W = .ok (.int .u8 (t[i]'(by omega))) W := h2 _ _ _ (by simp [u8s, show i < t.length by omega])
    simp only [Op.eqItems, Sem.run_bind, h3, h4, Result.andThen_ok, eq5]
    by_cases he : s[i]'(by omega) = t[i]'(by omega)
    · have := ih (fun j hj => hi j (List.mem_cons_of_mem _ hj))
      simp [he, this, show i < s.length by omega, show i < t.length by omega]
    · simp [he, show i < s.length by omega, show i < t.length by omega]

theorem equal_byts (W : World) (T n d : Nat) (hu : Tryz.prog.underlying T = some (.array n 5)) (s t : List Int) (hs : s.length = n) (ht : t.length = n) : (Op.equalIn (d + 2) T (aggV (u8s s)) (aggV (u8s t))).run Tryz.prog W = .ok (decide (s = t)) W := by
  obtain ⟨i0, hi, _⟩ := info_parts Tryz.info5
  have h := run_equalIn_array (P := Tryz.prog) W (d + 1) (u8s s).toArray (u8s t).toArray hu hi
  rw [Tryz.cells5, items_byts W d n s t hs ht (List.range n) (by simp)] at h
  have hd : decide (∀ i ∈ List.range n, s[i]? = t[i]?) = decide (s = t) := by
    rw [decide_eq_decide]
    constructor
    · intro h
      apply List.ext_getElem?
      intro i
      by_cases hi : i < n
      · exact h i (by simpa using hi)
      · rw [List.getElem?_eq_none (by omega), List.getElem?_eq_none (by omega)]
    · intro h i _; rw [h]
  rw [hd] at h
  exact h

theorem equal28 (W : World) (s t : List Int) (hs : s.length = 64) (ht : t.length = 64) : (Op.equal 59 (aggV (u8s s)) (aggV (u8s t))).run Tryz.prog W = .ok (decide (s = t)) W := equal_byts W 59 64 9998 Tryz.underlying59 s t hs ht

/-- The variable view.first stands. -/
structure First (w : World) : Prop where
  at0 : w.rangeAt 0 0 (vwC fv)
  lt : 0 < w.heap.size
theorem First.kept {w w' : World} (h : First w) (hk : Kept [] w w') : First w' :=
  ⟨fun j v hj => by have := h.at0 j v hj; exact hk.cell this (by simp), Nat.lt_of_lt_of_le h.lt hk.size⟩
theorem First.keptX {w w' : World} {X : List Nat} (h : First w) (hk : Kept X w w') (hX : 0 ∉ X) : First w' :=
  ⟨fun j v hj => by have := h.at0 j v hj; exact hk.cell this hX, Nat.lt_of_lt_of_le h.lt hk.size⟩

end Go.Proofs.YtcfflbafclmheaaGreatDoor.Vi

/-
  The small functions: isNode, isEpoch, isIn, num, First, node.
-/
namespace Go.Proofs.YtcfflbafclmheaaGreatDoor.Vi
set_option maxRecDepth 100000
set_option maxRecDepth 100000
open Go.RowKit


def isNo (n : Int) : Bool := decide (0 ≤ n ∧ n < 8)
def isEp (n : Int) : Bool := decide (1 ≤ n ∧ n ≤ 2147483647)
def Vw.mem (v : Vw) (n : Int) : Bool × Int := v.ms.getD n.toNat (false, 0)
def Vw.isIn (v : Vw) (n : Int) : Bool := isNo n && (v.mem n).1
theorem isEpoch36 (n : Int) (w : World) : Calls Tryz.prog 138 #[.int .i64 n] w fun e w' => e = .returned (.bool (isEp n)) ∧ w' = w := by
  by_cases h1 : 1 ≤ n
  · go_enter Tryz.func138, Tryz.ntmps138
    go_wp2_with fail
    go_ret
    exact ⟨ret_bool (by simp [isEp]; omega), rfl⟩
  · go_enter Tryz.func138, Tryz.ntmps138
    go_wp2_with fail
    go_ret
    exact ⟨ret_bool (by simp [isEp]; omega), rfl⟩
theorem isNode37 (n : Int) (w : World) : Calls Tryz.prog 137 #[.int .i64 n] w fun e w' => e = .returned (.bool (isNo n)) ∧ w' = w := by
  by_cases h1 : 0 ≤ n
  · go_enter Tryz.func137, Tryz.ntmps137
    go_wp2_with fail
    go_ret
    exact ⟨ret_bool (by simp [isNo]; omega), rfl⟩
  · go_enter Tryz.func137, Tryz.ntmps137
    go_wp2_with fail
    go_ret
    exact ⟨ret_bool (by simp [isNo]; omega), rfl⟩
theorem mem_at {v : Vw} (h : v.ms.length = 8) {n : Int} (h0 : 0 ≤ n) (h8 : n < 8) : v.ms[n.toNat]? = some (v.mem n) := by
  unfold Vw.mem
  rw [List.getD_eq_getElem?_getD, List.getElem?_eq_getElem (by omega)]; rfl
theorem _root_.Go.Proofs.YtcfflbafclmheaaGreatDoor.Blk.mem {W : World} {b : Nat} {v : Vw} (h : Blk W b 29 (vwC v)) (hv : v.ms.length = 8) {n : Int} (h0 : 0 ≤ n) (h8 : n < 8) : W.cell? ⟨b, 3 + n.toNat * 2, none⟩ = some (.bool (v.mem n).1) ∧ W.cell? ⟨b, 3 + n.toNat * 2 + 1, none⟩ = some (.int .i64 (v.mem n).2) := by
  have := vwC_at (mem_at hv h0 h8)
  rw [Nat.mul_comm] at this
  exact ⟨fits_cell h _ _ this.1, fits_cell h _ _ this.2⟩
theorem isIn35 (v : Vw) (n : Int) (w : World) (hv : v.ms.length = 8) : Calls Tryz.prog 141 #[aggV (vwC v), .int .i64 n] w fun e w' => e = .returned (.bool (v.isIn n)) ∧ Kept [] w w' := by
  unfold Vw.isIn
  by_cases hn : 0 ≤ n ∧ n < 8
  · rw [show isNo n = true by simp [isNo]; omega]
    obtain ⟨h0, h8⟩ := hn
    go_enter Tryz.func141, Tryz.ntmps141
    go_wp2_with (
      first
      | (refine wpBoxV rfl (.tmp 0) rfl (vwC v) rfl ?_
         intro W1 b1 e1 B1 K1
         obtain ⟨c0, c1⟩ := Blk.mem B1 hv h0 h8
         have KK := hide K1
         have pn := hide (isNode37 n W1)
         rw [show isNo n = true by simp [isNo]; omega] at pn
         clear e1 B1 K1 c1)
      | (go_at_call 137; refine (unhide pn).mono ?_; rintro e w' ⟨rfl, rfl⟩; clear pn))
    go_ret
    exact ⟨rfl, unhide KK⟩
  · have hf : isNo n = false := by simp [isNo]; omega
    rw [hf]
    clear hn
    go_enter Tryz.func141, Tryz.ntmps141
    go_wp2_with (
      first
      | (refine wpBoxV rfl (.tmp 0) rfl (vwC v) rfl ?_
         intro W1 b1 e1 B1 K1
         have KK := hide K1
         have pn := hide (isNode37 n W1)
         rw [hf] at pn
         clear e1 B1 K1)
      | (go_at_call 137; refine (unhide pn).mono ?_; rintro e w' ⟨rfl, rfl⟩; clear pn))
    go_ret
    exact ⟨rfl, unhide KK⟩

end Go.Proofs.YtcfflbafclmheaaGreatDoor.Vi

/-
  Blocks kept in mind: one fact on all of them.
-/
namespace Go.Proofs.YtcfflbafclmheaaGreatDoor.Vi
set_option maxRecDepth 100000
set_option maxRecDepth 100000
open Go.RowKit


/-- Since w0 only new blocks were written, view.first stands, and these blocks are new and have these cells. -/
structure Mm (w0 w : World) (bs : List (Nat × Nat × List Value)) : Prop where
  kept : Kept [] w0 w
  first : First w
  first0 : 0 < w0.heap.size
  blk : ∀ x ∈ bs, Blk w x.1 x.2.1 x.2.2 ∧ w0.heap.size ≤ x.1
  nd : (bs.map (·.1)).Nodup
theorem Mm.init {w : World} (h : First w) : Mm w w [] := ⟨Kept.refl _ _, h, h.lt, (fun x hx => by cases hx), List.nodup_nil⟩
theorem Mm.step {w0 w w' : World} {bs : List (Nat × Nat × List Value)} (h : Mm w0 w bs) (hk : Kept [] w w') : Mm w0 w' bs :=
  ⟨h.kept.trans hk, h.first.kept hk, h.first0, fun x hx => ⟨(h.blk x hx).1.kept hk (by simp), (h.blk x hx).2⟩, h.nd⟩
theorem Mm.new {w0 w W : World} {bs : List (Nat × Nat × List Value)} {b T : Nat} {vs : List Value} (h : Mm w0 w bs) (hb : b = w.heap.size) (B : Blk W b T vs) (K : Kept [] w W) : Mm w0 W (bs ++ [(b, T, vs)]) := by
  have h' := h.step K
  refine ⟨h'.kept, h'.first, h.first0, ?_, ?_⟩
  · intro x hx
    rcases List.mem_append.1 hx with hx | hx
    · exact h'.blk x hx
    · simp at hx; subst hx
      exact ⟨B, by have := h.kept.size; simp; omega⟩
  · rw [List.map_append, List.nodup_append]
    refine ⟨h.nd, by simp, ?_⟩
    intro a ha c hc
    simp at hc; subst hc
    obtain ⟨x, hx, rfl⟩ := List.mem_map.1 ha
    have := (h.blk x hx).1.lt
    omega
theorem Mm.at {w0 w : World} {bs : List (Nat × Nat × List Value)} (h : Mm w0 w bs) (i : Nat) (x : Nat × Nat × List Value) (hx : bs[i]? = some x) : Blk w x.1 x.2.1 x.2.2 := (h.blk x (List.mem_of_getElem? hx)).1
theorem Mm.new0 {w0 w : World} {bs : List (Nat × Nat × List Value)} (h : Mm w0 w bs) (i : Nat) (x : Nat × Nat × List Value) (hx : bs[i]? = some x) : w0.heap.size ≤ x.1 := (h.blk x (List.mem_of_getElem? hx)).2
theorem Mm.mut {w0 w w' : World} {bs : List (Nat × Nat × List Value)} (h : Mm w0 w bs) (i : Nat) {b T : Nat} {us vs : List Value} (hi : bs[i]? = some (b, T, us)) (hk : Kept [b] w w') (hB : Blk w' b T vs) : Mm w0 w' (bs.set i (b, T, vs)) := by
  have h0 := h.new0 i _ hi
  have hp := h.first0
  have hb0 : b ≠ 0 := by simp at h0; omega
  refine ⟨h.kept.fresh hk (fun k hk' hl => by simp at hk'; subst hk'; simp at h0; omega), h.first.keptX hk (by simpa using fun e => hb0 e.symm), h.first0, ?_, ?_⟩
  · intro x hx
    obtain ⟨j, hj, rfl⟩ := List.getElem_of_mem hx
    rw [List.length_set] at hj
    by_cases hij : i = j
    · subst hij
      rw [List.getElem_set_self]
      exact ⟨hB, h0⟩
    · rw [List.getElem_set_ne hij]
      have hm := h.blk bs[j] (List.getElem_mem hj)
      refine ⟨hm.1.kept hk ?_, hm.2⟩
      simp only [List.mem_singleton]
      intro e
      have h1 := (List.getElem?_eq_some_iff.1 hi)
      obtain ⟨hi', hi''⟩ := h1
      have := List.pairwise_iff_getElem.1 h.nd
      rcases Nat.lt_or_gt_of_ne hij with hlt | hlt
      · have := this i j (by simpa using hi') (by simpa using hj) hlt
        simp [hi''] at this
        exact this e.symm
      · have := this j i (by simpa using hj) (by simpa using hi') hlt
        simp [hi''] at this
        exact this e
  · have : (bs.set i (b, T, vs)).map (·.1) = bs.map (·.1) := by
      rw [List.map_set]
      apply List.ext_getElem?
      intro j
      by_cases hij : i = j
      · subst hij
        have h1 := (List.getElem?_eq_some_iff.1 hi)
        obtain ⟨hi', hi''⟩ := h1
        simp [hi', hi'']
      · rw [List.getElem?_set_ne hij]
    rw [this]; exact h.nd
theorem Mm.sets {w0 w : World} {bs : List (Nat × Nat × List Value)} (h : Mm w0 w bs) (i : Nat) {b T : Nat} {us : List Value} (hi : bs[i]? = some (b, T, us)) (vs : List Value) (hl : us.length = vs.length) : Mm w0 (w.setCells b 0 vs) (bs.set i (b, T, vs)) :=
  h.mut i hi ((Kept.refl _ _).setCells _ _ (by simp)) ((h.at i _ hi).put hl)
section
variable {ops : Array Oper} {rest : List Oper} {op : Oper} {a : Act} {w w0 : World} {Q : Exit → Act → World → Prop} {bs : List (Nat × Nat × List Value)}
theorem wpStoreM {T n : Nat} (hT : Row T n) (hgd : op.guard = none) (x y : Operand) (ho : op.op = .store T x y) (hd : op.dst = none) (b i : Nat) (vs : List Value) (hx : a.eval x = P0 b) (hy : a.eval y = aggV vs) (hl : vs.length = n) (h1 : ∀ v ∈ vs, v.oneCell' = true) (hM : Mm w0 w bs) {us : List Value} (hi : bs[i]? = some (b, T, us)) (hu : us.length = n)
    (h : ∀ W, Mm w0 W (bs.set i (b, T, vs)) → wpList Tryz.prog ops Q rest a W) : wpList Tryz.prog ops Q (op :: rest) a w := by
  refine wpStoreA hT hgd x y ho b 0 vs hx hy hl h1 ((hM.at i _ hi).there (by simp [hu])) ?_
  rw [hd]
  exact h _ (hM.sets i hi vs (by omega))
theorem size2 : (Tryz.prog.info? 2).map (·.size) = some 1 := by kernel_rfl
theorem size3 : (Tryz.prog.info? 3).map (·.size) = some 1 := by kernel_rfl
theorem size4 : (Tryz.prog.info? 4).map (·.size) = some 1 := by kernel_rfl
theorem size5 : (Tryz.prog.info? 5).map (·.size) = some 1 := by kernel_rfl
theorem storeVar1 {T : Nat} (hi : (Tryz.prog.info? T).map (·.size) = some 1) {w : World} {b off TT : Nat} {us : List Value} (hB : Blk w b TT us) (hl : off < us.length) (v : Value) (h1 : v.oneCell' = true) (hc1 : v.cells = #[v]) : (storeVar T ⟨b, off, none⟩ v).run Tryz.prog w = .ok () (w.setCell ⟨b, off, none⟩ v) := by
  have hc := hB.cell off
  rw [List.getElem?_eq_getElem hl] at hc
  have hf := hB.frozen off
  have g1 : ∀ j, j < [v].length → (w.cell? ⟨b, off + 0 + j, none⟩).isSome = true := by
    intro j hj
    have e : j = 0 := by simpa using hj
    subst e
    simp [hc]
  have g2 : ∀ j, j < [v].length → w.frozen? ⟨b, off + 0 + j, none⟩ = false := by
    intro j hj
    have e : j = 0 := by simpa using hj
    subst e
    simpa using hf
  have := run_storeCells_cells (P := Tryz.prog) b off [v] 0 w g1 g2 (fun u hu => by simp at hu; subst hu; exact h1)
  cases hq : Tryz.prog.info? T with
  | none => simp [hq] at hi
  | some i =>
    have hs : i.size = 1 := by simpa [hq] using hi
    simp [storeVar, hc1, sizeOf, typeInfo, hq, hs]
    simpa [World.setCells] using this
/-- A value of one cell. -/
def One (v : Value) : Prop := v.oneCell' = true ∧ v.cells = #[v]
theorem wpStoreM1 {T : Nat} (hs : (Tryz.prog.info? T).map (·.size) = some 1) (hgd : op.guard = none) (x y : Operand) (ho : op.op = .store T x y) (hd : op.dst = none) (b off i : Nat) (v : Value) (h1 : One v) (hx : a.eval x = .pointer (some ⟨b, off, none⟩)) (hy : a.eval y = v) (hM : Mm w0 w bs) {TT : Nat} {us : List Value} (hi : bs[i]? = some (b, TT, us)) (hl : off < us.length)
    (h : ∀ W, Mm w0 W (bs.set i (b, TT, us.set off v)) → wpList Tryz.prog ops Q rest a W) : wpList Tryz.prog ops Q (op :: rest) a w :=
  wpList_plain hgd fun K hK => by
    have hst := storeVar1 hs (hM.at i _ hi) hl v h1.1 h1.2
    unfold Oper.wp execOp
    simp only [ho, hx, hy, Instr.storeAt, Instr.sureAddr, Sem.run_bind, Sem.run_pure, Result.andThen_ok, hst]
    refine hK _ _ ?_
    rw [hd]
    exact h _ (hM.mut i hi ((Kept.refl _ _).setCell (by simp) v) ((hM.at i _ hi).set v))
end
theorem one_int (κ : IntKind) (n : Int) : One (.int κ n) := ⟨rfl, rfl⟩
theorem one_bool (b : Bool) : One (.bool b) := ⟨rfl, rfl⟩

end Go.Proofs.YtcfflbafclmheaaGreatDoor.Vi

/-
  May: whether there may be such a view.
-/
namespace Go.Proofs.YtcfflbafclmheaaGreatDoor.Vi
set_option maxRecDepth 100000
set_option maxRecDepth 100000
open Go.RowKit



theorem wpLoadG {ops : Array Oper} {rest : List Oper} {op : Oper} {a : Act} {w : World} {Q : Exit → Act → World → Prop} {T n : Nat} (hT : Row T n) (x : Operand) (ho : op.op = .load T x) (hw : Region.wanted op (yielded ops a.tmps) = true) (b off : Nat) (hx : a.eval x = .pointer (some ⟨b, off, none⟩)) (vs : List Value) (hl : vs.length = n) (hA : w.rangeAt b off vs)
    (h : wpList Tryz.prog ops Q rest (a.put op.dst (aggV vs)) w) : wpList Tryz.prog ops Q (op :: rest) a w :=
  BigFrame.wpList_want hw fun _ hK => wp_loadA hT x ho b off hx vs hl hA (hK _ _ h)
theorem mems_take (ms : List (Bool × Int)) : ∀ (k : Nat) (m : Bool × Int), ms[k]? = some m → List.take 2 (List.drop (k * 2) (memsC ms)) = memC m := by
  induction ms with
  | nil => intro k m h; simp at h
  | cons x ms ih =>
    intro k m h
    rw [memsC_cons]
    cases k with
    | zero => simp at h; subst h; rfl
    | succ k =>
      rw [show (k + 1) * 2 = k * 2 + 1 + 1 by omega, List.drop_succ_cons, List.drop_succ_cons]
      exact ih k m (by simpa using h)
theorem wpIndex24 {ops : Array Oper} {rest : List Oper} {op : Oper} {a : Act} {w : World} {Q : Exit → Act → World → Prop} (hgd : op.guard = none) (x y : Operand) (ho : op.op = .index 27 x y) (k : Nat) (ms : List (Bool × Int)) (hl : ms.length = 8) (m : Bool × Int) (hm : ms[k]? = some m)
    (hx : a.eval x = aggV (memsC ms)) (hy : a.eval y = .int .i64 k) (h : wpList Tryz.prog ops Q rest (a.put op.dst (aggV (memC m))) w) : wpList Tryz.prog ops Q (op :: rest) a w :=
  wpList_plain hgd fun K hK => by
    obtain ⟨hk, hm'⟩ := List.getElem?_eq_some_iff.1 hm
    unfold Oper.wp execOp
    simp only [aggV] at hx
    simp only [ho, hx, hy]
    have hr : (Instr.index 27 (.agg (memsC ms).toArray) (.int .i64 k)).run Tryz.prog w = .ok (aggV (memC m)) w := by
      have hk8 : k < 8 := by omega
      simp [Instr.index, go_sem]
      rw [mems_take ms k m hm, if_pos hk8]; rfl
    simp only [Sem.run_bind, hr, Result.andThen_ok]
    exact hK _ _ h
def memOk (m : Bool × Int) : Bool := if m.1 then isEp m.2 else decide (m.2 = 0)
def Vw.may (v : Vw) : Bool := if v.nu = 0 then decide (v = fv) else decide (1 ≤ v.nu ∧ v.nu ≤ 4611686018427387904) && (v.isIn v.fd && v.ms.all memOk)
theorem Vw.range {v : Vw} {W : World} {b : Nat} (h : Blk W b 29 (vwC v)) : W.rangeAt b 3 (memsC v.ms) := h.rangeIn _ fun j _ => by
  rw [vwC, show 3 + j = j + 1 + 1 + 1 by omega]; simp
set_option maxHeartbeats 2000000 in
theorem may_0 (v : Vw) (w : World) (hF : First w) (hv : v.ms.length = 8) (h0 : v.nu = 0) : Calls Tryz.prog 136 #[aggV (vwC v)] w fun e w' => e = .returned (.bool v.may) ∧ Kept [] w w' := by
  go_enter Tryz.func136, Tryz.ntmps136
  have M : Hid (Mm w w []) := hide (Mm.init hF)
  go_wp2_with (
    first
    | (refine wpBoxV rfl (.tmp 0) rfl (vwC v) rfl ?_
       intro W1 b1 e1 B1 K1
       replace M : Hid (Mm w W1 [(b1, 29, vwC v)]) := hide ((unhide M).new e1 B1 K1)
       clear e1 B1 K1
       have c0 := fits_cell ((unhide M).at 0 _ rfl) 0 _ rfl)
    | (refine wpLoadA row26 rfl (.tmp 1) rfl b1 0 rfl (vwC v) (vwC_len hv) ((unhide M).at 0 _ rfl).range ?_)
    | (refine wpLoadA row26 rfl (.global 0) rfl 0 0 rfl (vwC fv) rfl (unhide M).first.at0 ?_)
    | (refine wpEqlA 29 29 guard26 (.tmp 8) (.tmp 9) rfl rfl (vwC v) (vwC fv) rfl rfl (decide (v = fv)) (equal26 _ v fv hv rfl) ?_))
  go_ret
  exact ⟨by simp [Vw.may, h0], (unhide M).kept⟩
set_option maxHeartbeats 2000000 in
theorem may_neg (v : Vw) (w : World) (hF : First w) (h0 : v.nu < 0) : Calls Tryz.prog 136 #[aggV (vwC v)] w fun e w' => e = .returned (.bool v.may) ∧ Kept [] w w' := by
  have hr : v.may = false := by unfold Vw.may; rw [if_neg (by omega), decide_eq_false (by omega)]; rfl
  rw [hr]
  clear hr
  go_enter Tryz.func136, Tryz.ntmps136
  have M : Hid (Mm w w []) := hide (Mm.init hF)
  go_wp2_with (
    first
    | (refine wpBoxV rfl (.tmp 0) rfl (vwC v) rfl ?_
       intro W1 b1 e1 B1 K1
       replace M : Hid (Mm w W1 [(b1, 29, vwC v)]) := hide ((unhide M).new e1 B1 K1)
       clear e1 B1 K1
       have c0 := fits_cell ((unhide M).at 0 _ rfl) 0 _ rfl))
  go_ret
  exact ⟨rfl, (unhide M).kept⟩
set_option maxHeartbeats 2000000 in
theorem may_big (v : Vw) (w : World) (hF : First w) (h0 : 4611686018427387904 < v.nu) : Calls Tryz.prog 136 #[aggV (vwC v)] w fun e w' => e = .returned (.bool v.may) ∧ Kept [] w w' := by
  have hr : v.may = false := by unfold Vw.may; rw [if_neg (by omega), decide_eq_false (by omega)]; rfl
  rw [hr]
  clear hr
  go_enter Tryz.func136, Tryz.ntmps136
  have M : Hid (Mm w w []) := hide (Mm.init hF)
  go_wp2_with (
    first
    | (refine wpBoxV rfl (.tmp 0) rfl (vwC v) rfl ?_
       intro W1 b1 e1 B1 K1
       replace M : Hid (Mm w W1 [(b1, 29, vwC v)]) := hide ((unhide M).new e1 B1 K1)
       clear e1 B1 K1
       have c0 := fits_cell ((unhide M).at 0 _ rfl) 0 _ rfl))
  go_ret
  exact ⟨rfl, (unhide M).kept⟩
set_option maxHeartbeats 2000000 in
theorem may_out (v : Vw) (w : World) (hF : First w) (hv : v.ms.length = 8) (h0 : 1 ≤ v.nu) (h1 : v.nu ≤ 4611686018427387904) (hI : v.isIn v.fd = false) : Calls Tryz.prog 136 #[aggV (vwC v)] w fun e w' => e = .returned (.bool v.may) ∧ Kept [] w w' := by
  have hr : v.may = false := by unfold Vw.may; rw [if_neg (by omega), hI, Bool.false_and, Bool.and_false]
  rw [hr]
  clear hr
  have P35 : ∀ W, Hid (Calls Tryz.prog 141 #[aggV (vwC v), .int .i64 v.fd] W fun e w' => e = .returned (.bool false) ∧ Kept [] W w') := fun W => hide (by have := isIn35 v v.fd W hv; rw [hI] at this; exact this)
  go_enter Tryz.func136, Tryz.ntmps136
  have hd1 : decide (v.nu < 0) = false := by simp; omega
  have hd2 : decide (4611686018427387904 < v.nu) = false := by simp; omega
  have M : Hid (Mm w w []) := hide (Mm.init hF)
  go_wp2_with (
    first
    | (refine wpBoxV rfl (.tmp 0) rfl (vwC v) rfl ?_
       intro W1 b1 e1 B1 K1
       replace M : Hid (Mm w W1 [(b1, 29, vwC v)]) := hide ((unhide M).new e1 B1 K1)
       clear e1 B1 K1
       have c0 := fits_cell ((unhide M).at 0 _ rfl) 0 _ rfl
       have c2 := fits_cell ((unhide M).at 0 _ rfl) 2 _ rfl)
    | (refine wpLoadG row26 (.tmp 1) rfl rfl b1 0 rfl (vwC v) (vwC_len hv) ((unhide M).at 0 _ rfl).range ?_)
    | (go_at_call 141
       refine (unhide (P35 _)).mono ?_
       rintro e W2 ⟨rfl, K2⟩
       replace M : Hid (Mm w W2 [(b1, 29, vwC v)]) := hide ((unhide M).step K2)
       clear K2))
  go_ret
  exact ⟨rfl, (unhide M).kept⟩
set_option maxHeartbeats 2000000 in
theorem may_in (v : Vw) (w : World) (hF : First w) (hv : v.ms.length = 8) (h0 : 1 ≤ v.nu) (h1 : v.nu ≤ 4611686018427387904) (hI : v.isIn v.fd = true) : Calls Tryz.prog 136 #[aggV (vwC v)] w fun e w' => e = .returned (.bool v.may) ∧ Kept [] w w' := by
  have hr : v.may = v.ms.all memOk := by unfold Vw.may; rw [if_neg (by omega), hI, Bool.true_and, decide_eq_true (by omega), Bool.true_and]
  rw [hr]
  clear hr
  have hd1 : decide (v.nu < 0) = false := by simp; omega
  have hd2 : decide (4611686018427387904 < v.nu) = false := by simp; omega
  have P35 : ∀ W, Hid (Calls Tryz.prog 141 #[aggV (vwC v), .int .i64 v.fd] W fun e w' => e = .returned (.bool true) ∧ Kept [] W w') := fun W => hide (by have := isIn35 v v.fd W hv; rw [hI] at this; exact this)
  go_enter Tryz.func136, Tryz.ntmps136
  have M : Hid (Mm w w []) := hide (Mm.init hF)
  go_wp2_with (
    first
    | (refine wpBoxV rfl (.tmp 0) rfl (vwC v) rfl ?_
       intro W1 b1 e1 B1 K1
       replace M : Hid (Mm w W1 [(b1, 29, vwC v)]) := hide ((unhide M).new e1 B1 K1)
       clear e1 B1 K1
       have c0 := fits_cell ((unhide M).at 0 _ rfl) 0 _ rfl
       have c2 := fits_cell ((unhide M).at 0 _ rfl) 2 _ rfl)
    | (refine wpLoadG row26 (.tmp 1) rfl rfl b1 0 rfl (vwC v) (vwC_len hv) ((unhide M).at 0 _ rfl).range ?_)
    | (go_at_call 141
       refine (unhide (P35 _)).mono ?_
       rintro e W2 ⟨rfl, K2⟩
       replace M : Hid (Mm w W2 [(b1, 29, vwC v)]) := hide ((unhide M).step K2)
       clear K2)
    | (refine wpLoadA row24 rfl (.tmp 26) rfl b1 3 rfl (memsC v.ms) (by rw [memsC_len, hv]) (Vw.range ((unhide M).at 0 _ rfl)) ?_))
  clear P35 c0 c2 hd1 hd2 h0 h1 hI
  go_loopw [28] (fun i wr => ∃ j : Nat, j ≤ 8 ∧ i = .int .i64 j ∧ Hid (∀ m ∈ v.ms.take j, memOk m = true) ∧ Hid (Mm w wr [(b1, 29, vwC v)])) (fun i _ => 8 - (intOf i).toNat)
  case atStart => exact ⟨0, by omega, rfl, (fun m hm => by simp at hm), M⟩
  case round =>
    clear M
    obtain ⟨j, hj, rfl, HA, M⟩ := hrel
    by_cases hlt : j < 8
    · obtain ⟨m, hm⟩ : ∃ m, v.ms[j]? = some m := ⟨_, List.getElem?_eq_getElem (by omega)⟩
      have hltI : (j : Int) < 8 := by omega
      have HM := hide hm
      obtain ⟨mi, me⟩ := m
      have P36 : ∀ W, Hid (Calls Tryz.prog 138 #[.int .i64 me] W fun e w' => e = .returned (.bool (isEp me)) ∧ w' = W) := fun W => hide (isEpoch36 me W)
      by_cases hok : memOk (mi, me) = true
      · have HT : Hid (∀ m ∈ v.ms.take (j + 1), memOk m = true) := by
          intro m' hm'
          rw [List.take_add_one, hm] at hm'
          rcases List.mem_append.1 hm' with h | h
          · exact unhide HA m' h
          · simp at h; rw [h]; exact hok
        clear HA hm
        cases mi with
        | true =>
          have he : isEp me = true := by simpa [memOk] using hok
          rw [he] at P36
          clear hok he
          go_wp2_with (
            first
            | (refine wpIndex24 rfl (.tmp 27) (.tmp 28) rfl j v.ms hv (true, me) (unhide HM) rfl rfl ?_
               refine Stp.go ?_))
          constructor
          go_wp2_with (
            first
            | (refine wpNew row23 (memC (false, 0)) rfl zero23 4 rfl rfl rfl (.tmp 30) rfl rfl rfl (memC (true, me)) rfl (memC_one _) (by kernel_rfl) (by kernel_rfl) ?_
               intro W11 b11 e11 B11 K11
               replace M : Hid (Mm w W11 [(b1, 29, vwC v), (b11, 26, memC (true, me))]) := hide ((unhide M).new e11 B11 K11)
               clear e11 B11 K11
               have d0 := fits_cell ((unhide M).at 1 _ rfl) 0 _ rfl
               have d1 := fits_cell ((unhide M).at 1 _ rfl) 1 _ rfl
               refine Stp.go ?_))
          constructor
          go_wp2_with (
            first
            | (go_at_call 138
               refine (unhide (P36 _)).mono ?_
               rintro e W12 ⟨rfl, rfl⟩))
          go_roundw
          case rel => exact ⟨j + 1, by omega, by go_num, HT, hide ⟨(unhide M).kept, (unhide M).first, (unhide M).first0, fun x hx => (unhide M).blk x (by simp at hx; subst hx; simp), by simp⟩⟩
          case measure => simp [intOf]; omega
        | false =>
          have he : me = 0 := by simpa [memOk] using hok
          subst he
          clear hok P36
          go_wp2_with (
            first
            | (refine wpIndex24 rfl (.tmp 27) (.tmp 28) rfl j v.ms hv (false, 0) (unhide HM) rfl rfl ?_
               refine Stp.go ?_))
          constructor
          go_wp2_with (
            first
            | (refine wpNew row23 (memC (false, 0)) rfl zero23 4 rfl rfl rfl (.tmp 30) rfl rfl rfl (memC (false, 0)) rfl (memC_one _) (by kernel_rfl) (by kernel_rfl) ?_
               intro W11 b11 e11 B11 K11
               replace M : Hid (Mm w W11 [(b1, 29, vwC v), (b11, 26, memC (false, 0))]) := hide ((unhide M).new e11 B11 K11)
               clear e11 B11 K11
               have d0 := fits_cell ((unhide M).at 1 _ rfl) 0 _ rfl
               have d1 := fits_cell ((unhide M).at 1 _ rfl) 1 _ rfl))
          go_roundw
          case rel => exact ⟨j + 1, by omega, by go_num, HT, hide ⟨(unhide M).kept, (unhide M).first, (unhide M).first0, fun x hx => (unhide M).blk x (by simp at hx; subst hx; simp), by simp⟩⟩
          case measure => simp [intOf]; omega
      · have HF : Hid (v.ms.all memOk = false) := by
          have : v.ms.all memOk = false := by
            rw [List.all_eq_false]
            exact ⟨(mi, me), List.mem_of_getElem? hm, hok⟩
          exact this
        clear HA hm
        cases mi with
        | true =>
          have he : isEp me = false := by simpa [memOk] using hok
          rw [he] at P36
          clear hok he
          go_wp2_with (
            first
            | (refine wpIndex24 rfl (.tmp 27) (.tmp 28) rfl j v.ms hv (true, me) (unhide HM) rfl rfl ?_
               refine Stp.go ?_))
          constructor
          go_wp2_with (
            first
            | (refine wpNew row23 (memC (false, 0)) rfl zero23 4 rfl rfl rfl (.tmp 30) rfl rfl rfl (memC (true, me)) rfl (memC_one _) (by kernel_rfl) (by kernel_rfl) ?_
               intro W11 b11 e11 B11 K11
               replace M : Hid (Mm w W11 [(b1, 29, vwC v), (b11, 26, memC (true, me))]) := hide ((unhide M).new e11 B11 K11)
               clear e11 B11 K11
               have d0 := fits_cell ((unhide M).at 1 _ rfl) 0 _ rfl
               have d1 := fits_cell ((unhide M).at 1 _ rfl) 1 _ rfl
               refine Stp.go ?_))
          constructor
          go_wp2_with (
            first
            | (go_at_call 138
               refine (unhide (P36 _)).mono ?_
               rintro e W12 ⟨rfl, rfl⟩))
          go_ret
          exact ⟨by rw [unhide HF]; rfl, (unhide M).kept⟩
        | false =>
          have he : ¬ me = 0 := by simpa [memOk] using hok
          have hde : decide (me = 0) = false := by simpa using he
          clear hok P36
          go_wp2_with (
            first
            | (refine wpIndex24 rfl (.tmp 27) (.tmp 28) rfl j v.ms hv (false, me) (unhide HM) rfl rfl ?_
               refine Stp.go ?_))
          constructor
          go_wp2_with (
            first
            | (refine wpNew row23 (memC (false, 0)) rfl zero23 4 rfl rfl rfl (.tmp 30) rfl rfl rfl (memC (false, me)) rfl (memC_one _) (by kernel_rfl) (by kernel_rfl) ?_
               intro W11 b11 e11 B11 K11
               replace M : Hid (Mm w W11 [(b1, 29, vwC v), (b11, 26, memC (false, me))]) := hide ((unhide M).new e11 B11 K11)
               clear e11 B11 K11
               have d0 := fits_cell ((unhide M).at 1 _ rfl) 0 _ rfl
               have d1 := fits_cell ((unhide M).at 1 _ rfl) 1 _ rfl))
          go_ret
          exact ⟨by rw [unhide HF]; rfl, (unhide M).kept⟩
    · have HF : Hid (v.ms.all memOk = true) := by
        have : v.ms.all memOk = true := by
          rw [List.all_eq_true]
          intro m hm
          exact unhide HA m (by rw [List.take_of_length_le (by omega)]; exact hm)
        exact this
      go_wp2_with fail
      go_ret
      exact ⟨by rw [unhide HF]; rfl, (unhide M).kept⟩
theorem may12 (v : Vw) (w : World) (hF : First w) (hv : v.ms.length = 8) : Calls Tryz.prog 136 #[aggV (vwC v)] w fun e w' => e = .returned (.bool v.may) ∧ Kept [] w w' := by
  by_cases h0 : v.nu = 0
  · exact may_0 v w hF hv h0
  by_cases h1 : v.nu < 0
  · exact may_neg v w hF h1
  by_cases h2 : 4611686018427387904 < v.nu
  · exact may_big v w hF h2
  cases hI : v.isIn v.fd with
  | false => exact may_out v w hF hv (by omega) (by omega) hI
  | true => exact may_in v w hF hv (by omega) (by omega) hI

end Go.Proofs.YtcfflbafclmheaaGreatDoor.Vi

/-
  Laws for ranging over a function: blocks that stay, operations inside a fence.
-/
namespace Go.Proofs.YtcfflbafclmheaaGreatDoor.Vi
set_option maxRecDepth 100000
set_option maxRecDepth 100000
open Go.RowKit Go.Shelf
attribute [local go_sem] Oper.semAt_some

/-- What is no number and no truth value stays. -/
structure KeptJ (A B : World) : Prop where
  size : A.heap.size ≤ B.heap.size
  block : ∀ (k : Nat) (cs : Array Value) (T : Nat) (p : Nat × Nat), T ≠ 3 → T ≠ 4 → A.heap[k]? = some (Obj.cells cs T p) → B.heap[k]? = some (Obj.cells cs T p)
theorem KeptJ.trans {A B C : World} (h : KeptJ A B) (k : KeptJ B C) : KeptJ A C := ⟨Nat.le_trans h.size k.size, fun i cs T p hT hU hi => k.block i cs T p hT hU (h.block i cs T p hT hU hi)⟩
theorem KeptJ.refl (A : World) : KeptJ A A := ⟨Nat.le_refl _, fun _ _ _ _ _ _ h => h⟩
theorem KeptJ.putObj {W : World} {l : Nat} {o o' : Obj} (h : W.heap[l]? = some o) (hc : o.isCells = false) : KeptJ W (W.putObj l o') := by
  refine ⟨by simp, fun k cs T p _ _ hk => ?_⟩
  by_cases e : k = l
  · subst e; rw [h] at hk; cases hk; simp [Obj.isCells] at hc
  · rw [World.putObj_heap_other e]; exact hk
theorem KeptJ.of_kept {A B : World} (h : Kept [] A B) : KeptJ A B := ⟨h.size, fun k cs T p _ _ hk => by rw [h.block k (lt_of_block hk) (by simp)]; exact hk⟩
theorem KeptJ.blk {A B : World} (h : KeptJ A B) {k T : Nat} {vs : List Value} (hB : Blk A k T vs) (h1 : T ≠ 3) (h2 : T ≠ 4) : Blk B k T vs := h.block k _ T _ h1 h2 hB
theorem grown_of_kept {w w' : World} (h : Kept [] w w') : w.grownBy w' none := ⟨h.os, h.tape, h.output, h.size, fun k hk _ => h.block k hk (by simp)⟩
theorem wpIn_value {F : Fence} {n : Nat} {o : Oper} {a : Act} {w w' : World} {v : Value} {K : Act → World → Prop} {Q : Exit → Act → World → Prop} (hF : ∀ f, F.fn f) (hsem : o.semAt F.round a.eval = execOp a.eval o) (h : (execOp a.eval o).run Tryz.prog w = .ok (.value v) w') (hk : K (a.put o.dst v) w') : o.wpIn F n Tryz.prog a w K Q := by
  refine ⟨fun f _ => hF f, ?_⟩
  rw [hsem, h]
  exact hk
theorem wpIn_skip {F : Fence} {n : Nat} {o : Oper} {a : Act} {w w' : World} {K : Act → World → Prop} {Q : Exit → Act → World → Prop} (hF : ∀ f, F.fn f) (hsem : o.semAt F.round a.eval = execOp a.eval o) (h : (execOp a.eval o).run Tryz.prog w = .ok .skip w') (hk : K (a.put o.dst undef) w') : o.wpIn F n Tryz.prog a w K Q := by
  refine ⟨fun f _ => hF f, ?_⟩
  rw [hsem, h]
  exact hk
theorem wpListIn_want {F : Fence} {n : Nat} {ops : Array Oper} {Q : Exit → Act → World → Prop} {a : Act} {w : World} {rest : List Oper} {o : Oper} (hw : Region.wanted o (yielded ops a.tmps) = true)
    (h : o.wpIn F n Tryz.prog a w (wpListIn F n Tryz.prog ops Q rest) Q) : wpListIn F n Tryz.prog ops Q (o :: rest) a w := by
  simp only [wpListIn, hw, if_true]; exact h


section
variable {F : Fence} {n : Nat} {ops : Array Oper} {rest : List Oper} {o o1 o2 : Oper} {a : Act} {w : World} {Q : Exit → Act → World → Prop}
theorem inLoadA {T m : Nat} (hT : Row T m) (hF : ∀ f, F.fn f) (hw : Region.wanted o (yielded ops a.tmps) = true) (x : Operand) (ho : o.op = .load T x) (hsem : o.semAt F.round a.eval = execOp a.eval o) (b off : Nat) (hx : a.eval x = .pointer (some ⟨b, off, none⟩)) (vs : List Value) (hl : vs.length = m) (hA : w.rangeAt b off vs)
    (h : wpListIn F n Tryz.prog ops Q rest (a.put o.dst (aggV vs)) w) : wpListIn F n Tryz.prog ops Q (o :: rest) a w := by
  refine wpListIn_want hw (wpIn_value (v := aggV vs) hF hsem ?_ h)
  obtain ⟨d, h1, h2, h3⟩ := hT
  unfold execOp
  have := run_loadVar_mid (P := Tryz.prog) w b off T vs d hA h1 h2 (by rw [hl]; exact h3)
  simp only [ho, hx, Instr.loadAt, Instr.sureAddr, Sem.run_bind, Sem.run_pure, Result.andThen_ok, this]
  rfl
theorem inNew {T m : Nat} (hT : Row T m) (zv : List Value) (hz : zv.length = m) (hr : ∀ w : World, (Instr.alloc T true (.tuple #[])).run Tryz.prog w = .ok (P0 w.heap.size) (w.alloc (.cells zv.toArray T)))
    (d : Nat) (hd : o1.dst = some d) (hF : ∀ f, F.fn f) (hg1 : o1.guard = none) (ho1 : o1.op = .alloc T) (hs1 : o1.semAt F.round a.eval = execOp a.eval o1) (y : Operand) (hg2 : o2.guard = none) (ho2 : o2.op = .store T (.tmp d) y) (hs2 : ∀ a : Act, o2.semAt F.round a.eval = execOp a.eval o2) (hd2 : o2.dst = none)
    (vs : List Value) (hl : vs.length = m) (h1 : ∀ v ∈ vs, v.oneCell' = true) (hx : (a.put (some d) (P0 w.heap.size)).eval (.tmp d) = P0 w.heap.size) (hy : (a.put (some d) (P0 w.heap.size)).eval y = aggV vs)
    (h : ∀ W b, b = w.heap.size → Blk W b T vs → Kept [] w W → wpListIn F n Tryz.prog ops Q rest (a.put (some d) (P0 b)) W) : wpListIn F n Tryz.prog ops Q (o1 :: o2 :: rest) a w := by
  refine wpListIn_want (by simp [Region.wanted, hg1]) (wpIn_value (v := P0 w.heap.size) (w' := w.alloc (.cells zv.toArray T)) hF hs1 ?_ ?_)
  · unfold execOp
    simp only [ho1, Sem.run_bind, hr, Result.andThen_ok]
    rfl
  · rw [hd]
    have hb : Blk (w.alloc (.cells zv.toArray T)) w.heap.size T zv := Blk.new w T zv
    refine wpListIn_want (by simp [Region.wanted, hg2]) (wpIn_skip (w' := (w.alloc (.cells zv.toArray T)).setCells w.heap.size 0 vs) hF (hs2 _) ?_ ?_)
    · obtain ⟨dd, g1, g2, g3⟩ := hT
      have := run_storeVar_mid (P := Tryz.prog) (w.alloc (.cells zv.toArray T)) w.heap.size 0 T vs.toArray (by simpa [hl] using hb.there (by omega)) (by simpa [hl] using g3) (all_oneCell_toArray h1)
      have hy' : (a.put (some d) (P0 w.heap.size)).eval y = .agg vs.toArray := hy
      unfold execOp
      simp only [ho2, hx, hy', Instr.storeAt, Instr.sureAddr, Sem.run_bind, Sem.run_pure, Result.andThen_ok, this]
    · rw [hd2]
      exact h _ _ rfl (hb.put (by omega)) (((Kept.refl _ _).alloc _).setCells _ _ (by omega))
end

section
variable {l n : Nat} {P : Program} {ops : Array Oper} {Q : Exit → Act → World → Prop}

theorem rowsIn_of_rows {row : String} {args : Array Value} {w : World} {R : Value → World → Prop} (h : Rows P row args w R) : RowsIn (Fence.wide.inRound l) n P row args w R := by
  intro c cs _
  obtain ⟨v, w', hr, hs⟩ := h c cs
  exact ⟨v, w', hr, stepsIn_wide.2 hs⟩

theorem uponIn_of_upon {o : Oper} {a : Act} {K : Act → World → Prop} {r : Result Next} (h : o.upon P a K Q r) : o.uponIn (Fence.wide.inRound l) n P a K Q r := by
  cases r with
  | ok nx w =>
    cases nx <;> first
      | exact h
      | exact ⟨fun h => by simp [Fence.wide] at h, CallsIn.inRound l (callsIn_wide.2 h)⟩
      | exact ⟨fun h => by simp [Fence.wide] at h, rowsIn_of_rows h⟩
      | exact h.elim
  | halt x w => cases x <;> first | exact h | exact h.elim

theorem opIn_of_op {o : Oper} {a : Act} {w : World} {K : Act → World → Prop} (hd : ∀ c, o.op ≠ .defer c) (h : o.wp P a w K Q) : o.wpIn (Fence.wide.inRound l) n P a w K Q := by
  refine ⟨fun f _ => trivial, ?_⟩
  rw [Fence.inRound_round, Oper.semAt_some l _ o hd]
  exact uponIn_of_upon h

/-- No defer statement among them. -/
def noDefer (os : List Oper) : Bool := os.all fun o => match o.op with | .defer _ => false | _ => true
theorem noDefer_spec {os : List Oper} (h : noDefer os = true) : ∀ o ∈ os, ∀ c, o.op ≠ .defer c := by
  intro o ho c e
  have := (List.all_eq_true.1 h) o ho
  rw [e] at this
  simp at this

theorem listIn_of_list (hlo : ¬ LetsOut Q) : ∀ (os : List Oper) (a : Act) (w : World), (∀ o ∈ os, ∀ c, o.op ≠ .defer c) → wpList P ops Q os a w → wpListIn (Fence.wide.inRound l) n P ops Q os a w := by
  intro os
  induction os with
  | nil => intro a w _ h; exact h
  | cons o os ih =>
    intro a w hd h
    unfold wpList at h
    unfold wpListIn
    split
    · rename_i hw
      rw [if_pos hw] at h
      rcases h with h | ⟨_, hl⟩
      · exact opIn_of_op (hd o (List.mem_cons_self ..)) (Oper.wp_mono (fun a w h => ih a w (fun p hp => hd p (List.mem_cons_of_mem _ hp)) h) h)
      · exact absurd hl hlo
    · rename_i hw
      rw [if_neg hw] at h
      exact ⟨fun f _ => trivial, ih _ _ (fun p hp => hd p (List.mem_cons_of_mem _ hp)) h⟩

theorem anyIn_of_any (hlo : ¬ LetsOut Q) (hd : ∀ o ∈ ops, ∀ c, o.op ≠ .defer c) {md : Region.Mode} : ∀ (fuel : Nat) (listed : Array Bool) (a : Act) (w : World), wpAny P md ops Q fuel listed a w → wpAnyIn (Fence.wide.inRound l) n P md ops Q fuel listed a w := by
  intro fuel
  induction fuel with
  | zero => intro listed a w h; exact h
  | succ fuel ih =>
    intro listed a w h
    refine ⟨h.1, fun i hi => ?_⟩
    have := h.2 i hi
    unfold wpOp at this
    unfold wpOpIn
    split
    · rename_i ho
      rw [ho] at this
      exact ih _ _ _ this
    · rename_i o ho
      rw [ho] at this
      simp only at this
      split
      · rename_i hw
        rw [if_pos hw] at this
        rcases this with this | ⟨_, hl⟩
        · exact opIn_of_op (hd o (Array.mem_of_getElem? ho)) (Oper.wp_mono (fun a w h => ih _ a w h) this)
        · exact absurd hl hlo
      · rename_i hw
        rw [if_neg hw] at this
        exact ⟨fun f _ => trivial, ih _ _ _ this⟩
end

/-- A block of cells stays where another kind of block turns. -/
theorem cells_kept {W W' : World} {row : Option Nat} {k : Nat} {cs : Array Value} {t : TypeId} {p : Nat × Nat} (h : W.heap[k]? = some (.cells cs t p)) (hg : W.grownBy W' row) (hr : ∀ r, row = some r → ∃ o : Obj, W.heap[r]? = some o ∧ o.isCells = false) : W'.heap[k]? = some (.cells cs t p) := by
  rw [hg.block k (lt_of_block h) ?_]
  · exact h
  · intro e
    obtain ⟨o, ho, hc⟩ := hr k e.symm
    rw [h] at ho
    cases ho
    simp [Obj.isCells] at hc
theorem wideF (f : FuncId) : Fence.wide.fn f := trivial
theorem noDeferA {ops : Array Oper} (h : noDefer ops.toList = true) : ∀ o ∈ ops, ∀ c, o.op ≠ .defer c := fun o ho => noDefer_spec h o (by simpa using ho)

section
variable {F : Fence} {n : Nat} {ops : Array Oper} {rest : List Oper} {o : Oper} {a : Act} {w : World} {Q : Exit → Act → World → Prop}
theorem inAllocW {T : Nat} (zv : List Value) (hr : ∀ w : World, (Instr.alloc T true (.tuple #[])).run Tryz.prog w = .ok (P0 w.heap.size) (w.alloc (.cells zv.toArray T))) (hF : ∀ f, F.fn f) (hg : o.guard = none) (ho : o.op = .alloc T) (hs : o.semAt F.round a.eval = execOp a.eval o)
    (h : ∀ W b, b = w.heap.size → Blk W b T zv → Kept [] w W → wpListIn F n Tryz.prog ops Q rest (a.put o.dst (P0 b)) W) : wpListIn F n Tryz.prog ops Q (o :: rest) a w := by
  refine wpListIn_want (by simp [Region.wanted, hg]) (wpIn_value (v := P0 w.heap.size) (w' := w.alloc (.cells zv.toArray T)) hF hs ?_ (h _ _ rfl (Blk.new w T zv) ((Kept.refl _ _).alloc _)))
  unfold execOp
  simp only [ho, Sem.run_bind, hr, Result.andThen_ok]
  rfl
theorem inStoreW {T m : Nat} (hT : Row T m) (hF : ∀ f, F.fn f) (hg : o.guard = none) (x y : Operand) (ho : o.op = .store T x y) (hs : o.semAt F.round a.eval = execOp a.eval o) (hd : o.dst = none) (b : Nat) (us vs : List Value) (hu : us.length = m) (hl : vs.length = m) (h1 : ∀ v ∈ vs, v.oneCell' = true) (hx : a.eval x = P0 b) (hy : a.eval y = aggV vs) (hb : Blk w b T us)
    (h : ∀ W, Blk W b T vs → Kept [b] w W → wpListIn F n Tryz.prog ops Q rest a W) : wpListIn F n Tryz.prog ops Q (o :: rest) a w := by
  refine wpListIn_want (by simp [Region.wanted, hg]) (wpIn_skip (w' := w.setCells b 0 vs) hF hs ?_ ?_)
  · obtain ⟨dd, g1, g2, g3⟩ := hT
    have := run_storeVar_mid (P := Tryz.prog) w b 0 T vs.toArray (by simpa [hl] using hb.there (by omega)) (by simpa [hl] using g3) (all_oneCell_toArray h1)
    have hy' : a.eval y = .agg vs.toArray := hy
    unfold execOp
    simp only [ho, hx, hy', Instr.storeAt, Instr.sureAddr, Sem.run_bind, Sem.run_pure, Result.andThen_ok, this]
  · rw [hd]
    exact h _ (hb.put (by omega)) ((Kept.refl _ _).setCells _ _ (by simp))
theorem inIndex24 (hF : ∀ f, F.fn f) (hg : o.guard = none) (x y : Operand) (ho : o.op = .index 27 x y) (hs : o.semAt F.round a.eval = execOp a.eval o) (k : Nat) (ms : List (Bool × Int)) (hl : ms.length = 8) (m : Bool × Int) (hm : ms[k]? = some m) (hx : a.eval x = aggV (memsC ms)) (hy : a.eval y = .int .i64 k)
    (h : wpListIn F n Tryz.prog ops Q rest (a.put o.dst (aggV (memC m))) w) : wpListIn F n Tryz.prog ops Q (o :: rest) a w := by
  refine wpListIn_want (by simp [Region.wanted, hg]) (wpIn_value (v := aggV (memC m)) hF hs ?_ h)
  obtain ⟨hk, hm'⟩ := List.getElem?_eq_some_iff.1 hm
  have hx' : a.eval x = .agg (memsC ms).toArray := hx
  have hr : (Instr.index 27 (.agg (memsC ms).toArray) (.int .i64 k)).run Tryz.prog w = .ok (aggV (memC m)) w := by
    have hk8 : k < 8 := by omega
    simp [Instr.index, go_sem]
    rw [mems_take ms k m hm, if_pos hk8]; rfl
  unfold execOp
  simp only [ho, hx', hy, Sem.run_bind, hr, Result.andThen_ok]
  rfl
end

end Go.Proofs.YtcfflbafclmheaaGreatDoor.Vi

/-
  Members: the members gone over.
-/
namespace Go.Proofs.YtcfflbafclmheaaGreatDoor.Vi
set_option maxRecDepth 100000
set_option maxRecDepth 100000
open Go.RowKit Go.Shelf
attribute [local go_sem] Oper.semAt_some


/-- The members from a place on, each with its node's number. -/
def memF : Nat → List (Bool × Int) → List (Nat × Int)
  | _, [] => []
  | i, m :: l => if m.1 then (i, m.2) :: memF (i + 1) l else memF (i + 1) l
/-- The members of a view that may be. -/
def Vw.list (v : Vw) : List (Nat × Int) := if v.may then memF 0 v.ms else []
theorem memF_lt : ∀ (l : List (Bool × Int)) (i : Nat) (x : Nat × Int), x ∈ memF i l → i ≤ x.1 ∧ x.1 < i + l.length ∧ l[x.1 - i]? = some (true, x.2) := by
  intro l
  induction l with
  | nil => intro i x h; simp [memF] at h
  | cons m l ih =>
    intro i x h
    unfold memF at h
    have hcons : x ∈ memF (i + 1) l → i ≤ x.1 ∧ x.1 < i + (m :: l).length ∧ (m :: l)[x.1 - i]? = some (true, x.2) := by
      intro h
      have := ih (i + 1) x h
      refine ⟨by omega, by simp; omega, ?_⟩
      rw [show x.1 - i = (x.1 - (i + 1)) + 1 by omega, List.getElem?_cons_succ]
      exact this.2.2
    split at h
    · rename_i hm
      rcases List.mem_cons.1 h with h | h
      · subst h
        refine ⟨by simp, by simp, ?_⟩
        obtain ⟨a, b⟩ := m
        simp at hm
        subst hm
        simp
      · exact hcons h
    · exact hcons h
theorem members30 (v : Vw) (w : World) : Calls Tryz.prog 94 #[aggV (vwC v)] w fun e w' => ∃ p, e = .returned (.func (.func 142) #[] #[P0 p]) ∧ Blk w' p 29 (vwC v) ∧ w.heap.size ≤ p ∧ Kept [] w w' := by
  go_enter Tryz.func94, Tryz.ntmps94
  go_wp2_with (
    first
    | (refine wpBoxV rfl (.tmp 0) rfl (vwC v) rfl ?_
       intro W1 b1 e1 B1 K1
       have HB := hide B1
       have HK := hide K1
       have HE : Hid (w.heap.size ≤ b1) := by show _ ≤ _; omega
       clear e1 B1 K1))
  go_ret
  exact ⟨b1, rfl, unhide HB, unhide HE, unhide HK⟩
set_option maxHeartbeats 4000000 in
theorem members_in (n : Nat) (hn : 1 ≤ n) (lp p : Nat) (v : Vw) (W : World) (hB : Blk W p 29 (vwC v)) (hF : First W) (hv : v.ms.length = 8)
    (I Ix : Nat → World → Prop) (hI : ∀ k A B, I k A → A.grownBy B none → I k B)
    (hY : ∀ k x W1, v.list[k]? = some x → I k W1 → YieldAt Fence.wide (n - 1) Tryz.prog lp #[.int .i64 x.1, .int .i64 x.2] W1 fun e W' => (e = .returned (.bool true) ∧ I (k + 1) W' ∧ KeptJ W1 W') ∨ (e = .returned (.bool false) ∧ Ix (k + 1) W'))
    (h0 : I 0 W) :
    CallsIn Fence.wide n Tryz.prog 142 #[.func (.yield lp) #[] #[], P0 p] W fun e W' => (∃ v, e = .returned v) ∧ (I v.list.length W' ∨ ∃ k, k < v.list.length ∧ Ix (k + 1) W') := by
  have hFw := wideF
  have HB := hide hB
  have HI0 := hide h0
  obtain ⟨S, hS⟩ : ∃ S, S = v.list := ⟨_, rfl⟩
  rw [← hS] at hY
  rw [← hS]
  have P12 := hide (may12 v W hF hv)
  rw [callsIn_wide]
  unfold Vw.list at hS
  cases hm : v.may with
  | false =>
    rw [hm] at hS P12
    have HS : Hid (S = []) := hide (by simpa using hS)
    clear hB h0 hS hm
    go_enter Tryz.func142, Tryz.ntmps142
    go_wp2_with (
      first
      | (refine wpLoadA row26 (by rfl) (.tmp 1) (by rfl) p 0 (by rfl) (vwC v) (vwC_len hv) (unhide HB).range ?_
         refine Stp.go ?_))
    constructor
    go_wp2_with (
      first
      | (go_at_call 136
         refine (unhide P12).mono ?_
         rintro e V ⟨rfl, hk⟩
         replace HI0 := hide (hI _ _ _ (unhide HI0) (grown_of_kept hk))
         clear hk P12
         refine Stp.go ?_))
    constructor
    go_wp2_with fail
    refine bodyPost_ret (results_none rfl _ _ _) rfl ?_
    refine ⟨⟨_, rfl⟩, .inl ?_⟩
    rw [unhide HS]
    exact unhide HI0
  | true =>
    rw [hm] at hS P12
    have HS : Hid (S = memF 0 v.ms) := hide (by simpa using hS)
    clear hB h0 hS hm
    go_enter Tryz.func142, Tryz.ntmps142
    go_wp2_with (
      first
      | (refine wpLoadA row26 (by rfl) (.tmp 1) (by rfl) p 0 (by rfl) (vwC v) (vwC_len hv) (unhide HB).range ?_
         refine Stp.go ?_))
    constructor
    go_wp2_with (
      first
      | (go_at_call 136
         refine (unhide P12).mono ?_
         rintro e V ⟨rfl, hk⟩
         replace HI0 := hide (hI _ _ _ (unhide HI0) (grown_of_kept hk))
         replace HB := hide ((unhide HB).kept hk (by simp))
         clear hk P12
         refine Stp.go ?_))
    constructor
    go_wp2_with (
      first
      | (refine wpLoadA row24 (by rfl) (.tmp 8) (by rfl) p 3 (by rfl) (memsC v.ms) (by rw [memsC_len, hv]) (Vw.range (unhide HB)) ?_
         refine Stp.go ?_))
    constructor
    go_wp2_with fail
    rw [← wpIn_wide (n := n)]
    gi_loopw [10] (fun i w1 => ∃ j k : Nat, j ≤ 8 ∧ k ≤ S.length ∧ i = .int .i64 j ∧ Hid (memF j (v.ms.drop j) = S.drop k) ∧ Hid (I k w1)) (fun i _ => (8 - intOf i).toNat)
    case atStart => exact ⟨0, 0, by omega, by omega, rfl, by show memF _ _ = _; rw [unhide HS]; simp, HI0⟩
    case round =>
      clear HI0
      obtain ⟨j, k, hj8, hkS, rfl, HE, HI⟩ := hrel
      by_cases hlt : j < 8
      · obtain ⟨m, hm⟩ : ∃ m, v.ms[j]? = some m := ⟨_, List.getElem?_eq_getElem (by omega)⟩
        have hltI : (j : Int) < 8 := by omega
        have hE := unhide HE
        have hd : v.ms.drop j = m :: v.ms.drop (j + 1) := by
          obtain ⟨h1, h2⟩ := List.getElem?_eq_some_iff.1 hm
          rw [List.drop_eq_getElem_cons h1, h2]
        rw [hd, memF] at hE
        have HM := hide hm
        obtain ⟨mi, me⟩ := m
        cases mi with
        | false =>
          have HQ : Hid (memF (j + 1) (v.ms.drop (j + 1)) = S.drop k)   := hide (by simpa using hE)
          clear hE hd hm HE
          gi_wp2_with (
            first
            | (refine inIndex24 wideF (by rfl) (.tmp 9) (.tmp 10) (by rfl) (by rfl) j v.ms hv (false, me) (unhide HM) (by rfl) (by rfl) ?_
               refine Stp.go ?_))
          constructor
          gi_wp2_with (
            first
            | (refine inAllocW (memC (false, 0)) zero23 wideF (by rfl) (by rfl) (by rfl) ?_
               intro W5 q e5 B5 K5
               have HQB := hide B5
               have HQE := hide e5
               have HK5 := hide K5
               clear e5 B5 K5
               refine Stp.go ?_))
          constructor
          gi_wp2_with (
            first
            | (refine inStoreW row23 wideF (by rfl) (.tmp 4) (.tmp 13) (by rfl) (by rfl) (by rfl) q (memC (false, 0)) (memC (false, me)) rfl rfl (memC_one _) (by rfl) (by rfl) (unhide HQB) ?_
               intro W7 B7 K7
               have HB7 := hide B7
               have HK7 : Hid (Kept [] wr W7) := (unhide HK5).fresh K7 (fun i hi hl => by have := unhide HQE; simp at hi; omega)
               have d0 := fits_cell B7 0 _ rfl
               have d1 := fits_cell B7 1 _ rfl
               clear B7 K7 HQB HQE HK5
               refine Stp.go ?_))
          constructor
          gi_wp2_with fail
          go_roundw
          case rel => exact ⟨j + 1, k, by omega, by omega, by go_num, HQ, hide (hI _ _ _ (unhide HI) (grown_of_kept (unhide HK7)))⟩
          case measure => simp [intOf]; omega
        | true =>
          rw [if_pos rfl] at hE
          have hsk : S[k]? = some (j, me) := by
            have h9 := congrArg (fun l => l[0]?) hE
            simp only [List.getElem?_drop, Nat.add_zero] at h9
            exact h9.symm
          have HSK := hide hsk
          have HSL : Hid (k + 1 ≤ S.length) := (List.getElem?_eq_some_iff.1 hsk).1
          have HSD : Hid (memF (j + 1) (v.ms.drop (j + 1)) = S.drop (k + 1)) := by
            have h9 : S.drop (k + 1) = (S.drop k).drop 1 := by rw [List.drop_drop]
            show _ = _
            rw [h9, ← hE]
            rfl
          clear hE hd hm HE hsk
          gi_wp2_with (
            first
            | (refine inIndex24 wideF (by rfl) (.tmp 9) (.tmp 10) (by rfl) (by rfl) j v.ms hv (true, me) (unhide HM) (by rfl) (by rfl) ?_
               refine Stp.go ?_))
          constructor
          gi_wp2_with (
            first
            | (refine inAllocW (memC (false, 0)) zero23 wideF (by rfl) (by rfl) (by rfl) ?_
               intro W5 q e5 B5 K5
               have HQB := hide B5
               have HQE := hide e5
               have HK5 := hide K5
               clear e5 B5 K5
               refine Stp.go ?_))
          constructor
          gi_wp2_with (
            first
            | (refine inStoreW row23 wideF (by rfl) (.tmp 4) (.tmp 13) (by rfl) (by rfl) (by rfl) q (memC (false, 0)) (memC (true, me)) rfl rfl (memC_one _) (by rfl) (by rfl) (unhide HQB) ?_
               intro W7 B7 K7
               have HB7 := hide B7
               have HK7 : Hid (Kept [] wr W7) := (unhide HK5).fresh K7 (fun i hi hl => by have := unhide HQE; simp at hi; omega)
               have d0 := fits_cell B7 0 _ rfl
               have d1 := fits_cell B7 1 _ rfl
               clear B7 K7 HQB HQE HK5
               have hI7 := hI _ _ _ (unhide HI) (grown_of_kept (unhide HK7))
               obtain ⟨fn, tmps, assign, body, hy, hR⟩ := hY k (j, me) W7 (unhide HSK) hI7
               have hR' := hide hR
               clear hR hI7
               refine Stp.go ?_))
          constructor
          gi_wp2_with fail
          refine (unhide hR').mono ?_
          rintro e W8 (⟨rfl, hI8, hk8⟩ | ⟨rfl, hX8⟩)
          · have HI8 := hide hI8
            clear hI8 hk8 hR' hy
            gi_wp2
            go_roundw
            case rel => exact ⟨j + 1, k + 1, by omega, unhide HSL, by go_num, HSD, HI8⟩
            case measure => simp [intOf]; omega
          · have HX8 := hide hX8
            clear hX8 hR' hy
            gi_wp2
            refine bodyPost_ret (results_none rfl _ _ _) rfl ?_
            exact ⟨⟨_, rfl⟩, .inr ⟨k, unhide HSL, unhide HX8⟩⟩
      · gi_wp2_with fail
        go_end0
        have h9 := unhide HE
        rw [List.drop_of_length_le (by omega), memF] at h9
        have h8 := congrArg List.length h9
        rw [List.length_drop, List.length_nil] at h8
        refine ⟨⟨_, rfl⟩, .inl ?_⟩
        rw [show S.length = k by omega]
        exact unhide HI

end Go.Proofs.YtcfflbafclmheaaGreatDoor.Vi

/-
  A range over the members: the round is told what it gets.
-/
namespace Go.Proofs.YtcfflbafclmheaaGreatDoor.Vi
set_option maxRecDepth 100000
set_option maxRecDepth 100000
open Go.RowKit Go.Shelf

theorem wp_rangeM (p : Nat) (v : Vw) (S : List (Nat × Int)) (hS : S = v.list) {gv : Operand} {ps : Array Tmp} {assign body : Code} {Q : Exit → Act → World → Prop} {a : Act} {w : World}
    (hg : a.eval gv = .func (.func 142) #[] #[P0 p]) (hps : ps.size = 2) (hB : Blk w p 29 (vwC v)) (hF : First w) (hv : v.ms.length = 8)
    (I : List (Nat × Int) → World → Prop) (Ix : Code → List (Nat × Int) → World → Prop) (hI : OwnFrom w.heap.size I) (hIx : ∀ c, OwnFrom w.heap.size (Ix c)) (h0 : I [] w)
    (Fr : Nat → Nat × Int → Act → World → Prop) (hFr : ∀ k x a', OwnFrom w.heap.size (fun (_ : Unit) W => Fr k x a' W))
    (hassign : ∀ (l : Nat) (k : Nat) (x : Nat × Int) (W : World) (K : Act → World → Prop), I (S.take k) W → S[k]? = some x → (∀ a' W', Kept [] W W' → Fr k x a' W' → K a' W') →
      assign.wpIn (Fence.wide.inRound l) 1 Tryz.prog (Exit.then K (fun _ _ _ => False)) { tmps := (ps.zip #[.int .i64 x.1, .int .i64 x.2]).foldl (fun t (p, v) => t.setIfInBounds p v) a.tmps, defers := [] } W)
    (hbody : ∀ (l : Nat) (k : Nat) (x : Nat × Int) (a' : Act) (W : World), S[k]? = some x → Fr k x a' W → body.wpIn (Fence.wide.inRound l) 1 Tryz.prog (ownPostG w.heap.size KeptJ I Ix (S.take (k + 1)) W) a' W)
    (hdone : ∀ (D : Nat) (W : World), w.heap.size ≤ D → I S W → W.heap[D]? = some (.deferred (some [])) → Q .normal { a with defers := { target := .collected D, args := #[] } :: a.defers } W)
    (hstop : ∀ (D : Nat) (c : Code) (k : Nat) (W : World), w.heap.size ≤ D → k < S.length → Ix c (S.take (k + 1)) W → W.heap[D]? = some (.deferred (some [])) → c.wpIn Fence.wide 3 Tryz.prog Q { a with defers := { target := .collected D, args := #[] } :: a.defers } W) :
    (Code.rangeFunc gv ps assign body).wpIn Fence.wide 3 Tryz.prog Q a w := by
  refine wpIn_rangeFunc ?_
  intro fn hfn
  obtain ⟨bk, hbk⟩ : ∃ bk : LoopState → Option Code → Loop, bk = fun st pe => { state := st, pending := pe, fn := fn, tmps := a.tmps, params := ps, assign := assign, body := body, defers := w.heap.size } := ⟨_, rfl⟩
  obtain ⟨V, hV⟩ : ∃ V, (w.alloc (.deferred (some []))).alloc (.loop (bk .ready none)) = V := ⟨_, rfl⟩
  have kV : Kept [] w V := by rw [← hV]; exact ((Kept.refl _ _).alloc _).alloc _
  have dV : V.heap[w.heap.size]? = some (.deferred (some [])) := by rw [← hV]; exact heap_alloc_old (heap_alloc_new w _)
  have lV : V.heap[w.heap.size + 1]? = some (.loop (bk .ready none)) := by
    rw [← hV]
    have e : (w.alloc (.deferred (some []))).heap.size = w.heap.size + 1 := World.size_alloc _ _
    rw [← e]
    exact heap_alloc_new _ _
  refine ⟨w.heap.size + 1, [{ target := .collected w.heap.size, args := #[] }], V, { target := .fn (.func 142) #[P0 p], args := #[.func (.yield (w.heap.size + 1)) #[] #[]] }, V, 142, #[.func (.yield (w.heap.size + 1)) #[] #[], P0 p], V, ?_, ?_, fun _ _ => trivial, ?_, fun _ => by omega, ?_⟩
  · rw [← hV, hbk]
    exact run_enterLoop_outer fn a.tmps ps assign body
  · simp only [resolve, hg]
    simp [go_sem]
  · simp [invoke, go_sem]
  -- what the iterator keeps for us: the invariant, and the book as it stands
  have hlaid := members_in 2 (by omega) (w.heap.size + 1) p v V (hB.kept kV (by simp)) (hF.kept kV) hv
    (fun k W => I (S.take k) W ∧ W.heap[w.heap.size + 1]? = some (.loop (bk .ready none)) ∧ W.heap[w.heap.size]? = some (.deferred (some [])))
    (fun k W => ∃ c, Ix c (S.take k) W ∧ W.heap[w.heap.size + 1]? = some (.loop (bk .done (some c))) ∧ W.heap[w.heap.size]? = some (.deferred (some [])))
  rw [← hS] at hlaid
  refine (hlaid ?_ ?_ ⟨?_, lV, dV⟩).mono ?_
  · rintro s A B ⟨g1, g2, g3⟩ hg
    have hk : Kept [] A B := Kept.of_grown hg (fun k e => by cases e)
    exact ⟨hI _ A B none g1 hg (fun r e => by cases e), hk.heap g2 (by simp), hk.heap g3 (by simp)⟩
  · rintro k x W hx ⟨g1, g2, g3⟩
    have hy := run_yield (P := Tryz.prog) (args := #[.int .i64 x.1, .int .i64 x.2]) g2 (by rw [hbk]; show 2 = ps.size; exact hps.symm)
    rw [hbk] at hy
    refine ⟨fn, _, assign, body, hy, roundIn_of_wpIn hfn (hassign _ k x W _ g1 hx fun a' W' hk hF => ?_)⟩
    have l' := hk.heap g2 (by simp)
    have d' := hk.heap g3 (by simp)
    refine ⟨_, run_beginRound l' (by rw [hbk]), ?_⟩
    have l2 : (W'.putObj (w.heap.size + 1) (.loop { bk .ready none with state := .busy })).heap[w.heap.size + 1]? = some (.loop { bk .ready none with state := .busy }) := World.putObj_heap_same (lt_of_block l')
    have d2 : (W'.putObj (w.heap.size + 1) (.loop { bk .ready none with state := .busy })).heap[w.heap.size]? = some (.deferred (some [])) := (World.putObj_heap_other (by omega)).trans d'
    have s2 : KeptJ W (W'.putObj (w.heap.size + 1) (.loop { bk .ready none with state := .busy })) := (KeptJ.of_kept hk).trans (KeptJ.putObj l' rfl)
    refine wpIn_mono (hbody _ k x a' _ hx ((hFr k x a').putObj (s := ()) _ hF (by omega) l' rfl)) ?_
    -- how a round ends
    have ends : ∀ (jump : Option Code) (W3 : World), KeepsFrom w.heap.size (W'.putObj (w.heap.size + 1) (.loop { bk .ready none with state := .busy })) W3 → ∃ W4, (Instr.endRound (w.heap.size + 1) jump).run Tryz.prog W3 = .ok (.bool jump.isNone) W4 ∧ W4 = W3.putObj (w.heap.size + 1) (.loop (bk (if jump.isNone then .ready else .done) jump)) ∧ (∃ o : Obj, W3.heap[w.heap.size + 1]? = some o ∧ o.isCells = false) ∧ W4.heap[w.heap.size + 1]? = some (.loop (bk (if jump.isNone then .ready else .done) jump)) ∧ W4.heap[w.heap.size]? = some (.deferred (some [])) := by
      intro jump W3 hk3
      have l3 := hk3.same _ _ (by omega) l2 rfl
      have d3 := hk3.same _ _ (Nat.le_refl _) d2 rfl
      have hr := run_endRound (P := Tryz.prog) jump l3
      refine ⟨_, hr, by rw [hbk], ⟨_, l3, rfl⟩, ?_, (World.putObj_heap_other (by omega)).trans d3⟩
      rw [World.putObj_heap_same (lt_of_block l3), hbk]
    intro e a3 W3 hp
    cases e with
    | normal =>
      obtain ⟨k3, q3, i3⟩ := hp
      obtain ⟨W4, hr, e4, ⟨o3, l3, c3⟩, l4, d4⟩ := ends none W3 k3
      subst e4
      exact ⟨_, _, hr, .inl ⟨rfl, ⟨hI.putObj _ i3 (by omega) l3 c3, l4, d4⟩, (s2.trans q3).trans (KeptJ.putObj l3 c3)⟩⟩
    | ret =>
      obtain ⟨k3, i3⟩ := hp
      obtain ⟨W4, hr, e4, ⟨o3, l3, c3⟩, l4, d4⟩ := ends (some .ret) W3 k3
      subst e4
      exact ⟨_, _, hr, .inr ⟨rfl, _, (hIx _).putObj _ i3 (by omega) l3 c3, l4, d4⟩⟩
    | exit id =>
      obtain ⟨k3, i3⟩ := hp
      obtain ⟨W4, hr, e4, ⟨o3, l3, c3⟩, l4, d4⟩ := ends (some (.exit id)) W3 k3
      subst e4
      exact ⟨_, _, hr, .inr ⟨rfl, _, (hIx _).putObj _ i3 (by omega) l3 c3, l4, d4⟩⟩
    | goto t =>
      obtain ⟨k3, i3⟩ := hp
      obtain ⟨W4, hr, e4, ⟨o3, l3, c3⟩, l4, d4⟩ := ends (some (.goto t)) W3 k3
      subst e4
      exact ⟨_, _, hr, .inr ⟨rfl, _, (hIx _).putObj _ i3 (by omega) l3 c3, l4, d4⟩⟩
    | panic ch => exact hp.elim
    | outgrown => exact hp.elim
  · rw [← hV]
    exact hI.alloc _ (hI.alloc _ h0)
  · rintro e W2 ⟨⟨u, rfl⟩, h⟩
    rcases h with ⟨i2, l2, d2⟩ | ⟨k, hk, c, i2, l2, d2⟩
    · rw [List.take_length] at i2
      have hr := run_endLoop (P := Tryz.prog) l2 (by rw [hbk]; simp)
      rw [hbk] at hr
      exact ⟨none, _, hr, hdone _ _ (Nat.le_refl _) (hI.putObj _ i2 (by omega) l2 rfl) ((World.putObj_heap_other (by omega)).trans d2)⟩
    · have hr := run_endLoop (P := Tryz.prog) l2 (by rw [hbk]; simp)
      rw [hbk] at hr
      exact ⟨some c, _, hr, hstop _ c k _ (Nat.le_refl _) hk ((hIx c).putObj _ i2 (by omega) l2 rfl) ((World.putObj_heap_other (by omega)).trans d2)⟩

end Go.Proofs.YtcfflbafclmheaaGreatDoor.Vi

/-
  Count and Master: ranges over the members.
-/
namespace Go.Proofs.YtcfflbafclmheaaGreatDoor.Vi
set_option maxRecDepth 100000
set_option maxRecDepth 100000
open Go.RowKit Go.Shelf
attribute [local go_sem] Oper.semAt_some


theorem blk_grown {W W' : World} {row : Option Nat} {b T : Nat} {us : List Value} (h : Blk W b T us) (hg : W.grownBy W' row) (hr : ∀ r, row = some r → ∃ o : Obj, W.heap[r]? = some o ∧ o.isCells = false) : Blk W' b T us := cells_kept h hg hr
theorem kept_kept {w W W' : World} {row : Option Nat} {B : Nat} (h : Kept [] w W) (hg : W.grownBy W' row) (hB : w.heap.size ≤ B) (hr : ∀ r, row = some r → B ≤ r) : Kept [] w W' :=
  h.fresh (X := row.toList) (Kept.of_grown hg (fun k e _ => by rw [e]; simp)) (fun i hi hl => by rw [Option.mem_toList] at hi; have := hr i hi; omega)
theorem keepsFrom_X {B : Nat} {W W' : World} {X : List Nat} (h : Kept X W W') (hX : ∀ k ∈ X, ∃ cs T p, W.heap[k]? = some (Obj.cells cs T p)) : KeepsFrom B W W' :=
  ⟨h.size, fun k o _ hk hc => by
    rw [h.block k (lt_of_block hk) (fun hm => by obtain ⟨cs, T, p, e⟩ := hX k hm; rw [hk] at e; cases e; simp [Obj.isCells] at hc)]
    exact hk⟩
theorem keepsFrom_of_kept {B : Nat} {W W' : World} (h : Kept [] W W') : KeepsFrom B W W' := keepsFrom_X h (by simp)
theorem KeptJ.keptX {A W W' : World} {X : List Nat} (h : KeptJ A W) (hk : Kept X W W') (hX : ∀ k ∈ X, ∀ cs T p, W.heap[k]? = some (Obj.cells cs T p) → T = 3 ∨ T = 4) : KeptJ A W' := by
  refine ⟨Nat.le_trans h.size hk.size, fun k cs T p h1 h2 hc => ?_⟩
  have h3 := h.block k cs T p h1 h2 hc
  rw [hk.block k (lt_of_block h3) (fun hm => by rcases hX k hm cs T p h3 with e | e; exact h1 e; exact h2 e)]
  exact h3
/-- A number or a truth value is written. -/
theorem keep34 {B : Nat} {W W' : World} {b T : Nat} {us : List Value} (hk : Kept [b] W W') (hB : Blk W b T us) (hT : T = 3 ∨ T = 4) : KeepsFrom B W W' ∧ KeptJ W W' :=
  ⟨keepsFrom_X hk (fun k hm => by simp at hm; subst hm; exact ⟨_, _, _, hB⟩), (KeptJ.refl W).keptX hk (fun k hm cs T' p e => by simp at hm; subst hm; unfold Blk at hB; rw [hB] at e; cases e; exact hT)⟩
theorem KeptJ.keeps {B : Nat} {W W1 W2 : World} (h : KeepsFrom B W W1 ∧ KeptJ W W1) (k : KeepsFrom B W1 W2 ∧ KeptJ W1 W2) : KeepsFrom B W W2 ∧ KeptJ W W2 :=
  ⟨⟨Nat.le_trans h.1.size k.1.size, fun i o hi ho hc => k.1.same i o hi (h.1.same i o hi ho hc) hc⟩, h.2.trans k.2⟩
theorem Mm.grown {w0 W W' : World} {bs : List (Nat × Nat × List Value)} {row : Option Nat} {B : Nat} (h : Mm w0 W bs) (hg : W.grownBy W' row) (hB : w0.heap.size ≤ B) (hr : ∀ r, row = some r → B ≤ r ∧ ∃ o : Obj, W.heap[r]? = some o ∧ o.isCells = false) : Mm w0 W' bs := by
  have hp := h.first0
  exact ⟨kept_kept h.kept hg hB (fun r e => (hr r e).1), h.first.keptX (X := row.toList) (Kept.of_grown hg (fun k e _ => by rw [e]; simp)) (by rw [Option.mem_toList]; intro e; have := (hr 0 e).1; omega), hp, fun x hx => ⟨blk_grown (h.blk x hx).1 hg (fun r e => (hr r e).2), (h.blk x hx).2⟩, h.nd⟩
section
variable {ops : Array Oper} {rest : List Oper} {op : Oper} {a : Act} {w w0 : World} {Q : Exit → Act → World → Prop} {bs : List (Nat × Nat × List Value)}
theorem wpStoreK1 {T : Nat} (hs : (Tryz.prog.info? T).map (·.size) = some 1) (hgd : op.guard = none) (x y : Operand) (ho : op.op = .store T x y) (hd : op.dst = none) (b off i : Nat) (v : Value) (h1 : One v) (hx : a.eval x = .pointer (some ⟨b, off, none⟩)) (hy : a.eval y = v) (hM : Mm w0 w bs) {TT : Nat} {us : List Value} (hi : bs[i]? = some (b, TT, us)) (hl : off < us.length)
    (h : ∀ W, Mm w0 W (bs.set i (b, TT, us.set off v)) → Kept [b] w W → wpList Tryz.prog ops Q rest a W) : wpList Tryz.prog ops Q (op :: rest) a w :=
  wpList_plain hgd fun K hK => by
    have hst := storeVar1 hs (hM.at i _ hi) hl v h1.1 h1.2
    unfold Oper.wp execOp
    simp only [ho, hx, hy, Instr.storeAt, Instr.sureAddr, Sem.run_bind, Sem.run_pure, Result.andThen_ok, hst]
    refine hK _ _ ?_
    rw [hd]
    exact h _ (hM.mut i hi ((Kept.refl _ _).setCell (by simp) v) ((hM.at i _ hi).set v)) ((Kept.refl _ _).setCell (by simp) v)
end
theorem memF_len : ∀ (l : List (Bool × Int)) (i : Nat), (memF i l).length ≤ l.length := by
  intro l
  induction l with
  | nil => intro i; simp [memF]
  | cons m l ih =>
    intro i
    unfold memF
    have := ih (i + 1)
    split <;> simp <;> omega
theorem list_len {v : Vw} (h : v.ms.length = 8) : v.list.length ≤ 8 := by
  unfold Vw.list
  split
  · have := memF_len v.ms 0; omega
  · simp
theorem zero3 (w : World) : (Instr.alloc 3 true (.tuple #[])).run Tryz.prog w = .ok (P0 w.heap.size) (w.alloc (.cells [Value.int .i64 0].toArray 3)) := by kernel_rfl
theorem zero4 (w : World) : (Instr.alloc 4 true (.tuple #[])).run Tryz.prog w = .ok (P0 w.heap.size) (w.alloc (.cells [Value.bool false].toArray 4)) := by kernel_rfl
end Go.Proofs.YtcfflbafclmheaaGreatDoor.Vi

/-
  Master: a page's master.
-/
namespace Go.Proofs.YtcfflbafclmheaaGreatDoor.Vi
set_option maxRecDepth 100000
set_option maxRecDepth 100000
open Go.RowKit Go.Shelf
attribute [local go_sem] Oper.semAt_some


/-- The master of a page. -/
def Vw.master (v : Vw) (page : Int) : Int × Bool := if page < 0 ∨ v.list.length = 0 then (0, false) else (((v.list[(page % (v.list.length : Int)).toNat]?.getD (0, 0)).1 : Nat), true)
/-- What the region that makes two numbers keeps. -/
@[reducible] def SB (V : World) (r : Int) (d : Nat → Bool) (vs : Nat → Value) (W : World) : Prop :=
  Kept [] V W ∧ (d 3 = true → ∃ p, vs 3 = P0 p ∧ V.heap.size ≤ p ∧ Blk W p 3 [.int .i64 0]) ∧ (d 4 = true → ∃ q, vs 4 = P0 q ∧ V.heap.size ≤ q ∧ (d 6 = false → Blk W q 3 [.int .i64 0]) ∧ (d 6 = true → Blk W q 3 [.int .i64 r])) ∧ (d 3 = true → d 4 = true → vs 3 ≠ vs 4)
theorem SB.loc {V : World} {r : Int} : ∀ d d' vs vs' W, (∀ i ∈ [3, 4, 6], d i = d' i ∧ vs i = vs' i) → SB V r d vs W → SB V r d' vs' W := by
  intro d d' vs vs' W H h
  have e0 := H 3 (by simp)
  have e1 := H 4 (by simp)
  have e2 := H 6 (by simp)
  unfold SB at h ⊢
  rw [← e0.1, ← e0.2, ← e1.1, ← e1.2, ← e2.1]
  exact h
theorem p0_inj {p q : Nat} (h : P0 p = P0 q) : p = q := by
  injection h with e
  injection e with e
  injection e with e
theorem p0_lt {p : Nat} {W : World} {T : Nat} {us : List Value} (h1 : Blk W p T us) : P0 p ≠ P0 W.heap.size := by
  intro e
  have := h1.lt
  have := p0_inj e
  omega
theorem o_remI (x y : Operand) {o : Oper} {a : Act} {w : World} {K : Act → World → Prop} {Q : Exit → Act → World → Prop} (ho : o.op = .binOp .rem 3 x y 3) (m n r : Int) (hr : r = m % n) (hm : 0 ≤ m ∧ m ≤ 9223372036854775807) (hn : 1 ≤ n ∧ n ≤ 8) (hx : a.eval x = .int .i64 m) (hy : a.eval y = .int .i64 n) (h : K (a.put o.dst (.int .i64 r)) w) : o.wp Tryz.prog a w K Q := by
  subst hr
  have h1 := Int.emod_nonneg m (b := n) (by omega)
  have h2 := Int.emod_lt_of_pos m (b := n) (by omega)
  have ht : Int.tmod m n = m % n := Int.tmod_eq_emod_of_nonneg hm.1
  have hn0 : ¬ n = 0 := by omega
  unfold Oper.wp execOp
  simp only [ho, hx, hy]
  simp [go_sem, hn0, ht]
  exact h
theorem keepG {St : (Nat → Bool) → (Nat → Value) → World → Prop} {l : Array Bool} {vs : Nat → Value} {j : Nat} {v : Value} {w : World} (sp : List Nat) (hloc : ∀ b b' vs vs' W, (∀ i ∈ sp, b i = b' i ∧ vs i = vs' i) → St b vs W → St b' vs' W) (hj : j < l.size) (hn : sp.all (fun i => i != j) = true) (h : St (fun i => l.getD i false) vs w) : St (fun i => (l.setIfInBounds j true).getD i false) (fun i => if i = j then v else vs i) w := by
  refine hloc _ _ _ _ _ (fun i hi => ?_) h
  have hne : i ≠ j := by have := List.all_eq_true.1 hn i hi; simpa using this
  exact ⟨by rw [getD_setD hj]; simp [hne], by simp [hne]⟩
theorem nextG {St : (Nat → Bool) → (Nat → Value) → World → Prop} {l : Array Bool} {vs : Nat → Value} {j : Nat} {v : Value} {w : World} (hj : j < l.size) (h : St (fun i => if i = j then true else l.getD i false) (fun i => if i = j then v else vs i) w) : St (fun i => (l.setIfInBounds j true).getD i false) (fun i => if i = j then v else vs i) w := by
  have e : (fun i => (l.setIfInBounds j true).getD i false) = (fun i => if i = j then true else l.getD i false) := by
    funext i
    exact getD_setD hj false
  rw [e]
  exact h
section
variable {o : Oper} {a : Act} {w : World} {K : Act → World → Prop} {Q : Exit → Act → World → Prop}
theorem o_st3 (x y : Operand) (ho : o.op = .store 3 x y) (b i TT : Nat) (us : List Value) (n : Int) (hx : a.eval x = .pointer (some ⟨b, i, none⟩)) (hy : a.eval y = .int .i64 n) (hB : Blk w b TT us) (hi : i < us.length)
    (h : ∀ W, Blk W b TT (us.set i (.int .i64 n)) → Kept [b] w W → K (a.put o.dst undef) W) : o.wp Tryz.prog a w K Q := by
  have hst := storeVar1 size3 hB hi (.int .i64 n) rfl rfl
  unfold Oper.wp execOp
  simp only [ho, hx, hy, Instr.storeAt, Instr.sureAddr, Sem.run_bind, Sem.run_pure, Result.andThen_ok, hst]
  have := h _ (hB.set (.int .i64 n)) ((Kept.refl _ _).setCell (by simp) _)
  exact this
end
theorem Mm.add {w0 W : World} {bs : List (Nat × Nat × List Value)} (h : Mm w0 W bs) {b T : Nat} {vs : List Value} (hb : Blk W b T vs) (hge : w0.heap.size ≤ b) (hne : ∀ x ∈ bs, x.1 ≠ b) : Mm w0 W (bs ++ [(b, T, vs)]) := by
  refine ⟨h.kept, h.first, h.first0, ?_, ?_⟩
  · intro x hx
    rcases List.mem_append.1 hx with hx | hx
    · exact h.blk x hx
    · simp at hx; subst hx; exact ⟨hb, hge⟩
  · rw [List.map_append, List.nodup_append]
    refine ⟨h.nd, by simp, ?_⟩
    intro a ha c hc
    simp at hc; subst hc
    obtain ⟨x, hx, rfl⟩ := List.mem_map.1 ha
    exact hne x hx
end Go.Proofs.YtcfflbafclmheaaGreatDoor.Vi
