/-
  Records and heads as plain data, and laws for them as a whole.
-/
import Derived.Test.YtmeajhdhiebkdaaDoorRcEqs
namespace Go.Proofs.YtmeajhdhiebkdaaDoor.Rc
set_option maxRecDepth 100000
open Go.RowKit

/-- A record. -/
structure Rec where
  nd : Int
  ep : Int
  ls : Int
  pg : Int
  ps : Int
  bd : List Int
/-- A number that an int64 can be. -/
def I64 (n : Int) : Prop := -9223372036854775808 ≤ n ∧ n ≤ 9223372036854775807
structure Rec.Ok (r : Rec) : Prop where
  nd : I64 r.nd
  ep : I64 r.ep
  ls : I64 r.ls
  pg : I64 r.pg
  ps : I64 r.ps
  bd : Byts 96 r.bd
theorem Rec.ext' {r q : Rec} (h1 : r.nd = q.nd) (h2 : r.ep = q.ep) (h3 : r.ls = q.ls) (h4 : r.pg = q.pg) (h5 : r.ps = q.ps) (h6 : r.bd = q.bd) : r = q := by
  cases r; cases q; simp_all
/-- A record as cells. -/
def recC (r : Rec) : List Value := .int .i64 r.nd :: .int .i64 r.ep :: .int .i64 r.ls :: .int .i64 r.pg :: .int .i64 r.ps :: u8s r.bd
def zrec : Rec := ⟨0, 0, 0, 0, 0, zs 96⟩
theorem zrec_ok : zrec.Ok := ⟨by simp [I64, zrec], by simp [I64, zrec], by simp [I64, zrec], by simp [I64, zrec], by simp [I64, zrec], zs_byts 96⟩
theorem recC_len {r : Rec} (h : r.bd.length = 96) : (recC r).length = 101 := by simp [recC, u8s_len, h]
theorem recC_one (r : Rec) : ∀ v ∈ recC r, v.oneCell' = true := by
  intro v hv
  simp only [recC, List.mem_cons] at hv
  rcases hv with rfl | rfl | rfl | rfl | rfl | hv
  iterate 5 rfl
  exact u8s_one _ v hv
/-- A head as cells. -/
def hdC (s e : Int) : List Value := [.int .i64 s, .int .i64 e]
theorem hdC_one (s e : Int) : ∀ v ∈ hdC s e, v.oneCell' = true := by
  intro v hv
  simp only [hdC, List.mem_cons, List.mem_nil_iff, or_false] at hv
  rcases hv with rfl | rfl <;> rfl

theorem row25 : Row 45 101 := ⟨_, Tryd.underlying45, rfl, by kernel_rfl⟩
theorem row27 : Row 91 2 := ⟨_, Tryd.underlying91, rfl, by kernel_rfl⟩
theorem zero25 (w : World) : (Instr.alloc 45 true (.tuple #[])).run Tryd.prog w = .ok (P0 w.heap.size) (w.alloc (.cells (recC zrec).toArray 45)) := by kernel_rfl
theorem zero27 (w : World) : (Instr.alloc 91 true (.tuple #[])).run Tryd.prog w = .ok (P0 w.heap.size) (w.alloc (.cells (hdC 0 0).toArray 91)) := by kernel_rfl
theorem build25 (w : World) : (Instr.build 45 #[]).run Tryd.prog w = .ok (aggV (recC zrec)) w := by kernel_rfl
theorem build27 (w : World) : (Instr.build 91 #[]).run Tryd.prog w = .ok (aggV (hdC 0 0)) w := by kernel_rfl
theorem guard25 : Tryd.prog.eqGuardType Tryd.prog.depth 45 = false := by kernel_rfl
theorem guard27 : Tryd.prog.eqGuardType Tryd.prog.depth 91 = false := by kernel_rfl
theorem fields25 : (Tryd.prog.fieldsOf 45).toList.map (fun f => (decide (f.name ≠ "_"), f.type, f.offset)) = [(true, 3, 0), (true, 2, 1), (true, 2, 2), (true, 3, 3), (true, 2, 4), (true, 26, 5)] := by kernel_rfl
theorem fields27 : (Tryd.prog.fieldsOf 91).toList.map (fun f => (decide (f.name ≠ "_"), f.type, f.offset)) = [(true, 2, 0), (true, 2, 1)] := by kernel_rfl
theorem str25 : Tryd.prog.underlying 45 = some (.struct (Tryd.prog.fieldsOf 45)) := by kernel_rfl
theorem str27 : Tryd.prog.underlying 91 = some (.struct (Tryd.prog.fieldsOf 91)) := by kernel_rfl

/-- Two records are the same. -/
def recEq (r q : Rec) : Bool := decide (r.nd = q.nd) && (decide (r.ep = q.ep) && (decide (r.ls = q.ls) && (decide (r.pg = q.pg) && (decide (r.ps = q.ps) && decide (r.bd = q.bd)))))
theorem recEq_iff (r q : Rec) : recEq r q = true ↔ r = q := by
  constructor
  · intro h
    simp [recEq] at h
    exact Rec.ext' h.1 h.2.1 h.2.2.1 h.2.2.2.1 h.2.2.2.2.1 h.2.2.2.2.2
  · rintro rfl; simp [recEq]
theorem recEq_self (r : Rec) : recEq r r = true := (recEq_iff r r).2 rfl

theorem equal25 (W : World) (r q : Rec) (hr : r.bd.length = 96) (hq : q.bd.length = 96) : (Op.equal 45 (aggV (recC r)) (aggV (recC q))).run Tryd.prog W = .ok (recEq r q) W := by
  have h := run_equalIn_struct (P := Tryd.prog) W 9999 45 (recC r).toArray (recC q).toArray str25 (by kernel_rfl)
  refine h.trans ?_
  generalize hf : (Tryd.prog.fieldsOf 45).toList = fs
  have hm := fields25
  rw [hf] at hm
  match fs, hm with
  | [f, g, k, l, m, n], hm =>
    simp only [List.map_cons, List.map_nil, List.cons.injEq, Prod.mk.injEq, and_true, decide_eq_true_eq] at hm
    obtain ⟨⟨f1, f2, f3⟩, ⟨g1, g2, g3⟩, ⟨k1, k2, k3⟩, ⟨l1, l2, l3⟩, ⟨m1, m2, m3⟩, n1, n2, n3⟩ := hm
    have b1 : (part 26 (recC r).toArray 5).run Tryd.prog W = .ok (aggV (u8s r.bd)) W := by
      have := part_agg W 26 96 row23 [.int .i64 r.nd, .int .i64 r.ep, .int .i64 r.ls, .int .i64 r.pg, .int .i64 r.ps] (u8s r.bd) [] 5 rfl (by rw [u8s_len, hr])
      simpa [recC] using this
    have b2 : (part 26 (recC q).toArray 5).run Tryd.prog W = .ok (aggV (u8s q.bd)) W := by
      have := part_agg W 26 96 row23 [.int .i64 q.nd, .int .i64 q.ep, .int .i64 q.ls, .int .i64 q.pg, .int .i64 q.ps] (u8s q.bd) [] 5 rfl (by rw [u8s_len, hq])
      simpa [recC] using this
    have e2 : (Op.equalIn 9999 26 (aggV (u8s r.bd)) (aggV (u8s q.bd))).run Tryd.prog W = .ok (decide (r.bd = q.bd)) W := equal_byts' W 26 96 9999 (by omega) Tryd.underlying26 _ _ hr hq
    have hh := fields_step W 9999 3 0 _ _ f [g, k, l, m, n] _ _ _ _ f1 f2 f3 (part3 W (recC r).toArray 0 (.int .i64 r.nd) rfl) (part3 W (recC q).toArray 0 (.int .i64 q.nd) rfl) (eq3 W 9998 r.nd q.nd)
      (fields_step W 9999 2 1 _ _ g [k, l, m, n] _ _ _ _ g1 g2 g3 (part2 W (recC r).toArray 1 (.int .i64 r.ep) rfl) (part2 W (recC q).toArray 1 (.int .i64 q.ep) rfl) (eq2 W 9998 r.ep q.ep)
      (fields_step W 9999 2 2 _ _ k [l, m, n] _ _ _ _ k1 k2 k3 (part2 W (recC r).toArray 2 (.int .i64 r.ls) rfl) (part2 W (recC q).toArray 2 (.int .i64 q.ls) rfl) (eq2 W 9998 r.ls q.ls)
      (fields_step W 9999 3 3 _ _ l [m, n] _ _ _ _ l1 l2 l3 (part3 W (recC r).toArray 3 (.int .i64 r.pg) rfl) (part3 W (recC q).toArray 3 (.int .i64 q.pg) rfl) (eq3 W 9998 r.pg q.pg)
      (fields_step W 9999 2 4 _ _ m [n] _ _ _ _ m1 m2 m3 (part2 W (recC r).toArray 4 (.int .i64 r.ps) rfl) (part2 W (recC q).toArray 4 (.int .i64 q.ps) rfl) (eq2 W 9998 r.ps q.ps)
      (fields_step W 9999 26 5 _ _ n [] _ _ _ _ n1 n2 n3 b1 b2 e2 (fields_nil ..))))))
    rw [Bool.and_true] at hh
    exact hh

theorem equal27 (W : World) (s e t f : Int) : (Op.equal 91 (aggV (hdC s e)) (aggV (hdC t f))).run Tryd.prog W = .ok (decide (s = t) && decide (e = f)) W := by
  have hh := run_equalIn_struct (P := Tryd.prog) W 9999 91 (hdC s e).toArray (hdC t f).toArray str27 (by kernel_rfl)
  refine hh.trans ?_
  generalize hf : (Tryd.prog.fieldsOf 91).toList = fs
  have hm := fields27
  rw [hf] at hm
  match fs, hm with
  | [a, g], hm =>
    simp only [List.map_cons, List.map_nil, List.cons.injEq, Prod.mk.injEq, and_true, decide_eq_true_eq] at hm
    obtain ⟨⟨f1, f2, f3⟩, g1, g2, g3⟩ := hm
    have hh := fields_step W 9999 2 0 _ _ a [g] _ _ _ _ f1 f2 f3 (part2 W (hdC s e).toArray 0 (.int .i64 s) rfl) (part2 W (hdC t f).toArray 0 (.int .i64 t) rfl) (eq2 W 9998 s t)
      (fields_step W 9999 2 1 _ _ g [] _ _ _ _ g1 g2 g3 (part2 W (hdC s e).toArray 1 (.int .i64 e) rfl) (part2 W (hdC t f).toArray 1 (.int .i64 f) rfl) (eq2 W 9998 e f) (fields_nil ..))
    rw [Bool.and_true] at hh
    exact hh

theorem loadV {w : World} {b T n : Nat} {vs : List Value} (hT : Row T n) (hl : vs.length = n) (h : Blk w b T vs) : (loadVar T ⟨b, 0, none⟩).run Tryd.prog w = .ok (aggV vs) w := by
  obtain ⟨d, h1, h2, h3⟩ := hT
  exact run_loadVar_mid (P := Tryd.prog) w b 0 T vs d h.range h1 h2 (by rw [hl]; exact h3)
theorem u8s_set (l : List Int) (i : Nat) (x : Int) : (u8s l).set i (.int .u8 x) = u8s (l.set i x) := by simp [u8s, List.map_set]
theorem keptBelow {X : List Nat} {a w w' : World} {B : Nat} (h : Kept X a w) (hb : Below B w w') (hB : a.heap.size ≤ B) : Kept X a w' :=
  ⟨hb.os.trans h.os, hb.tape.trans h.tape, hb.output.trans h.output, Nat.le_trans h.size hb.size, fun i hi hx => (hb.block i (by omega)).trans (h.block i hi hx)⟩
theorem ret_bool {a b : Bool} (h : a = true ↔ b = true) : Ending.returned (Value.bool a) = .returned (.bool b) := by rw [Bool.eq_iff_iff.2 h]
theorem fits_cell {w : World} {b T : Nat} {vs : List Value} (h : Blk w b T vs) (i : Nat) (v : Value) (hi : vs[i]? = some v) : w.cell? ⟨b, i, none⟩ = some v := by rw [h.cell]; exact hi
/-- A world of which is known only what is said of it. -/
theorem wpAllocV {ops : Array Oper} {rest : List Oper} {op : Oper} {a : Act} {w : World} {Q : Exit → Act → World → Prop} {T : Nat} (vs : List Value) (hr : ∀ w : World, (Instr.alloc T true (.tuple #[])).run Tryd.prog w = .ok (P0 w.heap.size) (w.alloc (.cells vs.toArray T))) (d : Nat) (_ : op.dst = some d) (hgd : op.guard = none) (ho : op.op = .alloc T)
    (h : ∀ W, W = w.alloc (.cells vs.toArray T) → wpList Tryd.prog ops Q rest (a.put op.dst (P0 w.heap.size)) W) : wpList Tryd.prog ops Q (op :: rest) a w :=
  wpAllocA vs hr hgd ho (h _ rfl)
/-- A variable is made and filled. -/
theorem wpNew {ops : Array Oper} {rest : List Oper} {o1 o2 : Oper} {a : Act} {w : World} {Q : Exit → Act → World → Prop} {T n : Nat} (hT : Row T n) (zv : List Value) (hz : zv.length = n) (hr : ∀ w : World, (Instr.alloc T true (.tuple #[])).run Tryd.prog w = .ok (P0 w.heap.size) (w.alloc (.cells zv.toArray T)))
    (d : Nat) (hd : o1.dst = some d) (hg1 : o1.guard = none) (ho1 : o1.op = .alloc T) (y : Operand) (hg2 : o2.guard = none) (ho2 : o2.op = .store T (.tmp d) y) (hd2 : o2.dst = none)
    (vs : List Value) (hl : vs.length = n) (h1 : ∀ v ∈ vs, v.oneCell' = true) (hx : (a.put (some d) (P0 w.heap.size)).eval (.tmp d) = P0 w.heap.size) (hy : (a.put (some d) (P0 w.heap.size)).eval y = aggV vs)
    (h : ∀ W b, b = w.heap.size → Blk W b T vs → Kept [] w W → wpList Tryd.prog ops Q rest (a.put (some d) (P0 b)) W) : wpList Tryd.prog ops Q (o1 :: o2 :: rest) a w := by
  refine wpAllocA zv hr hg1 ho1 ?_
  rw [hd]
  have hb : Blk (w.alloc (.cells zv.toArray T)) w.heap.size T zv := Blk.new w T zv
  refine wpStoreA hT hg2 (.tmp d) y ho2 w.heap.size 0 vs hx hy hl h1 (hb.there (by omega)) ?_
  rw [hd2]
  exact h _ _ rfl (hb.put (by omega)) (((Kept.refl _ _).alloc _).setCells _ _ (by omega))

end Go.Proofs.YtmeajhdhiebkdaaDoor.Rc
