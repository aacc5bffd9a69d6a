/-
  Marks as plain data; a map of them.
-/
import Derived.Test.YthihladmifpokaaGx
import Derived.Test.YthihladmifpokaaKit
namespace Go.Proofs.Ythihladmifpokaa
set_option maxRecDepth 100000
set_option linter.unusedSimpArgs false
open Go.RowKit


/-- A mark: its page, its PSN, its First. -/
structure Mk where
  p : Int
  s : Int
  f : Int
deriving DecidableEq
def Mk.C (x : Mk) : List Value := [.int .i64 x.p, .int .i64 x.s, .int .i64 x.f]
def Mk.K (x : Mk) : List Value := [.int .i64 x.p, .int .i64 x.s]
def keyC (p s : Int) : List Value := [.int .i64 p, .int .i64 s]
theorem Mk.one (x : Mk) : ∀ v ∈ x.C, v.oneCell' = true := by
  intro v hv
  simp [Mk.C] at hv
  rcases hv with rfl | rfl | rfl <;> rfl
theorem keyC_one (p s : Int) : ∀ v ∈ keyC p s, v.oneCell' = true := by
  intro v hv
  simp [keyC] at hv
  rcases hv with rfl | rfl <;> rfl
instance : Inhabited Mk := ⟨⟨0, 0, 0⟩⟩
def mk0 : Mk := ⟨0, 0, 0⟩
theorem row54 : Row 54 3 := ⟨_, Try.underlying54, rfl, by kernel_rfl⟩
theorem row67 : Row 67 2 := ⟨_, Try.underlying67, rfl, by kernel_rfl⟩
theorem row52 : Row 52 1 := ⟨_, Try.underlying52, rfl, by kernel_rfl⟩
theorem row34 : Row 34 4 := ⟨_, Try.underlying34, rfl, by kernel_rfl⟩
theorem guard54 : Try.prog.eqGuardType Try.prog.depth 54 = false := by kernel_rfl
theorem size2 : (Try.prog.info? 2).map (·.size) = some 1 := by kernel_rfl
theorem size3 : (Try.prog.info? 3).map (·.size) = some 1 := by kernel_rfl
theorem size4 : (Try.prog.info? 4).map (·.size) = some 1 := by kernel_rfl
theorem zero54 (w : World) : (Instr.alloc 54 true (.tuple #[])).run Try.prog w = .ok (P0 w.heap.size) (w.alloc (.cells mk0.C.toArray 54)) := by kernel_rfl
theorem zero67 (w : World) : (Instr.alloc 67 true (.tuple #[])).run Try.prog w = .ok (P0 w.heap.size) (w.alloc (.cells (keyC 0 0).toArray 67)) := by kernel_rfl
theorem str67 : Try.prog.underlying 67 = some (.struct (Try.prog.fieldsOf 67)) := by kernel_rfl
theorem str54 : Try.prog.underlying 54 = some (.struct (Try.prog.fieldsOf 54)) := by kernel_rfl
theorem fields67 : (Try.prog.fieldsOf 67).toList.map (fun f => (decide (f.name ≠ "_"), f.type, f.offset)) = [(true, 3, 0), (true, 2, 1)] := by kernel_rfl
theorem fields54 : (Try.prog.fieldsOf 54).toList.map (fun f => (decide (f.name ≠ "_"), f.type, f.offset)) = [(true, 3, 0), (true, 2, 1), (true, 2, 2)] := by kernel_rfl
theorem eq67 (W : World) (d : Nat) (a b c e : Int) : (Op.equalIn (d + 3) 67 (aggV (keyC a b)) (aggV (keyC c e))).run Try.prog W = .ok (decide (a = c) && decide (b = e)) W := by
  have h := run_equalIn_struct (P := Try.prog) W (d + 2) 67 (keyC a b).toArray (keyC c e).toArray str67 (by kernel_rfl)
  refine h.trans ?_
  generalize hf : (Try.prog.fieldsOf 67).toList = fs
  have hm := fields67
  rw [hf] at hm
  match fs, hm with
  | [f, g], hm =>
    simp only [List.map_cons, List.map_nil, List.cons.injEq, Prod.mk.injEq, and_true, decide_eq_true_eq] at hm
    obtain ⟨⟨f1, f2, f3⟩, g1, g2, g3⟩ := hm
    have hh := fields_step W (d + 2) 3 0 _ _ f [g] _ _ _ _ f1 f2 f3 (part3 W (keyC a b).toArray 0 (.int .i64 a) rfl) (part3 W (keyC c e).toArray 0 (.int .i64 c) rfl) (eq3 W (d + 1) a c)
      (fields_step W (d + 2) 2 1 _ _ g [] _ _ _ _ g1 g2 g3 (part2 W (keyC a b).toArray 1 (.int .i64 b) rfl) (part2 W (keyC c e).toArray 1 (.int .i64 e) rfl) (eq2 W (d + 1) b e) (fields_nil ..))
    rw [Bool.and_true] at hh
    exact hh
theorem equal67 (W : World) (a b c e : Int) : (Op.equal 67 (aggV (keyC a b)) (aggV (keyC c e))).run Try.prog W = .ok (decide (a = c) && decide (b = e)) W := eq67 W 9997 a b c e
theorem eq54 (W : World) (d : Nat) (x y : Mk) : (Op.equalIn (d + 3) 54 (aggV x.C) (aggV y.C)).run Try.prog W = .ok (decide (x = y)) W := by
  have h := run_equalIn_struct (P := Try.prog) W (d + 2) 54 x.C.toArray y.C.toArray str54 (by kernel_rfl)
  refine h.trans ?_
  generalize hf : (Try.prog.fieldsOf 54).toList = fs
  have hm := fields54
  rw [hf] at hm
  match fs, hm with
  | [f, g, k], hm =>
    simp only [List.map_cons, List.map_nil, List.cons.injEq, Prod.mk.injEq, and_true, decide_eq_true_eq] at hm
    obtain ⟨⟨f1, f2, f3⟩, ⟨g1, g2, g3⟩, k1, k2, k3⟩ := hm
    have hh := fields_step W (d + 2) 3 0 _ _ f [g, k] _ _ _ _ f1 f2 f3 (part3 W x.C.toArray 0 (.int .i64 x.p) rfl) (part3 W y.C.toArray 0 (.int .i64 y.p) rfl) (eq3 W (d + 1) x.p y.p)
      (fields_step W (d + 2) 2 1 _ _ g [k] _ _ _ _ g1 g2 g3 (part2 W x.C.toArray 1 (.int .i64 x.s) rfl) (part2 W y.C.toArray 1 (.int .i64 y.s) rfl) (eq2 W (d + 1) x.s y.s)
      (fields_step W (d + 2) 2 2 _ _ k [] _ _ _ _ k1 k2 k3 (part2 W x.C.toArray 2 (.int .i64 x.f) rfl) (part2 W y.C.toArray 2 (.int .i64 y.f) rfl) (eq2 W (d + 1) x.f y.f) (fields_nil ..)))
    rw [hh]
    congr 1
    obtain ⟨x1, x2, x3⟩ := x
    obtain ⟨y1, y2, y3⟩ := y
    rw [Bool.eq_iff_iff]
    simp
theorem equal54 (W : World) (x y : Mk) : (Op.equal 54 (aggV x.C) (aggV y.C)).run Try.prog W = .ok (decide (x = y)) W := eq54 W 9997 x y
/-- The entries of a map. -/
def ents (L : List Mk) : List (Value × Value) := L.map fun l => (aggV l.K, .int .i64 l.f)
def MapAt (W : World) (mb : Nat) (L : List Mk) : Prop := ∃ es clock, W.heap[mb]? = some (.map es clock) ∧ es.toList.map (fun e => (e.key, e.val)) = ents L ∧ MapKept.Stamped es clock
theorem MapAt.kept {W W' : World} {mb : Nat} {L : List Mk} {X : List Nat} (h : MapAt W mb L) (hk : Kept X W W') (hX : mb ∉ X) : MapAt W' mb L := by
  obtain ⟨es, c, h1, h2, hst⟩ := h
  exact ⟨es, c, hk.heap h1 hX, h2, hst⟩
def placeOf (p s : Int) : List Mk → Nat → Option (Nat × Mk)
  | [], _ => none
  | l :: L, i => if p = l.p ∧ s = l.s then some (i, l) else placeOf p s L (i + 1)
theorem placeOf_some {p s : Int} : ∀ {L : List Mk} {i j : Nat} {l : Mk}, placeOf p s L i = some (j, l) → i ≤ j ∧ L[j - i]? = some l ∧ l.p = p ∧ l.s = s := by
  intro L
  induction L with
  | nil => intro i j l h; cases h
  | cons x L ih =>
    intro i j l h
    unfold placeOf at h
    split at h
    · rename_i hc
      cases h
      exact ⟨Nat.le_refl _, by simp, hc.1.symm, hc.2.symm⟩
    · obtain ⟨h1, h2, h3⟩ := ih h
      refine ⟨by omega, ?_, h3⟩
      rw [show j - i = (j - (i + 1)) + 1 by omega]
      simpa using h2
theorem placeOf_none {p s : Int} : ∀ {L : List Mk} {i : Nat}, placeOf p s L i = none → ∀ l ∈ L, ¬ (l.p = p ∧ l.s = s) := by
  intro L
  induction L with
  | nil => intro i h l hl; cases hl
  | cons x L ih =>
    intro i h l hl
    unfold placeOf at h
    split at h
    · cases h
    · rename_i hc
      rcases List.mem_cons.1 hl with rfl | hl
      · exact fun e => hc ⟨e.1.symm, e.2.symm⟩
      · exact ih h l hl
theorem find_asking (w : World) (p s : Int) : ∀ (L : List Mk) (es : List MapEntry) (i : Nat), es.map (fun e => (e.key, e.val)) = ents L → (Instr.findAsking 67 (aggV (keyC p s)) es i).run Try.prog w = .ok ((placeOf p s L i).map fun x => (x.1, .int .i64 x.2.f)) w := by
  intro L
  induction L with
  | nil => intro es i h; cases es with
    | nil => rfl
    | cons e es => simp [ents] at h
  | cons l L ih =>
    intro es i h
    cases es with
    | nil => simp [ents] at h
    | cons e es =>
      simp only [List.map_cons, ents, List.cons.injEq, Prod.mk.injEq] at h
      obtain ⟨⟨h1, h2⟩, h3⟩ := h
      unfold Instr.findAsking placeOf
      rw [h1]
      have he := equal67 w p s l.p l.s
      simp only [Sem.run_bind, show aggV l.K = aggV (keyC l.p l.s) from rfl, he, Result.andThen_ok]
      by_cases hk : p = l.p ∧ s = l.s
      · rw [if_pos hk]
        simp [hk, h2]
      · rw [if_neg hk]
        have hb : (decide (p = l.p) && decide (s = l.s)) = false := by rw [Bool.eq_false_iff]; intro e; rw [Bool.and_eq_true, decide_eq_true_eq, decide_eq_true_eq] at e; exact hk e
        rw [hb]
        simp only [Bool.false_eq_true, if_false]
        exact ih es (i + 1) h3
theorem find67 (w : World) (p s : Int) (L : List Mk) (es : List MapEntry) (h : es.map (fun e => (e.key, e.val)) = ents L) : (Instr.findKey 67 (aggV (keyC p s)) es).run Try.prog w = .ok ((placeOf p s L 0).map fun x => (x.1, .int .i64 x.2.f)) w := by
  have ha := find_asking w p s L es 0 h
  unfold Instr.findKey
  simp only [Sem.run_bind, run_underlying Try.underlying67, Result.andThen_ok]
  cases es with
  | nil =>
    cases L with
    | nil => rfl
    | cons l L => simp [ents] at h
  | cons e es =>
    cases L with
    | nil => simp [ents] at h
    | cons l L =>
      have hk : e.key = aggV l.K := by simp only [List.map_cons, ents, List.cons.injEq, Prod.mk.injEq] at h; exact h.1.1
      have hn : ∀ td, Instr.findNow td (aggV (keyC p s)) (e :: es) 0 = none := fun td => by
        unfold Instr.findNow
        rw [hk]
        cases td <;> rfl
      rw [hn]
      exact ha

end Go.Proofs.Ythihladmifpokaa
