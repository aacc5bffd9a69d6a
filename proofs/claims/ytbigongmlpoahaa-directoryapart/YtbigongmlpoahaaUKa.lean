import Derived.Test.YtbigongmlpoahaaUGx
namespace Go.Proofs.Ytbigongmlpoahaa
set_option maxRecDepth 100000
set_option linter.unusedSimpArgs false
open Go.RowKit
def upd {α : Type} (f : Nat → α) (n : Nat) (v : α) : Nat → α := fun i => if i = n then v else f i
def no8 : Nat → Bool := fun _ => false
def ze8 : Nat → Int := fun _ => 0
def b8 (f : Nat → Bool) : List Value := [.bool (f 0), .bool (f 1), .bool (f 2), .bool (f 3), .bool (f 4), .bool (f 5), .bool (f 6), .bool (f 7)]
def i8 (f : Nat → Int) : List Value := [.int .i64 (f 0), .int .i64 (f 1), .int .i64 (f 2), .int .i64 (f 3), .int .i64 (f 4), .int .i64 (f 5), .int .i64 (f 6), .int .i64 (f 7)]
structure Lo where
  ex : Int
  ow : Int
  ho : Nat → Bool
  ops : Nat → Int
  pa : Nat → Bool
  hn : Nat
  hk : Int
  op : Int
  su : Int
  wa : Nat → Bool
def Lo.C (s : Lo) (ln : Value) : List Value := [.bool true, .int .i64 s.ex, .int .i64 s.ow, .bool (s.ho 0), .bool (s.ho 1), .bool (s.ho 2), .bool (s.ho 3), .bool (s.ho 4), .bool (s.ho 5), .bool (s.ho 6), .bool (s.ho 7), .int .i64 (s.ops 0), .int .i64 (s.ops 1), .int .i64 (s.ops 2), .int .i64 (s.ops 3), .int .i64 (s.ops 4), .int .i64 (s.ops 5), .int .i64 (s.ops 6), .int .i64 (s.ops 7), .bool (s.pa 0), .bool (s.pa 1), .bool (s.pa 2), .bool (s.pa 3), .bool (s.pa 4), .bool (s.pa 5), .bool (s.pa 6), .bool (s.pa 7), ln, .int .i64 s.hn, .int .i64 s.hk, .int .i64 s.op, .int .i64 s.su, .bool (s.wa 0), .bool (s.wa 1), .bool (s.wa 2), .bool (s.wa 3), .bool (s.wa 4), .bool (s.wa 5), .bool (s.wa 6), .bool (s.wa 7)]
structure Rk where
  x : Int
  ow : Int
  sh : Nat → Bool
  pa : Nat → Bool
  ops : Nat → Int
  hn : Nat
  hk : Int
  wt : Int
  gn : Nat → Bool
  su : Int
  op : Int
def Rk.C (s : Rk) (ln : Value) : List Value := [.int .i64 s.x, .int .i64 s.ow, .bool (s.sh 0), .bool (s.sh 1), .bool (s.sh 2), .bool (s.sh 3), .bool (s.sh 4), .bool (s.sh 5), .bool (s.sh 6), .bool (s.sh 7), .bool (s.pa 0), .bool (s.pa 1), .bool (s.pa 2), .bool (s.pa 3), .bool (s.pa 4), .bool (s.pa 5), .bool (s.pa 6), .bool (s.pa 7), .int .i64 (s.ops 0), .int .i64 (s.ops 1), .int .i64 (s.ops 2), .int .i64 (s.ops 3), .int .i64 (s.ops 4), .int .i64 (s.ops 5), .int .i64 (s.ops 6), .int .i64 (s.ops 7), ln, .int .i64 s.hn, .int .i64 s.hk, .int .i64 s.wt, .bool (s.gn 0), .bool (s.gn 1), .bool (s.gn 2), .bool (s.gn 3), .bool (s.gn 4), .bool (s.gn 5), .bool (s.gn 6), .bool (s.gn 7), .int .i64 s.su, .int .i64 s.op]
structure Wi where
  n : Nat
  k : Int
deriving DecidableEq
def Wi.C (x : Wi) : List Value := [.int .i64 x.n, .int .i64 x.k]
def wi0 : Wi := ⟨0, 0⟩
def Lo.wi (s : Lo) : Wi := ⟨s.hn, s.hk⟩
def Rk.wi (s : Rk) : Wi := ⟨s.hn, s.hk⟩
structure Od where
  k : Int
  t : Int
  o : Int
  m : Int
  n : Int
  p : Int
deriving DecidableEq
def Od.C (x : Od) : List Value := [.int .i64 x.k, .int .i64 x.t, .int .i64 x.o, .int .i64 x.m, .int .i64 x.n, .int .i64 x.p]
def wsC (l : List Wi) : List Value := (l.map Wi.C).flatten
def odC (l : List Od) : List Value := (l.map Od.C).flatten
def inC (l : List Int) : List Value := l.map (Value.int .i64)
def lo0 : Lo := ⟨-1, -1, no8, ze8, no8, 0, 0, 0, 0, no8⟩
def rk0 : Rk := ⟨-1, -1, no8, no8, ze8, 0, 0, 0, no8, -1, 0⟩
theorem row41 : Row 38 2 := ⟨_, Try.underlying38, rfl, by kernel_rfl⟩
theorem row65 : Row 74 6 := ⟨_, Try.underlying74, rfl, by kernel_rfl⟩
theorem row75 : Row 108 40 := ⟨_, Try.underlying108, rfl, by kernel_rfl⟩
theorem row73 : Row 106 8 := ⟨_, Try.underlying106, rfl, by kernel_rfl⟩
theorem row45 : Row 78 8 := ⟨_, Try.underlying78, rfl, by kernel_rfl⟩
theorem row37 : Row 34 8 := ⟨_, Try.underlying34, rfl, by kernel_rfl⟩
theorem row43 : Row 40 17 := ⟨_, Try.underlying40, rfl, by kernel_rfl⟩
theorem build41 (w : World) : (Instr.build 38 #[]).run Try.prog w = .ok (aggV (Wi.C wi0)) w := by kernel_rfl
theorem zero73 (w : World) : (Instr.alloc 106 true (.tuple #[])).run Try.prog w = .ok (P0 w.heap.size) (w.alloc (.cells (b8 no8).toArray 106)) := by kernel_rfl
theorem build73 (w : World) : (Instr.build 106 #[]).run Try.prog w = .ok (aggV (b8 no8)) w := by kernel_rfl
theorem build45 (w : World) : (Instr.build 78 #[]).run Try.prog w = .ok (aggV (b8 no8)) w := by kernel_rfl
theorem build37 (w : World) : (Instr.build 34 #[]).run Try.prog w = .ok (aggV (i8 ze8)) w := by kernel_rfl
theorem build75 (w : World) : (Instr.build 108 #[(0, .bool true), (1, .int .i64 (-1)), (2, .int .i64 (-1))]).run Try.prog w = .ok (aggV (lo0.C (.slice none 0 0))) w := by kernel_rfl
theorem build47 (w : World) : (Instr.build 80 #[(0, .int .i64 (-1)), (1, .int .i64 (-1)), (9, .int .i64 (-1))]).run Try.prog w = .ok (aggV (rk0.C (.slice none 0 0))) w := by kernel_rfl
theorem guard41 : Try.prog.eqGuardType Try.prog.depth 38 = false := by kernel_rfl
theorem guard73 : Try.prog.eqGuardType Try.prog.depth 106 = false := by kernel_rfl
theorem guard45 : Try.prog.eqGuardType Try.prog.depth 78 = false := by kernel_rfl
theorem guard37 : Try.prog.eqGuardType Try.prog.depth 34 = false := by kernel_rfl
theorem guard65 : Try.prog.eqGuardType Try.prog.depth 74 = false := by kernel_rfl
theorem part4 (W : World) (vs : Array Value) (o : Nat) (v : Value) (h : vs[o]? = some v) : (part 4 vs o).run Try.prog W = .ok v W := by simp [part, isAgg, run_underlying Try.underlying4, h]
theorem eq4 (W : World) (d : Nat) (x y : Bool) : (Op.equalIn (d + 1) 4 (.bool x) (.bool y)).run Try.prog W = .ok (decide (x = y)) W := by
  simp [Op.equalIn, Sem.run_bind, run_underlying Try.underlying4]
  cases x <;> cases y <;> rfl
theorem part39 (W : World) (vs : Array Value) (o : Nat) (v : Value) (h : vs[o]? = some v) : (part 36 vs o).run Try.prog W = .ok v W := by simp [part, isAgg, run_underlying Try.underlying36, h]
theorem eq39 (W : World) (d : Nat) (x y : Int) : (Op.equalIn (d + 1) 36 (.int .i64 x) (.int .i64 y)).run Try.prog W = .ok (decide (x = y)) W := by
  simp [Op.equalIn, Sem.run_bind, run_underlying Try.underlying36]
  rw [Bool.eq_iff_iff]; simp
theorem part63 (W : World) (vs : Array Value) (o : Nat) (v : Value) (h : vs[o]? = some v) : (part 72 vs o).run Try.prog W = .ok v W := by simp [part, isAgg, run_underlying Try.underlying72, h]
theorem eq63 (W : World) (d : Nat) (x y : Int) : (Op.equalIn (d + 1) 72 (.int .i64 x) (.int .i64 y)).run Try.prog W = .ok (decide (x = y)) W := by
  simp [Op.equalIn, Sem.run_bind, run_underlying Try.underlying72]
  rw [Bool.eq_iff_iff]; simp
theorem part31 (W : World) (vs : Array Value) (o : Nat) (v : Value) (h : vs[o]? = some v) : (part 29 vs o).run Try.prog W = .ok v W := by simp [part, isAgg, run_underlying Try.underlying29, h]
theorem eq31 (W : World) (d : Nat) (x y : Int) : (Op.equalIn (d + 1) 29 (.int .i64 x) (.int .i64 y)).run Try.prog W = .ok (decide (x = y)) W := by
  simp [Op.equalIn, Sem.run_bind, run_underlying Try.underlying29]
  rw [Bool.eq_iff_iff]; simp
theorem items_step (W : World) (d T n i o : Nat) (xs ys : Array Value) (is : List Nat) (a b : Value) (c e : Bool) (ho : i * n = o) (pa : (part T xs o).run Try.prog W = .ok a W) (pb : (part T ys o).run Try.prog W = .ok b W) (he : (Op.equalIn d T a b).run Try.prog W = .ok c W) (hf : (Op.eqItems d T n xs ys is).run Try.prog W = .ok e W) :
    (Op.eqItems d T n xs ys (i :: is)).run Try.prog W = .ok (c && e) W := by
  subst ho
  simp only [Op.eqItems, Sem.run_bind, pa, pb, he, Result.andThen_ok]
  cases c <;> simp [hf]
theorem fields41 : (Try.prog.fieldsOf 38).toList.map (fun f => (decide (f.name ≠ "_"), f.type, f.offset)) = [(true, 3, 0), (true, 36, 1)] := by kernel_rfl
theorem str41 : Try.prog.underlying 38 = some (.struct (Try.prog.fieldsOf 38)) := by kernel_rfl
theorem equal41 (W : World) (d : Nat) (m0 m1 q0 q1 : Int) : (Op.equalIn (d + 2) 38 (aggV ([.int .i64 m0, .int .i64 m1])) (aggV ([.int .i64 q0, .int .i64 q1]))).run Try.prog W = .ok (decide (m0 = q0 ∧ m1 = q1)) W := by
  have hh := run_equalIn_struct (P := Try.prog) W (d + 1) 38 ([.int .i64 m0, .int .i64 m1]).toArray ([.int .i64 q0, .int .i64 q1]).toArray str41 (by kernel_rfl)
  refine hh.trans ?_
  generalize hf : (Try.prog.fieldsOf 38).toList = fs
  have hm := fields41
  rw [hf] at hm
  match fs, hm with
  | [f0, f1], hm =>
    simp only [List.map_cons, List.map_nil, List.cons.injEq, Prod.mk.injEq, and_true, decide_eq_true_eq] at hm
    obtain ⟨⟨f01, f02, f03⟩, f11, f12, f13⟩ := hm
    have hh := fields_step W (d + 1) 3 0 _ _ f0 [f1] _ _ _ _ f01 f02 f03 (part3 W ([.int .i64 m0, .int .i64 m1]).toArray 0 (.int .i64 (m0)) rfl) (part3 W ([.int .i64 q0, .int .i64 q1]).toArray 0 (.int .i64 (q0)) rfl) (eq3 W d _ _)
      (fields_step W (d + 1) 36 1 _ _ f1 [] _ _ _ _ f11 f12 f13 (part39 W ([.int .i64 m0, .int .i64 m1]).toArray 1 (.int .i64 (m1)) rfl) (part39 W ([.int .i64 q0, .int .i64 q1]).toArray 1 (.int .i64 (q1)) rfl) (eq39 W d _ _)
      (fields_nil ..))
    rw [Bool.and_true] at hh
    rw [hh]
    congr 1
    rw [Bool.eq_iff_iff]
    simp
theorem fields65 : (Try.prog.fieldsOf 74).toList.map (fun f => (decide (f.name ≠ "_"), f.type, f.offset)) = [(true, 72, 0), (true, 3, 1), (true, 2, 2), (true, 29, 3), (true, 3, 4), (true, 2, 5)] := by kernel_rfl
theorem str65 : Try.prog.underlying 74 = some (.struct (Try.prog.fieldsOf 74)) := by kernel_rfl
theorem equal65 (W : World) (d : Nat) (m q : Od) : (Op.equalIn (d + 2) 74 (aggV (m.C)) (aggV (q.C))).run Try.prog W = .ok (decide (m = q)) W := by
  have hh := run_equalIn_struct (P := Try.prog) W (d + 1) 74 (m.C).toArray (q.C).toArray str65 (by kernel_rfl)
  refine hh.trans ?_
  generalize hf : (Try.prog.fieldsOf 74).toList = fs
  have hm := fields65
  rw [hf] at hm
  match fs, hm with
  | [f0, f1, f2, f3, f4, f5], hm =>
    simp only [List.map_cons, List.map_nil, List.cons.injEq, Prod.mk.injEq, and_true, decide_eq_true_eq] at hm
    obtain ⟨⟨f01, f02, f03⟩, ⟨f11, f12, f13⟩, ⟨f21, f22, f23⟩, ⟨f31, f32, f33⟩, ⟨f41, f42, f43⟩, f51, f52, f53⟩ := hm
    have hh := fields_step W (d + 1) 72 0 _ _ f0 [f1, f2, f3, f4, f5] _ _ _ _ f01 f02 f03 (part63 W (m.C).toArray 0 (.int .i64 (m.k)) rfl) (part63 W (q.C).toArray 0 (.int .i64 (q.k)) rfl) (eq63 W d _ _)
      (fields_step W (d + 1) 3 1 _ _ f1 [f2, f3, f4, f5] _ _ _ _ f11 f12 f13 (part3 W (m.C).toArray 1 (.int .i64 (m.t)) rfl) (part3 W (q.C).toArray 1 (.int .i64 (q.t)) rfl) (eq3 W d _ _)
      (fields_step W (d + 1) 2 2 _ _ f2 [f3, f4, f5] _ _ _ _ f21 f22 f23 (part2 W (m.C).toArray 2 (.int .i64 (m.o)) rfl) (part2 W (q.C).toArray 2 (.int .i64 (q.o)) rfl) (eq2 W d _ _)
      (fields_step W (d + 1) 29 3 _ _ f3 [f4, f5] _ _ _ _ f31 f32 f33 (part31 W (m.C).toArray 3 (.int .i64 (m.m)) rfl) (part31 W (q.C).toArray 3 (.int .i64 (q.m)) rfl) (eq31 W d _ _)
      (fields_step W (d + 1) 3 4 _ _ f4 [f5] _ _ _ _ f41 f42 f43 (part3 W (m.C).toArray 4 (.int .i64 (m.n)) rfl) (part3 W (q.C).toArray 4 (.int .i64 (q.n)) rfl) (eq3 W d _ _)
      (fields_step W (d + 1) 2 5 _ _ f5 [] _ _ _ _ f51 f52 f53 (part2 W (m.C).toArray 5 (.int .i64 (m.p)) rfl) (part2 W (q.C).toArray 5 (.int .i64 (q.p)) rfl) (eq2 W d _ _)
      (fields_nil ..))))))
    rw [Bool.and_true] at hh
    rw [hh]
    congr 1
    rw [Bool.eq_iff_iff]
    cases m; cases q; simp
theorem eqW41 (W : World) (m q : Wi) : (Op.equal 38 (aggV m.C) (aggV q.C)).run Try.prog W = .ok (decide (m = q)) W := by
  have := equal41 W 9998 m.n m.k q.n q.k
  refine this.trans ?_
  congr 1
  rw [Bool.eq_iff_iff]
  cases m; cases q; simp
  intro _; omega
theorem eqO65 (W : World) (m q : Od) : (Op.equal 74 (aggV m.C) (aggV q.C)).run Try.prog W = .ok (decide (m = q)) W := equal65 W 9998 m q
def like {α : Type} [DecidableEq α] (f g : Nat → α) : Bool := decide (∀ i ∈ List.range 8, f i = g i)
theorem like_iff {α : Type} [DecidableEq α] {f g : Nat → α} : like f g = true ↔ ∀ i, i < 8 → f i = g i := by simp [like]
theorem b8_at (f : Nat → Bool) (i : Nat) (h : i < 8) : (b8 f)[i]? = some (.bool (f i)) := by
  rcases (show i = 0 ∨ i = 1 ∨ i = 2 ∨ i = 3 ∨ i = 4 ∨ i = 5 ∨ i = 6 ∨ i = 7 by omega) with rfl | rfl | rfl | rfl | rfl | rfl | rfl | rfl <;> rfl
theorem b8_one (f : Nat → Bool) : ∀ v ∈ b8 f, v.oneCell' = true := by
  intro v hv
  simp only [b8, List.mem_cons, List.mem_nil_iff, or_false] at hv
  rcases hv with rfl | rfl | rfl | rfl | rfl | rfl | rfl | rfl <;> rfl
theorem cells4 : Try.prog.cellsOf 4 = 1 := by kernel_rfl
theorem items4 (W : World) (d : Nat) (f g : Nat → Bool) : ∀ is : List Nat, (∀ i ∈ is, i < 8) → (Op.eqItems (d + 1) 4 1 (b8 f).toArray (b8 g).toArray is).run Try.prog W = .ok (decide (∀ i ∈ is, f i = g i)) W := by
  intro is
  induction is with
  | nil => intro _; simp [Op.eqItems]
  | cons i is ih =>
    intro hi
    have hi0 := hi i (List.mem_cons_self ..)
    have := items_step W (d + 1) 4 1 i i _ _ is _ _ _ _ (by omega) (part4 W (b8 f).toArray i _ (by rw [List.getElem?_toArray]; exact b8_at f i hi0)) (part4 W (b8 g).toArray i _ (by rw [List.getElem?_toArray]; exact b8_at g i hi0)) (eq4 W d _ _) (ih (fun j hj => hi j (List.mem_cons_of_mem _ hj)))
    rw [this]
    congr 1
    rw [Bool.eq_iff_iff]
    simp
theorem equalA4 (W : World) (T d : Nat) (hu : Try.prog.underlying T = some (.array 8 4)) (f g : Nat → Bool) : (Op.equalIn (d + 2) T (aggV (b8 f)) (aggV (b8 g))).run Try.prog W = .ok (like f g) W := by
  have hi : ∃ i, Try.prog.info? 4 = some i := by
    cases hq : Try.prog.info? 4 with
    | none => have h3 : (Try.prog.info? 4).map (·.size) = some 1 := by kernel_rfl
              simp [hq] at h3
    | some i => exact ⟨i, rfl⟩
  obtain ⟨i0, hi⟩ := hi
  have h := run_equalIn_array (P := Try.prog) W (d + 1) (b8 f).toArray (b8 g).toArray hu hi
  rw [cells4, items4 W d f g (List.range 8) (by simp)] at h
  exact h
theorem i8_at (f : Nat → Int) (i : Nat) (h : i < 8) : (i8 f)[i]? = some (.int .i64 (f i)) := by
  rcases (show i = 0 ∨ i = 1 ∨ i = 2 ∨ i = 3 ∨ i = 4 ∨ i = 5 ∨ i = 6 ∨ i = 7 by omega) with rfl | rfl | rfl | rfl | rfl | rfl | rfl | rfl <;> rfl
theorem i8_one (f : Nat → Int) : ∀ v ∈ i8 f, v.oneCell' = true := by
  intro v hv
  simp only [i8, List.mem_cons, List.mem_nil_iff, or_false] at hv
  rcases hv with rfl | rfl | rfl | rfl | rfl | rfl | rfl | rfl <;> rfl
theorem cells2 : Try.prog.cellsOf 2 = 1 := by kernel_rfl
theorem items2 (W : World) (d : Nat) (f g : Nat → Int) : ∀ is : List Nat, (∀ i ∈ is, i < 8) → (Op.eqItems (d + 1) 2 1 (i8 f).toArray (i8 g).toArray is).run Try.prog W = .ok (decide (∀ i ∈ is, f i = g i)) W := by
  intro is
  induction is with
  | nil => intro _; simp [Op.eqItems]
  | cons i is ih =>
    intro hi
    have hi0 := hi i (List.mem_cons_self ..)
    have := items_step W (d + 1) 2 1 i i _ _ is _ _ _ _ (by omega) (part2 W (i8 f).toArray i _ (by rw [List.getElem?_toArray]; exact i8_at f i hi0)) (part2 W (i8 g).toArray i _ (by rw [List.getElem?_toArray]; exact i8_at g i hi0)) (eq2 W d _ _) (ih (fun j hj => hi j (List.mem_cons_of_mem _ hj)))
    rw [this]
    congr 1
    rw [Bool.eq_iff_iff]
    simp
theorem equalA2 (W : World) (T d : Nat) (hu : Try.prog.underlying T = some (.array 8 2)) (f g : Nat → Int) : (Op.equalIn (d + 2) T (aggV (i8 f)) (aggV (i8 g))).run Try.prog W = .ok (like f g) W := by
  have hi : ∃ i, Try.prog.info? 2 = some i := by
    cases hq : Try.prog.info? 2 with
    | none => have h3 : (Try.prog.info? 2).map (·.size) = some 1 := by kernel_rfl
              simp [hq] at h3
    | some i => exact ⟨i, rfl⟩
  obtain ⟨i0, hi⟩ := hi
  have h := run_equalIn_array (P := Try.prog) W (d + 1) (i8 f).toArray (i8 g).toArray hu hi
  rw [cells2, items2 W d f g (List.range 8) (by simp)] at h
  exact h
theorem eqA73 (W : World) (f g : Nat → Bool) : (Op.equal 106 (aggV (b8 f)) (aggV (b8 g))).run Try.prog W = .ok (like f g) W := equalA4 W 106 9998 (by kernel_rfl) f g
theorem eqA45 (W : World) (f g : Nat → Bool) : (Op.equal 78 (aggV (b8 f)) (aggV (b8 g))).run Try.prog W = .ok (like f g) W := equalA4 W 78 9998 (by kernel_rfl) f g
theorem eqA37 (W : World) (f g : Nat → Int) : (Op.equal 34 (aggV (i8 f)) (aggV (i8 g))).run Try.prog W = .ok (like f g) W := equalA2 W 34 9998 (by kernel_rfl) f g
theorem Lo.ho_at (s : Lo) (ln : Value) (n : Nat) (h : n < 8) : (s.C ln)[3 + n]? = some (.bool (s.ho n)) := by
  rcases (show n = 0 ∨ n = 1 ∨ n = 2 ∨ n = 3 ∨ n = 4 ∨ n = 5 ∨ n = 6 ∨ n = 7 by omega) with rfl | rfl | rfl | rfl | rfl | rfl | rfl | rfl <;> rfl
theorem Lo.ho_set (s : Lo) (ln : Value) (n : Nat) (h : n < 8) (v : Bool) : (s.C ln).set (3 + n) (.bool v) = ({ s with ho := upd s.ho n v } : Lo).C ln := by
  rcases (show n = 0 ∨ n = 1 ∨ n = 2 ∨ n = 3 ∨ n = 4 ∨ n = 5 ∨ n = 6 ∨ n = 7 by omega) with rfl | rfl | rfl | rfl | rfl | rfl | rfl | rfl <;> rfl
theorem Blk.ho {w : World} {b T n : Nat} {s : Lo} {ln : Value} (h : Blk w b T (s.C ln)) (hn : n < 8) : w.cell? ⟨b, 3 + n, none⟩ = some (.bool (s.ho n)) := fits_cell h _ _ (s.ho_at ln n hn)
theorem Blk.hoA {w : World} {b T : Nat} {s : Lo} {ln : Value} (h : Blk w b T (s.C ln)) : w.rangeAt b 3 (b8 s.ho) := h.rangeIn _ (fun j hj => by
  have hj8 : j < 8 := hj
  rw [s.ho_at ln j hj8, b8_at s.ho j hj8])
theorem Blk.hoP {w : World} {b T : Nat} {s : Lo} {ln : Value} (h : Blk w b T (s.C ln)) (f : Nat → Bool) : Blk (w.setCells b 3 (b8 f)) b T (({ s with ho := f } : Lo).C ln) :=
  Blk.part (pre := (s.C ln).take 3) (mid := b8 s.ho) (post := (s.C ln).drop 11) h rfl rfl
theorem Lo.ops_at (s : Lo) (ln : Value) (n : Nat) (h : n < 8) : (s.C ln)[11 + n]? = some (.int .i64 (s.ops n)) := by
  rcases (show n = 0 ∨ n = 1 ∨ n = 2 ∨ n = 3 ∨ n = 4 ∨ n = 5 ∨ n = 6 ∨ n = 7 by omega) with rfl | rfl | rfl | rfl | rfl | rfl | rfl | rfl <;> rfl
theorem Lo.ops_set (s : Lo) (ln : Value) (n : Nat) (h : n < 8) (v : Int) : (s.C ln).set (11 + n) (.int .i64 v) = ({ s with ops := upd s.ops n v } : Lo).C ln := by
  rcases (show n = 0 ∨ n = 1 ∨ n = 2 ∨ n = 3 ∨ n = 4 ∨ n = 5 ∨ n = 6 ∨ n = 7 by omega) with rfl | rfl | rfl | rfl | rfl | rfl | rfl | rfl <;> rfl
theorem Blk.ops {w : World} {b T n : Nat} {s : Lo} {ln : Value} (h : Blk w b T (s.C ln)) (hn : n < 8) : w.cell? ⟨b, 11 + n, none⟩ = some (.int .i64 (s.ops n)) := fits_cell h _ _ (s.ops_at ln n hn)
theorem Blk.opsA {w : World} {b T : Nat} {s : Lo} {ln : Value} (h : Blk w b T (s.C ln)) : w.rangeAt b 11 (i8 s.ops) := h.rangeIn _ (fun j hj => by
  have hj8 : j < 8 := hj
  rw [s.ops_at ln j hj8, i8_at s.ops j hj8])
theorem Blk.opsP {w : World} {b T : Nat} {s : Lo} {ln : Value} (h : Blk w b T (s.C ln)) (f : Nat → Int) : Blk (w.setCells b 11 (i8 f)) b T (({ s with ops := f } : Lo).C ln) :=
  Blk.part (pre := (s.C ln).take 11) (mid := i8 s.ops) (post := (s.C ln).drop 19) h rfl rfl
theorem Lo.pa_at (s : Lo) (ln : Value) (n : Nat) (h : n < 8) : (s.C ln)[19 + n]? = some (.bool (s.pa n)) := by
  rcases (show n = 0 ∨ n = 1 ∨ n = 2 ∨ n = 3 ∨ n = 4 ∨ n = 5 ∨ n = 6 ∨ n = 7 by omega) with rfl | rfl | rfl | rfl | rfl | rfl | rfl | rfl <;> rfl
theorem Lo.pa_set (s : Lo) (ln : Value) (n : Nat) (h : n < 8) (v : Bool) : (s.C ln).set (19 + n) (.bool v) = ({ s with pa := upd s.pa n v } : Lo).C ln := by
  rcases (show n = 0 ∨ n = 1 ∨ n = 2 ∨ n = 3 ∨ n = 4 ∨ n = 5 ∨ n = 6 ∨ n = 7 by omega) with rfl | rfl | rfl | rfl | rfl | rfl | rfl | rfl <;> rfl
theorem Blk.paA {w : World} {b T : Nat} {s : Lo} {ln : Value} (h : Blk w b T (s.C ln)) : w.rangeAt b 19 (b8 s.pa) := h.rangeIn _ (fun j hj => by
  have hj8 : j < 8 := hj
  rw [s.pa_at ln j hj8, b8_at s.pa j hj8])
theorem Blk.paP {w : World} {b T : Nat} {s : Lo} {ln : Value} (h : Blk w b T (s.C ln)) (f : Nat → Bool) : Blk (w.setCells b 19 (b8 f)) b T (({ s with pa := f } : Lo).C ln) :=
  Blk.part (pre := (s.C ln).take 19) (mid := b8 s.pa) (post := (s.C ln).drop 27) h rfl rfl
theorem Lo.wa_at (s : Lo) (ln : Value) (n : Nat) (h : n < 8) : (s.C ln)[32 + n]? = some (.bool (s.wa n)) := by
  rcases (show n = 0 ∨ n = 1 ∨ n = 2 ∨ n = 3 ∨ n = 4 ∨ n = 5 ∨ n = 6 ∨ n = 7 by omega) with rfl | rfl | rfl | rfl | rfl | rfl | rfl | rfl <;> rfl
theorem Lo.wa_set (s : Lo) (ln : Value) (n : Nat) (h : n < 8) (v : Bool) : (s.C ln).set (32 + n) (.bool v) = ({ s with wa := upd s.wa n v } : Lo).C ln := by
  rcases (show n = 0 ∨ n = 1 ∨ n = 2 ∨ n = 3 ∨ n = 4 ∨ n = 5 ∨ n = 6 ∨ n = 7 by omega) with rfl | rfl | rfl | rfl | rfl | rfl | rfl | rfl <;> rfl
theorem Blk.wa {w : World} {b T n : Nat} {s : Lo} {ln : Value} (h : Blk w b T (s.C ln)) (hn : n < 8) : w.cell? ⟨b, 32 + n, none⟩ = some (.bool (s.wa n)) := fits_cell h _ _ (s.wa_at ln n hn)
theorem Blk.waA {w : World} {b T : Nat} {s : Lo} {ln : Value} (h : Blk w b T (s.C ln)) : w.rangeAt b 32 (b8 s.wa) := h.rangeIn _ (fun j hj => by
  have hj8 : j < 8 := hj
  rw [s.wa_at ln j hj8, b8_at s.wa j hj8])
theorem Blk.waP {w : World} {b T : Nat} {s : Lo} {ln : Value} (h : Blk w b T (s.C ln)) (f : Nat → Bool) : Blk (w.setCells b 32 (b8 f)) b T (({ s with wa := f } : Lo).C ln) :=
  Blk.part (pre := (s.C ln).take 32) (mid := b8 s.wa) (post := (s.C ln).drop 40) h rfl rfl
theorem Rk.sh_at (s : Rk) (ln : Value) (n : Nat) (h : n < 8) : (s.C ln)[2 + n]? = some (.bool (s.sh n)) := by
  rcases (show n = 0 ∨ n = 1 ∨ n = 2 ∨ n = 3 ∨ n = 4 ∨ n = 5 ∨ n = 6 ∨ n = 7 by omega) with rfl | rfl | rfl | rfl | rfl | rfl | rfl | rfl <;> rfl
theorem Rk.sh_set (s : Rk) (ln : Value) (n : Nat) (h : n < 8) (v : Bool) : (s.C ln).set (2 + n) (.bool v) = ({ s with sh := upd s.sh n v } : Rk).C ln := by
  rcases (show n = 0 ∨ n = 1 ∨ n = 2 ∨ n = 3 ∨ n = 4 ∨ n = 5 ∨ n = 6 ∨ n = 7 by omega) with rfl | rfl | rfl | rfl | rfl | rfl | rfl | rfl <;> rfl
theorem Blk.rsh {w : World} {b T n : Nat} {s : Rk} {ln : Value} (h : Blk w b T (s.C ln)) (hn : n < 8) : w.cell? ⟨b, 2 + n, none⟩ = some (.bool (s.sh n)) := fits_cell h _ _ (s.sh_at ln n hn)
theorem Blk.rshP {w : World} {b T : Nat} {s : Rk} {ln : Value} (h : Blk w b T (s.C ln)) (f : Nat → Bool) : Blk (w.setCells b 2 (b8 f)) b T (({ s with sh := f } : Rk).C ln) :=
  Blk.part (pre := (s.C ln).take 2) (mid := b8 s.sh) (post := (s.C ln).drop 10) h rfl rfl
theorem Rk.pa_at (s : Rk) (ln : Value) (n : Nat) (h : n < 8) : (s.C ln)[10 + n]? = some (.bool (s.pa n)) := by
  rcases (show n = 0 ∨ n = 1 ∨ n = 2 ∨ n = 3 ∨ n = 4 ∨ n = 5 ∨ n = 6 ∨ n = 7 by omega) with rfl | rfl | rfl | rfl | rfl | rfl | rfl | rfl <;> rfl
theorem Rk.pa_set (s : Rk) (ln : Value) (n : Nat) (h : n < 8) (v : Bool) : (s.C ln).set (10 + n) (.bool v) = ({ s with pa := upd s.pa n v } : Rk).C ln := by
  rcases (show n = 0 ∨ n = 1 ∨ n = 2 ∨ n = 3 ∨ n = 4 ∨ n = 5 ∨ n = 6 ∨ n = 7 by omega) with rfl | rfl | rfl | rfl | rfl | rfl | rfl | rfl <;> rfl
theorem Blk.rpa {w : World} {b T n : Nat} {s : Rk} {ln : Value} (h : Blk w b T (s.C ln)) (hn : n < 8) : w.cell? ⟨b, 10 + n, none⟩ = some (.bool (s.pa n)) := fits_cell h _ _ (s.pa_at ln n hn)
theorem Blk.rpaP {w : World} {b T : Nat} {s : Rk} {ln : Value} (h : Blk w b T (s.C ln)) (f : Nat → Bool) : Blk (w.setCells b 10 (b8 f)) b T (({ s with pa := f } : Rk).C ln) :=
  Blk.part (pre := (s.C ln).take 10) (mid := b8 s.pa) (post := (s.C ln).drop 18) h rfl rfl
theorem Rk.ops_at (s : Rk) (ln : Value) (n : Nat) (h : n < 8) : (s.C ln)[18 + n]? = some (.int .i64 (s.ops n)) := by
  rcases (show n = 0 ∨ n = 1 ∨ n = 2 ∨ n = 3 ∨ n = 4 ∨ n = 5 ∨ n = 6 ∨ n = 7 by omega) with rfl | rfl | rfl | rfl | rfl | rfl | rfl | rfl <;> rfl
theorem Rk.ops_set (s : Rk) (ln : Value) (n : Nat) (h : n < 8) (v : Int) : (s.C ln).set (18 + n) (.int .i64 v) = ({ s with ops := upd s.ops n v } : Rk).C ln := by
  rcases (show n = 0 ∨ n = 1 ∨ n = 2 ∨ n = 3 ∨ n = 4 ∨ n = 5 ∨ n = 6 ∨ n = 7 by omega) with rfl | rfl | rfl | rfl | rfl | rfl | rfl | rfl <;> rfl
theorem Blk.rops {w : World} {b T n : Nat} {s : Rk} {ln : Value} (h : Blk w b T (s.C ln)) (hn : n < 8) : w.cell? ⟨b, 18 + n, none⟩ = some (.int .i64 (s.ops n)) := fits_cell h _ _ (s.ops_at ln n hn)
theorem Rk.gn_at (s : Rk) (ln : Value) (n : Nat) (h : n < 8) : (s.C ln)[30 + n]? = some (.bool (s.gn n)) := by
  rcases (show n = 0 ∨ n = 1 ∨ n = 2 ∨ n = 3 ∨ n = 4 ∨ n = 5 ∨ n = 6 ∨ n = 7 by omega) with rfl | rfl | rfl | rfl | rfl | rfl | rfl | rfl <;> rfl
theorem Rk.gn_set (s : Rk) (ln : Value) (n : Nat) (h : n < 8) (v : Bool) : (s.C ln).set (30 + n) (.bool v) = ({ s with gn := upd s.gn n v } : Rk).C ln := by
  rcases (show n = 0 ∨ n = 1 ∨ n = 2 ∨ n = 3 ∨ n = 4 ∨ n = 5 ∨ n = 6 ∨ n = 7 by omega) with rfl | rfl | rfl | rfl | rfl | rfl | rfl | rfl <;> rfl
theorem Blk.rgn {w : World} {b T n : Nat} {s : Rk} {ln : Value} (h : Blk w b T (s.C ln)) (hn : n < 8) : w.cell? ⟨b, 30 + n, none⟩ = some (.bool (s.gn n)) := fits_cell h _ _ (s.gn_at ln n hn)
theorem Blk.rgnA {w : World} {b T : Nat} {s : Rk} {ln : Value} (h : Blk w b T (s.C ln)) : w.rangeAt b 30 (b8 s.gn) := h.rangeIn _ (fun j hj => by
  have hj8 : j < 8 := hj
  rw [s.gn_at ln j hj8, b8_at s.gn j hj8])
theorem Blk.rgnP {w : World} {b T : Nat} {s : Rk} {ln : Value} (h : Blk w b T (s.C ln)) (f : Nat → Bool) : Blk (w.setCells b 30 (b8 f)) b T (({ s with gn := f } : Rk).C ln) :=
  Blk.part (pre := (s.C ln).take 30) (mid := b8 s.gn) (post := (s.C ln).drop 38) h rfl rfl
theorem Blk.hand {w : World} {b T : Nat} {s : Lo} {ln : Value} (h : Blk w b T (s.C ln)) : w.rangeAt b 28 s.wi.C := h.rangeIn _ (fun j hj => by
  have hj2 : j < 2 := hj
  rcases (show j = 0 ∨ j = 1 by omega) with rfl | rfl <;> rfl)
theorem Blk.handP {w : World} {b T : Nat} {s : Lo} {ln : Value} (h : Blk w b T (s.C ln)) (x : Wi) : Blk (w.setCells b 28 x.C) b T (({ s with hn := x.n, hk := x.k } : Lo).C ln) :=
  Blk.part (pre := (s.C ln).take 28) (mid := s.wi.C) (post := (s.C ln).drop 30) h rfl rfl
theorem Blk.rhand {w : World} {b T : Nat} {s : Rk} {ln : Value} (h : Blk w b T (s.C ln)) : w.rangeAt b 27 s.wi.C := h.rangeIn _ (fun j hj => by
  have hj2 : j < 2 := hj
  rcases (show j = 0 ∨ j = 1 by omega) with rfl | rfl <;> rfl)
theorem Blk.rhandP {w : World} {b T : Nat} {s : Rk} {ln : Value} (h : Blk w b T (s.C ln)) (x : Wi) : Blk (w.setCells b 27 x.C) b T (({ s with hn := x.n, hk := x.k } : Rk).C ln) :=
  Blk.part (pre := (s.C ln).take 27) (mid := s.wi.C) (post := (s.C ln).drop 29) h rfl rfl
theorem Wi.one (x : Wi) : ∀ v ∈ x.C, v.oneCell' = true := by
  intro v hv
  simp only [Wi.C, List.mem_cons, List.mem_nil_iff, or_false] at hv
  rcases hv with rfl | rfl <;> rfl
theorem Od.one (x : Od) : ∀ v ∈ x.C, v.oneCell' = true := by
  intro v hv
  simp only [Od.C, List.mem_cons, List.mem_nil_iff, or_false] at hv
  rcases hv with rfl | rfl | rfl | rfl | rfl | rfl <;> rfl
structure Mm (X : List Nat) (w0 w : World) (bs : List (Nat × Nat × List Value)) : Prop where
  kept : Kept X w0 w
  blk : ∀ x ∈ bs, Blk w x.1 x.2.1 x.2.2
  own : ∀ x ∈ bs, x.1 < w0.heap.size → x.1 ∈ X
  nd : (bs.map (·.1)).Nodup
theorem Mm.init {X : List Nat} {w : World} : Mm X w w [] := ⟨Kept.refl _ _, (fun x hx => by cases hx), (fun x hx => by cases hx), List.nodup_nil⟩
theorem Mm.one {w : World} {b T : Nat} {vs : List Value} (h : Blk w b T vs) : Mm [b] w w [(b, T, vs)] := ⟨Kept.refl _ _, (fun x hx => by simp at hx; subst hx; exact h), (fun x hx _ => by simp at hx; subst hx; simp), by simp⟩
variable {X : List Nat}
theorem Mm.step {w0 w w' : World} {bs : List (Nat × Nat × List Value)} (h : Mm X w0 w bs) (hk : Kept [] w w') : Mm X w0 w' bs :=
  ⟨h.kept.trans (hk.mono (by simp)), fun x hx => (h.blk x hx).kept hk (by simp), h.own, h.nd⟩
theorem Mm.drew {w0 W : World} {bs : List (Nat × Nat × List Value)} (h : Mm X w0 W bs) : Mm X w0 W.drew bs := ⟨h.kept.drew, fun x hx => (h.blk x hx).drew, h.own, h.nd⟩
theorem Mm.new {w0 w W : World} {bs : List (Nat × Nat × List Value)} {b T : Nat} {vs : List Value} (h : Mm X w0 w bs) (hb : b = w.heap.size) (B : Blk W b T vs) (K : Kept [] w W) : Mm X w0 W (bs ++ [(b, T, vs)]) := by
  have h' := h.step K
  have hs := h.kept.size
  refine ⟨h'.kept, ?_, ?_, ?_⟩
  · intro x hx
    rcases List.mem_append.1 hx with hx | hx
    · exact h'.blk x hx
    · simp at hx; subst hx
      exact B
  · intro x hx hl
    rcases List.mem_append.1 hx with hx | hx
    · exact h.own x hx hl
    · simp at hx; subst hx
      simp at hl; omega
  · rw [List.map_append, List.nodup_append]
    refine ⟨h.nd, by simp, ?_⟩
    intro a ha c hc
    simp at hc; subst hc
    obtain ⟨x, hx, rfl⟩ := List.mem_map.1 ha
    have := (h.blk x hx).lt
    omega
theorem Mm.at {w0 w : World} {bs : List (Nat × Nat × List Value)} (h : Mm X w0 w bs) (i : Nat) (x : Nat × Nat × List Value) (hx : bs[i]? = some x) : Blk w x.1 x.2.1 x.2.2 := h.blk x (List.mem_of_getElem? hx)
theorem Mm.mut {w0 w w' : World} {bs : List (Nat × Nat × List Value)} (h : Mm X w0 w bs) (i : Nat) {b T : Nat} {us vs : List Value} (hi : bs[i]? = some (b, T, us)) (hk : Kept [b] w w') (hB : Blk w' b T vs) : Mm X w0 w' (bs.set i (b, T, vs)) := by
  have h0 := h.own _ (List.mem_of_getElem? hi)
  refine ⟨h.kept.fresh hk (fun k hk' hl => by simp at hk'; subst hk'; exact h0 hl), ?_, ?_, ?_⟩
  · intro x hx
    obtain ⟨j, hj, rfl⟩ := List.getElem_of_mem hx
    rw [List.length_set] at hj
    by_cases hij : i = j
    · subst hij
      rw [List.getElem_set_self]
      exact hB
    · rw [List.getElem_set_ne hij]
      have hm := h.blk bs[j] (List.getElem_mem hj)
      refine hm.kept hk ?_
      simp only [List.mem_singleton]
      intro e
      have h1 := (List.getElem?_eq_some_iff.1 hi)
      obtain ⟨hi', hi''⟩ := h1
      have := List.pairwise_iff_getElem.1 h.nd
      rcases Nat.lt_or_gt_of_ne hij with hlt | hlt
      · have := this i j (by simpa using hi') (by simpa using hj) hlt
        simp [hi''] at this
        exact this e.symm
      · have := this j i (by simpa using hj) (by simpa using hi') hlt
        simp [hi''] at this
        exact this e
  · intro x hx hl
    obtain ⟨j, hj, rfl⟩ := List.getElem_of_mem hx
    rw [List.length_set] at hj
    by_cases hij : i = j
    · subst hij
      rw [List.getElem_set_self] at hl ⊢
      exact h0 hl
    · rw [List.getElem_set_ne hij] at hl ⊢
      exact h.own bs[j] (List.getElem_mem hj) hl
  · have : (bs.set i (b, T, vs)).map (·.1) = bs.map (·.1) := by
      rw [List.map_set]
      apply List.ext_getElem?
      intro j
      by_cases hij : i = j
      · subst hij
        have h1 := (List.getElem?_eq_some_iff.1 hi)
        obtain ⟨hi', hi''⟩ := h1
        simp [hi', hi'']
      · rw [List.getElem?_set_ne hij]
    rw [this]; exact h.nd
theorem Mm.sets {w0 w : World} {bs : List (Nat × Nat × List Value)} (h : Mm X w0 w bs) (i : Nat) {b T : Nat} {us : List Value} (hi : bs[i]? = some (b, T, us)) (vs : List Value) (hl : us.length = vs.length) : Mm X w0 (w.setCells b 0 vs) (bs.set i (b, T, vs)) :=
  h.mut i hi ((Kept.refl _ _).setCells _ _ (by simp)) ((h.at i _ hi).put hl)
section
variable {ops : Array Oper} {rest : List Oper} {op : Oper} {a : Act} {w w0 : World} {Q : Exit → Act → World → Prop} {bs : List (Nat × Nat × List Value)}
theorem wpStoreM {T n : Nat} (hT : Row T n) (hgd : op.guard = none) (x y : Operand) (ho : op.op = .store T x y) (hd : op.dst = none) (b i : Nat) (vs : List Value) (hx : a.eval x = P0 b) (hy : a.eval y = aggV vs) (hl : vs.length = n) (h1 : ∀ v ∈ vs, v.oneCell' = true) (hM : Mm X w0 w bs) {us : List Value} (hi : bs[i]? = some (b, T, us)) (hu : us.length = n)
    (h : ∀ W, Mm X w0 W (bs.set i (b, T, vs)) → wpList Try.prog ops Q rest a W) : wpList Try.prog ops Q (op :: rest) a w := by
  refine wpStoreA hT hgd x y ho b 0 vs hx hy hl h1 ((hM.at i _ hi).there (by simp [hu])) ?_
  rw [hd]
  exact h _ (hM.sets i hi vs (by omega))
theorem size2 : (Try.prog.info? 2).map (·.size) = some 1 := by kernel_rfl
theorem size3 : (Try.prog.info? 3).map (·.size) = some 1 := by kernel_rfl
theorem size4 : (Try.prog.info? 4).map (·.size) = some 1 := by kernel_rfl
theorem size38 : (Try.prog.info? 35).map (·.size) = some 1 := by kernel_rfl
theorem storeVar1 {T : Nat} (hi : (Try.prog.info? T).map (·.size) = some 1) {w : World} {b off TT : Nat} {us : List Value} (hB : Blk w b TT us) (hl : off < us.length) (v : Value) (h1 : v.oneCell' = true) (hc1 : v.cells = #[v]) : (storeVar T ⟨b, off, none⟩ v).run Try.prog w = .ok () (w.setCell ⟨b, off, none⟩ v) := by
  have hc := hB.cell off
  rw [List.getElem?_eq_getElem hl] at hc
  have hf := hB.frozen off
  have g1 : ∀ j, j < [v].length → (w.cell? ⟨b, off + 0 + j, none⟩).isSome = true := by
    intro j hj
    have e : j = 0 := by simpa using hj
    subst e
    simp [hc]
  have g2 : ∀ j, j < [v].length → w.frozen? ⟨b, off + 0 + j, none⟩ = false := by
    intro j hj
    have e : j = 0 := by simpa using hj
    subst e
    simpa using hf
  have := run_storeCells_cells (P := Try.prog) b off [v] 0 w g1 g2 (fun u hu => by simp at hu; subst hu; exact h1)
  cases hq : Try.prog.info? T with
  | none => simp [hq] at hi
  | some i =>
    have hs : i.size = 1 := by simpa [hq] using hi
    simp [storeVar, hc1, sizeOf, typeInfo, hq, hs]
    simpa [World.setCells] using this
def One (v : Value) : Prop := v.oneCell' = true ∧ v.cells = #[v]
end
end Go.Proofs.Ytbigongmlpoahaa
