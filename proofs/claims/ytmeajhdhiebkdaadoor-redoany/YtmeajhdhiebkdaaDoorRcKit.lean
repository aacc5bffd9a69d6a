/-
  Laws for single operations, and for regions that draw their order.
-/
import Derived.Test.YtmeajhdhiebkdaaDoorRcRead
import Derived.Test.YtmeajhdhiebkdaaDoorRcPref
import Derived.BigFrame
namespace Go.Proofs.YtmeajhdhiebkdaaDoor.Rc
set_option maxRecDepth 100000
open Go.RowKit

section
variable {o : Oper} {a : Act} {w : World} {K : Act → World → Prop} {Q : Exit → Act → World → Prop}
theorem wp_loadA {T n : Nat} (hT : Row T n) (x : Operand) (ho : o.op = .load T x) (b off : Nat) (hx : a.eval x = .pointer (some ⟨b, off, none⟩)) (vs : List Value) (hl : vs.length = n) (hA : w.rangeAt b off vs)
    (h : K (a.put o.dst (aggV vs)) w) : o.wp Tryd.prog a w K Q := by
  obtain ⟨d, h1, h2, h3⟩ := hT
  exact wp_load_mid (P := Tryd.prog) T x ho b off hx vs d hA h1 h2 (by rw [hl]; exact h3) h
theorem wp_storeA {T n : Nat} (hT : Row T n) (x y : Operand) (ho : o.op = .store T x y) (b off : Nat) (vs : List Value) (hx : a.eval x = .pointer (some ⟨b, off, none⟩)) (hy : a.eval y = aggV vs) (hl : vs.length = n) (h1 : ∀ v ∈ vs, v.oneCell' = true) (hA : w.there b off n)
    (h : K (a.put o.dst undef) (w.setCells b off vs)) : o.wp Tryd.prog a w K Q := by
  obtain ⟨d, g1, g2, g3⟩ := hT
  exact wp_store_mid (P := Tryd.prog) T x y ho b off vs.toArray hx hy (by simpa [hl] using hA) (by simpa [hl] using g3) (all_oneCell_toArray h1) h
theorem wp_storeN {T n : Nat} (hT : Row T n) (x y : Operand) (ho : o.op = .store T x y) (hd : o.dst = none) (b off : Nat) (vs : List Value) (hx : a.eval x = .pointer (some ⟨b, off, none⟩)) (hy : a.eval y = aggV vs) (hl : vs.length = n) (h1 : ∀ v ∈ vs, v.oneCell' = true) (hA : w.there b off n)
    (h : K a (w.setCells b off vs)) : o.wp Tryd.prog a w K Q := by
  refine wp_storeA hT x y ho b off vs hx hy hl h1 hA ?_
  rw [hd]
  exact h
theorem wp_allocA {T : Nat} (vs : List Value) (hr : ∀ w : World, (Instr.alloc T true (.tuple #[])).run Tryd.prog w = .ok (P0 w.heap.size) (w.alloc (.cells vs.toArray T))) (ho : o.op = .alloc T)
    (h : K (a.put o.dst (P0 w.heap.size)) (w.alloc (.cells vs.toArray T))) : o.wp Tryd.prog a w K Q := by
  unfold Oper.wp execOp
  simp only [ho, Sem.run_bind, hr, Result.andThen_ok]
  exact h
/-- One operation: a function is called. -/
theorem wp_callF {P : Program} (f : FuncId) (args : Array Operand) (ts : Array TypeId) (ho : o.op = .call { callee := .value (.func f), args := args, argTypes := ts })
    (vs : Array Value) (hv : args.map a.eval = vs) (hcf : (callFunc f vs).run P w = .ok (.enter f vs) w) (h : Calls P f vs w fun e w' => ∃ v, e = .returned v ∧ K (a.put o.dst v) w') : o.wp P a w K Q := by
  subst hv
  unfold Oper.wp execOp
  simp only [ho]
  simp [resolve, invoke, go_sem, hcf]
  refine h.mono ?_
  rintro e w' ⟨v, rfl, hk⟩
  exact hk
end
theorem wpBuildP {ops : Array Oper} {rest : List Oper} {op : Oper} {a : Act} {w : World} {Q : Exit → Act → World → Prop} {T : Nat} (hgd : op.guard = none) (parts : Array (Nat × Operand)) (ho : op.op = .build T parts) (ps : Array (Nat × Value)) (hp : (parts.map fun (i, x) => (i, a.eval x)) = ps) (vs : List Value)
    (hr : (Instr.build T ps).run Tryd.prog w = .ok (aggV vs) w) (h : wpList Tryd.prog ops Q rest (a.put op.dst (aggV vs)) w) : wpList Tryd.prog ops Q (op :: rest) a w :=
  wpList_plain hgd fun K hK => by
    subst hp
    unfold Oper.wp execOp
    simp only [ho, Sem.run_bind, hr, Result.andThen_ok]
    exact hK _ _ h
theorem wpOp_of {P : Program} {ops : Array Oper} {o : Oper} {a : Act} {w : World} {K : Act → World → Prop} {Q : Exit → Act → World → Prop} {i : Nat} (ho : ops[i]? = some o) (hg : o.guard = none) (h : o.wp P a w K Q) : wpOp P ops Q i K a w := by
  unfold wpOp
  rw [ho]
  have hw : Region.wanted o (yielded ops a.tmps) = true := by simp [Region.wanted, hg]
  simp only [hw, if_true]
  exact .inl h

/-- A copy as one step of a region that draws its order. -/
theorem step_copyK {ops : Array Oper} {o : Oper} {a : Act} {w : World} {K : Act → World → Prop} {Q : Exit → Act → World → Prop} {E : Prop} (hgd : o.guard = none) (d s : Operand)
    (ho : o.op = .call { callee := .builtin .copy, args := #[d, s], argTypes := #[54, 54] }) (ad : Addr) (dLen dCap sLen sCap : Nat) (g off : Nat) (hd : a.eval d = .slice (some ⟨g, off, none⟩) dLen dCap) (hs : a.eval s = .slice (some ad) sLen sCap)
    (cur : List Value) (t : TypeId) (hg : Blk w g t cur) (cs : List Value) (hn : cs.length = Nat.min sLen dLen) (hsrc : ∀ j v, cs[j]? = some v → w.cell? (ad.add j) = some v)
    (hfit : off + cs.length ≤ cur.length) (h1 : ∀ v ∈ cs, v.oneCell' = true)
    (h : ∀ w', Hid (Blk w' g t (splice cur off cs)) → Hid (Kept [g] w w') → K (a.put o.dst (goInt cs.length)) w') :
    if Region.wanted o (yielded ops a.tmps) = true then Oper.wp Tryd.prog o a w K Q else E := by
  have hw : Region.wanted o (yielded ops a.tmps) = true := by simp [Region.wanted, hgd]
  rw [if_pos hw]
  have hrun := run_copy_row (P := Tryd.prog) w 54 54 o.type 5 g off dLen dCap ad sLen sCap cur.toArray t cs Tryd.underlying54 Tryd.size5 hg hn hsrc (by simpa using hfit) h1
  unfold Oper.wp
  simp [execOp, ho, resolve, invoke, builtin, hd, hs, hrun, Result.andThen]
  refine h _ (show _ = _ by simpa [splice] using setRow_heap w g _ _ t _ hg) ⟨rfl, rfl, rfl, by simp [World.setRow], fun k _ hx => setRow_other w g k _ (by simpa using hx)⟩

theorem mixed : Tryd.prog.follows .mixedOrders = true := by kernel_rfl

/-- What is known of a value: it is this one, or a new block that has these cells. -/
inductive Fact
  | is (v : Value)
  | new (T : Nat) (vs : List Value) (B : Nat)
def Fact.at (v : Value) (w : World) : Fact → Prop
  | .is u => v = u
  | .new T vs B => ∃ q, v = P0 q ∧ B ≤ q ∧ Blk w q T vs
def tab (fs : List Fact) (j : Nat) (v : Value) (w : World) : Prop := match fs[j]? with
  | some f => f.at v w
  | none => True
theorem tab_kept (fs : List Fact) : ∀ j v w w', tab fs j v w → Kept [] w w' → tab fs j v w' := by
  intro j v w w' h hk
  unfold tab at *
  cases hf : fs[j]? with
  | none => trivial
  | some f =>
    rw [hf] at h
    cases f with
    | is u => exact h
    | new T vs B =>
      obtain ⟨q, h1, h2, h3⟩ := h
      exact ⟨q, h1, h2, h3.kept hk (by simp)⟩

/-- Values of these operations are apart. -/
def apartE (L : List Nat) (i j : Nat) (u v : Value) : Prop := i ∈ L → j ∈ L → u ≠ v
theorem apart_no {L : List Nat} {j : Nat} (h : j ∉ L) (i : Nat) (u v : Value) : apartE L i j u v := fun _ hj => absurd hj h
theorem apart_new {L : List Nat} {fs : List Fact} {w : World} (hL : ∀ i ∈ L, ∃ T vs B, fs[i]? = some (.new T vs B)) (i j : Nat) (u : Value) (h : tab fs i u w) : apartE L i j u (P0 w.heap.size) := by
  intro hi _ e
  obtain ⟨T, vs, B, hf⟩ := hL i hi
  unfold tab at h
  rw [hf] at h
  obtain ⟨q, rfl, _, hb⟩ := h
  have := hb.lt
  cases e
  omega
theorem vs6 {vs : List Value} (h : vs.length = 6) : ∃ a b c d e f, vs = [a, b, c, d, e, f] := by
  match vs, h with
  | [a, b, c, d, e, f], _ => exact ⟨a, b, c, d, e, f, rfl⟩

theorem zs2 : zs 128 = zs 64 ++ zs 64 := by simp [zs]
theorem zl (n : Nat) : (u8s (zs n)).length = n := by simp [u8s_len, zs]
theorem fold_sets (off : Nat) : ∀ (vs pre mid post : List Value) (k : Nat), mid.length = vs.length → pre.length = off + k →
    (vs.zipIdx k).foldl (fun (cs : Array Value) (x : Value × Nat) => cs.setIfInBounds (off + x.2) x.1) (pre ++ mid ++ post).toArray = (pre ++ vs ++ post).toArray := by
  intro vs
  induction vs with
  | nil =>
    intro pre mid post k hm _
    obtain rfl : mid = [] := List.eq_nil_of_length_eq_zero hm
    rfl
  | cons v vs ih =>
    intro pre mid post k hm hp
    cases mid with
    | nil => simp at hm
    | cons m mid =>
      rw [List.zipIdx_cons, List.foldl_cons]
      have h1 : ((pre ++ m :: mid ++ post).toArray).setIfInBounds (off + k) v = ((pre ++ [v]) ++ mid ++ post).toArray := by
        rw [← hp]; simp [List.setIfInBounds_toArray]
      simp only []
      rw [h1, ih (pre ++ [v]) mid post (k + 1) (by simpa using hm) (by simp [hp]; omega)]
      simp

theorem fill_one (place : Nat → Option (Nat × Nat)) (i off n : Nat) (hp : place i = some (off, n)) (pre mid post vs : List Value) (rest : List (Nat × Value)) (hv : vs.length = n) (hm : mid.length = n) (ho : pre.length = off) :
    Instr.fill place (pre ++ mid ++ post).toArray ((i, aggV vs) :: rest) = Instr.fill place (pre ++ vs ++ post).toArray rest := by
  simp only [Instr.fill, hp]
  have hc : (aggV vs).cells = vs.toArray := rfl
  rw [hc]
  have hz : (vs.toArray.size ≠ n || off + vs.toArray.size > (pre ++ mid ++ post).toArray.size) = false := by
    simp [hv, hm, ho]
  rw [hz]
  simp only [Bool.false_eq_true, if_false]
  congr 1
  rw [← Array.foldl_toList]
  have h := fold_sets off vs pre mid post 0 (by omega) (by omega)
  have e : vs.toArray.zipIdx.toList = vs.zipIdx 0 := by simp
  rw [e, h]

theorem zeroVal30 (w : World) : (zeroValue 81).run Tryd.prog w = .ok (aggV (u8s (zs 128))) w := by kernel_rfl
theorem build30p (w : World) (a b : List Int) (ha : a.length = 64) (hb : b.length = 64) : (Instr.build 81 #[(0, aggV (u8s a)), (1, aggV (u8s b))]).run Tryd.prog w = .ok (aggV (u8s (a ++ b))) w := by
  have hi : ∃ i, Tryd.prog.info? 80 = some i ∧ i.size = 64 := by
    obtain ⟨_, _, _, h3⟩ := row29
    cases hq : Tryd.prog.info? 80 with
    | none => simp [hq] at h3
    | some i => exact ⟨i, rfl, by simpa [hq] using h3⟩
  obtain ⟨i0, hi, hi2⟩ := hi
  have hc : (aggV (u8s (zs 128))).cells = ([] ++ u8s (zs 64) ++ u8s (zs 64)).toArray := by
    show (u8s (zs 128)).toArray = _
    rw [zs2, u8s_app, List.nil_append]
  have f1 : ∀ place : Nat → Option (Nat × Nat), place 0 = some (0, 64) → place 1 = some (64, 64) → Instr.fill place ([] ++ u8s (zs 64) ++ u8s (zs 64)).toArray [(0, aggV (u8s a)), (1, aggV (u8s b))] = some (u8s (a ++ b)).toArray := by
    intro place p0 p1
    rw [fill_one place 0 0 64 p0 [] (u8s (zs 64)) (u8s (zs 64)) (u8s a) _ (by rw [u8s_len, ha]) (zl 64) rfl]
    have := fill_one place 1 64 64 p1 (u8s a) (u8s (zs 64)) [] (u8s b) [] (by rw [u8s_len, hb]) (zl 64) (by rw [u8s_len, ha])
    rw [List.append_nil, List.append_nil] at this
    rw [List.nil_append, this, u8s_app]
    rfl
  simp only [Instr.build, Sem.run_bind, zeroVal30, Result.andThen_ok, run_underlying Tryd.underlying81, hc]
  simp [sizeOf, typeInfo, hi, hi2]
  have := f1 (fun i => some (i * 64, 64)) rfl rfl
  rw [List.nil_append] at this
  rw [this]
  rfl

theorem cut_eq {l a b : List Int} (hl : l.length = 128) (ha : a.length = 64) (hb : b.length = 64) : (decide (l.take 64 = a) && decide (l.drop 64 = b)) = decide (l = a ++ b) := by
  rw [Bool.eq_iff_iff]
  simp only [Bool.and_eq_true, decide_eq_true_eq]
  constructor
  · rintro ⟨rfl, rfl⟩
    rw [List.take_append_drop]
  · rintro rfl
    exact ⟨by rw [List.take_append_of_le_length (by omega), List.take_of_length_le (by omega)], by rw [List.drop_append_of_le_length (by omega), List.drop_eq_nil_of_le (by omega), List.nil_append]⟩
theorem equal30' (W : World) (l a b : List Int) (hl : l.length = 128) (ha : a.length = 64) (hb : b.length = 64) : (Op.equal 81 (aggV (u8s l)) (aggV (u8s (a ++ b)))).run Tryd.prog W = .ok (decide (l = a ++ b)) W := by
  have := equal30 W (l.take 64) (l.drop 64) a b (by simp [hl]) (by simp [hl]) ha hb
  rw [List.take_append_drop, cut_eq hl ha hb] at this
  exact this

section
variable {ops : Array Oper} {rest : List Oper} {op : Oper} {a : Act} {w : World} {Q : Exit → Act → World → Prop}
theorem wpBuildG {T : Nat} (parts : Array (Nat × Operand)) (ho : op.op = .build T parts) (hw : Region.wanted op (yielded ops a.tmps) = true) (ps : Array (Nat × Value)) (hp : (parts.map fun (i, x) => (i, a.eval x)) = ps) (vs : List Value)
    (hr : (Instr.build T ps).run Tryd.prog w = .ok (aggV vs) w) (h : wpList Tryd.prog ops Q rest (a.put op.dst (aggV vs)) w) : wpList Tryd.prog ops Q (op :: rest) a w :=
  BigFrame.wpList_want hw fun K hK => by
    subst hp
    unfold Oper.wp execOp
    simp only [ho, Sem.run_bind, hr, Result.andThen_ok]
    exact hK _ _ h
theorem wpNeqG (T r : Nat) (hG : Tryd.prog.eqGuardType Tryd.prog.depth T = false) (x y : Operand) (ho : op.op = .binOp .neq T x y r) (hw : Region.wanted op (yielded ops a.tmps) = true) (vs us : List Value) (hx : a.eval x = aggV vs) (hy : a.eval y = aggV us) (c : Bool)
    (he : (Op.equal T (aggV vs) (aggV us)).run Tryd.prog w = .ok c w)
    (h : wpList Tryd.prog ops Q rest (a.put op.dst (.bool (!c))) w) : wpList Tryd.prog ops Q (op :: rest) a w :=
  BigFrame.wpList_want hw fun K hK => by
    unfold Oper.wp execOp
    simp only [aggV] at he hx hy
    have hg : (eqGuard .neq T x y (.agg vs.toArray) (.agg us.toArray)).run Tryd.prog w = .ok () w := by simp [eqGuard, Sem.run_bind, hG]
    have hb : (binOp BinOp.neq T (.agg vs.toArray) (.agg us.toArray)).run Tryd.prog w = .ok (.bool (!c)) w := by simp only [binOp, Sem.run_bind, he, Result.andThen_ok, Sem.run_pure]
    simp only [ho, hx, hy, Sem.run_bind, hg, hb, Result.andThen_ok]
    exact hK _ _ h
theorem wpEqlG (T r : Nat) (hG : Tryd.prog.eqGuardType Tryd.prog.depth T = false) (x y : Operand) (ho : op.op = .binOp .eql T x y r) (hw : Region.wanted op (yielded ops a.tmps) = true) (vs us : List Value) (hx : a.eval x = aggV vs) (hy : a.eval y = aggV us) (c : Bool)
    (he : (Op.equal T (aggV vs) (aggV us)).run Tryd.prog w = .ok c w)
    (h : wpList Tryd.prog ops Q rest (a.put op.dst (.bool c)) w) : wpList Tryd.prog ops Q (op :: rest) a w :=
  BigFrame.wpList_want hw fun K hK => by
    unfold Oper.wp execOp
    simp only [aggV] at he hx hy
    have hg : (eqGuard .eql T x y (.agg vs.toArray) (.agg us.toArray)).run Tryd.prog w = .ok () w := by simp [eqGuard, Sem.run_bind, hG]
    have hb : (binOp BinOp.eql T (.agg vs.toArray) (.agg us.toArray)).run Tryd.prog w = .ok (.bool c) w := by simp only [binOp, Sem.run_bind, he, Result.andThen_ok, Sem.run_pure]
    simp only [ho, hx, hy, Sem.run_bind, hg, hb, Result.andThen_ok]
    exact hK _ _ h
end


end Go.Proofs.YtmeajhdhiebkdaaDoor.Rc
