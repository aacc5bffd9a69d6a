/-
  The walk of between: the one version that can have two sectors.
-/
import Derived.Test.YtkpkiibahfdomaaDoorPgPsn
import Derived.Test.YtkpkiibahfdomaaDoorPref
import Derived.BigFrame
namespace Go.Proofs.YtkpkiibahfdomaaDoor.Pg
open Go.RowKit

section
variable {o : Oper} {a : Act} {w : World} {K : Act → World → Prop} {Q : Exit → Act → World → Prop}
theorem wp_loadA {T n : Nat} (hT : Row T n) (x : Operand) (ho : o.op = .load T x) (b off : Nat) (hx : a.eval x = .pointer (some ⟨b, off, none⟩)) (vs : List Value) (hl : vs.length = n) (hA : w.rangeAt b off vs)
    (h : K (a.put o.dst (aggV vs)) w) : o.wp Tryd.prog a w K Q := by
  obtain ⟨d, h1, h2, h3⟩ := hT
  exact wp_load_mid (P := Tryd.prog) T x ho b off hx vs d hA h1 h2 (by rw [hl]; exact h3) h
theorem wp_storeA {T n : Nat} (hT : Row T n) (x y : Operand) (ho : o.op = .store T x y) (b off : Nat) (vs : List Value) (hx : a.eval x = .pointer (some ⟨b, off, none⟩)) (hy : a.eval y = aggV vs) (hl : vs.length = n) (h1 : ∀ v ∈ vs, v.oneCell' = true) (hA : w.there b off n)
    (h : K (a.put o.dst undef) (w.setCells b off vs)) : o.wp Tryd.prog a w K Q := by
  obtain ⟨d, g1, g2, g3⟩ := hT
  exact wp_store_mid (P := Tryd.prog) T x y ho b off vs.toArray hx hy (by simpa [hl] using hA) (by simpa [hl] using g3) (all_oneCell_toArray h1) h
theorem wp_storeN {T n : Nat} (hT : Row T n) (x y : Operand) (ho : o.op = .store T x y) (hd : o.dst = none) (b off : Nat) (vs : List Value) (hx : a.eval x = .pointer (some ⟨b, off, none⟩)) (hy : a.eval y = aggV vs) (hl : vs.length = n) (h1 : ∀ v ∈ vs, v.oneCell' = true) (hA : w.there b off n)
    (h : K a (w.setCells b off vs)) : o.wp Tryd.prog a w K Q := by
  refine wp_storeA hT x y ho b off vs hx hy hl h1 hA ?_
  rw [hd]
  exact h
theorem wp_allocA {T : Nat} (vs : List Value) (hr : ∀ w : World, (Instr.alloc T true (.tuple #[])).run Tryd.prog w = .ok (P0 w.heap.size) (w.alloc (.cells vs.toArray T))) (ho : o.op = .alloc T)
    (h : K (a.put o.dst (P0 w.heap.size)) (w.alloc (.cells vs.toArray T))) : o.wp Tryd.prog a w K Q := by
  unfold Oper.wp execOp
  simp only [ho, Sem.run_bind, hr, Result.andThen_ok]
  exact h
/-- One operation: a function is called. -/
theorem wp_callF {P : Program} (f : FuncId) (args : Array Operand) (ts : Array TypeId) (ho : o.op = .call { callee := .value (.func f), args := args, argTypes := ts })
    (vs : Array Value) (hv : args.map a.eval = vs) (hcf : (callFunc f vs).run P w = .ok (.enter f vs) w) (h : Calls P f vs w fun e w' => ∃ v, e = .returned v ∧ K (a.put o.dst v) w') : o.wp P a w K Q := by
  subst hv
  unfold Oper.wp execOp
  simp only [ho]
  simp [resolve, invoke, go_sem, hcf]
  refine h.mono ?_
  rintro e w' ⟨v, rfl, hk⟩
  exact hk
end
theorem wpBuildP {ops : Array Oper} {rest : List Oper} {op : Oper} {a : Act} {w : World} {Q : Exit → Act → World → Prop} {T : Nat} (hgd : op.guard = none) (parts : Array (Nat × Operand)) (ho : op.op = .build T parts) (ps : Array (Nat × Value)) (hp : (parts.map fun (i, x) => (i, a.eval x)) = ps) (vs : List Value)
    (hr : (Instr.build T ps).run Tryd.prog w = .ok (aggV vs) w) (h : wpList Tryd.prog ops Q rest (a.put op.dst (aggV vs)) w) : wpList Tryd.prog ops Q (op :: rest) a w :=
  wpList_plain hgd fun K hK => by
    subst hp
    unfold Oper.wp execOp
    simp only [ho, Sem.run_bind, hr, Result.andThen_ok]
    exact hK _ _ h
theorem wpOp_of {P : Program} {ops : Array Oper} {o : Oper} {a : Act} {w : World} {K : Act → World → Prop} {Q : Exit → Act → World → Prop} {i : Nat} (ho : ops[i]? = some o) (hg : o.guard = none) (h : o.wp P a w K Q) : wpOp P ops Q i K a w := by
  unfold wpOp
  rw [ho]
  have hw : Region.wanted o (yielded ops a.tmps) = true := by simp [Region.wanted, hg]
  simp only [hw, if_true]
  exact .inl h

/-- A copy as one step of a region that draws its order. -/
theorem step_copyK {ops : Array Oper} {o : Oper} {a : Act} {w : World} {K : Act → World → Prop} {Q : Exit → Act → World → Prop} {E : Prop} (hgd : o.guard = none) (d s : Operand)
    (ho : o.op = .call { callee := .builtin .copy, args := #[d, s], argTypes := #[90, 90] }) (ad : Addr) (dLen dCap sLen sCap : Nat) (g off : Nat) (hd : a.eval d = .slice (some ⟨g, off, none⟩) dLen dCap) (hs : a.eval s = .slice (some ad) sLen sCap)
    (cur : List Value) (t : TypeId) (hg : Blk w g t cur) (cs : List Value) (hn : cs.length = Nat.min sLen dLen) (hsrc : ∀ j v, cs[j]? = some v → w.cell? (ad.add j) = some v)
    (hfit : off + cs.length ≤ cur.length) (h1 : ∀ v ∈ cs, v.oneCell' = true)
    (h : ∀ w', Hid (Blk w' g t (splice cur off cs)) → Hid (Kept [g] w w') → K (a.put o.dst (goInt cs.length)) w') :
    if Region.wanted o (yielded ops a.tmps) = true then Oper.wp Tryd.prog o a w K Q else E := by
  have hw : Region.wanted o (yielded ops a.tmps) = true := by simp [Region.wanted, hgd]
  rw [if_pos hw]
  have hrun := run_copy_row (P := Tryd.prog) w 90 90 o.type 5 g off dLen dCap ad sLen sCap cur.toArray t cs Tryd.underlying90 Tryd.size5 hg hn hsrc (by simpa using hfit) h1
  unfold Oper.wp
  simp [execOp, ho, resolve, invoke, builtin, hd, hs, hrun, Result.andThen]
  refine h _ (show _ = _ by simpa [splice] using setRow_heap w g _ _ t _ hg) ⟨rfl, rfl, rfl, by simp [World.setRow], fun k _ hx => setRow_other w g k _ (by simpa using hx)⟩

theorem cf45 (vs : Array Value) (w : World) : (callFunc 45 vs).run Tryd.prog w = .ok (.enter 45 vs) w := by kernel_rfl
theorem mixed : Tryd.prog.follows .mixedOrders = true := by kernel_rfl

/-- What is known of a value: it is this one, or a new block that has these cells. -/
inductive Fact
  | is (v : Value)
  | new (T : Nat) (vs : List Value) (B : Nat)
def Fact.at (v : Value) (w : World) : Fact → Prop
  | .is u => v = u
  | .new T vs B => ∃ q, v = P0 q ∧ B ≤ q ∧ Blk w q T vs
def tab (fs : List Fact) (j : Nat) (v : Value) (w : World) : Prop := match fs[j]? with
  | some f => f.at v w
  | none => True
theorem tab_kept (fs : List Fact) : ∀ j v w w', tab fs j v w → Kept [] w w' → tab fs j v w' := by
  intro j v w w' h hk
  unfold tab at *
  cases hf : fs[j]? with
  | none => trivial
  | some f =>
    rw [hf] at h
    cases f with
    | is u => exact h
    | new T vs B =>
      obtain ⟨q, h1, h2, h3⟩ := h
      exact ⟨q, h1, h2, h3.kept hk (by simp)⟩

/-- Values of these operations are apart. -/
def apartE (L : List Nat) (i j : Nat) (u v : Value) : Prop := i ∈ L → j ∈ L → u ≠ v
theorem apart_no {L : List Nat} {j : Nat} (h : j ∉ L) (i : Nat) (u v : Value) : apartE L i j u v := fun _ hj => absurd hj h
theorem apart_new {L : List Nat} {fs : List Fact} {w : World} (hL : ∀ i ∈ L, ∃ T vs B, fs[i]? = some (.new T vs B)) (i j : Nat) (u : Value) (h : tab fs i u w) : apartE L i j u (P0 w.heap.size) := by
  intro hi _ e
  obtain ⟨T, vs, B, hf⟩ := hL i hi
  unfold tab at h
  rw [hf] at h
  obtain ⟨q, rfl, _, hb⟩ := h
  have := hb.lt
  cases e
  omega
theorem vs6 {vs : List Value} (h : vs.length = 6) : ∃ a b c d e f, vs = [a, b, c, d, e, f] := by
  match vs, h with
  | [a, b, c, d, e, f], _ => exact ⟨a, b, c, d, e, f, rfl⟩

theorem splice_ver1 (n : Int) (a : List Int) (ha : a.length = 48) : splice (verC n (zs 96)) 1 (u8s a) = verC n (a ++ zs 48) := by
  unfold splice verC
  rw [u8s_len, ha, u8s_app]
  rfl
theorem splice_ver2 (n : Int) (a b : List Int) (ha : a.length = 48) (hb : b.length = 48) : splice (verC n (a ++ zs 48)) 49 (u8s b) = verC n (a ++ b) := by
  unfold splice verC
  rw [u8s_len, hb, u8s_app, u8s_app]
  have e1 : (Value.int .i64 n :: (u8s a ++ u8s (zs 48))).take 49 = .int .i64 n :: u8s a := by
    rw [List.take_succ_cons, List.take_append_of_le_length (by rw [u8s_len, ha]; exact Nat.le_refl _), List.take_of_length_le (by rw [u8s_len, ha]; exact Nat.le_refl _)]
  have e2 : (Value.int .i64 n :: (u8s a ++ u8s (zs 48))).drop (49 + 48) = [] := List.drop_eq_nil_of_le (by simp [u8s_len, ha, zs])
  rw [e1, e2]
  simp

theorem res51 (w : World) (z : Nat) (vs : List Value) (tmps : Array Value) (h4 : tmps[4]?.getD undef = P0 z) (hl : vs.length = 97) (hb : Blk w z 61 vs) : (results Tryd.f51 tmps).run Tryd.prog w = .ok (aggV vs) w := by
  have := loadV row61 hl hb
  simp [results, Tryd.results51, h4, this, asAddr]

theorem build61n (w : World) (n : Int) : (Instr.build 61 #[(0, .int .i64 n)]).run Tryd.prog w = .ok (aggV (verC n (zs 96))) w := by kernel_rfl

set_option maxHeartbeats 1000000 in
set_option maxRecDepth 100000 in
theorem between27 (s t : List Int) (hs : Byts 64 s) (ht : Byts 64 t) (w : World) : Calls Tryd.prog 51 #[aggV (u8s s), aggV (u8s t)] w fun e w' => e = .returned (aggV (verC (psnL s) (halfL s ++ halfL t))) ∧ Kept [] w w' := by
  have hsl := (halfL_byts hs).len
  have htl := (halfL_byts ht).len
  have hsu : (u8s s).length = 64 := by rw [u8s_len, hs.len]
  have htu : (u8s t).length = 64 := by rw [u8s_len, ht.len]
  have b0 : Hid (Blk (((w.alloc (.cells (u8s s).toArray 29)).alloc (.cells (u8s t).toArray 29)).alloc (.cells (verC 0 (zs 96)).toArray 61)) w.heap.size 29 (u8s s)) := ((Blk.new' rfl).alloc _).alloc _
  have b1 : Hid (Blk (((w.alloc (.cells (u8s s).toArray 29)).alloc (.cells (u8s t).toArray 29)).alloc (.cells (verC 0 (zs 96)).toArray 61)) (w.heap.size + 1) 29 (u8s t)) := (Blk.new' (by simp)).alloc _
  have b2 : Hid (Blk (((w.alloc (.cells (u8s s).toArray 29)).alloc (.cells (u8s t).toArray 29)).alloc (.cells (verC 0 (zs 96)).toArray 61)) (w.heap.size + 1 + 1) 61 (verC 0 (zs 96))) := Blk.new' (by simp)
  have hk : Hid (Kept [] w (((w.alloc (.cells (u8s s).toArray 29)).alloc (.cells (u8s t).toArray 29)).alloc (.cells (verC 0 (zs 96)).toArray 61))) := (((Kept.refl _ _).alloc _).alloc _).alloc _
  have hp := hide (psn29 s hs (((w.alloc (.cells (u8s s).toArray 29)).alloc (.cells (u8s t).toArray 29)).alloc (.cells (verC 0 (zs 96)).toArray 61)))
  go_enter Tryd.func51, Tryd.ntmps51
  go_wp2_with (
    first
    | (refine wpBoxA rfl (.tmp 0) rfl (u8s s) rfl ?_)
    | (refine wpBoxA rfl (.tmp 1) rfl (u8s t) rfl ?_)
    | (refine wpLoadA row29 rfl (.tmp 2) rfl w.heap.size 0 rfl (u8s s) hsu (unhide b0).range ?_)
    | (go_at_call 42
       refine (unhide hp).mono ?_
       rintro e w1 ⟨rfl, k1⟩)
    | (refine wpBuildP rfl _ rfl #[(0, .int .i64 (psnL s))] (by simp only [List.map_toArray, List.map_cons, List.map_nil]; rfl) (verC (psnL s) (zs 96)) (build61n _ _) ?_)
    | (refine wpAllocV (verC 0 (zs 96)) zero61 5 rfl rfl rfl ?_
       intro W eW
       have c0 : Hid (Blk W w.heap.size 29 (u8s s)) := by rw [eW]; exact ((unhide b0).kept k1 (by simp)).alloc _
       have c1 : Hid (Blk W (w.heap.size + 1) 29 (u8s t)) := by rw [eW]; exact ((unhide b1).kept k1 (by simp)).alloc _
       have c2 : Hid (Blk W (w.heap.size + 1 + 1) 61 (verC 0 (zs 96))) := by rw [eW]; exact ((unhide b2).kept k1 (by simp)).alloc _
       have c3 : Hid (Blk W w1.heap.size 61 (verC 0 (zs 96))) := by rw [eW]; exact Blk.new' rfl
       have ck : Hid (Kept [] w W) := by rw [eW]; exact ((unhide hk).trans k1).alloc _
       have cs1 : Hid (w.heap.size + 1 + 1 < w1.heap.size) := ((unhide b2).kept k1 (by simp)).lt
       clear b0 b1 b2 hk hp k1 eW)
    | (refine wpAllocA (verC 0 (zs 96)) zero61 rfl rfl ?_)
    | (refine wpStoreA row61 rfl (.tmp 5) (.tmp 10) rfl w1.heap.size 0 (verC (psnL s) (zs 96)) rfl rfl (by simp [verC, u8s_len, zs]) (verC_one _ _) ((unhide c3).there (by simp [verC, u8s_len, zs])) ?_))
  have d0 : Hid (Blk (W.setCells w1.heap.size 0 (verC (psnL s) (zs 96))) w.heap.size 29 (u8s s)) := (unhide c0).other (by have := unhide cs1; omega)
  have d1 : Hid (Blk (W.setCells w1.heap.size 0 (verC (psnL s) (zs 96))) (w.heap.size + 1) 29 (u8s t)) := (unhide c1).other (by have := unhide cs1; omega)
  have d2 : Hid (Blk (W.setCells w1.heap.size 0 (verC (psnL s) (zs 96))) (w.heap.size + 1 + 1) 61 (verC 0 (zs 96))) := (unhide c2).other (by have := unhide cs1; omega)
  have d3 : Hid (Blk (W.setCells w1.heap.size 0 (verC (psnL s) (zs 96))) w1.heap.size 61 (verC (psnL s) (zs 96))) := (unhide c3).put (by simp [verC, u8s_len, zs])
  have dk : Hid (Kept [] w (W.setCells w1.heap.size 0 (verC (psnL s) (zs 96)))) := (unhide ck).setCells _ _ (by have := unhide cs1; omega)
  clear c0 c1 c2 c3 ck
  generalize (W.setCells w1.heap.size 0 (verC (psnL s) (zs 96))) = W2 at *
  refine wp_region_prefix mixed 6 2 rfl (by kernel_rfl) (tab [.is (aggV (u8s s)), .is (aggV (u8s (halfL s))), .is (aggV (u8s t)), .is (aggV (u8s (halfL t))), .new 84 (u8s (zs 48)) W2.heap.size, .new 84 (u8s (zs 48)) W2.heap.size]) (apartE [4, 5]) (tab_kept _) (by kernel_rfl) ?_ ?_
  · intro j o hj ho a w2 hout hin hk
    match j, ho with
    | 0, ho =>
      obtain rfl := Option.some.inj ho
      exact wp_loadA row29 (.tmp 2) rfl w.heap.size 0 ((hout 2 (by kernel_rfl)).trans rfl) (u8s s) hsu ((unhide d0).kept hk (by simp)).range ⟨_, rfl, rfl, Kept.refl _ _, fun i u _ _ _ => apart_no (by decide) i u _⟩
    | 1, ho =>
      obtain rfl := Option.some.inj ho
      have e0 : a.eval (.tmp 11) = aggV (u8s s) := hin 0 11 (by kernel_rfl) (by kernel_rfl)
      refine wp_callF 45 _ _ rfl #[aggV (u8s s)] (by simp [e0]) (cf45 _ _) ((halfOf31 s hs w2).mono ?_)
      rintro e w3 ⟨rfl, hk3⟩
      exact ⟨_, rfl, _, rfl, rfl, hk3, fun i u _ _ _ => apart_no (by decide) i u _⟩
    | 2, ho =>
      obtain rfl := Option.some.inj ho
      exact wp_loadA row29 (.tmp 3) rfl (w.heap.size + 1) 0 ((hout 3 (by kernel_rfl)).trans rfl) (u8s t) htu ((unhide d1).kept hk (by simp)).range ⟨_, rfl, rfl, Kept.refl _ _, fun i u _ _ _ => apart_no (by decide) i u _⟩
    | 3, ho =>
      obtain rfl := Option.some.inj ho
      have e0 : a.eval (.tmp 13) = aggV (u8s t) := hin 2 13 (by kernel_rfl) (by kernel_rfl)
      refine wp_callF 45 _ _ rfl #[aggV (u8s t)] (by simp [e0]) (cf45 _ _) ((halfOf31 t ht w2).mono ?_)
      rintro e w3 ⟨rfl, hk3⟩
      exact ⟨_, rfl, _, rfl, rfl, hk3, fun i u _ _ _ => apart_no (by decide) i u _⟩
    | 4, ho =>
      obtain rfl := Option.some.inj ho
      exact wp_allocA (u8s (zs 48)) zero84 rfl ⟨_, rfl, ⟨_, rfl, hk.size, Blk.new' rfl⟩, (Kept.refl _ _).alloc _, fun i u _ _ h => apart_new (by simp) i 4 u h⟩
    | 5, ho =>
      obtain rfl := Option.some.inj ho
      exact wp_allocA (u8s (zs 48)) zero84 rfl ⟨_, rfl, ⟨_, rfl, hk.size, Blk.new' rfl⟩, (Kept.refl _ _).alloc _, fun i u _ _ h => apart_new (by simp) i 5 u h⟩
  · intro vs w3 hlen hF hE hk
    obtain ⟨x0, x1, x2, x3, x4, x5, rfl⟩ := vs6 hlen
    obtain rfl : x0 = aggV (u8s s) := hF 0 _ rfl
    obtain rfl : x1 = aggV (u8s (halfL s)) := hF 1 _ rfl
    obtain rfl : x2 = aggV (u8s t) := hF 2 _ rfl
    obtain rfl : x3 = aggV (u8s (halfL t)) := hF 3 _ rfl
    obtain ⟨q4, rfl, hq4, hb4⟩ : ∃ q, x4 = P0 q ∧ W2.heap.size ≤ q ∧ Blk w3 q 84 (u8s (zs 48)) := hF 4 _ rfl
    obtain ⟨q5, rfl, hq5, hb5⟩ : ∃ q, x5 = P0 q ∧ W2.heap.size ≤ q ∧ Blk w3 q 84 (u8s (zs 48)) := hF 5 _ rfl
    have hne : q4 ≠ q5 := by
      intro e
      subst e
      rcases hE 4 5 _ _ (by decide) rfl rfl with h | h
      · exact h (by decide) (by decide) rfl
      · exact h (by decide) (by decide) rfl
    simp only [List.take_succ_cons, List.take_zero, putAll, Act.put, List.setIfInBounds_toArray, List.set_cons_succ, List.set_cons_zero]
    refine wpAny_all (rs := [6]) (by kernel_rfl) (by simp) ?_
    intro i hi
    obtain rfl : i = 6 := by simpa using hi
    refine wpOp_of rfl rfl (wp_storeN row84 (.tmp 6) (.tmp 12) rfl rfl q4 0 (u8s (halfL s)) rfl rfl (by rw [u8s_len, hsl]) (u8s_one _) (hb4.there (by simp [u8s_len, zs])) ?_)
    refine wpAny_all (rs := [7]) (by kernel_rfl) (by simp) ?_
    intro i hi
    obtain rfl : i = 7 := by simpa using hi
    refine wpOp_of rfl rfl (wp_storeN row84 (.tmp 7) (.tmp 14) rfl rfl q5 0 (u8s (halfL t)) rfl rfl (by rw [u8s_len, htl]) (u8s_one _) ((hb5.other (fun e => hne e.symm)).there (by simp [u8s_len, zs])) ?_)
    refine wpAny_done (by kernel_rfl) ?_ _
    have l1 := unhide cs1
    have l2 := (unhide d3).lt
    have f2 : Hid (Blk ((w3.setCells q4 0 (u8s (halfL s))).setCells q5 0 (u8s (halfL t))) (w.heap.size + 1 + 1) 61 (verC 0 (zs 96))) := (((unhide d2).kept hk (by simp)).other (by omega)).other (by omega)
    have f3 : Hid (Blk ((w3.setCells q4 0 (u8s (halfL s))).setCells q5 0 (u8s (halfL t))) w1.heap.size 61 (verC (psnL s) (zs 96))) := (((unhide d3).kept hk (by simp)).other (by omega)).other (by omega)
    have f4 : Hid (Blk ((w3.setCells q4 0 (u8s (halfL s))).setCells q5 0 (u8s (halfL t))) q4 84 (u8s (halfL s))) := (hb4.put (by simp [u8s_len, zs, hsl])).other hne
    have f5 : Hid (Blk ((w3.setCells q4 0 (u8s (halfL s))).setCells q5 0 (u8s (halfL t))) q5 84 (u8s (halfL t))) := (hb5.other (fun e => hne e.symm)).put (by simp [u8s_len, zs, htl])
    have fk : Hid (Kept [] w ((w3.setCells q4 0 (u8s (halfL s))).setCells q5 0 (u8s (halfL t)))) := (((unhide dk).trans hk).setCells _ _ (by have := (unhide dk).size; omega)).setCells _ _ (by have := (unhide dk).size; omega)
    clear hF hE hk hb4 hb5 d0 d1 d2 d3 dk
    generalize ((w3.setCells q4 0 (u8s (halfL s))).setCells q5 0 (u8s (halfL t))) = W4 at *
    clear hlen
    have hks := (unhide fk).size
    have ls : (u8s (halfL s)).length = 48 := by rw [u8s_len, hsl]
    have lt : (u8s (halfL t)).length = 48 := by rw [u8s_len, htl]
    go_wp2_with fail
    go_region_law (refine step_copyK rfl (.tmp 16) (.tmp 17) rfl ⟨q4, 0, none⟩ 48 96 48 48 w1.heap.size 1 rfl rfl (verC (psnL s) (zs 96)) 61 (unhide f3) (u8s (halfL s)) ls (fun j v hj => by rw [Addr.add_mid]; exact (unhide f4).range j v hj) (by simp [verC, u8s_len, zs, hsl]) (u8s_one _) ?_; intro w5 hg5 hk5)
    have g2 : Hid (Blk w5 (w.heap.size + 1 + 1) 61 (verC 0 (zs 96))) := (unhide f2).drew.kept (unhide hk5) (by simp; omega)
    have g5 : Hid (Blk w5 q5 84 (u8s (halfL t))) := (unhide f5).drew.kept (unhide hk5) (by simp; omega)
    have g3 : Hid (Blk w5 w1.heap.size 61 (verC (psnL s) (halfL s ++ zs 48))) := by
      have := unhide hg5
      rw [splice_ver1 _ _ hsl] at this
      exact this
    have gk : Hid (Kept [] w w5) := (unhide fk).drew.fresh (unhide hk5) (by intro i hi; simp at hi; omega)
    clear hg5 hk5 f2 f3 f4 f5 fk
    go_wp2_with fail
    go_region_law (refine step_copyK rfl (.tmp 20) (.tmp 21) rfl ⟨q5, 0, none⟩ 48 48 48 48 w1.heap.size 49 rfl rfl (verC (psnL s) (halfL s ++ zs 48)) 61 (unhide g3) (u8s (halfL t)) lt (fun j v hj => by rw [Addr.add_mid]; exact (unhide g5).range j v hj) (by simp [verC, u8s_len, zs, hsl, htl]) (u8s_one _) ?_; intro w6 hg6 hk6)
    have h2 : Hid (Blk w6 (w.heap.size + 1 + 1) 61 (verC 0 (zs 96))) := (unhide g2).drew.kept (unhide hk6) (by simp; omega)
    have h3 : Hid (Blk w6 w1.heap.size 61 (verC (psnL s) (halfL s ++ halfL t))) := by
      have := unhide hg6
      rw [splice_ver2 _ _ _ hsl htl] at this
      exact this
    have hk6' : Hid (Kept [] w w6) := (unhide gk).drew.fresh (unhide hk6) (by intro i hi; simp at hi; omega)
    have hvl : (verC (psnL s) (halfL s ++ halfL t)).length = 97 := by simp [verC, u8s_len, hsl, htl]
    clear hg6 hk6 g2 g3 g5 gk
    go_wp2_with (
      first
      | (refine wpLoadA row61 rfl (.tmp 5) rfl w1.heap.size 0 rfl (verC (psnL s) (halfL s ++ halfL t)) hvl (unhide h3).range ?_)
      | (refine wpStoreA row61 rfl (.tmp 4) (.tmp 23) rfl (w.heap.size + 1 + 1) 0 (verC (psnL s) (halfL s ++ halfL t)) rfl rfl hvl (verC_one _ _) ((unhide h2).there (by simp [verC, u8s_len, zs])) ?_))
    have g4 := (unhide h2).put (vs := verC (psnL s) (halfL s ++ halfL t)) (by simp [verC, u8s_len, zs, hsl, htl])
    exact bodyPost_ret (res51 _ _ _ _ rfl hvl g4) rfl ⟨rfl, (unhide hk6').setCells _ _ (by omega)⟩

end Go.Proofs.YtkpkiibahfdomaaDoor.Pg
