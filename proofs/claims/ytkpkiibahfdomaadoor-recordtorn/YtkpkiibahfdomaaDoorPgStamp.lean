/-
  The walk of Stamp: what a page's sector says.
-/
import Derived.Test.YtkpkiibahfdomaaDoorPrefs
import Derived.Test.YtkpkiibahfdomaaDoorPgVer
namespace Go.Proofs.YtkpkiibahfdomaaDoor.Pg
open Go.RowKit

theorem wp_move {P : Program} {o : Oper} {a : Act} {w : World} {K : Act → World → Prop} {Q : Exit → Act → World → Prop} (x : Operand) (ho : o.op = .move x) (h : K (a.put o.dst (a.eval x)) w) : o.wp P a w K Q := by
  unfold Oper.wp execOp
  simp only [ho]
  exact h

/-- What is known of a value: it is this one; the operation is left out; a pointer to a new block that has these cells. -/
inductive Fc
  | is (v : Value)
  | no
  | new (T : Nat) (vs : List Value) (B : Nat)
def Fc.at (v : Value) (w : World) : Fc → Prop
  | .is u => v = u
  | .no => v = undef
  | .new T vs B => ∃ q, v = P0 q ∧ B ≤ q ∧ Blk w q T vs
def tc (fs : List Fc) (j : Nat) (v : Value) (w : World) : Prop := match fs[j]? with
  | some f => f.at v w
  | none => True
theorem tc_kept (fs : List Fc) : ∀ j v w w', tc fs j v w → Kept [] w w' → tc fs j v w' := by
  intro j v w w' h hk
  unfold tc at *
  cases hf : fs[j]? with
  | none => trivial
  | some f =>
    rw [hf] at h
    cases f with
    | is u => exact h
    | no => exact h
    | new T vs B =>
      obtain ⟨q, h1, h2, h3⟩ := h
      exact ⟨q, h1, h2, h3.kept hk (by simp)⟩
def skipOf (fs : List Fc) (j : Nat) : Bool := match fs[j]? with
  | some .no => true
  | _ => false
/-- The guards of a region are what the table says. -/
def guardsS (ops : Array Oper) (fs : List Fc) : Bool := (List.range ops.size).all (fun j => match ops[j]? with
  | none => false
  | some o => match o.guard with
    | none => !skipOf fs j
    | some (i, b) => match fs[i]? with
      | some (.is (.bool c)) => if c == b then !skipOf fs j else skipOf fs j
      | some .no => skipOf fs j
      | _ => false)
theorem guardsS_some {ops : Array Oper} {fs : List Fc} (h : guardsS ops fs = true) : ∀ (j : Nat) (o : Oper) (i : Nat) (b : Bool), ops[j]? = some o → o.guard = some (i, b) → (skipOf fs j = false ∧ ∀ v w, tc fs i v w → v = .bool b) ∨ (skipOf fs j = true ∧ ∀ v w, tc fs i v w → v ≠ .bool b) := by
  intro j o i b ho hg
  have := (List.all_eq_true.1 h) j (List.mem_range.2 (Array.getElem?_eq_some_iff.1 ho).1)
  simp only [ho, hg] at this
  unfold tc
  cases hfi : fs[i]? with
  | none => rw [hfi] at this; simp at this
  | some f =>
    rw [hfi] at this
    cases f with
    | new T vs B => simp at this
    | no =>
      refine .inr ⟨by simpa using this, fun v w hv => ?_⟩
      have : v = undef := hv
      rw [this]
      simp [undef]
    | is u =>
      cases u <;> first | (simp at this; done) | skip
      rename_i c
      by_cases hcb : c = b
      · subst hcb
        refine .inl ⟨by simpa using this, fun v w hv => hv⟩
      · refine .inr ⟨?_, fun v w hv => ?_⟩
        · have hne : (c == b) = false := beq_eq_false_iff_ne.2 hcb
          simpa [hne] using this
        · have hv' : v = .bool c := hv
          rw [hv']
          intro e
          exact hcb (by cases e; rfl)
theorem guardsS_none {ops : Array Oper} {fs : List Fc} (h : guardsS ops fs = true) : ∀ (j : Nat) (o : Oper), ops[j]? = some o → o.guard = none → skipOf fs j = false := by
  intro j o ho hg
  have := (List.all_eq_true.1 h) j (List.mem_range.2 (Array.getElem?_eq_some_iff.1 ho).1)
  simp only [ho, hg] at this
  simpa using this
theorem skip_undef {fs : List Fc} {j : Nat} (w : World) (h : skipOf fs j = true) : tc fs j undef w := by
  unfold skipOf at h
  unfold tc
  split at h
  · next hf => rw [hf]; rfl
  · cases h
/-- What each operation of such a region must show. -/
def opPc (fs : List Fc) (o : Oper) (a : Act) (w : World) (j n : Nat) (a' : Act) (w' : World) : Prop := ∃ v, a' = a.put o.dst v ∧ tc fs j v w' ∧ Kept [] w w' ∧ ∀ i u, i < n → i ≠ j → tc fs i u w → True
theorem postc {fs : List Fc} {o : Oper} {a : Act} {w w' : World} {j n : Nat} {v : Value} (hv : tc fs j v w') (hk : Kept [] w w') : opPc fs o a w j n (a.put o.dst v) w' := ⟨v, rfl, hv, hk, fun _ _ _ _ _ => trivial⟩

section
variable {o : Oper} {a : Act} {w : World} {K : Act → World → Prop} {Q : Exit → Act → World → Prop}
theorem o_conv53 (x : Operand) (ho : o.op = .convert 5 3 x) (c : Int) (hc : 0 ≤ c ∧ c < 256) (hx : a.eval x = .int .u8 c) (h : K (a.put o.dst (.int .i64 c)) w) : o.wp Tryd.prog a w K Q := by
  have hw : IntKind.i64.wrap c = c := by rw [IntKind.wrap_i64]; omega
  unfold Oper.wp execOp
  simp only [ho, hx]
  simp [go_sem, hw]
  exact h
theorem o_sub3 (x : Operand) (k : Int) (ho : o.op = .binOp .sub 3 x (.const (.int .i64 k)) 3) (c : Int) (hc : -1000000 ≤ c - k ∧ c - k ≤ 1000000) (hx : a.eval x = .int .i64 c) (h : K (a.put o.dst (.int .i64 (c - k))) w) : o.wp Tryd.prog a w K Q := by
  have hw : IntKind.i64.wrap (c - k) = c - k := by rw [IntKind.wrap_i64]; omega
  unfold Oper.wp execOp
  simp only [ho, hx]
  simp [go_sem, hw]
  exact h
theorem o_pickT (c x : Operand) (ho : o.op = .pick c (.const (.bool true)) x) (r s : Bool) (hc : a.eval c = .bool r) (hx : r = false → a.eval x = .bool s) (h : K (a.put o.dst (.bool (r || s))) w) (hs : r = true → s = false) : o.wp Tryd.prog a w K Q := by
  unfold Oper.wp execOp
  simp only [ho, hc]
  cases r with
  | true => rw [hs rfl] at h; simp [go_sem]; exact h
  | false => rw [hx rfl]; simp [go_sem]; exact h
theorem o_buildP {T : Nat} (parts : Array (Nat × Operand)) (ho : o.op = .build T parts) (ps : Array (Nat × Value)) (hp : (parts.map fun (i, x) => (i, a.eval x)) = ps) (vs : List Value) (hr : (Instr.build T ps).run Tryd.prog w = .ok (aggV vs) w) (h : K (a.put o.dst (aggV vs)) w) : o.wp Tryd.prog a w K Q := by
  subst hp
  unfold Oper.wp execOp
  simp only [ho, Sem.run_bind, hr, Result.andThen_ok]
  exact h
theorem o_neqA (T r : Nat) (hG : Tryd.prog.eqGuardType Tryd.prog.depth T = false) (x y : Operand) (ho : o.op = .binOp .neq T x y r) (vs us : List Value) (hx : a.eval x = aggV vs) (hy : a.eval y = aggV us) (c : Bool)
    (he : (Op.equal T (aggV vs) (aggV us)).run Tryd.prog w = .ok c w) (h : K (a.put o.dst (.bool (!c))) w) : o.wp Tryd.prog a w K Q := by
  unfold Oper.wp execOp
  simp only [aggV] at he hx hy
  have hg : (eqGuard .neq T x y (.agg vs.toArray) (.agg us.toArray)).run Tryd.prog w = .ok () w := by simp [eqGuard, Sem.run_bind, hG]
  have hb : (binOp BinOp.neq T (.agg vs.toArray) (.agg us.toArray)).run Tryd.prog w = .ok (.bool (!c)) w := by simp only [binOp, Sem.run_bind, he, Result.andThen_ok, Sem.run_pure]
  simp only [ho, hx, hy, Sem.run_bind, hg, hb, Result.andThen_ok]
  exact h
end
theorem cf42 (vs : Array Value) (w : World) : (callFunc 42 vs).run Tryd.prog w = .ok (.enter 42 vs) w := by kernel_rfl
theorem cf44 (vs : Array Value) (w : World) : (callFunc 44 vs).run Tryd.prog w = .ok (.enter 44 vs) w := by kernel_rfl
theorem cf43 (vs : Array Value) (w : World) : (callFunc 43 vs).run Tryd.prog w = .ok (.enter 43 vs) w := by kernel_rfl
theorem zero63 (w : World) : (Instr.alloc 63 true (.tuple #[])).run Tryd.prog w = .ok (P0 w.heap.size) (w.alloc (.cells (stC 0 0 0).toArray 63)) := by kernel_rfl
theorem build63z (w : World) : (Instr.build 63 #[]).run Tryd.prog w = .ok (aggV (stC 0 0 0)) w := by kernel_rfl

theorem stC_one (p h n : Int) : ∀ v ∈ stC p h n, v.oneCell' = true := by
  intro v hv
  simp only [stC, List.mem_cons, List.mem_nil_iff, or_false] at hv
  rcases hv with rfl | rfl | rfl <;> rfl
/-- A sector's half, by its mark. -/
def hOf (s : List Int) : Int := s.getD 0 0 - 161
def pOf (s : List Int) : Int := s.getD 1 0
def isStampB (s : List Int) : Bool := isPageB (pOf s) && (decide (hOf s = 0 ∨ hOf s = 1) && isWrit (psnL s))
/-- What Stamp tells. -/
def stampL (s : List Int) : (Int × Int × Int) × Bool := if isStampB s = true ∧ s = laidL (pOf s) (hOf s) (psnL s) (halfL s) then ((pOf s, hOf s, psnL s), true) else ((0, 0, 0), false)

theorem res27 (w : World) (z : Nat) (vs : List Value) (r : Bool) (tmps : Array Value) (h4 : tmps[2]?.getD undef = P0 z) (h5 : tmps[3]?.getD undef = .bool r) (hl : vs.length = 3) (hb : Blk w z 63 vs) : (results Tryd.f27 tmps).run Tryd.prog w = .ok (.tuple #[aggV vs, .bool r]) w := by
  have := loadV row63 hl hb
  simp [results, Tryd.results27, h4, h5, this, asAddr]

/-- What the operations of its first statement yield. -/
def stT1 (w W : World) (s : List Int) : List Fc := [.is (.pointer (some ⟨w.heap.size, 1, none⟩)), .is (.int .u8 (pOf s)), .is (.int .i64 (pOf s)), .is (.pointer (some ⟨w.heap.size, 0, none⟩)), .is (.int .u8 (s.getD 0 0)), .is (.int .i64 (s.getD 0 0)), .is (.int .i64 (hOf s)), .is (aggV (u8s s)), .is (.int .i64 (psnL s)), .is (aggV (stC (pOf s) (hOf s) (psnL s))), .new 63 (stC 0 0 0) W.heap.size]
def stT2A (s : List Int) : List Fc := [.is (aggV (stC (pOf s) (hOf s) (psnL s))), .is (.bool false), .is (.bool true), .is (.bool true), .no, .no, .no, .no, .no, .no, .is (.bool true)]
def stT2B (s : List Int) : List Fc := [.is (aggV (stC (pOf s) (hOf s) (psnL s))), .is (.bool true), .is (.bool false), .is (.bool false), .is (aggV (u8s s)), .is (aggV (stC (pOf s) (hOf s) (psnL s))), .is (aggV (u8s s)), .is (aggV (u8s (halfL s))), .is (aggV (u8s (laidL (pOf s) (hOf s) (psnL s) (halfL s)))), .is (.bool false), .is (.bool false)]
def stT2C (s : List Int) : List Fc := [.is (aggV (stC (pOf s) (hOf s) (psnL s))), .is (.bool true), .is (.bool false), .is (.bool false), .is (aggV (u8s s)), .is (aggV (stC (pOf s) (hOf s) (psnL s))), .is (aggV (u8s s)), .is (aggV (u8s (halfL s))), .is (aggV (u8s (laidL (pOf s) (hOf s) (psnL s) (halfL s)))), .is (.bool true), .is (.bool true)]

set_option maxHeartbeats 4000000 in
set_option maxRecDepth 100000 in
theorem stamp_A (s : List Int) (hs : Byts 64 s) (hS : isStampB s = false) (w : World) : Calls Tryd.prog 27 #[aggV (u8s s)] w fun e w' => e = .returned (.tuple #[aggV (stC 0 0 0), .bool false]) ∧ Kept [] w w' := by
  have hsu : (u8s s).length = 64 := by rw [u8s_len, hs.len]
  have hp0 : 0 ≤ pOf s ∧ pOf s < 256 := by
    have := hs.byte (s[1]'(by rw [hs.len]; omega)) (List.getElem_mem (by rw [hs.len]; omega))
    simpa [pOf, List.getD, hs.len] using this
  have hm0 : 0 ≤ s.getD 0 0 ∧ s.getD 0 0 < 256 := by
    have := hs.byte (s[0]'(by rw [hs.len]; omega)) (List.getElem_mem (by rw [hs.len]; omega))
    simpa [List.getD, hs.len] using this
  go_enter Tryd.func27, Tryd.ntmps27
  go_wp2_with (
    first
    | (refine wpBoxA rfl (.tmp 0) rfl (u8s s) rfl ?_)
    | (refine wpAllocV (stC 0 0 0) zero63 2 rfl rfl rfl ?_
       intro W eW
       have b0 : Hid (Blk W w.heap.size 29 (u8s s)) := by rw [eW]; exact (Blk.new' rfl).alloc _
       have b1 : Hid (Blk W (w.heap.size + 1) 63 (stC 0 0 0)) := by rw [eW]; exact Blk.new' (by simp)
       have bk : Hid (Kept [] w W) := by rw [eW]; exact ((Kept.refl _ _).alloc _).alloc _
       clear eW))
  refine wp_region_prefS mixed 11 1 rfl (by kernel_rfl) (tc (stT1 w W s)) (fun _ _ _ _ => True) (skipOf (stT1 w W s)) (fun j o i b _ => guardsS_some (by kernel_rfl) j o i b) (fun j o _ => guardsS_none (by kernel_rfl) j o) (fun j w => skip_undef w) (fun _ _ _ _ => trivial) (tc_kept _) (by kernel_rfl) ?_ ?_
  · intro j o hj hs' ho a w2 hout hin hk
    show o.wp Tryd.prog a w2 (opPc (stT1 w W s) o a w2 j 11) _
    match j, ho with
    | 0, ho =>
      obtain rfl := Option.some.inj ho
      exact o_idx29 (.tmp 1) 1 (by omega) rfl w.heap.size 0 ((hout 1 (by kernel_rfl)).trans (by kernel_rfl)) (postc rfl (Kept.refl _ _))
    | 1, ho =>
      obtain rfl := Option.some.inj ho
      exact o_load5 (.tmp 5) rfl ⟨w.heap.size, 1, none⟩ _ (hin 0 5 (by kernel_rfl) (by kernel_rfl)) (fits_cell ((unhide b0).kept hk (by simp)) 1 _ (by simp [u8s, pOf, List.getD, hs.len])) (postc rfl (Kept.refl _ _))
    | 2, ho =>
      obtain rfl := Option.some.inj ho
      exact o_conv53 (.tmp 6) rfl (pOf s) hp0 (hin 1 6 (by kernel_rfl) (by kernel_rfl)) (postc rfl (Kept.refl _ _))
    | 3, ho =>
      obtain rfl := Option.some.inj ho
      exact o_idx29 (.tmp 1) 0 (by omega) rfl w.heap.size 0 ((hout 1 (by kernel_rfl)).trans (by kernel_rfl)) (postc rfl (Kept.refl _ _))
    | 4, ho =>
      obtain rfl := Option.some.inj ho
      exact o_load5 (.tmp 8) rfl ⟨w.heap.size, 0, none⟩ _ (hin 3 8 (by kernel_rfl) (by kernel_rfl)) (fits_cell ((unhide b0).kept hk (by simp)) 0 _ (by simp [u8s, List.getD, hs.len])) (postc rfl (Kept.refl _ _))
    | 5, ho =>
      obtain rfl := Option.some.inj ho
      exact o_conv53 (.tmp 9) rfl (s.getD 0 0) hm0 (hin 4 9 (by kernel_rfl) (by kernel_rfl)) (postc rfl (Kept.refl _ _))
    | 6, ho =>
      obtain rfl := Option.some.inj ho
      exact o_sub3 (.tmp 10) 161 rfl (s.getD 0 0) (by omega) (hin 5 10 (by kernel_rfl) (by kernel_rfl)) (postc rfl (Kept.refl _ _))
    | 7, ho =>
      obtain rfl := Option.some.inj ho
      exact wp_loadA row29 (.tmp 1) rfl w.heap.size 0 ((hout 1 (by kernel_rfl)).trans (by kernel_rfl)) (u8s s) hsu ((unhide b0).kept hk (by simp)).range (postc rfl (Kept.refl _ _))
    | 8, ho =>
      obtain rfl := Option.some.inj ho
      have e0 : a.eval (.tmp 12) = _ := (hin 7 12 (by kernel_rfl) (by kernel_rfl))
      refine wp_callF 42 _ _ rfl #[aggV (u8s s)] (by simp [e0]) (cf42 _ _) ((psn29 s hs w2).mono ?_)
      rintro x w3 ⟨rfl, hk3⟩
      exact ⟨_, rfl, postc rfl hk3⟩
    | 9, ho =>
      obtain rfl := Option.some.inj ho
      have e0 : a.eval (.tmp 7) = _ := (hin 2 7 (by kernel_rfl) (by kernel_rfl))
      have e1 : a.eval (.tmp 11) = _ := (hin 6 11 (by kernel_rfl) (by kernel_rfl))
      have e2 : a.eval (.tmp 13) = _ := (hin 8 13 (by kernel_rfl) (by kernel_rfl))
      exact o_buildP _ rfl #[(0, .int .i64 (pOf s)), (1, .int .i64 (hOf s)), (2, .int .i64 (psnL s))] (by simp only [List.map_toArray, List.map_cons, List.map_nil, e0, e1, e2]) _ (build63 _ _ _ _) (postc rfl (Kept.refl _ _))
    | 10, ho =>
      obtain rfl := Option.some.inj ho
      exact wp_allocA (stC 0 0 0) zero63 rfl (postc ⟨_, rfl, hk.size, Blk.new' rfl⟩ ((Kept.refl _ _).alloc _))
  · intro vs w3 hlen hF _ hk
    match vs, hlen with
    | [x0, x1, x2, x3, x4, x5, x6, x7, x8, x9, x10], _ =>
    obtain rfl : x0 = _ := hF 0 _ rfl
    obtain rfl : x1 = _ := hF 1 _ rfl
    obtain rfl : x2 = _ := hF 2 _ rfl
    obtain rfl : x3 = _ := hF 3 _ rfl
    obtain rfl : x4 = _ := hF 4 _ rfl
    obtain rfl : x5 = _ := hF 5 _ rfl
    obtain rfl : x6 = _ := hF 6 _ rfl
    obtain rfl : x7 = _ := hF 7 _ rfl
    obtain rfl : x8 = _ := hF 8 _ rfl
    obtain rfl : x9 = _ := hF 9 _ rfl
    obtain ⟨q, rfl, hq, hb⟩ : ∃ q, x10 = P0 q ∧ W.heap.size ≤ q ∧ Blk w3 q 63 (stC 0 0 0) := hF 10 _ rfl
    clear hF
    simp only [List.take_succ_cons, List.take_zero, putAll, Act.put, List.setIfInBounds_toArray, List.set_cons_succ, List.set_cons_zero]
    refine wpAny_all (rs := [11]) (by kernel_rfl) (by simp) ?_
    intro i hi
    obtain rfl : i = 11 := by simpa using hi
    refine wpOp_of rfl rfl (wp_storeN row63 (.tmp 4) (.tmp 14) rfl rfl q 0 (stC (pOf s) (hOf s) (psnL s)) rfl rfl rfl (stC_one _ _ _) (hb.there (by simp [stC])) ?_)
    refine wpAny_done (by kernel_rfl) ?_ _
    have l1 := (unhide b1).lt
    have c0 := hide (((unhide b0).kept hk (by simp)).other (o := 0) (vs := stC (pOf s) (hOf s) (psnL s)) (show w.heap.size ≠ q by omega))
    have c1 := hide (((unhide b1).kept hk (by simp)).other (o := 0) (vs := stC (pOf s) (hOf s) (psnL s)) (show w.heap.size + 1 ≠ q by omega))
    have c4 := hide (hb.put (vs := stC (pOf s) (hOf s) (psnL s)) rfl)
    have ck := hide (((unhide bk).trans hk).setCells (b := q) (stC (pOf s) (hOf s) (psnL s)) 0 (by omega))
    clear b0 b1 bk hb hk hi
    generalize (w3.setCells q 0 (stC (pOf s) (hOf s) (psnL s))) = W4 at *
    go_wp2_with fail
    refine wp_region_prefS mixed 11 0 rfl (by kernel_rfl) (tc (stT2A s)) (fun _ _ _ _ => True) (skipOf (stT2A s)) (fun j o i b _ => guardsS_some (by kernel_rfl) j o i b) (fun j o _ => guardsS_none (by kernel_rfl) j o) (fun j w => skip_undef w) (fun _ _ _ _ => trivial) (tc_kept _) (by kernel_rfl) ?_ ?_
    · intro j o hj hs' ho a w2 hout hin hk
      show o.wp Tryd.prog a w2 (opPc (stT2A s) o a w2 j 11) _
      match j, ho with
      | 0, ho =>
        obtain rfl := Option.some.inj ho
        exact wp_loadA row63 (.tmp 4) rfl q 0 ((hout 4 (by kernel_rfl)).trans (by kernel_rfl)) (stC (pOf s) (hOf s) (psnL s)) rfl ((unhide c4).kept hk (by simp)).range (postc rfl (Kept.refl _ _))
      | 1, ho =>
        obtain rfl := Option.some.inj ho
        have e0 : a.eval (.tmp 15) = _ := (hin 0 15 (by kernel_rfl) (by kernel_rfl))
        refine wp_callF 43 _ _ rfl #[aggV (stC (pOf s) (hOf s) (psnL s))] (by simp [e0]) (cf43 _ _) ((isStamp30 (pOf s) (hOf s) (psnL s) w2).mono ?_)
        rintro x w3 ⟨rfl, hk3⟩
        exact ⟨_, rfl, postc (by rw [show (isPageB (pOf s) && (decide (hOf s = 0 ∨ hOf s = 1) && isWrit (psnL s))) = false from hS]; rfl) hk3⟩
      | 2, ho =>
        obtain rfl := Option.some.inj ho
        exact o_not (.tmp 16) rfl false (hin 1 16 (by kernel_rfl) (by kernel_rfl)) (postc rfl (Kept.refl _ _))
      | 3, ho =>
        obtain rfl := Option.some.inj ho
        exact wp_move (.tmp 17) rfl (by rw [show a.eval (.tmp 17) = _ from (hin 2 17 (by kernel_rfl) (by kernel_rfl))]; exact (postc rfl (Kept.refl _ _)))
      | 4, ho => exact absurd (show true = false from hs') (by decide)
      | 5, ho => exact absurd (show true = false from hs') (by decide)
      | 6, ho => exact absurd (show true = false from hs') (by decide)
      | 7, ho => exact absurd (show true = false from hs') (by decide)
      | 8, ho => exact absurd (show true = false from hs') (by decide)
      | 9, ho => exact absurd (show true = false from hs') (by decide)
      | 10, ho =>
        obtain rfl := Option.some.inj ho
        exact o_pickT (.tmp 18) (.tmp 24) rfl true false (hin 3 18 (by kernel_rfl) (by kernel_rfl)) (by simp) (postc rfl (Kept.refl _ _)) (by simp)
    · intro vs w5 hlen hF _ hk5
      match vs, hlen with
      | [x0, x1, x2, x3, x4, x5, x6, x7, x8, x9, x10], _ =>
      obtain rfl : x0 = _ := hF 0 _ rfl
      obtain rfl : x1 = _ := hF 1 _ rfl
      obtain rfl : x2 = _ := hF 2 _ rfl
      obtain rfl : x3 = _ := hF 3 _ rfl
      obtain rfl : x4 = _ := hF 4 _ rfl
      obtain rfl : x5 = _ := hF 5 _ rfl
      obtain rfl : x6 = _ := hF 6 _ rfl
      obtain rfl : x7 = _ := hF 7 _ rfl
      obtain rfl : x8 = _ := hF 8 _ rfl
      obtain rfl : x9 = _ := hF 9 _ rfl
      obtain rfl : x10 = _ := hF 10 _ rfl
      clear hF
      simp only [List.take_succ_cons, List.take_zero, putAll, Act.put, List.setIfInBounds_toArray, List.set_cons_succ, List.set_cons_zero]
      refine wpAny_done (by kernel_rfl) ?_ _
      have D1 := hide ((unhide c1).kept hk5 (by simp))
      have D4 := hide ((unhide c4).kept hk5 (by simp))
      have DK := hide ((unhide ck).trans hk5)
      clear hk5 c0 c1 c4 ck
      go_wp2_with (
        first
    | (refine wpBuildZ (stC 0 0 0) build63z rfl rfl ?_)
    | (refine wpStoreA row63 rfl (.tmp 2) (.tmp 26) rfl (w.heap.size + 1) 0 (stC 0 0 0) rfl rfl rfl (stC_one _ _ _) ((unhide D1).there (by simp [stC])) ?_))
      have g4 := (unhide D1).put (vs := (stC 0 0 0)) rfl
      exact bodyPost_ret (res27 _ _ _ _ _ rfl rfl rfl g4) rfl ⟨rfl, (unhide DK).setCells _ _ (by omega)⟩

set_option maxHeartbeats 4000000 in
set_option maxRecDepth 100000 in
theorem stamp_B (s : List Int) (hs : Byts 64 s) (hS : isStampB s = true) (hQ : decide (s = laidL (pOf s) (hOf s) (psnL s) (halfL s)) = true) (w : World) : Calls Tryd.prog 27 #[aggV (u8s s)] w fun e w' => e = .returned (.tuple #[aggV (stC (pOf s) (hOf s) (psnL s)), .bool true]) ∧ Kept [] w w' := by
  have hsu : (u8s s).length = 64 := by rw [u8s_len, hs.len]
  have hp0 : 0 ≤ pOf s ∧ pOf s < 256 := by
    have := hs.byte (s[1]'(by rw [hs.len]; omega)) (List.getElem_mem (by rw [hs.len]; omega))
    simpa [pOf, List.getD, hs.len] using this
  have hm0 : 0 ≤ s.getD 0 0 ∧ s.getD 0 0 < 256 := by
    have := hs.byte (s[0]'(by rw [hs.len]; omega)) (List.getElem_mem (by rw [hs.len]; omega))
    simpa [List.getD, hs.len] using this
  have hh : hOf s = 0 ∨ hOf s = 1 := by unfold isStampB at hS; simp at hS; exact hS.2.1
  go_enter Tryd.func27, Tryd.ntmps27
  go_wp2_with (
    first
    | (refine wpBoxA rfl (.tmp 0) rfl (u8s s) rfl ?_)
    | (refine wpAllocV (stC 0 0 0) zero63 2 rfl rfl rfl ?_
       intro W eW
       have b0 : Hid (Blk W w.heap.size 29 (u8s s)) := by rw [eW]; exact (Blk.new' rfl).alloc _
       have b1 : Hid (Blk W (w.heap.size + 1) 63 (stC 0 0 0)) := by rw [eW]; exact Blk.new' (by simp)
       have bk : Hid (Kept [] w W) := by rw [eW]; exact ((Kept.refl _ _).alloc _).alloc _
       clear eW))
  refine wp_region_prefS mixed 11 1 rfl (by kernel_rfl) (tc (stT1 w W s)) (fun _ _ _ _ => True) (skipOf (stT1 w W s)) (fun j o i b _ => guardsS_some (by kernel_rfl) j o i b) (fun j o _ => guardsS_none (by kernel_rfl) j o) (fun j w => skip_undef w) (fun _ _ _ _ => trivial) (tc_kept _) (by kernel_rfl) ?_ ?_
  · intro j o hj hs' ho a w2 hout hin hk
    show o.wp Tryd.prog a w2 (opPc (stT1 w W s) o a w2 j 11) _
    match j, ho with
    | 0, ho =>
      obtain rfl := Option.some.inj ho
      exact o_idx29 (.tmp 1) 1 (by omega) rfl w.heap.size 0 ((hout 1 (by kernel_rfl)).trans (by kernel_rfl)) (postc rfl (Kept.refl _ _))
    | 1, ho =>
      obtain rfl := Option.some.inj ho
      exact o_load5 (.tmp 5) rfl ⟨w.heap.size, 1, none⟩ _ (hin 0 5 (by kernel_rfl) (by kernel_rfl)) (fits_cell ((unhide b0).kept hk (by simp)) 1 _ (by simp [u8s, pOf, List.getD, hs.len])) (postc rfl (Kept.refl _ _))
    | 2, ho =>
      obtain rfl := Option.some.inj ho
      exact o_conv53 (.tmp 6) rfl (pOf s) hp0 (hin 1 6 (by kernel_rfl) (by kernel_rfl)) (postc rfl (Kept.refl _ _))
    | 3, ho =>
      obtain rfl := Option.some.inj ho
      exact o_idx29 (.tmp 1) 0 (by omega) rfl w.heap.size 0 ((hout 1 (by kernel_rfl)).trans (by kernel_rfl)) (postc rfl (Kept.refl _ _))
    | 4, ho =>
      obtain rfl := Option.some.inj ho
      exact o_load5 (.tmp 8) rfl ⟨w.heap.size, 0, none⟩ _ (hin 3 8 (by kernel_rfl) (by kernel_rfl)) (fits_cell ((unhide b0).kept hk (by simp)) 0 _ (by simp [u8s, List.getD, hs.len])) (postc rfl (Kept.refl _ _))
    | 5, ho =>
      obtain rfl := Option.some.inj ho
      exact o_conv53 (.tmp 9) rfl (s.getD 0 0) hm0 (hin 4 9 (by kernel_rfl) (by kernel_rfl)) (postc rfl (Kept.refl _ _))
    | 6, ho =>
      obtain rfl := Option.some.inj ho
      exact o_sub3 (.tmp 10) 161 rfl (s.getD 0 0) (by omega) (hin 5 10 (by kernel_rfl) (by kernel_rfl)) (postc rfl (Kept.refl _ _))
    | 7, ho =>
      obtain rfl := Option.some.inj ho
      exact wp_loadA row29 (.tmp 1) rfl w.heap.size 0 ((hout 1 (by kernel_rfl)).trans (by kernel_rfl)) (u8s s) hsu ((unhide b0).kept hk (by simp)).range (postc rfl (Kept.refl _ _))
    | 8, ho =>
      obtain rfl := Option.some.inj ho
      have e0 : a.eval (.tmp 12) = _ := (hin 7 12 (by kernel_rfl) (by kernel_rfl))
      refine wp_callF 42 _ _ rfl #[aggV (u8s s)] (by simp [e0]) (cf42 _ _) ((psn29 s hs w2).mono ?_)
      rintro x w3 ⟨rfl, hk3⟩
      exact ⟨_, rfl, postc rfl hk3⟩
    | 9, ho =>
      obtain rfl := Option.some.inj ho
      have e0 : a.eval (.tmp 7) = _ := (hin 2 7 (by kernel_rfl) (by kernel_rfl))
      have e1 : a.eval (.tmp 11) = _ := (hin 6 11 (by kernel_rfl) (by kernel_rfl))
      have e2 : a.eval (.tmp 13) = _ := (hin 8 13 (by kernel_rfl) (by kernel_rfl))
      exact o_buildP _ rfl #[(0, .int .i64 (pOf s)), (1, .int .i64 (hOf s)), (2, .int .i64 (psnL s))] (by simp only [List.map_toArray, List.map_cons, List.map_nil, e0, e1, e2]) _ (build63 _ _ _ _) (postc rfl (Kept.refl _ _))
    | 10, ho =>
      obtain rfl := Option.some.inj ho
      exact wp_allocA (stC 0 0 0) zero63 rfl (postc ⟨_, rfl, hk.size, Blk.new' rfl⟩ ((Kept.refl _ _).alloc _))
  · intro vs w3 hlen hF _ hk
    match vs, hlen with
    | [x0, x1, x2, x3, x4, x5, x6, x7, x8, x9, x10], _ =>
    obtain rfl : x0 = _ := hF 0 _ rfl
    obtain rfl : x1 = _ := hF 1 _ rfl
    obtain rfl : x2 = _ := hF 2 _ rfl
    obtain rfl : x3 = _ := hF 3 _ rfl
    obtain rfl : x4 = _ := hF 4 _ rfl
    obtain rfl : x5 = _ := hF 5 _ rfl
    obtain rfl : x6 = _ := hF 6 _ rfl
    obtain rfl : x7 = _ := hF 7 _ rfl
    obtain rfl : x8 = _ := hF 8 _ rfl
    obtain rfl : x9 = _ := hF 9 _ rfl
    obtain ⟨q, rfl, hq, hb⟩ : ∃ q, x10 = P0 q ∧ W.heap.size ≤ q ∧ Blk w3 q 63 (stC 0 0 0) := hF 10 _ rfl
    clear hF
    simp only [List.take_succ_cons, List.take_zero, putAll, Act.put, List.setIfInBounds_toArray, List.set_cons_succ, List.set_cons_zero]
    refine wpAny_all (rs := [11]) (by kernel_rfl) (by simp) ?_
    intro i hi
    obtain rfl : i = 11 := by simpa using hi
    refine wpOp_of rfl rfl (wp_storeN row63 (.tmp 4) (.tmp 14) rfl rfl q 0 (stC (pOf s) (hOf s) (psnL s)) rfl rfl rfl (stC_one _ _ _) (hb.there (by simp [stC])) ?_)
    refine wpAny_done (by kernel_rfl) ?_ _
    have l1 := (unhide b1).lt
    have c0 := hide (((unhide b0).kept hk (by simp)).other (o := 0) (vs := stC (pOf s) (hOf s) (psnL s)) (show w.heap.size ≠ q by omega))
    have c1 := hide (((unhide b1).kept hk (by simp)).other (o := 0) (vs := stC (pOf s) (hOf s) (psnL s)) (show w.heap.size + 1 ≠ q by omega))
    have c4 := hide (hb.put (vs := stC (pOf s) (hOf s) (psnL s)) rfl)
    have ck := hide (((unhide bk).trans hk).setCells (b := q) (stC (pOf s) (hOf s) (psnL s)) 0 (by omega))
    clear b0 b1 bk hb hk hi
    generalize (w3.setCells q 0 (stC (pOf s) (hOf s) (psnL s))) = W4 at *
    go_wp2_with fail
    refine wp_region_prefS mixed 11 0 rfl (by kernel_rfl) (tc (stT2B s)) (fun _ _ _ _ => True) (skipOf (stT2B s)) (fun j o i b _ => guardsS_some (by kernel_rfl) j o i b) (fun j o _ => guardsS_none (by kernel_rfl) j o) (fun j w => skip_undef w) (fun _ _ _ _ => trivial) (tc_kept _) (by kernel_rfl) ?_ ?_
    · intro j o hj hs' ho a w2 hout hin hk
      show o.wp Tryd.prog a w2 (opPc (stT2B s) o a w2 j 11) _
      match j, ho with
      | 0, ho =>
        obtain rfl := Option.some.inj ho
        exact wp_loadA row63 (.tmp 4) rfl q 0 ((hout 4 (by kernel_rfl)).trans (by kernel_rfl)) (stC (pOf s) (hOf s) (psnL s)) rfl ((unhide c4).kept hk (by simp)).range (postc rfl (Kept.refl _ _))
      | 1, ho =>
        obtain rfl := Option.some.inj ho
        have e0 : a.eval (.tmp 15) = _ := (hin 0 15 (by kernel_rfl) (by kernel_rfl))
        refine wp_callF 43 _ _ rfl #[aggV (stC (pOf s) (hOf s) (psnL s))] (by simp [e0]) (cf43 _ _) ((isStamp30 (pOf s) (hOf s) (psnL s) w2).mono ?_)
        rintro x w3 ⟨rfl, hk3⟩
        exact ⟨_, rfl, postc (by rw [show (isPageB (pOf s) && (decide (hOf s = 0 ∨ hOf s = 1) && isWrit (psnL s))) = true from hS]; rfl) hk3⟩
      | 2, ho =>
        obtain rfl := Option.some.inj ho
        exact o_not (.tmp 16) rfl true (hin 1 16 (by kernel_rfl) (by kernel_rfl)) (postc rfl (Kept.refl _ _))
      | 3, ho =>
        obtain rfl := Option.some.inj ho
        exact wp_move (.tmp 17) rfl (by rw [show a.eval (.tmp 17) = _ from (hin 2 17 (by kernel_rfl) (by kernel_rfl))]; exact (postc rfl (Kept.refl _ _)))
      | 4, ho =>
        obtain rfl := Option.some.inj ho
        exact wp_loadA row29 (.tmp 1) rfl w.heap.size 0 ((hout 1 (by kernel_rfl)).trans (by kernel_rfl)) (u8s s) hsu ((unhide c0).kept hk (by simp)).range (postc rfl (Kept.refl _ _))
      | 5, ho =>
        obtain rfl := Option.some.inj ho
        exact wp_loadA row63 (.tmp 4) rfl q 0 ((hout 4 (by kernel_rfl)).trans (by kernel_rfl)) (stC (pOf s) (hOf s) (psnL s)) rfl ((unhide c4).kept hk (by simp)).range (postc rfl (Kept.refl _ _))
      | 6, ho =>
        obtain rfl := Option.some.inj ho
        exact wp_loadA row29 (.tmp 1) rfl w.heap.size 0 ((hout 1 (by kernel_rfl)).trans (by kernel_rfl)) (u8s s) hsu ((unhide c0).kept hk (by simp)).range (postc rfl (Kept.refl _ _))
      | 7, ho =>
        obtain rfl := Option.some.inj ho
        have e0 : a.eval (.tmp 21) = _ := (hin 6 21 (by kernel_rfl) (by kernel_rfl))
        refine wp_callF 45 _ _ rfl #[aggV (u8s s)] (by simp [e0]) (cf45 _ _) ((halfOf31 s hs w2).mono ?_)
        rintro x w3 ⟨rfl, hk3⟩
        exact ⟨_, rfl, postc rfl hk3⟩
      | 8, ho =>
        obtain rfl := Option.some.inj ho
        have e0 : a.eval (.tmp 20) = _ := (hin 5 20 (by kernel_rfl) (by kernel_rfl))
        have e1 : a.eval (.tmp 22) = _ := (hin 7 22 (by kernel_rfl) (by kernel_rfl))
        refine wp_callF 44 _ _ rfl #[aggV (stC (pOf s) (hOf s) (psnL s)), aggV (u8s (halfL s))] (by simp [e0, e1]) (cf44 _ _) ((laid26 (pOf s) (hOf s) (psnL s) (halfL s) (halfL_byts hs) hh w2).mono ?_)
        rintro x w3 ⟨rfl, hk3⟩
        exact ⟨_, rfl, postc rfl hk3⟩
      | 9, ho =>
        obtain rfl := Option.some.inj ho
        exact o_neqA 29 29 guard29 (.tmp 19) (.tmp 23) rfl (u8s s) (u8s (laidL (pOf s) (hOf s) (psnL s) (halfL s))) (hin 4 19 (by kernel_rfl) (by kernel_rfl)) (hin 8 23 (by kernel_rfl) (by kernel_rfl)) true ((equal29 _ _ _ hs.len (laidL_byts (halfL_byts hs)).len).trans (by rw [hQ])) (postc rfl (Kept.refl _ _))
      | 10, ho =>
        obtain rfl := Option.some.inj ho
        exact o_pickT (.tmp 18) (.tmp 24) rfl false false (hin 3 18 (by kernel_rfl) (by kernel_rfl)) (fun _ => (hin 9 24 (by kernel_rfl) (by kernel_rfl))) (postc rfl (Kept.refl _ _)) (by simp)
    · intro vs w5 hlen hF _ hk5
      match vs, hlen with
      | [x0, x1, x2, x3, x4, x5, x6, x7, x8, x9, x10], _ =>
      obtain rfl : x0 = _ := hF 0 _ rfl
      obtain rfl : x1 = _ := hF 1 _ rfl
      obtain rfl : x2 = _ := hF 2 _ rfl
      obtain rfl : x3 = _ := hF 3 _ rfl
      obtain rfl : x4 = _ := hF 4 _ rfl
      obtain rfl : x5 = _ := hF 5 _ rfl
      obtain rfl : x6 = _ := hF 6 _ rfl
      obtain rfl : x7 = _ := hF 7 _ rfl
      obtain rfl : x8 = _ := hF 8 _ rfl
      obtain rfl : x9 = _ := hF 9 _ rfl
      obtain rfl : x10 = _ := hF 10 _ rfl
      clear hF
      simp only [List.take_succ_cons, List.take_zero, putAll, Act.put, List.setIfInBounds_toArray, List.set_cons_succ, List.set_cons_zero]
      refine wpAny_done (by kernel_rfl) ?_ _
      have D1 := hide ((unhide c1).kept hk5 (by simp))
      have D4 := hide ((unhide c4).kept hk5 (by simp))
      have DK := hide ((unhide ck).trans hk5)
      clear hk5 c0 c1 c4 ck
      go_wp2_with (
        first
    | (refine wpLoadA row63 rfl (.tmp 4) rfl q 0 rfl (stC (pOf s) (hOf s) (psnL s)) rfl (unhide D4).range ?_)
    | (refine wpStoreA row63 rfl (.tmp 2) (.tmp 27) rfl (w.heap.size + 1) 0 (stC (pOf s) (hOf s) (psnL s)) rfl rfl rfl (stC_one _ _ _) ((unhide D1).there (by simp [stC])) ?_))
      have g4 := (unhide D1).put (vs := (stC (pOf s) (hOf s) (psnL s))) rfl
      exact bodyPost_ret (res27 _ _ _ _ _ rfl rfl rfl g4) rfl ⟨rfl, (unhide DK).setCells _ _ (by omega)⟩

set_option maxHeartbeats 4000000 in
set_option maxRecDepth 100000 in
theorem stamp_C (s : List Int) (hs : Byts 64 s) (hS : isStampB s = true) (hQ : decide (s = laidL (pOf s) (hOf s) (psnL s) (halfL s)) = false) (w : World) : Calls Tryd.prog 27 #[aggV (u8s s)] w fun e w' => e = .returned (.tuple #[aggV (stC 0 0 0), .bool false]) ∧ Kept [] w w' := by
  have hsu : (u8s s).length = 64 := by rw [u8s_len, hs.len]
  have hp0 : 0 ≤ pOf s ∧ pOf s < 256 := by
    have := hs.byte (s[1]'(by rw [hs.len]; omega)) (List.getElem_mem (by rw [hs.len]; omega))
    simpa [pOf, List.getD, hs.len] using this
  have hm0 : 0 ≤ s.getD 0 0 ∧ s.getD 0 0 < 256 := by
    have := hs.byte (s[0]'(by rw [hs.len]; omega)) (List.getElem_mem (by rw [hs.len]; omega))
    simpa [List.getD, hs.len] using this
  have hh : hOf s = 0 ∨ hOf s = 1 := by unfold isStampB at hS; simp at hS; exact hS.2.1
  go_enter Tryd.func27, Tryd.ntmps27
  go_wp2_with (
    first
    | (refine wpBoxA rfl (.tmp 0) rfl (u8s s) rfl ?_)
    | (refine wpAllocV (stC 0 0 0) zero63 2 rfl rfl rfl ?_
       intro W eW
       have b0 : Hid (Blk W w.heap.size 29 (u8s s)) := by rw [eW]; exact (Blk.new' rfl).alloc _
       have b1 : Hid (Blk W (w.heap.size + 1) 63 (stC 0 0 0)) := by rw [eW]; exact Blk.new' (by simp)
       have bk : Hid (Kept [] w W) := by rw [eW]; exact ((Kept.refl _ _).alloc _).alloc _
       clear eW))
  refine wp_region_prefS mixed 11 1 rfl (by kernel_rfl) (tc (stT1 w W s)) (fun _ _ _ _ => True) (skipOf (stT1 w W s)) (fun j o i b _ => guardsS_some (by kernel_rfl) j o i b) (fun j o _ => guardsS_none (by kernel_rfl) j o) (fun j w => skip_undef w) (fun _ _ _ _ => trivial) (tc_kept _) (by kernel_rfl) ?_ ?_
  · intro j o hj hs' ho a w2 hout hin hk
    show o.wp Tryd.prog a w2 (opPc (stT1 w W s) o a w2 j 11) _
    match j, ho with
    | 0, ho =>
      obtain rfl := Option.some.inj ho
      exact o_idx29 (.tmp 1) 1 (by omega) rfl w.heap.size 0 ((hout 1 (by kernel_rfl)).trans (by kernel_rfl)) (postc rfl (Kept.refl _ _))
    | 1, ho =>
      obtain rfl := Option.some.inj ho
      exact o_load5 (.tmp 5) rfl ⟨w.heap.size, 1, none⟩ _ (hin 0 5 (by kernel_rfl) (by kernel_rfl)) (fits_cell ((unhide b0).kept hk (by simp)) 1 _ (by simp [u8s, pOf, List.getD, hs.len])) (postc rfl (Kept.refl _ _))
    | 2, ho =>
      obtain rfl := Option.some.inj ho
      exact o_conv53 (.tmp 6) rfl (pOf s) hp0 (hin 1 6 (by kernel_rfl) (by kernel_rfl)) (postc rfl (Kept.refl _ _))
    | 3, ho =>
      obtain rfl := Option.some.inj ho
      exact o_idx29 (.tmp 1) 0 (by omega) rfl w.heap.size 0 ((hout 1 (by kernel_rfl)).trans (by kernel_rfl)) (postc rfl (Kept.refl _ _))
    | 4, ho =>
      obtain rfl := Option.some.inj ho
      exact o_load5 (.tmp 8) rfl ⟨w.heap.size, 0, none⟩ _ (hin 3 8 (by kernel_rfl) (by kernel_rfl)) (fits_cell ((unhide b0).kept hk (by simp)) 0 _ (by simp [u8s, List.getD, hs.len])) (postc rfl (Kept.refl _ _))
    | 5, ho =>
      obtain rfl := Option.some.inj ho
      exact o_conv53 (.tmp 9) rfl (s.getD 0 0) hm0 (hin 4 9 (by kernel_rfl) (by kernel_rfl)) (postc rfl (Kept.refl _ _))
    | 6, ho =>
      obtain rfl := Option.some.inj ho
      exact o_sub3 (.tmp 10) 161 rfl (s.getD 0 0) (by omega) (hin 5 10 (by kernel_rfl) (by kernel_rfl)) (postc rfl (Kept.refl _ _))
    | 7, ho =>
      obtain rfl := Option.some.inj ho
      exact wp_loadA row29 (.tmp 1) rfl w.heap.size 0 ((hout 1 (by kernel_rfl)).trans (by kernel_rfl)) (u8s s) hsu ((unhide b0).kept hk (by simp)).range (postc rfl (Kept.refl _ _))
    | 8, ho =>
      obtain rfl := Option.some.inj ho
      have e0 : a.eval (.tmp 12) = _ := (hin 7 12 (by kernel_rfl) (by kernel_rfl))
      refine wp_callF 42 _ _ rfl #[aggV (u8s s)] (by simp [e0]) (cf42 _ _) ((psn29 s hs w2).mono ?_)
      rintro x w3 ⟨rfl, hk3⟩
      exact ⟨_, rfl, postc rfl hk3⟩
    | 9, ho =>
      obtain rfl := Option.some.inj ho
      have e0 : a.eval (.tmp 7) = _ := (hin 2 7 (by kernel_rfl) (by kernel_rfl))
      have e1 : a.eval (.tmp 11) = _ := (hin 6 11 (by kernel_rfl) (by kernel_rfl))
      have e2 : a.eval (.tmp 13) = _ := (hin 8 13 (by kernel_rfl) (by kernel_rfl))
      exact o_buildP _ rfl #[(0, .int .i64 (pOf s)), (1, .int .i64 (hOf s)), (2, .int .i64 (psnL s))] (by simp only [List.map_toArray, List.map_cons, List.map_nil, e0, e1, e2]) _ (build63 _ _ _ _) (postc rfl (Kept.refl _ _))
    | 10, ho =>
      obtain rfl := Option.some.inj ho
      exact wp_allocA (stC 0 0 0) zero63 rfl (postc ⟨_, rfl, hk.size, Blk.new' rfl⟩ ((Kept.refl _ _).alloc _))
  · intro vs w3 hlen hF _ hk
    match vs, hlen with
    | [x0, x1, x2, x3, x4, x5, x6, x7, x8, x9, x10], _ =>
    obtain rfl : x0 = _ := hF 0 _ rfl
    obtain rfl : x1 = _ := hF 1 _ rfl
    obtain rfl : x2 = _ := hF 2 _ rfl
    obtain rfl : x3 = _ := hF 3 _ rfl
    obtain rfl : x4 = _ := hF 4 _ rfl
    obtain rfl : x5 = _ := hF 5 _ rfl
    obtain rfl : x6 = _ := hF 6 _ rfl
    obtain rfl : x7 = _ := hF 7 _ rfl
    obtain rfl : x8 = _ := hF 8 _ rfl
    obtain rfl : x9 = _ := hF 9 _ rfl
    obtain ⟨q, rfl, hq, hb⟩ : ∃ q, x10 = P0 q ∧ W.heap.size ≤ q ∧ Blk w3 q 63 (stC 0 0 0) := hF 10 _ rfl
    clear hF
    simp only [List.take_succ_cons, List.take_zero, putAll, Act.put, List.setIfInBounds_toArray, List.set_cons_succ, List.set_cons_zero]
    refine wpAny_all (rs := [11]) (by kernel_rfl) (by simp) ?_
    intro i hi
    obtain rfl : i = 11 := by simpa using hi
    refine wpOp_of rfl rfl (wp_storeN row63 (.tmp 4) (.tmp 14) rfl rfl q 0 (stC (pOf s) (hOf s) (psnL s)) rfl rfl rfl (stC_one _ _ _) (hb.there (by simp [stC])) ?_)
    refine wpAny_done (by kernel_rfl) ?_ _
    have l1 := (unhide b1).lt
    have c0 := hide (((unhide b0).kept hk (by simp)).other (o := 0) (vs := stC (pOf s) (hOf s) (psnL s)) (show w.heap.size ≠ q by omega))
    have c1 := hide (((unhide b1).kept hk (by simp)).other (o := 0) (vs := stC (pOf s) (hOf s) (psnL s)) (show w.heap.size + 1 ≠ q by omega))
    have c4 := hide (hb.put (vs := stC (pOf s) (hOf s) (psnL s)) rfl)
    have ck := hide (((unhide bk).trans hk).setCells (b := q) (stC (pOf s) (hOf s) (psnL s)) 0 (by omega))
    clear b0 b1 bk hb hk hi
    generalize (w3.setCells q 0 (stC (pOf s) (hOf s) (psnL s))) = W4 at *
    go_wp2_with fail
    refine wp_region_prefS mixed 11 0 rfl (by kernel_rfl) (tc (stT2C s)) (fun _ _ _ _ => True) (skipOf (stT2C s)) (fun j o i b _ => guardsS_some (by kernel_rfl) j o i b) (fun j o _ => guardsS_none (by kernel_rfl) j o) (fun j w => skip_undef w) (fun _ _ _ _ => trivial) (tc_kept _) (by kernel_rfl) ?_ ?_
    · intro j o hj hs' ho a w2 hout hin hk
      show o.wp Tryd.prog a w2 (opPc (stT2C s) o a w2 j 11) _
      match j, ho with
      | 0, ho =>
        obtain rfl := Option.some.inj ho
        exact wp_loadA row63 (.tmp 4) rfl q 0 ((hout 4 (by kernel_rfl)).trans (by kernel_rfl)) (stC (pOf s) (hOf s) (psnL s)) rfl ((unhide c4).kept hk (by simp)).range (postc rfl (Kept.refl _ _))
      | 1, ho =>
        obtain rfl := Option.some.inj ho
        have e0 : a.eval (.tmp 15) = _ := (hin 0 15 (by kernel_rfl) (by kernel_rfl))
        refine wp_callF 43 _ _ rfl #[aggV (stC (pOf s) (hOf s) (psnL s))] (by simp [e0]) (cf43 _ _) ((isStamp30 (pOf s) (hOf s) (psnL s) w2).mono ?_)
        rintro x w3 ⟨rfl, hk3⟩
        exact ⟨_, rfl, postc (by rw [show (isPageB (pOf s) && (decide (hOf s = 0 ∨ hOf s = 1) && isWrit (psnL s))) = true from hS]; rfl) hk3⟩
      | 2, ho =>
        obtain rfl := Option.some.inj ho
        exact o_not (.tmp 16) rfl true (hin 1 16 (by kernel_rfl) (by kernel_rfl)) (postc rfl (Kept.refl _ _))
      | 3, ho =>
        obtain rfl := Option.some.inj ho
        exact wp_move (.tmp 17) rfl (by rw [show a.eval (.tmp 17) = _ from (hin 2 17 (by kernel_rfl) (by kernel_rfl))]; exact (postc rfl (Kept.refl _ _)))
      | 4, ho =>
        obtain rfl := Option.some.inj ho
        exact wp_loadA row29 (.tmp 1) rfl w.heap.size 0 ((hout 1 (by kernel_rfl)).trans (by kernel_rfl)) (u8s s) hsu ((unhide c0).kept hk (by simp)).range (postc rfl (Kept.refl _ _))
      | 5, ho =>
        obtain rfl := Option.some.inj ho
        exact wp_loadA row63 (.tmp 4) rfl q 0 ((hout 4 (by kernel_rfl)).trans (by kernel_rfl)) (stC (pOf s) (hOf s) (psnL s)) rfl ((unhide c4).kept hk (by simp)).range (postc rfl (Kept.refl _ _))
      | 6, ho =>
        obtain rfl := Option.some.inj ho
        exact wp_loadA row29 (.tmp 1) rfl w.heap.size 0 ((hout 1 (by kernel_rfl)).trans (by kernel_rfl)) (u8s s) hsu ((unhide c0).kept hk (by simp)).range (postc rfl (Kept.refl _ _))
      | 7, ho =>
        obtain rfl := Option.some.inj ho
        have e0 : a.eval (.tmp 21) = _ := (hin 6 21 (by kernel_rfl) (by kernel_rfl))
        refine wp_callF 45 _ _ rfl #[aggV (u8s s)] (by simp [e0]) (cf45 _ _) ((halfOf31 s hs w2).mono ?_)
        rintro x w3 ⟨rfl, hk3⟩
        exact ⟨_, rfl, postc rfl hk3⟩
      | 8, ho =>
        obtain rfl := Option.some.inj ho
        have e0 : a.eval (.tmp 20) = _ := (hin 5 20 (by kernel_rfl) (by kernel_rfl))
        have e1 : a.eval (.tmp 22) = _ := (hin 7 22 (by kernel_rfl) (by kernel_rfl))
        refine wp_callF 44 _ _ rfl #[aggV (stC (pOf s) (hOf s) (psnL s)), aggV (u8s (halfL s))] (by simp [e0, e1]) (cf44 _ _) ((laid26 (pOf s) (hOf s) (psnL s) (halfL s) (halfL_byts hs) hh w2).mono ?_)
        rintro x w3 ⟨rfl, hk3⟩
        exact ⟨_, rfl, postc rfl hk3⟩
      | 9, ho =>
        obtain rfl := Option.some.inj ho
        exact o_neqA 29 29 guard29 (.tmp 19) (.tmp 23) rfl (u8s s) (u8s (laidL (pOf s) (hOf s) (psnL s) (halfL s))) (hin 4 19 (by kernel_rfl) (by kernel_rfl)) (hin 8 23 (by kernel_rfl) (by kernel_rfl)) false ((equal29 _ _ _ hs.len (laidL_byts (halfL_byts hs)).len).trans (by rw [hQ])) (postc rfl (Kept.refl _ _))
      | 10, ho =>
        obtain rfl := Option.some.inj ho
        exact o_pickT (.tmp 18) (.tmp 24) rfl false true (hin 3 18 (by kernel_rfl) (by kernel_rfl)) (fun _ => (hin 9 24 (by kernel_rfl) (by kernel_rfl))) (postc rfl (Kept.refl _ _)) (by simp)
    · intro vs w5 hlen hF _ hk5
      match vs, hlen with
      | [x0, x1, x2, x3, x4, x5, x6, x7, x8, x9, x10], _ =>
      obtain rfl : x0 = _ := hF 0 _ rfl
      obtain rfl : x1 = _ := hF 1 _ rfl
      obtain rfl : x2 = _ := hF 2 _ rfl
      obtain rfl : x3 = _ := hF 3 _ rfl
      obtain rfl : x4 = _ := hF 4 _ rfl
      obtain rfl : x5 = _ := hF 5 _ rfl
      obtain rfl : x6 = _ := hF 6 _ rfl
      obtain rfl : x7 = _ := hF 7 _ rfl
      obtain rfl : x8 = _ := hF 8 _ rfl
      obtain rfl : x9 = _ := hF 9 _ rfl
      obtain rfl : x10 = _ := hF 10 _ rfl
      clear hF
      simp only [List.take_succ_cons, List.take_zero, putAll, Act.put, List.setIfInBounds_toArray, List.set_cons_succ, List.set_cons_zero]
      refine wpAny_done (by kernel_rfl) ?_ _
      have D1 := hide ((unhide c1).kept hk5 (by simp))
      have D4 := hide ((unhide c4).kept hk5 (by simp))
      have DK := hide ((unhide ck).trans hk5)
      clear hk5 c0 c1 c4 ck
      go_wp2_with (
        first
    | (refine wpBuildZ (stC 0 0 0) build63z rfl rfl ?_)
    | (refine wpStoreA row63 rfl (.tmp 2) (.tmp 26) rfl (w.heap.size + 1) 0 (stC 0 0 0) rfl rfl rfl (stC_one _ _ _) ((unhide D1).there (by simp [stC])) ?_))
      have g4 := (unhide D1).put (vs := (stC 0 0 0)) rfl
      exact bodyPost_ret (res27 _ _ _ _ _ rfl rfl rfl g4) rfl ⟨rfl, (unhide DK).setCells _ _ (by omega)⟩

theorem stamp16 (s : List Int) (hs : Byts 64 s) (w : World) : Calls Tryd.prog 27 #[aggV (u8s s)] w fun e w' => e = .returned (.tuple #[aggV (stC (stampL s).1.1 (stampL s).1.2.1 (stampL s).1.2.2), .bool (stampL s).2]) ∧ Kept [] w w' := by
  cases hS : isStampB s with
  | false =>
    have e : stampL s = ((0, 0, 0), false) := by simp [stampL, hS]
    rw [e]
    exact stamp_A s hs hS w
  | true =>
    by_cases hQ : s = laidL (pOf s) (hOf s) (psnL s) (halfL s)
    · have e : stampL s = ((pOf s, hOf s, psnL s), true) := by unfold stampL; rw [if_pos ⟨hS, hQ⟩]
      rw [e]
      exact stamp_B s hs hS (decide_eq_true hQ) w
    · have e : stampL s = ((0, 0, 0), false) := by unfold stampL; rw [if_neg (fun h => hQ h.2)]
      rw [e]
      exact stamp_C s hs hS (decide_eq_false hQ) w

end Go.Proofs.YtkpkiibahfdomaaDoor.Pg
