/-
  The walk of Stamp: what a page's sector says. What follows of Put, Get and Stamp: sectors that are laid say their page, half, PSN and bytes; halves of unlike versions are not whole. The walks of the document's May and Half. The walk of the document's Half.
-/
import Derived.Test.YtkpkiibahfdomaaDoorPrefs
import Derived.Test.YtkpkiibahfdomaaDoorPgB
import Derived.Test.YtkpkiibahfdomaaDoorPlainr

namespace Go.Proofs.YtkpkiibahfdomaaDoor.Pg
open Go.RowKit

theorem wp_move {P : Program} {o : Oper} {a : Act} {w : World} {K : Act → World → Prop} {Q : Exit → Act → World → Prop} (x : Operand) (ho : o.op = .move x) (h : K (a.put o.dst (a.eval x)) w) : o.wp P a w K Q := by
  unfold Oper.wp execOp
  simp only [ho]
  exact h

/-- What is known of a value: it is this one; the operation is left out; a pointer to a new block that has these cells. -/
inductive Fc
  | is (v : Value)
  | no
  | new (T : Nat) (vs : List Value) (B : Nat)
def Fc.at (v : Value) (w : World) : Fc → Prop
  | .is u => v = u
  | .no => v = undef
  | .new T vs B => ∃ q, v = P0 q ∧ B ≤ q ∧ Blk w q T vs
def tc (fs : List Fc) (j : Nat) (v : Value) (w : World) : Prop := match fs[j]? with
  | some f => f.at v w
  | none => True
theorem tc_kept (fs : List Fc) : ∀ j v w w', tc fs j v w → Kept [] w w' → tc fs j v w' := by
  intro j v w w' h hk
  unfold tc at *
  cases hf : fs[j]? with
  | none => trivial
  | some f =>
    rw [hf] at h
    cases f with
    | is u => exact h
    | no => exact h
    | new T vs B =>
      obtain ⟨q, h1, h2, h3⟩ := h
      exact ⟨q, h1, h2, h3.kept hk (by simp)⟩
def skipOf (fs : List Fc) (j : Nat) : Bool := match fs[j]? with
  | some .no => true
  | _ => false
/-- The guards of a region are what the table says. -/
def guardsS (ops : Array Oper) (fs : List Fc) : Bool := (List.range ops.size).all (fun j => match ops[j]? with
  | none => false
  | some o => match o.guard with
    | none => !skipOf fs j
    | some (i, b) => match fs[i]? with
      | some (.is (.bool c)) => if c == b then !skipOf fs j else skipOf fs j
      | some .no => skipOf fs j
      | _ => false)
theorem guardsS_some {ops : Array Oper} {fs : List Fc} (h : guardsS ops fs = true) : ∀ (j : Nat) (o : Oper) (i : Nat) (b : Bool), ops[j]? = some o → o.guard = some (i, b) → (skipOf fs j = false ∧ ∀ v w, tc fs i v w → v = .bool b) ∨ (skipOf fs j = true ∧ ∀ v w, tc fs i v w → v ≠ .bool b) := by
  intro j o i b ho hg
  have := (List.all_eq_true.1 h) j (List.mem_range.2 (Array.getElem?_eq_some_iff.1 ho).1)
  simp only [ho, hg] at this
  unfold tc
  cases hfi : fs[i]? with
  | none => rw [hfi] at this; simp at this
  | some f =>
    rw [hfi] at this
    cases f with
    | new T vs B => simp at this
    | no =>
      refine .inr ⟨by simpa using this, fun v w hv => ?_⟩
      have : v = undef := hv
      rw [this]
      simp [undef]
    | is u =>
      cases u <;> first | (simp at this; done) | skip
      rename_i c
      by_cases hcb : c = b
      · subst hcb
        refine .inl ⟨by simpa using this, fun v w hv => hv⟩
      · refine .inr ⟨?_, fun v w hv => ?_⟩
        · have hne : (c == b) = false := beq_eq_false_iff_ne.2 hcb
          simpa [hne] using this
        · have hv' : v = .bool c := hv
          rw [hv']
          intro e
          exact hcb (by cases e; rfl)
theorem guardsS_none {ops : Array Oper} {fs : List Fc} (h : guardsS ops fs = true) : ∀ (j : Nat) (o : Oper), ops[j]? = some o → o.guard = none → skipOf fs j = false := by
  intro j o ho hg
  have := (List.all_eq_true.1 h) j (List.mem_range.2 (Array.getElem?_eq_some_iff.1 ho).1)
  simp only [ho, hg] at this
  simpa using this
theorem skip_undef {fs : List Fc} {j : Nat} (w : World) (h : skipOf fs j = true) : tc fs j undef w := by
  unfold skipOf at h
  unfold tc
  split at h
  · next hf => rw [hf]; rfl
  · cases h
/-- What each operation of such a region must show. -/
def opPc (fs : List Fc) (o : Oper) (a : Act) (w : World) (j n : Nat) (a' : Act) (w' : World) : Prop := ∃ v, a' = a.put o.dst v ∧ tc fs j v w' ∧ Kept [] w w' ∧ ∀ i u, i < n → i ≠ j → tc fs i u w → True
theorem postc {fs : List Fc} {o : Oper} {a : Act} {w w' : World} {j n : Nat} {v : Value} (hv : tc fs j v w') (hk : Kept [] w w') : opPc fs o a w j n (a.put o.dst v) w' := ⟨v, rfl, hv, hk, fun _ _ _ _ _ => trivial⟩

section
variable {o : Oper} {a : Act} {w : World} {K : Act → World → Prop} {Q : Exit → Act → World → Prop}
theorem o_conv53 (x : Operand) (ho : o.op = .convert 5 3 x) (c : Int) (hc : 0 ≤ c ∧ c < 256) (hx : a.eval x = .int .u8 c) (h : K (a.put o.dst (.int .i64 c)) w) : o.wp Tryd.prog a w K Q := by
  have hw : IntKind.i64.wrap c = c := by rw [IntKind.wrap_i64]; omega
  unfold Oper.wp execOp
  simp only [ho, hx]
  simp [go_sem, hw]
  exact h
theorem o_sub3 (x : Operand) (k : Int) (ho : o.op = .binOp .sub 3 x (.const (.int .i64 k)) 3) (c : Int) (hc : -1000000 ≤ c - k ∧ c - k ≤ 1000000) (hx : a.eval x = .int .i64 c) (h : K (a.put o.dst (.int .i64 (c - k))) w) : o.wp Tryd.prog a w K Q := by
  have hw : IntKind.i64.wrap (c - k) = c - k := by rw [IntKind.wrap_i64]; omega
  unfold Oper.wp execOp
  simp only [ho, hx]
  simp [go_sem, hw]
  exact h
theorem o_pickT (c x : Operand) (ho : o.op = .pick c (.const (.bool true)) x) (r s : Bool) (hc : a.eval c = .bool r) (hx : r = false → a.eval x = .bool s) (h : K (a.put o.dst (.bool (r || s))) w) (hs : r = true → s = false) : o.wp Tryd.prog a w K Q := by
  unfold Oper.wp execOp
  simp only [ho, hc]
  cases r with
  | true => rw [hs rfl] at h; simp [go_sem]; exact h
  | false => rw [hx rfl]; simp [go_sem]; exact h
theorem o_buildP {T : Nat} (parts : Array (Nat × Operand)) (ho : o.op = .build T parts) (ps : Array (Nat × Value)) (hp : (parts.map fun (i, x) => (i, a.eval x)) = ps) (vs : List Value) (hr : (Instr.build T ps).run Tryd.prog w = .ok (aggV vs) w) (h : K (a.put o.dst (aggV vs)) w) : o.wp Tryd.prog a w K Q := by
  subst hp
  unfold Oper.wp execOp
  simp only [ho, Sem.run_bind, hr, Result.andThen_ok]
  exact h
theorem o_neqA (T r : Nat) (hG : Tryd.prog.eqGuardType Tryd.prog.depth T = false) (x y : Operand) (ho : o.op = .binOp .neq T x y r) (vs us : List Value) (hx : a.eval x = aggV vs) (hy : a.eval y = aggV us) (c : Bool)
    (he : (Op.equal T (aggV vs) (aggV us)).run Tryd.prog w = .ok c w) (h : K (a.put o.dst (.bool (!c))) w) : o.wp Tryd.prog a w K Q := by
  unfold Oper.wp execOp
  simp only [aggV] at he hx hy
  have hg : (eqGuard .neq T x y (.agg vs.toArray) (.agg us.toArray)).run Tryd.prog w = .ok () w := by simp [eqGuard, Sem.run_bind, hG]
  have hb : (binOp BinOp.neq T (.agg vs.toArray) (.agg us.toArray)).run Tryd.prog w = .ok (.bool (!c)) w := by simp only [binOp, Sem.run_bind, he, Result.andThen_ok, Sem.run_pure]
  simp only [ho, hx, hy, Sem.run_bind, hg, hb, Result.andThen_ok]
  exact h
end
theorem cf42 (vs : Array Value) (w : World) : (callFunc 42 vs).run Tryd.prog w = .ok (.enter 42 vs) w := by kernel_rfl
theorem cf44 (vs : Array Value) (w : World) : (callFunc 44 vs).run Tryd.prog w = .ok (.enter 44 vs) w := by kernel_rfl
theorem cf43 (vs : Array Value) (w : World) : (callFunc 43 vs).run Tryd.prog w = .ok (.enter 43 vs) w := by kernel_rfl
theorem zero63 (w : World) : (Instr.alloc 63 true (.tuple #[])).run Tryd.prog w = .ok (P0 w.heap.size) (w.alloc (.cells (stC 0 0 0).toArray 63)) := by kernel_rfl
theorem build63z (w : World) : (Instr.build 63 #[]).run Tryd.prog w = .ok (aggV (stC 0 0 0)) w := by kernel_rfl

theorem stC_one (p h n : Int) : ∀ v ∈ stC p h n, v.oneCell' = true := by
  intro v hv
  simp only [stC, List.mem_cons, List.mem_nil_iff, or_false] at hv
  rcases hv with rfl | rfl | rfl <;> rfl
/-- A sector's half, by its mark. -/
def hOf (s : List Int) : Int := s.getD 0 0 - 161
def pOf (s : List Int) : Int := s.getD 1 0
def isStampB (s : List Int) : Bool := isPageB (pOf s) && (decide (hOf s = 0 ∨ hOf s = 1) && isWrit (psnL s))
/-- What Stamp tells. -/
def stampL (s : List Int) : (Int × Int × Int) × Bool := if isStampB s = true ∧ s = laidL (pOf s) (hOf s) (psnL s) (halfL s) then ((pOf s, hOf s, psnL s), true) else ((0, 0, 0), false)

theorem res27 (w : World) (z : Nat) (vs : List Value) (r : Bool) (tmps : Array Value) (h4 : tmps[2]?.getD undef = P0 z) (h5 : tmps[3]?.getD undef = .bool r) (hl : vs.length = 3) (hb : Blk w z 63 vs) : (results Tryd.f27 tmps).run Tryd.prog w = .ok (.tuple #[aggV vs, .bool r]) w := by
  have := loadV row63 hl hb
  simp [results, Tryd.results27, h4, h5, this, asAddr]

/-- What the operations of its first statement yield. -/
def stT1 (w W : World) (s : List Int) : List Fc := [.is (.pointer (some ⟨w.heap.size, 1, none⟩)), .is (.int .u8 (pOf s)), .is (.int .i64 (pOf s)), .is (.pointer (some ⟨w.heap.size, 0, none⟩)), .is (.int .u8 (s.getD 0 0)), .is (.int .i64 (s.getD 0 0)), .is (.int .i64 (hOf s)), .is (aggV (u8s s)), .is (.int .i64 (psnL s)), .is (aggV (stC (pOf s) (hOf s) (psnL s))), .new 63 (stC 0 0 0) W.heap.size]
def stT2A (s : List Int) : List Fc := [.is (aggV (stC (pOf s) (hOf s) (psnL s))), .is (.bool false), .is (.bool true), .is (.bool true), .no, .no, .no, .no, .no, .no, .is (.bool true)]
def stT2B (s : List Int) : List Fc := [.is (aggV (stC (pOf s) (hOf s) (psnL s))), .is (.bool true), .is (.bool false), .is (.bool false), .is (aggV (u8s s)), .is (aggV (stC (pOf s) (hOf s) (psnL s))), .is (aggV (u8s s)), .is (aggV (u8s (halfL s))), .is (aggV (u8s (laidL (pOf s) (hOf s) (psnL s) (halfL s)))), .is (.bool false), .is (.bool false)]
def stT2C (s : List Int) : List Fc := [.is (aggV (stC (pOf s) (hOf s) (psnL s))), .is (.bool true), .is (.bool false), .is (.bool false), .is (aggV (u8s s)), .is (aggV (stC (pOf s) (hOf s) (psnL s))), .is (aggV (u8s s)), .is (aggV (u8s (halfL s))), .is (aggV (u8s (laidL (pOf s) (hOf s) (psnL s) (halfL s)))), .is (.bool true), .is (.bool true)]

set_option maxHeartbeats 4000000 in
set_option maxRecDepth 100000 in
theorem stamp_A (s : List Int) (hs : Byts 64 s) (hS : isStampB s = false) (w : World) : Calls Tryd.prog 27 #[aggV (u8s s)] w fun e w' => e = .returned (.tuple #[aggV (stC 0 0 0), .bool false]) ∧ Kept [] w w' := by
  have hsu : (u8s s).length = 64 := by rw [u8s_len, hs.len]
  have hp0 : 0 ≤ pOf s ∧ pOf s < 256 := by
    have := hs.byte (s[1]'(by rw [hs.len]; omega)) (List.getElem_mem (by rw [hs.len]; omega))
    simpa [pOf, List.getD, hs.len] using this
  have hm0 : 0 ≤ s.getD 0 0 ∧ s.getD 0 0 < 256 := by
    have := hs.byte (s[0]'(by rw [hs.len]; omega)) (List.getElem_mem (by rw [hs.len]; omega))
    simpa [List.getD, hs.len] using this
  go_enter Tryd.func27, Tryd.ntmps27
  go_wp2_with (
    first
    | (refine wpBoxA rfl (.tmp 0) rfl (u8s s) rfl ?_)
    | (refine wpAllocV (stC 0 0 0) zero63 2 rfl rfl rfl ?_
       intro W eW
       have b0 : Hid (Blk W w.heap.size 29 (u8s s)) := by rw [eW]; exact (Blk.new' rfl).alloc _
       have b1 : Hid (Blk W (w.heap.size + 1) 63 (stC 0 0 0)) := by rw [eW]; exact Blk.new' (by simp)
       have bk : Hid (Kept [] w W) := by rw [eW]; exact ((Kept.refl _ _).alloc _).alloc _
       clear eW))
  refine wp_region_prefS mixed 11 1 rfl (by kernel_rfl) (tc (stT1 w W s)) (fun _ _ _ _ => True) (skipOf (stT1 w W s)) (fun j o i b _ => guardsS_some (by kernel_rfl) j o i b) (fun j o _ => guardsS_none (by kernel_rfl) j o) (fun j w => skip_undef w) (fun _ _ _ _ => trivial) (tc_kept _) (by kernel_rfl) ?_ ?_
  · intro j o hj hs' ho a w2 hout hin hk
    show o.wp Tryd.prog a w2 (opPc (stT1 w W s) o a w2 j 11) _
    match j, ho with
    | 0, ho =>
      obtain rfl := Option.some.inj ho
      exact o_idx29 (.tmp 1) 1 (by omega) rfl w.heap.size 0 ((hout 1 (by kernel_rfl)).trans (by kernel_rfl)) (postc rfl (Kept.refl _ _))
    | 1, ho =>
      obtain rfl := Option.some.inj ho
      exact o_load5 (.tmp 5) rfl ⟨w.heap.size, 1, none⟩ _ (hin 0 5 (by kernel_rfl) (by kernel_rfl)) (fits_cell ((unhide b0).kept hk (by simp)) 1 _ (by simp [u8s, pOf, List.getD, hs.len])) (postc rfl (Kept.refl _ _))
    | 2, ho =>
      obtain rfl := Option.some.inj ho
      exact o_conv53 (.tmp 6) rfl (pOf s) hp0 (hin 1 6 (by kernel_rfl) (by kernel_rfl)) (postc rfl (Kept.refl _ _))
    | 3, ho =>
      obtain rfl := Option.some.inj ho
      exact o_idx29 (.tmp 1) 0 (by omega) rfl w.heap.size 0 ((hout 1 (by kernel_rfl)).trans (by kernel_rfl)) (postc rfl (Kept.refl _ _))
    | 4, ho =>
      obtain rfl := Option.some.inj ho
      exact o_load5 (.tmp 8) rfl ⟨w.heap.size, 0, none⟩ _ (hin 3 8 (by kernel_rfl) (by kernel_rfl)) (fits_cell ((unhide b0).kept hk (by simp)) 0 _ (by simp [u8s, List.getD, hs.len])) (postc rfl (Kept.refl _ _))
    | 5, ho =>
      obtain rfl := Option.some.inj ho
      exact o_conv53 (.tmp 9) rfl (s.getD 0 0) hm0 (hin 4 9 (by kernel_rfl) (by kernel_rfl)) (postc rfl (Kept.refl _ _))
    | 6, ho =>
      obtain rfl := Option.some.inj ho
      exact o_sub3 (.tmp 10) 161 rfl (s.getD 0 0) (by omega) (hin 5 10 (by kernel_rfl) (by kernel_rfl)) (postc rfl (Kept.refl _ _))
    | 7, ho =>
      obtain rfl := Option.some.inj ho
      exact wp_loadA row29 (.tmp 1) rfl w.heap.size 0 ((hout 1 (by kernel_rfl)).trans (by kernel_rfl)) (u8s s) hsu ((unhide b0).kept hk (by simp)).range (postc rfl (Kept.refl _ _))
    | 8, ho =>
      obtain rfl := Option.some.inj ho
      have e0 : a.eval (.tmp 12) = _ := (hin 7 12 (by kernel_rfl) (by kernel_rfl))
      refine wp_callF 42 _ _ rfl #[aggV (u8s s)] (by simp [e0]) (cf42 _ _) ((psn29 s hs w2).mono ?_)
      rintro x w3 ⟨rfl, hk3⟩
      exact ⟨_, rfl, postc rfl hk3⟩
    | 9, ho =>
      obtain rfl := Option.some.inj ho
      have e0 : a.eval (.tmp 7) = _ := (hin 2 7 (by kernel_rfl) (by kernel_rfl))
      have e1 : a.eval (.tmp 11) = _ := (hin 6 11 (by kernel_rfl) (by kernel_rfl))
      have e2 : a.eval (.tmp 13) = _ := (hin 8 13 (by kernel_rfl) (by kernel_rfl))
      exact o_buildP _ rfl #[(0, .int .i64 (pOf s)), (1, .int .i64 (hOf s)), (2, .int .i64 (psnL s))] (by simp only [List.map_toArray, List.map_cons, List.map_nil, e0, e1, e2]) _ (build63 _ _ _ _) (postc rfl (Kept.refl _ _))
    | 10, ho =>
      obtain rfl := Option.some.inj ho
      exact wp_allocA (stC 0 0 0) zero63 rfl (postc ⟨_, rfl, hk.size, Blk.new' rfl⟩ ((Kept.refl _ _).alloc _))
  · intro vs w3 hlen hF _ hk
    match vs, hlen with
    | [x0, x1, x2, x3, x4, x5, x6, x7, x8, x9, x10], _ =>
    obtain rfl : x0 = _ := hF 0 _ rfl
    obtain rfl : x1 = _ := hF 1 _ rfl
    obtain rfl : x2 = _ := hF 2 _ rfl
    obtain rfl : x3 = _ := hF 3 _ rfl
    obtain rfl : x4 = _ := hF 4 _ rfl
    obtain rfl : x5 = _ := hF 5 _ rfl
    obtain rfl : x6 = _ := hF 6 _ rfl
    obtain rfl : x7 = _ := hF 7 _ rfl
    obtain rfl : x8 = _ := hF 8 _ rfl
    obtain rfl : x9 = _ := hF 9 _ rfl
    obtain ⟨q, rfl, hq, hb⟩ : ∃ q, x10 = P0 q ∧ W.heap.size ≤ q ∧ Blk w3 q 63 (stC 0 0 0) := hF 10 _ rfl
    clear hF
    simp only [List.take_succ_cons, List.take_zero, putAll, Act.put, List.setIfInBounds_toArray, List.set_cons_succ, List.set_cons_zero]
    refine wpAny_all (rs := [11]) (by kernel_rfl) (by simp) ?_
    intro i hi
    obtain rfl : i = 11 := by simpa using hi
    refine wpOp_of rfl rfl (wp_storeN row63 (.tmp 4) (.tmp 14) rfl rfl q 0 (stC (pOf s) (hOf s) (psnL s)) rfl rfl rfl (stC_one _ _ _) (hb.there (by simp [stC])) ?_)
    refine wpAny_done (by kernel_rfl) ?_ _
    have l1 := (unhide b1).lt
    have c0 := hide (((unhide b0).kept hk (by simp)).other (o := 0) (vs := stC (pOf s) (hOf s) (psnL s)) (show w.heap.size ≠ q by omega))
    have c1 := hide (((unhide b1).kept hk (by simp)).other (o := 0) (vs := stC (pOf s) (hOf s) (psnL s)) (show w.heap.size + 1 ≠ q by omega))
    have c4 := hide (hb.put (vs := stC (pOf s) (hOf s) (psnL s)) rfl)
    have ck := hide (((unhide bk).trans hk).setCells (b := q) (stC (pOf s) (hOf s) (psnL s)) 0 (by omega))
    clear b0 b1 bk hb hk hi
    generalize (w3.setCells q 0 (stC (pOf s) (hOf s) (psnL s))) = W4 at *
    go_wp2_with fail
    refine wp_region_prefS mixed 11 0 rfl (by kernel_rfl) (tc (stT2A s)) (fun _ _ _ _ => True) (skipOf (stT2A s)) (fun j o i b _ => guardsS_some (by kernel_rfl) j o i b) (fun j o _ => guardsS_none (by kernel_rfl) j o) (fun j w => skip_undef w) (fun _ _ _ _ => trivial) (tc_kept _) (by kernel_rfl) ?_ ?_
    · intro j o hj hs' ho a w2 hout hin hk
      show o.wp Tryd.prog a w2 (opPc (stT2A s) o a w2 j 11) _
      match j, ho with
      | 0, ho =>
        obtain rfl := Option.some.inj ho
        exact wp_loadA row63 (.tmp 4) rfl q 0 ((hout 4 (by kernel_rfl)).trans (by kernel_rfl)) (stC (pOf s) (hOf s) (psnL s)) rfl ((unhide c4).kept hk (by simp)).range (postc rfl (Kept.refl _ _))
      | 1, ho =>
        obtain rfl := Option.some.inj ho
        have e0 : a.eval (.tmp 15) = _ := (hin 0 15 (by kernel_rfl) (by kernel_rfl))
        refine wp_callF 43 _ _ rfl #[aggV (stC (pOf s) (hOf s) (psnL s))] (by simp [e0]) (cf43 _ _) ((isStamp30 (pOf s) (hOf s) (psnL s) w2).mono ?_)
        rintro x w3 ⟨rfl, hk3⟩
        exact ⟨_, rfl, postc (by rw [show (isPageB (pOf s) && (decide (hOf s = 0 ∨ hOf s = 1) && isWrit (psnL s))) = false from hS]; rfl) hk3⟩
      | 2, ho =>
        obtain rfl := Option.some.inj ho
        exact o_not (.tmp 16) rfl false (hin 1 16 (by kernel_rfl) (by kernel_rfl)) (postc rfl (Kept.refl _ _))
      | 3, ho =>
        obtain rfl := Option.some.inj ho
        exact wp_move (.tmp 17) rfl (by rw [show a.eval (.tmp 17) = _ from (hin 2 17 (by kernel_rfl) (by kernel_rfl))]; exact (postc rfl (Kept.refl _ _)))
      | 4, ho => exact absurd (show true = false from hs') (by decide)
      | 5, ho => exact absurd (show true = false from hs') (by decide)
      | 6, ho => exact absurd (show true = false from hs') (by decide)
      | 7, ho => exact absurd (show true = false from hs') (by decide)
      | 8, ho => exact absurd (show true = false from hs') (by decide)
      | 9, ho => exact absurd (show true = false from hs') (by decide)
      | 10, ho =>
        obtain rfl := Option.some.inj ho
        exact o_pickT (.tmp 18) (.tmp 24) rfl true false (hin 3 18 (by kernel_rfl) (by kernel_rfl)) (by simp) (postc rfl (Kept.refl _ _)) (by simp)
    · intro vs w5 hlen hF _ hk5
      match vs, hlen with
      | [x0, x1, x2, x3, x4, x5, x6, x7, x8, x9, x10], _ =>
      obtain rfl : x0 = _ := hF 0 _ rfl
      obtain rfl : x1 = _ := hF 1 _ rfl
      obtain rfl : x2 = _ := hF 2 _ rfl
      obtain rfl : x3 = _ := hF 3 _ rfl
      obtain rfl : x4 = _ := hF 4 _ rfl
      obtain rfl : x5 = _ := hF 5 _ rfl
      obtain rfl : x6 = _ := hF 6 _ rfl
      obtain rfl : x7 = _ := hF 7 _ rfl
      obtain rfl : x8 = _ := hF 8 _ rfl
      obtain rfl : x9 = _ := hF 9 _ rfl
      obtain rfl : x10 = _ := hF 10 _ rfl
      clear hF
      simp only [List.take_succ_cons, List.take_zero, putAll, Act.put, List.setIfInBounds_toArray, List.set_cons_succ, List.set_cons_zero]
      refine wpAny_done (by kernel_rfl) ?_ _
      have D1 := hide ((unhide c1).kept hk5 (by simp))
      have D4 := hide ((unhide c4).kept hk5 (by simp))
      have DK := hide ((unhide ck).trans hk5)
      clear hk5 c0 c1 c4 ck
      go_wp2_with (
        first
    | (refine wpBuildZ (stC 0 0 0) build63z rfl rfl ?_)
    | (refine wpStoreA row63 rfl (.tmp 2) (.tmp 26) rfl (w.heap.size + 1) 0 (stC 0 0 0) rfl rfl rfl (stC_one _ _ _) ((unhide D1).there (by simp [stC])) ?_))
      have g4 := (unhide D1).put (vs := (stC 0 0 0)) rfl
      exact bodyPost_ret (res27 _ _ _ _ _ rfl rfl rfl g4) rfl ⟨rfl, (unhide DK).setCells _ _ (by omega)⟩

set_option maxHeartbeats 4000000 in
set_option maxRecDepth 100000 in
theorem stamp_B (s : List Int) (hs : Byts 64 s) (hS : isStampB s = true) (hQ : decide (s = laidL (pOf s) (hOf s) (psnL s) (halfL s)) = true) (w : World) : Calls Tryd.prog 27 #[aggV (u8s s)] w fun e w' => e = .returned (.tuple #[aggV (stC (pOf s) (hOf s) (psnL s)), .bool true]) ∧ Kept [] w w' := by
  have hsu : (u8s s).length = 64 := by rw [u8s_len, hs.len]
  have hp0 : 0 ≤ pOf s ∧ pOf s < 256 := by
    have := hs.byte (s[1]'(by rw [hs.len]; omega)) (List.getElem_mem (by rw [hs.len]; omega))
    simpa [pOf, List.getD, hs.len] using this
  have hm0 : 0 ≤ s.getD 0 0 ∧ s.getD 0 0 < 256 := by
    have := hs.byte (s[0]'(by rw [hs.len]; omega)) (List.getElem_mem (by rw [hs.len]; omega))
    simpa [List.getD, hs.len] using this
  have hh : hOf s = 0 ∨ hOf s = 1 := by unfold isStampB at hS; simp at hS; exact hS.2.1
  go_enter Tryd.func27, Tryd.ntmps27
  go_wp2_with (
    first
    | (refine wpBoxA rfl (.tmp 0) rfl (u8s s) rfl ?_)
    | (refine wpAllocV (stC 0 0 0) zero63 2 rfl rfl rfl ?_
       intro W eW
       have b0 : Hid (Blk W w.heap.size 29 (u8s s)) := by rw [eW]; exact (Blk.new' rfl).alloc _
       have b1 : Hid (Blk W (w.heap.size + 1) 63 (stC 0 0 0)) := by rw [eW]; exact Blk.new' (by simp)
       have bk : Hid (Kept [] w W) := by rw [eW]; exact ((Kept.refl _ _).alloc _).alloc _
       clear eW))
  refine wp_region_prefS mixed 11 1 rfl (by kernel_rfl) (tc (stT1 w W s)) (fun _ _ _ _ => True) (skipOf (stT1 w W s)) (fun j o i b _ => guardsS_some (by kernel_rfl) j o i b) (fun j o _ => guardsS_none (by kernel_rfl) j o) (fun j w => skip_undef w) (fun _ _ _ _ => trivial) (tc_kept _) (by kernel_rfl) ?_ ?_
  · intro j o hj hs' ho a w2 hout hin hk
    show o.wp Tryd.prog a w2 (opPc (stT1 w W s) o a w2 j 11) _
    match j, ho with
    | 0, ho =>
      obtain rfl := Option.some.inj ho
      exact o_idx29 (.tmp 1) 1 (by omega) rfl w.heap.size 0 ((hout 1 (by kernel_rfl)).trans (by kernel_rfl)) (postc rfl (Kept.refl _ _))
    | 1, ho =>
      obtain rfl := Option.some.inj ho
      exact o_load5 (.tmp 5) rfl ⟨w.heap.size, 1, none⟩ _ (hin 0 5 (by kernel_rfl) (by kernel_rfl)) (fits_cell ((unhide b0).kept hk (by simp)) 1 _ (by simp [u8s, pOf, List.getD, hs.len])) (postc rfl (Kept.refl _ _))
    | 2, ho =>
      obtain rfl := Option.some.inj ho
      exact o_conv53 (.tmp 6) rfl (pOf s) hp0 (hin 1 6 (by kernel_rfl) (by kernel_rfl)) (postc rfl (Kept.refl _ _))
    | 3, ho =>
      obtain rfl := Option.some.inj ho
      exact o_idx29 (.tmp 1) 0 (by omega) rfl w.heap.size 0 ((hout 1 (by kernel_rfl)).trans (by kernel_rfl)) (postc rfl (Kept.refl _ _))
    | 4, ho =>
      obtain rfl := Option.some.inj ho
      exact o_load5 (.tmp 8) rfl ⟨w.heap.size, 0, none⟩ _ (hin 3 8 (by kernel_rfl) (by kernel_rfl)) (fits_cell ((unhide b0).kept hk (by simp)) 0 _ (by simp [u8s, List.getD, hs.len])) (postc rfl (Kept.refl _ _))
    | 5, ho =>
      obtain rfl := Option.some.inj ho
      exact o_conv53 (.tmp 9) rfl (s.getD 0 0) hm0 (hin 4 9 (by kernel_rfl) (by kernel_rfl)) (postc rfl (Kept.refl _ _))
    | 6, ho =>
      obtain rfl := Option.some.inj ho
      exact o_sub3 (.tmp 10) 161 rfl (s.getD 0 0) (by omega) (hin 5 10 (by kernel_rfl) (by kernel_rfl)) (postc rfl (Kept.refl _ _))
    | 7, ho =>
      obtain rfl := Option.some.inj ho
      exact wp_loadA row29 (.tmp 1) rfl w.heap.size 0 ((hout 1 (by kernel_rfl)).trans (by kernel_rfl)) (u8s s) hsu ((unhide b0).kept hk (by simp)).range (postc rfl (Kept.refl _ _))
    | 8, ho =>
      obtain rfl := Option.some.inj ho
      have e0 : a.eval (.tmp 12) = _ := (hin 7 12 (by kernel_rfl) (by kernel_rfl))
      refine wp_callF 42 _ _ rfl #[aggV (u8s s)] (by simp [e0]) (cf42 _ _) ((psn29 s hs w2).mono ?_)
      rintro x w3 ⟨rfl, hk3⟩
      exact ⟨_, rfl, postc rfl hk3⟩
    | 9, ho =>
      obtain rfl := Option.some.inj ho
      have e0 : a.eval (.tmp 7) = _ := (hin 2 7 (by kernel_rfl) (by kernel_rfl))
      have e1 : a.eval (.tmp 11) = _ := (hin 6 11 (by kernel_rfl) (by kernel_rfl))
      have e2 : a.eval (.tmp 13) = _ := (hin 8 13 (by kernel_rfl) (by kernel_rfl))
      exact o_buildP _ rfl #[(0, .int .i64 (pOf s)), (1, .int .i64 (hOf s)), (2, .int .i64 (psnL s))] (by simp only [List.map_toArray, List.map_cons, List.map_nil, e0, e1, e2]) _ (build63 _ _ _ _) (postc rfl (Kept.refl _ _))
    | 10, ho =>
      obtain rfl := Option.some.inj ho
      exact wp_allocA (stC 0 0 0) zero63 rfl (postc ⟨_, rfl, hk.size, Blk.new' rfl⟩ ((Kept.refl _ _).alloc _))
  · intro vs w3 hlen hF _ hk
    match vs, hlen with
    | [x0, x1, x2, x3, x4, x5, x6, x7, x8, x9, x10], _ =>
    obtain rfl : x0 = _ := hF 0 _ rfl
    obtain rfl : x1 = _ := hF 1 _ rfl
    obtain rfl : x2 = _ := hF 2 _ rfl
    obtain rfl : x3 = _ := hF 3 _ rfl
    obtain rfl : x4 = _ := hF 4 _ rfl
    obtain rfl : x5 = _ := hF 5 _ rfl
    obtain rfl : x6 = _ := hF 6 _ rfl
    obtain rfl : x7 = _ := hF 7 _ rfl
    obtain rfl : x8 = _ := hF 8 _ rfl
    obtain rfl : x9 = _ := hF 9 _ rfl
    obtain ⟨q, rfl, hq, hb⟩ : ∃ q, x10 = P0 q ∧ W.heap.size ≤ q ∧ Blk w3 q 63 (stC 0 0 0) := hF 10 _ rfl
    clear hF
    simp only [List.take_succ_cons, List.take_zero, putAll, Act.put, List.setIfInBounds_toArray, List.set_cons_succ, List.set_cons_zero]
    refine wpAny_all (rs := [11]) (by kernel_rfl) (by simp) ?_
    intro i hi
    obtain rfl : i = 11 := by simpa using hi
    refine wpOp_of rfl rfl (wp_storeN row63 (.tmp 4) (.tmp 14) rfl rfl q 0 (stC (pOf s) (hOf s) (psnL s)) rfl rfl rfl (stC_one _ _ _) (hb.there (by simp [stC])) ?_)
    refine wpAny_done (by kernel_rfl) ?_ _
    have l1 := (unhide b1).lt
    have c0 := hide (((unhide b0).kept hk (by simp)).other (o := 0) (vs := stC (pOf s) (hOf s) (psnL s)) (show w.heap.size ≠ q by omega))
    have c1 := hide (((unhide b1).kept hk (by simp)).other (o := 0) (vs := stC (pOf s) (hOf s) (psnL s)) (show w.heap.size + 1 ≠ q by omega))
    have c4 := hide (hb.put (vs := stC (pOf s) (hOf s) (psnL s)) rfl)
    have ck := hide (((unhide bk).trans hk).setCells (b := q) (stC (pOf s) (hOf s) (psnL s)) 0 (by omega))
    clear b0 b1 bk hb hk hi
    generalize (w3.setCells q 0 (stC (pOf s) (hOf s) (psnL s))) = W4 at *
    go_wp2_with fail
    refine wp_region_prefS mixed 11 0 rfl (by kernel_rfl) (tc (stT2B s)) (fun _ _ _ _ => True) (skipOf (stT2B s)) (fun j o i b _ => guardsS_some (by kernel_rfl) j o i b) (fun j o _ => guardsS_none (by kernel_rfl) j o) (fun j w => skip_undef w) (fun _ _ _ _ => trivial) (tc_kept _) (by kernel_rfl) ?_ ?_
    · intro j o hj hs' ho a w2 hout hin hk
      show o.wp Tryd.prog a w2 (opPc (stT2B s) o a w2 j 11) _
      match j, ho with
      | 0, ho =>
        obtain rfl := Option.some.inj ho
        exact wp_loadA row63 (.tmp 4) rfl q 0 ((hout 4 (by kernel_rfl)).trans (by kernel_rfl)) (stC (pOf s) (hOf s) (psnL s)) rfl ((unhide c4).kept hk (by simp)).range (postc rfl (Kept.refl _ _))
      | 1, ho =>
        obtain rfl := Option.some.inj ho
        have e0 : a.eval (.tmp 15) = _ := (hin 0 15 (by kernel_rfl) (by kernel_rfl))
        refine wp_callF 43 _ _ rfl #[aggV (stC (pOf s) (hOf s) (psnL s))] (by simp [e0]) (cf43 _ _) ((isStamp30 (pOf s) (hOf s) (psnL s) w2).mono ?_)
        rintro x w3 ⟨rfl, hk3⟩
        exact ⟨_, rfl, postc (by rw [show (isPageB (pOf s) && (decide (hOf s = 0 ∨ hOf s = 1) && isWrit (psnL s))) = true from hS]; rfl) hk3⟩
      | 2, ho =>
        obtain rfl := Option.some.inj ho
        exact o_not (.tmp 16) rfl true (hin 1 16 (by kernel_rfl) (by kernel_rfl)) (postc rfl (Kept.refl _ _))
      | 3, ho =>
        obtain rfl := Option.some.inj ho
        exact wp_move (.tmp 17) rfl (by rw [show a.eval (.tmp 17) = _ from (hin 2 17 (by kernel_rfl) (by kernel_rfl))]; exact (postc rfl (Kept.refl _ _)))
      | 4, ho =>
        obtain rfl := Option.some.inj ho
        exact wp_loadA row29 (.tmp 1) rfl w.heap.size 0 ((hout 1 (by kernel_rfl)).trans (by kernel_rfl)) (u8s s) hsu ((unhide c0).kept hk (by simp)).range (postc rfl (Kept.refl _ _))
      | 5, ho =>
        obtain rfl := Option.some.inj ho
        exact wp_loadA row63 (.tmp 4) rfl q 0 ((hout 4 (by kernel_rfl)).trans (by kernel_rfl)) (stC (pOf s) (hOf s) (psnL s)) rfl ((unhide c4).kept hk (by simp)).range (postc rfl (Kept.refl _ _))
      | 6, ho =>
        obtain rfl := Option.some.inj ho
        exact wp_loadA row29 (.tmp 1) rfl w.heap.size 0 ((hout 1 (by kernel_rfl)).trans (by kernel_rfl)) (u8s s) hsu ((unhide c0).kept hk (by simp)).range (postc rfl (Kept.refl _ _))
      | 7, ho =>
        obtain rfl := Option.some.inj ho
        have e0 : a.eval (.tmp 21) = _ := (hin 6 21 (by kernel_rfl) (by kernel_rfl))
        refine wp_callF 45 _ _ rfl #[aggV (u8s s)] (by simp [e0]) (cf45 _ _) ((halfOf31 s hs w2).mono ?_)
        rintro x w3 ⟨rfl, hk3⟩
        exact ⟨_, rfl, postc rfl hk3⟩
      | 8, ho =>
        obtain rfl := Option.some.inj ho
        have e0 : a.eval (.tmp 20) = _ := (hin 5 20 (by kernel_rfl) (by kernel_rfl))
        have e1 : a.eval (.tmp 22) = _ := (hin 7 22 (by kernel_rfl) (by kernel_rfl))
        refine wp_callF 44 _ _ rfl #[aggV (stC (pOf s) (hOf s) (psnL s)), aggV (u8s (halfL s))] (by simp [e0, e1]) (cf44 _ _) ((laid26 (pOf s) (hOf s) (psnL s) (halfL s) (halfL_byts hs) hh w2).mono ?_)
        rintro x w3 ⟨rfl, hk3⟩
        exact ⟨_, rfl, postc rfl hk3⟩
      | 9, ho =>
        obtain rfl := Option.some.inj ho
        exact o_neqA 29 29 guard29 (.tmp 19) (.tmp 23) rfl (u8s s) (u8s (laidL (pOf s) (hOf s) (psnL s) (halfL s))) (hin 4 19 (by kernel_rfl) (by kernel_rfl)) (hin 8 23 (by kernel_rfl) (by kernel_rfl)) true ((equal29 _ _ _ hs.len (laidL_byts (halfL_byts hs)).len).trans (by rw [hQ])) (postc rfl (Kept.refl _ _))
      | 10, ho =>
        obtain rfl := Option.some.inj ho
        exact o_pickT (.tmp 18) (.tmp 24) rfl false false (hin 3 18 (by kernel_rfl) (by kernel_rfl)) (fun _ => (hin 9 24 (by kernel_rfl) (by kernel_rfl))) (postc rfl (Kept.refl _ _)) (by simp)
    · intro vs w5 hlen hF _ hk5
      match vs, hlen with
      | [x0, x1, x2, x3, x4, x5, x6, x7, x8, x9, x10], _ =>
      obtain rfl : x0 = _ := hF 0 _ rfl
      obtain rfl : x1 = _ := hF 1 _ rfl
      obtain rfl : x2 = _ := hF 2 _ rfl
      obtain rfl : x3 = _ := hF 3 _ rfl
      obtain rfl : x4 = _ := hF 4 _ rfl
      obtain rfl : x5 = _ := hF 5 _ rfl
      obtain rfl : x6 = _ := hF 6 _ rfl
      obtain rfl : x7 = _ := hF 7 _ rfl
      obtain rfl : x8 = _ := hF 8 _ rfl
      obtain rfl : x9 = _ := hF 9 _ rfl
      obtain rfl : x10 = _ := hF 10 _ rfl
      clear hF
      simp only [List.take_succ_cons, List.take_zero, putAll, Act.put, List.setIfInBounds_toArray, List.set_cons_succ, List.set_cons_zero]
      refine wpAny_done (by kernel_rfl) ?_ _
      have D1 := hide ((unhide c1).kept hk5 (by simp))
      have D4 := hide ((unhide c4).kept hk5 (by simp))
      have DK := hide ((unhide ck).trans hk5)
      clear hk5 c0 c1 c4 ck
      go_wp2_with (
        first
    | (refine wpLoadA row63 rfl (.tmp 4) rfl q 0 rfl (stC (pOf s) (hOf s) (psnL s)) rfl (unhide D4).range ?_)
    | (refine wpStoreA row63 rfl (.tmp 2) (.tmp 27) rfl (w.heap.size + 1) 0 (stC (pOf s) (hOf s) (psnL s)) rfl rfl rfl (stC_one _ _ _) ((unhide D1).there (by simp [stC])) ?_))
      have g4 := (unhide D1).put (vs := (stC (pOf s) (hOf s) (psnL s))) rfl
      exact bodyPost_ret (res27 _ _ _ _ _ rfl rfl rfl g4) rfl ⟨rfl, (unhide DK).setCells _ _ (by omega)⟩

set_option maxHeartbeats 4000000 in
set_option maxRecDepth 100000 in
theorem stamp_C (s : List Int) (hs : Byts 64 s) (hS : isStampB s = true) (hQ : decide (s = laidL (pOf s) (hOf s) (psnL s) (halfL s)) = false) (w : World) : Calls Tryd.prog 27 #[aggV (u8s s)] w fun e w' => e = .returned (.tuple #[aggV (stC 0 0 0), .bool false]) ∧ Kept [] w w' := by
  have hsu : (u8s s).length = 64 := by rw [u8s_len, hs.len]
  have hp0 : 0 ≤ pOf s ∧ pOf s < 256 := by
    have := hs.byte (s[1]'(by rw [hs.len]; omega)) (List.getElem_mem (by rw [hs.len]; omega))
    simpa [pOf, List.getD, hs.len] using this
  have hm0 : 0 ≤ s.getD 0 0 ∧ s.getD 0 0 < 256 := by
    have := hs.byte (s[0]'(by rw [hs.len]; omega)) (List.getElem_mem (by rw [hs.len]; omega))
    simpa [List.getD, hs.len] using this
  have hh : hOf s = 0 ∨ hOf s = 1 := by unfold isStampB at hS; simp at hS; exact hS.2.1
  go_enter Tryd.func27, Tryd.ntmps27
  go_wp2_with (
    first
    | (refine wpBoxA rfl (.tmp 0) rfl (u8s s) rfl ?_)
    | (refine wpAllocV (stC 0 0 0) zero63 2 rfl rfl rfl ?_
       intro W eW
       have b0 : Hid (Blk W w.heap.size 29 (u8s s)) := by rw [eW]; exact (Blk.new' rfl).alloc _
       have b1 : Hid (Blk W (w.heap.size + 1) 63 (stC 0 0 0)) := by rw [eW]; exact Blk.new' (by simp)
       have bk : Hid (Kept [] w W) := by rw [eW]; exact ((Kept.refl _ _).alloc _).alloc _
       clear eW))
  refine wp_region_prefS mixed 11 1 rfl (by kernel_rfl) (tc (stT1 w W s)) (fun _ _ _ _ => True) (skipOf (stT1 w W s)) (fun j o i b _ => guardsS_some (by kernel_rfl) j o i b) (fun j o _ => guardsS_none (by kernel_rfl) j o) (fun j w => skip_undef w) (fun _ _ _ _ => trivial) (tc_kept _) (by kernel_rfl) ?_ ?_
  · intro j o hj hs' ho a w2 hout hin hk
    show o.wp Tryd.prog a w2 (opPc (stT1 w W s) o a w2 j 11) _
    match j, ho with
    | 0, ho =>
      obtain rfl := Option.some.inj ho
      exact o_idx29 (.tmp 1) 1 (by omega) rfl w.heap.size 0 ((hout 1 (by kernel_rfl)).trans (by kernel_rfl)) (postc rfl (Kept.refl _ _))
    | 1, ho =>
      obtain rfl := Option.some.inj ho
      exact o_load5 (.tmp 5) rfl ⟨w.heap.size, 1, none⟩ _ (hin 0 5 (by kernel_rfl) (by kernel_rfl)) (fits_cell ((unhide b0).kept hk (by simp)) 1 _ (by simp [u8s, pOf, List.getD, hs.len])) (postc rfl (Kept.refl _ _))
    | 2, ho =>
      obtain rfl := Option.some.inj ho
      exact o_conv53 (.tmp 6) rfl (pOf s) hp0 (hin 1 6 (by kernel_rfl) (by kernel_rfl)) (postc rfl (Kept.refl _ _))
    | 3, ho =>
      obtain rfl := Option.some.inj ho
      exact o_idx29 (.tmp 1) 0 (by omega) rfl w.heap.size 0 ((hout 1 (by kernel_rfl)).trans (by kernel_rfl)) (postc rfl (Kept.refl _ _))
    | 4, ho =>
      obtain rfl := Option.some.inj ho
      exact o_load5 (.tmp 8) rfl ⟨w.heap.size, 0, none⟩ _ (hin 3 8 (by kernel_rfl) (by kernel_rfl)) (fits_cell ((unhide b0).kept hk (by simp)) 0 _ (by simp [u8s, List.getD, hs.len])) (postc rfl (Kept.refl _ _))
    | 5, ho =>
      obtain rfl := Option.some.inj ho
      exact o_conv53 (.tmp 9) rfl (s.getD 0 0) hm0 (hin 4 9 (by kernel_rfl) (by kernel_rfl)) (postc rfl (Kept.refl _ _))
    | 6, ho =>
      obtain rfl := Option.some.inj ho
      exact o_sub3 (.tmp 10) 161 rfl (s.getD 0 0) (by omega) (hin 5 10 (by kernel_rfl) (by kernel_rfl)) (postc rfl (Kept.refl _ _))
    | 7, ho =>
      obtain rfl := Option.some.inj ho
      exact wp_loadA row29 (.tmp 1) rfl w.heap.size 0 ((hout 1 (by kernel_rfl)).trans (by kernel_rfl)) (u8s s) hsu ((unhide b0).kept hk (by simp)).range (postc rfl (Kept.refl _ _))
    | 8, ho =>
      obtain rfl := Option.some.inj ho
      have e0 : a.eval (.tmp 12) = _ := (hin 7 12 (by kernel_rfl) (by kernel_rfl))
      refine wp_callF 42 _ _ rfl #[aggV (u8s s)] (by simp [e0]) (cf42 _ _) ((psn29 s hs w2).mono ?_)
      rintro x w3 ⟨rfl, hk3⟩
      exact ⟨_, rfl, postc rfl hk3⟩
    | 9, ho =>
      obtain rfl := Option.some.inj ho
      have e0 : a.eval (.tmp 7) = _ := (hin 2 7 (by kernel_rfl) (by kernel_rfl))
      have e1 : a.eval (.tmp 11) = _ := (hin 6 11 (by kernel_rfl) (by kernel_rfl))
      have e2 : a.eval (.tmp 13) = _ := (hin 8 13 (by kernel_rfl) (by kernel_rfl))
      exact o_buildP _ rfl #[(0, .int .i64 (pOf s)), (1, .int .i64 (hOf s)), (2, .int .i64 (psnL s))] (by simp only [List.map_toArray, List.map_cons, List.map_nil, e0, e1, e2]) _ (build63 _ _ _ _) (postc rfl (Kept.refl _ _))
    | 10, ho =>
      obtain rfl := Option.some.inj ho
      exact wp_allocA (stC 0 0 0) zero63 rfl (postc ⟨_, rfl, hk.size, Blk.new' rfl⟩ ((Kept.refl _ _).alloc _))
  · intro vs w3 hlen hF _ hk
    match vs, hlen with
    | [x0, x1, x2, x3, x4, x5, x6, x7, x8, x9, x10], _ =>
    obtain rfl : x0 = _ := hF 0 _ rfl
    obtain rfl : x1 = _ := hF 1 _ rfl
    obtain rfl : x2 = _ := hF 2 _ rfl
    obtain rfl : x3 = _ := hF 3 _ rfl
    obtain rfl : x4 = _ := hF 4 _ rfl
    obtain rfl : x5 = _ := hF 5 _ rfl
    obtain rfl : x6 = _ := hF 6 _ rfl
    obtain rfl : x7 = _ := hF 7 _ rfl
    obtain rfl : x8 = _ := hF 8 _ rfl
    obtain rfl : x9 = _ := hF 9 _ rfl
    obtain ⟨q, rfl, hq, hb⟩ : ∃ q, x10 = P0 q ∧ W.heap.size ≤ q ∧ Blk w3 q 63 (stC 0 0 0) := hF 10 _ rfl
    clear hF
    simp only [List.take_succ_cons, List.take_zero, putAll, Act.put, List.setIfInBounds_toArray, List.set_cons_succ, List.set_cons_zero]
    refine wpAny_all (rs := [11]) (by kernel_rfl) (by simp) ?_
    intro i hi
    obtain rfl : i = 11 := by simpa using hi
    refine wpOp_of rfl rfl (wp_storeN row63 (.tmp 4) (.tmp 14) rfl rfl q 0 (stC (pOf s) (hOf s) (psnL s)) rfl rfl rfl (stC_one _ _ _) (hb.there (by simp [stC])) ?_)
    refine wpAny_done (by kernel_rfl) ?_ _
    have l1 := (unhide b1).lt
    have c0 := hide (((unhide b0).kept hk (by simp)).other (o := 0) (vs := stC (pOf s) (hOf s) (psnL s)) (show w.heap.size ≠ q by omega))
    have c1 := hide (((unhide b1).kept hk (by simp)).other (o := 0) (vs := stC (pOf s) (hOf s) (psnL s)) (show w.heap.size + 1 ≠ q by omega))
    have c4 := hide (hb.put (vs := stC (pOf s) (hOf s) (psnL s)) rfl)
    have ck := hide (((unhide bk).trans hk).setCells (b := q) (stC (pOf s) (hOf s) (psnL s)) 0 (by omega))
    clear b0 b1 bk hb hk hi
    generalize (w3.setCells q 0 (stC (pOf s) (hOf s) (psnL s))) = W4 at *
    go_wp2_with fail
    refine wp_region_prefS mixed 11 0 rfl (by kernel_rfl) (tc (stT2C s)) (fun _ _ _ _ => True) (skipOf (stT2C s)) (fun j o i b _ => guardsS_some (by kernel_rfl) j o i b) (fun j o _ => guardsS_none (by kernel_rfl) j o) (fun j w => skip_undef w) (fun _ _ _ _ => trivial) (tc_kept _) (by kernel_rfl) ?_ ?_
    · intro j o hj hs' ho a w2 hout hin hk
      show o.wp Tryd.prog a w2 (opPc (stT2C s) o a w2 j 11) _
      match j, ho with
      | 0, ho =>
        obtain rfl := Option.some.inj ho
        exact wp_loadA row63 (.tmp 4) rfl q 0 ((hout 4 (by kernel_rfl)).trans (by kernel_rfl)) (stC (pOf s) (hOf s) (psnL s)) rfl ((unhide c4).kept hk (by simp)).range (postc rfl (Kept.refl _ _))
      | 1, ho =>
        obtain rfl := Option.some.inj ho
        have e0 : a.eval (.tmp 15) = _ := (hin 0 15 (by kernel_rfl) (by kernel_rfl))
        refine wp_callF 43 _ _ rfl #[aggV (stC (pOf s) (hOf s) (psnL s))] (by simp [e0]) (cf43 _ _) ((isStamp30 (pOf s) (hOf s) (psnL s) w2).mono ?_)
        rintro x w3 ⟨rfl, hk3⟩
        exact ⟨_, rfl, postc (by rw [show (isPageB (pOf s) && (decide (hOf s = 0 ∨ hOf s = 1) && isWrit (psnL s))) = true from hS]; rfl) hk3⟩
      | 2, ho =>
        obtain rfl := Option.some.inj ho
        exact o_not (.tmp 16) rfl true (hin 1 16 (by kernel_rfl) (by kernel_rfl)) (postc rfl (Kept.refl _ _))
      | 3, ho =>
        obtain rfl := Option.some.inj ho
        exact wp_move (.tmp 17) rfl (by rw [show a.eval (.tmp 17) = _ from (hin 2 17 (by kernel_rfl) (by kernel_rfl))]; exact (postc rfl (Kept.refl _ _)))
      | 4, ho =>
        obtain rfl := Option.some.inj ho
        exact wp_loadA row29 (.tmp 1) rfl w.heap.size 0 ((hout 1 (by kernel_rfl)).trans (by kernel_rfl)) (u8s s) hsu ((unhide c0).kept hk (by simp)).range (postc rfl (Kept.refl _ _))
      | 5, ho =>
        obtain rfl := Option.some.inj ho
        exact wp_loadA row63 (.tmp 4) rfl q 0 ((hout 4 (by kernel_rfl)).trans (by kernel_rfl)) (stC (pOf s) (hOf s) (psnL s)) rfl ((unhide c4).kept hk (by simp)).range (postc rfl (Kept.refl _ _))
      | 6, ho =>
        obtain rfl := Option.some.inj ho
        exact wp_loadA row29 (.tmp 1) rfl w.heap.size 0 ((hout 1 (by kernel_rfl)).trans (by kernel_rfl)) (u8s s) hsu ((unhide c0).kept hk (by simp)).range (postc rfl (Kept.refl _ _))
      | 7, ho =>
        obtain rfl := Option.some.inj ho
        have e0 : a.eval (.tmp 21) = _ := (hin 6 21 (by kernel_rfl) (by kernel_rfl))
        refine wp_callF 45 _ _ rfl #[aggV (u8s s)] (by simp [e0]) (cf45 _ _) ((halfOf31 s hs w2).mono ?_)
        rintro x w3 ⟨rfl, hk3⟩
        exact ⟨_, rfl, postc rfl hk3⟩
      | 8, ho =>
        obtain rfl := Option.some.inj ho
        have e0 : a.eval (.tmp 20) = _ := (hin 5 20 (by kernel_rfl) (by kernel_rfl))
        have e1 : a.eval (.tmp 22) = _ := (hin 7 22 (by kernel_rfl) (by kernel_rfl))
        refine wp_callF 44 _ _ rfl #[aggV (stC (pOf s) (hOf s) (psnL s)), aggV (u8s (halfL s))] (by simp [e0, e1]) (cf44 _ _) ((laid26 (pOf s) (hOf s) (psnL s) (halfL s) (halfL_byts hs) hh w2).mono ?_)
        rintro x w3 ⟨rfl, hk3⟩
        exact ⟨_, rfl, postc rfl hk3⟩
      | 9, ho =>
        obtain rfl := Option.some.inj ho
        exact o_neqA 29 29 guard29 (.tmp 19) (.tmp 23) rfl (u8s s) (u8s (laidL (pOf s) (hOf s) (psnL s) (halfL s))) (hin 4 19 (by kernel_rfl) (by kernel_rfl)) (hin 8 23 (by kernel_rfl) (by kernel_rfl)) false ((equal29 _ _ _ hs.len (laidL_byts (halfL_byts hs)).len).trans (by rw [hQ])) (postc rfl (Kept.refl _ _))
      | 10, ho =>
        obtain rfl := Option.some.inj ho
        exact o_pickT (.tmp 18) (.tmp 24) rfl false true (hin 3 18 (by kernel_rfl) (by kernel_rfl)) (fun _ => (hin 9 24 (by kernel_rfl) (by kernel_rfl))) (postc rfl (Kept.refl _ _)) (by simp)
    · intro vs w5 hlen hF _ hk5
      match vs, hlen with
      | [x0, x1, x2, x3, x4, x5, x6, x7, x8, x9, x10], _ =>
      obtain rfl : x0 = _ := hF 0 _ rfl
      obtain rfl : x1 = _ := hF 1 _ rfl
      obtain rfl : x2 = _ := hF 2 _ rfl
      obtain rfl : x3 = _ := hF 3 _ rfl
      obtain rfl : x4 = _ := hF 4 _ rfl
      obtain rfl : x5 = _ := hF 5 _ rfl
      obtain rfl : x6 = _ := hF 6 _ rfl
      obtain rfl : x7 = _ := hF 7 _ rfl
      obtain rfl : x8 = _ := hF 8 _ rfl
      obtain rfl : x9 = _ := hF 9 _ rfl
      obtain rfl : x10 = _ := hF 10 _ rfl
      clear hF
      simp only [List.take_succ_cons, List.take_zero, putAll, Act.put, List.setIfInBounds_toArray, List.set_cons_succ, List.set_cons_zero]
      refine wpAny_done (by kernel_rfl) ?_ _
      have D1 := hide ((unhide c1).kept hk5 (by simp))
      have D4 := hide ((unhide c4).kept hk5 (by simp))
      have DK := hide ((unhide ck).trans hk5)
      clear hk5 c0 c1 c4 ck
      go_wp2_with (
        first
    | (refine wpBuildZ (stC 0 0 0) build63z rfl rfl ?_)
    | (refine wpStoreA row63 rfl (.tmp 2) (.tmp 26) rfl (w.heap.size + 1) 0 (stC 0 0 0) rfl rfl rfl (stC_one _ _ _) ((unhide D1).there (by simp [stC])) ?_))
      have g4 := (unhide D1).put (vs := (stC 0 0 0)) rfl
      exact bodyPost_ret (res27 _ _ _ _ _ rfl rfl rfl g4) rfl ⟨rfl, (unhide DK).setCells _ _ (by omega)⟩

theorem stamp16 (s : List Int) (hs : Byts 64 s) (w : World) : Calls Tryd.prog 27 #[aggV (u8s s)] w fun e w' => e = .returned (.tuple #[aggV (stC (stampL s).1.1 (stampL s).1.2.1 (stampL s).1.2.2), .bool (stampL s).2]) ∧ Kept [] w w' := by
  cases hS : isStampB s with
  | false =>
    have e : stampL s = ((0, 0, 0), false) := by simp [stampL, hS]
    rw [e]
    exact stamp_A s hs hS w
  | true =>
    by_cases hQ : s = laidL (pOf s) (hOf s) (psnL s) (halfL s)
    · have e : stampL s = ((pOf s, hOf s, psnL s), true) := by unfold stampL; rw [if_pos ⟨hS, hQ⟩]
      rw [e]
      exact stamp_B s hs hS (decide_eq_true hQ) w
    · have e : stampL s = ((0, 0, 0), false) := by unfold stampL; rw [if_neg (fun h => hQ h.2)]
      rw [e]
      exact stamp_C s hs hS (decide_eq_false hQ) w

end Go.Proofs.YtkpkiibahfdomaaDoor.Pg

namespace Go.Proofs.YtkpkiibahfdomaaDoor.Pg
open Go.RowKit

theorem laid_p (p h n : Int) (x : List Int) : pOf (laidL p h n x) = p % 256 := rfl
theorem laid_h (p h n : Int) (x : List Int) : hOf (laidL p h n x) = (161 + h) % 256 - 161 := rfl
theorem laid_half (p h n : Int) {x : List Int} (hx : x.length = 48) : halfL (laidL p h n x) = x := by
  unfold halfL laidL
  rw [List.append_assoc]
  simp [hx]
theorem laid_psn (p h n : Int) (x : List Int) (hn : 0 ≤ n ∧ n < 4294967296) : psnL (laidL p h n x) = n := by
  unfold psnL
  have e : psnK (laidL p h n x) 4 = (((0 * 256 + (n / 16777216 % 256).toNat) * 256 + (n / 65536 % 256).toNat) * 256 + (n / 256 % 256).toNat) * 256 + (n % 256).toNat := rfl
  rw [e]
  omega
theorem zs_psn : psnL (zs 64) = 0 := by rfl

theorem putL_ok {p n : Int} {s : List Int} (h : (putL p n s).2 = 0) : isPageB p = true ∧ isVer n s = true ∧ 0 ≤ n ∧ n ≤ 2147483647 := by
  unfold putL at h
  split at h
  · simp at h
  · next hb =>
    have hb : isPageB p = true ∧ isVer n s = true := by simpa using hb
    refine ⟨hb.1, hb.2, ?_⟩
    have := hb.2
    unfold isVer at this
    split at this
    · omega
    · simp [isWrit] at this; omega

/-- The two sectors that Put laid. -/
def fstL (p n : Int) (s : List Int) : List Int := if n = 0 then zs 64 else laidL p 0 n (s.take 48)
def sndL (p n : Int) (s : List Int) : List Int := if n = 0 then zs 64 else laidL p 1 n (s.drop 48)
theorem fst_byts {p n : Int} {s : List Int} (hs : Byts 96 s) : Byts 64 (fstL p n s) := by unfold fstL; split; exact zs_byts 64; exact laidL_byts (take48 hs)
theorem snd_byts {p n : Int} {s : List Int} (hs : Byts 96 s) : Byts 64 (sndL p n s) := by unfold sndL; split; exact zs_byts 64; exact laidL_byts (drop48 hs)
theorem putL_eq {p n : Int} {s : List Int} (h : (putL p n s).2 = 0) : (putL p n s).1 = fstL p n s ++ sndL p n s := by
  obtain ⟨h1, h2, _⟩ := putL_ok h
  unfold putL fstL sndL
  rw [h1, h2]
  simp
  split
  · exact zs2
  · rfl
theorem fst_psn {p n : Int} {s : List Int} (hn : 0 ≤ n ∧ n ≤ 2147483647) : psnL (fstL p n s) = n := by
  unfold fstL; split
  · next h => rw [zs_psn, h]
  · exact laid_psn _ _ _ _ (by omega)
theorem snd_psn {p n : Int} {s : List Int} (hn : 0 ≤ n ∧ n ≤ 2147483647) : psnL (sndL p n s) = n := by
  unfold sndL; split
  · next h => rw [zs_psn, h]
  · exact laid_psn _ _ _ _ (by omega)
theorem fst_page {p n : Int} {s : List Int} (hn : n ≠ 0) (hp : isPageB p = true) : pOf (fstL p n s) = p := by
  have : 0 ≤ p ∧ p < 16 := by simpa [isPageB] using hp
  unfold fstL; rw [if_neg hn, laid_p]; omega
theorem snd_page {p n : Int} {s : List Int} (hn : n ≠ 0) (hp : isPageB p = true) : pOf (sndL p n s) = p := by
  have : 0 ≤ p ∧ p < 16 := by simpa [isPageB] using hp
  unfold sndL; rw [if_neg hn, laid_p]; omega

/-- Sectors that are whole are those that Put lays for what they say. -/
theorem get_ok {p : Int} {x y : List Int} (hx : Byts 64 x) (hy : Byts 64 y) (h : (getL p x y).2 = 0) : (putL p (psnL x) (halfL x ++ halfL y)).2 = 0 ∧ x = fstL p (psnL x) (halfL x ++ halfL y) ∧ y = sndL p (psnL x) (halfL x ++ halfL y) := by
  unfold getL at h
  split at h
  · simp at h
  · split at h
    · simp at h
    · next hb =>
      have hb := not_or.1 hb
      have h1 : (putL p (psnL x) (halfL x ++ halfL y)).2 = 0 := Classical.not_not.1 hb.1
      have h2 : (putL p (psnL x) (halfL x ++ halfL y)).1 = x ++ y := Classical.not_not.1 hb.2
      rw [putL_eq h1] at h2
      have := List.append_inj h2 (by rw [(fst_byts (halves_byts hx hy)).len, hx.len])
      exact ⟨h1, this.1.symm, this.2.symm⟩
theorem whole_psn {p : Int} {x y : List Int} (hx : Byts 64 x) (hy : Byts 64 y) (h : (getL p x y).2 = 0) : psnL x = psnL y := by
  obtain ⟨h1, _, h3⟩ := get_ok hx hy h
  have := snd_psn (p := p) (s := halfL x ++ halfL y) (putL_ok h1).2.2
  rw [← h3] at this
  exact this.symm
theorem whole_page {p : Int} {x y : List Int} (hx : Byts 64 x) (hy : Byts 64 y) (h : (getL p x y).2 = 0) (hn : psnL x ≠ 0) : pOf x = p ∧ pOf y = p := by
  obtain ⟨h1, h2, h3⟩ := get_ok hx hy h
  have hp := (putL_ok h1).1
  have e1 := fst_page (s := halfL x ++ halfL y) hn hp
  have e2 := snd_page (s := halfL x ++ halfL y) hn hp
  rw [← h2] at e1
  rw [← h3] at e2
  exact ⟨e1, e2⟩

theorem torn1 {p q n m : Int} {s t : List Int} (hs : Byts 96 s) (ht : Byts 96 t) (h1 : (putL p n s).2 = 0) (h2 : (putL q m t).2 = 0) (hne : n ≠ m) : decide ((getL p (fstL p n s) (sndL q m t)).2 = 0) = false := by
  apply decide_eq_false
  intro h
  have := whole_psn (fst_byts hs) (snd_byts ht) h
  rw [fst_psn (putL_ok h1).2.2, snd_psn (putL_ok h2).2.2] at this
  exact hne this
theorem torn2 {p q n m : Int} {s t : List Int} (hs : Byts 96 s) (ht : Byts 96 t) (h1 : (putL p n s).2 = 0) (h2 : (putL q m t).2 = 0) (hne : n ≠ m) : decide ((getL p (fstL q m t) (sndL p n s)).2 = 0) = false := by
  apply decide_eq_false
  intro h
  have := whole_psn (fst_byts ht) (snd_byts hs) h
  rw [fst_psn (putL_ok h2).2.2, snd_psn (putL_ok h1).2.2] at this
  exact hne this.symm
theorem torn3 {p q n : Int} {s : List Int} (hs : Byts 96 s) (h1 : (putL p n s).2 = 0) (hn : n ≠ 0) (hpq : p ≠ q) : decide ((getL q (fstL p n s) (sndL p n s)).2 = 0) = false := by
  apply decide_eq_false
  intro h
  have := whole_page (fst_byts hs) (snd_byts hs) h (by rw [fst_psn (putL_ok h1).2.2]; exact hn)
  rw [fst_page hn (putL_ok h1).1] at this
  exact hpq this.1
theorem torn4 {p q n m : Int} {s t : List Int} (hs : Byts 96 s) (ht : Byts 96 t) (h1 : (putL p n s).2 = 0) (h2 : (putL q m t).2 = 0) (hn : n ≠ 0) (hpq : p ≠ q) : decide ((getL p (fstL p n s) (sndL q m t)).2 = 0) = false := by
  by_cases hnm : n = m
  · apply decide_eq_false
    intro h
    have := whole_page (fst_byts hs) (snd_byts ht) h (by rw [fst_psn (putL_ok h1).2.2]; exact hn)
    rw [snd_page (by rw [← hnm]; exact hn) (putL_ok h2).1] at this
    exact hpq this.2.symm
  · exact torn1 hs ht h1 h2 hnm
theorem stamp_zs : stampL (zs 64) = ((0, 0, 0), false) := by rfl
theorem stamp_laid {p n : Int} {h : Int} {x : List Int} (hp : isPageB p = true) (hh : h = 0 ∨ h = 1) (hn : 1 ≤ n ∧ n ≤ 2147483647) (hx : x.length = 48) : stampL (laidL p h n x) = ((p, h, n), true) := by
  have hp' : 0 ≤ p ∧ p < 16 := by simpa [isPageB] using hp
  have e1 : pOf (laidL p h n x) = p := by rw [laid_p]; omega
  have e2 : hOf (laidL p h n x) = h := by rw [laid_h]; omega
  have e3 := laid_psn p h n x (by omega)
  have e4 := laid_half p h n hx
  unfold stampL isStampB
  rw [e1, e2, e3, e4, hp]
  have e5 : isWrit n = true := by simp [isWrit]; omega
  have e6 : decide (h = 0 ∨ h = 1) = true := decide_eq_true hh
  rw [e5, e6]
  simp
theorem stamp_fst {p n : Int} {s : List Int} (hs : Byts 96 s) (h1 : (putL p n s).2 = 0) : stampL (fstL p n s) = if n = 0 then ((0, 0, 0), false) else ((p, 0, n), true) := by
  obtain ⟨a1, a2, a3⟩ := putL_ok h1
  unfold fstL
  by_cases h : n = 0
  · simp only [h, if_true]; exact stamp_zs
  · rw [if_neg h, if_neg h]
    exact stamp_laid a1 (.inl rfl) (by omega) (take48 hs).len
theorem stamp_snd {p n : Int} {s : List Int} (hs : Byts 96 s) (h1 : (putL p n s).2 = 0) : stampL (sndL p n s) = if n = 0 then ((0, 0, 0), false) else ((p, 1, n), true) := by
  obtain ⟨a1, a2, a3⟩ := putL_ok h1
  unfold sndL
  by_cases h : n = 0
  · simp only [h, if_true]; exact stamp_zs
  · rw [if_neg h, if_neg h]
    exact stamp_laid a1 (.inr rfl) (by omega) (drop48 hs).len

end Go.Proofs.YtkpkiibahfdomaaDoor.Pg

namespace Go.Proofs.YtkpkiibahfdomaaDoor.Pg
open Go.RowKit

theorem wp_assign {P : Program} {o : Oper} {a : Act} {w : World} {K : Act → World → Prop} {Q : Exit → Act → World → Prop} (x : Operand) (ho : o.op = .assign x) (d : Nat) (hd : o.dst = some d) (v : Value) (hx : a.eval x = v) (h : K (a.put (some d) v) w) : o.wp P a w K Q := by
  subst hx
  rw [← hd] at h
  unfold Oper.wp execOp
  simp only [ho]
  exact h

/-- The document's May. -/
def mayB (n : Int) (s : List Int) : Bool := decide (0 ≤ n ∧ n ≤ 2147483647 ∧ (0 < n ∨ s = zs 96))
theorem may_ver (n : Int) (s : List Int) : mayB n s = isVer n s := by
  unfold mayB isVer
  by_cases h : n = 0
  · subst h; simp
  · simp only [h, if_false, isWrit]
    rw [decide_eq_decide]
    omega

/-- A value is boxed. -/
theorem wpBoxV {ops : Array Oper} {rest : List Oper} {op : Oper} {a : Act} {w : World} {Q : Exit → Act → World → Prop} {T : Nat} (d : Nat) (hd : op.dst = some d) (hgd : op.guard = none) (x : Operand) (ho : op.op = .box T x) (vs : List Value) (hx : a.eval x = aggV vs)
    (h : ∀ W b, b = w.heap.size → Blk W b T vs → Kept [] w W → wpList Tryd.prog ops Q rest (a.put (some d) (P0 b)) W) : wpList Tryd.prog ops Q (op :: rest) a w := by
  refine wpBoxA hgd x ho vs hx ?_
  rw [hd]
  exact h _ _ rfl (Blk.new w T vs) ((Kept.refl _ _).alloc _)

section
variable {o : Oper} {a : Act} {w : World} {K : Act → World → Prop} {Q : Exit → Act → World → Prop}
theorem o_field0 (x : Operand) (ho : o.op = .fieldAddr 61 x 0) (b : Nat) (hx : a.eval x = P0 b) (h : K (a.put o.dst (.pointer (some ⟨b, 0, none⟩))) w) : o.wp Tryd.prog a w K Q := by
  unfold Oper.wp execOp
  simp only [ho, hx]
  exact h
theorem o_geq2 (x : Operand) (c : Int) (ho : o.op = .binOp .geq 2 x (.const (.int .i64 c)) 2) (m : Int) (r : Bool) (hr : decide (c ≤ m) = r) (hx : a.eval x = .int .i64 m) (h : K (a.put o.dst (.bool r)) w) : o.wp Tryd.prog a w K Q := by
  unfold Oper.wp execOp
  simp only [ho, hx]
  simp [go_sem, hr]
  exact h
theorem o_leq2 (x : Operand) (c : Int) (ho : o.op = .binOp .leq 2 x (.const (.int .i64 c)) 2) (m : Int) (r : Bool) (hr : decide (m ≤ c) = r) (hx : a.eval x = .int .i64 m) (h : K (a.put o.dst (.bool r)) w) : o.wp Tryd.prog a w K Q := by
  unfold Oper.wp execOp
  simp only [ho, hx]
  simp [go_sem, hr]
  exact h
theorem o_pickN (c x : Operand) (ho : o.op = .pick c x (.const (.bool false))) (hc : a.eval c = .bool false) (h : K (a.put o.dst (.bool false)) w) : o.wp Tryd.prog a w K Q := by
  unfold Oper.wp execOp
  simp only [ho, hc]
  simp [go_sem]
  exact h
end
def mayTneg (n : Int) (b : Nat) : List Fc := [.is (.pointer (some ⟨b, 0, none⟩)), .is (.int .i64 n), .is (.bool false), .is (.bool false), .no, .no, .no, .is (.bool false), .is (.bool false), .no, .no, .no, .no, .no, .no, .no, .no, .no, .is (.bool false), .is (.bool false)]
set_option maxHeartbeats 2000000 in
set_option maxRecDepth 100000 in
theorem may_neg (n : Int) (s : List Int) (e1 : decide (0 ≤ n) = false) (w : World) : Calls Tryd.prog 29 #[aggV (verC n s)] w fun e w' => e = .returned (.bool false) ∧ Kept [] w w' := by
  go_enter Tryd.func29, Tryd.ntmps29
  refine wp_seq_k fun K0 hK0 => ?_
  have HK := hide hK0
  clear hK0
  go_wp2_with (refine wpBoxV 1 (by rfl) (by rfl) (.tmp 0) (by rfl) (verC n s) (by rfl) ?_; intro W b hb B K; clear hb)
  refine unhide HK _ _ ?_
  have hc := fits_cell B 0 (.int .i64 n) rfl
  clear B
  refine wp_seq ?_
  refine wp_region_text 20 rfl (by kernel_rfl) (tc (mayTneg n b)) (fun _ _ _ _ => True) (skipOf (mayTneg n b)) (fun j o i b _ => guardsS_some (by kernel_rfl) j o i b) (fun j o _ => guardsS_none (by kernel_rfl) j o) (fun j w => skip_undef w) (fun _ _ _ _ => trivial) (tc_kept _) (by kernel_rfl) ?_ ?_
  · intro j o hj hs' ho a w2 hout hin hk
    show o.wp Tryd.prog a w2 (opPc (mayTneg n b) o a w2 j 20) _
    match j, ho with
    | 0, ho =>
      obtain rfl := Option.some.inj ho
      exact o_field0 (.tmp 1) rfl b ((hout 1 (by kernel_rfl)).trans (by kernel_rfl)) (postc rfl (Kept.refl _ _))
    | 1, ho =>
      obtain rfl := Option.some.inj ho
      exact o_load2 (.tmp 3) rfl ⟨b, 0, none⟩ _ (hin 0 3 (by kernel_rfl) (by kernel_rfl)) (hk.cell hc (by simp)) (postc rfl (Kept.refl _ _))
    | 2, ho =>
      obtain rfl := Option.some.inj ho
      exact o_geq2 (.tmp 4) 0 rfl n false e1 (hin 1 4 (by kernel_rfl) (by kernel_rfl)) (postc rfl (Kept.refl _ _))
    | 3, ho =>
      obtain rfl := Option.some.inj ho
      exact wp_move (.tmp 5) rfl (by rw [show a.eval (.tmp 5) = _ from (hin 2 5 (by kernel_rfl) (by kernel_rfl))]; exact (postc rfl (Kept.refl _ _)))
    | 4, ho => exact absurd (show true = false from hs') (by decide)
    | 5, ho => exact absurd (show true = false from hs') (by decide)
    | 6, ho => exact absurd (show true = false from hs') (by decide)
    | 7, ho =>
      obtain rfl := Option.some.inj ho
      exact o_pickN (.tmp 6) (.tmp 9) rfl (hin 3 6 (by kernel_rfl) (by kernel_rfl)) (postc rfl (Kept.refl _ _))
    | 8, ho =>
      obtain rfl := Option.some.inj ho
      exact wp_move (.tmp 10) rfl (by rw [show a.eval (.tmp 10) = _ from (hin 7 10 (by kernel_rfl) (by kernel_rfl))]; exact (postc rfl (Kept.refl _ _)))
    | 9, ho => exact absurd (show true = false from hs') (by decide)
    | 10, ho => exact absurd (show true = false from hs') (by decide)
    | 11, ho => exact absurd (show true = false from hs') (by decide)
    | 12, ho => exact absurd (show true = false from hs') (by decide)
    | 13, ho => exact absurd (show true = false from hs') (by decide)
    | 14, ho => exact absurd (show true = false from hs') (by decide)
    | 15, ho => exact absurd (show true = false from hs') (by decide)
    | 16, ho => exact absurd (show true = false from hs') (by decide)
    | 17, ho => exact absurd (show true = false from hs') (by decide)
    | 18, ho =>
      obtain rfl := Option.some.inj ho
      exact o_pickN (.tmp 11) (.tmp 20) rfl (hin 8 11 (by kernel_rfl) (by kernel_rfl)) (postc rfl (Kept.refl _ _))
    | 19, ho =>
      obtain rfl := Option.some.inj ho
      exact wp_assign (.tmp 21) rfl 2 rfl _ (hin 18 21 (by kernel_rfl) (by kernel_rfl)) (postc rfl (Kept.refl _ _))
  · intro vs w5 hlen hF hk5
    match vs, hlen with
    | [x0, x1, x2, x3, x4, x5, x6, x7, x8, x9, x10, x11, x12, x13, x14, x15, x16, x17, x18, x19], _ =>
    obtain rfl : x0 = _ := hF 0 _ rfl
    obtain rfl : x1 = _ := hF 1 _ rfl
    obtain rfl : x2 = _ := hF 2 _ rfl
    obtain rfl : x3 = _ := hF 3 _ rfl
    obtain rfl : x4 = _ := hF 4 _ rfl
    obtain rfl : x5 = _ := hF 5 _ rfl
    obtain rfl : x6 = _ := hF 6 _ rfl
    obtain rfl : x7 = _ := hF 7 _ rfl
    obtain rfl : x8 = _ := hF 8 _ rfl
    obtain rfl : x9 = _ := hF 9 _ rfl
    obtain rfl : x10 = _ := hF 10 _ rfl
    obtain rfl : x11 = _ := hF 11 _ rfl
    obtain rfl : x12 = _ := hF 12 _ rfl
    obtain rfl : x13 = _ := hF 13 _ rfl
    obtain rfl : x14 = _ := hF 14 _ rfl
    obtain rfl : x15 = _ := hF 15 _ rfl
    obtain rfl : x16 = _ := hF 16 _ rfl
    obtain rfl : x17 = _ := hF 17 _ rfl
    obtain rfl : x18 = _ := hF 18 _ rfl
    obtain rfl : x19 = _ := hF 19 _ rfl
    clear hF
    simp only [List.take_succ_cons, List.take_zero, putAll, Act.put, List.setIfInBounds_toArray, List.set_cons_succ, List.set_cons_zero]
    go_wp2_with fail
    go_ret
    exact ⟨rfl, K.trans hk5⟩
def mayTbig (n : Int) (b : Nat) : List Fc := [.is (.pointer (some ⟨b, 0, none⟩)), .is (.int .i64 n), .is (.bool true), .is (.bool true), .is (.pointer (some ⟨b, 0, none⟩)), .is (.int .i64 n), .is (.bool false), .is (.bool false), .is (.bool false), .no, .no, .no, .no, .no, .no, .no, .no, .no, .is (.bool false), .is (.bool false)]
set_option maxHeartbeats 2000000 in
set_option maxRecDepth 100000 in
theorem may_big (n : Int) (s : List Int) (e1 : decide (0 ≤ n) = true) (e2 : decide (n ≤ 2147483647) = false) (w : World) : Calls Tryd.prog 29 #[aggV (verC n s)] w fun e w' => e = .returned (.bool false) ∧ Kept [] w w' := by
  go_enter Tryd.func29, Tryd.ntmps29
  refine wp_seq_k fun K0 hK0 => ?_
  have HK := hide hK0
  clear hK0
  go_wp2_with (refine wpBoxV 1 (by rfl) (by rfl) (.tmp 0) (by rfl) (verC n s) (by rfl) ?_; intro W b hb B K; clear hb)
  refine unhide HK _ _ ?_
  have hc := fits_cell B 0 (.int .i64 n) rfl
  clear B
  refine wp_seq ?_
  refine wp_region_text 20 rfl (by kernel_rfl) (tc (mayTbig n b)) (fun _ _ _ _ => True) (skipOf (mayTbig n b)) (fun j o i b _ => guardsS_some (by kernel_rfl) j o i b) (fun j o _ => guardsS_none (by kernel_rfl) j o) (fun j w => skip_undef w) (fun _ _ _ _ => trivial) (tc_kept _) (by kernel_rfl) ?_ ?_
  · intro j o hj hs' ho a w2 hout hin hk
    show o.wp Tryd.prog a w2 (opPc (mayTbig n b) o a w2 j 20) _
    match j, ho with
    | 0, ho =>
      obtain rfl := Option.some.inj ho
      exact o_field0 (.tmp 1) rfl b ((hout 1 (by kernel_rfl)).trans (by kernel_rfl)) (postc rfl (Kept.refl _ _))
    | 1, ho =>
      obtain rfl := Option.some.inj ho
      exact o_load2 (.tmp 3) rfl ⟨b, 0, none⟩ _ (hin 0 3 (by kernel_rfl) (by kernel_rfl)) (hk.cell hc (by simp)) (postc rfl (Kept.refl _ _))
    | 2, ho =>
      obtain rfl := Option.some.inj ho
      exact o_geq2 (.tmp 4) 0 rfl n true e1 (hin 1 4 (by kernel_rfl) (by kernel_rfl)) (postc rfl (Kept.refl _ _))
    | 3, ho =>
      obtain rfl := Option.some.inj ho
      exact wp_move (.tmp 5) rfl (by rw [show a.eval (.tmp 5) = _ from (hin 2 5 (by kernel_rfl) (by kernel_rfl))]; exact (postc rfl (Kept.refl _ _)))
    | 4, ho =>
      obtain rfl := Option.some.inj ho
      exact o_field0 (.tmp 1) rfl b ((hout 1 (by kernel_rfl)).trans (by kernel_rfl)) (postc rfl (Kept.refl _ _))
    | 5, ho =>
      obtain rfl := Option.some.inj ho
      exact o_load2 (.tmp 7) rfl ⟨b, 0, none⟩ _ (hin 4 7 (by kernel_rfl) (by kernel_rfl)) (hk.cell hc (by simp)) (postc rfl (Kept.refl _ _))
    | 6, ho =>
      obtain rfl := Option.some.inj ho
      exact o_leq2 (.tmp 8) 2147483647 rfl n false e2 (hin 5 8 (by kernel_rfl) (by kernel_rfl)) (postc rfl (Kept.refl _ _))
    | 7, ho =>
      obtain rfl := Option.some.inj ho
      exact o_pick (.tmp 6) (.tmp 9) rfl false (hin 3 6 (by kernel_rfl) (by kernel_rfl)) (hin 6 9 (by kernel_rfl) (by kernel_rfl)) (postc rfl (Kept.refl _ _))
    | 8, ho =>
      obtain rfl := Option.some.inj ho
      exact wp_move (.tmp 10) rfl (by rw [show a.eval (.tmp 10) = _ from (hin 7 10 (by kernel_rfl) (by kernel_rfl))]; exact (postc rfl (Kept.refl _ _)))
    | 9, ho => exact absurd (show true = false from hs') (by decide)
    | 10, ho => exact absurd (show true = false from hs') (by decide)
    | 11, ho => exact absurd (show true = false from hs') (by decide)
    | 12, ho => exact absurd (show true = false from hs') (by decide)
    | 13, ho => exact absurd (show true = false from hs') (by decide)
    | 14, ho => exact absurd (show true = false from hs') (by decide)
    | 15, ho => exact absurd (show true = false from hs') (by decide)
    | 16, ho => exact absurd (show true = false from hs') (by decide)
    | 17, ho => exact absurd (show true = false from hs') (by decide)
    | 18, ho =>
      obtain rfl := Option.some.inj ho
      exact o_pickN (.tmp 11) (.tmp 20) rfl (hin 8 11 (by kernel_rfl) (by kernel_rfl)) (postc rfl (Kept.refl _ _))
    | 19, ho =>
      obtain rfl := Option.some.inj ho
      exact wp_assign (.tmp 21) rfl 2 rfl _ (hin 18 21 (by kernel_rfl) (by kernel_rfl)) (postc rfl (Kept.refl _ _))
  · intro vs w5 hlen hF hk5
    match vs, hlen with
    | [x0, x1, x2, x3, x4, x5, x6, x7, x8, x9, x10, x11, x12, x13, x14, x15, x16, x17, x18, x19], _ =>
    obtain rfl : x0 = _ := hF 0 _ rfl
    obtain rfl : x1 = _ := hF 1 _ rfl
    obtain rfl : x2 = _ := hF 2 _ rfl
    obtain rfl : x3 = _ := hF 3 _ rfl
    obtain rfl : x4 = _ := hF 4 _ rfl
    obtain rfl : x5 = _ := hF 5 _ rfl
    obtain rfl : x6 = _ := hF 6 _ rfl
    obtain rfl : x7 = _ := hF 7 _ rfl
    obtain rfl : x8 = _ := hF 8 _ rfl
    obtain rfl : x9 = _ := hF 9 _ rfl
    obtain rfl : x10 = _ := hF 10 _ rfl
    obtain rfl : x11 = _ := hF 11 _ rfl
    obtain rfl : x12 = _ := hF 12 _ rfl
    obtain rfl : x13 = _ := hF 13 _ rfl
    obtain rfl : x14 = _ := hF 14 _ rfl
    obtain rfl : x15 = _ := hF 15 _ rfl
    obtain rfl : x16 = _ := hF 16 _ rfl
    obtain rfl : x17 = _ := hF 17 _ rfl
    obtain rfl : x18 = _ := hF 18 _ rfl
    obtain rfl : x19 = _ := hF 19 _ rfl
    clear hF
    simp only [List.take_succ_cons, List.take_zero, putAll, Act.put, List.setIfInBounds_toArray, List.set_cons_succ, List.set_cons_zero]
    go_wp2_with fail
    go_ret
    exact ⟨rfl, K.trans hk5⟩
set_option maxHeartbeats 1000000 in
set_option maxRecDepth 100000 in
theorem may_pos (n : Int) (s : List Int) (e1 : decide (0 ≤ n) = true) (e2 : decide (n ≤ 2147483647) = true) (e3 : decide (0 < n) = true) (w : World) : Calls Tryd.prog 29 #[aggV (verC n s)] w fun e w' => e = .returned (.bool true) ∧ Kept [] w w' := by
  go_enter Tryd.func29, Tryd.ntmps29
  go_wp2_with (
    first
    | (refine wpBoxV 1 (by rfl) (by rfl) (.tmp 0) (by rfl) (verC n s) (by rfl) ?_
       intro W b hb B K
       have hc := fits_cell B 0 (.int .i64 n) rfl
       have hr : Hid (W.rangeAt b 1 (u8s s)) := B.rangeIn _ (fun j _ => by simp [verC, Nat.add_comm])
       have hk := hide K
       clear hb B K))
  go_ret
  exact ⟨rfl, unhide hk⟩
set_option maxHeartbeats 1000000 in
set_option maxRecDepth 100000 in
theorem may_nul (n : Int) (s : List Int) (hs : s.length = 96) (e1 : decide (0 ≤ n) = true) (e2 : decide (n ≤ 2147483647) = true) (e3 : decide (0 < n) = false) (w : World) : Calls Tryd.prog 29 #[aggV (verC n s)] w fun e w' => e = .returned (.bool (decide (s = zs 96))) ∧ Kept [] w w' := by
  go_enter Tryd.func29, Tryd.ntmps29
  go_wp2_with (
    first
    | (refine wpBoxV 1 (by rfl) (by rfl) (.tmp 0) (by rfl) (verC n s) (by rfl) ?_
       intro W b hb B K
       have hc := fits_cell B 0 (.int .i64 n) rfl
       have hr : Hid (W.rangeAt b 1 (u8s s)) := B.rangeIn _ (fun j _ => by simp [verC, Nat.add_comm])
       have hk := hide K
       clear hb B K)
    | (refine wpLoadG row23 (.tmp 16) (by rfl) (by rfl) b 1 (by rfl) (u8s s) (by rw [u8s_len, hs]) (unhide hr) ?_)
    | (refine wpBuildG _ (by rfl) (by rfl) #[] (by simp only [List.map_toArray, List.map_nil]) (u8s (zs 96)) (build23 _) ?_)
    | (refine wpEqlG 23 23 guard23 (.tmp 17) (.tmp 18) (by rfl) (by rfl) (u8s s) (u8s (zs 96)) (by rfl) (by rfl) _ (equal23 _ _ _ hs (zs_byts 96).len) ?_))
  go_ret
  exact ⟨rfl, unhide hk⟩
theorem may9 (n : Int) (s : List Int) (hs : s.length = 96) (w : World) : Calls Tryd.prog 29 #[aggV (verC n s)] w fun e w' => e = .returned (.bool (mayB n s)) ∧ Kept [] w w' := by
  by_cases h1 : 0 ≤ n
  · have e1 : decide (0 ≤ n) = true := decide_eq_true h1
    by_cases h2 : n ≤ 2147483647
    · have e2 : decide (n ≤ 2147483647) = true := decide_eq_true h2
      by_cases h3 : 0 < n
      · have e : mayB n s = true := decide_eq_true ⟨h1, h2, .inl h3⟩
        rw [e]
        exact may_pos n s e1 e2 (decide_eq_true h3) w
      · have e : mayB n s = decide (s = zs 96) := by
          unfold mayB
          rw [decide_eq_decide]
          exact ⟨fun h => h.2.2.elim (fun h => absurd h h3) id, fun h => ⟨h1, h2, .inr h⟩⟩
        rw [e]
        exact may_nul n s hs e1 e2 (decide_eq_false h3) w
    · have e : mayB n s = false := decide_eq_false (fun h => h2 h.2.1)
      rw [e]
      exact may_big n s e1 (decide_eq_false h2) w
  · have e : mayB n s = false := decide_eq_false (fun h => h1 h.1)
    rw [e]
    exact may_neg n s (decide_eq_false h1) w

theorem res30 (w : World) (z : Nat) (vs : List Value) (tmps : Array Value) (h4 : tmps[6]?.getD undef = P0 z) (hl : vs.length = 64) (hb : Blk w z 29 vs) : (results Tryd.f30 tmps).run Tryd.prog w = .ok (aggV vs) w := by
  have := loadV row29 hl hb
  simp [results, Tryd.results30, h4, this, asAddr]

/-- The first j bytes of a half are laid. -/
def halfJ (p h n : Int) (x : List Int) (j : Nat) : List Int := [(161 + h) % 256, p % 256, n / 16777216 % 256, n / 65536 % 256, n / 256 % 256, n % 256] ++ x.take j ++ zs (58 - j)
theorem halfJ_len (p h n : Int) {x : List Int} (hx : x.length = 48) (j : Nat) (hj : j ≤ 48) : (halfJ p h n x j).length = 64 := by simp [halfJ, hx, zs]; omega
theorem halfJ_set (p h n : Int) {x : List Int} (hx : x.length = 48) (j : Nat) (hj : j < 48) : (halfJ p h n x j).set (6 + j) (x[j]'(by omega)) = halfJ p h n x (j + 1) := by
  have ht : (x.take j).length = j := by rw [List.length_take]; omega
  obtain ⟨k, hk⟩ : ∃ k, 58 - j = k + 1 := ⟨57 - j, by omega⟩
  have hk2 : 58 - (j + 1) = k := by omega
  unfold halfJ
  rw [hk, hk2]
  have ht2 : x.take (j + 1) = x.take j ++ [x[j]'(by omega)] := List.take_succ_eq_append_getElem (by omega)
  rw [ht2]
  rw [List.set_append_right _ _ (by simp [ht]; omega), List.length_append, ht]
  simp only [List.length_cons, List.length_nil]
  rw [show 6 + j - (0 + 1 + 1 + 1 + 1 + 1 + 1 + j) = 0 by omega]
  simp only [zs, List.replicate_succ, List.set_cons_zero]
  simp only [List.append_assoc, List.cons_append, List.nil_append]
theorem halfJ_all (p h n : Int) {x : List Int} (hx : x.length = 48) : halfJ p h n x 48 = laidL p h n x := by
  unfold halfJ laidL
  rw [List.take_of_length_le (by omega)]
theorem put4 (p h n : Int) (x : List Int) : putPsn n 4 (laidBase p h) = halfJ p h n x 0 := by
  have e0 : n / 256 ^ 0 % 256 = n % 256 := by simp
  have e1 : n / 256 ^ 1 % 256 = n / 256 % 256 := by simp
  have e2 : n / 256 ^ 2 % 256 = n / 65536 % 256 := by simp
  have e3 : n / 256 ^ 3 % 256 = n / 16777216 % 256 := by simp
  show (((((laidBase p h).set 5 _).set 4 _).set 3 _).set 2 _) = _
  rw [e0, e1, e2, e3]
  rfl

end Go.Proofs.YtkpkiibahfdomaaDoor.Pg

namespace Go.Proofs.YtkpkiibahfdomaaDoor.Pg
open Go.RowKit

set_option maxHeartbeats 4000000 in
set_option maxRecDepth 100000 in
theorem half13_0 (p n : Int) (s : List Int) (hs : Byts 96 s) (hn : 0 ≤ n ∧ n ≤ 2147483647) (h0 : n ≠ 0) (w : World) : Calls Tryd.prog 30 #[.int .i64 p, aggV (verC n s), .int .i64 0] w fun e w' => e = .returned (aggV (u8s (laidL p 0 n ((s.drop 0).take 48)))) ∧ Kept [] w w' := by
  have hX : Byts 48 ((s.drop 0).take 48) := ⟨by simp [hs.len], fun x hx => hs.byte x (List.mem_of_mem_drop (List.mem_of_mem_take hx))⟩
  have hnz : (n == 0) = false := by simpa using h0
  go_enter Tryd.func30, Tryd.ntmps30
  go_wp2_with (
    first
    | (refine wpBoxA rfl (.tmp 1) rfl (verC n s) rfl ?_)
    | (refine wpAllocV (u8s (zs 64)) zero29 7 rfl rfl rfl ?_
       intro W eW
       have b0 : Blk W w.heap.size 61 (verC n s) := by rw [eW]; exact ((Blk.new' rfl).alloc _).alloc _
       have b1 : Hid (Blk W (w.heap.size + 1) 29 (u8s (zs 64))) := by rw [eW]; exact (Blk.new' (by simp)).alloc _
       have b2 : Blk W (w.heap.size + 1 + 1) 29 (u8s (zs 64)) := by rw [eW]; exact Blk.new' (by simp)
       have hk : Hid (Kept [] w W) := by rw [eW]; exact (((Kept.refl _ _).alloc _).alloc _).alloc _
       have c0 := fits_cell b0 0 (.int .i64 n) rfl
       have d0 := fits_cell b2 0 (.int .u8 0) rfl
       have d1 := fits_cell b2 1 (.int .u8 0) rfl
       have f0 := b2.frozen 0
       have f1 := b2.frozen 1
       have B0 := hide b0
       have B2 := hide b2
       clear eW b0 b2)
    | (refine wpAllocA (u8s (zs 64)) zero29 rfl rfl ?_))
  go_loopw [9, 8] (fun i v wr => ∃ k : Nat, k ≤ 4 ∧ i = .int .i64 (5 - k) ∧ v = .int .i64 (n / 256 ^ k) ∧ Hid (Blk wr w.heap.size 61 (verC n s)) ∧ Hid (Blk wr (w.heap.size + 1) 29 (u8s (zs 64))) ∧ Hid (Blk wr (w.heap.size + 1 + 1) 29 (u8s (putPsn n k (laidBase p 0)))) ∧ Hid (Kept [] w wr)) (fun i _ _ => (intOf i).toNat)
  case atStart =>
    refine ⟨0, by omega, rfl, by simp, ?_, ?_, ?_, ?_⟩
    · exact ((unhide B0).set_other (by omega) _).set_other (by omega) _
    · exact ((unhide b1).set_other (by omega) _).set_other (by omega) _
    · have := ((unhide B2).set (i := 0) (.int .u8 ((161 + 0) % 256))).set (i := 1) (.int .u8 (p % 256))
      rw [u8s_set, u8s_set] at this
      exact this
    · exact ((unhide hk).setCell (by simp; omega) _).setCell (by simp; omega) _
  case round =>
    obtain ⟨k, hk4, rfl, rfl, R0, R1, R2, RK⟩ := hrel
    have hlen : (putPsn n k (laidBase p 0)).length = 64 := by rw [putPsn_len]; simp [laidBase, zs]
    clear c0 d0 d1 f0 f1 B0 b1 B2 hk
    obtain ⟨m, hm⟩ : ∃ m, n / 256 ^ k = m := ⟨_, rfl⟩
    have hp : (0 : Int) < 256 ^ k := Int.pow_pos (by omega)
    have hm0 : 0 ≤ m := by rw [← hm]; exact Int.ediv_nonneg hn.1 (by omega)
    have hm1 : m ≤ 2147483647 := by rw [← hm]; exact Int.le_trans (Int.ediv_le_self _ hn.1) hn.2
    have hnx : Hid (n / 256 ^ (k + 1) = m / 256) := by show _ = _; rw [Int.pow_succ, ← Int.ediv_ediv_of_nonneg (Int.le_of_lt hp), hm]
    have HM := hide hm
    rw [hm]
    clear hm hp
    by_cases hlt : k < 4
    · have e5 : (5 - (k : Int)).toNat = 5 - k := by omega
      have q5 : wr.cell? ⟨w.heap.size + 1 + 1, 5 - k, none⟩ = some (.int .u8 ((putPsn n k (laidBase p 0))[5 - k]'(by omega))) := fits_cell (unhide R2) (5 - k) _ (by simp [u8s])
      have z5 := (unhide R2).frozen (5 - k)
      have t1 : m.tmod 256 = m % 256 := Int.tmod_eq_emod_of_nonneg hm0
      have t2 : m.tdiv 256 = m / 256 := Int.tdiv_eq_ediv_of_nonneg hm0
      go_wp2_with fail
      go_roundw
      case rel =>
        refine ⟨k + 1, by omega, by go_num, by rw [unhide hnx], (unhide R0).set_other (by omega) _, (unhide R1).set_other (by omega) _, ?_, (unhide RK).setCell (by simp; omega) _⟩
        have := (unhide R2).set (i := 5 - k) (.int .u8 (m % 256))
        rw [u8s_set] at this
        unfold putPsn
        rw [unhide HM]
        exact this
      case measure => simp [intOf]; omega
    · obtain rfl : k = 4 := by omega
      rw [put4 p 0 n ((s.drop 0).take 48)] at R2
      clear hlen hnx HM
      go_wp2_with fail
      go_loopw [10] (fun i wr => ∃ j : Nat, j ≤ 48 ∧ i = .int .i64 j ∧ Hid (Blk wr w.heap.size 61 (verC n s)) ∧ Hid (Blk wr (w.heap.size + 1) 29 (u8s (zs 64))) ∧ Hid (Blk wr (w.heap.size + 1 + 1) 29 (u8s (halfJ p 0 n ((s.drop 0).take 48) j))) ∧ Hid (Kept [] w wr)) (fun i _ => 48 - (intOf i).toNat)
      case atStart => exact ⟨0, by omega, rfl, R0, R1, R2, RK⟩
      case round =>
        obtain ⟨j, hj, rfl, S0, S1, S2, SK⟩ := hrel
        have hlj := halfJ_len p 0 n hX.len j hj
        by_cases hlt : j < 48
        · have hxj : ((s.drop 0).take 48)[j]'(by rw [hX.len]; exact hlt) = s[0 + j]'(by rw [hs.len]; omega) := by simp
          obtain ⟨x, ex⟩ : ∃ x, ((s.drop 0).take 48)[j]'(by rw [hX.len]; exact hlt) = x := ⟨_, rfl⟩
          have qx : wr.cell? ⟨w.heap.size, 1 + j, none⟩ = some (.int .u8 x) := fits_cell (unhide S0) (1 + j) _ (by
            rw [show 1 + j = 1 + (0 + j) by omega]
            rw [verC, Nat.add_comm 1, List.getElem?_cons_succ]
            simp only [u8s, List.getElem?_map, List.getElem?_eq_getElem (show 0 + j < s.length by rw [hs.len]; omega), Option.map_some]
            rw [← hxj, ex])
          have e6 : ((6 : Int) + (j : Int)).toNat = 6 + j := by omega
          have e7 : ((0 : Int) + (j : Int)).toNat = 0 + j := by omega
          have q6 : wr.cell? ⟨w.heap.size + 1 + 1, 6 + j, none⟩ = some (.int .u8 ((halfJ p 0 n ((s.drop 0).take 48) j)[6 + j]'(by omega))) := fits_cell (unhide S2) (6 + j) _ (by simp [u8s])
          have z6 := (unhide S2).frozen (6 + j)
          have HX := hide ex
          clear hxj ex
          go_wp2_with fail
          go_roundw
          case rel =>
            refine ⟨j + 1, by omega, by go_num, (unhide S0).set_other (by omega) _, (unhide S1).set_other (by omega) _, ?_, (unhide SK).setCell (by simp; omega) _⟩
            have := (unhide S2).set (i := 6 + j) (.int .u8 x)
            have e := halfJ_set p 0 n hX.len j hlt
            rw [unhide HX] at e
            rw [u8s_set, e] at this
            exact this
          case measure => simp [intOf]; omega
        · obtain rfl : j = 48 := by omega
          rw [halfJ_all p 0 n hX.len] at S2
          have hl := (laidL_byts (p := p) (h := 0) (n := n) hX).len
          go_wp2_with (
            first
            | (refine wpLoadA row29 (by rfl) (.tmp 7) (by rfl) (w.heap.size + 1 + 1) 0 (by rfl) (u8s (laidL p 0 n ((s.drop 0).take 48))) (by rw [u8s_len, hl]) (unhide S2).range ?_)
            | (refine wpStoreA row29 (by rfl) (.tmp 6) (.tmp 49) (by rfl) (w.heap.size + 1) 0 (u8s (laidL p 0 n ((s.drop 0).take 48))) (by rfl) (by rfl) (by rw [u8s_len, hl]) (u8s_one _) ((unhide S1).there (by rw [zl]; omega)) ?_))
          have g4 := (unhide S1).put (vs := u8s (laidL p 0 n ((s.drop 0).take 48))) (by rw [zl, u8s_len, hl])
          exact bodyPost_ret (res30 _ _ _ _ rfl (by rw [u8s_len, hl]) g4) rfl ⟨rfl, (unhide SK).setCells _ _ (by omega)⟩

set_option maxHeartbeats 4000000 in
set_option maxRecDepth 100000 in
theorem half13_1 (p n : Int) (s : List Int) (hs : Byts 96 s) (hn : 0 ≤ n ∧ n ≤ 2147483647) (h0 : n ≠ 0) (w : World) : Calls Tryd.prog 30 #[.int .i64 p, aggV (verC n s), .int .i64 1] w fun e w' => e = .returned (aggV (u8s (laidL p 1 n ((s.drop 48).take 48)))) ∧ Kept [] w w' := by
  have hX : Byts 48 ((s.drop 48).take 48) := ⟨by simp [hs.len], fun x hx => hs.byte x (List.mem_of_mem_drop (List.mem_of_mem_take hx))⟩
  have hnz : (n == 0) = false := by simpa using h0
  go_enter Tryd.func30, Tryd.ntmps30
  go_wp2_with (
    first
    | (refine wpBoxA rfl (.tmp 1) rfl (verC n s) rfl ?_)
    | (refine wpAllocV (u8s (zs 64)) zero29 7 rfl rfl rfl ?_
       intro W eW
       have b0 : Blk W w.heap.size 61 (verC n s) := by rw [eW]; exact ((Blk.new' rfl).alloc _).alloc _
       have b1 : Hid (Blk W (w.heap.size + 1) 29 (u8s (zs 64))) := by rw [eW]; exact (Blk.new' (by simp)).alloc _
       have b2 : Blk W (w.heap.size + 1 + 1) 29 (u8s (zs 64)) := by rw [eW]; exact Blk.new' (by simp)
       have hk : Hid (Kept [] w W) := by rw [eW]; exact (((Kept.refl _ _).alloc _).alloc _).alloc _
       have c0 := fits_cell b0 0 (.int .i64 n) rfl
       have d0 := fits_cell b2 0 (.int .u8 0) rfl
       have d1 := fits_cell b2 1 (.int .u8 0) rfl
       have f0 := b2.frozen 0
       have f1 := b2.frozen 1
       have B0 := hide b0
       have B2 := hide b2
       clear eW b0 b2)
    | (refine wpAllocA (u8s (zs 64)) zero29 rfl rfl ?_))
  go_loopw [9, 8] (fun i v wr => ∃ k : Nat, k ≤ 4 ∧ i = .int .i64 (5 - k) ∧ v = .int .i64 (n / 256 ^ k) ∧ Hid (Blk wr w.heap.size 61 (verC n s)) ∧ Hid (Blk wr (w.heap.size + 1) 29 (u8s (zs 64))) ∧ Hid (Blk wr (w.heap.size + 1 + 1) 29 (u8s (putPsn n k (laidBase p 1)))) ∧ Hid (Kept [] w wr)) (fun i _ _ => (intOf i).toNat)
  case atStart =>
    refine ⟨0, by omega, rfl, by simp, ?_, ?_, ?_, ?_⟩
    · exact ((unhide B0).set_other (by omega) _).set_other (by omega) _
    · exact ((unhide b1).set_other (by omega) _).set_other (by omega) _
    · have := ((unhide B2).set (i := 0) (.int .u8 ((161 + 1) % 256))).set (i := 1) (.int .u8 (p % 256))
      rw [u8s_set, u8s_set] at this
      exact this
    · exact ((unhide hk).setCell (by simp; omega) _).setCell (by simp; omega) _
  case round =>
    obtain ⟨k, hk4, rfl, rfl, R0, R1, R2, RK⟩ := hrel
    have hlen : (putPsn n k (laidBase p 1)).length = 64 := by rw [putPsn_len]; simp [laidBase, zs]
    clear c0 d0 d1 f0 f1 B0 b1 B2 hk
    obtain ⟨m, hm⟩ : ∃ m, n / 256 ^ k = m := ⟨_, rfl⟩
    have hp : (0 : Int) < 256 ^ k := Int.pow_pos (by omega)
    have hm0 : 0 ≤ m := by rw [← hm]; exact Int.ediv_nonneg hn.1 (by omega)
    have hm1 : m ≤ 2147483647 := by rw [← hm]; exact Int.le_trans (Int.ediv_le_self _ hn.1) hn.2
    have hnx : Hid (n / 256 ^ (k + 1) = m / 256) := by show _ = _; rw [Int.pow_succ, ← Int.ediv_ediv_of_nonneg (Int.le_of_lt hp), hm]
    have HM := hide hm
    rw [hm]
    clear hm hp
    by_cases hlt : k < 4
    · have e5 : (5 - (k : Int)).toNat = 5 - k := by omega
      have q5 : wr.cell? ⟨w.heap.size + 1 + 1, 5 - k, none⟩ = some (.int .u8 ((putPsn n k (laidBase p 1))[5 - k]'(by omega))) := fits_cell (unhide R2) (5 - k) _ (by simp [u8s])
      have z5 := (unhide R2).frozen (5 - k)
      have t1 : m.tmod 256 = m % 256 := Int.tmod_eq_emod_of_nonneg hm0
      have t2 : m.tdiv 256 = m / 256 := Int.tdiv_eq_ediv_of_nonneg hm0
      go_wp2_with fail
      go_roundw
      case rel =>
        refine ⟨k + 1, by omega, by go_num, by rw [unhide hnx], (unhide R0).set_other (by omega) _, (unhide R1).set_other (by omega) _, ?_, (unhide RK).setCell (by simp; omega) _⟩
        have := (unhide R2).set (i := 5 - k) (.int .u8 (m % 256))
        rw [u8s_set] at this
        unfold putPsn
        rw [unhide HM]
        exact this
      case measure => simp [intOf]; omega
    · obtain rfl : k = 4 := by omega
      rw [put4 p 1 n ((s.drop 48).take 48)] at R2
      clear hlen hnx HM
      go_wp2_with fail
      go_loopw [10] (fun i wr => ∃ j : Nat, j ≤ 48 ∧ i = .int .i64 j ∧ Hid (Blk wr w.heap.size 61 (verC n s)) ∧ Hid (Blk wr (w.heap.size + 1) 29 (u8s (zs 64))) ∧ Hid (Blk wr (w.heap.size + 1 + 1) 29 (u8s (halfJ p 1 n ((s.drop 48).take 48) j))) ∧ Hid (Kept [] w wr)) (fun i _ => 48 - (intOf i).toNat)
      case atStart => exact ⟨0, by omega, rfl, R0, R1, R2, RK⟩
      case round =>
        obtain ⟨j, hj, rfl, S0, S1, S2, SK⟩ := hrel
        have hlj := halfJ_len p 1 n hX.len j hj
        by_cases hlt : j < 48
        · have hxj : ((s.drop 48).take 48)[j]'(by rw [hX.len]; exact hlt) = s[48 + j]'(by rw [hs.len]; omega) := by simp
          obtain ⟨x, ex⟩ : ∃ x, ((s.drop 48).take 48)[j]'(by rw [hX.len]; exact hlt) = x := ⟨_, rfl⟩
          have qx : wr.cell? ⟨w.heap.size, 1 + (48 + j), none⟩ = some (.int .u8 x) := fits_cell (unhide S0) (1 + (48 + j)) _ (by
            rw [show 1 + (48 + j) = 1 + (48 + j) by omega]
            rw [verC, Nat.add_comm 1, List.getElem?_cons_succ]
            simp only [u8s, List.getElem?_map, List.getElem?_eq_getElem (show 48 + j < s.length by rw [hs.len]; omega), Option.map_some]
            rw [← hxj, ex])
          have e6 : ((6 : Int) + (j : Int)).toNat = 6 + j := by omega
          have e7 : ((48 : Int) + (j : Int)).toNat = 48 + j := by omega
          have q6 : wr.cell? ⟨w.heap.size + 1 + 1, 6 + j, none⟩ = some (.int .u8 ((halfJ p 1 n ((s.drop 48).take 48) j)[6 + j]'(by omega))) := fits_cell (unhide S2) (6 + j) _ (by simp [u8s])
          have z6 := (unhide S2).frozen (6 + j)
          have HX := hide ex
          clear hxj ex
          go_wp2_with fail
          go_roundw
          case rel =>
            refine ⟨j + 1, by omega, by go_num, (unhide S0).set_other (by omega) _, (unhide S1).set_other (by omega) _, ?_, (unhide SK).setCell (by simp; omega) _⟩
            have := (unhide S2).set (i := 6 + j) (.int .u8 x)
            have e := halfJ_set p 1 n hX.len j hlt
            rw [unhide HX] at e
            rw [u8s_set, e] at this
            exact this
          case measure => simp [intOf]; omega
        · obtain rfl : j = 48 := by omega
          rw [halfJ_all p 1 n hX.len] at S2
          have hl := (laidL_byts (p := p) (h := 1) (n := n) hX).len
          go_wp2_with (
            first
            | (refine wpLoadA row29 (by rfl) (.tmp 7) (by rfl) (w.heap.size + 1 + 1) 0 (by rfl) (u8s (laidL p 1 n ((s.drop 48).take 48))) (by rw [u8s_len, hl]) (unhide S2).range ?_)
            | (refine wpStoreA row29 (by rfl) (.tmp 6) (.tmp 49) (by rfl) (w.heap.size + 1) 0 (u8s (laidL p 1 n ((s.drop 48).take 48))) (by rfl) (by rfl) (by rw [u8s_len, hl]) (u8s_one _) ((unhide S1).there (by rw [zl]; omega)) ?_))
          have g4 := (unhide S1).put (vs := u8s (laidL p 1 n ((s.drop 48).take 48))) (by rw [zl, u8s_len, hl])
          exact bodyPost_ret (res30 _ _ _ _ rfl (by rw [u8s_len, hl]) g4) rfl ⟨rfl, (unhide SK).setCells _ _ (by omega)⟩

set_option maxHeartbeats 1000000 in
set_option maxRecDepth 100000 in
theorem half13_z (p h : Int) (s : List Int) (w : World) : Calls Tryd.prog 30 #[.int .i64 p, aggV (verC 0 s), .int .i64 h] w fun e w' => e = .returned (aggV (u8s (zs 64))) ∧ Kept [] w w' := by
  go_enter Tryd.func30, Tryd.ntmps30
  go_wp2_with (
    first
    | (refine wpBoxA rfl (.tmp 1) rfl (verC 0 s) rfl ?_)
    | (refine wpAllocV (u8s (zs 64)) zero29 7 rfl rfl rfl ?_
       intro W eW
       have b0 : Blk W w.heap.size 61 (verC 0 s) := by rw [eW]; exact ((Blk.new' rfl).alloc _).alloc _
       have b1 : Hid (Blk W (w.heap.size + 1) 29 (u8s (zs 64))) := by rw [eW]; exact (Blk.new' (by simp)).alloc _
       have b2 : Hid (Blk W (w.heap.size + 1 + 1) 29 (u8s (zs 64))) := by rw [eW]; exact Blk.new' (by simp)
       have hk : Hid (Kept [] w W) := by rw [eW]; exact (((Kept.refl _ _).alloc _).alloc _).alloc _
       have c0 := fits_cell b0 0 (.int .i64 0) rfl
       clear eW b0)
    | (refine wpAllocA (u8s (zs 64)) zero29 rfl rfl ?_)
    | (refine wpLoadA row29 (by rfl) (.tmp 7) (by rfl) (w.heap.size + 1 + 1) 0 (by rfl) (u8s (zs 64)) (zl 64) (unhide b2).range ?_)
    | (refine wpStoreA row29 (by rfl) (.tmp 6) (.tmp 14) (by rfl) (w.heap.size + 1) 0 (u8s (zs 64)) (by rfl) (by rfl) (zl 64) (u8s_one _) ((unhide b1).there (by rw [zl]; omega)) ?_))
  have g4 := (unhide b1).put (vs := u8s (zs 64)) rfl
  exact bodyPost_ret (res30 _ _ _ _ rfl (zl 64) g4) rfl ⟨rfl, (unhide hk).setCells _ _ (by omega)⟩

theorem half_fst (p n : Int) (s : List Int) (hs : Byts 96 s) (hn : 0 ≤ n ∧ n ≤ 2147483647) (w : World) : Calls Tryd.prog 30 #[.int .i64 p, aggV (verC n s), .int .i64 0] w fun e w' => e = .returned (aggV (u8s (fstL p n s))) ∧ Kept [] w w' := by
  unfold fstL
  by_cases h : n = 0
  · subst h
    exact half13_z p 0 s w
  · rw [if_neg h]
    exact half13_0 p n s hs hn h w
theorem half_snd (p n : Int) (s : List Int) (hs : Byts 96 s) (hn : 0 ≤ n ∧ n ≤ 2147483647) (w : World) : Calls Tryd.prog 30 #[.int .i64 p, aggV (verC n s), .int .i64 1] w fun e w' => e = .returned (aggV (u8s (sndL p n s))) ∧ Kept [] w w' := by
  unfold sndL
  by_cases h : n = 0
  · subst h
    exact half13_z p 1 s w
  · rw [if_neg h]
    have := half13_1 p n s hs hn h w
    rw [List.take_of_length_le (by simp [hs.len])] at this
    exact this

end Go.Proofs.YtkpkiibahfdomaaDoor.Pg
