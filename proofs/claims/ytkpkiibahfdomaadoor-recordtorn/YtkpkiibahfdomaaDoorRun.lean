/-
  The walk of Run.
-/
import Derived.Test.YtkpkiibahfdomaaDoorTbl
import Derived.Test.YtkpkiibahfdomaaDoorFol
import Derived.Test.YtkpkiibahfdomaaDoorGet
namespace Go.Proofs.YtkpkiibahfdomaaDoor
open Go.RowKit

/-- These records lie in a slice, one behind the other. -/
def RecS (w : World) (ao : Option Addr) (l : List Rec) : Prop := ∀ (i : Nat) (r : Rec), l[i]? = some r → ∃ b o, ao = some ⟨b, o, none⟩ ∧ w.rangeAt b (o + i * 101) (recC r)
theorem RecS.kept {w w' : World} {ao : Option Addr} {l : List Rec} (h : RecS w ao l) (hk : Kept [] w w') : RecS w' ao l := by
  intro i r hi
  obtain ⟨b, o, h1, h2⟩ := h i r hi
  exact ⟨b, o, h1, fun j v hj => hk.cell (h2 j v hj) (by simp)⟩
/-- May the record at k stand there. -/
def okAt (start : Int) (l : List Rec) (k : Nat) : Bool := match l[k]? with
  | none => false
  | some r => if k = 0 then decide (r.ls = start) else match l[k - 1]? with
    | none => false
    | some q => folB q r
def runFrom (start : Int) (l : List Rec) : Nat → Nat → Nat
  | 0, k => k
  | f + 1, k => if okAt start l k then runFrom start l f (k + 1) else k
/-- How many follow one another. -/
def runR (start : Int) (l : List Rec) : Nat := runFrom start l l.length 0
theorem wpStoreV {ops : Array Oper} {rest : List Oper} {op : Oper} {a : Act} {w : World} {Q : Exit → Act → World → Prop} {T n : Nat} (hT : Row T n) (hgd : op.guard = none) (x y : Operand) (ho : op.op = .store T x y) (hd : op.dst = none) (b : Nat) (us vs : List Value) (hx : a.eval x = P0 b) (hy : a.eval y = aggV vs) (hl : vs.length = n) (h1 : ∀ v ∈ vs, v.oneCell' = true) (hB : Blk w b T us) (hu : us.length = n)
    (h : ∀ W, Blk W b T vs → Kept [b] w W → wpList Tryd.prog ops Q rest a W) : wpList Tryd.prog ops Q (op :: rest) a w := by
  refine wpStoreA hT hgd x y ho b 0 vs hx hy hl h1 (hB.there (by omega)) ?_
  rw [hd]
  exact h _ (hB.put (by omega)) ((Kept.refl _ _).setCells _ _ (by simp))

theorem RecS.at {w : World} {b o : Nat} {l : List Rec} (h : RecS w (some ⟨b, o, none⟩) l) {i : Nat} {r : Rec} (hi : l[i]? = some r) : w.rangeAt b (o + i * 101) (recC r) := by
  obtain ⟨b', o', h1, h2⟩ := h i r hi
  cases h1
  exact h2
theorem o_idxS {o : Oper} {a : Act} {w : World} {K : Act → World → Prop} {Q : Exit → Act → World → Prop} (x y : Operand) (ho : o.op = .indexAddr 55 x y) (b off m c i : Nat) (hi : i < m) (hx : a.eval x = .slice (some ⟨b, off, none⟩) m c) (hy : a.eval y = .int .i64 i) (h : K (a.put o.dst (.pointer (some ⟨b, off + i * 101, none⟩))) w) : o.wp Tryd.prog a w K Q := by

  unfold Oper.wp execOp
  simp only [ho, hx, hy]
  simp [go_sem, hi]
  exact h
theorem run_go {start : Int} {l : List Rec} {f k : Nat} (h : runFrom start l (f + 1) k = runR start l) (ho : okAt start l k = true) : runFrom start l f (k + 1) = runR start l := by rw [← h, runFrom, if_pos ho]
theorem run_stop {start : Int} {l : List Rec} {f k : Nat} (h : runFrom start l (f + 1) k = runR start l) (ho : okAt start l k = false) : k = runR start l := by rw [← h, runFrom, if_neg (by simp [ho])]
/-- The table of the second test, where it is left out, and where it is made. -/
def runTn (k : Nat) : List Fc := [.is (.int .i64 k), .is (.bool false), .is (.bool false), .no, .no, .no, .no, .no, .no, .no, .no, .is (.bool false), .is (.bool false)]
def runTy (b o n c k : Nat) (q r : Rec) (F : Bool) : List Fc := [.is (.int .i64 k), .is (.bool true), .is (.bool true), .is (.slice (some ⟨b, o, none⟩) n c), .is (.int .i64 k), .is (.int .i64 (k - 1 : Nat)), .is (.pointer (some ⟨b, o + (k - 1) * 101, none⟩)), .is (aggV (recC q)), .is (aggV (recC r)), .is (.bool F), .is (.bool (!F)), .is (.bool (!F)), .is (.bool (!F))]

set_option maxHeartbeats 2000000 in
set_option maxRecDepth 100000 in
theorem run23 (start : Int) (l : List Rec) (hl : ∀ r ∈ l, r.Ok) (hn : l.length ≤ 1000000) (ao : Option Addr) (c : Nat) (w : World) (hS : RecS w ao l) : Calls Tryd.prog 23 #[.int .i64 start, .slice ao l.length c] w fun e w' => e = .returned (.int .i64 (runR start l)) ∧ Kept [] w w' := by
  have HS := hide hS
  clear hS
  go_enter Tryd.func23, Tryd.ntmps23
  go_wp2
  go_step3
  go_wp2
  go_step3
  go_wp2
  go_loopw [10, 5] (fun i n wr => ∃ k f : Nat, k + f = l.length ∧ i = .int .i64 k ∧ n = .int .i64 k ∧ Hid (runFrom start l f k = runR start l) ∧ Hid (RecS wr ao l) ∧ Hid (Kept [] w wr)) (fun i _ _ => l.length - (intOf i).toNat)
  case atStart => exact ⟨0, l.length, by omega, rfl, rfl, rfl, HS, Kept.refl _ _⟩
  case round =>
    obtain ⟨k, f, hkf, rfl, rfl, R, RS, RK⟩ := hrel
    clear HS
    by_cases hlt : k < l.length
    · obtain ⟨f, rfl⟩ : ∃ g, f = g + 1 := ⟨f - 1, by omega⟩
      obtain ⟨r, hr⟩ : ∃ r, l[k]? = some r := ⟨_, List.getElem?_eq_getElem hlt⟩
      have hok := hide (hl r (List.mem_of_getElem? hr))
      obtain ⟨b, o, hao, hR⟩ := (unhide RS) k r hr
      subst hao
      have HR := hide hR
      have HRk := hide hr
      clear hR hr
      have lr := recC_len (unhide hok).bd.len
      have RS0 : ∀ W, Kept [] wr W → RecS W (some ⟨b, o, none⟩) l := fun W h => (unhide RS).kept h
      have RK0 : ∀ W, Kept [] wr W → Kept [] w W := fun W h => (unhide RK).trans h
      have RS0' := hide RS0
      have RK0' := hide RK0
      clear RS0 RK0
      by_cases hk0 : k = 0
      · have d1 : ((k : Int) == 0) = true := by simp [hk0]
        have d2 : decide ((k : Int) = 0) = true := by simp [hk0]
        have HK := hide hk0
        have hkc : okAt start l k = decide (r.ls = start) := by have h := unhide HRk; subst hk0; simp [okAt, h]
        have HO := hide hkc
        clear hk0 hkc
        by_cases hst : r.ls = start
        · have s1 : (r.ls == start) = true := by simp [hst]
          have s2 : decide (r.ls = start) = true := by simp [hst]
          have s3 : (r.ls != start) = false := by simp [hst]
          have s4 : decide (r.ls ≠ start) = false := by simp [hst]
          have HT := hide hst
          clear hst
          have HO := hide ((unhide HO).trans s2)
          go_wp2_with (
            first
            | (refine wpLoadA row25 rfl (.tmp 13) rfl b (o + k * 101) rfl (recC r) lr (unhide HR) ?_)
            | (refine wpAllocW (recC zrec) zero25 7 rfl rfl rfl ?_
               intro W1 b7 e7 B7 K7
               have X7 := hide B7
               have RS1 := hide ((unhide RS).kept K7)
               have RK1 := hide ((unhide RK).trans K7)
               have Z7 : Hid (W1.heap.size = b7 + 1 ∨ wr.heap.size ≤ b7) := .inr (by omega)
               have K7' := hide K7
               have E7 := hide e7
               clear e7 B7 K7 RS RK HR)
            | (refine wpStoreV row25 rfl (.tmp 7) (.tmp 14) rfl rfl b7 (recC zrec) (recC r) rfl rfl lr (recC_one _) (unhide X7) zrecl ?_
               intro W2 B8 K8
               have KA : Kept [] wr W2 := by
                 have := unhide E7
                 exact (unhide K7').fresh K8 (by intro i hi hh; simp at hi; omega)
               have RS2 := hide ((unhide RS0') _ KA)
               have RK2 := hide ((unhide RK0') _ KA)
               have X8 := hide B8
               have c2 := fits_cell B8 2 _ rfl
               clear B8 K8 X7 RS1 RK1 K7' E7 Z7 KA))
          refine wp_region_prefS mixed 13 0 rfl (by kernel_rfl) (tc (runTn k)) (fun _ _ _ _ => True) (skipOf (runTn k)) (fun j o i b _ => guardsS_some (by kernel_rfl) j o i b) (fun j o _ => guardsS_none (by kernel_rfl) j o) (fun j w => skip_undef w) (fun _ _ _ _ => trivial) (tc_kept _) (by kernel_rfl) ?_ ?_
          · intro j oo hj hs ho a w2 hout hin hk
            show oo.wp Tryd.prog a w2 (opPc (runTn k) oo a w2 j 13) _
            match j, ho with
            | 0, ho =>
              obtain rfl := Option.some.inj ho
              exact wp_move (.tmp 6) rfl _ ((hout 6 (by kernel_rfl)).trans (by kernel_rfl)) (postc rfl (Kept.refl _ _))
            | 1, ho =>
              obtain rfl := Option.some.inj ho
              exact o_gtr3 (.tmp 25) 0 rfl k false (by have := unhide HK; subst this; rfl) (hin 0 25 (by kernel_rfl) (by kernel_rfl)) (postc rfl (Kept.refl _ _))
            | 2, ho =>
              obtain rfl := Option.some.inj ho
              exact wp_move (.tmp 26) rfl _ (hin 1 26 (by kernel_rfl) (by kernel_rfl)) (postc rfl (Kept.refl _ _))
            | 3, ho => exact absurd (show true = false from hs) (by decide)
            | 4, ho => exact absurd (show true = false from hs) (by decide)
            | 5, ho => exact absurd (show true = false from hs) (by decide)
            | 6, ho => exact absurd (show true = false from hs) (by decide)
            | 7, ho => exact absurd (show true = false from hs) (by decide)
            | 8, ho => exact absurd (show true = false from hs) (by decide)
            | 9, ho => exact absurd (show true = false from hs) (by decide)
            | 10, ho => exact absurd (show true = false from hs) (by decide)
            | 11, ho =>
              obtain rfl := Option.some.inj ho
              exact o_pickN (.tmp 27) (.tmp 35) rfl (hin 2 27 (by kernel_rfl) (by kernel_rfl)) (postc rfl (Kept.refl _ _))
            | 12, ho =>
              obtain rfl := Option.some.inj ho
              exact wp_assignV (.tmp 36) rfl _ (hin 11 36 (by kernel_rfl) (by kernel_rfl)) (postc rfl (Kept.refl _ _))
          · intro vs w3 hlen hF _ hk
            match vs, hlen with
            | [x0, x1, x2, x3, x4, x5, x6, x7, x8, x9, x10, x11, x12], _ =>
            obtain rfl : x0 = _ := hF 0 _ rfl
            obtain rfl : x1 = _ := hF 1 _ rfl
            obtain rfl : x2 = _ := hF 2 _ rfl
            obtain rfl : x3 = _ := hF 3 _ rfl
            obtain rfl : x4 = _ := hF 4 _ rfl
            obtain rfl : x5 = _ := hF 5 _ rfl
            obtain rfl : x6 = _ := hF 6 _ rfl
            obtain rfl : x7 = _ := hF 7 _ rfl
            obtain rfl : x8 = _ := hF 8 _ rfl
            obtain rfl : x9 = _ := hF 9 _ rfl
            obtain rfl : x10 = _ := hF 10 _ rfl
            obtain rfl : x11 = _ := hF 11 _ rfl
            obtain rfl : x12 = _ := hF 12 _ rfl
            have RS3 := hide ((unhide RS2).kept hk)
            have RK3 := hide ((unhide RK2).trans hk)
            clear hF hk RS2 RK2 c2 X8
            simp only [List.take_succ_cons, List.take_zero, putAll, Act.put, List.setIfInBounds_toArray, List.set_cons_succ, List.set_cons_zero]
            refine wpAny_done (by kernel_rfl) ?_ _
            go_wp2_with fail
            go_roundw
            case rel => exact ⟨k + 1, f, by omega, by simp, by simp, run_go (unhide R) (unhide HO), RS3, RK3⟩
            case measure => simp [intOf]; omega
        · have s1 : (r.ls == start) = false := by simp [hst]
          have s2 : decide (r.ls = start) = false := by simp [hst]
          have s3 : (r.ls != start) = true := by simp [hst]
          have s4 : decide (r.ls ≠ start) = true := by simp [hst]
          have HO := hide ((unhide HO).trans s2)
          clear hst
          go_wp2_with (
            first
            | (refine wpLoadA row25 rfl (.tmp 13) rfl b (o + k * 101) rfl (recC r) lr (unhide HR) ?_)
            | (refine wpAllocW (recC zrec) zero25 7 rfl rfl rfl ?_
               intro W1 b7 e7 B7 K7
               have X7 := hide B7
               have RS1 := hide ((unhide RS).kept K7)
               have RK1 := hide ((unhide RK).trans K7)
               have Z7 : Hid (W1.heap.size = b7 + 1 ∨ wr.heap.size ≤ b7) := .inr (by omega)
               have K7' := hide K7
               have E7 := hide e7
               clear e7 B7 K7 RS RK HR)
            | (refine wpStoreV row25 rfl (.tmp 7) (.tmp 14) rfl rfl b7 (recC zrec) (recC r) rfl rfl lr (recC_one _) (unhide X7) zrecl ?_
               intro W2 B8 K8
               have KA : Kept [] wr W2 := by
                 have := unhide E7
                 exact (unhide K7').fresh K8 (by intro i hi hh; simp at hi; omega)
               have RS2 := hide ((unhide RS0') _ KA)
               have RK2 := hide ((unhide RK0') _ KA)
               have X8 := hide B8
               have c2 := fits_cell B8 2 _ rfl
               clear B8 K8 X7 RS1 RK1 K7' E7 Z7 KA))
          try rw [Exit.noGoto_ret]
          go_ret
          exact ⟨by rw [← run_stop (unhide R) (unhide HO)]; rfl, unhide RK2⟩
      · have d1 : ((k : Int) == 0) = false := by simp [hk0]
        have d2 : decide ((k : Int) = 0) = false := by simp [hk0]
        obtain ⟨q, hq⟩ : ∃ q, l[k - 1]? = some q := ⟨_, List.getElem?_eq_getElem (by omega)⟩
        have hoq := hide (hl q (List.mem_of_getElem? hq))
        have lq := recC_len (unhide hoq).bd.len
        have hkc : okAt start l k = folB q r := by have h := unhide HRk; simp [okAt, h, hk0, hq]
        have HO := hide hkc
        have HK : Hid (1 ≤ k) := by show _ ≤ _; omega
        have HQ := hide hq
        clear hk0 hkc hq
        cases hF : folB q r with
        | true =>
          have HO := hide ((unhide HO).trans hF)
          have HF := hide hF
          clear hF
          go_wp2_with (
            first
            | (refine wpLoadA row25 rfl (.tmp 13) rfl b (o + k * 101) rfl (recC r) lr (unhide HR) ?_)
            | (refine wpAllocW (recC zrec) zero25 7 rfl rfl rfl ?_
               intro W1 b7 e7 B7 K7
               have X7 := hide B7
               have RS1 := hide ((unhide RS).kept K7)
               have RK1 := hide ((unhide RK).trans K7)
               have Z7 : Hid (W1.heap.size = b7 + 1 ∨ wr.heap.size ≤ b7) := .inr (by omega)
               have K7' := hide K7
               have E7 := hide e7
               clear e7 B7 K7 RS RK HR)
            | (refine wpStoreV row25 rfl (.tmp 7) (.tmp 14) rfl rfl b7 (recC zrec) (recC r) rfl rfl lr (recC_one _) (unhide X7) zrecl ?_
               intro W2 B8 K8
               have KA : Kept [] wr W2 := by
                 have := unhide E7
                 exact (unhide K7').fresh K8 (by intro i hi hh; simp at hi; omega)
               have RS2 := hide ((unhide RS0') _ KA)
               have RK2 := hide ((unhide RK0') _ KA)
               have X8 := hide B8
               have c2 := fits_cell B8 2 _ rfl
               clear B8 K8 X7 RS1 RK1 K7' E7 Z7 KA))
          refine wp_region_prefS mixed 13 0 rfl (by kernel_rfl) (tc (runTy b o l.length c k q r true)) (fun _ _ _ _ => True) (skipOf (runTy b o l.length c k q r true)) (fun j o i b _ => guardsS_some (by kernel_rfl) j o i b) (fun j o _ => guardsS_none (by kernel_rfl) j o) (fun j w => skip_undef w) (fun _ _ _ _ => trivial) (tc_kept _) (by kernel_rfl) ?_ ?_
          · intro j oo hj hs ho a w2 hout hin hk
            show oo.wp Tryd.prog a w2 (opPc (runTy b o l.length c k q r true) oo a w2 j 13) _
            match j, ho with
            | 0, ho =>
              obtain rfl := Option.some.inj ho
              exact wp_move (.tmp 6) rfl _ ((hout 6 (by kernel_rfl)).trans (by kernel_rfl)) (postc rfl (Kept.refl _ _))
            | 1, ho =>
              obtain rfl := Option.some.inj ho
              exact o_gtr3 (.tmp 25) 0 rfl k true (by simp; have := unhide HK; omega) (hin 0 25 (by kernel_rfl) (by kernel_rfl)) (postc rfl (Kept.refl _ _))
            | 2, ho =>
              obtain rfl := Option.some.inj ho
              exact wp_move (.tmp 26) rfl _ (hin 1 26 (by kernel_rfl) (by kernel_rfl)) (postc rfl (Kept.refl _ _))
            | 3, ho =>
              obtain rfl := Option.some.inj ho
              exact wp_move (.tmp 1) rfl _ ((hout 1 (by kernel_rfl)).trans (by kernel_rfl)) (postc rfl (Kept.refl _ _))
            | 4, ho =>
              obtain rfl := Option.some.inj ho
              exact wp_move (.tmp 6) rfl _ ((hout 6 (by kernel_rfl)).trans (by kernel_rfl)) (postc rfl (Kept.refl _ _))
            | 5, ho =>
              obtain rfl := Option.some.inj ho
              exact o_sub3 (.tmp 29) 1 rfl k (by omega) (hin 4 29 (by kernel_rfl) (by kernel_rfl)) (postc (show Value.int .i64 ((k : Int) - 1) = .int .i64 ((k - 1 : Nat) : Int) by have := unhide HK; congr 1; omega) (Kept.refl _ _))
            | 6, ho =>
              obtain rfl := Option.some.inj ho
              exact o_idxS (.tmp 28) (.tmp 30) rfl b o l.length c (k - 1) (by omega) (hin 3 28 (by kernel_rfl) (by kernel_rfl)) (hin 5 30 (by kernel_rfl) (by kernel_rfl)) (postc rfl (Kept.refl _ _))
            | 7, ho =>
              obtain rfl := Option.some.inj ho
              exact wp_loadA row25 (.tmp 31) rfl b (o + (k - 1) * 101) (hin 6 31 (by kernel_rfl) (by kernel_rfl)) (recC q) lq (((unhide RS2).kept hk).at (unhide HQ)) (postc rfl (Kept.refl _ _))
            | 8, ho =>
              obtain rfl := Option.some.inj ho
              exact wp_loadA row25 (.tmp 7) rfl b7 0 ((hout 7 (by kernel_rfl)).trans (by kernel_rfl)) (recC r) lr ((unhide X8).kept hk (by simp)).range (postc rfl (Kept.refl _ _))
            | 9, ho =>
              obtain rfl := Option.some.inj ho
              have e0 : a.eval (.tmp 32) = _ := (hin 7 32 (by kernel_rfl) (by kernel_rfl))
              have e1 : a.eval (.tmp 33) = _ := (hin 8 33 (by kernel_rfl) (by kernel_rfl))
              refine wp_callF 24 _ _ rfl #[aggV (recC q), aggV (recC r)] (by simp [e0, e1]) (cf24 _ _) ((follows24 q r (unhide hoq).ls (unhide hok).ls w2).mono ?_)
              rintro x w3 ⟨rfl, hk3⟩
              exact ⟨_, rfl, postc (by rw [unhide HF]; rfl) hk3⟩
            | 10, ho =>
              obtain rfl := Option.some.inj ho
              exact o_not (.tmp 34) rfl true (hin 9 34 (by kernel_rfl) (by kernel_rfl)) (postc rfl (Kept.refl _ _))
            | 11, ho =>
              obtain rfl := Option.some.inj ho
              exact o_pick (.tmp 27) (.tmp 35) rfl (!true) (hin 2 27 (by kernel_rfl) (by kernel_rfl)) (hin 10 35 (by kernel_rfl) (by kernel_rfl)) (postc rfl (Kept.refl _ _))
            | 12, ho =>
              obtain rfl := Option.some.inj ho
              exact wp_assignV (.tmp 36) rfl _ (hin 11 36 (by kernel_rfl) (by kernel_rfl)) (postc rfl (Kept.refl _ _))
          · intro vs w3 hlen hF _ hk
            match vs, hlen with
            | [x0, x1, x2, x3, x4, x5, x6, x7, x8, x9, x10, x11, x12], _ =>
            obtain rfl : x0 = _ := hF 0 _ rfl
            obtain rfl : x1 = _ := hF 1 _ rfl
            obtain rfl : x2 = _ := hF 2 _ rfl
            obtain rfl : x3 = _ := hF 3 _ rfl
            obtain rfl : x4 = _ := hF 4 _ rfl
            obtain rfl : x5 = _ := hF 5 _ rfl
            obtain rfl : x6 = _ := hF 6 _ rfl
            obtain rfl : x7 = _ := hF 7 _ rfl
            obtain rfl : x8 = _ := hF 8 _ rfl
            obtain rfl : x9 = _ := hF 9 _ rfl
            obtain rfl : x10 = _ := hF 10 _ rfl
            obtain rfl : x11 = _ := hF 11 _ rfl
            obtain rfl : x12 = _ := hF 12 _ rfl
            have RS3 := hide ((unhide RS2).kept hk)
            have RK3 := hide ((unhide RK2).trans hk)
            clear hF hk RS2 RK2 c2 X8
            simp only [List.take_succ_cons, List.take_zero, putAll, Act.put, List.setIfInBounds_toArray, List.set_cons_succ, List.set_cons_zero]
            refine wpAny_done (by kernel_rfl) ?_ _
            go_wp2_with fail
            go_roundw
            case rel => exact ⟨k + 1, f, by omega, by simp, by simp, run_go (unhide R) (unhide HO), RS3, RK3⟩
            case measure => simp [intOf]; omega
        | false =>
          have HO := hide ((unhide HO).trans hF)
          have HF := hide hF
          clear hF
          go_wp2_with (
            first
            | (refine wpLoadA row25 rfl (.tmp 13) rfl b (o + k * 101) rfl (recC r) lr (unhide HR) ?_)
            | (refine wpAllocW (recC zrec) zero25 7 rfl rfl rfl ?_
               intro W1 b7 e7 B7 K7
               have X7 := hide B7
               have RS1 := hide ((unhide RS).kept K7)
               have RK1 := hide ((unhide RK).trans K7)
               have Z7 : Hid (W1.heap.size = b7 + 1 ∨ wr.heap.size ≤ b7) := .inr (by omega)
               have K7' := hide K7
               have E7 := hide e7
               clear e7 B7 K7 RS RK HR)
            | (refine wpStoreV row25 rfl (.tmp 7) (.tmp 14) rfl rfl b7 (recC zrec) (recC r) rfl rfl lr (recC_one _) (unhide X7) zrecl ?_
               intro W2 B8 K8
               have KA : Kept [] wr W2 := by
                 have := unhide E7
                 exact (unhide K7').fresh K8 (by intro i hi hh; simp at hi; omega)
               have RS2 := hide ((unhide RS0') _ KA)
               have RK2 := hide ((unhide RK0') _ KA)
               have X8 := hide B8
               have c2 := fits_cell B8 2 _ rfl
               clear B8 K8 X7 RS1 RK1 K7' E7 Z7 KA))
          refine wp_region_prefS mixed 13 0 rfl (by kernel_rfl) (tc (runTy b o l.length c k q r false)) (fun _ _ _ _ => True) (skipOf (runTy b o l.length c k q r false)) (fun j o i b _ => guardsS_some (by kernel_rfl) j o i b) (fun j o _ => guardsS_none (by kernel_rfl) j o) (fun j w => skip_undef w) (fun _ _ _ _ => trivial) (tc_kept _) (by kernel_rfl) ?_ ?_
          · intro j oo hj hs ho a w2 hout hin hk
            show oo.wp Tryd.prog a w2 (opPc (runTy b o l.length c k q r false) oo a w2 j 13) _
            match j, ho with
            | 0, ho =>
              obtain rfl := Option.some.inj ho
              exact wp_move (.tmp 6) rfl _ ((hout 6 (by kernel_rfl)).trans (by kernel_rfl)) (postc rfl (Kept.refl _ _))
            | 1, ho =>
              obtain rfl := Option.some.inj ho
              exact o_gtr3 (.tmp 25) 0 rfl k true (by simp; have := unhide HK; omega) (hin 0 25 (by kernel_rfl) (by kernel_rfl)) (postc rfl (Kept.refl _ _))
            | 2, ho =>
              obtain rfl := Option.some.inj ho
              exact wp_move (.tmp 26) rfl _ (hin 1 26 (by kernel_rfl) (by kernel_rfl)) (postc rfl (Kept.refl _ _))
            | 3, ho =>
              obtain rfl := Option.some.inj ho
              exact wp_move (.tmp 1) rfl _ ((hout 1 (by kernel_rfl)).trans (by kernel_rfl)) (postc rfl (Kept.refl _ _))
            | 4, ho =>
              obtain rfl := Option.some.inj ho
              exact wp_move (.tmp 6) rfl _ ((hout 6 (by kernel_rfl)).trans (by kernel_rfl)) (postc rfl (Kept.refl _ _))
            | 5, ho =>
              obtain rfl := Option.some.inj ho
              exact o_sub3 (.tmp 29) 1 rfl k (by omega) (hin 4 29 (by kernel_rfl) (by kernel_rfl)) (postc (show Value.int .i64 ((k : Int) - 1) = .int .i64 ((k - 1 : Nat) : Int) by have := unhide HK; congr 1; omega) (Kept.refl _ _))
            | 6, ho =>
              obtain rfl := Option.some.inj ho
              exact o_idxS (.tmp 28) (.tmp 30) rfl b o l.length c (k - 1) (by omega) (hin 3 28 (by kernel_rfl) (by kernel_rfl)) (hin 5 30 (by kernel_rfl) (by kernel_rfl)) (postc rfl (Kept.refl _ _))
            | 7, ho =>
              obtain rfl := Option.some.inj ho
              exact wp_loadA row25 (.tmp 31) rfl b (o + (k - 1) * 101) (hin 6 31 (by kernel_rfl) (by kernel_rfl)) (recC q) lq (((unhide RS2).kept hk).at (unhide HQ)) (postc rfl (Kept.refl _ _))
            | 8, ho =>
              obtain rfl := Option.some.inj ho
              exact wp_loadA row25 (.tmp 7) rfl b7 0 ((hout 7 (by kernel_rfl)).trans (by kernel_rfl)) (recC r) lr ((unhide X8).kept hk (by simp)).range (postc rfl (Kept.refl _ _))
            | 9, ho =>
              obtain rfl := Option.some.inj ho
              have e0 : a.eval (.tmp 32) = _ := (hin 7 32 (by kernel_rfl) (by kernel_rfl))
              have e1 : a.eval (.tmp 33) = _ := (hin 8 33 (by kernel_rfl) (by kernel_rfl))
              refine wp_callF 24 _ _ rfl #[aggV (recC q), aggV (recC r)] (by simp [e0, e1]) (cf24 _ _) ((follows24 q r (unhide hoq).ls (unhide hok).ls w2).mono ?_)
              rintro x w3 ⟨rfl, hk3⟩
              exact ⟨_, rfl, postc (by rw [unhide HF]; rfl) hk3⟩
            | 10, ho =>
              obtain rfl := Option.some.inj ho
              exact o_not (.tmp 34) rfl false (hin 9 34 (by kernel_rfl) (by kernel_rfl)) (postc rfl (Kept.refl _ _))
            | 11, ho =>
              obtain rfl := Option.some.inj ho
              exact o_pick (.tmp 27) (.tmp 35) rfl (!false) (hin 2 27 (by kernel_rfl) (by kernel_rfl)) (hin 10 35 (by kernel_rfl) (by kernel_rfl)) (postc rfl (Kept.refl _ _))
            | 12, ho =>
              obtain rfl := Option.some.inj ho
              exact wp_assignV (.tmp 36) rfl _ (hin 11 36 (by kernel_rfl) (by kernel_rfl)) (postc rfl (Kept.refl _ _))
          · intro vs w3 hlen hF _ hk
            match vs, hlen with
            | [x0, x1, x2, x3, x4, x5, x6, x7, x8, x9, x10, x11, x12], _ =>
            obtain rfl : x0 = _ := hF 0 _ rfl
            obtain rfl : x1 = _ := hF 1 _ rfl
            obtain rfl : x2 = _ := hF 2 _ rfl
            obtain rfl : x3 = _ := hF 3 _ rfl
            obtain rfl : x4 = _ := hF 4 _ rfl
            obtain rfl : x5 = _ := hF 5 _ rfl
            obtain rfl : x6 = _ := hF 6 _ rfl
            obtain rfl : x7 = _ := hF 7 _ rfl
            obtain rfl : x8 = _ := hF 8 _ rfl
            obtain rfl : x9 = _ := hF 9 _ rfl
            obtain rfl : x10 = _ := hF 10 _ rfl
            obtain rfl : x11 = _ := hF 11 _ rfl
            obtain rfl : x12 = _ := hF 12 _ rfl
            have RS3 := hide ((unhide RS2).kept hk)
            have RK3 := hide ((unhide RK2).trans hk)
            clear hF hk RS2 RK2 c2 X8
            simp only [List.take_succ_cons, List.take_zero, putAll, Act.put, List.setIfInBounds_toArray, List.set_cons_succ, List.set_cons_zero]
            refine wpAny_done (by kernel_rfl) ?_ _
            go_wp2_with fail
            try rw [Exit.noGoto_ret]
            go_ret
            exact ⟨by rw [← run_stop (unhide R) (unhide HO)]; rfl, unhide RK3⟩
    · obtain rfl : k = l.length := by omega
      obtain rfl : f = 0 := by omega
      have e : Hid (l.length = runR start l) := unhide R
      go_wp2_with fail
      try rw [Exit.noGoto_ret]
      go_ret
      exact ⟨by rw [← unhide e]; rfl, unhide RK⟩

end Go.Proofs.YtkpkiibahfdomaaDoor
