/-
  The walks of the document's Follows and Run.
-/
import Derived.Test.YtkpkiibahfdomaaDoorRun
import Derived.Test.YtkpkiibahfdomaaDoorTblq
namespace Go.Proofs.YtkpkiibahfdomaaDoor
open Go.RowKit

set_option maxHeartbeats 1000000 in
theorem rfollows25 (a b : Rec) (ha : I64 a.ls) (hb : I64 b.ls) (w : World) : Calls Tryd.prog 25 #[aggV (recC a), aggV (recC b)] w fun e w' => e = .returned (.bool (folB a b)) ∧ Kept [] w w' := by
  obtain ⟨ha1, ha2⟩ := ha
  obtain ⟨hb1, hb2⟩ := hb
  by_cases h1 : a.nd = b.nd
  rotate_left
  · go_enter Tryd.func25, Tryd.ntmps25
    go_wp2_with (
      first
      | (refine wpBoxV rfl (.tmp 0) rfl (recC a) rfl ?_
         intro W1 b1 e1 B1 K1
         have BB := hide B1
         have KK := hide K1
         clear e1 B1 K1)
      | (refine wpBoxV rfl (.tmp 1) rfl (recC b) rfl ?_
         intro W2 b2 e2 B2 K2
         obtain ⟨c0, c1, c2, c3, c4⟩ := Rec.cells ((unhide BB).kept K2 (by simp))
         obtain ⟨d0, d1, d2, d3, d4⟩ := Rec.cells B2
         have K3 := hide ((unhide KK).trans K2)
         clear e2 B2 K2 BB KK))
    go_ret
    exact ⟨ret_bool (by simp [folB]; omega), unhide K3⟩
  by_cases h2 : a.ls < b.ls
  rotate_left
  · go_enter Tryd.func25, Tryd.ntmps25
    go_wp2_with (
      first
      | (refine wpBoxV rfl (.tmp 0) rfl (recC a) rfl ?_
         intro W1 b1 e1 B1 K1
         have BB := hide B1
         have KK := hide K1
         clear e1 B1 K1)
      | (refine wpBoxV rfl (.tmp 1) rfl (recC b) rfl ?_
         intro W2 b2 e2 B2 K2
         obtain ⟨c0, c1, c2, c3, c4⟩ := Rec.cells ((unhide BB).kept K2 (by simp))
         obtain ⟨d0, d1, d2, d3, d4⟩ := Rec.cells B2
         have K3 := hide ((unhide KK).trans K2)
         clear e2 B2 K2 BB KK))
    go_ret
    exact ⟨ret_bool (by simp [folB]; omega), unhide K3⟩
  by_cases h3 : b.ls - 1 = a.ls
  rotate_left
  · go_enter Tryd.func25, Tryd.ntmps25
    go_wp2_with (
      first
      | (refine wpBoxV rfl (.tmp 0) rfl (recC a) rfl ?_
         intro W1 b1 e1 B1 K1
         have BB := hide B1
         have KK := hide K1
         clear e1 B1 K1)
      | (refine wpBoxV rfl (.tmp 1) rfl (recC b) rfl ?_
         intro W2 b2 e2 B2 K2
         obtain ⟨c0, c1, c2, c3, c4⟩ := Rec.cells ((unhide BB).kept K2 (by simp))
         obtain ⟨d0, d1, d2, d3, d4⟩ := Rec.cells B2
         have K3 := hide ((unhide KK).trans K2)
         clear e2 B2 K2 BB KK))
    go_ret
    exact ⟨ret_bool (by simp [folB]; omega), unhide K3⟩
  go_enter Tryd.func25, Tryd.ntmps25
  go_wp2_with (
    first
    | (refine wpBoxV rfl (.tmp 0) rfl (recC a) rfl ?_
       intro W1 b1 e1 B1 K1
       have BB := hide B1
       have KK := hide K1
       clear e1 B1 K1)
    | (refine wpBoxV rfl (.tmp 1) rfl (recC b) rfl ?_
       intro W2 b2 e2 B2 K2
       obtain ⟨c0, c1, c2, c3, c4⟩ := Rec.cells ((unhide BB).kept K2 (by simp))
       obtain ⟨d0, d1, d2, d3, d4⟩ := Rec.cells B2
       have K3 := hide ((unhide KK).trans K2)
       clear e2 B2 K2 BB KK))
  go_ret
  exact ⟨ret_bool (by simp [folB]; omega), unhide K3⟩
theorem cf25 (vs : Array Value) (w : World) : (callFunc 25 vs).run Tryd.prog w = .ok (.enter 25 vs) w := by kernel_rfl
section
variable {o : Oper} {a : Act} {w : World} {K : Act → World → Prop} {Q : Exit → Act → World → Prop}
theorem o_len55 (t : Nat) (ho : o.op = .call { callee := .builtin .len, args := #[.tmp t], argTypes := #[55] }) (ao : Option Addr) (m c : Nat) (hx : a.eval (.tmp t) = .slice ao m c) (h : K (a.put o.dst (.int .i64 m)) w) : o.wp Tryd.prog a w K Q := by
  have hr : (Builtin.len_ #[55] o.type #[.slice ao m c]).run Tryd.prog w = .ok (.int .i64 m) w := by simp [Builtin.len_, go_sem]
  have hx' : a.tmps[t]?.getD undef = .slice ao m c := by simpa [Act.eval] using hx
  unfold Oper.wp execOp
  simp only [ho]
  simp [resolve, invoke, builtin, go_sem, hx', hr]
  exact h
theorem o_lss3 (x y : Operand) (ho : o.op = .binOp .lss 3 x y 3) (m n : Int) (r : Bool) (hr : decide (m < n) = r) (hx : a.eval x = .int .i64 m) (hy : a.eval y = .int .i64 n) (h : K (a.put o.dst (.bool r)) w) : o.wp Tryd.prog a w K Q := by
  unfold Oper.wp execOp
  simp only [ho, hx, hy]
  simp [go_sem, hr]
  exact h
theorem o_dec3 (x : Operand) (ho : o.op = .binOp .sub 3 x (.const (.int .i64 1)) 3) (k m : Nat) (hk : k = m + 1) (hm : m ≤ 1000000) (hx : a.eval x = .int .i64 k) (h : K (a.put o.dst (.int .i64 m)) w) : o.wp Tryd.prog a w K Q := by
  have hw : IntKind.i64.wrap ((k : Int) - 1) = m := by rw [IntKind.wrap_i64]; omega
  unfold Oper.wp execOp
  simp only [ho, hx]
  simp [go_sem, hw]
  exact h
end

theorem run_nil (start : Int) : runR start [] = 0 := rfl
theorem run_bad {start : Int} {l : List Rec} {r : Rec} (h0 : l[0]? = some r) (h : ¬ r.ls = start) : runR start l = 0 := by
  have hl : 0 < l.length := (List.getElem?_eq_some_iff.1 h0).1
  obtain ⟨m, hm⟩ : ∃ m, l.length = m + 1 := ⟨l.length - 1, by omega⟩
  have : okAt start l 0 = false := by simp [okAt, h0, h]
  rw [runR, hm, runFrom, this]; simp
theorem run_first {start : Int} {l : List Rec} {r : Rec} (h0 : l[0]? = some r) (h : r.ls = start) : runFrom start l (l.length - 1) 1 = runR start l := by
  have hl : 0 < l.length := (List.getElem?_eq_some_iff.1 h0).1
  obtain ⟨m, hm⟩ : ∃ m, l.length = m + 1 := ⟨l.length - 1, by omega⟩
  have : okAt start l 0 = true := by simp [okAt, h0, h]
  rw [runR, hm, runFrom, this]; simp

set_option maxHeartbeats 2000000 in
set_option maxRecDepth 100000 in
theorem rrun26 (start : Int) (l : List Rec) (hl : ∀ r ∈ l, r.Ok) (hn : l.length ≤ 1000000) (ao : Option Addr) (c : Nat) (w : World) (hS : RecS w ao l) : Calls Tryd.prog 26 #[.int .i64 start, .slice ao l.length c] w fun e w' => e = .returned (.int .i64 (runR start l)) ∧ Kept [] w w' := by
  have HS := hide hS
  clear hS
  by_cases h0 : l = []
  · subst h0
    rw [run_nil]
    go_enter Tryd.func26, Tryd.ntmps26
    go_wp2_with fail
    go_ret
    exact ⟨rfl, Kept.refl _ _⟩
  obtain ⟨r0, hr0⟩ : ∃ r, l[0]? = some r := by
    cases l with
    | nil => exact absurd rfl h0
    | cons r l => exact ⟨r, rfl⟩
  have hpos : 0 < l.length := (List.getElem?_eq_some_iff.1 hr0).1
  obtain ⟨b, o, hao, hR⟩ := (unhide HS) 0 r0 hr0
  subst hao
  have cl : w.cell? ⟨b, o + 2, none⟩ = some (.int .i64 r0.ls) := by
    have := hR 2 (.int .i64 r0.ls) rfl
    rw [Nat.zero_mul, Nat.add_zero] at this
    exact this
  have hne : ¬ ((l.length : Int) = 0) := by omega
  clear hR
  by_cases hst : r0.ls = start
  rotate_left
  · have e := hide (run_bad hr0 hst)
    have s1 : (r0.ls == start) = false := by simp [hst]
    have s3 : (r0.ls != start) = true := by simp [hst]
    clear hr0
    go_enter Tryd.func26, Tryd.ntmps26
    go_wp2_with fail
    go_ret
    rw [unhide e]
    exact ⟨rfl, Kept.refl _ _⟩
  have e := hide (run_first hr0 hst)
  rw [hst] at cl
  clear hr0 hst
  go_enter Tryd.func26, Tryd.ntmps26
  go_wp2_with fail
  go_loopw [5] (fun i wr => ∃ k f : Nat, k + f = l.length ∧ 1 ≤ k ∧ i = .int .i64 k ∧ Hid (runFrom start l f k = runR start l) ∧ Hid (RecS wr (some ⟨b, o, none⟩) l) ∧ Hid (Kept [] w wr)) (fun i _ => l.length - (intOf i).toNat)
  case atStart => exact ⟨1, l.length - 1, by omega, by omega, rfl, e, HS, Kept.refl _ _⟩
  case round =>
    obtain ⟨k, f, hkf, hk1, rfl, R, RS, RK⟩ := hrel
    clear HS cl e
    by_cases hlt : k < l.length
    · obtain ⟨f, rfl⟩ : ∃ g, f = g + 1 := ⟨f - 1, by omega⟩
      obtain ⟨m, hm⟩ : ∃ m, k = m + 1 := ⟨k - 1, by omega⟩
      obtain ⟨r, hr⟩ : ∃ r, l[k]? = some r := ⟨_, List.getElem?_eq_getElem hlt⟩
      obtain ⟨q, hq⟩ : ∃ q, l[m]? = some q := ⟨_, List.getElem?_eq_getElem (by omega)⟩
      have rok := hl r (List.mem_of_getElem? hr)
      have qok := hl q (List.mem_of_getElem? hq)
      have hok : okAt start l k = folB q r := by
        have e1 : l[k - 1]? = some q := by rw [hm]; exact hq
        simp [okAt, hr, e1]; omega
      have HM := hide hm
      have HO := hide hok
      have HRk := hide hr
      have HQk := hide hq
      clear hm hok hr hq
      go_wp2_with fail
      refine wp_region_any mixed (wpAny_tq 16 rfl (by kernel_rfl) [some (.int .i64 k), some (.slice (some ⟨b, o, none⟩) l.length c), some (.int .i64 l.length), some (.bool true), some (.bool true), some (.slice (some ⟨b, o, none⟩) l.length c), some (.int .i64 k), some (.int .i64 m), some (.pointer (some ⟨b, o + m * 101, none⟩)), some (aggV (recC q)), some (.slice (some ⟨b, o, none⟩) l.length c), some (.int .i64 k), some (.pointer (some ⟨b, o + k * 101, none⟩)), some (aggV (recC r)), some (.bool (folB q r)), some (.bool (folB q r))] rfl (by kernel_rfl) (by kernel_rfl) ?_ ?_)
      · intro i o' hi hsk ho a' w2 hout hin hk2
        replace hk2 : Kept [] wr w2 := ⟨hk2.os, hk2.tape, hk2.output, hk2.size, hk2.block⟩
        match i, ho, hsk with
        | 0, ho, hsk =>
          obtain rfl := Option.some.inj ho
          exact wp_move (.tmp 5) rfl _ ((hout 5 (by kernel_rfl)).trans rfl) ⟨_, rfl, tq_is _ _ _ _ rfl, Kept.refl _ _, fun _ _ _ _ _ => trivial⟩
        | 1, ho, hsk =>
          obtain rfl := Option.some.inj ho
          exact wp_move (.tmp 1) rfl _ ((hout 1 (by kernel_rfl)).trans rfl) ⟨_, rfl, tq_is _ _ _ _ rfl, Kept.refl _ _, fun _ _ _ _ _ => trivial⟩
        | 2, ho, hsk =>
          obtain rfl := Option.some.inj ho
          have e0 : a'.eval (.tmp 18) = .slice (some ⟨b, o, none⟩) l.length c := is_tq (hin 1 18 (by kernel_rfl) (by kernel_rfl)) rfl
          exact o_len55 18 rfl _ _ _ e0 ⟨_, rfl, tq_is _ _ _ _ rfl, Kept.refl _ _, fun _ _ _ _ _ => trivial⟩
        | 3, ho, hsk =>
          obtain rfl := Option.some.inj ho
          have e0 : a'.eval (.tmp 17) = .int .i64 k := is_tq (hin 0 17 (by kernel_rfl) (by kernel_rfl)) rfl
          have e1 : a'.eval (.tmp 19) = .int .i64 l.length := is_tq (hin 2 19 (by kernel_rfl) (by kernel_rfl)) rfl
          exact o_lss3 (.tmp 17) (.tmp 19) rfl _ _ true (by simp; omega) e0 e1 ⟨_, rfl, tq_is _ _ _ _ rfl, Kept.refl _ _, fun _ _ _ _ _ => trivial⟩
        | 4, ho, hsk =>
          obtain rfl := Option.some.inj ho
          have e0 : a'.eval (.tmp 20) = .bool true := is_tq (hin 3 20 (by kernel_rfl) (by kernel_rfl)) rfl
          exact wp_move (.tmp 20) rfl _ e0 ⟨_, rfl, tq_is _ _ _ _ rfl, Kept.refl _ _, fun _ _ _ _ _ => trivial⟩
        | 5, ho, hsk =>
          obtain rfl := Option.some.inj ho
          exact wp_move (.tmp 1) rfl _ ((hout 1 (by kernel_rfl)).trans rfl) ⟨_, rfl, tq_is _ _ _ _ rfl, Kept.refl _ _, fun _ _ _ _ _ => trivial⟩
        | 6, ho, hsk =>
          obtain rfl := Option.some.inj ho
          exact wp_move (.tmp 5) rfl _ ((hout 5 (by kernel_rfl)).trans rfl) ⟨_, rfl, tq_is _ _ _ _ rfl, Kept.refl _ _, fun _ _ _ _ _ => trivial⟩
        | 7, ho, hsk =>
          obtain rfl := Option.some.inj ho
          have e0 : a'.eval (.tmp 23) = .int .i64 k := is_tq (hin 6 23 (by kernel_rfl) (by kernel_rfl)) rfl
          exact o_dec3 (.tmp 23) rfl k m (unhide HM) (by have := unhide HM; omega) e0 ⟨_, rfl, tq_is _ _ _ _ rfl, Kept.refl _ _, fun _ _ _ _ _ => trivial⟩
        | 8, ho, hsk =>
          obtain rfl := Option.some.inj ho
          have e0 : a'.eval (.tmp 22) = .slice (some ⟨b, o, none⟩) l.length c := is_tq (hin 5 22 (by kernel_rfl) (by kernel_rfl)) rfl
          have e1 : a'.eval (.tmp 24) = .int .i64 m := is_tq (hin 7 24 (by kernel_rfl) (by kernel_rfl)) rfl
          exact o_idxS (.tmp 22) (.tmp 24) rfl b o l.length c m (by have := unhide HM; omega) e0 e1 ⟨_, rfl, tq_is _ _ _ _ rfl, Kept.refl _ _, fun _ _ _ _ _ => trivial⟩
        | 9, ho, hsk =>
          obtain rfl := Option.some.inj ho
          have e0 : a'.eval (.tmp 25) = .pointer (some ⟨b, o + m * 101, none⟩) := is_tq (hin 8 25 (by kernel_rfl) (by kernel_rfl)) rfl
          exact wp_loadA row25 (.tmp 25) rfl b (o + m * 101) e0 (recC q) (recC_len qok.bd.len) (((unhide RS).kept hk2).at (unhide HQk)) ⟨_, rfl, tq_is _ _ _ _ rfl, Kept.refl _ _, fun _ _ _ _ _ => trivial⟩
        | 10, ho, hsk =>
          obtain rfl := Option.some.inj ho
          exact wp_move (.tmp 1) rfl _ ((hout 1 (by kernel_rfl)).trans rfl) ⟨_, rfl, tq_is _ _ _ _ rfl, Kept.refl _ _, fun _ _ _ _ _ => trivial⟩
        | 11, ho, hsk =>
          obtain rfl := Option.some.inj ho
          exact wp_move (.tmp 5) rfl _ ((hout 5 (by kernel_rfl)).trans rfl) ⟨_, rfl, tq_is _ _ _ _ rfl, Kept.refl _ _, fun _ _ _ _ _ => trivial⟩
        | 12, ho, hsk =>
          obtain rfl := Option.some.inj ho
          have e0 : a'.eval (.tmp 27) = .slice (some ⟨b, o, none⟩) l.length c := is_tq (hin 10 27 (by kernel_rfl) (by kernel_rfl)) rfl
          have e1 : a'.eval (.tmp 28) = .int .i64 k := is_tq (hin 11 28 (by kernel_rfl) (by kernel_rfl)) rfl
          exact o_idxS (.tmp 27) (.tmp 28) rfl b o l.length c k hlt e0 e1 ⟨_, rfl, tq_is _ _ _ _ rfl, Kept.refl _ _, fun _ _ _ _ _ => trivial⟩
        | 13, ho, hsk =>
          obtain rfl := Option.some.inj ho
          have e0 : a'.eval (.tmp 29) = .pointer (some ⟨b, o + k * 101, none⟩) := is_tq (hin 12 29 (by kernel_rfl) (by kernel_rfl)) rfl
          exact wp_loadA row25 (.tmp 29) rfl b (o + k * 101) e0 (recC r) (recC_len rok.bd.len) (((unhide RS).kept hk2).at (unhide HRk)) ⟨_, rfl, tq_is _ _ _ _ rfl, Kept.refl _ _, fun _ _ _ _ _ => trivial⟩
        | 14, ho, hsk =>
          obtain rfl := Option.some.inj ho
          have e0 : a'.eval (.tmp 26) = aggV (recC q) := is_tq (hin 9 26 (by kernel_rfl) (by kernel_rfl)) rfl
          have e1 : a'.eval (.tmp 30) = aggV (recC r) := is_tq (hin 13 30 (by kernel_rfl) (by kernel_rfl)) rfl
          refine wp_callF 25 _ _ rfl #[aggV (recC q), aggV (recC r)] (by simp [e0, e1]) (cf25 _ _) ((rfollows25 q r qok.ls rok.ls w2).mono ?_)
          rintro e w3 ⟨rfl, hk3⟩
          exact ⟨_, rfl, _, rfl, tq_is _ _ _ _ rfl, hk3, fun _ _ _ _ _ => trivial⟩
        | 15, ho, hsk =>
          obtain rfl := Option.some.inj ho
          have e0 : a'.eval (.tmp 21) = .bool true := is_tq (hin 4 21 (by kernel_rfl) (by kernel_rfl)) rfl
          have e1 : a'.eval (.tmp 31) = .bool (folB q r) := is_tq (hin 14 31 (by kernel_rfl) (by kernel_rfl)) rfl
          exact o_pick (.tmp 21) (.tmp 31) rfl _ e0 e1 ⟨_, rfl, tq_is _ _ _ _ rfl, Kept.refl _ _, fun _ _ _ _ _ => trivial⟩
      · intro w3 hk3
        replace hk3 : Kept [] wr w3 := ⟨hk3.os, hk3.tape, hk3.output, hk3.size, hk3.block⟩
        simp only [valsQ, List.map_cons, List.map_nil, Option.getD_some, List.take_succ_cons, List.take_zero, putAll, Act.put, List.setIfInBounds_toArray, List.set_cons_succ, List.set_cons_zero]
        refine wpAny_done (by kernel_rfl) ?_ _
        have RS3 := hide ((unhide RS).kept hk3)
        have RK3 := hide ((unhide RK).trans hk3)
        clear hk3 RS RK
        cases hf : folB q r with
        | true =>
          have R2 := hide (run_go (unhide R) ((unhide HO).trans hf))
          go_wp2_with fail
          go_roundw
          case rel => exact ⟨k + 1, f, by omega, by omega, by go_num, R2, RS3, RK3⟩
          case measure => simp [intOf]; omega
        | false =>
          have e2 := hide (run_stop (unhide R) ((unhide HO).trans hf))
          go_wp2_with fail
          go_ret
          rw [← unhide e2]
          exact ⟨rfl, unhide RK3⟩
    · obtain rfl : f = 0 := by omega
      have e2 : Hid (k = runR start l) := unhide R
      have hkl : Hid (k = l.length) := by show _ = _; omega
      go_wp2_with fail
      refine wp_region_any mixed (wpAny_tq 16 rfl (by kernel_rfl) [some (.int .i64 k), some (.slice (some ⟨b, o, none⟩) l.length c), some (.int .i64 l.length), some (.bool false), some (.bool false), none, none, none, none, none, none, none, none, none, none, some (.bool false)] rfl (by kernel_rfl) (by kernel_rfl) ?_ ?_)
      · intro i o' hi hsk ho a' w2 hout hin hk2
        match i, ho, hsk with
        | 0, ho, hsk =>
          obtain rfl := Option.some.inj ho
          exact wp_move (.tmp 5) rfl _ ((hout 5 (by kernel_rfl)).trans rfl) ⟨_, rfl, tq_is _ _ _ _ rfl, Kept.refl _ _, fun _ _ _ _ _ => trivial⟩
        | 1, ho, hsk =>
          obtain rfl := Option.some.inj ho
          exact wp_move (.tmp 1) rfl _ ((hout 1 (by kernel_rfl)).trans rfl) ⟨_, rfl, tq_is _ _ _ _ rfl, Kept.refl _ _, fun _ _ _ _ _ => trivial⟩
        | 2, ho, hsk =>
          obtain rfl := Option.some.inj ho
          have e0 : a'.eval (.tmp 18) = .slice (some ⟨b, o, none⟩) l.length c := is_tq (hin 1 18 (by kernel_rfl) (by kernel_rfl)) rfl
          exact o_len55 18 rfl _ _ _ e0 ⟨_, rfl, tq_is _ _ _ _ rfl, Kept.refl _ _, fun _ _ _ _ _ => trivial⟩
        | 3, ho, hsk =>
          obtain rfl := Option.some.inj ho
          have e0 : a'.eval (.tmp 17) = .int .i64 k := is_tq (hin 0 17 (by kernel_rfl) (by kernel_rfl)) rfl
          have e1 : a'.eval (.tmp 19) = .int .i64 l.length := is_tq (hin 2 19 (by kernel_rfl) (by kernel_rfl)) rfl
          exact o_lss3 (.tmp 17) (.tmp 19) rfl _ _ false (by simp; omega) e0 e1 ⟨_, rfl, tq_is _ _ _ _ rfl, Kept.refl _ _, fun _ _ _ _ _ => trivial⟩
        | 4, ho, hsk =>
          obtain rfl := Option.some.inj ho
          have e0 : a'.eval (.tmp 20) = .bool false := is_tq (hin 3 20 (by kernel_rfl) (by kernel_rfl)) rfl
          exact wp_move (.tmp 20) rfl _ e0 ⟨_, rfl, tq_is _ _ _ _ rfl, Kept.refl _ _, fun _ _ _ _ _ => trivial⟩
        | 5, ho, hsk =>
          cases hsk
        | 6, ho, hsk =>
          cases hsk
        | 7, ho, hsk =>
          cases hsk
        | 8, ho, hsk =>
          cases hsk
        | 9, ho, hsk =>
          cases hsk
        | 10, ho, hsk =>
          cases hsk
        | 11, ho, hsk =>
          cases hsk
        | 12, ho, hsk =>
          cases hsk
        | 13, ho, hsk =>
          cases hsk
        | 14, ho, hsk =>
          cases hsk
        | 15, ho, hsk =>
          obtain rfl := Option.some.inj ho
          have e0 : a'.eval (.tmp 21) = .bool false := is_tq (hin 4 21 (by kernel_rfl) (by kernel_rfl)) rfl
          exact o_pickN (.tmp 21) (.tmp 31) rfl e0 ⟨_, rfl, tq_is _ _ _ _ rfl, Kept.refl _ _, fun _ _ _ _ _ => trivial⟩
      · intro w3 hk3
        replace hk3 : Kept [] wr w3 := ⟨hk3.os, hk3.tape, hk3.output, hk3.size, hk3.block⟩
        simp only [valsQ, List.map_cons, List.map_nil, Option.getD_some, Option.getD_none, List.take_succ_cons, List.take_zero, putAll, Act.put, List.setIfInBounds_toArray, List.set_cons_succ, List.set_cons_zero]
        refine wpAny_done (by kernel_rfl) ?_ _
        have RK3 := hide ((unhide RK).trans hk3)
        clear hk3 RS RK
        go_wp2_with fail
        go_ret
        rw [← unhide e2]
        exact ⟨rfl, unhide RK3⟩

end Go.Proofs.YtkpkiibahfdomaaDoor
