/-
  The document's pool: new ones, lengths, clearing.
-/
import Derived.Test.YtgnafbohikbpfaaRa
import Derived.Test.YtgnafbohikbpfaaQi
namespace Go.Proofs.Ytgnafbohikbpfaa
set_option maxRecDepth 100000
set_option linter.unusedSimpArgs false
open Go.RowKit


theorem made84 (m : Nat) : madeCells pl0.D.toArray (m * 105) = (plsD z16 m).toArray := by
  apply Array.ext
  · rw [size_madeCells, List.size_toArray, plsD_len]
  · intro i h1 h2
    have hi : i < m * 105 := by rw [size_madeCells] at h1; exact h1
    have hk : i / 105 < m := by omega
    have hj : i % 105 < 105 := by omega
    have h3 := plsD_at z16 m [] (i / 105) (i % 105) hk hj
    rw [List.append_nil, show i / 105 * 105 + i % 105 = i by omega] at h3
    have h4 : (madeCells pl0.D.toArray (m * 105))[i] = pl0.D.toArray[i % pl0.D.toArray.size]! := by simp [madeCells]
    have h6 : pl0.D.toArray.size = 105 := by rw [List.size_toArray, Pl.lenD]
    rw [h4, h6, List.getElem_toArray, getElem!_def, List.getElem?_toArray]
    rw [show (z16 (i / 105)) = pl0 from rfl] at h3
    rw [← h3, List.getElem?_eq_getElem (by rw [plsD_len]; exact hi)]
theorem Try.zero84 : (Try.prog.info? 84).map (fun i => (i.zero, i.size, i.bytes)) = some (some (aggV pl0.D), 105, 168) := by kernel_rfl
theorem mk71 (w : World) (m : Nat) (h : m ≤ 16) : (Instr.makeSlice 71 (.int .i64 (m : Int)) (.int .i64 (m : Int))).run Try.prog w = .ok (.slice (some ⟨w.heap.size, 0, none⟩) m m) (w.alloc (.cells (plsD z16 m).toArray 84)) := by
  obtain ⟨i0, hi, hz0, hz1, hz2⟩ := info_parts Try.zero84
  have hr := run_make (P := Try.prog) w 71 84 i0 (aggV pl0.D) Try.underlying71 hi hz0 .i64 .i64 m m (by omega) (by omega) (by rw [hz2]; omega) (by omega)
  have hc : (aggV pl0.D).cells = pl0.D.toArray := rfl
  rw [hz1, Int.toNat_natCast, hc, made84] at hr
  exact hr
theorem cg35 (vs : Array Value) (w : World) : (callFunc 35 vs).run Try.prog w = .ok (.enter 35 vs) w := by kernel_rfl
theorem build73 (w : World) (ao : Option Addr) (m c : Nat) : (Instr.build 73 #[(0, .slice ao m c)]).run Try.prog w = .ok (aggV [.slice ao m c, .int .i64 0]) w := by kernel_rfl
section
variable {ops : Array Oper} {rest : List Oper} {op o : Oper} {a : Act} {w : World} {K : Act → World → Prop} {Q : Exit → Act → World → Prop}
theorem wpMk71 (hgd : op.guard = none) (x : Operand) (ho : op.op = .makeSlice 71 x x) (m : Nat) (hm : m ≤ 16) (hx : a.eval x = .int .i64 (m : Int))
    (h : ∀ W g, g = w.heap.size → Blk W g 84 (plsD z16 m) → Kept [] w W → wpList Try.prog ops Q rest (a.put op.dst (.slice (some ⟨g, 0, none⟩) m m)) W) : wpList Try.prog ops Q (op :: rest) a w :=
  wpList_plain hgd fun _ hK => by
    unfold Oper.wp execOp
    simp only [ho, hx, Sem.run_bind, mk71 w m hm, Result.andThen_ok]
    exact hK _ _ (h _ _ rfl (Blk.new w 84 _) ((Kept.refl _ _).alloc _))
theorem wpBld73 (hgd : op.guard = none) (x : Operand) (ho : op.op = .build 73 #[(0, x)]) (ao : Option Addr) (m c : Nat) (hx : a.eval x = .slice ao m c) (h : wpList Try.prog ops Q rest (a.put op.dst (aggV [.slice ao m c, .int .i64 0])) w) : wpList Try.prog ops Q (op :: rest) a w :=
  wpList_plain hgd fun _ hK => wp_buildP #[(0, x)] ho #[(0, .slice ao m c)] (by simp [hx]) _ (build73 w ao m c) (hK _ _ h)
end
variable {w0 w W W' : World} {b g c mb : Nat} {P Q : Po} {L : List En} {pg : Int} {q k i : Nat}
theorem rnew_no (n : Int) (w : World) (h : ¬ (1 ≤ n ∧ n ≤ 16)) : Calls Try.prog 8 #[.int .i64 n] w fun e w' => e = .returned (.pointer none) ∧ w' = w := by
  by_cases h1 : n < 1
  · have a1 : decide (n < 1) = true := decide_eq_true h1
    clear h
    go_enter Try.func8, Try.ntmps8
    go_wp2_with fail
    go_ret
    exact ⟨rfl, rfl⟩
  · have a1 : decide (n < 1) = false := decide_eq_false h1
    have h2 : n > 16 := by omega
    have a2 : decide (n > 16) = true := decide_eq_true h2
    have a3 : decide (16 < n) = true := decide_eq_true h2
    clear h
    go_enter Try.func8, Try.ntmps8
    go_wp2_with fail
    go_ret
    exact ⟨rfl, rfl⟩
theorem rnew_yes (m : Nat) (w : World) (h : 1 ≤ m ∧ m ≤ 16) : Calls Try.prog 8 #[.int .i64 (m : Int)] w fun e w' => ∃ b g, e = .returned (P0 b) ∧ w.heap.size ≤ b ∧ w.heap.size ≤ g ∧ Rg w' b g m (po0 m) ∧ Kept [] w w' := by
  have a1 : decide ((m : Int) < 1) = false := decide_eq_false (by omega)
  have a2 : decide ((m : Int) > 16) = false := decide_eq_false (by omega)
  have a3 : decide ((16 : Int) < (m : Int)) = false := decide_eq_false (by omega)
  have HM := hide h
  clear h
  go_enter Try.func8, Try.ntmps8
  go_wp2_with (
    first
    | (refine wpMk71 rfl (.tmp 9) rfl m (unhide HM).2 rfl ?_
       intro W1 g e1 B1 K1
       have HG : Hid (w.heap.size ≤ g) := by show _ ≤ _; omega
       have HGL := hide B1
       have HK := hide K1
       clear e1 B1 K1
       refine Stp.go ?_))
  constructor
  go_wp2_with (
    first
    | (refine wpBld73 rfl (.tmp 10) rfl _ _ _ rfl ?_
       refine Stp.go ?_))
  constructor
  go_wp2_with (
    first
    | (refine wpBoxV rfl (.tmp 11) rfl [.slice (some ⟨g, 0, none⟩) m m, .int .i64 0] rfl ?_
       intro W2 b e2 B2 K2
       have HB2 : Hid (w.heap.size ≤ b) := by have := (unhide HK).size; show _ ≤ _; omega
       have HBL := hide B2
       replace HGL := hide ((unhide HGL).kept K2 (by simp))
       replace HK := hide ((unhide HK).trans K2)
       clear e2 B2 K2
       refine Stp.go ?_))
  constructor
  go_wp2_with fail
  go_ret
  exact ⟨b, g, rfl, unhide HB2, unhide HG, ⟨unhide HBL, ⟨[], by rw [List.append_nil]; exact unhide HGL⟩, po0_ok (unhide HM), Nat.le_refl _⟩, unhide HK⟩
theorem rlen35_z (w : World) : Calls Try.prog 35 #[.pointer none] w fun e w' => e = .returned (.int .i64 0) ∧ w' = w := by
  go_enter Try.func35, Try.ntmps35
  go_wp2_with fail
  go_loopw [3, 4] (fun x3 x4 wr => x3 = .int .i64 0 ∧ x4 = .int .i64 0 ∧ wr = w) (fun _ _ _ => 0)
  case atStart => exact ⟨rfl, rfl, rfl⟩
  case round =>
    obtain ⟨rfl, rfl, rfl⟩ := hrel
    go_wp2_with fail
    go_ret
    exact ⟨rfl, rfl⟩
theorem rlen35 (w : World) (h : Rg w b g c P) : Calls Try.prog 35 #[P0 b] w fun e w' => e = .returned (.int .i64 (cntB P.S P.m : Int)) ∧ w' = w := by
  have HP := hide h
  have cs := h.cs
  have hcm := h.cm
  have hm := h.ok.m
  clear h
  go_enter Try.func35, Try.ntmps35
  go_wp2_with fail
  go_loopw [3, 4] (fun x3 x4 wr => ∃ k : Nat, k ≤ P.m ∧ x3 = .int .i64 (cntB P.S k : Int) ∧ x4 = .int .i64 k ∧ wr = w) (fun _ x4 _ => P.m - (intOf x4).toNat)
  case atStart => exact ⟨0, by omega, rfl, rfl, rfl⟩
  case round =>
    obtain ⟨k, hk, rfl, rfl, rfl⟩ := hrel
    by_cases hlt : k < P.m
    · have hd : decide ((k : Int) < (P.m : Int)) = true := by simp; omega
      have hkI : (k : Int) < (P.m : Int) := by omega
      have hle := cntB_le P.S k
      by_cases h1 : (P.S k).f.md = 0
      · have cis : wr.cell? ⟨g, k * 105, none⟩ = some (.bool false) := by have h9 := (unhide HP).cis hlt; unfold Pl.bz at h9; rw [h1] at h9; exact h9
        have HC : Hid (cntB P.S (k + 1) = cntB P.S k) := by show _ = _; rw [cntB, if_pos h1]; omega
        clear h1
        go_wp2_with fail
        go_roundw
        case rel => exact ⟨k + 1, by omega, by rw [unhide HC], by go_num, by trivial⟩
        case measure => simp [intOf]; omega
      · have cis : wr.cell? ⟨g, k * 105, none⟩ = some (.bool true) := by have h9 := (unhide HP).cis hlt; unfold Pl.bz at h9; rw [decide_eq_false h1] at h9; exact h9
        have HC : Hid (cntB P.S (k + 1) = cntB P.S k + 1) := by show _ = _; rw [cntB, if_neg h1]
        clear h1
        go_wp2_with fail
        go_roundw
        case rel => exact ⟨k + 1, by omega, by rw [unhide HC]; go_num, by go_num, by trivial⟩
        case measure => simp [intOf]; omega
    · obtain rfl : k = P.m := by omega
      have hd : decide ((P.m : Int) < (P.m : Int)) = false := by simp
      go_wp2_with fail
      go_ret
      exact ⟨rfl, rfl⟩
theorem rroom36_z (w : World) : Calls Try.prog 36 #[.pointer none] w fun e w' => e = .returned (.int .i64 0) ∧ w' = w := by
  go_enter Try.func36, Try.ntmps36
  go_wp2_with fail
  go_ret
  exact ⟨rfl, rfl⟩
theorem rroom36 (h : Rg w b g c P) : Calls Try.prog 36 #[P0 b] w fun e w' => e = .returned (.int .i64 ((P.m : Int) - (cntB P.S P.m : Int))) ∧ Kept [] w w' := by
  have HP := hide h
  have HLE : Hid (cntB P.S P.m ≤ 16 ∧ P.m ≤ 16) := by have h2 := cntB_le P.S P.m; have h3 := h.ok.m; show _ ∧ _; omega
  clear h
  go_enter Try.func36, Try.ntmps36
  go_wp2_with fail
  refine wp_region_any mixed (wpAny_tq 9 rfl (by kernel_rfl) [some (P0 b), some (P0 b), some (P0 b), some (.slice (some ⟨g, 0, none⟩) P.m c), some (.int .i64 P.m), some (P0 b), some (.int .i64 ((cntB P.S P.m : Int))), some (.int .i64 ((P.m : Int) - ((cntB P.S P.m : Int) : Int))), some (.int .i64 ((P.m : Int) - ((cntB P.S P.m : Int) : Int)))] rfl (by kernel_rfl) (by kernel_rfl) ?_ ?_)
  · intro i o' hi hsk ho a' w2 hout hin hk2
    replace hk2 : Kept [] w w2 := ⟨hk2.os, hk2.tape, hk2.output, hk2.size, hk2.block⟩
    match i, ho, hsk with
    | 0, ho, hsk =>
      obtain rfl := Option.some.inj ho
      exact wp_move (.tmp 0) rfl _ ((hout 0 (by kernel_rfl)).trans rfl) ⟨_, rfl, tq_is _ _ _ _ rfl, Kept.refl _ _, fun _ _ _ _ _ => trivial⟩
    | 1, ho, hsk =>
      obtain rfl := Option.some.inj ho
      have e0 : a'.eval (.tmp 5) = P0 b := is_tq (hin 0 5 (by kernel_rfl) (by kernel_rfl)) rfl
      exact o_nil (.tmp 5) rfl _ e0 ⟨_, rfl, tq_is _ _ _ _ rfl, Kept.refl _ _, fun _ _ _ _ _ => trivial⟩
    | 2, ho, hsk =>
      obtain rfl := Option.some.inj ho
      have e0 : a'.eval (.tmp 6) = P0 b := is_tq (hin 1 6 (by kernel_rfl) (by kernel_rfl)) rfl
      exact o_fld73_0 (.tmp 6) rfl b (0) (0) rfl e0 ⟨_, rfl, tq_is _ _ _ _ rfl, Kept.refl _ _, fun _ _ _ _ _ => trivial⟩
    | 3, ho, hsk =>
      obtain rfl := Option.some.inj ho
      have e0 : a'.eval (.tmp 7) = P0 b := is_tq (hin 2 7 (by kernel_rfl) (by kernel_rfl)) rfl
      exact o_load71 (.tmp 7) rfl _ _ e0 (((unhide HP).step hk2 (by simp) (by simp)).cs) ⟨_, rfl, tq_is _ _ _ _ rfl, Kept.refl _ _, fun _ _ _ _ _ => trivial⟩
    | 4, ho, hsk =>
      obtain rfl := Option.some.inj ho
      have e0 : a'.eval (.tmp 8) = .slice (some ⟨g, 0, none⟩) P.m c := is_tq (hin 3 8 (by kernel_rfl) (by kernel_rfl)) rfl
      exact o_len71 (.tmp 8) rfl _ _ _ e0 ⟨_, rfl, tq_is _ _ _ _ rfl, Kept.refl _ _, fun _ _ _ _ _ => trivial⟩
    | 5, ho, hsk =>
      obtain rfl := Option.some.inj ho
      exact wp_move (.tmp 0) rfl _ ((hout 0 (by kernel_rfl)).trans rfl) ⟨_, rfl, tq_is _ _ _ _ rfl, Kept.refl _ _, fun _ _ _ _ _ => trivial⟩
    | 6, ho, hsk =>
      obtain rfl := Option.some.inj ho
      have e0 : a'.eval (.tmp 10) = P0 b := is_tq (hin 5 10 (by kernel_rfl) (by kernel_rfl)) rfl
      refine wp_callF 35 _ _ rfl #[P0 b] (by simp [e0]) (cg35 _ _) ((rlen35 _ ((unhide HP).step hk2 (by simp) (by simp))).mono ?_)
      rintro e w3 ⟨rfl, rfl⟩
      exact ⟨_, rfl, _, rfl, tq_is _ _ _ _ rfl, Kept.refl _ _, fun _ _ _ _ _ => trivial⟩
    | 7, ho, hsk =>
      obtain rfl := Option.some.inj ho
      have e0 : a'.eval (.tmp 9) = .int .i64 P.m := is_tq (hin 4 9 (by kernel_rfl) (by kernel_rfl)) rfl
      have e1 : a'.eval (.tmp 11) = .int .i64 ((cntB P.S P.m : Int)) := is_tq (hin 6 11 (by kernel_rfl) (by kernel_rfl)) rfl
      exact c_sub3 (.tmp 9) (.tmp 11) rfl _ _ (by have := unhide HLE; omega) e0 e1 ⟨_, rfl, tq_is _ _ _ _ rfl, Kept.refl _ _, fun _ _ _ _ _ => trivial⟩
    | 8, ho, hsk =>
      obtain rfl := Option.some.inj ho
      have e0 : a'.eval (.tmp 12) = .int .i64 ((P.m : Int) - ((cntB P.S P.m : Int) : Int)) := is_tq (hin 7 12 (by kernel_rfl) (by kernel_rfl)) rfl
      exact wp_assignV (.tmp 12) rfl _ e0 ⟨_, rfl, tq_is _ _ _ _ rfl, Kept.refl _ _, fun _ _ _ _ _ => trivial⟩
  intro w9 hk9
  replace hk9 : Kept [] w w9 := ⟨hk9.os, hk9.tape, hk9.output, hk9.size, hk9.block⟩
  simp only [valsQ, List.map_cons, List.map_nil, Option.getD_some, List.take_succ_cons, List.take_zero, putAll, Act.put, List.setIfInBounds_toArray, List.set_cons_succ, List.set_cons_zero]
  refine wpAny_done (by kernel_rfl) ?_ _
  go_wp2_with fail
  go_ret
  exact ⟨rfl, hk9⟩
theorem rclear34_z (w : World) : Calls Try.prog 34 #[.pointer none] w fun e w' => e = .returned (.int .i64 0) ∧ w' = w := by
  go_enter Try.func34, Try.ntmps34
  go_wp2_with fail
  go_ret
  exact ⟨rfl, rfl⟩
theorem rclear34 (h : Rg w b g c P) : Calls Try.prog 34 #[P0 b] w fun e w' => ∃ g2, e = .returned (.int .i64 (cntB P.S P.m : Int)) ∧ w.heap.size ≤ g2 ∧ Rg w' b g2 P.m (po0 P.m) ∧ Kept [b] w w' := by
  have HP := hide h
  have cs := h.cs
  have HM := hide h.ok.m
  have hcm := h.cm
  have M : Hid (Mm [b] w w [(b, 73, [.slice (some ⟨g, 0, none⟩) P.m c, .int .i64 (P.h : Int)])]) := Mm.ini h.bk (by simp)
  have P35 := hide (rlen35 w h)
  clear h
  go_enter Try.func34, Try.ntmps34
  go_wp2_with (
    first
    | (go_at_call 35
       refine (unhide P35).mono ?_
       rintro e W9 ⟨rfl, q9⟩
       replace q9 := q9.symm
       subst q9
       clear P35
       refine Stp.go ?_))
  constructor
  go_wp2_with (
    first
    | (refine wpMk71 rfl (.tmp 13) rfl P.m (unhide HM).2 rfl ?_
       intro W1 g2 e1 B1 K1
       have HG : Hid (w.heap.size ≤ g2) := by show _ ≤ _; omega
       replace M : Hid (Mm [b] w W1 [(b, 73, [.slice (some ⟨g, 0, none⟩) P.m c, .int .i64 (P.h : Int)]), (g2, 84, plsD z16 P.m)]) := hide ((unhide M).new e1 B1 K1)
       clear e1 B1 K1
       refine Stp.go ?_))
  constructor
  go_wp2_with (
    first
    | (refine wpBld73 rfl (.tmp 14) rfl _ _ _ rfl ?_
       refine Stp.go ?_))
  constructor
  go_wp2_with (
    first
    | (refine wpStN row73 rfl (.tmp 16) (.tmp 15) rfl rfl b 0 0 [.slice (some ⟨g2, 0, none⟩) P.m P.m, .int .i64 0] rfl rfl rfl (by simp [Value.oneCell']) (unhide M) rfl (by show 0 + 2 ≤ 2; omega) (fun W h9 => h9.put rfl) ?_
       intro W8 M8
       replace M : Hid (Mm [b] w W8 [(b, 73, [.slice (some ⟨g2, 0, none⟩) P.m P.m, .int .i64 0]), (g2, 84, plsD z16 P.m)]) := hide M8
       clear M8
       refine Stp.go ?_))
  constructor
  go_wp2_with fail
  go_ret
  exact ⟨g2, rfl, unhide HG, ⟨(unhide M).at 0 _ rfl, ⟨[], by rw [List.append_nil]; exact (unhide M).at 1 _ rfl⟩, po0_ok (unhide HM), Nat.le_refl _⟩, (unhide M).kept⟩

end Go.Proofs.Ytgnafbohikbpfaa
