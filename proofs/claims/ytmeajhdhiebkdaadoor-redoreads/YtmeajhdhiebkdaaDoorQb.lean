/-
  RedoReads.
-/
import Derived.Test.YtmeajhdhiebkdaaDoorMe
import Derived.Deep.CutRange
import Derived.Deep.CutBlock
namespace Go.Proofs.YtmeajhdhiebkdaaDoor
set_option maxRecDepth 100000
open Go.RowKit Go.Shelf
attribute [local go_sem] Oper.semAt_some

theorem cg12 (vs : Array Value) (w : World) : (callFunc 12 vs).run Tryd.prog w = .ok (.enter 12 vs) w := by kernel_rfl
theorem cg21 (vs : Array Value) (w : World) : (callFunc 21 vs).run Tryd.prog w = .ok (.enter 21 vs) w := by kernel_rfl
theorem cg23 (vs : Array Value) (w : World) : (callFunc 23 vs).run Tryd.prog w = .ok (.enter 23 vs) w := by kernel_rfl
theorem eq68 (c : Nat) (w : World) : (binOp BinOp.eql 68 (.func (.func 52) #[] #[P0 c]) Value.nilFunc).run Tryd.prog w = .ok (.bool false) w := by kernel_rfl
/-- A log stays where another block of cells is written. -/
theorem Ka.wr {w0 W W' : World} {l b g q T : Nat} {D : Dv.Dev} {L : Lo} {us : List Value} (h : Ka w0 W l b g D L) (hk : Kept [q] W W') (hq : Blk W q T us) (hT : T ≠ 72 ∧ T ≠ 96 ∧ T ≠ 80 ∧ T ≠ 45) (hg : w0.heap.size ≤ q) : Ka w0 W' l b g D L := by
  obtain ⟨⟨rv, h1, h2⟩, h3, h4, h5, h6⟩ := h
  have no : ∀ (p U : Nat) (cs : Array Value), U ≠ T → W.heap[p]? = some (.cells cs U (0, 0)) → p ∉ [q] := by
    intro p U cs hU he hm
    simp at hm
    subst hm
    unfold Blk at hq
    rw [he] at hq
    injection hq with hq
    injection hq with _ hq
    exact hU hq
  obtain ⟨cap, d1, ex, d2, _⟩ := h1.dev.lay
  refine ⟨⟨rv, ⟨h1.head.kept hk (no l 72 _ (fun e => hT.1 e.symm) h1.head), h1.dev.kept hk (no b 96 _ (fun e => hT.2.1 e.symm) d1) (no g 80 _ (fun e => hT.2.2.1 e.symm) d2), h1.row.kept hk (fun k e => by obtain ⟨cs, hc⟩ := h1.row.block k e; exact no k 45 cs (fun e => hT.2.2.2 e.symm) hc), h1.recs, h1.may, h1.node, h1.ep, h1.st, h1.nx, h1.fl, h1.many⟩, h2⟩, h3.fresh hk (fun i hi hl => by simp at hi; omega), h4, h5, h6⟩
theorem Mks.wr {w W W' : World} {Ds : List Nat} {q T : Nat} {us : List Value} (h : Mks w W Ds) (hk : Kept [q] W W') (hq : Blk W q T us) : Mks w W' Ds := h.kept hk (fun b hb => by simp at hb; subst hb; exact ⟨_, _, hq⟩)
theorem OwnO.wr {W W' : World} {v : Value} {n q T : Nat} {xs us : List Value} (h : OwnO W v n xs) (hk : Kept [q] W W') (hq : Blk W q T us) (hT : T ≠ 45) : OwnO W' v n xs := h.kept hk (fun k e hm => by
  simp at hm
  subst hm
  obtain ⟨cs, hc⟩ := h.block k e
  unfold Blk at hq
  rw [hc] at hq
  injection hq with hq
  injection hq with _ hq
  exact hT hq.symm)
theorem Blk.wr {W W' : World} {b q T U : Nat} {us vs : List Value} (h : Blk W b U vs) (hk : Kept [q] W W') (hq : Blk W q T us) (hT : U ≠ T) : Blk W' b U vs := h.kept hk (fun hm => by simp at hm; exact blk_ne h hq hT hm)
theorem kept_grow {w W W' : World} {row : Option Nat} {B : Nat} {X : List Nat} (h : Kept X w W) (hg : W.grownBy W' row) (hB : w.heap.size ≤ B) (hr : ∀ r, row = some r → B ≤ r) : Kept X w W' := h.fresh (Kept.of_grown (X := row.toList) hg (fun k e _ => by simp [e])) (fun i hi hl => by have := hr i (by simpa using hi); omega)
theorem wp_loopK {P : Program} {c : Code} {Q : Exit → Act → World → Prop} {a : Act} {w : World} (I : Act → World → Prop) (μ : Act → World → Nat) (h₀ : I a w)
    (round : ∀ a w (K : Act → World → Prop), I a w → (∀ a' w', I a' w' → μ a' w' < μ a w → K a' w') → c.wp P (Exit.then K Q) a w) : (Code.loop c).wp P Q a w :=
  wp_loop I μ h₀ fun a w hI => round a w _ hI (fun _ _ h1 h2 => ⟨h1, h2⟩)
/-- The slots that a round leaves. -/
structure Xs where
  x11 : Value
  x12 : Value
  x13 : Value
  x14 : Value
  x15 : Value
  x16 : Value
  x17 : Value
  x48 : Value
  x49 : Value
  x50 : Value
  x51 : Value
  x52 : Value
  x53 : Value
  x54 : Value
  x55 : Value
  x56 : Value
  x57 : Value
  x58 : Value
  x59 : Value
  x60 : Value
  x61 : Value
  x62 : Value
  x63 : Value
  x64 : Value
  x65 : Value
  x66 : Value
  x67 : Value
  x68 : Value
  x69 : Value
  x70 : Value
  x71 : Value
  x72 : Value
  x73 : Value
  x74 : Value
  x75 : Value
  x76 : Value
  x77 : Value
  x78 : Value
  x79 : Value
  x80 : Value
  x81 : Value
  x82 : Value
  x83 : Value
  x84 : Value
  x85 : Value
  x86 : Value
  x87 : Value
  x88 : Value
  x89 : Value
  x90 : Value
  x91 : Value
  x92 : Value
  x93 : Value
  x94 : Value
  x95 : Value
  x96 : Value
  x97 : Value
  x98 : Value
  x99 : Value
  x100 : Value
  x101 : Value
  x102 : Value
  x103 : Value
  x104 : Value
  x105 : Value
  x106 : Value
  x107 : Value
  x108 : Value
  x109 : Value
  x110 : Value
  x111 : Value
  x112 : Value
  x113 : Value
  x114 : Value
  x115 : Value
  x116 : Value
  x117 : Value
  x118 : Value
  x119 : Value
  x120 : Value
  x121 : Value
  x122 : Value
  x123 : Value
  x124 : Value
  x125 : Value
  x126 : Value
  x127 : Value
  x128 : Value
  x129 : Value
  x130 : Value
  x131 : Value
  x132 : Value
  x133 : Value
  x134 : Value
  x135 : Value
  x136 : Value
  x137 : Value
  x138 : Value
  x139 : Value
  x140 : Value
  x141 : Value
  x142 : Value
  x143 : Value
  x144 : Value
  x145 : Value
  x146 : Value
  x147 : Value
  x148 : Value
  x149 : Value
  x150 : Value
  x151 : Value
  x152 : Value
  x153 : Value
  x154 : Value
  x155 : Value
  x156 : Value
  x157 : Value
  x158 : Value
  x159 : Value
  x160 : Value
  x161 : Value
  x162 : Value
  x163 : Value
  x164 : Value
  x165 : Value
  x166 : Value
  x167 : Value
  x168 : Value
  x169 : Value
set_option maxHeartbeats 4000000 in
theorem reads_bad (J : Ar.Job) (nd : Int) (so : Option Addr) (n sc : Nat) (w : World) (hF : Rc.First w) (hbad : ¬ (J.may = true ∧ 0 ≤ nd ∧ nd < J.n ∧ n ≤ 60)) : CallsIn Fence.wide 3 Tryd.prog 6 #[aggV (Ar.jobC J), .int .i64 nd, .slice so n sc] w fun e w' => e = .returned (.bool true) ∧ Kept [] w w' := by
  by_cases c0 : ¬ J.may = true
  · clear hbad
    have P8 := hide (fun W => rmay8 J W)
    rw [show J.may = false by simpa using c0] at P8
    clear c0
    refine callsIn_of_wp_marks Tryd.func6 rfl trivial ?_ rfl
    simp only [Tryd.ntmps6, List.size_toArray, List.length_cons, List.length_nil, Nat.reduceAdd, Nat.reduceSub, Array.replicate_succ, Array.replicate_zero, List.push_toArray, List.append_toArray, List.nil_append, List.cons_append]
    rw [wpIn_wide]
    go_wp2_with (
      first
      | (refine wpBoxV (by rfl) (.tmp 0) (by rfl) (Ar.jobC J) (by kernel_rfl) ?_
         intro V1 q3 e3 B3 K3
         have H3 := hide B3
         have HW := hide K3
         clear e3 B3 K3
         refine Stp.go ?_))
    constructor
    go_wp2_with (
      first
      | (refine wpBox1 (.int .i64 nd) (box3 nd) (by rfl) (.tmp 1) (by rfl) (by kernel_rfl) ?_
         intro V2 q4 e4 B4 K4
         have H4 := hide B4
         replace H3 := hide ((unhide H3).kept K4 (by simp))
         replace HW := hide ((unhide HW).trans K4)
         clear e4 B4 K4
         refine Stp.go ?_))
    constructor
    go_wp2_with (
      first
      | (refine wpAllocW [.bool false] alloc4 6 (by rfl) (by rfl) (by rfl) ?_
         intro V3 q6 e6 B6 K6
         have H6 := hide B6
         have HG6 : Hid (w.heap.size ≤ q6) := by rw [e6]; exact (unhide HW).size
         replace H3 := hide ((unhide H3).kept K6 (by simp))
         replace H4 := hide ((unhide H4).kept K6 (by simp))
         replace HW := hide ((unhide HW).trans K6)
         have c4 := fits_cell (unhide H4) 0 _ rfl
         have c30 := fits_cell (unhide H3) 0 (.int .i64 J.n) rfl
         clear e6 B6 K6
         refine Stp.go ?_))
    constructor
    go_wp2_with (
      first
      | (refine wpLoadA row23 (by rfl) (.tmp 3) (by rfl) q3 0 (by kernel_rfl) (Ar.jobC J) rfl (unhide H3).range ?_
         refine Stp.go ?_))
    constructor
    go_wp2_with (
      first
      | (go_at_call 8
         refine (unhide P8 _).mono ?_
         rintro e V4 ⟨rfl, K4⟩
         have HK4 := hide K4
         replace c4 := K4.cell c4 (by simp)
         replace c30 := K4.cell c30 (by simp)
         clear K4 P8
         refine Stp.go ?_))
    constructor
    go_wp2_with (
      first
      | (go_at_call 9
         refine (known9 _ (hF.kept ((unhide HW).trans (unhide HK4)))).mono ?_
         rintro e V9 ⟨rfl, K9⟩
         replace HK4 := hide ((unhide HK4).trans K9)
         have HB6 := hide ((unhide H6).kept (unhide HK4) (by simp))
         clear K9
         refine Stp.go ?_))
    constructor
    go_wp2_with (
      first
      | (refine wpStV _ (.bool true) (st4 true) (by rfl) (.tmp 6) (.tmp 36) (by rfl) (by rfl) q6 (by rfl) (by rfl) (unhide HB6) ?_
         intro V10 B10 K10
         have HB10 := hide B10
         have HK10 := hide K10
         clear B10 K10
         refine Stp.go ?_))
    constructor
    go_wp2_with fail
    exact leaves6 rfl [] _ ⟨List.nodup_nil, fun D hD => by cases hD⟩ (unhide HB10) ((((unhide HW).trans (unhide HK4))).fresh (unhide HK10) (fun i hi hl => by have := unhide HG6; simp at hi; omega))
  by_cases c1 : nd < 0
  · clear hbad
    have P8 := hide (fun W => rmay8 J W)
    rw [show J.may = true by simpa using c0] at P8
    clear c0
    refine callsIn_of_wp_marks Tryd.func6 rfl trivial ?_ rfl
    simp only [Tryd.ntmps6, List.size_toArray, List.length_cons, List.length_nil, Nat.reduceAdd, Nat.reduceSub, Array.replicate_succ, Array.replicate_zero, List.push_toArray, List.append_toArray, List.nil_append, List.cons_append]
    rw [wpIn_wide]
    go_wp2_with (
      first
      | (refine wpBoxV (by rfl) (.tmp 0) (by rfl) (Ar.jobC J) (by kernel_rfl) ?_
         intro V1 q3 e3 B3 K3
         have H3 := hide B3
         have HW := hide K3
         clear e3 B3 K3
         refine Stp.go ?_))
    constructor
    go_wp2_with (
      first
      | (refine wpBox1 (.int .i64 nd) (box3 nd) (by rfl) (.tmp 1) (by rfl) (by kernel_rfl) ?_
         intro V2 q4 e4 B4 K4
         have H4 := hide B4
         replace H3 := hide ((unhide H3).kept K4 (by simp))
         replace HW := hide ((unhide HW).trans K4)
         clear e4 B4 K4
         refine Stp.go ?_))
    constructor
    go_wp2_with (
      first
      | (refine wpAllocW [.bool false] alloc4 6 (by rfl) (by rfl) (by rfl) ?_
         intro V3 q6 e6 B6 K6
         have H6 := hide B6
         have HG6 : Hid (w.heap.size ≤ q6) := by rw [e6]; exact (unhide HW).size
         replace H3 := hide ((unhide H3).kept K6 (by simp))
         replace H4 := hide ((unhide H4).kept K6 (by simp))
         replace HW := hide ((unhide HW).trans K6)
         have c4 := fits_cell (unhide H4) 0 _ rfl
         have c30 := fits_cell (unhide H3) 0 (.int .i64 J.n) rfl
         clear e6 B6 K6
         refine Stp.go ?_))
    constructor
    go_wp2_with (
      first
      | (refine wpLoadA row23 (by rfl) (.tmp 3) (by rfl) q3 0 (by kernel_rfl) (Ar.jobC J) rfl (unhide H3).range ?_
         refine Stp.go ?_))
    constructor
    go_wp2_with (
      first
      | (go_at_call 8
         refine (unhide P8 _).mono ?_
         rintro e V4 ⟨rfl, K4⟩
         have HK4 := hide K4
         replace c4 := K4.cell c4 (by simp)
         replace c30 := K4.cell c30 (by simp)
         clear K4 P8
         refine Stp.go ?_))
    constructor
    go_wp2_with (
      first
      | (go_at_call 9
         refine (known9 _ (hF.kept ((unhide HW).trans (unhide HK4)))).mono ?_
         rintro e V9 ⟨rfl, K9⟩
         replace HK4 := hide ((unhide HK4).trans K9)
         have HB6 := hide ((unhide H6).kept (unhide HK4) (by simp))
         clear K9
         refine Stp.go ?_))
    constructor
    go_wp2_with (
      first
      | (refine wpStV _ (.bool true) (st4 true) (by rfl) (.tmp 6) (.tmp 36) (by rfl) (by rfl) q6 (by rfl) (by rfl) (unhide HB6) ?_
         intro V10 B10 K10
         have HB10 := hide B10
         have HK10 := hide K10
         clear B10 K10
         refine Stp.go ?_))
    constructor
    go_wp2_with fail
    exact leaves6 rfl [] _ ⟨List.nodup_nil, fun D hD => by cases hD⟩ (unhide HB10) ((((unhide HW).trans (unhide HK4))).fresh (unhide HK10) (fun i hi hl => by have := unhide HG6; simp at hi; omega))
  by_cases c2 : J.n ≤ nd
  · clear hbad
    have P8 := hide (fun W => rmay8 J W)
    rw [show J.may = true by simpa using c0] at P8
    clear c0
    refine callsIn_of_wp_marks Tryd.func6 rfl trivial ?_ rfl
    simp only [Tryd.ntmps6, List.size_toArray, List.length_cons, List.length_nil, Nat.reduceAdd, Nat.reduceSub, Array.replicate_succ, Array.replicate_zero, List.push_toArray, List.append_toArray, List.nil_append, List.cons_append]
    rw [wpIn_wide]
    go_wp2_with (
      first
      | (refine wpBoxV (by rfl) (.tmp 0) (by rfl) (Ar.jobC J) (by kernel_rfl) ?_
         intro V1 q3 e3 B3 K3
         have H3 := hide B3
         have HW := hide K3
         clear e3 B3 K3
         refine Stp.go ?_))
    constructor
    go_wp2_with (
      first
      | (refine wpBox1 (.int .i64 nd) (box3 nd) (by rfl) (.tmp 1) (by rfl) (by kernel_rfl) ?_
         intro V2 q4 e4 B4 K4
         have H4 := hide B4
         replace H3 := hide ((unhide H3).kept K4 (by simp))
         replace HW := hide ((unhide HW).trans K4)
         clear e4 B4 K4
         refine Stp.go ?_))
    constructor
    go_wp2_with (
      first
      | (refine wpAllocW [.bool false] alloc4 6 (by rfl) (by rfl) (by rfl) ?_
         intro V3 q6 e6 B6 K6
         have H6 := hide B6
         have HG6 : Hid (w.heap.size ≤ q6) := by rw [e6]; exact (unhide HW).size
         replace H3 := hide ((unhide H3).kept K6 (by simp))
         replace H4 := hide ((unhide H4).kept K6 (by simp))
         replace HW := hide ((unhide HW).trans K6)
         have c4 := fits_cell (unhide H4) 0 _ rfl
         have c30 := fits_cell (unhide H3) 0 (.int .i64 J.n) rfl
         clear e6 B6 K6
         refine Stp.go ?_))
    constructor
    go_wp2_with (
      first
      | (refine wpLoadA row23 (by rfl) (.tmp 3) (by rfl) q3 0 (by kernel_rfl) (Ar.jobC J) rfl (unhide H3).range ?_
         refine Stp.go ?_))
    constructor
    go_wp2_with (
      first
      | (go_at_call 8
         refine (unhide P8 _).mono ?_
         rintro e V4 ⟨rfl, K4⟩
         have HK4 := hide K4
         replace c4 := K4.cell c4 (by simp)
         replace c30 := K4.cell c30 (by simp)
         clear K4 P8
         refine Stp.go ?_))
    constructor
    go_wp2_with (
      first
      | (go_at_call 9
         refine (known9 _ (hF.kept ((unhide HW).trans (unhide HK4)))).mono ?_
         rintro e V9 ⟨rfl, K9⟩
         replace HK4 := hide ((unhide HK4).trans K9)
         have HB6 := hide ((unhide H6).kept (unhide HK4) (by simp))
         clear K9
         refine Stp.go ?_))
    constructor
    go_wp2_with (
      first
      | (refine wpStV _ (.bool true) (st4 true) (by rfl) (.tmp 6) (.tmp 36) (by rfl) (by rfl) q6 (by rfl) (by rfl) (unhide HB6) ?_
         intro V10 B10 K10
         have HB10 := hide B10
         have HK10 := hide K10
         clear B10 K10
         refine Stp.go ?_))
    constructor
    go_wp2_with fail
    exact leaves6 rfl [] _ ⟨List.nodup_nil, fun D hD => by cases hD⟩ (unhide HB10) ((((unhide HW).trans (unhide HK4))).fresh (unhide HK10) (fun i hi hl => by have := unhide HG6; simp at hi; omega))
  have c3 : 60 < (n : Int) := Decidable.byContradiction fun h9 => hbad ⟨by simpa using c0, by omega, by omega, by omega⟩
  clear hbad
  have P8 := hide (fun W => rmay8 J W)
  rw [show J.may = true by simpa using c0] at P8
  clear c0
  refine callsIn_of_wp_marks Tryd.func6 rfl trivial ?_ rfl
  simp only [Tryd.ntmps6, List.size_toArray, List.length_cons, List.length_nil, Nat.reduceAdd, Nat.reduceSub, Array.replicate_succ, Array.replicate_zero, List.push_toArray, List.append_toArray, List.nil_append, List.cons_append]
  rw [wpIn_wide]
  go_wp2_with (
    first
    | (refine wpBoxV (by rfl) (.tmp 0) (by rfl) (Ar.jobC J) (by kernel_rfl) ?_
       intro V1 q3 e3 B3 K3
       have H3 := hide B3
       have HW := hide K3
       clear e3 B3 K3
       refine Stp.go ?_))
  constructor
  go_wp2_with (
    first
    | (refine wpBox1 (.int .i64 nd) (box3 nd) (by rfl) (.tmp 1) (by rfl) (by kernel_rfl) ?_
       intro V2 q4 e4 B4 K4
       have H4 := hide B4
       replace H3 := hide ((unhide H3).kept K4 (by simp))
       replace HW := hide ((unhide HW).trans K4)
       clear e4 B4 K4
       refine Stp.go ?_))
  constructor
  go_wp2_with (
    first
    | (refine wpAllocW [.bool false] alloc4 6 (by rfl) (by rfl) (by rfl) ?_
       intro V3 q6 e6 B6 K6
       have H6 := hide B6
       have HG6 : Hid (w.heap.size ≤ q6) := by rw [e6]; exact (unhide HW).size
       replace H3 := hide ((unhide H3).kept K6 (by simp))
       replace H4 := hide ((unhide H4).kept K6 (by simp))
       replace HW := hide ((unhide HW).trans K6)
       have c4 := fits_cell (unhide H4) 0 _ rfl
       have c30 := fits_cell (unhide H3) 0 (.int .i64 J.n) rfl
       clear e6 B6 K6
       refine Stp.go ?_))
  constructor
  go_wp2_with (
    first
    | (refine wpLoadA row23 (by rfl) (.tmp 3) (by rfl) q3 0 (by kernel_rfl) (Ar.jobC J) rfl (unhide H3).range ?_
       refine Stp.go ?_))
  constructor
  go_wp2_with (
    first
    | (go_at_call 8
       refine (unhide P8 _).mono ?_
       rintro e V4 ⟨rfl, K4⟩
       have HK4 := hide K4
       replace c4 := K4.cell c4 (by simp)
       replace c30 := K4.cell c30 (by simp)
       clear K4 P8
       refine Stp.go ?_))
  constructor
  go_wp2_with (
    first
    | (go_at_call 9
       refine (known9 _ (hF.kept ((unhide HW).trans (unhide HK4)))).mono ?_
       rintro e V9 ⟨rfl, K9⟩
       replace HK4 := hide ((unhide HK4).trans K9)
       have HB6 := hide ((unhide H6).kept (unhide HK4) (by simp))
       clear K9
       refine Stp.go ?_))
  constructor
  go_wp2_with (
    first
    | (refine wpStV _ (.bool true) (st4 true) (by rfl) (.tmp 6) (.tmp 36) (by rfl) (by rfl) q6 (by rfl) (by rfl) (unhide HB6) ?_
       intro V10 B10 K10
       have HB10 := hide B10
       have HK10 := hide K10
       clear B10 K10
       refine Stp.go ?_))
  constructor
  go_wp2_with fail
  exact leaves6 rfl [] _ ⟨List.nodup_nil, fun D hD => by cases hD⟩ (unhide HB10) ((((unhide HW).trans (unhide HK4))).fresh (unhide HK10) (fun i hi hl => by have := unhide HG6; simp at hi; omega))
set_option maxHeartbeats 32000000 in
theorem reads_ok (J : Ar.Job) (nd : Int) (so : Option Addr) (n sc : Nat) (Z : List St) (w : World) (hF : Rc.First w) (hm : J.may = true) (hn : 0 ≤ nd ∧ nd < J.n) (hn6 : n ≤ 60) (hl : Z.length = n) (hr : RowS St.C 100 w so Z) (hz : ∀ s ∈ Z, s.Ok) : CallsIn Fence.wide 3 Tryd.prog 6 #[aggV (Ar.jobC J), .int .i64 nd, .slice so n sc] w fun e w' => e = .returned (.bool true) ∧ Kept [] w w' := by
  have hFw := wideF
  have P8 := hide (fun W => rmay8 J W)
  rw [hm] at P8
  have HM := hide hm
  have HN := hide hn
  have HL : Hid (Z.length = n) := hl
  have HR := hide hr
  have HZ := hide hz
  have d1 : ¬ nd < 0 := by omega
  have d2 : ¬ J.n ≤ nd := by omega
  have d3 : ¬ 60 < (n : Int) := by omega
  clear hm hn hl hr hz
  refine callsIn_of_wp_marks Tryd.func6 rfl trivial ?_ rfl
  simp only [Tryd.ntmps6, List.size_toArray, List.length_cons, List.length_nil, Nat.reduceAdd, Nat.reduceSub, Array.replicate_succ, Array.replicate_zero, List.push_toArray, List.append_toArray, List.nil_append, List.cons_append]
  rw [wpIn_wide]
  go_wp2_with (
    first
    | (refine wpBoxV (by rfl) (.tmp 0) (by rfl) (Ar.jobC J) (by kernel_rfl) ?_
       intro V1 q3 e3 B3 K3
       have H3 := hide B3
       have HW := hide K3
       clear e3 B3 K3
       refine Stp.go ?_))
  constructor
  go_wp2_with (
    first
    | (refine wpBox1 (.int .i64 nd) (box3 nd) (by rfl) (.tmp 1) (by rfl) (by kernel_rfl) ?_
       intro V2 q4 e4 B4 K4
       have H4 := hide B4
       replace H3 := hide ((unhide H3).kept K4 (by simp))
       replace HW := hide ((unhide HW).trans K4)
       clear e4 B4 K4
       refine Stp.go ?_))
  constructor
  go_wp2_with (
    first
    | (refine wpAllocW [.bool false] alloc4 6 (by rfl) (by rfl) (by rfl) ?_
       intro V3 q6 e6 B6 K6
       have H6 := hide B6
       have HG6 : Hid (w.heap.size ≤ q6) := by rw [e6]; exact (unhide HW).size
       replace H3 := hide ((unhide H3).kept K6 (by simp))
       replace H4 := hide ((unhide H4).kept K6 (by simp))
       replace HW := hide ((unhide HW).trans K6)
       have c4 := fits_cell (unhide H4) 0 _ rfl
       have c30 := fits_cell (unhide H3) 0 (.int .i64 J.n) rfl
       clear e6 B6 K6
       refine Stp.go ?_))
  constructor
  go_wp2_with (
    first
    | (refine wpLoadA row23 (by rfl) (.tmp 3) (by rfl) q3 0 (by kernel_rfl) (Ar.jobC J) rfl (unhide H3).range ?_
       refine Stp.go ?_))
  constructor
  go_wp2_with (
    first
    | (go_at_call 8
       refine (unhide P8 _).mono ?_
       rintro e V4 ⟨rfl, K4⟩
       have HK4 := hide K4
       replace c4 := K4.cell c4 (by simp)
       replace c30 := K4.cell c30 (by simp)
       have HF : Hid (Rc.First V3) := hF.kept (unhide HW)
       clear K4 P8
       refine Stp.go ?_))
  constructor
  go_wp2_with (
    first
    | (refine wpLoadA row23 (by rfl) (.tmp 3) (by rfl) q3 0 (by kernel_rfl) (Ar.jobC J) rfl ((unhide H3).kept (unhide HK4) (by simp)).range ?_
       refine Stp.go ?_))
  constructor
  go_wp2_with (
    first
    | (go_at_call 10
       refine (kt_new (unhide HM) (unhide HK4)).mono ?_
       rintro e V5 ⟨b, g, rfl, h5⟩
       have HD := hide h5
       have c4' := fits_cell ((unhide H4).kept h5.k (by simp)) 0 _ rfl
       clear h5 HK4 c4 c30 d1 d2 d3
       refine Stp.go ?_))
  constructor
  go_wp2_with (
    first
    | (refine wpLoadA row23 (by rfl) (.tmp 3) (by rfl) q3 0 (by kernel_rfl) (Ar.jobC J) rfl ((unhide H3).kept (unhide HD).k (by simp)).range ?_
       refine Stp.go ?_))
  constructor
  go_wp2_with (
    first
    | (go_at_call 11
       refine (kt_open1 (unhide HM) (unhide HN) (unhide HF) (unhide HD)).mono ?_
       rintro e V6 ⟨l, rfl, h6⟩
       have HX : Hid (∃ D L, Ka V3 V6 l b g D L ∧ Rq J nd 0 D L) := ⟨_, _, h6, rq0 (unhide HM) (unhide HN)⟩
       clear h6 HD c4'
       refine Stp.go ?_))
  constructor
  go_upto_region 7 with fail
  go_cut [10] from 18 to 47 (fun x10 wc => x10 = .int .i64 0 ∧ Hid (∃ D L, Ka V3 wc l b g D L ∧ Rq J nd 0 D L))
  case first =>
    go_wp2_with fail
    go_meet
    case rel => exact ⟨rfl, HX⟩
  case rest =>
    clear HX
    obtain ⟨rfl, HX⟩ := hcut
    go_wp2_with fail
    refine wp_loopK (fun a' W => ∃ (k : Nat) (Ds : List Nat) (X : Xs), a' = { tmps := List.toArray (aggV (Ar.jobC J) :: .int .i64 nd :: .slice so n sc :: P0 q3 :: P0 q4 :: undef :: P0 q6 :: P0 b :: P0 l :: .int .i64 0 :: .int .i64 (k : Nat) :: X.x11 :: X.x12 :: X.x13 :: X.x14 :: X.x15 :: X.x16 :: X.x17 :: u18 :: u19 :: u20 :: u21 :: u22 :: u23 :: u24 :: u25 :: u26 :: u27 :: u28 :: u29 :: u30 :: u31 :: u32 :: u33 :: u34 :: u35 :: u36 :: u37 :: u38 :: u39 :: u40 :: u41 :: u42 :: u43 :: u44 :: u45 :: u46 :: u47 :: X.x48 :: X.x49 :: X.x50 :: X.x51 :: X.x52 :: X.x53 :: X.x54 :: X.x55 :: X.x56 :: X.x57 :: X.x58 :: X.x59 :: X.x60 :: X.x61 :: X.x62 :: X.x63 :: X.x64 :: X.x65 :: X.x66 :: X.x67 :: X.x68 :: X.x69 :: X.x70 :: X.x71 :: X.x72 :: X.x73 :: X.x74 :: X.x75 :: X.x76 :: X.x77 :: X.x78 :: X.x79 :: X.x80 :: X.x81 :: X.x82 :: X.x83 :: X.x84 :: X.x85 :: X.x86 :: X.x87 :: X.x88 :: X.x89 :: X.x90 :: X.x91 :: X.x92 :: X.x93 :: X.x94 :: X.x95 :: X.x96 :: X.x97 :: X.x98 :: X.x99 :: X.x100 :: X.x101 :: X.x102 :: X.x103 :: X.x104 :: X.x105 :: X.x106 :: X.x107 :: X.x108 :: X.x109 :: X.x110 :: X.x111 :: X.x112 :: X.x113 :: X.x114 :: X.x115 :: X.x116 :: X.x117 :: X.x118 :: X.x119 :: X.x120 :: X.x121 :: X.x122 :: X.x123 :: X.x124 :: X.x125 :: X.x126 :: X.x127 :: X.x128 :: X.x129 :: X.x130 :: X.x131 :: X.x132 :: X.x133 :: X.x134 :: X.x135 :: X.x136 :: X.x137 :: X.x138 :: X.x139 :: X.x140 :: X.x141 :: X.x142 :: X.x143 :: X.x144 :: X.x145 :: X.x146 :: X.x147 :: X.x148 :: X.x149 :: X.x150 :: X.x151 :: X.x152 :: X.x153 :: X.x154 :: X.x155 :: X.x156 :: X.x157 :: X.x158 :: X.x159 :: X.x160 :: X.x161 :: X.x162 :: X.x163 :: X.x164 :: X.x165 :: X.x166 :: X.x167 :: X.x168 :: X.x169 :: undef :: []), defers := marks Ds } ∧ k ≤ n ∧ Hid (∃ D L, Ka V3 W l b g D L ∧ Rq J nd k D L) ∧ Hid (Mks w W Ds)) (fun a' _ => n - (intOf (a'.tmps[10]?.getD undef)).toNat) ⟨0, [], ⟨_, _, _, _, _, _, _, _, _, _, _, _, _, _, _, _, _, _, _, _, _, _, _, _, _, _, _, _, _, _, _, _, _, _, _, _, _, _, _, _, _, _, _, _, _, _, _, _, _, _, _, _, _, _, _, _, _, _, _, _, _, _, _, _, _, _, _, _, _, _, _, _, _, _, _, _, _, _, _, _, _, _, _, _, _, _, _, _, _, _, _, _, _, _, _, _, _, _, _, _, _, _, _, _, _, _, _, _, _, _, _, _, _, _, _, _, _, _, _, _, _, _, _, _, _, _, _, _, _⟩, rfl, by omega, HX, ⟨List.nodup_nil, fun D hD => by cases hD⟩⟩ ?_
    clear HX
    rintro a' wr K9 ⟨k, Ds, X, rfl, hkn, HX, HMK⟩ hKK
    have HKK := hide hKK
    clear hKK
    obtain ⟨D, L, hK0, hQ0⟩ := unhide HX
    have HK := hide hK0
    have HQ := hide hQ0
    clear HX hK0 hQ0
    by_cases hlt : (k : Int) < (n : Int)
    · have hkn2 : k < n := by omega
      obtain ⟨x, hx⟩ : ∃ x, Z[k]? = some x := ⟨_, List.getElem?_eq_getElem (by rw [unhide HL]; exact hkn2)⟩
      obtain ⟨fb, fof, hfo, hrg⟩ := st_at (RowS.kept (unhide HR) (unhide HW)) hx
      have HXO : Hid x.Ok := unhide HZ x (List.mem_of_getElem? hx)
      have HXW := hide hrg
      have HXL := hide (st_len (unhide HXO))
      subst hfo
      clear hx hrg
      go_wp2_with (
        first
        | (refine wpIdx64 (by rfl) (.tmp 54) (.tmp 55) (by rfl) fb fof n sc k hkn2 (by kernel_rfl) (by kernel_rfl) ?_
           refine Stp.go ?_))
      constructor
      go_wp2_with (
        first
        | (refine wpLoadA row66 (by rfl) (.tmp 56) (by rfl) fb (fof + k * 100) (by kernel_rfl) x.C (unhide HXL) (range_kept (unhide HXW) (unhide HK).k) ?_
           refine Stp.go ?_))
      constructor
      go_wp2_with (
        first
        | (refine wpNew row66 zst.C (st_len ⟨Rc.zs_byts 96, by simp [zst], by simp [zst], by simp [zst]⟩) zero66 11 (by rfl) (by rfl) (by rfl) (.tmp 57) (by rfl) (by rfl) (by rfl) x.C (unhide HXL) (st_one x) (by kernel_rfl) (by kernel_rfl) ?_
           intro V11 q11 e11 B11 K11
           have H11 := hide B11
           replace HK := hide ((unhide HK).step K11)
           replace HMK := hide ((unhide HMK).kept0 K11)
           have ck := fits_cell B11 0 (.int .i64 x.kd) rfl
           clear e11 B11 K11
           refine Stp.go ?_))
      constructor
      go_upto_block 2 with fail
      go_cut [10] from 48 to 169 (fun x10 wc => x10 = .int .i64 (k : Nat) ∧ Hid (∃ D L, Ka V3 wc l b g D L ∧ Rq J nd (k + 1) D L) ∧ Hid (Mks w wc Ds))
      case first =>
        as_aux_lemma =>
          by_cases h1 : x.kd = 1
          · have e1 : (x.kd == 1) = true := by simpa using h1
            have f1 : decide (x.kd = 1) = true := by simpa using h1
            clear h1
            have cp := fits_cell (unhide H11) 1 (.int .i64 x.pg) rfl
            have HVR : Hid (V11.rangeAt q11 2 (verC x.ps x.bd)) := st_ver (unhide H11) (unhide HXO)
            have HVL : Hid ((verC x.ps x.bd).length = 97) := by show (verC x.ps x.bd).length = 97; simp [verC, u8s_len, (unhide HXO).bd.len]
            go_wp2_with (
              first
              | (refine wpLoadA row28 (by rfl) (.tmp 65) (by rfl) q11 2 (by kernel_rfl) (verC x.ps x.bd) (unhide HVL) (unhide HVR) ?_
                 refine Stp.go ?_))
            constructor
            go_wp2_with (
              first
              | (go_at_call 16
                 refine (rm_app x.pg ⟨x.ps, x.bd⟩ (unhide HXO).bd (unhide HK) (unhide HQ) (unhide HMK)).mono ?_
                 rintro e V12 ⟨rn, rc, L9, rfl, h12, q12, m12⟩
                 have HX : Hid (∃ D L, Ka V3 V12 l b g D L ∧ Rq J nd (k + 1) D L) := ⟨_, _, h12, q12⟩
                 replace HMK := hide m12
                 clear h12 q12 m12
                 refine Stp.go ?_))
            constructor
            go_wp2_with fail
            go_meet
            case rel => exact ⟨rfl, HX, HMK⟩
          · have e1 : (x.kd == 1) = false := by simpa using h1
            have f1 : decide (x.kd = 1) = false := by simpa using h1
            clear h1
            by_cases h2 : x.kd = 2
            · have e2 : (x.kd == 2) = true := by simpa using h2
              have f2 : decide (x.kd = 2) = true := by simpa using h2
              clear h2
              go_wp2_with (
                first
                | (go_at_call 13
                   refine (rm_flush (unhide HK) (unhide HQ) (unhide HMK)).mono ?_
                   rintro e V12 ⟨rc, D9, L9, rfl, h12, q12, m12⟩
                   have HX : Hid (∃ D L, Ka V3 V12 l b g D L ∧ Rq J nd (k + 1) D L) := ⟨_, _, h12, q12⟩
                   replace HMK := hide m12
                   clear h12 q12 m12
                   refine Stp.go ?_))
              constructor
              go_wp2_with fail
              go_meet
              case rel => exact ⟨rfl, HX, HMK⟩
            · have e2 : (x.kd == 2) = false := by simpa using h2
              have f2 : decide (x.kd = 2) = false := by simpa using h2
              clear h2
              by_cases h3 : x.kd = 3
              · have e3 : (x.kd == 3) = true := by simpa using h3
                have f3 : decide (x.kd = 3) = true := by simpa using h3
                clear h3
                have cn := st_n (unhide H11) (unhide HXO)
                go_wp2_with (
                  first
                  | (go_at_call 14
                     refine (rm_cut (unhide HF) x.n (unhide HK) (unhide HQ) (unhide HMK)).mono ?_
                     rintro e V12 ⟨rc, D9, L9, rfl, h12, q12, m12⟩
                     have HX : Hid (∃ D L, Ka V3 V12 l b g D L ∧ Rq J nd (k + 1) D L) := ⟨_, _, h12, q12⟩
                     replace HMK := hide m12
                     clear h12 q12 m12
                     refine Stp.go ?_))
                constructor
                go_wp2_with fail
                go_meet
                case rel => exact ⟨rfl, HX, HMK⟩
              · have e3 : (x.kd == 3) = false := by simpa using h3
                have f3 : decide (x.kd = 3) = false := by simpa using h3
                clear h3
                go_wp2_with fail
                go_meet
                case rel => exact ⟨rfl, ⟨D, L, unhide HK, (unhide HQ).more (by omega)⟩, HMK⟩
      case rest =>
        as_aux_lemma =>
          clear HK HQ HMK H11 ck
          obtain ⟨rfl, HX, HMK⟩ := hcut
          obtain ⟨D, L, hK0, hQ0⟩ := unhide HX
          have HK := hide hK0
          have HQ := hide hQ0
          have c4 := fits_cell ((unhide H4).kept hK0.k (by simp)) 0 _ rfl
          clear HX hK0 hQ0
          go_wp2_with (
            first
            | (refine wpLoadA row23 (by rfl) (.tmp 3) (by rfl) q3 0 (by kernel_rfl) (Ar.jobC J) rfl ((unhide H3).kept (unhide HK).k (by simp)).range ?_
               refine Stp.go ?_))
          constructor
          go_wp2_with (
            first
            | (go_at_call 20
               refine (rq_read (unhide HF) (unhide HK) (unhide HQ)).mono ?_
               rintro e V13 ⟨ro, rc, rfl, hO, hk⟩
               have HO := hide hO
               replace HK := hide ((unhide HK).step hk)
               replace HMK := hide ((unhide HMK).kept0 hk)
               clear hO hk c4
               refine Stp.go ?_))
          constructor
          go_wp2_with (
            first
            | (refine wpAllocW [.int .i64 0] alloc2 12 (by rfl) (by rfl) (by rfl) ?_
               intro V14 q12 e12 B12 K12
               have H12 := hide B12
               have HG12 : Hid (V3.heap.size ≤ q12) := by rw [e12]; exact (unhide HK).k.size
               replace HK := hide ((unhide HK).step K12)
               replace HMK := hide ((unhide HMK).kept0 K12)
               replace HO := hide (OwnO.kept (unhide HO) K12 (by simp))
               clear e12 B12 K12
               refine Stp.go ?_))
          constructor
          go_wp2_with (
            first
            | (refine wpAllocW [.slice none 0 0] alloc37 13 (by rfl) (by rfl) (by rfl) ?_
               intro V15 q13 e13 B13 K13
               have H13 := hide B13
               have HG13 : Hid (V3.heap.size ≤ q13) := by rw [e13]; exact (unhide HK).k.size
               replace HK := hide ((unhide HK).step K13)
               replace HMK := hide ((unhide HMK).kept0 K13)
               replace HO := hide (OwnO.kept (unhide HO) K13 (by simp))
               replace H12 := hide ((unhide H12).kept K13 (by simp))
               clear e13 B13 K13
               refine Stp.go ?_))
          constructor
          go_wp2_with (
            first
            | (refine wpStV _ (.int .i64 L.st) (st2 L.st) (by rfl) (.tmp 12) (.tmp 83) (by rfl) (by rfl) q12 (by rfl) (by rfl) (unhide H12) ?_
               intro V16 B16 K16
               replace HK := hide ((unhide HK).wr K16 (unhide H12) (by decide) (unhide HG12))
               replace HMK := hide ((unhide HMK).wr K16 (unhide H12))
               replace HO := hide (OwnO.wr (unhide HO) K16 (unhide H12) (by decide))
               replace H13 := hide (Blk.wr (unhide H13) K16 (unhide H12) (by decide))
               replace H12 := hide B16
               clear B16 K16
               refine Stp.go ?_))
          constructor
          go_wp2_with (
            first
            | (refine wpStV _ (.slice ro L.fl rc) (st37v ro L.fl rc) (by rfl) (.tmp 13) (.tmp 84) (by rfl) (by rfl) q13 (by rfl) (by rfl) (unhide H13) ?_
               intro V17 B17 K17
               replace HK := hide ((unhide HK).wr K17 (unhide H13) (by decide) (unhide HG13))
               replace HMK := hide ((unhide HMK).wr K17 (unhide H13))
               replace HO := hide (OwnO.wr (unhide HO) K17 (unhide H13) (by decide))
               replace H12 := hide (Blk.wr (unhide H12) K17 (unhide H13) (by decide))
               replace H13 := hide B17
               clear B17 K17
               refine Stp.go ?_))
          constructor
          obtain ⟨st, hst⟩ : ∃ st, L.st = st := ⟨_, rfl⟩
          obtain ⟨fl, hfl⟩ : ∃ fl, L.fl = fl := ⟨_, rfl⟩
          obtain ⟨N, hN⟩ : ∃ N, L.R.length = N := ⟨_, rfl⟩
          have hbs : 1 ≤ st ∧ fl ≤ N ∧ (N : Int) ≤ 64 ∧ st + (N : Int) ≤ 62 := by
            have e1 := (unhide HQ).hol.st
            have e2 := (unhide HQ).hol.fl
            have e3 := (unhide HQ).hol.many
            have e4 := (unhide HQ).nx
            have e5 := (unhide HM)
            simp only [Ar.Job.may, decide_eq_true_eq] at e5
            rw [(unhide HQ).J] at e3
            omega
          have hJl : J.l ≤ 64 ∧ 2 ≤ J.l := by
            have e5 := (unhide HM)
            simp only [Ar.Job.may, decide_eq_true_eq] at e5
            omega
          have hrm : L.room = J.l - (N : Int) := by
            unfold Lo.room
            rw [hst, hN, if_neg (by omega), (unhide HQ).J]
          have HRM := hide hrm
          have HST := hide hst
          have HFL := hide hfl
          have HNN := hide hN
          obtain ⟨rv, hlt9, _⟩ := (unhide HK).lt
          have HLT := hide hlt9
          rw [hst] at H12
          rw [hfl] at H13 HO
          rw [hst, hfl]
          clear hlt9 hrm hst hfl hN
          go_upto_region 19 with fail
          refine wp_region_any mixed (wpAny_tq 38 rfl (by kernel_rfl) [some (.int .i64 0), some (.bool false), some (.bool false), some (.int .i64 st), some (P0 l), some (.int .i64 st), some (.bool false), some (.bool false), some (.bool false), some (.int .i64 st), some (.slice ro fl rc), some (.int .i64 fl), some (.int .i64 (st + (fl : Int))), some (.int .i64 (st + (fl : Int) - 1)), some (P0 l), some (.int .i64 (st + (fl : Int) - 1)), some (.bool false), some (.bool false), some (.bool false), some (P0 l), some (.int .i64 (st + (fl : Int) - 1)), some (P0 l), some (.int .i64 (st + (N : Int))), some (.bool false), some (.bool false), some (.bool false), some (P0 l), some (.int .i64 (J.l - (N : Int))), some (.pointer (some ⟨q3, 3, none⟩)), some (.int .i64 J.l), some (P0 l), some (.int .i64 (st + (N : Int))), some (P0 l), some (.int .i64 st), some (.int .i64 (N : Int)), some (.int .i64 (J.l - (N : Int))), some (.bool false), some (.bool false)] rfl (by kernel_rfl) (by kernel_rfl) ?_ ?_)
          · intro i o' hi hsk ho a' w2 hout hin hk2
            replace hk2 : Kept [] V17 w2 := ⟨hk2.os, hk2.tape, hk2.output, hk2.size, hk2.block⟩
            match i, ho, hsk with
            | 0, ho, hsk =>
              obtain rfl := Option.some.inj ho
              exact wp_move (.tmp 14) rfl _ ((hout 14 (by kernel_rfl)).trans rfl) ⟨_, rfl, tq_is _ _ _ _ rfl, Kept.refl _ _, fun _ _ _ _ _ => trivial⟩
            | 1, ho, hsk =>
              obtain rfl := Option.some.inj ho
              have e0 : a'.eval (.tmp 86) = .int .i64 0 := is_tq (hin 0 86 (by kernel_rfl) (by kernel_rfl)) rfl
              exact o_neqc34 (.tmp 86) 0 rfl _ true rfl e0 ⟨_, rfl, tq_is _ _ _ _ rfl, Kept.refl _ _, fun _ _ _ _ _ => trivial⟩
            | 2, ho, hsk =>
              obtain rfl := Option.some.inj ho
              have e0 : a'.eval (.tmp 87) = .bool false := is_tq (hin 1 87 (by kernel_rfl) (by kernel_rfl)) rfl
              exact wp_move (.tmp 87) rfl _ e0 ⟨_, rfl, tq_is _ _ _ _ rfl, Kept.refl _ _, fun _ _ _ _ _ => trivial⟩
            | 3, ho, hsk =>
              obtain rfl := Option.some.inj ho
              exact q_load2 (.tmp 12) rfl _ _ ((hout 12 (by kernel_rfl)).trans rfl) (fits_cell ((unhide H12).kept hk2 (by simp)) 0 _ rfl) ⟨_, rfl, tq_is _ _ _ _ rfl, Kept.refl _ _, fun _ _ _ _ _ => trivial⟩
            | 4, ho, hsk =>
              obtain rfl := Option.some.inj ho
              exact wp_move (.tmp 8) rfl _ ((hout 8 (by kernel_rfl)).trans rfl) ⟨_, rfl, tq_is _ _ _ _ rfl, Kept.refl _ _, fun _ _ _ _ _ => trivial⟩
            | 5, ho, hsk =>
              obtain rfl := Option.some.inj ho
              have e0 : a'.eval (.tmp 90) = P0 l := is_tq (hin 4 90 (by kernel_rfl) (by kernel_rfl)) rfl
              refine wp_callF 21 _ _ rfl #[P0 l] (by simp [e0]) (cg21 _ _) ((start21 l b g rv D L w2 ((unhide HLT).kept0 hk2)).mono ?_)
              rintro e w3 ⟨rfl, hk3⟩
              subst hk3
              exact ⟨_, rfl, _, rfl, tq_is _ _ _ _ (by rw [unhide HST]; rfl), Kept.refl _ _, fun _ _ _ _ _ => trivial⟩
            | 6, ho, hsk =>
              obtain rfl := Option.some.inj ho
              have e0 : a'.eval (.tmp 89) = .int .i64 st := is_tq (hin 3 89 (by kernel_rfl) (by kernel_rfl)) rfl
              have e1 : a'.eval (.tmp 91) = .int .i64 st := is_tq (hin 5 91 (by kernel_rfl) (by kernel_rfl)) rfl
              exact o_neqt2 (.tmp 89) (.tmp 91) rfl _ _ true (by simp) e0 e1 ⟨_, rfl, tq_is _ _ _ _ rfl, Kept.refl _ _, fun _ _ _ _ _ => trivial⟩
            | 7, ho, hsk =>
              obtain rfl := Option.some.inj ho
              have e0 : a'.eval (.tmp 88) = .bool false := is_tq (hin 2 88 (by kernel_rfl) (by kernel_rfl)) rfl
              have e1 : a'.eval (.tmp 92) = .bool false := is_tq (hin 6 92 (by kernel_rfl) (by kernel_rfl)) rfl
              exact o_pickOr0 (.tmp 88) (.tmp 92) rfl _ e0 e1 ⟨_, rfl, tq_is _ _ _ _ rfl, Kept.refl _ _, fun _ _ _ _ _ => trivial⟩
            | 8, ho, hsk =>
              obtain rfl := Option.some.inj ho
              have e0 : a'.eval (.tmp 93) = .bool false := is_tq (hin 7 93 (by kernel_rfl) (by kernel_rfl)) rfl
              exact wp_move (.tmp 93) rfl _ e0 ⟨_, rfl, tq_is _ _ _ _ rfl, Kept.refl _ _, fun _ _ _ _ _ => trivial⟩
            | 9, ho, hsk =>
              obtain rfl := Option.some.inj ho
              exact q_load2 (.tmp 12) rfl _ _ ((hout 12 (by kernel_rfl)).trans rfl) (fits_cell ((unhide H12).kept hk2 (by simp)) 0 _ rfl) ⟨_, rfl, tq_is _ _ _ _ rfl, Kept.refl _ _, fun _ _ _ _ _ => trivial⟩
            | 10, ho, hsk =>
              obtain rfl := Option.some.inj ho
              exact q_load37 (.tmp 13) rfl _ _ ((hout 13 (by kernel_rfl)).trans rfl) (fits_cell ((unhide H13).kept hk2 (by simp)) 0 _ rfl) ⟨_, rfl, tq_is _ _ _ _ rfl, Kept.refl _ _, fun _ _ _ _ _ => trivial⟩
            | 11, ho, hsk =>
              obtain rfl := Option.some.inj ho
              have e0 : a'.eval (.tmp 96) = .slice ro fl rc := is_tq (hin 10 96 (by kernel_rfl) (by kernel_rfl)) rfl
              exact o_len37 96 rfl _ _ _ e0 ⟨_, rfl, tq_is _ _ _ _ rfl, Kept.refl _ _, fun _ _ _ _ _ => trivial⟩
            | 12, ho, hsk =>
              obtain rfl := Option.some.inj ho
              have e0 : a'.eval (.tmp 95) = .int .i64 st := is_tq (hin 9 95 (by kernel_rfl) (by kernel_rfl)) rfl
              have e1 : a'.eval (.tmp 97) = .int .i64 fl := is_tq (hin 11 97 (by kernel_rfl) (by kernel_rfl)) rfl
              exact o_add2 (.tmp 95) (.tmp 97) rfl _ _ _ rfl (by omega) e0 e1 ⟨_, rfl, tq_is _ _ _ _ rfl, Kept.refl _ _, fun _ _ _ _ _ => trivial⟩
            | 13, ho, hsk =>
              obtain rfl := Option.some.inj ho
              have e0 : a'.eval (.tmp 98) = .int .i64 (st + (fl : Int)) := is_tq (hin 12 98 (by kernel_rfl) (by kernel_rfl)) rfl
              exact o_subc2 (.tmp 98) 1 rfl _ _ rfl (by omega) e0 ⟨_, rfl, tq_is _ _ _ _ rfl, Kept.refl _ _, fun _ _ _ _ _ => trivial⟩
            | 14, ho, hsk =>
              obtain rfl := Option.some.inj ho
              exact wp_move (.tmp 8) rfl _ ((hout 8 (by kernel_rfl)).trans rfl) ⟨_, rfl, tq_is _ _ _ _ rfl, Kept.refl _ _, fun _ _ _ _ _ => trivial⟩
            | 15, ho, hsk =>
              obtain rfl := Option.some.inj ho
              have e0 : a'.eval (.tmp 100) = P0 l := is_tq (hin 14 100 (by kernel_rfl) (by kernel_rfl)) rfl
              refine wp_callF 15 _ _ rfl #[P0 l] (by simp [e0]) (cg15 _ _) ((flushed15 l b g rv D L w2 ((unhide HLT).kept0 hk2)).mono ?_)
              rintro e w3 ⟨rfl, hk3⟩
              exact ⟨_, rfl, _, rfl, tq_is _ _ _ _ (by rw [unhide HST, unhide HFL]; rfl), hk3, fun _ _ _ _ _ => trivial⟩
            | 16, ho, hsk =>
              obtain rfl := Option.some.inj ho
              have e0 : a'.eval (.tmp 99) = .int .i64 (st + (fl : Int) - 1) := is_tq (hin 13 99 (by kernel_rfl) (by kernel_rfl)) rfl
              have e1 : a'.eval (.tmp 101) = .int .i64 (st + (fl : Int) - 1) := is_tq (hin 15 101 (by kernel_rfl) (by kernel_rfl)) rfl
              exact o_neqt2 (.tmp 99) (.tmp 101) rfl _ _ true (by simp) e0 e1 ⟨_, rfl, tq_is _ _ _ _ rfl, Kept.refl _ _, fun _ _ _ _ _ => trivial⟩
            | 17, ho, hsk =>
              obtain rfl := Option.some.inj ho
              have e0 : a'.eval (.tmp 94) = .bool false := is_tq (hin 8 94 (by kernel_rfl) (by kernel_rfl)) rfl
              have e1 : a'.eval (.tmp 102) = .bool false := is_tq (hin 16 102 (by kernel_rfl) (by kernel_rfl)) rfl
              exact o_pickOr0 (.tmp 94) (.tmp 102) rfl _ e0 e1 ⟨_, rfl, tq_is _ _ _ _ rfl, Kept.refl _ _, fun _ _ _ _ _ => trivial⟩
            | 18, ho, hsk =>
              obtain rfl := Option.some.inj ho
              have e0 : a'.eval (.tmp 103) = .bool false := is_tq (hin 17 103 (by kernel_rfl) (by kernel_rfl)) rfl
              exact wp_move (.tmp 103) rfl _ e0 ⟨_, rfl, tq_is _ _ _ _ rfl, Kept.refl _ _, fun _ _ _ _ _ => trivial⟩
            | 19, ho, hsk =>
              obtain rfl := Option.some.inj ho
              exact wp_move (.tmp 8) rfl _ ((hout 8 (by kernel_rfl)).trans rfl) ⟨_, rfl, tq_is _ _ _ _ rfl, Kept.refl _ _, fun _ _ _ _ _ => trivial⟩
            | 20, ho, hsk =>
              obtain rfl := Option.some.inj ho
              have e0 : a'.eval (.tmp 105) = P0 l := is_tq (hin 19 105 (by kernel_rfl) (by kernel_rfl)) rfl
              refine wp_callF 15 _ _ rfl #[P0 l] (by simp [e0]) (cg15 _ _) ((flushed15 l b g rv D L w2 ((unhide HLT).kept0 hk2)).mono ?_)
              rintro e w3 ⟨rfl, hk3⟩
              exact ⟨_, rfl, _, rfl, tq_is _ _ _ _ (by rw [unhide HST, unhide HFL]; rfl), hk3, fun _ _ _ _ _ => trivial⟩
            | 21, ho, hsk =>
              obtain rfl := Option.some.inj ho
              exact wp_move (.tmp 8) rfl _ ((hout 8 (by kernel_rfl)).trans rfl) ⟨_, rfl, tq_is _ _ _ _ rfl, Kept.refl _ _, fun _ _ _ _ _ => trivial⟩
            | 22, ho, hsk =>
              obtain rfl := Option.some.inj ho
              have e0 : a'.eval (.tmp 107) = P0 l := is_tq (hin 21 107 (by kernel_rfl) (by kernel_rfl)) rfl
              refine wp_callF 23 _ _ rfl #[P0 l] (by simp [e0]) (cg23 _ _) ((next23 l b g rv D L w2 ((unhide HLT).kept0 hk2)).mono ?_)
              rintro e w3 ⟨rfl, hk3⟩
              exact ⟨_, rfl, _, rfl, tq_is _ _ _ _ (by rw [unhide HST, unhide HNN]; rfl), hk3, fun _ _ _ _ _ => trivial⟩
            | 23, ho, hsk =>
              obtain rfl := Option.some.inj ho
              have e0 : a'.eval (.tmp 106) = .int .i64 (st + (fl : Int) - 1) := is_tq (hin 20 106 (by kernel_rfl) (by kernel_rfl)) rfl
              have e1 : a'.eval (.tmp 108) = .int .i64 (st + (N : Int)) := is_tq (hin 22 108 (by kernel_rfl) (by kernel_rfl)) rfl
              exact o_geqt2 (.tmp 106) (.tmp 108) rfl _ _ false (decide_eq_false (by omega)) e0 e1 ⟨_, rfl, tq_is _ _ _ _ rfl, Kept.refl _ _, fun _ _ _ _ _ => trivial⟩
            | 24, ho, hsk =>
              obtain rfl := Option.some.inj ho
              have e0 : a'.eval (.tmp 104) = .bool false := is_tq (hin 18 104 (by kernel_rfl) (by kernel_rfl)) rfl
              have e1 : a'.eval (.tmp 109) = .bool false := is_tq (hin 23 109 (by kernel_rfl) (by kernel_rfl)) rfl
              exact o_pickOr0 (.tmp 104) (.tmp 109) rfl _ e0 e1 ⟨_, rfl, tq_is _ _ _ _ rfl, Kept.refl _ _, fun _ _ _ _ _ => trivial⟩
            | 25, ho, hsk =>
              obtain rfl := Option.some.inj ho
              have e0 : a'.eval (.tmp 110) = .bool false := is_tq (hin 24 110 (by kernel_rfl) (by kernel_rfl)) rfl
              exact wp_move (.tmp 110) rfl _ e0 ⟨_, rfl, tq_is _ _ _ _ rfl, Kept.refl _ _, fun _ _ _ _ _ => trivial⟩
            | 26, ho, hsk =>
              obtain rfl := Option.some.inj ho
              exact wp_move (.tmp 8) rfl _ ((hout 8 (by kernel_rfl)).trans rfl) ⟨_, rfl, tq_is _ _ _ _ rfl, Kept.refl _ _, fun _ _ _ _ _ => trivial⟩
            | 27, ho, hsk =>
              obtain rfl := Option.some.inj ho
              have e0 : a'.eval (.tmp 112) = P0 l := is_tq (hin 26 112 (by kernel_rfl) (by kernel_rfl)) rfl
              refine wp_callF 12 _ _ rfl #[P0 l] (by simp [e0]) (cg12 _ _) ((room12 l b g rv D L w2 ((unhide HLT).kept0 hk2)).mono ?_)
              rintro e w3 ⟨rfl, hk3⟩
              exact ⟨_, rfl, _, rfl, tq_is _ _ _ _ (by rw [unhide HRM]; rfl), hk3, fun _ _ _ _ _ => trivial⟩
            | 28, ho, hsk =>
              obtain rfl := Option.some.inj ho
              exact o_fld23_3 (.tmp 3) rfl q3 ((hout 3 (by kernel_rfl)).trans rfl) ⟨_, rfl, tq_is _ _ _ _ rfl, Kept.refl _ _, fun _ _ _ _ _ => trivial⟩
            | 29, ho, hsk =>
              obtain rfl := Option.some.inj ho
              have e0 : a'.eval (.tmp 114) = .pointer (some ⟨q3, 3, none⟩) := is_tq (hin 28 114 (by kernel_rfl) (by kernel_rfl)) rfl
              exact q_load3 (.tmp 114) rfl _ _ e0 (fits_cell ((unhide H3).kept ((unhide HK).k.trans hk2) (by simp)) 3 _ rfl) ⟨_, rfl, tq_is _ _ _ _ rfl, Kept.refl _ _, fun _ _ _ _ _ => trivial⟩
            | 30, ho, hsk =>
              obtain rfl := Option.some.inj ho
              exact wp_move (.tmp 8) rfl _ ((hout 8 (by kernel_rfl)).trans rfl) ⟨_, rfl, tq_is _ _ _ _ rfl, Kept.refl _ _, fun _ _ _ _ _ => trivial⟩
            | 31, ho, hsk =>
              obtain rfl := Option.some.inj ho
              have e0 : a'.eval (.tmp 116) = P0 l := is_tq (hin 30 116 (by kernel_rfl) (by kernel_rfl)) rfl
              refine wp_callF 23 _ _ rfl #[P0 l] (by simp [e0]) (cg23 _ _) ((next23 l b g rv D L w2 ((unhide HLT).kept0 hk2)).mono ?_)
              rintro e w3 ⟨rfl, hk3⟩
              exact ⟨_, rfl, _, rfl, tq_is _ _ _ _ (by rw [unhide HST, unhide HNN]; rfl), hk3, fun _ _ _ _ _ => trivial⟩
            | 32, ho, hsk =>
              obtain rfl := Option.some.inj ho
              exact wp_move (.tmp 8) rfl _ ((hout 8 (by kernel_rfl)).trans rfl) ⟨_, rfl, tq_is _ _ _ _ rfl, Kept.refl _ _, fun _ _ _ _ _ => trivial⟩
            | 33, ho, hsk =>
              obtain rfl := Option.some.inj ho
              have e0 : a'.eval (.tmp 118) = P0 l := is_tq (hin 32 118 (by kernel_rfl) (by kernel_rfl)) rfl
              refine wp_callF 21 _ _ rfl #[P0 l] (by simp [e0]) (cg21 _ _) ((start21 l b g rv D L w2 ((unhide HLT).kept0 hk2)).mono ?_)
              rintro e w3 ⟨rfl, hk3⟩
              subst hk3
              exact ⟨_, rfl, _, rfl, tq_is _ _ _ _ (by rw [unhide HST]; rfl), Kept.refl _ _, fun _ _ _ _ _ => trivial⟩
            | 34, ho, hsk =>
              obtain rfl := Option.some.inj ho
              have e0 : a'.eval (.tmp 117) = .int .i64 (st + (N : Int)) := is_tq (hin 31 117 (by kernel_rfl) (by kernel_rfl)) rfl
              have e1 : a'.eval (.tmp 119) = .int .i64 st := is_tq (hin 33 119 (by kernel_rfl) (by kernel_rfl)) rfl
              exact o_subt2 (.tmp 117) (.tmp 119) rfl _ _ _ (by omega) (by omega) e0 e1 ⟨_, rfl, tq_is _ _ _ _ rfl, Kept.refl _ _, fun _ _ _ _ _ => trivial⟩
            | 35, ho, hsk =>
              obtain rfl := Option.some.inj ho
              have e0 : a'.eval (.tmp 115) = .int .i64 J.l := is_tq (hin 29 115 (by kernel_rfl) (by kernel_rfl)) rfl
              have e1 : a'.eval (.tmp 120) = .int .i64 (N : Int) := is_tq (hin 34 120 (by kernel_rfl) (by kernel_rfl)) rfl
              exact o_sub3 (.tmp 115) (.tmp 120) rfl _ _ _ rfl (by omega) e0 e1 ⟨_, rfl, tq_is _ _ _ _ rfl, Kept.refl _ _, fun _ _ _ _ _ => trivial⟩
            | 36, ho, hsk =>
              obtain rfl := Option.some.inj ho
              have e0 : a'.eval (.tmp 113) = .int .i64 (J.l - (N : Int)) := is_tq (hin 27 113 (by kernel_rfl) (by kernel_rfl)) rfl
              have e1 : a'.eval (.tmp 121) = .int .i64 (J.l - (N : Int)) := is_tq (hin 35 121 (by kernel_rfl) (by kernel_rfl)) rfl
              exact o_neqt3 (.tmp 113) (.tmp 121) rfl _ _ true (by simp) e0 e1 ⟨_, rfl, tq_is _ _ _ _ rfl, Kept.refl _ _, fun _ _ _ _ _ => trivial⟩
            | 37, ho, hsk =>
              obtain rfl := Option.some.inj ho
              have e0 : a'.eval (.tmp 111) = .bool false := is_tq (hin 25 111 (by kernel_rfl) (by kernel_rfl)) rfl
              have e1 : a'.eval (.tmp 122) = .bool false := is_tq (hin 36 122 (by kernel_rfl) (by kernel_rfl)) rfl
              exact o_pickOr0 (.tmp 111) (.tmp 122) rfl _ e0 e1 ⟨_, rfl, tq_is _ _ _ _ rfl, Kept.refl _ _, fun _ _ _ _ _ => trivial⟩
          intro V18 hk18
          replace hk18 : Kept [] V17 V18 := ⟨hk18.os, hk18.tape, hk18.output, hk18.size, hk18.block⟩
          simp only [valsQ, List.map_cons, List.map_nil, Option.getD_some, List.take_succ_cons, List.take_zero, putAll, Act.put, List.setIfInBounds_toArray, List.set_cons_succ, List.set_cons_zero]
          refine wpAny_done (by kernel_rfl) ?_ _
          replace HK := hide ((unhide HK).step hk18)
          replace HMK := hide ((unhide HMK).kept0 hk18)
          replace HO := hide (OwnO.kept (unhide HO) hk18 (by simp))
          replace H12 := hide ((unhide H12).kept hk18 (by simp))
          replace H13 := hide ((unhide H13).kept hk18 (by simp))
          clear hk18 HLT
          go_wp2_with (
            first
            | (refine wpAllocW [.int .i64 0] alloc3 15 (by rfl) (by rfl) (by rfl) ?_
               intro V19 q15 e15 B15 K15
               have H15 := hide B15
               have HG15 : Hid (V3.heap.size ≤ q15) := by rw [e15]; exact (unhide HK).k.size
               have HS15 : Hid (V18.heap.size ≤ q15) := by rw [e15]; exact Nat.le_refl V18.heap.size
               replace HK := hide ((unhide HK).step K15)
               replace HMK := hide ((unhide HMK).kept0 K15)
               replace HO := hide (OwnO.kept (unhide HO) K15 (by simp))
               replace H12 := hide ((unhide H12).kept K15 (by simp))
               replace H13 := hide ((unhide H13).kept K15 (by simp))
               clear e15 B15 K15
               refine Stp.go ?_))
          constructor
          go_wp2_with (
            first
            | (refine wpStV _ (.int .i64 0) (st3 0) (by rfl) (.tmp 15) (.const (.int .i64 0)) (by rfl) (by rfl) q15 (by rfl) (by rfl) (unhide H15) ?_
               intro V20 B20 K20
               replace HK := hide ((unhide HK).wr K20 (unhide H15) (by decide) (unhide HG15))
               replace HMK := hide ((unhide HMK).wr K20 (unhide H15))
               replace HO := hide (OwnO.wr (unhide HO) K20 (unhide H15) (by decide))
               replace H12 := hide (Blk.wr (unhide H12) K20 (unhide H15) (by decide))
               replace H13 := hide (Blk.wr (unhide H13) K20 (unhide H15) (by decide))
               replace H15 := hide B20
               clear B20 K20
               refine Stp.go ?_))
          constructor
          go_upto_region 22 with fail
          go_cut [16] from 48 to 169 (fun x16 we => ∃ (c : Nat) (u : Value), x16 = .func (.func 52) #[] #[P0 c] ∧ Hid (Blk we c 37 [u]) ∧ Hid (OwnO we u L.R.length (cellsR L.R)) ∧ Hid (Ka V3 we l b g D L) ∧ Hid (Mks w we Ds) ∧ Hid (OwnO we (.slice ro fl rc) fl (cellsR (L.R.take fl))) ∧ Hid (Blk we q12 2 [.int .i64 st]) ∧ Hid (Blk we q13 37 [.slice ro fl rc]) ∧ Hid (Blk we q15 3 [.int .i64 0]))
          case first =>
            obtain ⟨rv, hlt9, _⟩ := (unhide HK).lt
            have HLT := hide hlt9
            clear hlt9
            go_wp2_with (
              first
              | (go_at_call 29
                 refine (recs29 l b g rv D L _ (unhide HLT)).mono ?_
                 rintro e V21 ⟨c, u, rfl, hc1, hc2, _, _, hk⟩
                 have HC := hide hc1
                 have HOU := hide hc2
                 replace HK := hide ((unhide HK).step hk)
                 replace HMK := hide ((unhide HMK).kept0 hk)
                 replace HO := hide (OwnO.kept (unhide HO) hk (by simp))
                 replace H12 := hide ((unhide H12).kept hk (by simp))
                 replace H13 := hide ((unhide H13).kept hk (by simp))
                 replace H15 := hide ((unhide H15).kept hk (by simp))
                 clear hc1 hc2 hk HLT
                 refine Stp.go ?_))
            constructor
            go_wp2_with fail
            go_meet
            case rel => exact ⟨c, u, rfl, HC, HOU, HK, HMK, HO, H12, H13, H15⟩
          case rest =>
            clear HK HMK HO H12 H13 H15 HS15
            obtain ⟨c, u, rfl, HC, HOU, HK, HMK, HO, H12, H13, H15⟩ := hcut
            have hq68 := eq68 c wc
            go_wp2_with fail
            rw [← wpIn_wide (n := 3)]
            have HBR : Hid (∀ r ∈ L.R, Rc.Byts 96 r.bd) := fun r hr => by
              obtain ⟨i, hi⟩ := List.mem_iff_getElem?.1 hr
              exact ((unhide HQ).hol.recs i r hi).bd
            refine wp_rangeR c u L.R rfl rfl (unhide HC) (unhide HBR) (by rw [unhide HNN]; omega)
              (fun pre W => Kept [q15] wc W ∧ Blk W q15 3 [.int .i64 (pre.length : Nat)])
              (fun _ _ _ => False) ?hI ?hIO ?hIx ⟨Kept.refl _ _, unhide H15⟩
              (fun k9 x9 a' W => Kept [q15] wc W ∧ Blk W q15 3 [.int .i64 (k9 : Nat)] ∧ ∃ bx, Blk W bx 45 (Rc.recC x9) ∧ a' = { tmps := List.toArray (aggV (Ar.jobC J) :: .int .i64 nd :: .slice (some ⟨fb, fof, none⟩) n sc :: P0 q3 :: P0 q4 :: undef :: P0 q6 :: P0 b :: P0 l :: .int .i64 0 :: .int .i64 (k : Nat) :: P0 q11 :: P0 q12 :: P0 q13 :: .int .i64 0 :: P0 q15 :: .func (.func 52) #[] #[P0 c] :: P0 bx :: u18 :: u19 :: u20 :: u21 :: u22 :: u23 :: u24 :: u25 :: u26 :: u27 :: u28 :: u29 :: u30 :: u31 :: u32 :: u33 :: u34 :: u35 :: u36 :: u37 :: u38 :: u39 :: u40 :: u41 :: u42 :: u43 :: u44 :: u45 :: u46 :: u47 :: u48 :: u49 :: u50 :: u51 :: u52 :: u53 :: u54 :: u55 :: u56 :: u57 :: u58 :: u59 :: u60 :: u61 :: u62 :: u63 :: u64 :: u65 :: u66 :: u67 :: u68 :: u69 :: u70 :: u71 :: u72 :: u73 :: u74 :: u75 :: u76 :: u77 :: u78 :: u79 :: u80 :: u81 :: u82 :: u83 :: u84 :: u85 :: u86 :: u87 :: u88 :: u89 :: u90 :: u91 :: u92 :: u93 :: u94 :: u95 :: u96 :: u97 :: u98 :: u99 :: u100 :: u101 :: u102 :: u103 :: u104 :: u105 :: u106 :: u107 :: u108 :: u109 :: u110 :: u111 :: u112 :: u113 :: u114 :: u115 :: u116 :: u117 :: u118 :: u119 :: u120 :: u121 :: u122 :: u123 :: u124 :: u125 :: .func (.func 52) #[] #[P0 c] :: .bool false :: .func (.func 52) #[] #[P0 c] :: aggV (Rc.recC x9) :: u130 :: u131 :: u132 :: u133 :: u134 :: u135 :: u136 :: u137 :: u138 :: u139 :: u140 :: u141 :: u142 :: u143 :: u144 :: u145 :: u146 :: u147 :: u148 :: u149 :: u150 :: u151 :: u152 :: u153 :: u154 :: u155 :: u156 :: u157 :: u158 :: u159 :: u160 :: u161 :: u162 :: u163 :: u164 :: u165 :: u166 :: u167 :: u168 :: u169 :: undef :: []), defers := [] }) ?hFr ?assign ?body ?done ?stop
            case hI =>
              intro s A C row hs hg hr
              exact ⟨kept_grow hs.1 hg (Nat.le_refl _) (fun r e => (hr r e).1), blk_grown hs.2 hg (fun r e => (hr r e).2)⟩
            case hIO =>
              intro s A hA
              exact OwnO.wr (unhide HOU) hA.1 (unhide H15) (by decide)
            case hIx =>
              intro c s A C row hs hg hr
              exact hs
            case hFr =>
              intro k9 x9 a' s A C row hs hg hr
              obtain ⟨h1, h2, bx, h3, h4⟩ := hs
              exact ⟨kept_grow h1 hg (Nat.le_refl _) (fun r e => (hr r e).1), blk_grown h2 hg (fun r e => (hr r e).2), bx, blk_grown h3 hg (fun r e => (hr r e).2), h4⟩
            case assign =>
              intro l9 k9 x9 W K hI hx hK
              have hrl := recC_len (unhide HBR x9 (List.mem_of_getElem? hx))
              simp only [List.zip_toArray, List.zip_cons_cons, List.zip_nil_right, List.foldl_toArray, List.foldl_cons, List.foldl_nil, List.setIfInBounds_toArray, List.set_cons_succ, List.set_cons_zero]
              gi_wp2_with (
                first
                | (refine inNew row45 (Rc.recC Rc.zrec) (recC_len (r := Rc.zrec) (Rc.zs_byts 96)) (fun w => Rc.zero25 w) 17 (by rfl) (fun _ => trivial) (by rfl) (by rfl) (by rfl) (.tmp 129) (by rfl) (by rfl) (fun _ => by rfl) (by rfl) (Rc.recC x9) hrl (recC_one x9) (by rfl) (by rfl) ?_
                   intro W9 bx ex BX KX
                   have HBX := hide BX
                   have HKX := hide KX
                   clear ex BX KX))
              have hlen : (L.R.take k9).length = k9 := by rw [List.length_take]; have := (List.getElem?_eq_some_iff.1 hx).1; omega
              rw [hlen] at hI
              exact hK _ _ (unhide HKX) ⟨hI.1.trans ((unhide HKX).mono (by simp)), hI.2.kept (unhide HKX) (by simp), bx, unhide HBX, rfl⟩
            case body =>
              rintro l9 k9 x9 a' W hx ⟨hk15, hB15, bx, hbx, rfl⟩
              have hkl := (List.getElem?_eq_some_iff.1 hx).1
              have hOw := (unhide HQ).hol.recs k9 x9 hx
              have HLN : Hid ((L.R.take (k9 + 1)).length = k9 + 1) := by show _ = _; rw [List.length_take]; omega
              have HX9 := hide (recC_len (unhide HBR x9 (List.mem_of_getElem? hx)))
              have HBL : Hid (x9.bd.length = 96) := (unhide HBR x9 (List.mem_of_getElem? hx)).len
              have HBX := hide hbx
              have HB15 := hide hB15
              have HB15W := hide hB15
              have HK15 := hide hk15
              have HB13 := hide (Blk.wr (unhide H13) hk15 (unhide H15) (by decide))
              have HB12 := hide (Blk.wr (unhide H12) hk15 (unhide H15) (by decide))
              have HB4 : Hid (Blk W q4 3 [.int .i64 nd]) := ((unhide H4).kept (unhide HK).k (by simp)).kept hk15 (fun hm => by have h1 := (unhide H4).lt; have h2 := unhide HG15; simp at hm; omega)
              have HC2 : Hid (W.cell? ⟨bx, 0 + 2, none⟩ = some (.int .i64 (st + (k9 : Int)))) := by
                have h9 := fits_cell hbx 2 (.int .i64 x9.ls) rfl
                rw [hOw.ls, unhide HST] at h9
                exact h9
              have HC0 : Hid (W.cell? ⟨bx, 0 + 0, none⟩ = some (.int .i64 nd)) := by
                have h9 := fits_cell hbx 0 (.int .i64 x9.nd) rfl
                rw [hOw.nd, (unhide HQ).nd] at h9
                exact h9
              have HC1 : Hid (W.cell? ⟨bx, 0 + 1, none⟩ = some (.int .i64 1)) := by
                have h9 := fits_cell hbx 1 (.int .i64 x9.ep) rfl
                rw [hOw.ep, (unhide HQ).ep] at h9
                exact h9
              have hkN : (k9 : Int) < (N : Int) := by have := unhide HNN; omega
              by_cases hkf : k9 < fl
              · have HLF : Hid (decide ((k9 : Int) < (fl : Int)) = true) := decide_eq_true (by omega)
                have hlt9 : (L.R.take fl).length = fl := by rw [List.length_take, unhide HNN]; omega
                obtain ⟨xg, xoff, xc, hu, hrg⟩ := OwnO.rec_at (R := L.R.take fl) (v := .slice ro fl rc) (by rw [hlt9]; exact OwnO.wr (unhide HO) hk15 (unhide H15) (by decide)) (fun r hr => unhide HBR r (List.mem_of_mem_take hr)) (k := k9) (by rw [hlt9]; exact hkf)
                injection hu with hu1 hu2 hu3
                subst hu1
                rw [List.getElem_take, (List.getElem?_eq_some_iff.1 hx).2] at hrg
                have HXG := hide hrg
                clear hu2 hu3 hrg hlt9 hx hOw hk15 hB15 hbx hkl
                gi_wp2_with fail
                refine wpIn_region_any (by kernel_rfl) (anyIn_of_any (by rintro ⟨a, w, h⟩; exact h) (noDeferA (by kernel_rfl)) _ _ _ _ (wpAny_tq 31 rfl (by kernel_rfl) [some (.int .i64 (k9 : Nat)), some (.slice (some ⟨xg, xoff, none⟩) fl rc), some (.int .i64 fl), some (.bool true), some (.bool true), some (.slice (some ⟨xg, xoff, none⟩) fl rc), some (.int .i64 (k9 : Nat)), some (.pointer (some ⟨xg, xoff + k9 * 101, none⟩)), some (aggV (Rc.recC x9)), some (aggV (Rc.recC x9)), some (.bool false), some (.bool false), some (.bool false), some (.pointer (some ⟨bx, 0 + 2, none⟩)), some (.int .i64 (st + (k9 : Int))), some (.int .i64 st), some (.int .i64 (k9 : Nat)), some (.int .i64 (st + (k9 : Int))), some (.bool false), some (.bool false), some (.bool false), some (.pointer (some ⟨bx, 0 + 0, none⟩)), some (.int .i64 nd), some (.int .i64 nd), some (.bool false), some (.bool false), some (.bool false), some (.pointer (some ⟨bx, 0 + 1, none⟩)), some (.int .i64 1), some (.bool false), some (.bool false)] rfl (by kernel_rfl) (by kernel_rfl) ?_ ?_))
                · intro i o' hi hsk ho a' w2 hout hin hk2
                  replace hk2 : Kept [] W w2 := ⟨hk2.os, hk2.tape, hk2.output, hk2.size, hk2.block⟩
                  match i, ho, hsk with
                  | 0, ho, hsk =>
                    obtain rfl := Option.some.inj ho
                    exact q_load3 (.tmp 15) rfl _ _ ((hout 15 (by kernel_rfl)).trans rfl) (fits_cell ((unhide HB15).kept hk2 (by simp)) 0 _ rfl) ⟨_, rfl, tq_is _ _ _ _ rfl, Kept.refl _ _, fun _ _ _ _ _ => trivial⟩
                  | 1, ho, hsk =>
                    obtain rfl := Option.some.inj ho
                    exact q_load37 (.tmp 13) rfl _ _ ((hout 13 (by kernel_rfl)).trans rfl) (fits_cell ((unhide HB13).kept hk2 (by simp)) 0 _ rfl) ⟨_, rfl, tq_is _ _ _ _ rfl, Kept.refl _ _, fun _ _ _ _ _ => trivial⟩
                  | 2, ho, hsk =>
                    obtain rfl := Option.some.inj ho
                    have e0 : a'.eval (.tmp 131) = .slice (some ⟨xg, xoff, none⟩) fl rc := is_tq (hin 1 131 (by kernel_rfl) (by kernel_rfl)) rfl
                    exact o_len37 131 rfl _ _ _ e0 ⟨_, rfl, tq_is _ _ _ _ rfl, Kept.refl _ _, fun _ _ _ _ _ => trivial⟩
                  | 3, ho, hsk =>
                    obtain rfl := Option.some.inj ho
                    have e0 : a'.eval (.tmp 130) = .int .i64 (k9 : Nat) := is_tq (hin 0 130 (by kernel_rfl) (by kernel_rfl)) rfl
                    have e1 : a'.eval (.tmp 132) = .int .i64 fl := is_tq (hin 2 132 (by kernel_rfl) (by kernel_rfl)) rfl
                    exact o_lsst3 (.tmp 130) (.tmp 132) rfl _ _ _ (unhide HLF) e0 e1 ⟨_, rfl, tq_is _ _ _ _ rfl, Kept.refl _ _, fun _ _ _ _ _ => trivial⟩
                  | 4, ho, hsk =>
                    obtain rfl := Option.some.inj ho
                    have e0 : a'.eval (.tmp 133) = .bool true := is_tq (hin 3 133 (by kernel_rfl) (by kernel_rfl)) rfl
                    exact wp_move (.tmp 133) rfl _ e0 ⟨_, rfl, tq_is _ _ _ _ rfl, Kept.refl _ _, fun _ _ _ _ _ => trivial⟩
                  | 5, ho, hsk =>
                    obtain rfl := Option.some.inj ho
                    exact q_load37 (.tmp 13) rfl _ _ ((hout 13 (by kernel_rfl)).trans rfl) (fits_cell ((unhide HB13).kept hk2 (by simp)) 0 _ rfl) ⟨_, rfl, tq_is _ _ _ _ rfl, Kept.refl _ _, fun _ _ _ _ _ => trivial⟩
                  | 6, ho, hsk =>
                    obtain rfl := Option.some.inj ho
                    exact q_load3 (.tmp 15) rfl _ _ ((hout 15 (by kernel_rfl)).trans rfl) (fits_cell ((unhide HB15).kept hk2 (by simp)) 0 _ rfl) ⟨_, rfl, tq_is _ _ _ _ rfl, Kept.refl _ _, fun _ _ _ _ _ => trivial⟩
                  | 7, ho, hsk =>
                    obtain rfl := Option.some.inj ho
                    have e0 : a'.eval (.tmp 135) = .slice (some ⟨xg, xoff, none⟩) fl rc := is_tq (hin 5 135 (by kernel_rfl) (by kernel_rfl)) rfl
                    have e1 : a'.eval (.tmp 136) = .int .i64 (k9 : Nat) := is_tq (hin 6 136 (by kernel_rfl) (by kernel_rfl)) rfl
                    exact o_idx37 (.tmp 135) (.tmp 136) rfl xg xoff _ _ k9 hkf e0 e1 ⟨_, rfl, tq_is _ _ _ _ rfl, Kept.refl _ _, fun _ _ _ _ _ => trivial⟩
                  | 8, ho, hsk =>
                    obtain rfl := Option.some.inj ho
                    have e0 : a'.eval (.tmp 137) = .pointer (some ⟨xg, xoff + k9 * 101, none⟩) := is_tq (hin 7 137 (by kernel_rfl) (by kernel_rfl)) rfl
                    exact wp_loadA row45 (.tmp 137) rfl xg (xoff + k9 * 101) e0 (Rc.recC x9) (unhide HX9) (range_kept (unhide HXG) hk2) ⟨_, rfl, tq_is _ _ _ _ rfl, Kept.refl _ _, fun _ _ _ _ _ => trivial⟩
                  | 9, ho, hsk =>
                    obtain rfl := Option.some.inj ho
                    exact wp_loadA row45 (.tmp 17) rfl bx 0 ((hout 17 (by kernel_rfl)).trans rfl) (Rc.recC x9) (unhide HX9) (((unhide HBX).kept hk2 (by simp)).range) ⟨_, rfl, tq_is _ _ _ _ rfl, Kept.refl _ _, fun _ _ _ _ _ => trivial⟩
                  | 10, ho, hsk =>
                    obtain rfl := Option.some.inj ho
                    have e0 : a'.eval (.tmp 138) = aggV (Rc.recC x9) := is_tq (hin 8 138 (by kernel_rfl) (by kernel_rfl)) rfl
                    have e1 : a'.eval (.tmp 139) = aggV (Rc.recC x9) := is_tq (hin 9 139 (by kernel_rfl) (by kernel_rfl)) rfl
                    exact o_neqR (.tmp 138) (.tmp 139) rfl x9 x9 (unhide HBL) (unhide HBL) true (Rc.recEq_self x9) e0 e1 ⟨_, rfl, tq_is _ _ _ _ rfl, Kept.refl _ _, fun _ _ _ _ _ => trivial⟩
                  | 11, ho, hsk =>
                    obtain rfl := Option.some.inj ho
                    have e0 : a'.eval (.tmp 134) = .bool true := is_tq (hin 4 134 (by kernel_rfl) (by kernel_rfl)) rfl
                    have e1 : a'.eval (.tmp 140) = .bool false := is_tq (hin 10 140 (by kernel_rfl) (by kernel_rfl)) rfl
                    exact o_pick (.tmp 134) (.tmp 140) rfl _ e0 e1 ⟨_, rfl, tq_is _ _ _ _ rfl, Kept.refl _ _, fun _ _ _ _ _ => trivial⟩
                  | 12, ho, hsk =>
                    obtain rfl := Option.some.inj ho
                    have e0 : a'.eval (.tmp 141) = .bool false := is_tq (hin 11 141 (by kernel_rfl) (by kernel_rfl)) rfl
                    exact wp_move (.tmp 141) rfl _ e0 ⟨_, rfl, tq_is _ _ _ _ rfl, Kept.refl _ _, fun _ _ _ _ _ => trivial⟩
                  | 13, ho, hsk =>
                    obtain rfl := Option.some.inj ho
                    exact o_fldo45_2 (.tmp 17) rfl bx 0 ((hout 17 (by kernel_rfl)).trans rfl) ⟨_, rfl, tq_is _ _ _ _ rfl, Kept.refl _ _, fun _ _ _ _ _ => trivial⟩
                  | 14, ho, hsk =>
                    obtain rfl := Option.some.inj ho
                    have e0 : a'.eval (.tmp 143) = .pointer (some ⟨bx, 0 + 2, none⟩) := is_tq (hin 13 143 (by kernel_rfl) (by kernel_rfl)) rfl
                    exact q_load2 (.tmp 143) rfl _ _ e0 (hk2.cell (unhide HC2) (by simp)) ⟨_, rfl, tq_is _ _ _ _ rfl, Kept.refl _ _, fun _ _ _ _ _ => trivial⟩
                  | 15, ho, hsk =>
                    obtain rfl := Option.some.inj ho
                    exact q_load2 (.tmp 12) rfl _ _ ((hout 12 (by kernel_rfl)).trans rfl) (fits_cell ((unhide HB12).kept hk2 (by simp)) 0 _ rfl) ⟨_, rfl, tq_is _ _ _ _ rfl, Kept.refl _ _, fun _ _ _ _ _ => trivial⟩
                  | 16, ho, hsk =>
                    obtain rfl := Option.some.inj ho
                    exact q_load3 (.tmp 15) rfl _ _ ((hout 15 (by kernel_rfl)).trans rfl) (fits_cell ((unhide HB15).kept hk2 (by simp)) 0 _ rfl) ⟨_, rfl, tq_is _ _ _ _ rfl, Kept.refl _ _, fun _ _ _ _ _ => trivial⟩
                  | 17, ho, hsk =>
                    obtain rfl := Option.some.inj ho
                    have e0 : a'.eval (.tmp 145) = .int .i64 st := is_tq (hin 15 145 (by kernel_rfl) (by kernel_rfl)) rfl
                    have e1 : a'.eval (.tmp 146) = .int .i64 (k9 : Nat) := is_tq (hin 16 146 (by kernel_rfl) (by kernel_rfl)) rfl
                    exact o_add2 (.tmp 145) (.tmp 146) rfl _ _ _ rfl (by omega) e0 e1 ⟨_, rfl, tq_is _ _ _ _ rfl, Kept.refl _ _, fun _ _ _ _ _ => trivial⟩
                  | 18, ho, hsk =>
                    obtain rfl := Option.some.inj ho
                    have e0 : a'.eval (.tmp 144) = .int .i64 (st + (k9 : Int)) := is_tq (hin 14 144 (by kernel_rfl) (by kernel_rfl)) rfl
                    have e1 : a'.eval (.tmp 147) = .int .i64 (st + (k9 : Int)) := is_tq (hin 17 147 (by kernel_rfl) (by kernel_rfl)) rfl
                    exact o_neqt2 (.tmp 144) (.tmp 147) rfl _ _ true (by simp) e0 e1 ⟨_, rfl, tq_is _ _ _ _ rfl, Kept.refl _ _, fun _ _ _ _ _ => trivial⟩
                  | 19, ho, hsk =>
                    obtain rfl := Option.some.inj ho
                    have e0 : a'.eval (.tmp 142) = .bool false := is_tq (hin 12 142 (by kernel_rfl) (by kernel_rfl)) rfl
                    have e1 : a'.eval (.tmp 148) = .bool false := is_tq (hin 18 148 (by kernel_rfl) (by kernel_rfl)) rfl
                    exact o_pickOr0 (.tmp 142) (.tmp 148) rfl _ e0 e1 ⟨_, rfl, tq_is _ _ _ _ rfl, Kept.refl _ _, fun _ _ _ _ _ => trivial⟩
                  | 20, ho, hsk =>
                    obtain rfl := Option.some.inj ho
                    have e0 : a'.eval (.tmp 149) = .bool false := is_tq (hin 19 149 (by kernel_rfl) (by kernel_rfl)) rfl
                    exact wp_move (.tmp 149) rfl _ e0 ⟨_, rfl, tq_is _ _ _ _ rfl, Kept.refl _ _, fun _ _ _ _ _ => trivial⟩
                  | 21, ho, hsk =>
                    obtain rfl := Option.some.inj ho
                    exact o_fldo45_0 (.tmp 17) rfl bx 0 ((hout 17 (by kernel_rfl)).trans rfl) ⟨_, rfl, tq_is _ _ _ _ rfl, Kept.refl _ _, fun _ _ _ _ _ => trivial⟩
                  | 22, ho, hsk =>
                    obtain rfl := Option.some.inj ho
                    have e0 : a'.eval (.tmp 151) = .pointer (some ⟨bx, 0 + 0, none⟩) := is_tq (hin 21 151 (by kernel_rfl) (by kernel_rfl)) rfl
                    exact q_load3 (.tmp 151) rfl _ _ e0 (hk2.cell (unhide HC0) (by simp)) ⟨_, rfl, tq_is _ _ _ _ rfl, Kept.refl _ _, fun _ _ _ _ _ => trivial⟩
                  | 23, ho, hsk =>
                    obtain rfl := Option.some.inj ho
                    exact q_load3 (.tmp 4) rfl _ _ ((hout 4 (by kernel_rfl)).trans rfl) (fits_cell ((unhide HB4).kept hk2 (by simp)) 0 _ rfl) ⟨_, rfl, tq_is _ _ _ _ rfl, Kept.refl _ _, fun _ _ _ _ _ => trivial⟩
                  | 24, ho, hsk =>
                    obtain rfl := Option.some.inj ho
                    have e0 : a'.eval (.tmp 152) = .int .i64 nd := is_tq (hin 22 152 (by kernel_rfl) (by kernel_rfl)) rfl
                    have e1 : a'.eval (.tmp 153) = .int .i64 nd := is_tq (hin 23 153 (by kernel_rfl) (by kernel_rfl)) rfl
                    exact o_neqt3 (.tmp 152) (.tmp 153) rfl _ _ true (by simp) e0 e1 ⟨_, rfl, tq_is _ _ _ _ rfl, Kept.refl _ _, fun _ _ _ _ _ => trivial⟩
                  | 25, ho, hsk =>
                    obtain rfl := Option.some.inj ho
                    have e0 : a'.eval (.tmp 150) = .bool false := is_tq (hin 20 150 (by kernel_rfl) (by kernel_rfl)) rfl
                    have e1 : a'.eval (.tmp 154) = .bool false := is_tq (hin 24 154 (by kernel_rfl) (by kernel_rfl)) rfl
                    exact o_pickOr0 (.tmp 150) (.tmp 154) rfl _ e0 e1 ⟨_, rfl, tq_is _ _ _ _ rfl, Kept.refl _ _, fun _ _ _ _ _ => trivial⟩
                  | 26, ho, hsk =>
                    obtain rfl := Option.some.inj ho
                    have e0 : a'.eval (.tmp 155) = .bool false := is_tq (hin 25 155 (by kernel_rfl) (by kernel_rfl)) rfl
                    exact wp_move (.tmp 155) rfl _ e0 ⟨_, rfl, tq_is _ _ _ _ rfl, Kept.refl _ _, fun _ _ _ _ _ => trivial⟩
                  | 27, ho, hsk =>
                    obtain rfl := Option.some.inj ho
                    exact o_fldo45_1 (.tmp 17) rfl bx 0 ((hout 17 (by kernel_rfl)).trans rfl) ⟨_, rfl, tq_is _ _ _ _ rfl, Kept.refl _ _, fun _ _ _ _ _ => trivial⟩
                  | 28, ho, hsk =>
                    obtain rfl := Option.some.inj ho
                    have e0 : a'.eval (.tmp 157) = .pointer (some ⟨bx, 0 + 1, none⟩) := is_tq (hin 27 157 (by kernel_rfl) (by kernel_rfl)) rfl
                    exact q_load2 (.tmp 157) rfl _ _ e0 (hk2.cell (unhide HC1) (by simp)) ⟨_, rfl, tq_is _ _ _ _ rfl, Kept.refl _ _, fun _ _ _ _ _ => trivial⟩
                  | 29, ho, hsk =>
                    obtain rfl := Option.some.inj ho
                    have e0 : a'.eval (.tmp 158) = .int .i64 1 := is_tq (hin 28 158 (by kernel_rfl) (by kernel_rfl)) rfl
                    exact o_neqc2 (.tmp 158) 1 rfl _ true rfl e0 ⟨_, rfl, tq_is _ _ _ _ rfl, Kept.refl _ _, fun _ _ _ _ _ => trivial⟩
                  | 30, ho, hsk =>
                    obtain rfl := Option.some.inj ho
                    have e0 : a'.eval (.tmp 156) = .bool false := is_tq (hin 26 156 (by kernel_rfl) (by kernel_rfl)) rfl
                    have e1 : a'.eval (.tmp 159) = .bool false := is_tq (hin 29 159 (by kernel_rfl) (by kernel_rfl)) rfl
                    exact o_pickOr0 (.tmp 156) (.tmp 159) rfl _ e0 e1 ⟨_, rfl, tq_is _ _ _ _ rfl, Kept.refl _ _, fun _ _ _ _ _ => trivial⟩
                intro W8 hk8
                replace hk8 : Kept [] W W8 := ⟨hk8.os, hk8.tape, hk8.output, hk8.size, hk8.block⟩
                simp only [valsQ, List.map_cons, List.map_nil, Option.getD_some, List.take_succ_cons, List.take_zero, putAll, Act.put, List.setIfInBounds_toArray, List.set_cons_succ, List.set_cons_zero]
                refine wpAny_done (by kernel_rfl) ?_ _
                replace HB15 := hide ((unhide HB15).kept hk8 (by simp))
                have HK8 : Hid (Kept [q15] wc W8) := (unhide HK15).trans (hk8.mono (by simp))
                have HKW := hide hk8
                have c15 := fits_cell (unhide HB15) 0 _ rfl
                have hk9b : (k9 : Int) ≤ 64 := by omega
                clear hk8
                gi_wp2_with (
                  first
                  | (refine listIn_of_list (by rintro ⟨a, w, h⟩; exact h) _ _ _ (noDefer_spec (by kernel_rfl)) ?_
                     refine Stp.go ?_))
                constructor
                go_wp2_with (
                  first
                  | (refine wpStV _ (.int .i64 ((k9 : Int) + 1)) (st3 _) (by rfl) (.tmp 15) (.tmp 162) (by rfl) (by rfl) q15 (by rfl) (by rfl) (unhide HB15) ?_
                     intro W10 B10 K10
                     have HB10 := hide B10
                     have HK10 := hide K10
                     clear B10 K10 c15
                     refine Stp.go ?_))
                constructor
                go_wp2_with fail
                try gi_wp2_with fail
                refine ⟨keepsFrom_X (X := [q15]) (((unhide HKW).mono (by simp)).trans (unhide HK10)) (fun i hi => by simp at hi; subst hi; exact ⟨_, _, _, unhide HB15W⟩), trivial, (unhide HK8).trans (unhide HK10), ?_⟩
                rw [unhide HLN]
                exact unhide HB10
              · have HLF : Hid (decide ((k9 : Int) < (fl : Int)) = false) := decide_eq_false (by omega)
                clear hx hOw hk15 hB15 hbx hkl hkf
                gi_wp2_with fail
                refine wpIn_region_any (by kernel_rfl) (anyIn_of_any (by rintro ⟨a, w, h⟩; exact h) (noDeferA (by kernel_rfl)) _ _ _ _ (wpAny_tq 31 rfl (by kernel_rfl) [some (.int .i64 (k9 : Nat)), some (.slice ro fl rc), some (.int .i64 fl), some (.bool false), some (.bool false), none, none, none, none, none, none, some (.bool false), some (.bool false), some (.pointer (some ⟨bx, 0 + 2, none⟩)), some (.int .i64 (st + (k9 : Int))), some (.int .i64 st), some (.int .i64 (k9 : Nat)), some (.int .i64 (st + (k9 : Int))), some (.bool false), some (.bool false), some (.bool false), some (.pointer (some ⟨bx, 0 + 0, none⟩)), some (.int .i64 nd), some (.int .i64 nd), some (.bool false), some (.bool false), some (.bool false), some (.pointer (some ⟨bx, 0 + 1, none⟩)), some (.int .i64 1), some (.bool false), some (.bool false)] rfl (by kernel_rfl) (by kernel_rfl) ?_ ?_))
                · intro i o' hi hsk ho a' w2 hout hin hk2
                  replace hk2 : Kept [] W w2 := ⟨hk2.os, hk2.tape, hk2.output, hk2.size, hk2.block⟩
                  match i, ho, hsk with
                  | 0, ho, hsk =>
                    obtain rfl := Option.some.inj ho
                    exact q_load3 (.tmp 15) rfl _ _ ((hout 15 (by kernel_rfl)).trans rfl) (fits_cell ((unhide HB15).kept hk2 (by simp)) 0 _ rfl) ⟨_, rfl, tq_is _ _ _ _ rfl, Kept.refl _ _, fun _ _ _ _ _ => trivial⟩
                  | 1, ho, hsk =>
                    obtain rfl := Option.some.inj ho
                    exact q_load37 (.tmp 13) rfl _ _ ((hout 13 (by kernel_rfl)).trans rfl) (fits_cell ((unhide HB13).kept hk2 (by simp)) 0 _ rfl) ⟨_, rfl, tq_is _ _ _ _ rfl, Kept.refl _ _, fun _ _ _ _ _ => trivial⟩
                  | 2, ho, hsk =>
                    obtain rfl := Option.some.inj ho
                    have e0 : a'.eval (.tmp 131) = .slice ro fl rc := is_tq (hin 1 131 (by kernel_rfl) (by kernel_rfl)) rfl
                    exact o_len37 131 rfl _ _ _ e0 ⟨_, rfl, tq_is _ _ _ _ rfl, Kept.refl _ _, fun _ _ _ _ _ => trivial⟩
                  | 3, ho, hsk =>
                    obtain rfl := Option.some.inj ho
                    have e0 : a'.eval (.tmp 130) = .int .i64 (k9 : Nat) := is_tq (hin 0 130 (by kernel_rfl) (by kernel_rfl)) rfl
                    have e1 : a'.eval (.tmp 132) = .int .i64 fl := is_tq (hin 2 132 (by kernel_rfl) (by kernel_rfl)) rfl
                    exact o_lsst3 (.tmp 130) (.tmp 132) rfl _ _ _ (unhide HLF) e0 e1 ⟨_, rfl, tq_is _ _ _ _ rfl, Kept.refl _ _, fun _ _ _ _ _ => trivial⟩
                  | 4, ho, hsk =>
                    obtain rfl := Option.some.inj ho
                    have e0 : a'.eval (.tmp 133) = .bool false := is_tq (hin 3 133 (by kernel_rfl) (by kernel_rfl)) rfl
                    exact wp_move (.tmp 133) rfl _ e0 ⟨_, rfl, tq_is _ _ _ _ rfl, Kept.refl _ _, fun _ _ _ _ _ => trivial⟩
                  | 5, ho, hsk =>
                    cases hsk
                  | 6, ho, hsk =>
                    cases hsk
                  | 7, ho, hsk =>
                    cases hsk
                  | 8, ho, hsk =>
                    cases hsk
                  | 9, ho, hsk =>
                    cases hsk
                  | 10, ho, hsk =>
                    cases hsk
                  | 11, ho, hsk =>
                    obtain rfl := Option.some.inj ho
                    have e0 : a'.eval (.tmp 134) = .bool false := is_tq (hin 4 134 (by kernel_rfl) (by kernel_rfl)) rfl
                    exact o_pickN (.tmp 134) (.tmp 140) rfl e0 ⟨_, rfl, tq_is _ _ _ _ rfl, Kept.refl _ _, fun _ _ _ _ _ => trivial⟩
                  | 12, ho, hsk =>
                    obtain rfl := Option.some.inj ho
                    have e0 : a'.eval (.tmp 141) = .bool false := is_tq (hin 11 141 (by kernel_rfl) (by kernel_rfl)) rfl
                    exact wp_move (.tmp 141) rfl _ e0 ⟨_, rfl, tq_is _ _ _ _ rfl, Kept.refl _ _, fun _ _ _ _ _ => trivial⟩
                  | 13, ho, hsk =>
                    obtain rfl := Option.some.inj ho
                    exact o_fldo45_2 (.tmp 17) rfl bx 0 ((hout 17 (by kernel_rfl)).trans rfl) ⟨_, rfl, tq_is _ _ _ _ rfl, Kept.refl _ _, fun _ _ _ _ _ => trivial⟩
                  | 14, ho, hsk =>
                    obtain rfl := Option.some.inj ho
                    have e0 : a'.eval (.tmp 143) = .pointer (some ⟨bx, 0 + 2, none⟩) := is_tq (hin 13 143 (by kernel_rfl) (by kernel_rfl)) rfl
                    exact q_load2 (.tmp 143) rfl _ _ e0 (hk2.cell (unhide HC2) (by simp)) ⟨_, rfl, tq_is _ _ _ _ rfl, Kept.refl _ _, fun _ _ _ _ _ => trivial⟩
                  | 15, ho, hsk =>
                    obtain rfl := Option.some.inj ho
                    exact q_load2 (.tmp 12) rfl _ _ ((hout 12 (by kernel_rfl)).trans rfl) (fits_cell ((unhide HB12).kept hk2 (by simp)) 0 _ rfl) ⟨_, rfl, tq_is _ _ _ _ rfl, Kept.refl _ _, fun _ _ _ _ _ => trivial⟩
                  | 16, ho, hsk =>
                    obtain rfl := Option.some.inj ho
                    exact q_load3 (.tmp 15) rfl _ _ ((hout 15 (by kernel_rfl)).trans rfl) (fits_cell ((unhide HB15).kept hk2 (by simp)) 0 _ rfl) ⟨_, rfl, tq_is _ _ _ _ rfl, Kept.refl _ _, fun _ _ _ _ _ => trivial⟩
                  | 17, ho, hsk =>
                    obtain rfl := Option.some.inj ho
                    have e0 : a'.eval (.tmp 145) = .int .i64 st := is_tq (hin 15 145 (by kernel_rfl) (by kernel_rfl)) rfl
                    have e1 : a'.eval (.tmp 146) = .int .i64 (k9 : Nat) := is_tq (hin 16 146 (by kernel_rfl) (by kernel_rfl)) rfl
                    exact o_add2 (.tmp 145) (.tmp 146) rfl _ _ _ rfl (by omega) e0 e1 ⟨_, rfl, tq_is _ _ _ _ rfl, Kept.refl _ _, fun _ _ _ _ _ => trivial⟩
                  | 18, ho, hsk =>
                    obtain rfl := Option.some.inj ho
                    have e0 : a'.eval (.tmp 144) = .int .i64 (st + (k9 : Int)) := is_tq (hin 14 144 (by kernel_rfl) (by kernel_rfl)) rfl
                    have e1 : a'.eval (.tmp 147) = .int .i64 (st + (k9 : Int)) := is_tq (hin 17 147 (by kernel_rfl) (by kernel_rfl)) rfl
                    exact o_neqt2 (.tmp 144) (.tmp 147) rfl _ _ true (by simp) e0 e1 ⟨_, rfl, tq_is _ _ _ _ rfl, Kept.refl _ _, fun _ _ _ _ _ => trivial⟩
                  | 19, ho, hsk =>
                    obtain rfl := Option.some.inj ho
                    have e0 : a'.eval (.tmp 142) = .bool false := is_tq (hin 12 142 (by kernel_rfl) (by kernel_rfl)) rfl
                    have e1 : a'.eval (.tmp 148) = .bool false := is_tq (hin 18 148 (by kernel_rfl) (by kernel_rfl)) rfl
                    exact o_pickOr0 (.tmp 142) (.tmp 148) rfl _ e0 e1 ⟨_, rfl, tq_is _ _ _ _ rfl, Kept.refl _ _, fun _ _ _ _ _ => trivial⟩
                  | 20, ho, hsk =>
                    obtain rfl := Option.some.inj ho
                    have e0 : a'.eval (.tmp 149) = .bool false := is_tq (hin 19 149 (by kernel_rfl) (by kernel_rfl)) rfl
                    exact wp_move (.tmp 149) rfl _ e0 ⟨_, rfl, tq_is _ _ _ _ rfl, Kept.refl _ _, fun _ _ _ _ _ => trivial⟩
                  | 21, ho, hsk =>
                    obtain rfl := Option.some.inj ho
                    exact o_fldo45_0 (.tmp 17) rfl bx 0 ((hout 17 (by kernel_rfl)).trans rfl) ⟨_, rfl, tq_is _ _ _ _ rfl, Kept.refl _ _, fun _ _ _ _ _ => trivial⟩
                  | 22, ho, hsk =>
                    obtain rfl := Option.some.inj ho
                    have e0 : a'.eval (.tmp 151) = .pointer (some ⟨bx, 0 + 0, none⟩) := is_tq (hin 21 151 (by kernel_rfl) (by kernel_rfl)) rfl
                    exact q_load3 (.tmp 151) rfl _ _ e0 (hk2.cell (unhide HC0) (by simp)) ⟨_, rfl, tq_is _ _ _ _ rfl, Kept.refl _ _, fun _ _ _ _ _ => trivial⟩
                  | 23, ho, hsk =>
                    obtain rfl := Option.some.inj ho
                    exact q_load3 (.tmp 4) rfl _ _ ((hout 4 (by kernel_rfl)).trans rfl) (fits_cell ((unhide HB4).kept hk2 (by simp)) 0 _ rfl) ⟨_, rfl, tq_is _ _ _ _ rfl, Kept.refl _ _, fun _ _ _ _ _ => trivial⟩
                  | 24, ho, hsk =>
                    obtain rfl := Option.some.inj ho
                    have e0 : a'.eval (.tmp 152) = .int .i64 nd := is_tq (hin 22 152 (by kernel_rfl) (by kernel_rfl)) rfl
                    have e1 : a'.eval (.tmp 153) = .int .i64 nd := is_tq (hin 23 153 (by kernel_rfl) (by kernel_rfl)) rfl
                    exact o_neqt3 (.tmp 152) (.tmp 153) rfl _ _ true (by simp) e0 e1 ⟨_, rfl, tq_is _ _ _ _ rfl, Kept.refl _ _, fun _ _ _ _ _ => trivial⟩
                  | 25, ho, hsk =>
                    obtain rfl := Option.some.inj ho
                    have e0 : a'.eval (.tmp 150) = .bool false := is_tq (hin 20 150 (by kernel_rfl) (by kernel_rfl)) rfl
                    have e1 : a'.eval (.tmp 154) = .bool false := is_tq (hin 24 154 (by kernel_rfl) (by kernel_rfl)) rfl
                    exact o_pickOr0 (.tmp 150) (.tmp 154) rfl _ e0 e1 ⟨_, rfl, tq_is _ _ _ _ rfl, Kept.refl _ _, fun _ _ _ _ _ => trivial⟩
                  | 26, ho, hsk =>
                    obtain rfl := Option.some.inj ho
                    have e0 : a'.eval (.tmp 155) = .bool false := is_tq (hin 25 155 (by kernel_rfl) (by kernel_rfl)) rfl
                    exact wp_move (.tmp 155) rfl _ e0 ⟨_, rfl, tq_is _ _ _ _ rfl, Kept.refl _ _, fun _ _ _ _ _ => trivial⟩
                  | 27, ho, hsk =>
                    obtain rfl := Option.some.inj ho
                    exact o_fldo45_1 (.tmp 17) rfl bx 0 ((hout 17 (by kernel_rfl)).trans rfl) ⟨_, rfl, tq_is _ _ _ _ rfl, Kept.refl _ _, fun _ _ _ _ _ => trivial⟩
                  | 28, ho, hsk =>
                    obtain rfl := Option.some.inj ho
                    have e0 : a'.eval (.tmp 157) = .pointer (some ⟨bx, 0 + 1, none⟩) := is_tq (hin 27 157 (by kernel_rfl) (by kernel_rfl)) rfl
                    exact q_load2 (.tmp 157) rfl _ _ e0 (hk2.cell (unhide HC1) (by simp)) ⟨_, rfl, tq_is _ _ _ _ rfl, Kept.refl _ _, fun _ _ _ _ _ => trivial⟩
                  | 29, ho, hsk =>
                    obtain rfl := Option.some.inj ho
                    have e0 : a'.eval (.tmp 158) = .int .i64 1 := is_tq (hin 28 158 (by kernel_rfl) (by kernel_rfl)) rfl
                    exact o_neqc2 (.tmp 158) 1 rfl _ true rfl e0 ⟨_, rfl, tq_is _ _ _ _ rfl, Kept.refl _ _, fun _ _ _ _ _ => trivial⟩
                  | 30, ho, hsk =>
                    obtain rfl := Option.some.inj ho
                    have e0 : a'.eval (.tmp 156) = .bool false := is_tq (hin 26 156 (by kernel_rfl) (by kernel_rfl)) rfl
                    have e1 : a'.eval (.tmp 159) = .bool false := is_tq (hin 29 159 (by kernel_rfl) (by kernel_rfl)) rfl
                    exact o_pickOr0 (.tmp 156) (.tmp 159) rfl _ e0 e1 ⟨_, rfl, tq_is _ _ _ _ rfl, Kept.refl _ _, fun _ _ _ _ _ => trivial⟩
                intro W8 hk8
                replace hk8 : Kept [] W W8 := ⟨hk8.os, hk8.tape, hk8.output, hk8.size, hk8.block⟩
                simp only [valsQ, List.map_cons, List.map_nil, Option.getD_some, Option.getD_none, List.take_succ_cons, List.take_zero, putAll, Act.put, List.setIfInBounds_toArray, List.set_cons_succ, List.set_cons_zero]
                refine wpAny_done (by kernel_rfl) ?_ _
                replace HB15 := hide ((unhide HB15).kept hk8 (by simp))
                have HK8 : Hid (Kept [q15] wc W8) := (unhide HK15).trans (hk8.mono (by simp))
                have HKW := hide hk8
                have c15 := fits_cell (unhide HB15) 0 _ rfl
                have hk9b : (k9 : Int) ≤ 64 := by omega
                clear hk8
                gi_wp2_with (
                  first
                  | (refine listIn_of_list (by rintro ⟨a, w, h⟩; exact h) _ _ _ (noDefer_spec (by kernel_rfl)) ?_
                     refine Stp.go ?_))
                constructor
                go_wp2_with (
                  first
                  | (refine wpStV _ (.int .i64 ((k9 : Int) + 1)) (st3 _) (by rfl) (.tmp 15) (.tmp 162) (by rfl) (by rfl) q15 (by rfl) (by rfl) (unhide HB15) ?_
                     intro W10 B10 K10
                     have HB10 := hide B10
                     have HK10 := hide K10
                     clear B10 K10 c15
                     refine Stp.go ?_))
                constructor
                go_wp2_with fail
                try gi_wp2_with fail
                refine ⟨keepsFrom_X (X := [q15]) (((unhide HKW).mono (by simp)).trans (unhide HK10)) (fun i hi => by simp at hi; subst hi; exact ⟨_, _, _, unhide HB15W⟩), trivial, (unhide HK8).trans (unhide HK10), ?_⟩
                rw [unhide HLN]
                exact unhide HB10
            case stop =>
              intro D9 c9 k9 W _ _ h _
              exact h.elim
            case done =>
              intro D9 W hD9 hI9 hM9
              have HMN : Hid (Mks w W (D9 :: Ds)) := (unhide HMK).cons (W0 := wc) (fun D hD => hI9.1.block D (lt_of_block ((unhide HMK).ats D hD).2) (fun hm => by
                simp at hm
                subst hm
                have h1 := ((unhide HMK).ats _ hD).2
                have h2 := unhide H15
                unfold Blk at h2
                rw [h2] at h1
                cases h1)) hD9 (Nat.le_trans (Nat.le_trans (unhide HW).size (unhide HK).k.size) hD9) hM9
              replace HK := hide ((unhide HK).wr hI9.1 (unhide H15) (by decide) (unhide HG15))
              have h15 : Blk W q15 3 [.int .i64 (N : Nat)] := by rw [← unhide HNN]; exact hI9.2
              replace H15 := hide h15
              obtain ⟨rv, hlt9, _⟩ := (unhide HK).lt
              have HLT := hide hlt9
              clear HMK HOU HO H12 H13 HC hI9 hM9 hD9 hlt9 h15
              go_upto_region 30 with fail
              refine wp_region_any mixed (wpAny_tq 7 rfl (by kernel_rfl) [some (.int .i64 (N : Nat)), some (P0 l), some (.int .i64 (st + (N : Int))), some (P0 l), some (.int .i64 st), some (.int .i64 (N : Int)), some (.bool false)] rfl (by kernel_rfl) (by kernel_rfl) ?_ ?_)
              · intro i o' hi hsk ho a' w2 hout hin hk2
                replace hk2 : Kept [] W w2 := ⟨hk2.os, hk2.tape, hk2.output, hk2.size, hk2.block⟩
                match i, ho, hsk with
                | 0, ho, hsk =>
                  obtain rfl := Option.some.inj ho
                  exact q_load3 (.tmp 15) rfl _ _ ((hout 15 (by kernel_rfl)).trans rfl) (fits_cell ((unhide H15).kept hk2 (by simp)) 0 _ rfl) ⟨_, rfl, tq_is _ _ _ _ rfl, Kept.refl _ _, fun _ _ _ _ _ => trivial⟩
                | 1, ho, hsk =>
                  obtain rfl := Option.some.inj ho
                  exact wp_move (.tmp 8) rfl _ ((hout 8 (by kernel_rfl)).trans rfl) ⟨_, rfl, tq_is _ _ _ _ rfl, Kept.refl _ _, fun _ _ _ _ _ => trivial⟩
                | 2, ho, hsk =>
                  obtain rfl := Option.some.inj ho
                  have e0 : a'.eval (.tmp 164) = P0 l := is_tq (hin 1 164 (by kernel_rfl) (by kernel_rfl)) rfl
                  refine wp_callF 23 _ _ rfl #[P0 l] (by simp [e0]) (cg23 _ _) ((next23 l b g rv D L w2 ((unhide HLT).kept0 hk2)).mono ?_)
                  rintro e w3 ⟨rfl, hk3⟩
                  exact ⟨_, rfl, _, rfl, tq_is _ _ _ _ (by rw [unhide HST, unhide HNN]; rfl), hk3, fun _ _ _ _ _ => trivial⟩
                | 3, ho, hsk =>
                  obtain rfl := Option.some.inj ho
                  exact wp_move (.tmp 8) rfl _ ((hout 8 (by kernel_rfl)).trans rfl) ⟨_, rfl, tq_is _ _ _ _ rfl, Kept.refl _ _, fun _ _ _ _ _ => trivial⟩
                | 4, ho, hsk =>
                  obtain rfl := Option.some.inj ho
                  have e0 : a'.eval (.tmp 166) = P0 l := is_tq (hin 3 166 (by kernel_rfl) (by kernel_rfl)) rfl
                  refine wp_callF 21 _ _ rfl #[P0 l] (by simp [e0]) (cg21 _ _) ((start21 l b g rv D L w2 ((unhide HLT).kept0 hk2)).mono ?_)
                  rintro e w3 ⟨rfl, hk3⟩
                  subst hk3
                  exact ⟨_, rfl, _, rfl, tq_is _ _ _ _ (by rw [unhide HST]; rfl), Kept.refl _ _, fun _ _ _ _ _ => trivial⟩
                | 5, ho, hsk =>
                  obtain rfl := Option.some.inj ho
                  have e0 : a'.eval (.tmp 165) = .int .i64 (st + (N : Int)) := is_tq (hin 2 165 (by kernel_rfl) (by kernel_rfl)) rfl
                  have e1 : a'.eval (.tmp 167) = .int .i64 st := is_tq (hin 4 167 (by kernel_rfl) (by kernel_rfl)) rfl
                  exact o_subt2 (.tmp 165) (.tmp 167) rfl _ _ _ (by omega) (by omega) e0 e1 ⟨_, rfl, tq_is _ _ _ _ rfl, Kept.refl _ _, fun _ _ _ _ _ => trivial⟩
                | 6, ho, hsk =>
                  obtain rfl := Option.some.inj ho
                  have e0 : a'.eval (.tmp 163) = .int .i64 (N : Nat) := is_tq (hin 0 163 (by kernel_rfl) (by kernel_rfl)) rfl
                  have e1 : a'.eval (.tmp 168) = .int .i64 (N : Int) := is_tq (hin 5 168 (by kernel_rfl) (by kernel_rfl)) rfl
                  exact o_neqt2 (.tmp 163) (.tmp 168) rfl _ _ true (by simp) e0 e1 ⟨_, rfl, tq_is _ _ _ _ rfl, Kept.refl _ _, fun _ _ _ _ _ => trivial⟩
              intro V30 hk30
              replace hk30 : Kept [] W V30 := ⟨hk30.os, hk30.tape, hk30.output, hk30.size, hk30.block⟩
              simp only [valsQ, List.map_cons, List.map_nil, Option.getD_some, List.take_succ_cons, List.take_zero, putAll, Act.put, List.setIfInBounds_toArray, List.set_cons_succ, List.set_cons_zero]
              refine wpAny_done (by kernel_rfl) ?_ _
              replace HK := hide ((unhide HK).step hk30)
              replace HMN := hide ((unhide HMN).kept0 hk30)
              clear hk30 HLT
              go_wp2_with fail
              refine unhide HKK _ _ ⟨k + 1, D9 :: Ds, ⟨_, _, _, _, _, _, _, _, _, _, _, _, _, _, _, _, _, _, _, _, _, _, _, _, _, _, _, _, _, _, _, _, _, _, _, _, _, _, _, _, _, _, _, _, _, _, _, _, _, _, _, _, _, _, _, _, _, _, _, _, _, _, _, _, _, _, _, _, _, _, _, _, _, _, _, _, _, _, _, _, _, _, _, _, _, _, _, _, _, _, _, _, _, _, _, _, _, _, _, _, _, _, _, _, _, _, _, _, _, _, _, _, _, _, _, _, _, _, _, _, _, _, _, _, _, _, _, _, _⟩, rfl, by omega, ⟨D, L, unhide HK, unhide HQ⟩, HMN⟩ ?_
              simp [intOf]
              omega
    · go_wp2_with (
        first
        | (go_at_call 9
           refine (known9 _ ((unhide HK).first (unhide HF))).mono ?_
           rintro e V9 ⟨rfl, K9⟩
           replace HK := hide ((unhide HK).step K9)
           replace HMK := hide ((unhide HMK).kept0 K9)
           have HB6 := hide ((unhide H6).kept (unhide HK).k (by simp))
           clear K9
           refine Stp.go ?_))
      constructor
      go_wp2_with (
        first
        | (refine wpStV _ (.bool true) (st4 true) (by rfl) (.tmp 6) (.tmp 170) (by rfl) (by rfl) q6 (by rfl) (by rfl) (unhide HB6) ?_
           intro V10 B10 K10
           have HB10 := hide B10
           have HK10 := hide K10
           clear B10 K10
           refine Stp.go ?_))
      constructor
      go_wp2_with fail
      exact leaves6 rfl Ds _ ((unhide HMK).wr (unhide HK10) (unhide HB6)) (unhide HB10) (((unhide HW).trans (unhide HK).k).fresh (unhide HK10) (fun i hi hl => by have := unhide HG6; simp at hi; omega))
theorem reads6 (J : Ar.Job) (nd : Int) (so : Option Addr) (sc : Nat) (Z : List St) (w : World) (hF : Rc.First w) (hr : RowS St.C 100 w so Z) (hz : ∀ s ∈ Z, s.Ok) : Calls Tryd.prog 6 #[aggV (Ar.jobC J), .int .i64 nd, .slice so Z.length sc] w fun e w' => e = .returned (.bool true) ∧ Kept [] w w' := by
  refine (callsIn_wide (n := 3)).1 ?_
  by_cases h : J.may = true ∧ 0 ≤ nd ∧ nd < J.n ∧ Z.length ≤ 60
  · exact reads_ok J nd so _ sc Z w hF h.1 ⟨h.2.1, h.2.2.1⟩ h.2.2.2 rfl hr hz
  · exact reads_bad J nd so _ sc w hF h

end Go.Proofs.YtmeajhdhiebkdaaDoor
