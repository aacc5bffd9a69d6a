/-
  Pages and Held.
-/
import Derived.Test.YtbigongmlpoahaaDq
namespace Go.Proofs.Ytbigongmlpoahaa.D
set_option maxRecDepth 100000
set_option linter.unusedSimpArgs false
open Go.RowKit Go.Shelf
attribute [local go_sem] Oper.semAt_some


section
variable {ops : Array Oper} {rest : List Oper} {op : Oper} {a : Act} {w : World} {Q : Exit → Act → World → Prop}
theorem wpBoxF {T : Nat} (hgd : op.guard = none) (x : Operand) (ho : op.op = .box T x) (g : Nat) (cs : Array Value) (hx : a.eval x = fnV g cs)
    (h : ∀ W b, b = w.heap.size → Blk W b T [fnV g cs] → Kept [] w W → wpList Try.prog ops Q rest (a.put op.dst (P0 b)) W) : wpList Try.prog ops Q (op :: rest) a w :=
  wpList_plain hgd fun _ hK => by
    unfold Oper.wp execOp
    simp only [ho, hx]
    exact hK _ _ (h _ _ rfl (Blk.new w T _) ((Kept.refl _ _).alloc _))
end
theorem zero42 (w : World) : (Instr.alloc 42 true (.tuple #[])).run Try.prog w = .ok (P0 w.heap.size) (w.alloc (.cells [Value.pointer none].toArray 42)) := by kernel_rfl
theorem size42 : (Try.prog.info? 42).map (·.size) = some 1 := by kernel_rfl
/-- What an iterator over a copy holds. -/
structure It (w W : World) (A T g : Nat) (cs : Array Value) (L : List Lk) (c1 c2 b' mb' : Nat) (C : List Lk) : Prop where
  h1 : Blk W c1 42 [P0 b']
  h2 : Blk W c2 T [fnV g cs]
  dg : Dg A W b' mb' C
  cp : Cp w W A mb' L (rise L).length C
  ge : w.heap.size ≤ c1 ∧ w.heap.size ≤ c2 ∧ w.heap.size ≤ b' ∧ w.heap.size ≤ mb'
  k : Kept [] w W
variable {w W : World} {A b mb g : Nat} {cs : Array Value} {L : List Lk} {v : Value} {m : Int}
set_option maxHeartbeats 2000000 in
theorem asItIs55 (h : Dg A w b mb L) : Calls Try.prog 55 #[P0 b, fnV g cs] w fun e W => ∃ c1 c2 b' mb' C, e = .returned (fnV 88 #[P0 c1, P0 c2]) ∧ It w W A 99 g cs L c1 c2 b' mb' C := by
  have H := hide h
  clear h
  go_enter Try.func55, Try.ntmps55
  go_wp2_with (
    first
    | (refine wpBoxF rfl (.tmp 1) rfl g cs rfl ?_
       intro W1 c2 e1 B1 K1
       have HC2 := hide B1
       have HK := hide K1
       have HG2 : Hid (w.heap.size ≤ c2) := by show _ ≤ _; omega
       clear e1 B1 K1
       refine Stp.go ?_))
  constructor
  go_wp2_with (
    first
    | (go_at_call 13
       refine (copy13 ((unhide H).step0 (unhide HK))).mono ?_
       rintro e W2 ⟨b2, m2, C, rfl, g1, g2, g3, g4, g5⟩
       have HS := (unhide HK).size
       have HD := hide g1
       have HCP : Hid (Cp w W2 A m2 L (rise L).length C) := ⟨g2.map, g2.ks, fun y hy => ⟨(g2.lk y hy).1, Nat.le_trans HS (g2.lk y hy).2.1, (g2.lk y hy).2.2⟩, g2.ap⟩
       have HG : Hid (w.heap.size ≤ b2 ∧ w.heap.size ≤ m2) := ⟨Nat.le_trans HS g3, Nat.le_trans HS g4⟩
       replace HC2 := hide ((unhide HC2).kept g5 (by simp))
       replace HK := hide ((unhide HK).trans g5)
       clear g1 g2 g3 g4 g5 HS
       refine Stp.go ?_))
  constructor
  go_wp2_with (
    first
    | (refine wpAllocW ([Value.pointer none]) zero42 5 rfl rfl rfl ?_
       intro W3 c1 e1 B1 K1
       have HC1 := hide B1
       have HG1 : Hid (w.heap.size ≤ c1 ∧ c2 < c1) := ⟨by have h9 := (unhide HK).size; omega, by have h9 := (unhide HC2).lt; omega⟩
       have HD0 := HD
       replace HC2 := hide ((unhide HC2).kept K1 (by simp))
       replace HD := hide ((unhide HD).step0 K1)
       replace HCP := hide ((unhide HCP).nod K1 (by simp))
       replace HK := hide ((unhide HK).trans K1)
       have HLT : Hid (b2 ≠ c1 ∧ m2 ≠ c1 ∧ ∀ x ∈ C, x.p ≠ c1 ∧ ∀ i, x.ln.ownBlock = some i → i ≠ c1) := by have hl := (unhide HD0).lts; exact ⟨by omega, by omega, fun x hx => ⟨by have := (hl.2.2 x hx).1; omega, fun i hi => by have := (hl.2.2 x hx).2 i hi; omega⟩⟩
       clear e1 B1 K1
       refine Stp.go ?_))
  constructor
  go_wp2_with (
    first
    | (refine wpStF size42 rfl (.tmp 5) (.tmp 7) rfl rfl c1 0 (P0 b2) ⟨rfl, rfl⟩ rfl rfl (unhide HC1) (by decide) ?_
       intro W5 B5 K5
       have hlt := unhide HLT
       have HR : Hid (It w W5 A 99 g cs L c1 c2 b2 m2 C) := by
         refine ⟨B5, (unhide HC2).kept K5 (by simp; have := (unhide HG1).2; omega), (unhide HD).step K5 (by simp; exact hlt.1) (by simp; exact hlt.2.1) (fun x hx => ⟨by simp; exact (hlt.2.2 x hx).1, fun i hi => by simp; exact (hlt.2.2 x hx).2 i hi⟩), ?_, ⟨(unhide HG1).1, unhide HG2, (unhide HG).1, (unhide HG).2⟩, (unhide HK).fresh K5 (fun i hi hl => by simp at hi; have := (unhide HG1).1; omega)⟩
         have hc := unhide HCP
         exact ⟨hc.map.kept K5 (by simp; exact hlt.2.1), hc.ks, fun y hy => ⟨(hc.lk y hy).1.kept K5 (by simp; exact (hlt.2.2 y hy).1) (fun i hi => by simp; exact (hlt.2.2 y hy).2 i hi), (hc.lk y hy).2⟩, hc.ap⟩
       clear B5 K5 hlt
       refine Stp.go ?_))
  constructor
  go_wp2_with fail
  go_ret
  exact ⟨c1, c2, b2, m2, C, rfl, unhide HR⟩
set_option maxHeartbeats 2000000 in
theorem asItIs57 (h : Dg A w b mb L) : Calls Try.prog 57 #[P0 b, fnV g cs] w fun e W => ∃ c1 c2 b' mb' C, e = .returned (fnV 89 #[P0 c1, P0 c2]) ∧ It w W A 103 g cs L c1 c2 b' mb' C := by
  have H := hide h
  clear h
  go_enter Try.func57, Try.ntmps57
  go_wp2_with (
    first
    | (refine wpBoxF rfl (.tmp 1) rfl g cs rfl ?_
       intro W1 c2 e1 B1 K1
       have HC2 := hide B1
       have HK := hide K1
       have HG2 : Hid (w.heap.size ≤ c2) := by show _ ≤ _; omega
       clear e1 B1 K1
       refine Stp.go ?_))
  constructor
  go_wp2_with (
    first
    | (go_at_call 13
       refine (copy13 ((unhide H).step0 (unhide HK))).mono ?_
       rintro e W2 ⟨b2, m2, C, rfl, g1, g2, g3, g4, g5⟩
       have HS := (unhide HK).size
       have HD := hide g1
       have HCP : Hid (Cp w W2 A m2 L (rise L).length C) := ⟨g2.map, g2.ks, fun y hy => ⟨(g2.lk y hy).1, Nat.le_trans HS (g2.lk y hy).2.1, (g2.lk y hy).2.2⟩, g2.ap⟩
       have HG : Hid (w.heap.size ≤ b2 ∧ w.heap.size ≤ m2) := ⟨Nat.le_trans HS g3, Nat.le_trans HS g4⟩
       replace HC2 := hide ((unhide HC2).kept g5 (by simp))
       replace HK := hide ((unhide HK).trans g5)
       clear g1 g2 g3 g4 g5 HS
       refine Stp.go ?_))
  constructor
  go_wp2_with (
    first
    | (refine wpAllocW ([Value.pointer none]) zero42 5 rfl rfl rfl ?_
       intro W3 c1 e1 B1 K1
       have HC1 := hide B1
       have HG1 : Hid (w.heap.size ≤ c1 ∧ c2 < c1) := ⟨by have h9 := (unhide HK).size; omega, by have h9 := (unhide HC2).lt; omega⟩
       have HD0 := HD
       replace HC2 := hide ((unhide HC2).kept K1 (by simp))
       replace HD := hide ((unhide HD).step0 K1)
       replace HCP := hide ((unhide HCP).nod K1 (by simp))
       replace HK := hide ((unhide HK).trans K1)
       have HLT : Hid (b2 ≠ c1 ∧ m2 ≠ c1 ∧ ∀ x ∈ C, x.p ≠ c1 ∧ ∀ i, x.ln.ownBlock = some i → i ≠ c1) := by have hl := (unhide HD0).lts; exact ⟨by omega, by omega, fun x hx => ⟨by have := (hl.2.2 x hx).1; omega, fun i hi => by have := (hl.2.2 x hx).2 i hi; omega⟩⟩
       clear e1 B1 K1
       refine Stp.go ?_))
  constructor
  go_wp2_with (
    first
    | (refine wpStF size42 rfl (.tmp 5) (.tmp 7) rfl rfl c1 0 (P0 b2) ⟨rfl, rfl⟩ rfl rfl (unhide HC1) (by decide) ?_
       intro W5 B5 K5
       have hlt := unhide HLT
       have HR : Hid (It w W5 A 103 g cs L c1 c2 b2 m2 C) := by
         refine ⟨B5, (unhide HC2).kept K5 (by simp; have := (unhide HG1).2; omega), (unhide HD).step K5 (by simp; exact hlt.1) (by simp; exact hlt.2.1) (fun x hx => ⟨by simp; exact (hlt.2.2 x hx).1, fun i hi => by simp; exact (hlt.2.2 x hx).2 i hi⟩), ?_, ⟨(unhide HG1).1, unhide HG2, (unhide HG).1, (unhide HG).2⟩, (unhide HK).fresh K5 (fun i hi hl => by simp at hi; have := (unhide HG1).1; omega)⟩
         have hc := unhide HCP
         exact ⟨hc.map.kept K5 (by simp; exact hlt.2.1), hc.ks, fun y hy => ⟨(hc.lk y hy).1.kept K5 (by simp; exact (hlt.2.2 y hy).1) (fun i hi => by simp; exact (hlt.2.2 y hy).2 i hi), (hc.lk y hy).2⟩, hc.ap⟩
       clear B5 K5 hlt
       refine Stp.go ?_))
  constructor
  go_wp2_with fail
  go_ret
  exact ⟨c1, c2, b2, m2, C, rfl, unhide HR⟩

set_option maxHeartbeats 2000000 in
theorem pages22 (h : Dg A w b mb L) : Calls Try.prog 22 #[P0 b] w fun e W => ∃ c1 c2 b' mb' C, e = .returned (fnV 88 #[P0 c1, P0 c2]) ∧ It w W A 99 56 #[] L c1 c2 b' mb' C := by
  have H := hide h
  clear h
  go_enter Try.func22, Try.ntmps22
  go_wp2_with (
    first
    | (go_at_call 55
       refine (asItIs55 (g := 56) (cs := #[]) (unhide H)).mono ?_
       rintro e W2 ⟨c1, c2, b2, m2, C, rfl, g1⟩
       have HR := hide g1
       clear g1
       refine Stp.go ?_))
  constructor
  go_wp2_with fail
  go_ret
  exact ⟨c1, c2, b2, m2, C, rfl, unhide HR⟩
set_option maxHeartbeats 2000000 in
theorem held23 (h : Dg A w b mb L) (m : Int) : Calls Try.prog 23 #[P0 b, .int .i64 m] w fun e W => ∃ cn c1 c2 b' mb' C W1, e = .returned (fnV 89 #[P0 c1, P0 c2]) ∧ w.heap.size ≤ cn ∧ Kept [] w W1 ∧ cn < W1.heap.size ∧ Blk W cn 3 [.int .i64 m] ∧ It W1 W A 103 58 #[P0 cn] L c1 c2 b' mb' C := by
  have H := hide h
  clear h
  go_enter Try.func23, Try.ntmps23
  go_wp2_with (
    first
    | (refine wpBox1 rfl (.tmp 1) rfl m rfl ?_
       intro W1 cn e1 B1 K1
       have HB := hide B1
       have HK := hide K1
       have HG : Hid (w.heap.size ≤ cn) := by show _ ≤ _; omega
       clear e1 B1 K1
       refine Stp.go ?_))
  constructor
  go_wp2_with (
    first
    | (go_at_call 57
       refine (asItIs57 (g := 58) (cs := #[P0 cn]) ((unhide H).step0 (unhide HK))).mono ?_
       rintro e W2 ⟨c1, c2, b2, m2, C, rfl, g1⟩
       have HR := hide g1
       clear g1
       refine Stp.go ?_))
  constructor
  go_wp2_with fail
  go_ret
  exact ⟨cn, c1, c2, b2, m2, C, W1, rfl, unhide HG, unhide HK, (unhide HB).lt, (unhide HB).kept (unhide HR).k (by simp), unhide HR⟩

end Go.Proofs.Ytbigongmlpoahaa.D
