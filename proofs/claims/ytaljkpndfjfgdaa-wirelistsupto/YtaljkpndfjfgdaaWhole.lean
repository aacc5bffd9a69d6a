/-
  The walks of whole at its instances, and of the reader's methods over them.
-/
import Derived.Test.YtaljkpndfjfgdaaRead
namespace Go.Proofs.Ytaljkpndfjfgdaa
open Go.RowKit

theorem hide {p : Prop} (h : p) : Hid p := h
theorem unhide {p : Prop} (h : Hid p) : p := h

/-- What the block of the reader's copy is. -/
def was (ao : Option Addr) (m c : Nat) : Obj := .cells #[.bool true, .slice ao m c] 73

/-- A reader's cells. -/
def At (w : World) (b g : Nat) (l : List Int) (ao : Option Addr) (m c : Nat) : Prop :=
  Byt l ∧ b ≠ g ∧ w.heap[b]? = some (.cells #[.bool true, .slice ao m c] 73 (0, 0)) ∧ Holds w ao m c l ∧ ∀ a, ao = some a → ∃ off, a = ⟨g, off, none⟩

theorem At.rd {w : World} {b g : Nat} {l : List Int} {ao : Option Addr} {m c : Nat} (h : At w b g l ao m c) : Rd w b g l := ⟨h.1, h.2.1, ao, m, c, h.2.2⟩
theorem Rd.at {w : World} {b g : Nat} {l : List Int} (h : Rd w b g l) : ∃ ao m c, At w b g l ao m c := by
  obtain ⟨h1, h2, ao, m, c, h3⟩ := h
  exact ⟨ao, m, c, h1, h2, h3⟩

theorem heap_set0 {w : World} {b : Nat} {v0 v1 u : Value} {t : TypeId} (h : w.heap[b]? = some (.cells #[v0, v1] t (0, 0))) : (w.setCell ⟨b, 0, none⟩ u).heap[b]? = some (.cells #[u, v1] t (0, 0)) := by
  simp only [World.setCell, Array.getElem?_modify, if_true, h, Option.map_some]
  rfl

theorem grownBy_none {w w' : World} {row : Option Nat} (h : w.grownBy w' none) : w.grownBy w' row := ⟨h.os, h.tape, h.output, h.size, fun k hk _ => h.block k hk (by simp)⟩

/-- A pointer whose reader is none. -/
def Nil (w : World) (p : Value) : Prop := (p = .pointer none ∨ ∃ b, p = .pointer (some ⟨b, 0, none⟩) ∧ w.cell? ⟨b, 0, none⟩ = some (.bool false))

theorem nil_none {w : World} {p : Value} (h : Nil w p) : Calls Try.prog 44 #[p] w fun e w' => e = .returned (.bool true) ∧ w' = w := by
  rcases h with rfl | ⟨b, rfl, hc⟩
  · exact none_nil w
  · exact none_zero b w hc

/-- The reader laid back. -/
theorem At.back {w w1 : World} {b g : Nat} {l l1 : List Int} {ao : Option Addr} {m c : Nat} (h : At w b g l ao m c) (hr : Rd w1 b g l1) (hg : (w.alloc (was ao m c)).grownBy w1 (some b)) :
    Rd ((w1.setCell ⟨b, 0, none⟩ (.bool true)).setCell ⟨b, 1, none⟩ (.slice ao m c)) b g l ∧ w.grownBy ((w1.setCell ⟨b, 0, none⟩ (.bool true)).setCell ⟨b, 1, none⟩ (.slice ao m c)) (some b) := by
  obtain ⟨hby, hbg, hw, hh, ha⟩ := h
  obtain ⟨_, _, ao1, m1, c1, hw1, _, _⟩ := hr
  have hG : w.grownBy ((w1.setCell ⟨b, 0, none⟩ (.bool true)).setCell ⟨b, 1, none⟩ (.slice ao m c)) (some b) :=
    grownBy_trans (World.grownBy_alloc _ _ _) (grownBy_trans hg (grownBy_trans (grownBy_set _ _ _ _) (grownBy_set _ _ _ _)))
  refine ⟨⟨hby, hbg, ao, m, c, heap_set1 (heap_set0 hw1), ⟨hh.1, hh.2.1, hh.2.2.1, ?_⟩, ha⟩, hG⟩
  intro ad had j u hj
  have hc := hh.2.2.2 ad had j u hj
  obtain ⟨off, rfl⟩ := ha ad had
  rw [Addr.add_lit] at hc ⊢
  exact hG.cell hc (by simpa using Ne.symm hbg)

/-- What stands where, behind the call inside whole. -/
theorem At.inside {w w1 : World} {b g : Nat} {l l1 : List Int} {ao : Option Addr} {m c : Nat} (h : At w b g l ao m c) (hr : Rd w1 b g l1) (hg : (w.alloc (was ao m c)).grownBy w1 (some b)) :
    w1.cell? ⟨w.heap.size, 0, none⟩ = some (.bool true) ∧ w1.cell? ⟨w.heap.size, 1, none⟩ = some (.slice ao m c) ∧ (∃ v, w1.cell? ⟨b, 0, none⟩ = some v) ∧ (∃ v, w1.cell? ⟨b, 1, none⟩ = some v) ∧ w1.frozen? ⟨b, 0, none⟩ = false ∧ w1.frozen? ⟨b, 1, none⟩ = false ∧ w.heap.size ≠ b := by
  have hb : b < w.heap.size := (Array.getElem?_eq_some_iff.1 h.2.2.1).1
  obtain ⟨_, _, ao1, m1, c1, hw1, _, _⟩ := hr
  have hN : w1.heap[w.heap.size]? = some (.cells #[.bool true, .slice ao m c] 73 (0, 0)) := by
    rw [hg.block w.heap.size (by simp) (by simp; omega)]; exact heap_alloc_new w _
  exact ⟨by rw [cell_of_block hN]; rfl, by rw [cell_of_block hN]; rfl, ⟨_, by rw [cell_of_block hw1]; rfl⟩, ⟨_, by rw [cell_of_block hw1]; rfl⟩, frozen_of_block hw1 0, frozen_of_block hw1 1, by omega⟩

set_option maxHeartbeats 1000000 in
set_option maxRecDepth 100000 in
theorem whole45_ok (b g : Nat) (l : List Int) (ao : Option Addr) (m c : Nat) (w : World) (h : At w b g l ao m c) (R : Ending → World → Prop)
    (H : Calls Try.prog 46 #[.pointer (some ⟨b, 0, none⟩)] (w.alloc (was ao m c)) fun e w1 => (∃ (x : Int), e = .returned (.tuple #[.int .u64 x, .int .i64 0])) ∧ R e w1) :
    Calls Try.prog 45 #[.pointer (some ⟨b, 0, none⟩), .func (.func 46) #[] #[]] w fun e w' => R e w' := by
  have hr := h.rd
  have hw := h.2.2.1
  have hc0 : w.cell? ⟨b, 0, none⟩ = some (.bool true) := by rw [cell_of_block hw]; rfl
  have hc1 : w.cell? ⟨b, 1, none⟩ = some (.slice ao m c) := by rw [cell_of_block hw]; rfl
  have H1 := hide H
  clear H hw
  go_enter Try.func45, Try.ntmps45
  go_wp2_with fail
  refine (none_rd b g l _ hr).mono ?_
  rintro e w' ⟨rfl, rfl⟩
  go_wp2_with fail
  refine (unhide H1).mono ?_
  rintro e w1 ⟨⟨x, rfl⟩, hR⟩
  have HR := hide hR
  clear H1 hc0 hc1 hR
  go_wp2
  exact unhide HR

set_option maxHeartbeats 1000000 in
set_option maxRecDepth 100000 in
theorem whole45_bad (b g : Nat) (l : List Int) (ao : Option Addr) (m c : Nat) (w : World) (h : At w b g l ao m c) (er : Int) (her : er ≠ 0)
    (H : Calls Try.prog 46 #[.pointer (some ⟨b, 0, none⟩)] (w.alloc (was ao m c)) fun e w1 => (∃ (x : Int), e = .returned (.tuple #[.int .u64 x, .int .i64 er])) ∧ (∃ l1, Rd w1 b g l1) ∧ (w.alloc (was ao m c)).grownBy w1 (some b)) :
    Calls Try.prog 45 #[.pointer (some ⟨b, 0, none⟩), .func (.func 46) #[] #[]] w fun e w' => Tells w b g (.int .u64 0) er l e w' := by
  have hr := h.rd
  have hw := h.2.2.1
  have hc0 : w.cell? ⟨b, 0, none⟩ = some (.bool true) := by rw [cell_of_block hw]; rfl
  have hc1 : w.cell? ⟨b, 1, none⟩ = some (.slice ao m c) := by rw [cell_of_block hw]; rfl
  have H1 := hide H
  have hne : (er != 0) = true := by rw [bne_iff_ne]; exact her
  clear H hw her
  go_enter Try.func45, Try.ntmps45
  go_wp2_with fail
  refine (none_rd b g l _ hr).mono ?_
  rintro e w' ⟨rfl, rfl⟩
  go_wp2_with fail
  refine (unhide H1).mono ?_
  rintro e w1 ⟨⟨x, rfl⟩, ⟨l1, hr1⟩, hg1⟩
  obtain ⟨k0, k1, ⟨v0, k2⟩, ⟨v1, k3⟩, k4, k5, k6⟩ := h.inside hr1 hg1
  have HB := hide (h.back hr1 hg1)
  clear H1 hc0 hc1 hr1 hg1
  go_wp2
  go_ret2
  exact ⟨rfl, unhide HB⟩

set_option maxHeartbeats 1000000 in
set_option maxRecDepth 100000 in
theorem whole45_nil (p f : Value) (w : World) (h : Nil w p) : Calls Try.prog 45 #[p, f] w fun e w' => e = .returned (.tuple #[.int .u64 0, .int .i64 1]) ∧ w' = w := by
  go_enter Try.func45, Try.ntmps45
  go_wp2_with fail
  refine (nil_none h).mono ?_
  rintro e w' ⟨rfl, rfl⟩
  go_wp2
  go_ret2
  exact ⟨rfl, rfl⟩

set_option maxHeartbeats 1000000 in
set_option maxRecDepth 100000 in
theorem whole47_ok (b g : Nat) (l : List Int) (ao : Option Addr) (m c : Nat) (w : World) (h : At w b g l ao m c) (R : Ending → World → Prop)
    (H : Calls Try.prog 48 #[.pointer (some ⟨b, 0, none⟩)] (w.alloc (was ao m c)) fun e w1 => (∃ (x : Int), e = .returned (.tuple #[.int .i64 x, .int .i64 0])) ∧ R e w1) :
    Calls Try.prog 47 #[.pointer (some ⟨b, 0, none⟩), .func (.func 48) #[] #[]] w fun e w' => R e w' := by
  have hr := h.rd
  have hw := h.2.2.1
  have hc0 : w.cell? ⟨b, 0, none⟩ = some (.bool true) := by rw [cell_of_block hw]; rfl
  have hc1 : w.cell? ⟨b, 1, none⟩ = some (.slice ao m c) := by rw [cell_of_block hw]; rfl
  have H1 := hide H
  clear H hw
  go_enter Try.func47, Try.ntmps47
  go_wp2_with fail
  refine (none_rd b g l _ hr).mono ?_
  rintro e w' ⟨rfl, rfl⟩
  go_wp2_with fail
  refine (unhide H1).mono ?_
  rintro e w1 ⟨⟨x, rfl⟩, hR⟩
  have HR := hide hR
  clear H1 hc0 hc1 hR
  go_wp2
  exact unhide HR

set_option maxHeartbeats 1000000 in
set_option maxRecDepth 100000 in
theorem whole47_bad (b g : Nat) (l : List Int) (ao : Option Addr) (m c : Nat) (w : World) (h : At w b g l ao m c) (er : Int) (her : er ≠ 0)
    (H : Calls Try.prog 48 #[.pointer (some ⟨b, 0, none⟩)] (w.alloc (was ao m c)) fun e w1 => (∃ (x : Int), e = .returned (.tuple #[.int .i64 x, .int .i64 er])) ∧ (∃ l1, Rd w1 b g l1) ∧ (w.alloc (was ao m c)).grownBy w1 (some b)) :
    Calls Try.prog 47 #[.pointer (some ⟨b, 0, none⟩), .func (.func 48) #[] #[]] w fun e w' => Tells w b g (.int .i64 0) er l e w' := by
  have hr := h.rd
  have hw := h.2.2.1
  have hc0 : w.cell? ⟨b, 0, none⟩ = some (.bool true) := by rw [cell_of_block hw]; rfl
  have hc1 : w.cell? ⟨b, 1, none⟩ = some (.slice ao m c) := by rw [cell_of_block hw]; rfl
  have H1 := hide H
  have hne : (er != 0) = true := by rw [bne_iff_ne]; exact her
  clear H hw her
  go_enter Try.func47, Try.ntmps47
  go_wp2_with fail
  refine (none_rd b g l _ hr).mono ?_
  rintro e w' ⟨rfl, rfl⟩
  go_wp2_with fail
  refine (unhide H1).mono ?_
  rintro e w1 ⟨⟨x, rfl⟩, ⟨l1, hr1⟩, hg1⟩
  obtain ⟨k0, k1, ⟨v0, k2⟩, ⟨v1, k3⟩, k4, k5, k6⟩ := h.inside hr1 hg1
  have HB := hide (h.back hr1 hg1)
  clear H1 hc0 hc1 hr1 hg1
  go_wp2
  go_ret2
  exact ⟨rfl, unhide HB⟩

set_option maxHeartbeats 1000000 in
set_option maxRecDepth 100000 in
theorem whole47_nil (p f : Value) (w : World) (h : Nil w p) : Calls Try.prog 47 #[p, f] w fun e w' => e = .returned (.tuple #[.int .i64 0, .int .i64 1]) ∧ w' = w := by
  go_enter Try.func47, Try.ntmps47
  go_wp2_with fail
  refine (nil_none h).mono ?_
  rintro e w' ⟨rfl, rfl⟩
  go_wp2
  go_ret2
  exact ⟨rfl, rfl⟩

set_option maxHeartbeats 1000000 in
set_option maxRecDepth 100000 in
theorem whole52_ok (b g : Nat) (l : List Int) (ao : Option Addr) (m c : Nat) (w : World) (h : At w b g l ao m c) (R : Ending → World → Prop)
    (H : Calls Try.prog 53 #[.pointer (some ⟨b, 0, none⟩)] (w.alloc (was ao m c)) fun e w1 => (∃ (x : Bool), e = .returned (.tuple #[.bool x, .int .i64 0])) ∧ R e w1) :
    Calls Try.prog 52 #[.pointer (some ⟨b, 0, none⟩), .func (.func 53) #[] #[]] w fun e w' => R e w' := by
  have hr := h.rd
  have hw := h.2.2.1
  have hc0 : w.cell? ⟨b, 0, none⟩ = some (.bool true) := by rw [cell_of_block hw]; rfl
  have hc1 : w.cell? ⟨b, 1, none⟩ = some (.slice ao m c) := by rw [cell_of_block hw]; rfl
  have H1 := hide H
  clear H hw
  go_enter Try.func52, Try.ntmps52
  go_wp2_with fail
  refine (none_rd b g l _ hr).mono ?_
  rintro e w' ⟨rfl, rfl⟩
  go_wp2_with fail
  refine (unhide H1).mono ?_
  rintro e w1 ⟨⟨x, rfl⟩, hR⟩
  have HR := hide hR
  clear H1 hc0 hc1 hR
  go_wp2
  exact unhide HR

set_option maxHeartbeats 1000000 in
set_option maxRecDepth 100000 in
theorem whole52_bad (b g : Nat) (l : List Int) (ao : Option Addr) (m c : Nat) (w : World) (h : At w b g l ao m c) (er : Int) (her : er ≠ 0)
    (H : Calls Try.prog 53 #[.pointer (some ⟨b, 0, none⟩)] (w.alloc (was ao m c)) fun e w1 => (∃ (x : Bool), e = .returned (.tuple #[.bool x, .int .i64 er])) ∧ (∃ l1, Rd w1 b g l1) ∧ (w.alloc (was ao m c)).grownBy w1 (some b)) :
    Calls Try.prog 52 #[.pointer (some ⟨b, 0, none⟩), .func (.func 53) #[] #[]] w fun e w' => Tells w b g (.bool false) er l e w' := by
  have hr := h.rd
  have hw := h.2.2.1
  have hc0 : w.cell? ⟨b, 0, none⟩ = some (.bool true) := by rw [cell_of_block hw]; rfl
  have hc1 : w.cell? ⟨b, 1, none⟩ = some (.slice ao m c) := by rw [cell_of_block hw]; rfl
  have H1 := hide H
  have hne : (er != 0) = true := by rw [bne_iff_ne]; exact her
  clear H hw her
  go_enter Try.func52, Try.ntmps52
  go_wp2_with fail
  refine (none_rd b g l _ hr).mono ?_
  rintro e w' ⟨rfl, rfl⟩
  go_wp2_with fail
  refine (unhide H1).mono ?_
  rintro e w1 ⟨⟨x, rfl⟩, ⟨l1, hr1⟩, hg1⟩
  obtain ⟨k0, k1, ⟨v0, k2⟩, ⟨v1, k3⟩, k4, k5, k6⟩ := h.inside hr1 hg1
  have HB := hide (h.back hr1 hg1)
  clear H1 hc0 hc1 hr1 hg1
  go_wp2
  go_ret2
  exact ⟨rfl, unhide HB⟩

set_option maxHeartbeats 1000000 in
set_option maxRecDepth 100000 in
theorem whole52_nil (p f : Value) (w : World) (h : Nil w p) : Calls Try.prog 52 #[p, f] w fun e w' => e = .returned (.tuple #[.bool false, .int .i64 1]) ∧ w' = w := by
  go_enter Try.func52, Try.ntmps52
  go_wp2_with fail
  refine (nil_none h).mono ?_
  rintro e w' ⟨rfl, rfl⟩
  go_wp2
  go_ret2
  exact ⟨rfl, rfl⟩

set_option maxHeartbeats 1000000 in
set_option maxRecDepth 100000 in
theorem whole49_ok (b g : Nat) (l : List Int) (ao : Option Addr) (m c : Nat) (w : World) (h : At w b g l ao m c) (q : Value) (R : Ending → World → Prop)
    (H : Calls Try.prog 50 #[.pointer (some ⟨b, 0, none⟩), q] (w.alloc (was ao m c)) fun e w1 => (∃ (o : Option Addr) (n k : Nat), e = .returned (.tuple #[.slice o n k, .int .i64 0])) ∧ R e w1) :
    Calls Try.prog 49 #[.pointer (some ⟨b, 0, none⟩), .func (.func 50) #[] #[q]] w fun e w' => R e w' := by
  have hr := h.rd
  have hw := h.2.2.1
  have hc0 : w.cell? ⟨b, 0, none⟩ = some (.bool true) := by rw [cell_of_block hw]; rfl
  have hc1 : w.cell? ⟨b, 1, none⟩ = some (.slice ao m c) := by rw [cell_of_block hw]; rfl
  have H1 := hide H
  clear H hw
  go_enter Try.func49, Try.ntmps49
  go_wp2_with fail
  refine (none_rd b g l _ hr).mono ?_
  rintro e w' ⟨rfl, rfl⟩
  go_wp2_with fail
  refine (unhide H1).mono ?_
  rintro e w1 ⟨⟨o, n, k, rfl⟩, hR⟩
  have HR := hide hR
  clear H1 hc0 hc1 hR
  go_wp2
  exact unhide HR

set_option maxHeartbeats 1000000 in
set_option maxRecDepth 100000 in
theorem whole49_bad (b g : Nat) (l : List Int) (ao : Option Addr) (m c : Nat) (w : World) (h : At w b g l ao m c) (q : Value) (er : Int) (her : er ≠ 0)
    (H : Calls Try.prog 50 #[.pointer (some ⟨b, 0, none⟩), q] (w.alloc (was ao m c)) fun e w1 => (∃ (o : Option Addr) (n k : Nat), e = .returned (.tuple #[.slice o n k, .int .i64 er])) ∧ (∃ l1, Rd w1 b g l1) ∧ (w.alloc (was ao m c)).grownBy w1 (some b)) :
    Calls Try.prog 49 #[.pointer (some ⟨b, 0, none⟩), .func (.func 50) #[] #[q]] w fun e w' => Tells w b g (.slice none 0 0) er l e w' := by
  have hr := h.rd
  have hw := h.2.2.1
  have hc0 : w.cell? ⟨b, 0, none⟩ = some (.bool true) := by rw [cell_of_block hw]; rfl
  have hc1 : w.cell? ⟨b, 1, none⟩ = some (.slice ao m c) := by rw [cell_of_block hw]; rfl
  have H1 := hide H
  have hne : (er != 0) = true := by rw [bne_iff_ne]; exact her
  clear H hw her
  go_enter Try.func49, Try.ntmps49
  go_wp2_with fail
  refine (none_rd b g l _ hr).mono ?_
  rintro e w' ⟨rfl, rfl⟩
  go_wp2_with fail
  refine (unhide H1).mono ?_
  rintro e w1 ⟨⟨o, n, k, rfl⟩, ⟨l1, hr1⟩, hg1⟩
  obtain ⟨k0, k1, ⟨v0, k2⟩, ⟨v1, k3⟩, k4, k5, k6⟩ := h.inside hr1 hg1
  have HB := hide (h.back hr1 hg1)
  clear H1 hc0 hc1 hr1 hg1
  go_wp2
  go_ret2
  exact ⟨rfl, unhide HB⟩

set_option maxHeartbeats 1000000 in
set_option maxRecDepth 100000 in
theorem whole49_nil (p f : Value) (w : World) (h : Nil w p) : Calls Try.prog 49 #[p, f] w fun e w' => e = .returned (.tuple #[.slice none 0 0, .int .i64 1]) ∧ w' = w := by
  go_enter Try.func49, Try.ntmps49
  go_wp2_with fail
  refine (nil_none h).mono ?_
  rintro e w' ⟨rfl, rfl⟩
  go_wp2
  go_ret2
  exact ⟨rfl, rfl⟩

end Go.Proofs.Ytaljkpndfjfgdaa
