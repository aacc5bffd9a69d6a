/-
  The walks of whole at the lists' instances.
-/
import Derived.Test.YtaljkpndfjfgdaaWhole
namespace Go.Proofs.Ytaljkpndfjfgdaa
open Go.RowKit

set_option maxHeartbeats 1000000 in
set_option maxRecDepth 100000 in
theorem whole54_ok (b g : Nat) (l : List Int) (ao : Option Addr) (m c : Nat) (w : World) (h : At w b g l ao m c) (q q2 : Value) (R : Ending → World → Prop)
    (H : Calls Try.prog 55 #[.pointer (some ⟨b, 0, none⟩), q, q2] (w.alloc (was ao m c)) fun e w1 => (∃ (o : Option Addr) (n k : Nat), e = .returned (.tuple #[.slice o n k, .int .i64 0])) ∧ R e w1) :
    Calls Try.prog 54 #[.pointer (some ⟨b, 0, none⟩), .func (.func 55) #[] #[q, q2]] w fun e w' => R e w' := by
  have hr := h.rd
  have hw := h.2.2.1
  have hc0 : w.cell? ⟨b, 0, none⟩ = some (.bool true) := by rw [cell_of_block hw]; rfl
  have hc1 : w.cell? ⟨b, 1, none⟩ = some (.slice ao m c) := by rw [cell_of_block hw]; rfl
  have H1 := hide H
  clear H hw
  go_enter Try.func54, Try.ntmps54
  go_wp2_with fail
  refine (none_rd b g l _ hr).mono ?_
  rintro e w' ⟨rfl, rfl⟩
  go_wp2_with fail
  refine (unhide H1).mono ?_
  rintro e w1 ⟨⟨o, n, k, rfl⟩, hR⟩
  have HR := hide hR
  clear H1 hc0 hc1 hR
  go_wp2
  exact unhide HR

set_option maxHeartbeats 1000000 in
set_option maxRecDepth 100000 in
theorem whole54_bad (b g : Nat) (l : List Int) (ao : Option Addr) (m c : Nat) (w : World) (h : At w b g l ao m c) (q q2 : Value) (er : Int) (her : er ≠ 0)
    (H : Calls Try.prog 55 #[.pointer (some ⟨b, 0, none⟩), q, q2] (w.alloc (was ao m c)) fun e w1 => (∃ (o : Option Addr) (n k : Nat), e = .returned (.tuple #[.slice o n k, .int .i64 er])) ∧ (∃ l1, Rd w1 b g l1) ∧ (w.alloc (was ao m c)).grownBy w1 (some b)) :
    Calls Try.prog 54 #[.pointer (some ⟨b, 0, none⟩), .func (.func 55) #[] #[q, q2]] w fun e w' => Tells w b g (.slice none 0 0) er l e w' := by
  have hr := h.rd
  have hw := h.2.2.1
  have hc0 : w.cell? ⟨b, 0, none⟩ = some (.bool true) := by rw [cell_of_block hw]; rfl
  have hc1 : w.cell? ⟨b, 1, none⟩ = some (.slice ao m c) := by rw [cell_of_block hw]; rfl
  have H1 := hide H
  have hne : (er != 0) = true := by rw [bne_iff_ne]; exact her
  clear H hw her
  go_enter Try.func54, Try.ntmps54
  go_wp2_with fail
  refine (none_rd b g l _ hr).mono ?_
  rintro e w' ⟨rfl, rfl⟩
  go_wp2_with fail
  refine (unhide H1).mono ?_
  rintro e w1 ⟨⟨o, n, k, rfl⟩, ⟨l1, hr1⟩, hg1⟩
  obtain ⟨k0, k1, ⟨v0, k2⟩, ⟨v1, k3⟩, k4, k5, k6⟩ := h.inside hr1 hg1
  have HB := hide (h.back hr1 hg1)
  clear H1 hc0 hc1 hr1 hg1
  go_wp2
  go_ret2
  exact ⟨rfl, unhide HB⟩

set_option maxHeartbeats 1000000 in
set_option maxRecDepth 100000 in
theorem whole54_nil (p f : Value) (w : World) (h : Nil w p) : Calls Try.prog 54 #[p, f] w fun e w' => e = .returned (.tuple #[.slice none 0 0, .int .i64 1]) ∧ w' = w := by
  go_enter Try.func54, Try.ntmps54
  go_wp2_with fail
  refine (nil_none h).mono ?_
  rintro e w' ⟨rfl, rfl⟩
  go_wp2
  go_ret2
  exact ⟨rfl, rfl⟩

set_option maxHeartbeats 1000000 in
set_option maxRecDepth 100000 in
theorem whole57_ok (b g : Nat) (l : List Int) (ao : Option Addr) (m c : Nat) (w : World) (h : At w b g l ao m c) (q q2 : Value) (R : Ending → World → Prop)
    (H : Calls Try.prog 58 #[.pointer (some ⟨b, 0, none⟩), q, q2] (w.alloc (was ao m c)) fun e w1 => (∃ (o : Option Addr) (n k : Nat), e = .returned (.tuple #[.slice o n k, .int .i64 0])) ∧ R e w1) :
    Calls Try.prog 57 #[.pointer (some ⟨b, 0, none⟩), .func (.func 58) #[] #[q, q2]] w fun e w' => R e w' := by
  have hr := h.rd
  have hw := h.2.2.1
  have hc0 : w.cell? ⟨b, 0, none⟩ = some (.bool true) := by rw [cell_of_block hw]; rfl
  have hc1 : w.cell? ⟨b, 1, none⟩ = some (.slice ao m c) := by rw [cell_of_block hw]; rfl
  have H1 := hide H
  clear H hw
  go_enter Try.func57, Try.ntmps57
  go_wp2_with fail
  refine (none_rd b g l _ hr).mono ?_
  rintro e w' ⟨rfl, rfl⟩
  go_wp2_with fail
  refine (unhide H1).mono ?_
  rintro e w1 ⟨⟨o, n, k, rfl⟩, hR⟩
  have HR := hide hR
  clear H1 hc0 hc1 hR
  go_wp2
  exact unhide HR

set_option maxHeartbeats 1000000 in
set_option maxRecDepth 100000 in
theorem whole57_bad (b g : Nat) (l : List Int) (ao : Option Addr) (m c : Nat) (w : World) (h : At w b g l ao m c) (q q2 : Value) (er : Int) (her : er ≠ 0)
    (H : Calls Try.prog 58 #[.pointer (some ⟨b, 0, none⟩), q, q2] (w.alloc (was ao m c)) fun e w1 => (∃ (o : Option Addr) (n k : Nat), e = .returned (.tuple #[.slice o n k, .int .i64 er])) ∧ (∃ l1, Rd w1 b g l1) ∧ (w.alloc (was ao m c)).grownBy w1 (some b)) :
    Calls Try.prog 57 #[.pointer (some ⟨b, 0, none⟩), .func (.func 58) #[] #[q, q2]] w fun e w' => Tells w b g (.slice none 0 0) er l e w' := by
  have hr := h.rd
  have hw := h.2.2.1
  have hc0 : w.cell? ⟨b, 0, none⟩ = some (.bool true) := by rw [cell_of_block hw]; rfl
  have hc1 : w.cell? ⟨b, 1, none⟩ = some (.slice ao m c) := by rw [cell_of_block hw]; rfl
  have H1 := hide H
  have hne : (er != 0) = true := by rw [bne_iff_ne]; exact her
  clear H hw her
  go_enter Try.func57, Try.ntmps57
  go_wp2_with fail
  refine (none_rd b g l _ hr).mono ?_
  rintro e w' ⟨rfl, rfl⟩
  go_wp2_with fail
  refine (unhide H1).mono ?_
  rintro e w1 ⟨⟨o, n, k, rfl⟩, ⟨l1, hr1⟩, hg1⟩
  obtain ⟨k0, k1, ⟨v0, k2⟩, ⟨v1, k3⟩, k4, k5, k6⟩ := h.inside hr1 hg1
  have HB := hide (h.back hr1 hg1)
  clear H1 hc0 hc1 hr1 hg1
  go_wp2
  go_ret2
  exact ⟨rfl, unhide HB⟩

set_option maxHeartbeats 1000000 in
set_option maxRecDepth 100000 in
theorem whole57_nil (p f : Value) (w : World) (h : Nil w p) : Calls Try.prog 57 #[p, f] w fun e w' => e = .returned (.tuple #[.slice none 0 0, .int .i64 1]) ∧ w' = w := by
  go_enter Try.func57, Try.ntmps57
  go_wp2_with fail
  refine (nil_none h).mono ?_
  rintro e w' ⟨rfl, rfl⟩
  go_wp2
  go_ret2
  exact ⟨rfl, rfl⟩

set_option maxHeartbeats 1000000 in
set_option maxRecDepth 100000 in
theorem whole61_ok (b g : Nat) (l : List Int) (ao : Option Addr) (m c : Nat) (w : World) (h : At w b g l ao m c) (q q2 : Value) (R : Ending → World → Prop)
    (H : Calls Try.prog 62 #[.pointer (some ⟨b, 0, none⟩), q, q2] (w.alloc (was ao m c)) fun e w1 => (∃ (o : Option Addr) (n k : Nat), e = .returned (.tuple #[.slice o n k, .int .i64 0])) ∧ R e w1) :
    Calls Try.prog 61 #[.pointer (some ⟨b, 0, none⟩), .func (.func 62) #[] #[q, q2]] w fun e w' => R e w' := by
  have hr := h.rd
  have hw := h.2.2.1
  have hc0 : w.cell? ⟨b, 0, none⟩ = some (.bool true) := by rw [cell_of_block hw]; rfl
  have hc1 : w.cell? ⟨b, 1, none⟩ = some (.slice ao m c) := by rw [cell_of_block hw]; rfl
  have H1 := hide H
  clear H hw
  go_enter Try.func61, Try.ntmps61
  go_wp2_with fail
  refine (none_rd b g l _ hr).mono ?_
  rintro e w' ⟨rfl, rfl⟩
  go_wp2_with fail
  refine (unhide H1).mono ?_
  rintro e w1 ⟨⟨o, n, k, rfl⟩, hR⟩
  have HR := hide hR
  clear H1 hc0 hc1 hR
  go_wp2
  exact unhide HR

set_option maxHeartbeats 1000000 in
set_option maxRecDepth 100000 in
theorem whole61_bad (b g : Nat) (l : List Int) (ao : Option Addr) (m c : Nat) (w : World) (h : At w b g l ao m c) (q q2 : Value) (er : Int) (her : er ≠ 0)
    (H : Calls Try.prog 62 #[.pointer (some ⟨b, 0, none⟩), q, q2] (w.alloc (was ao m c)) fun e w1 => (∃ (o : Option Addr) (n k : Nat), e = .returned (.tuple #[.slice o n k, .int .i64 er])) ∧ (∃ l1, Rd w1 b g l1) ∧ (w.alloc (was ao m c)).grownBy w1 (some b)) :
    Calls Try.prog 61 #[.pointer (some ⟨b, 0, none⟩), .func (.func 62) #[] #[q, q2]] w fun e w' => Tells w b g (.slice none 0 0) er l e w' := by
  have hr := h.rd
  have hw := h.2.2.1
  have hc0 : w.cell? ⟨b, 0, none⟩ = some (.bool true) := by rw [cell_of_block hw]; rfl
  have hc1 : w.cell? ⟨b, 1, none⟩ = some (.slice ao m c) := by rw [cell_of_block hw]; rfl
  have H1 := hide H
  have hne : (er != 0) = true := by rw [bne_iff_ne]; exact her
  clear H hw her
  go_enter Try.func61, Try.ntmps61
  go_wp2_with fail
  refine (none_rd b g l _ hr).mono ?_
  rintro e w' ⟨rfl, rfl⟩
  go_wp2_with fail
  refine (unhide H1).mono ?_
  rintro e w1 ⟨⟨o, n, k, rfl⟩, ⟨l1, hr1⟩, hg1⟩
  obtain ⟨k0, k1, ⟨v0, k2⟩, ⟨v1, k3⟩, k4, k5, k6⟩ := h.inside hr1 hg1
  have HB := hide (h.back hr1 hg1)
  clear H1 hc0 hc1 hr1 hg1
  go_wp2
  go_ret2
  exact ⟨rfl, unhide HB⟩

set_option maxHeartbeats 1000000 in
set_option maxRecDepth 100000 in
theorem whole61_nil (p f : Value) (w : World) (h : Nil w p) : Calls Try.prog 61 #[p, f] w fun e w' => e = .returned (.tuple #[.slice none 0 0, .int .i64 1]) ∧ w' = w := by
  go_enter Try.func61, Try.ntmps61
  go_wp2_with fail
  refine (nil_none h).mono ?_
  rintro e w' ⟨rfl, rfl⟩
  go_wp2
  go_ret2
  exact ⟨rfl, rfl⟩

end Go.Proofs.Ytaljkpndfjfgdaa
