/-
  The walks of what changes a device: do, and the closures that it is handed.
-/
import Derived.Test.YtffflafalffifaaLook
import Derived.Deep.RegionHeld3
namespace Go.Proofs.Ytffflafalffifaa
open Go.RowKit

/-- A device one of whose cells is written. -/
theorem Dv.put {w : World} {b g i : Nat} {u : Value} {D D' : Dev} (h : Dv w b g D) (hok : D'.Ok) (hS : D'.S = D.S) (hc : ∀ cap, devCells D' g cap = (devCells D g cap).set i u) : Dv (w.setCell ⟨b, i, none⟩ u) b g D' := by
  obtain ⟨cap, h1, ex, h2, h3⟩ := h.lay
  refine ⟨hok, h.ne, cap, ?_, ex, ?_, ?_⟩
  · unfold Head at h1 ⊢
    rw [heap_set h1, hc cap, List.setIfInBounds_toArray]
  · rw [hS]; exact heap_set_ne h2 (Ne.symm h.ne)
  · rw [hS]; exact h3

theorem Dv.drew {w : World} {b g : Nat} {D : Dev} (h : Dv w b g D) : Dv w.drew b g D := h.kept (X := []) ((Kept.refl _ _).drew) (by simp) (by simp)
theorem Dv.alloc {w : World} {b g : Nat} {D : Dev} (h : Dv w b g D) (o : Obj) : Dv (w.alloc o) b g D := h.kept (X := []) ((Kept.refl _ _).alloc o) (by simp) (by simp)

theorem cells_left (D : Dev) (g cap : Nat) (hE : D.E.length = 8) (x : Int) : devCells { D with left := x } g cap = (devCells D g cap).set 12 (.int .i64 x) := by
  obtain ⟨e0, e1, e2, e3, e4, e5, e6, e7, hE⟩ := e_split hE
  simp [devCells, hE]
theorem cells_done (D : Dev) (g cap : Nat) (hE : D.E.length = 8) (x : Int) : devCells { D with done := x } g cap = (devCells D g cap).set 10 (.int .i64 x) := by
  obtain ⟨e0, e1, e2, e3, e4, e5, e6, e7, hE⟩ := e_split hE
  simp [devCells, hE]
theorem cells_lost (D : Dev) (g cap : Nat) (hE : D.E.length = 8) (x : Bool) : devCells { D with lost := x } g cap = (devCells D g cap).set 13 (.bool x) := by
  obtain ⟨e0, e1, e2, e3, e4, e5, e6, e7, hE⟩ := e_split hE
  simp [devCells, hE]
theorem cells_set (D : Dev) (g cap : Nat) (hE : D.E.length = 8) (x : Bool) : devCells { D with set := x } g cap = (devCells D g cap).set 11 (.bool x) := by
  obtain ⟨e0, e1, e2, e3, e4, e5, e6, e7, hE⟩ := e_split hE
  simp [devCells, hE]
theorem cells_epoch (D : Dev) (g cap : Nat) (hE : D.E.length = 8) (k : Nat) (hk : k < 8) (x : Int) : devCells { D with E := D.E.set k x } g cap = (devCells D g cap).set (2 + k) (.int .i64 x) := by
  simp only [devCells]
  rw [List.append_assoc, List.append_assoc, List.set_append_right _ _ (by simp), List.set_append_left _ _ (by simp; omega)]
  simp [List.map_set]

theorem Dev.Ok.left {D : Dev} (h : D.Ok) {x : Int} (hx : 0 ≤ x ∧ x ≤ 9223372036854775807) : ({ D with left := x } : Dev).Ok := ⟨h.s0, h.s1, h.sec, h.n0, h.n1, h.e8, h.e0, hx⟩
theorem Dev.Ok.done' {D : Dev} (h : D.Ok) (x : Int) : ({ D with done := x } : Dev).Ok := ⟨h.s0, h.s1, h.sec, h.n0, h.n1, h.e8, h.e0, h.l0⟩
theorem Dev.Ok.lost' {D : Dev} (h : D.Ok) (x : Bool) : ({ D with lost := x } : Dev).Ok := ⟨h.s0, h.s1, h.sec, h.n0, h.n1, h.e8, h.e0, h.l0⟩
theorem Dev.Ok.set' {D : Dev} (h : D.Ok) (x : Bool) : ({ D with set := x } : Dev).Ok := ⟨h.s0, h.s1, h.sec, h.n0, h.n1, h.e8, h.e0, h.l0⟩
theorem Dev.Ok.epoch {D : Dev} (h : D.Ok) (k : Nat) (x : Int) (hx : 0 ≤ x ∧ x ≤ 2147483647) : ({ D with E := D.E.set k x } : Dev).Ok :=
  ⟨h.s0, h.s1, h.sec, h.n0, h.n1, by simp [h.e8], fun e he => (List.mem_or_eq_of_mem_set he).elim (h.e0 e) (fun e1 => e1 ▸ hx), h.l0⟩
theorem Dev.Ok.sector {D : Dev} (h : D.Ok) (k : Nat) (s : List Int) (hs : Sec s) : ({ D with S := D.S.set k s } : Dev).Ok :=
  ⟨by simpa using h.s0, by simpa using h.s1, fun e he => (List.mem_or_eq_of_mem_set he).elim (h.sec e) (fun e1 => e1 ▸ hs), h.n0, h.n1, h.e8, h.e0, h.l0⟩

theorem raise61 (pe pd pn b g : Nat) (D : Dev) (k : Nat) (ep : Int) (w : World) (h : Dv w b g D) (hk : k < D.N) (hx : 0 ≤ ep ∧ ep ≤ 2147483647) (he : w.cell? ⟨pe, 0, none⟩ = some (.int .i64 ep)) (hd : w.cell? ⟨pd, 0, none⟩ = some (.pointer (some ⟨b, 0, none⟩))) (hn : w.cell? ⟨pn, 0, none⟩ = some (.int .i64 k)) (n1 : b ≠ pe) (n2 : b ≠ pd) (n3 : b ≠ pn) :
    Calls Try.prog 61 #[.pointer (some ⟨pe, 0, none⟩), .pointer (some ⟨pd, 0, none⟩), .pointer (some ⟨pn, 0, none⟩)] w fun e w' => e = .returned (.tuple #[]) ∧ Dv w' b g { D with E := D.E.set k ep } ∧ Kept [b] w w' := by
  have hc := ep_cell h k hk
  have h0 : (0 : Int) ≤ (k : Int) := by omega
  have h8 : (k : Int) < 8 := by have := h.ok.n1; omega
  have hp := h.put (h.ok.epoch k ep hx) rfl (fun cap => cells_epoch D g cap h.ok.e8 k (by omega) ep)
  obtain ⟨cap, hh, _⟩ := h.lay
  have hf := hh.frozen (2 + k)
  go_enter Try.func61, Try.ntmps61
  go_wp2
  go_region_held3 (fun w' => w'.cell? ⟨pe, 0, none⟩ = some (.int .i64 ep) ∧ w'.cell? ⟨pd, 0, none⟩ = some (.pointer (some ⟨b, 0, none⟩)) ∧ w'.cell? ⟨pn, 0, none⟩ = some (.int .i64 k)) (go_keep) (fail)
  all_goals go_wp2
  exact bodyPost_end (results_none rfl _ _ _) rfl ⟨rfl, hp.drew, ((Kept.refl _ _).setCell (by simp) _).drew⟩

/-- One thing is done, or not: the device, and whether. -/
def Dev.step (D : Dev) (S' : List (List Int)) (E' : List Int) : Dev × Bool :=
  if D.set = true ∧ D.left = 0 then ({ D with lost := true }, false)
  else ({ D with S := S', E := E', left := if D.set then D.left - 1 else D.left, done := wrap64 (D.done + 1) }, true)

set_option maxHeartbeats 1000000 in
theorem do54_61 (b g : Nat) (D : Dev) (S' : List (List Int)) (E' : List Int) (caps : Array Value) (w : World) (h : Dv w b g D)
    (T : ∀ D1 w1, D1.S = D.S → D1.E = D.E → D1.N = D.N → Dv w1 b g D1 → Kept [b] w w1 → Calls Try.prog 61 caps w1 fun e w2 => e = .returned (.tuple #[]) ∧ Dv w2 b g { D1 with S := S', E := E' } ∧ Kept [b, g] w1 w2) :
    Calls Try.prog 54 #[.pointer (some ⟨b, 0, none⟩), .func (.func 61) #[] caps] w fun e w' => e = .returned (.bool (D.step S' E').2) ∧ Dv w' b g (D.step S' E').1 ∧ Kept [b, g] w w' := by
  have hok := h.ok
  have hl0 := hok.l0
  obtain ⟨cap, hh, _⟩ := h.lay
  obtain ⟨_, _, hdn, hst, hlf, hlo⟩ := hh.cells h.ok
  have hfd := hh.frozen 10
  have hfl := hh.frozen 12
  have hfo := hh.frozen 13
  have HT := hide T
  clear T
  cases hs : D.set with
  | false =>
    have hR : D.step S' E' = ({ D with S := S', E := E', done := wrap64 (D.done + 1) }, true) := by simp [Dev.step, hs]
    rw [hR]
    rw [hs] at hst
    clear hR
    go_enter Try.func54, Try.ntmps54
    go_wp2_with fail
    refine (unhide HT D w rfl rfl rfl h (Kept.refl _ _)).mono ?_
    rintro e w2 ⟨rfl, h2, k2⟩
    obtain ⟨cap2, hh2, _⟩ := h2.lay
    obtain ⟨_, _, hdn2, _⟩ := hh2.cells h2.ok
    have hfd2 := hh2.frozen 10
    have hp := hide (h2.put (h2.ok.done' (wrap64 (D.done + 1))) rfl (fun cap => cells_done _ g cap h2.ok.e8 _))
    clear h hh hh2 hst hlf hlo hfd hfl hfo
    go_wp2
    go_ret
    exact ⟨rfl, unhide hp, k2.setCell (by simp) _⟩
  | true =>
    rw [hs] at hst
    by_cases hz : D.left = 0
    · have hR : D.step S' E' = ({ D with lost := true }, false) := by simp [Dev.step, hs, hz]
      rw [hR]
      have hp := h.put (hok.lost' true) rfl (fun cap => cells_lost D g cap hok.e8 true)
      have HP := hide hp
      clear hR hp
      go_enter Try.func54, Try.ntmps54
      go_wp2_with fail
      go_ret
      exact ⟨rfl, unhide HP, (Kept.refl _ _).setCell (by simp) _⟩
    · have hR : D.step S' E' = ({ D with S := S', E := E', left := D.left - 1, done := wrap64 (D.done + 1) }, true) := by simp [Dev.step, hs, hz]
      rw [hR]
      clear hR
      have hp1 := hide (h.put (hok.left (x := D.left - 1) (by omega)) rfl (fun cap => cells_left D g cap hok.e8 _))
      have k1 := hide ((Kept.refl [b] w).setCell (p := ⟨b, 12, none⟩) (by simp) (.int .i64 (D.left - 1)))
      go_enter Try.func54, Try.ntmps54
      go_wp2_with fail
      refine (unhide HT { D with left := D.left - 1 } _ rfl rfl rfl (unhide hp1) (unhide k1)).mono ?_
      rintro e w2 ⟨rfl, h2, k2⟩
      obtain ⟨cap2, hh2, _⟩ := h2.lay
      obtain ⟨_, _, hdn2, _⟩ := hh2.cells h2.ok
      have hfd2 := hh2.frozen 10
      have hp := hide (h2.put (h2.ok.done' (wrap64 (D.done + 1))) rfl (fun cap => cells_done _ g cap h2.ok.e8 _))
      have hk := hide (((unhide k1).mono (Y := [b, g]) (by simp)).trans k2)
      clear h hh hh2 hst hlf hlo hfd hfl hfo
      go_wp2
      go_ret
      exact ⟨rfl, unhide hp, (unhide hk).setCell (by simp) _⟩

set_option maxHeartbeats 1000000 in
theorem do54_55 (b g : Nat) (D : Dev) (S' : List (List Int)) (E' : List Int) (caps : Array Value) (w : World) (h : Dv w b g D)
    (T : ∀ D1 w1, D1.S = D.S → D1.E = D.E → D1.N = D.N → Dv w1 b g D1 → Kept [b] w w1 → Calls Try.prog 55 caps w1 fun e w2 => e = .returned (.tuple #[]) ∧ Dv w2 b g { D1 with S := S', E := E' } ∧ Kept [b, g] w1 w2) :
    Calls Try.prog 54 #[.pointer (some ⟨b, 0, none⟩), .func (.func 55) #[] caps] w fun e w' => e = .returned (.bool (D.step S' E').2) ∧ Dv w' b g (D.step S' E').1 ∧ Kept [b, g] w w' := by
  have hok := h.ok
  have hl0 := hok.l0
  obtain ⟨cap, hh, _⟩ := h.lay
  obtain ⟨_, _, hdn, hst, hlf, hlo⟩ := hh.cells h.ok
  have hfd := hh.frozen 10
  have hfl := hh.frozen 12
  have hfo := hh.frozen 13
  have HT := hide T
  clear T
  cases hs : D.set with
  | false =>
    have hR : D.step S' E' = ({ D with S := S', E := E', done := wrap64 (D.done + 1) }, true) := by simp [Dev.step, hs]
    rw [hR]
    rw [hs] at hst
    clear hR
    go_enter Try.func54, Try.ntmps54
    go_wp2_with fail
    refine (unhide HT D w rfl rfl rfl h (Kept.refl _ _)).mono ?_
    rintro e w2 ⟨rfl, h2, k2⟩
    obtain ⟨cap2, hh2, _⟩ := h2.lay
    obtain ⟨_, _, hdn2, _⟩ := hh2.cells h2.ok
    have hfd2 := hh2.frozen 10
    have hp := hide (h2.put (h2.ok.done' (wrap64 (D.done + 1))) rfl (fun cap => cells_done _ g cap h2.ok.e8 _))
    clear h hh hh2 hst hlf hlo hfd hfl hfo
    go_wp2
    go_ret
    exact ⟨rfl, unhide hp, k2.setCell (by simp) _⟩
  | true =>
    rw [hs] at hst
    by_cases hz : D.left = 0
    · have hR : D.step S' E' = ({ D with lost := true }, false) := by simp [Dev.step, hs, hz]
      rw [hR]
      have hp := h.put (hok.lost' true) rfl (fun cap => cells_lost D g cap hok.e8 true)
      have HP := hide hp
      clear hR hp
      go_enter Try.func54, Try.ntmps54
      go_wp2_with fail
      go_ret
      exact ⟨rfl, unhide HP, (Kept.refl _ _).setCell (by simp) _⟩
    · have hR : D.step S' E' = ({ D with S := S', E := E', left := D.left - 1, done := wrap64 (D.done + 1) }, true) := by simp [Dev.step, hs, hz]
      rw [hR]
      clear hR
      have hp1 := hide (h.put (hok.left (x := D.left - 1) (by omega)) rfl (fun cap => cells_left D g cap hok.e8 _))
      have k1 := hide ((Kept.refl [b] w).setCell (p := ⟨b, 12, none⟩) (by simp) (.int .i64 (D.left - 1)))
      go_enter Try.func54, Try.ntmps54
      go_wp2_with fail
      refine (unhide HT { D with left := D.left - 1 } _ rfl rfl rfl (unhide hp1) (unhide k1)).mono ?_
      rintro e w2 ⟨rfl, h2, k2⟩
      obtain ⟨cap2, hh2, _⟩ := h2.lay
      obtain ⟨_, _, hdn2, _⟩ := hh2.cells h2.ok
      have hfd2 := hh2.frozen 10
      have hp := hide (h2.put (h2.ok.done' (wrap64 (D.done + 1))) rfl (fun cap => cells_done _ g cap h2.ok.e8 _))
      have hk := hide (((unhide k1).mono (Y := [b, g]) (by simp)).trans k2)
      clear h hh hh2 hst hlf hlo hfd hfl hfo
      go_wp2
      go_ret
      exact ⟨rfl, unhide hp, (unhide hk).setCell (by simp) _⟩

set_option maxHeartbeats 1000000 in
theorem do54_57 (b g : Nat) (D : Dev) (S' : List (List Int)) (E' : List Int) (caps : Array Value) (w : World) (h : Dv w b g D)
    (T : ∀ D1 w1, D1.S = D.S → D1.E = D.E → D1.N = D.N → Dv w1 b g D1 → Kept [b] w w1 → Calls Try.prog 57 caps w1 fun e w2 => e = .returned (.tuple #[]) ∧ Dv w2 b g { D1 with S := S', E := E' } ∧ Kept [b, g] w1 w2) :
    Calls Try.prog 54 #[.pointer (some ⟨b, 0, none⟩), .func (.func 57) #[] caps] w fun e w' => e = .returned (.bool (D.step S' E').2) ∧ Dv w' b g (D.step S' E').1 ∧ Kept [b, g] w w' := by
  have hok := h.ok
  have hl0 := hok.l0
  obtain ⟨cap, hh, _⟩ := h.lay
  obtain ⟨_, _, hdn, hst, hlf, hlo⟩ := hh.cells h.ok
  have hfd := hh.frozen 10
  have hfl := hh.frozen 12
  have hfo := hh.frozen 13
  have HT := hide T
  clear T
  cases hs : D.set with
  | false =>
    have hR : D.step S' E' = ({ D with S := S', E := E', done := wrap64 (D.done + 1) }, true) := by simp [Dev.step, hs]
    rw [hR]
    rw [hs] at hst
    clear hR
    go_enter Try.func54, Try.ntmps54
    go_wp2_with fail
    refine (unhide HT D w rfl rfl rfl h (Kept.refl _ _)).mono ?_
    rintro e w2 ⟨rfl, h2, k2⟩
    obtain ⟨cap2, hh2, _⟩ := h2.lay
    obtain ⟨_, _, hdn2, _⟩ := hh2.cells h2.ok
    have hfd2 := hh2.frozen 10
    have hp := hide (h2.put (h2.ok.done' (wrap64 (D.done + 1))) rfl (fun cap => cells_done _ g cap h2.ok.e8 _))
    clear h hh hh2 hst hlf hlo hfd hfl hfo
    go_wp2
    go_ret
    exact ⟨rfl, unhide hp, k2.setCell (by simp) _⟩
  | true =>
    rw [hs] at hst
    by_cases hz : D.left = 0
    · have hR : D.step S' E' = ({ D with lost := true }, false) := by simp [Dev.step, hs, hz]
      rw [hR]
      have hp := h.put (hok.lost' true) rfl (fun cap => cells_lost D g cap hok.e8 true)
      have HP := hide hp
      clear hR hp
      go_enter Try.func54, Try.ntmps54
      go_wp2_with fail
      go_ret
      exact ⟨rfl, unhide HP, (Kept.refl _ _).setCell (by simp) _⟩
    · have hR : D.step S' E' = ({ D with S := S', E := E', left := D.left - 1, done := wrap64 (D.done + 1) }, true) := by simp [Dev.step, hs, hz]
      rw [hR]
      clear hR
      have hp1 := hide (h.put (hok.left (x := D.left - 1) (by omega)) rfl (fun cap => cells_left D g cap hok.e8 _))
      have k1 := hide ((Kept.refl [b] w).setCell (p := ⟨b, 12, none⟩) (by simp) (.int .i64 (D.left - 1)))
      go_enter Try.func54, Try.ntmps54
      go_wp2_with fail
      refine (unhide HT { D with left := D.left - 1 } _ rfl rfl rfl (unhide hp1) (unhide k1)).mono ?_
      rintro e w2 ⟨rfl, h2, k2⟩
      obtain ⟨cap2, hh2, _⟩ := h2.lay
      obtain ⟨_, _, hdn2, _⟩ := hh2.cells h2.ok
      have hfd2 := hh2.frozen 10
      have hp := hide (h2.put (h2.ok.done' (wrap64 (D.done + 1))) rfl (fun cap => cells_done _ g cap h2.ok.e8 _))
      have hk := hide (((unhide k1).mono (Y := [b, g]) (by simp)).trans k2)
      clear h hh hh2 hst hlf hlo hfd hfl hfo
      go_wp2
      go_ret
      exact ⟨rfl, unhide hp, (unhide hk).setCell (by simp) _⟩

end Go.Proofs.Ytffflafalffifaa
