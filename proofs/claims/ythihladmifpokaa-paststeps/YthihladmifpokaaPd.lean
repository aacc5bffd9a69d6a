/-
  Past images in memory; their small functions.
-/
import Derived.Test.YthihladmifpokaaPc
namespace Go.Proofs.Ythihladmifpokaa
set_option maxRecDepth 100000
set_option linter.unusedSimpArgs false
open Go.RowKit


/-- Marks that may be. -/
structure Ok (L : List Mk) : Prop where
  may : ∀ l ∈ L, (0 ≤ l.p ∧ l.p < 16) ∧ (1 ≤ l.s ∧ l.s ≤ 2147483647) ∧ (1 ≤ l.f ∧ l.f ≤ 2147483647)
  many : L.length ≤ 256
/-- Past images stand in memory. -/
structure Pg (W : World) (b mb : Nat) (L : List Mk) : Prop where
  blk : Blk W b 52 [.map (some mb)]
  map : MapAt W mb L
  ok : Ok L
/-- None: nil, or a zero one. -/
def Nil (W : World) (v : Value) : Prop := v = .pointer none ∨ ∃ b, v = P0 b ∧ Blk W b 52 [.map none]
variable {w W W' : World} {b mb : Nat} {L : List Mk} {v : Value}
theorem Pg.step (h : Pg W b mb L) {X : List Nat} (hk : Kept X W W') (h1 : b ∉ X) (h2 : mb ∉ X) : Pg W' b mb L := ⟨h.blk.kept hk h1, h.map.kept hk h2, h.ok⟩
theorem Pg.cw (h : Pg W b mb L) : W.cell? ⟨b, 0, none⟩ = some (.map (some mb)) := fits_cell h.blk 0 _ rfl
theorem Pg.ne (h : Pg W b mb L) : b ≠ mb := map_not_cells h.map h.blk
theorem Nil.step (h : Nil W v) (hk : Kept [] W W') : Nil W' v := by
  rcases h with rfl | ⟨b, rfl, h⟩
  · exact .inl rfl
  · exact .inr ⟨b, rfl, h.kept hk (by simp)⟩
theorem marks33 (h : Pg w b mb L) : Calls Try.prog 33 #[P0 b] w fun e w' => e = .returned (.map (some mb)) ∧ w' = w := by
  have c0 := h.cw
  clear h
  go_enter Try.func33, Try.ntmps33
  go_wp2
  go_ret
  exact ⟨rfl, rfl⟩
theorem marks33_z (h : Nil w v) : Calls Try.prog 33 #[v] w fun e w' => e = .returned (.map none) ∧ w' = w := by
  rcases h with rfl | ⟨b, rfl, h⟩
  · go_enter Try.func33, Try.ntmps33
    go_wp2
    go_ret
    exact ⟨rfl, rfl⟩
  · have c0 := fits_cell h 0 _ rfl
    clear h
    go_enter Try.func33, Try.ntmps33
    go_wp2
    go_ret
    exact ⟨rfl, rfl⟩
theorem eqm50 (mb : Nat) (W : World) : Sem.run Try.prog (binOp BinOp.eql 50 (.map (some mb)) (.map none)) W = .ok (.bool false) W := by kernel_rfl
theorem eqm50z (W : World) : Sem.run Try.prog (binOp BinOp.eql 50 (.map none) (.map none)) W = .ok (.bool true) W := by kernel_rfl
theorem none31 (h : Pg w b mb L) : Calls Try.prog 31 #[P0 b] w fun e w' => e = .returned (.bool false) ∧ w' = w := by
  have H := hide h
  have hq := eqm50 mb
  clear h
  go_enter Try.func31, Try.ntmps31
  go_wp2_with (
    first
    | (go_at_call 33
       refine (marks33 (unhide H)).mono ?_
       rintro e W9 ⟨rfl, q9⟩
       replace q9 := q9.symm
       subst q9
       refine Stp.go ?_))
  constructor
  go_wp2_with fail
  go_ret
  exact ⟨rfl, rfl⟩
theorem none31_z (h : Nil w v) : Calls Try.prog 31 #[v] w fun e w' => e = .returned (.bool true) ∧ w' = w := by
  have H := hide h
  have hq := eqm50z
  clear h
  go_enter Try.func31, Try.ntmps31
  go_wp2_with (
    first
    | (go_at_call 33
       refine (marks33_z (unhide H)).mono ?_
       rintro e W9 ⟨rfl, q9⟩
       replace q9 := q9.symm
       subst q9
       refine Stp.go ?_))
  constructor
  go_wp2_with fail
  go_ret
  exact ⟨rfl, rfl⟩
theorem len18 (h : Pg w b mb L) : Calls Try.prog 18 #[P0 b] w fun e w' => e = .returned (.int .i64 (L.length : Int)) ∧ w' = w := by
  have H := hide h
  clear h
  go_enter Try.func18, Try.ntmps18
  go_wp2_with (
    first
    | (go_at_call 33
       refine (marks33 (unhide H)).mono ?_
       rintro e W9 ⟨rfl, q9⟩
       replace q9 := q9.symm
       subst q9
       refine Stp.go ?_))
  constructor
  go_wp2_with (
    first
    | (refine wpLen50 rfl (.tmp 4) rfl mb L rfl (unhide H).map ?_
       refine Stp.go ?_))
  constructor
  go_wp2_with fail
  go_ret
  exact ⟨rfl, rfl⟩
theorem len18_z (h : Nil w v) : Calls Try.prog 18 #[v] w fun e w' => e = .returned (.int .i64 0) ∧ w' = w := by
  have H := hide h
  clear h
  go_enter Try.func18, Try.ntmps18
  go_wp2_with (
    first
    | (go_at_call 33
       refine (marks33_z (unhide H)).mono ?_
       rintro e W9 ⟨rfl, q9⟩
       replace q9 := q9.symm
       subst q9
       refine Stp.go ?_))
  constructor
  go_wp2_with fail
  go_ret
  exact ⟨rfl, rfl⟩
def isPg (n : Int) : Bool := decide (0 ≤ n) && decide (n < 16)
def isSt (n : Int) : Bool := decide (1 ≤ n) && decide (n ≤ 2147483647)
theorem isPage34 (n : Int) (w : World) : Calls Try.prog 34 #[.int .i64 n] w fun e w' => e = .returned (.bool (isPg n)) ∧ w' = w := by
  unfold isPg
  go_enter Try.func34, Try.ntmps34
  by_cases h1 : 0 ≤ n
  · have d1 : decide (n ≥ 0) = true := by simpa using h1
    by_cases h2 : n < 16
    · have d2 : decide (n < 16) = true := by simpa using h2
      go_wp2
      go_ret
      exact ⟨ret_bool (by simp [h1, h2]), rfl⟩
    · have d2 : decide (n < 16) = false := by simpa using h2
      go_wp2
      go_ret
      exact ⟨ret_bool (by simp [h1, h2]), rfl⟩
  · have d1 : decide (n ≥ 0) = false := by simpa using h1
    go_wp2
    go_ret
    exact ⟨ret_bool (by simp [h1]), rfl⟩
theorem isStamp35 (n : Int) (w : World) : Calls Try.prog 35 #[.int .i64 n] w fun e w' => e = .returned (.bool (isSt n)) ∧ w' = w := by
  unfold isSt
  go_enter Try.func35, Try.ntmps35
  by_cases h1 : 1 ≤ n
  · have d1 : decide (n ≥ 1) = true := by simpa using h1
    by_cases h2 : n ≤ 2147483647
    · have d2 : decide (n ≤ 2147483647) = true := by simpa using h2
      go_wp2
      go_ret
      exact ⟨ret_bool (by simp [h1, h2]), rfl⟩
    · have d2 : decide (n ≤ 2147483647) = false := by simpa using h2
      go_wp2
      go_ret
      exact ⟨ret_bool (by simp [h1, h2]), rfl⟩
  · have d1 : decide (n ≥ 1) = false := by simpa using h1
    go_wp2
    go_ret
    exact ⟨ret_bool (by simp [h1]), rfl⟩

end Go.Proofs.Ythihladmifpokaa
