/-
  Send, Double.
-/
import Derived.Test.YtpcggcicpojdoaaNl
namespace Go.Proofs.Ytpcggcicpojdoaa
open Go.RowKit

theorem send_arg (b mb : Nat) (v : Value) (N : Nn) (fr to : Int) (ao : Option Addr) (m c : Nat) (w : World) (h : Nt w b mb v N) (hb : (hasN N.nodes fr && hasN N.nodes to && decide (fr ≠ to)) = false) : Calls Try.prog 16 #[P0 b, .int .i64 fr, .int .i64 to, .slice ao m c] w fun e w' => e = .returned (.tuple #[.int .i64 0, .int .i64 2]) ∧ w' = w := by
  have PN := hide (none38 b mb v N w h)
  have PH1 := hide (has41 b mb v N fr w h)
  have PH2 := hide (has41 b mb v N to w h)
  cases h1 : hasN N.nodes fr with
  | false =>
    rw [h1] at PH1
    clear h hb
    go_enter Try.func16, Try.ntmps16
    go_wp2_with (
      first
      | (go_at_call 38
         refine (unhide PN).mono ?_
         rintro e V1 ⟨rfl, hw1⟩
         obtain rfl := hw1.symm
         clear hw1
         refine Stp.go ?_))
    constructor
    go_wp2_with (
      first
      | (go_at_call 41
         refine (unhide PH1).mono ?_
         rintro e V2 ⟨rfl, hw1⟩
         obtain rfl := hw1.symm
         clear hw1))
    go_ret2
    exact ⟨rfl, rfl⟩
  | true =>
    rw [h1] at PH1 hb
    cases h2 : hasN N.nodes to with
    | false =>
      rw [h2] at PH2
      clear h hb
      go_enter Try.func16, Try.ntmps16
      go_wp2_with (
        first
        | (go_at_call 38
           refine (unhide PN).mono ?_
           rintro e V1 ⟨rfl, hw1⟩
           obtain rfl := hw1.symm
           clear hw1
           refine Stp.go ?_))
      constructor
      go_wp2_with (
        first
        | (go_at_call 41
           refine (unhide PH1).mono ?_
           rintro e V2 ⟨rfl, hw1⟩
           obtain rfl := hw1.symm
           clear hw1
           refine Stp.go ?_))
      constructor
      go_wp2_with (
        first
        | (go_at_call 41
           refine (unhide PH2).mono ?_
           rintro e V3 ⟨rfl, hw1⟩
           obtain rfl := hw1.symm
           clear hw1))
      go_ret2
      exact ⟨rfl, rfl⟩
    | true =>
      rw [h2] at PH2 hb
      obtain rfl : fr = to := by simpa using hb
      rw [h2] at h1
      clear h hb h1
      go_enter Try.func16, Try.ntmps16
      go_wp2_with (
        first
        | (go_at_call 38
           refine (unhide PN).mono ?_
           rintro e V1 ⟨rfl, hw1⟩
           obtain rfl := hw1.symm
           clear hw1
           refine Stp.go ?_))
      constructor
      go_wp2_with (
        first
        | (go_at_call 41
           refine (unhide PH1).mono ?_
           rintro e V2 ⟨rfl, hw1⟩
           obtain rfl := hw1.symm
           clear hw1
           refine Stp.go ?_))
      constructor
      go_wp2_with (
        first
        | (go_at_call 41
           refine (unhide PH2).mono ?_
           rintro e V3 ⟨rfl, hw1⟩
           obtain rfl := hw1.symm
           clear hw1))
      go_ret2
      exact ⟨rfl, rfl⟩
theorem send_long (b mb : Nat) (v : Value) (N : Nn) (fr to : Int) (ao : Option Addr) (m c : Nat) (w : World) (h : Nt w b mb v N) (hb : (hasN N.nodes fr && hasN N.nodes to && decide (fr ≠ to)) = true) (hm : 512 < m) : Calls Try.prog 16 #[P0 b, .int .i64 fr, .int .i64 to, .slice ao m c] w fun e w' => e = .returned (.tuple #[.int .i64 0, .int .i64 3]) ∧ w' = w := by
  have PN := hide (none38 b mb v N w h)
  have PH1 := hide (has41 b mb v N fr w h)
  have PH2 := hide (has41 b mb v N to w h)
  simp only [Bool.and_eq_true, decide_eq_true_eq] at hb
  rw [hb.1.1] at PH1
  rw [hb.1.2] at PH2
  have hne := hb.2
  have hm' : (512 : Int) < m := by omega
  clear h hb
  go_enter Try.func16, Try.ntmps16
  go_wp2_with (
    first
    | (go_at_call 38
       refine (unhide PN).mono ?_
       rintro e V1 ⟨rfl, hw1⟩
       obtain rfl := hw1.symm
       clear hw1
       refine Stp.go ?_))
  constructor
  go_wp2_with (
    first
    | (go_at_call 41
       refine (unhide PH1).mono ?_
       rintro e V2 ⟨rfl, hw1⟩
       obtain rfl := hw1.symm
       clear hw1
       refine Stp.go ?_))
  constructor
  go_wp2_with (
    first
    | (go_at_call 41
       refine (unhide PH2).mono ?_
       rintro e V3 ⟨rfl, hw1⟩
       obtain rfl := hw1.symm
       clear hw1))
  go_ret2
  exact ⟨rfl, rfl⟩
theorem send_put (b mb : Nat) (v : Value) (N : Nn) (fr to : Int) (ao : Option Addr) (m c : Nat) (w : World) (h : Nt w b mb v N) (hb : (hasN N.nodes fr && hasN N.nodes to && decide (fr ≠ to)) = true) (hm : m ≤ 512) (R : Value → Value → World → Prop) (hp : Calls Try.prog 42 #[P0 b, .int .i64 fr, .int .i64 to, .slice ao m c] w fun e w' => ∃ x y, e = .returned (.tuple #[x, y]) ∧ R x y w') :
    Calls Try.prog 16 #[P0 b, .int .i64 fr, .int .i64 to, .slice ao m c] w fun e w' => ∃ x y, e = .returned (.tuple #[x, y]) ∧ R x y w' := by
  have PN := hide (none38 b mb v N w h)
  have PH1 := hide (has41 b mb v N fr w h)
  have PH2 := hide (has41 b mb v N to w h)
  simp only [Bool.and_eq_true, decide_eq_true_eq] at hb
  rw [hb.1.1] at PH1
  rw [hb.1.2] at PH2
  have hne := hb.2
  have hm' : (m : Int) ≤ 512 := by omega
  have PP := hide hp
  clear h hb hp
  go_enter Try.func16, Try.ntmps16
  go_wp2_with (
    first
    | (go_at_call 38
       refine (unhide PN).mono ?_
       rintro e V1 ⟨rfl, hw1⟩
       obtain rfl := hw1.symm
       clear hw1
       refine Stp.go ?_))
  constructor
  go_wp2_with (
    first
    | (go_at_call 41
       refine (unhide PH1).mono ?_
       rintro e V2 ⟨rfl, hw1⟩
       obtain rfl := hw1.symm
       clear hw1
       refine Stp.go ?_))
  constructor
  go_wp2_with (
    first
    | (go_at_call 41
       refine (unhide PH2).mono ?_
       rintro e V3 ⟨rfl, hw1⟩
       obtain rfl := hw1.symm
       clear hw1
       refine Stp.go ?_))
  constructor
  go_wp2_with (
    first
    | (go_at_call 42
       refine (unhide PP).mono ?_
       rintro e W1 ⟨x, y, rfl, hR⟩
       have HR := hide hR
       clear hR))
  go_ret2
  exact ⟨x, y, rfl, unhide HR⟩
theorem zL_one : ∀ u ∈ zL, u.oneCell' = true := by
  intro u hu
  simp [zL] at hu
  rcases hu with rfl | rfl <;> rfl
theorem double_none (b mb : Nat) (v : Value) (N : Nn) (k : Int) (w : World) (h : Nt w b mb v N) (hp : placeOf k N.L 0 = none) : Calls Try.prog 17 #[P0 b, .int .i64 k] w fun e w' => e = .returned (.tuple #[.int .i64 0, .int .i64 6]) ∧ Kept [] w w' := by
  have PN := hide (none38 b mb v N w h)
  have HL : Hid (lookL k N.L = zLtr) := by unfold lookL; rw [hp]; rfl
  have HFF : Hid ((placeOf k N.L 0).isSome = false) := by rw [hp]; rfl
  have HC := hide zL_one
  have hc2 := h.cells.2.2.1
  have HN := hide h
  clear h hp
  go_enter Try.func17, Try.ntmps17
  go_wp2_with (
    first
    | (go_at_call 38
       refine (unhide PN).mono ?_
       rintro e V1 ⟨rfl, hw1⟩
       obtain rfl := hw1.symm
       clear hw1
       refine Stp.go ?_))
  constructor
  go_wp2_with (
    first
    | (refine wpLookL (by rfl) (.tmp 14) (.tmp 15) (by rfl) mb N.L k zLtr false (unhide HL) (unhide HFF) (by kernel_rfl) (by kernel_rfl) (unhide HN).map ?_
       clear hc2
       refine Stp.go ?_))
  constructor
  go_wp2_with (
    first
    | (refine wpNew row47 zL rfl alloc47 6 (by rfl) (by rfl) (by rfl) (.tmp 17) (by rfl) (by rfl) (by rfl) zL rfl (unhide HC) (by kernel_rfl) (by kernel_rfl) ?_
       intro W3 p3 e3 B3 K3
       have HB := hide B3
       have HK := hide K3
       skip
       clear e3 B3 K3))
  go_ret2
  exact ⟨rfl, unhide HK⟩
theorem double_put (b mb : Nat) (v : Value) (N : Nn) (k : Int) (w : World) (h : Nt w b mb v N) (i : Nat) (l : Ltr) (hp : placeOf k N.L 0 = some (i, l)) (R : Value → Value → World → Prop) (hput : ∀ W, Kept [] w W → Calls Try.prog 42 #[P0 b, .int .i64 l.fr, .int .i64 l.to, l.v] W fun e w' => ∃ x y, e = .returned (.tuple #[x, y]) ∧ R x y w') :
    Calls Try.prog 17 #[P0 b, .int .i64 k] w fun e w' => ∃ x y, e = .returned (.tuple #[x, y]) ∧ R x y w' := by
  have PN := hide (none38 b mb v N w h)
  have hbd := h.body l (look_mem hp)
  obtain ⟨ao, c, hv, _, _⟩ := hbd.sl
  have HL : Hid (lookL k N.L = l) := by unfold lookL; rw [hp]; rfl
  have HFF : Hid ((placeOf k N.L 0).isSome = true) := by rw [hp]; rfl
  have hCo : ∀ u ∈ l.C, u.oneCell' = true := D_one (l := l) hbd.one
  have HC := hide hCo
  have hc2 := h.cells.2.2.1
  have HN := hide h
  have HV := hide hv
  rw [hv] at hput
  have PP := hide hput
  clear h hp hbd hCo hv hput
  go_enter Try.func17, Try.ntmps17
  go_wp2_with (
    first
    | (go_at_call 38
       refine (unhide PN).mono ?_
       rintro e V1 ⟨rfl, hw1⟩
       obtain rfl := hw1.symm
       clear hw1
       refine Stp.go ?_))
  constructor
  go_wp2_with (
    first
    | (refine wpLookL (by rfl) (.tmp 14) (.tmp 15) (by rfl) mb N.L k l true (unhide HL) (unhide HFF) (by kernel_rfl) (by kernel_rfl) (unhide HN).map ?_
       clear hc2
       refine Stp.go ?_))
  constructor
  go_wp2_with (
    first
    | (refine wpNew row47 zL rfl alloc47 6 (by rfl) (by rfl) (by rfl) (.tmp 17) (by rfl) (by rfl) (by rfl) l.C rfl (unhide HC) (by kernel_rfl) (by kernel_rfl) ?_
       intro W3 p3 e3 B3 K3
       have HB := hide B3
       have HK := hide K3
       have hd1 := fits_cell (unhide HB) 1 (.int .i64 l.fr) rfl
       have hd2 := fits_cell (unhide HB) 2 (.int .i64 l.to) rfl
       have hd3 := fits_cell (unhide HB) 3 (.slice ao l.bs.length c) (by rw [← unhide HV]; rfl)
       clear e3 B3 K3
       refine Stp.go ?_))
  constructor
  go_wp2_with (
    first
    | (go_at_call 42
       refine (unhide PP _ (unhide HK)).mono ?_
       rintro e W4 ⟨x, y, rfl, hR⟩
       have HR := hide hR
       clear hR hd1 hd2 hd3))
  go_ret2
  exact ⟨x, y, rfl, unhide HR⟩

end Go.Proofs.Ytpcggcicpojdoaa
