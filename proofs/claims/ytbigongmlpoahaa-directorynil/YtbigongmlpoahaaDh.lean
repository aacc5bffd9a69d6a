/-
  The calls of no directory; Book, Idle's beginnings.
-/
import Derived.Test.YtbigongmlpoahaaDg
namespace Go.Proofs.Ytbigongmlpoahaa.D
set_option maxRecDepth 100000
set_option linter.unusedSimpArgs false
open Go.RowKit

variable {A F : Nat} {w W W' : World} {b mb : Nat} {L : List Lk} {v ln : Value} {n : Int} {x : Lk}
set_option maxHeartbeats 2000000 in
theorem want15_z (h : Nil w v) (n m md : Int) : Calls Try.prog 15 #[v, .int .i64 n, .int .i64 m, .int .i64 md] w fun e W => e = .returned (.tuple #[.slice none 0 0, .int .i64 1]) ∧ Kept [] w W := by
  obtain ⟨pz, rfl⟩ := h.ptr
  have H := hide h
  have HK := hide (Kept.refl [] w)
  clear h
  go_enter Try.func15, Try.ntmps15
  go_wp2_with (
    first
    | (refine wpBox1 rfl (.tmp 2) rfl m rfl ?_
       intro W0 c0 e0 B0 K0
       replace HK := hide ((unhide HK).trans K0)
       clear e0 B0 K0
       refine Stp.go ?_))
  constructor
  go_wp2_with (
    first
    | (refine wpBox1 rfl (.tmp 3) rfl md rfl ?_
       intro W1 c1 e1 B1 K1
       replace HK := hide ((unhide HK).trans K1)
       clear e1 B1 K1
       refine Stp.go ?_))
  constructor
  go_wp2_with (
    first
    | (go_at_call 41
       refine (ask41_z ((unhide H).step (unhide HK)) n 42 #[P0 c0, P0 c1]).mono ?_
       rintro e W9 ⟨rfl, h9⟩
       replace HK := hide ((unhide HK).trans h9)
       clear h9
       refine Stp.go ?_))
  constructor
  go_wp2_with fail
  go_ret2
  exact ⟨rfl, unhide HK⟩
set_option maxHeartbeats 2000000 in
theorem clean16_z (h : Nil w v) (n m : Int) : Calls Try.prog 16 #[v, .int .i64 n, .int .i64 m] w fun e W => e = .returned (.tuple #[.slice none 0 0, .int .i64 1]) ∧ Kept [] w W := by
  obtain ⟨pz, rfl⟩ := h.ptr
  have H := hide h
  have HK := hide (Kept.refl [] w)
  clear h
  go_enter Try.func16, Try.ntmps16
  go_wp2_with (
    first
    | (refine wpBox1 rfl (.tmp 2) rfl m rfl ?_
       intro W0 c0 e0 B0 K0
       replace HK := hide ((unhide HK).trans K0)
       clear e0 B0 K0
       refine Stp.go ?_))
  constructor
  go_wp2_with (
    first
    | (go_at_call 41
       refine (ask41_z ((unhide H).step (unhide HK)) n 44 #[P0 c0]).mono ?_
       rintro e W9 ⟨rfl, h9⟩
       replace HK := hide ((unhide HK).trans h9)
       clear h9
       refine Stp.go ?_))
  constructor
  go_wp2_with fail
  go_ret2
  exact ⟨rfl, unhide HK⟩
set_option maxHeartbeats 2000000 in
theorem gone17_z (h : Nil w v) (n m c : Int) : Calls Try.prog 17 #[v, .int .i64 n, .int .i64 m, .int .i64 c] w fun e W => e = .returned (.tuple #[.slice none 0 0, .int .i64 1]) ∧ Kept [] w W := by
  obtain ⟨pz, rfl⟩ := h.ptr
  have H := hide h
  have HK := hide (Kept.refl [] w)
  clear h
  go_enter Try.func17, Try.ntmps17
  go_wp2_with (
    first
    | (refine wpBox1 rfl (.tmp 2) rfl m rfl ?_
       intro W0 c0 e0 B0 K0
       replace HK := hide ((unhide HK).trans K0)
       clear e0 B0 K0
       refine Stp.go ?_))
  constructor
  go_wp2_with (
    first
    | (refine wpBox1 rfl (.tmp 3) rfl c rfl ?_
       intro W1 c1 e1 B1 K1
       replace HK := hide ((unhide HK).trans K1)
       clear e1 B1 K1
       refine Stp.go ?_))
  constructor
  go_wp2_with (
    first
    | (go_at_call 41
       refine (ask41_z ((unhide H).step (unhide HK)) n 46 #[P0 c0, P0 c1]).mono ?_
       rintro e W9 ⟨rfl, h9⟩
       replace HK := hide ((unhide HK).trans h9)
       clear h9
       refine Stp.go ?_))
  constructor
  go_wp2_with fail
  go_ret2
  exact ⟨rfl, unhide HK⟩
set_option maxHeartbeats 2000000 in
theorem got18_z (h : Nil w v) (n m c : Int) : Calls Try.prog 18 #[v, .int .i64 n, .int .i64 m, .int .i64 c] w fun e W => e = .returned (.tuple #[.slice none 0 0, .int .i64 1]) ∧ Kept [] w W := by
  obtain ⟨pz, rfl⟩ := h.ptr
  have H := hide h
  have HK := hide (Kept.refl [] w)
  clear h
  go_enter Try.func18, Try.ntmps18
  go_wp2_with (
    first
    | (refine wpBox1 rfl (.tmp 2) rfl m rfl ?_
       intro W0 c0 e0 B0 K0
       replace HK := hide ((unhide HK).trans K0)
       clear e0 B0 K0
       refine Stp.go ?_))
  constructor
  go_wp2_with (
    first
    | (refine wpBox1 rfl (.tmp 3) rfl c rfl ?_
       intro W1 c1 e1 B1 K1
       replace HK := hide ((unhide HK).trans K1)
       clear e1 B1 K1
       refine Stp.go ?_))
  constructor
  go_wp2_with (
    first
    | (go_at_call 41
       refine (ask41_z ((unhide H).step (unhide HK)) n 48 #[P0 c0, P0 c1]).mono ?_
       rintro e W9 ⟨rfl, h9⟩
       replace HK := hide ((unhide HK).trans h9)
       clear h9
       refine Stp.go ?_))
  constructor
  go_wp2_with fail
  go_ret2
  exact ⟨rfl, unhide HK⟩
set_option maxHeartbeats 2000000 in
theorem rel19_z (h : Nil w v) (n m c : Int) : Calls Try.prog 19 #[v, .int .i64 n, .int .i64 m, .int .i64 c] w fun e W => e = .returned (.tuple #[.slice none 0 0, .int .i64 1]) ∧ Kept [] w W := by
  obtain ⟨pz, rfl⟩ := h.ptr
  have H := hide h
  have HK := hide (Kept.refl [] w)
  clear h
  go_enter Try.func19, Try.ntmps19
  go_wp2_with (
    first
    | (refine wpBox1 rfl (.tmp 2) rfl m rfl ?_
       intro W0 c0 e0 B0 K0
       replace HK := hide ((unhide HK).trans K0)
       clear e0 B0 K0
       refine Stp.go ?_))
  constructor
  go_wp2_with (
    first
    | (refine wpBox1 rfl (.tmp 3) rfl c rfl ?_
       intro W1 c1 e1 B1 K1
       replace HK := hide ((unhide HK).trans K1)
       clear e1 B1 K1
       refine Stp.go ?_))
  constructor
  go_wp2_with (
    first
    | (go_at_call 41
       refine (ask41_z ((unhide H).step (unhide HK)) n 50 #[P0 c0, P0 c1]).mono ?_
       rintro e W9 ⟨rfl, h9⟩
       replace HK := hide ((unhide HK).trans h9)
       clear h9
       refine Stp.go ?_))
  constructor
  go_wp2_with fail
  go_ret2
  exact ⟨rfl, unhide HK⟩
set_option maxHeartbeats 2000000 in
theorem wrote20_z (h : Nil w v) (n m c p : Int) : Calls Try.prog 20 #[v, .int .i64 n, .int .i64 m, .int .i64 c, .int .i64 p] w fun e W => e = .returned (.tuple #[.slice none 0 0, .int .i64 1]) ∧ Kept [] w W := by
  obtain ⟨pz, rfl⟩ := h.ptr
  have H := hide h
  have HK := hide (Kept.refl [] w)
  clear h
  go_enter Try.func20, Try.ntmps20
  go_wp2_with (
    first
    | (refine wpBox1 rfl (.tmp 2) rfl m rfl ?_
       intro W0 c0 e0 B0 K0
       replace HK := hide ((unhide HK).trans K0)
       clear e0 B0 K0
       refine Stp.go ?_))
  constructor
  go_wp2_with (
    first
    | (refine wpBox1 rfl (.tmp 3) rfl c rfl ?_
       intro W1 c1 e1 B1 K1
       replace HK := hide ((unhide HK).trans K1)
       clear e1 B1 K1
       refine Stp.go ?_))
  constructor
  go_wp2_with (
    first
    | (refine wpBox1 rfl (.tmp 4) rfl p rfl ?_
       intro W2 c2 e2 B2 K2
       replace HK := hide ((unhide HK).trans K2)
       clear e2 B2 K2
       refine Stp.go ?_))
  constructor
  go_wp2_with (
    first
    | (go_at_call 41
       refine (ask41_z ((unhide H).step (unhide HK)) n 52 #[P0 c0, P0 c1, P0 c2]).mono ?_
       rintro e W9 ⟨rfl, h9⟩
       replace HK := hide ((unhide HK).trans h9)
       clear h9
       refine Stp.go ?_))
  constructor
  go_wp2_with fail
  go_ret2
  exact ⟨rfl, unhide HK⟩

end Go.Proofs.Ytbigongmlpoahaa.D
