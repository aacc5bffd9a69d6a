/-
  The document's Out.
-/
import Derived.Test.YtcfflbafclmheaaGreatDoorCx

/-
  The document's Open.
-/
namespace Go.Proofs.YtcfflbafclmheaaGreatDoor
set_option maxRecDepth 100000
set_option linter.unusedSimpArgs false
open Go.RowKit
open Le (Mm wpStoreM wpStoreM1)

set_option maxHeartbeats 8000000 in
theorem ropen_1 (r sg eg : Nat) (D : Dv.Dev) (J : Ar.Job) (ep : Int) (w : World) (h : Dv.Rv w r sg eg D) (n e1 : Int) (PW : Hid (∀ W, Dv.Rv W r sg eg D → Calls Tryz.prog 96 #[P0 r, aggV (Ar.jobC J), .int .i64 n, .int .i64 ep] W fun e w' => e = .returned (.int .i64 e1) ∧ Kept [] W w')) (he : ¬ e1 = 0) : Calls Tryz.prog 41 #[P0 r, aggV (Ar.jobC J), .int .i64 n, .int .i64 ep] w fun x w' => x = .returned (.tuple #[aggV (Vi.vwC Vi.zv), .bool false, .int .i64 e1]) ∧ Dv.Rv w' r sg eg D ∧ Kept [r, sg, eg] w w' := by
  have M : Hid (Ph r sg eg D w w []) := hide (Ph.init h)
  clear h
  go_enter Tryz.func41, Tryz.ntmps41
  go_wp2_with (
    first
    | (refine wpBoxV rfl (.tmp 1) rfl (Ar.jobC J) rfl ?_
       intro W1 b1 e1 B1 K1
       replace M : Hid (Ph r sg eg D w W1 [(b1, 23, Ar.jobC J)]) := hide ((unhide M).new e1 B1 K1)
       clear e1 B1 K1
       refine Stp.go ?_))
  constructor
  go_wp2_with (
    first
    | (refine wpAllocW (Vi.vwC Vi.zv) Vi.zero26 8 rfl rfl rfl ?_
       intro W2 b2 e2 B2 K2
       replace M : Hid (Ph r sg eg D w W2 [(b1, 23, Ar.jobC J), (b2, 29, Vi.vwC Vi.zv)]) := hide ((unhide M).new e2 B2 K2)
       clear e2 B2 K2
       refine Stp.go ?_))
  constructor
  go_wp2_with (
    first
    | (refine wpLoadA jrow rfl (.tmp 5) rfl b1 0 rfl (Ar.jobC J) rfl ((unhide M).at 0 _ rfl).range ?_
       refine Stp.go ?_))
  constructor
  go_wp2_with (
    first
    | (go_at_call 96
       refine (unhide PW _ (unhide M).rv).mono ?_
       rintro e W3 ⟨rfl, K3⟩
       replace M : Hid (Ph r sg eg D w W3 [(b1, 23, Ar.jobC J), (b2, 29, Vi.vwC Vi.zv)]) := hide ((unhide M).step K3)
       clear K3
       refine Stp.go ?_))
  constructor
  go_wp2_with (
    first
    | (refine wpBuildZ (Vi.vwC Vi.zv) Vi.build26 rfl rfl ?_
       refine Stp.go ?_))
  constructor
  go_wp2_with (
    first
    | (refine wpStoreP Vi.row26 rfl (.tmp 8) (.tmp 21) rfl rfl b2 1 (Vi.vwC Vi.zv) rfl rfl rfl (Vi.vwC_one _) (unhide M) rfl rfl ?_
       intro W4 N4
       replace M : Hid (Ph r sg eg D w W4 [(b1, 23, Ar.jobC J), (b2, 29, Vi.vwC Vi.zv)]) := hide N4
       clear N4
       refine Stp.go ?_))
  constructor
  go_wp2_with fail
  refine bodyPost_ret (res41 _ b2 (Vi.vwC Vi.zv) false e1 _ rfl rfl rfl rfl ((unhide M).at 1 _ rfl)) rfl ?_
  exact ⟨rfl, (unhide M).rv, (unhide M).kept⟩
set_option maxHeartbeats 8000000 in
theorem ropen_2 (r sg eg : Nat) (D : Dv.Dev) (J : Ar.Job) (ep : Int) (w : World) (h : Dv.Rv w r sg eg D) (n e2 : Int) (v : Vi.Vw) (PW : Hid (∀ W, Dv.Rv W r sg eg D → Calls Tryz.prog 96 #[P0 r, aggV (Ar.jobC J), .int .i64 n, .int .i64 ep] W fun e w' => e = .returned (.int .i64 0) ∧ Kept [] W w')) (PV : Hid (∀ W, Dv.Rv W r sg eg D → Calls Tryz.prog 14 #[P0 r, aggV (Ar.jobC J)] W fun x w' => x = .returned (.tuple #[aggV (Vi.vwC v), .int .i64 e2]) ∧ Kept [] W w')) (HVL : Hid ((Vi.vwC v).length = 19)) (he : ¬ e2 = 0) : Calls Tryz.prog 41 #[P0 r, aggV (Ar.jobC J), .int .i64 n, .int .i64 ep] w fun x w' => x = .returned (.tuple #[aggV (Vi.vwC Vi.zv), .bool false, .int .i64 e2]) ∧ Dv.Rv w' r sg eg D ∧ Kept [r, sg, eg] w w' := by
  have M : Hid (Ph r sg eg D w w []) := hide (Ph.init h)
  clear h
  go_enter Tryz.func41, Tryz.ntmps41
  go_wp2_with (
    first
    | (refine wpBoxV rfl (.tmp 1) rfl (Ar.jobC J) rfl ?_
       intro W1 b1 e1 B1 K1
       replace M : Hid (Ph r sg eg D w W1 [(b1, 23, Ar.jobC J)]) := hide ((unhide M).new e1 B1 K1)
       clear e1 B1 K1
       refine Stp.go ?_))
  constructor
  go_wp2_with (
    first
    | (refine wpAllocW (Vi.vwC Vi.zv) Vi.zero26 8 rfl rfl rfl ?_
       intro W2 b2 e2 B2 K2
       replace M : Hid (Ph r sg eg D w W2 [(b1, 23, Ar.jobC J), (b2, 29, Vi.vwC Vi.zv)]) := hide ((unhide M).new e2 B2 K2)
       clear e2 B2 K2
       refine Stp.go ?_))
  constructor
  go_wp2_with (
    first
    | (refine wpLoadA jrow rfl (.tmp 5) rfl b1 0 rfl (Ar.jobC J) rfl ((unhide M).at 0 _ rfl).range ?_
       refine Stp.go ?_))
  constructor
  go_wp2_with (
    first
    | (go_at_call 96
       refine (unhide PW _ (unhide M).rv).mono ?_
       rintro e W3 ⟨rfl, K3⟩
       replace M : Hid (Ph r sg eg D w W3 [(b1, 23, Ar.jobC J), (b2, 29, Vi.vwC Vi.zv)]) := hide ((unhide M).step K3)
       clear K3
       refine Stp.go ?_))
  constructor
  go_wp2_with (
    first
    | (refine wpLoadA jrow rfl (.tmp 5) rfl b1 0 rfl (Ar.jobC J) rfl ((unhide M).at 0 _ rfl).range ?_
       refine Stp.go ?_))
  constructor
  go_wp2_with (
    first
    | (go_at_call 14
       refine (unhide PV _ (unhide M).rv).mono ?_
       rintro e W4 ⟨rfl, K4⟩
       replace M : Hid (Ph r sg eg D w W4 [(b1, 23, Ar.jobC J), (b2, 29, Vi.vwC Vi.zv)]) := hide ((unhide M).step K4)
       clear K4
       refine Stp.go ?_))
  constructor
  go_wp2_with (
    first
    | (refine wpNew Vi.row26 (Vi.vwC Vi.zv) rfl Vi.zero26 12 rfl rfl rfl (.tmp 27) rfl rfl rfl (Vi.vwC v) (unhide HVL) (Vi.vwC_one _) (by kernel_rfl) (by kernel_rfl) ?_
       intro W5 b5 e5 B5 K5
       replace M : Hid (Ph r sg eg D w W5 [(b1, 23, Ar.jobC J), (b2, 29, Vi.vwC Vi.zv), (b5, 29, Vi.vwC v)]) := hide ((unhide M).new e5 B5 K5)
       clear e5 B5 K5
       refine Stp.go ?_))
  constructor
  go_wp2_with (
    first
    | (refine wpBuildZ (Vi.vwC Vi.zv) Vi.build26 rfl rfl ?_
       refine Stp.go ?_))
  constructor
  go_wp2_with (
    first
    | (refine wpStoreP Vi.row26 rfl (.tmp 8) (.tmp 31) rfl rfl b2 1 (Vi.vwC Vi.zv) rfl rfl rfl (Vi.vwC_one _) (unhide M) rfl rfl ?_
       intro W6 N6
       replace M : Hid (Ph r sg eg D w W6 [(b1, 23, Ar.jobC J), (b2, 29, Vi.vwC Vi.zv), (b5, 29, Vi.vwC v)]) := hide N6
       clear N6
       refine Stp.go ?_))
  constructor
  go_wp2_with fail
  refine bodyPost_ret (res41 _ b2 (Vi.vwC Vi.zv) false e2 _ rfl rfl rfl rfl ((unhide M).at 1 _ rfl)) rfl ?_
  exact ⟨rfl, (unhide M).rv, (unhide M).kept⟩
set_option maxHeartbeats 8000000 in
theorem ropen_3 (r sg eg : Nat) (D : Dv.Dev) (J : Ar.Job) (ep : Int) (w : World) (h : Dv.Rv w r sg eg D) (k : Nat) (v : Vi.Vw) (PW : Hid (∀ W, Dv.Rv W r sg eg D → Calls Tryz.prog 96 #[P0 r, aggV (Ar.jobC J), .int .i64 k, .int .i64 ep] W fun e w' => e = .returned (.int .i64 0) ∧ Kept [] W w')) (PV : Hid (∀ W, Dv.Rv W r sg eg D → Calls Tryz.prog 14 #[P0 r, aggV (Ar.jobC J)] W fun x w' => x = .returned (.tuple #[aggV (Vi.vwC v), .int .i64 0]) ∧ Kept [] W w')) (HVL : Hid ((Vi.vwC v).length = 19)) (mi : Bool) (me : Int) (X0 : Hid ((Vi.vwC v)[3 + k * 2]? = some (.bool mi))) (X1 : Hid ((Vi.vwC v)[3 + k * 2 + 1]? = some (.int .i64 me))) (HOP : Hid (v.op = true)) : Calls Tryz.prog 41 #[P0 r, aggV (Ar.jobC J), .int .i64 k, .int .i64 ep] w fun x w' => x = .returned (.tuple #[aggV (Vi.vwC v), .bool false, .int .i64 0]) ∧ Dv.Rv w' r sg eg D ∧ Kept [r, sg, eg] w w' := by
  have M : Hid (Ph r sg eg D w w []) := hide (Ph.init h)
  clear h
  go_enter Tryz.func41, Tryz.ntmps41
  go_wp2_with (
    first
    | (refine wpBoxV rfl (.tmp 1) rfl (Ar.jobC J) rfl ?_
       intro W1 b1 e1 B1 K1
       replace M : Hid (Ph r sg eg D w W1 [(b1, 23, Ar.jobC J)]) := hide ((unhide M).new e1 B1 K1)
       clear e1 B1 K1
       refine Stp.go ?_))
  constructor
  go_wp2_with (
    first
    | (refine wpAllocW (Vi.vwC Vi.zv) Vi.zero26 8 rfl rfl rfl ?_
       intro W2 b2 e2 B2 K2
       replace M : Hid (Ph r sg eg D w W2 [(b1, 23, Ar.jobC J), (b2, 29, Vi.vwC Vi.zv)]) := hide ((unhide M).new e2 B2 K2)
       clear e2 B2 K2
       refine Stp.go ?_))
  constructor
  go_wp2_with (
    first
    | (refine wpLoadA jrow rfl (.tmp 5) rfl b1 0 rfl (Ar.jobC J) rfl ((unhide M).at 0 _ rfl).range ?_
       refine Stp.go ?_))
  constructor
  go_wp2_with (
    first
    | (go_at_call 96
       refine (unhide PW _ (unhide M).rv).mono ?_
       rintro e W3 ⟨rfl, K3⟩
       replace M : Hid (Ph r sg eg D w W3 [(b1, 23, Ar.jobC J), (b2, 29, Vi.vwC Vi.zv)]) := hide ((unhide M).step K3)
       clear K3
       refine Stp.go ?_))
  constructor
  go_wp2_with (
    first
    | (refine wpLoadA jrow rfl (.tmp 5) rfl b1 0 rfl (Ar.jobC J) rfl ((unhide M).at 0 _ rfl).range ?_
       refine Stp.go ?_))
  constructor
  go_wp2_with (
    first
    | (go_at_call 14
       refine (unhide PV _ (unhide M).rv).mono ?_
       rintro e W4 ⟨rfl, K4⟩
       replace M : Hid (Ph r sg eg D w W4 [(b1, 23, Ar.jobC J), (b2, 29, Vi.vwC Vi.zv)]) := hide ((unhide M).step K4)
       clear K4
       refine Stp.go ?_))
  constructor
  go_wp2_with (
    first
    | (refine wpNew Vi.row26 (Vi.vwC Vi.zv) rfl Vi.zero26 12 rfl rfl rfl (.tmp 27) rfl rfl rfl (Vi.vwC v) (unhide HVL) (Vi.vwC_one _) (by kernel_rfl) (by kernel_rfl) ?_
       intro W5 b5 e5 B5 K5
       replace M : Hid (Ph r sg eg D w W5 [(b1, 23, Ar.jobC J), (b2, 29, Vi.vwC Vi.zv), (b5, 29, Vi.vwC v)]) := hide ((unhide M).new e5 B5 K5)
       clear e5 B5 K5
       have c3 : W5.cell? ⟨b5, 1, none⟩ = some (.bool true) := by rw [← unhide HOP]; exact fits_cell ((unhide M).at 2 _ rfl) 1 _ rfl
       have c4 := fits_cell ((unhide M).at 2 _ rfl) 2 (.int .i64 v.fd) rfl
       have c1 := fits_cell ((unhide M).at 2 _ rfl) _ _ (unhide X0)
       have c2 := fits_cell ((unhide M).at 2 _ rfl) _ _ (unhide X1)
       refine Stp.go ?_))
  constructor
  go_wp2_with (
    first
    | (refine wpLoadA Vi.row26 rfl (.tmp 12) rfl b5 0 rfl (Vi.vwC v) (unhide HVL) ((unhide M).at 2 _ rfl).range ?_
       refine Stp.go ?_))
  constructor
  go_wp2_with (
    first
    | (refine wpStoreP Vi.row26 rfl (.tmp 8) (.tmp 35) rfl rfl b2 1 (Vi.vwC v) rfl rfl (unhide HVL) (Vi.vwC_one _) (unhide M) rfl rfl ?_
       intro W6 N6
       replace M : Hid (Ph r sg eg D w W6 [(b1, 23, Ar.jobC J), (b2, 29, Vi.vwC v), (b5, 29, Vi.vwC v)]) := hide N6
       clear N6
       refine Stp.go ?_))
  constructor
  go_wp2_with fail
  refine bodyPost_ret (res41 _ b2 (Vi.vwC v) false 0 _ rfl rfl rfl (unhide HVL) ((unhide M).at 1 _ rfl)) rfl ?_
  exact ⟨rfl, (unhide M).rv, (unhide M).kept⟩
set_option maxHeartbeats 8000000 in
theorem ropen_4a (r sg eg : Nat) (D : Dv.Dev) (J : Ar.Job) (ep : Int) (w : World) (h : Dv.Rv w r sg eg D) (k : Nat) (v : Vi.Vw) (PW : Hid (∀ W, Dv.Rv W r sg eg D → Calls Tryz.prog 96 #[P0 r, aggV (Ar.jobC J), .int .i64 k, .int .i64 ep] W fun e w' => e = .returned (.int .i64 0) ∧ Kept [] W w')) (PV : Hid (∀ W, Dv.Rv W r sg eg D → Calls Tryz.prog 14 #[P0 r, aggV (Ar.jobC J)] W fun x w' => x = .returned (.tuple #[aggV (Vi.vwC v), .int .i64 0]) ∧ Kept [] W w')) (HVL : Hid ((Vi.vwC v).length = 19)) (mi : Bool) (me : Int) (X0 : Hid ((Vi.vwC v)[3 + k * 2]? = some (.bool mi))) (X1 : Hid ((Vi.vwC v)[3 + k * 2 + 1]? = some (.int .i64 me))) (_hk8 : (k : Int) < 8) (HOP : Hid (v.op = false)) (hfd : ¬ v.fd = (k : Int)) : Calls Tryz.prog 41 #[P0 r, aggV (Ar.jobC J), .int .i64 k, .int .i64 ep] w fun x w' => x = .returned (.tuple #[aggV (Vi.vwC Vi.zv), .bool false, .int .i64 6]) ∧ Dv.Rv w' r sg eg D ∧ Kept [r, sg, eg] w w' := by
  have M : Hid (Ph r sg eg D w w []) := hide (Ph.init h)
  clear h
  go_enter Tryz.func41, Tryz.ntmps41
  go_wp2_with (
    first
    | (refine wpBoxV rfl (.tmp 1) rfl (Ar.jobC J) rfl ?_
       intro W1 b1 e1 B1 K1
       replace M : Hid (Ph r sg eg D w W1 [(b1, 23, Ar.jobC J)]) := hide ((unhide M).new e1 B1 K1)
       clear e1 B1 K1
       refine Stp.go ?_))
  constructor
  go_wp2_with (
    first
    | (refine wpAllocW (Vi.vwC Vi.zv) Vi.zero26 8 rfl rfl rfl ?_
       intro W2 b2 e2 B2 K2
       replace M : Hid (Ph r sg eg D w W2 [(b1, 23, Ar.jobC J), (b2, 29, Vi.vwC Vi.zv)]) := hide ((unhide M).new e2 B2 K2)
       clear e2 B2 K2
       refine Stp.go ?_))
  constructor
  go_wp2_with (
    first
    | (refine wpLoadA jrow rfl (.tmp 5) rfl b1 0 rfl (Ar.jobC J) rfl ((unhide M).at 0 _ rfl).range ?_
       refine Stp.go ?_))
  constructor
  go_wp2_with (
    first
    | (go_at_call 96
       refine (unhide PW _ (unhide M).rv).mono ?_
       rintro e W3 ⟨rfl, K3⟩
       replace M : Hid (Ph r sg eg D w W3 [(b1, 23, Ar.jobC J), (b2, 29, Vi.vwC Vi.zv)]) := hide ((unhide M).step K3)
       clear K3
       refine Stp.go ?_))
  constructor
  go_wp2_with (
    first
    | (refine wpLoadA jrow rfl (.tmp 5) rfl b1 0 rfl (Ar.jobC J) rfl ((unhide M).at 0 _ rfl).range ?_
       refine Stp.go ?_))
  constructor
  go_wp2_with (
    first
    | (go_at_call 14
       refine (unhide PV _ (unhide M).rv).mono ?_
       rintro e W4 ⟨rfl, K4⟩
       replace M : Hid (Ph r sg eg D w W4 [(b1, 23, Ar.jobC J), (b2, 29, Vi.vwC Vi.zv)]) := hide ((unhide M).step K4)
       clear K4
       refine Stp.go ?_))
  constructor
  go_wp2_with (
    first
    | (refine wpNew Vi.row26 (Vi.vwC Vi.zv) rfl Vi.zero26 12 rfl rfl rfl (.tmp 27) rfl rfl rfl (Vi.vwC v) (unhide HVL) (Vi.vwC_one _) (by kernel_rfl) (by kernel_rfl) ?_
       intro W5 b5 e5 B5 K5
       replace M : Hid (Ph r sg eg D w W5 [(b1, 23, Ar.jobC J), (b2, 29, Vi.vwC Vi.zv), (b5, 29, Vi.vwC v)]) := hide ((unhide M).new e5 B5 K5)
       clear e5 B5 K5
       have c3 : W5.cell? ⟨b5, 1, none⟩ = some (.bool false) := by rw [← unhide HOP]; exact fits_cell ((unhide M).at 2 _ rfl) 1 _ rfl
       have c4 := fits_cell ((unhide M).at 2 _ rfl) 2 (.int .i64 v.fd) rfl
       have c1 := fits_cell ((unhide M).at 2 _ rfl) _ _ (unhide X0)
       have c2 := fits_cell ((unhide M).at 2 _ rfl) _ _ (unhide X1)
       refine Stp.go ?_))
  constructor
  go_wp2_with (
    first
    | (refine wpBuildZ (Vi.vwC Vi.zv) Vi.build26 rfl rfl ?_
       refine Stp.go ?_))
  constructor
  go_wp2_with (
    first
    | (refine wpStoreP Vi.row26 rfl (.tmp 8) (.tmp 57) rfl rfl b2 1 (Vi.vwC Vi.zv) rfl rfl rfl (Vi.vwC_one _) (unhide M) rfl rfl ?_
       intro W6 N6
       replace M : Hid (Ph r sg eg D w W6 [(b1, 23, Ar.jobC J), (b2, 29, Vi.vwC Vi.zv), (b5, 29, Vi.vwC v)]) := hide N6
       clear N6
       refine Stp.go ?_))
  constructor
  go_wp2_with fail
  refine bodyPost_ret (res41 _ b2 (Vi.vwC Vi.zv) false 6 _ rfl rfl rfl rfl ((unhide M).at 1 _ rfl)) rfl ?_
  exact ⟨rfl, (unhide M).rv, (unhide M).kept⟩
set_option maxHeartbeats 8000000 in
theorem ropen_4b (r sg eg : Nat) (D : Dv.Dev) (J : Ar.Job) (ep : Int) (w : World) (h : Dv.Rv w r sg eg D) (k : Nat) (v : Vi.Vw) (PW : Hid (∀ W, Dv.Rv W r sg eg D → Calls Tryz.prog 96 #[P0 r, aggV (Ar.jobC J), .int .i64 k, .int .i64 ep] W fun e w' => e = .returned (.int .i64 0) ∧ Kept [] W w')) (PV : Hid (∀ W, Dv.Rv W r sg eg D → Calls Tryz.prog 14 #[P0 r, aggV (Ar.jobC J)] W fun x w' => x = .returned (.tuple #[aggV (Vi.vwC v), .int .i64 0]) ∧ Kept [] W w')) (HVL : Hid ((Vi.vwC v).length = 19)) (mi : Bool) (me : Int) (X0 : Hid ((Vi.vwC v)[3 + k * 2]? = some (.bool mi))) (X1 : Hid ((Vi.vwC v)[3 + k * 2 + 1]? = some (.int .i64 me))) (hk8 : (k : Int) < 8) (HOP : Hid (v.op = false)) (hfd : v.fd = (k : Int)) (hmi : mi = false) : Calls Tryz.prog 41 #[P0 r, aggV (Ar.jobC J), .int .i64 k, .int .i64 ep] w fun x w' => x = .returned (.tuple #[aggV (Vi.vwC Vi.zv), .bool false, .int .i64 6]) ∧ Dv.Rv w' r sg eg D ∧ Kept [r, sg, eg] w w' := by
  have M : Hid (Ph r sg eg D w w []) := hide (Ph.init h)
  clear h
  subst hmi
  go_enter Tryz.func41, Tryz.ntmps41
  go_wp2_with (
    first
    | (refine wpBoxV rfl (.tmp 1) rfl (Ar.jobC J) rfl ?_
       intro W1 b1 e1 B1 K1
       replace M : Hid (Ph r sg eg D w W1 [(b1, 23, Ar.jobC J)]) := hide ((unhide M).new e1 B1 K1)
       clear e1 B1 K1
       refine Stp.go ?_))
  constructor
  go_wp2_with (
    first
    | (refine wpAllocW (Vi.vwC Vi.zv) Vi.zero26 8 rfl rfl rfl ?_
       intro W2 b2 e2 B2 K2
       replace M : Hid (Ph r sg eg D w W2 [(b1, 23, Ar.jobC J), (b2, 29, Vi.vwC Vi.zv)]) := hide ((unhide M).new e2 B2 K2)
       clear e2 B2 K2
       refine Stp.go ?_))
  constructor
  go_wp2_with (
    first
    | (refine wpLoadA jrow rfl (.tmp 5) rfl b1 0 rfl (Ar.jobC J) rfl ((unhide M).at 0 _ rfl).range ?_
       refine Stp.go ?_))
  constructor
  go_wp2_with (
    first
    | (go_at_call 96
       refine (unhide PW _ (unhide M).rv).mono ?_
       rintro e W3 ⟨rfl, K3⟩
       replace M : Hid (Ph r sg eg D w W3 [(b1, 23, Ar.jobC J), (b2, 29, Vi.vwC Vi.zv)]) := hide ((unhide M).step K3)
       clear K3
       refine Stp.go ?_))
  constructor
  go_wp2_with (
    first
    | (refine wpLoadA jrow rfl (.tmp 5) rfl b1 0 rfl (Ar.jobC J) rfl ((unhide M).at 0 _ rfl).range ?_
       refine Stp.go ?_))
  constructor
  go_wp2_with (
    first
    | (go_at_call 14
       refine (unhide PV _ (unhide M).rv).mono ?_
       rintro e W4 ⟨rfl, K4⟩
       replace M : Hid (Ph r sg eg D w W4 [(b1, 23, Ar.jobC J), (b2, 29, Vi.vwC Vi.zv)]) := hide ((unhide M).step K4)
       clear K4
       refine Stp.go ?_))
  constructor
  go_wp2_with (
    first
    | (refine wpNew Vi.row26 (Vi.vwC Vi.zv) rfl Vi.zero26 12 rfl rfl rfl (.tmp 27) rfl rfl rfl (Vi.vwC v) (unhide HVL) (Vi.vwC_one _) (by kernel_rfl) (by kernel_rfl) ?_
       intro W5 b5 e5 B5 K5
       replace M : Hid (Ph r sg eg D w W5 [(b1, 23, Ar.jobC J), (b2, 29, Vi.vwC Vi.zv), (b5, 29, Vi.vwC v)]) := hide ((unhide M).new e5 B5 K5)
       clear e5 B5 K5
       have c3 : W5.cell? ⟨b5, 1, none⟩ = some (.bool false) := by rw [← unhide HOP]; exact fits_cell ((unhide M).at 2 _ rfl) 1 _ rfl
       have c4 := fits_cell ((unhide M).at 2 _ rfl) 2 (.int .i64 v.fd) rfl
       have c1 := fits_cell ((unhide M).at 2 _ rfl) _ _ (unhide X0)
       have c2 := fits_cell ((unhide M).at 2 _ rfl) _ _ (unhide X1)
       refine Stp.go ?_))
  constructor
  go_wp2_with (
    first
    | (refine wpBuildZ (Vi.vwC Vi.zv) Vi.build26 rfl rfl ?_
       refine Stp.go ?_))
  constructor
  go_wp2_with (
    first
    | (refine wpStoreP Vi.row26 rfl (.tmp 8) (.tmp 57) rfl rfl b2 1 (Vi.vwC Vi.zv) rfl rfl rfl (Vi.vwC_one _) (unhide M) rfl rfl ?_
       intro W6 N6
       replace M : Hid (Ph r sg eg D w W6 [(b1, 23, Ar.jobC J), (b2, 29, Vi.vwC Vi.zv), (b5, 29, Vi.vwC v)]) := hide N6
       clear N6
       refine Stp.go ?_))
  constructor
  go_wp2_with fail
  refine bodyPost_ret (res41 _ b2 (Vi.vwC Vi.zv) false 6 _ rfl rfl rfl rfl ((unhide M).at 1 _ rfl)) rfl ?_
  exact ⟨rfl, (unhide M).rv, (unhide M).kept⟩
set_option maxHeartbeats 8000000 in
theorem ropen_4c (r sg eg : Nat) (D : Dv.Dev) (J : Ar.Job) (ep : Int) (w : World) (h : Dv.Rv w r sg eg D) (k : Nat) (v : Vi.Vw) (PW : Hid (∀ W, Dv.Rv W r sg eg D → Calls Tryz.prog 96 #[P0 r, aggV (Ar.jobC J), .int .i64 k, .int .i64 ep] W fun e w' => e = .returned (.int .i64 0) ∧ Kept [] W w')) (PV : Hid (∀ W, Dv.Rv W r sg eg D → Calls Tryz.prog 14 #[P0 r, aggV (Ar.jobC J)] W fun x w' => x = .returned (.tuple #[aggV (Vi.vwC v), .int .i64 0]) ∧ Kept [] W w')) (HVL : Hid ((Vi.vwC v).length = 19)) (mi : Bool) (me : Int) (X0 : Hid ((Vi.vwC v)[3 + k * 2]? = some (.bool mi))) (X1 : Hid ((Vi.vwC v)[3 + k * 2 + 1]? = some (.int .i64 me))) (hk8 : (k : Int) < 8) (HOP : Hid (v.op = false)) (hfd : v.fd = (k : Int)) (hmi : mi = true) (hme : ¬ me = ep) : Calls Tryz.prog 41 #[P0 r, aggV (Ar.jobC J), .int .i64 k, .int .i64 ep] w fun x w' => x = .returned (.tuple #[aggV (Vi.vwC Vi.zv), .bool false, .int .i64 6]) ∧ Dv.Rv w' r sg eg D ∧ Kept [r, sg, eg] w w' := by
  have M : Hid (Ph r sg eg D w w []) := hide (Ph.init h)
  clear h
  subst hmi
  go_enter Tryz.func41, Tryz.ntmps41
  go_wp2_with (
    first
    | (refine wpBoxV rfl (.tmp 1) rfl (Ar.jobC J) rfl ?_
       intro W1 b1 e1 B1 K1
       replace M : Hid (Ph r sg eg D w W1 [(b1, 23, Ar.jobC J)]) := hide ((unhide M).new e1 B1 K1)
       clear e1 B1 K1
       refine Stp.go ?_))
  constructor
  go_wp2_with (
    first
    | (refine wpAllocW (Vi.vwC Vi.zv) Vi.zero26 8 rfl rfl rfl ?_
       intro W2 b2 e2 B2 K2
       replace M : Hid (Ph r sg eg D w W2 [(b1, 23, Ar.jobC J), (b2, 29, Vi.vwC Vi.zv)]) := hide ((unhide M).new e2 B2 K2)
       clear e2 B2 K2
       refine Stp.go ?_))
  constructor
  go_wp2_with (
    first
    | (refine wpLoadA jrow rfl (.tmp 5) rfl b1 0 rfl (Ar.jobC J) rfl ((unhide M).at 0 _ rfl).range ?_
       refine Stp.go ?_))
  constructor
  go_wp2_with (
    first
    | (go_at_call 96
       refine (unhide PW _ (unhide M).rv).mono ?_
       rintro e W3 ⟨rfl, K3⟩
       replace M : Hid (Ph r sg eg D w W3 [(b1, 23, Ar.jobC J), (b2, 29, Vi.vwC Vi.zv)]) := hide ((unhide M).step K3)
       clear K3
       refine Stp.go ?_))
  constructor
  go_wp2_with (
    first
    | (refine wpLoadA jrow rfl (.tmp 5) rfl b1 0 rfl (Ar.jobC J) rfl ((unhide M).at 0 _ rfl).range ?_
       refine Stp.go ?_))
  constructor
  go_wp2_with (
    first
    | (go_at_call 14
       refine (unhide PV _ (unhide M).rv).mono ?_
       rintro e W4 ⟨rfl, K4⟩
       replace M : Hid (Ph r sg eg D w W4 [(b1, 23, Ar.jobC J), (b2, 29, Vi.vwC Vi.zv)]) := hide ((unhide M).step K4)
       clear K4
       refine Stp.go ?_))
  constructor
  go_wp2_with (
    first
    | (refine wpNew Vi.row26 (Vi.vwC Vi.zv) rfl Vi.zero26 12 rfl rfl rfl (.tmp 27) rfl rfl rfl (Vi.vwC v) (unhide HVL) (Vi.vwC_one _) (by kernel_rfl) (by kernel_rfl) ?_
       intro W5 b5 e5 B5 K5
       replace M : Hid (Ph r sg eg D w W5 [(b1, 23, Ar.jobC J), (b2, 29, Vi.vwC Vi.zv), (b5, 29, Vi.vwC v)]) := hide ((unhide M).new e5 B5 K5)
       clear e5 B5 K5
       have c3 : W5.cell? ⟨b5, 1, none⟩ = some (.bool false) := by rw [← unhide HOP]; exact fits_cell ((unhide M).at 2 _ rfl) 1 _ rfl
       have c4 := fits_cell ((unhide M).at 2 _ rfl) 2 (.int .i64 v.fd) rfl
       have c1 := fits_cell ((unhide M).at 2 _ rfl) _ _ (unhide X0)
       have c2 := fits_cell ((unhide M).at 2 _ rfl) _ _ (unhide X1)
       refine Stp.go ?_))
  constructor
  go_wp2_with (
    first
    | (refine wpBuildZ (Vi.vwC Vi.zv) Vi.build26 rfl rfl ?_
       refine Stp.go ?_))
  constructor
  go_wp2_with (
    first
    | (refine wpStoreP Vi.row26 rfl (.tmp 8) (.tmp 57) rfl rfl b2 1 (Vi.vwC Vi.zv) rfl rfl rfl (Vi.vwC_one _) (unhide M) rfl rfl ?_
       intro W6 N6
       replace M : Hid (Ph r sg eg D w W6 [(b1, 23, Ar.jobC J), (b2, 29, Vi.vwC Vi.zv), (b5, 29, Vi.vwC v)]) := hide N6
       clear N6
       refine Stp.go ?_))
  constructor
  go_wp2_with fail
  refine bodyPost_ret (res41 _ b2 (Vi.vwC Vi.zv) false 6 _ rfl rfl rfl rfl ((unhide M).at 1 _ rfl)) rfl ?_
  exact ⟨rfl, (unhide M).rv, (unhide M).kept⟩
set_option maxHeartbeats 8000000 in
theorem ropen_5 (r sg eg : Nat) (D : Dv.Dev) (J : Ar.Job) (ep : Int) (w : World) (h : Dv.Rv w r sg eg D) (k : Nat) (v : Vi.Vw) (PW : Hid (∀ W, Dv.Rv W r sg eg D → Calls Tryz.prog 96 #[P0 r, aggV (Ar.jobC J), .int .i64 k, .int .i64 ep] W fun e w' => e = .returned (.int .i64 0) ∧ Kept [] W w')) (PV : Hid (∀ W, Dv.Rv W r sg eg D → Calls Tryz.prog 14 #[P0 r, aggV (Ar.jobC J)] W fun x w' => x = .returned (.tuple #[aggV (Vi.vwC v), .int .i64 0]) ∧ Kept [] W w')) (HVL : Hid ((Vi.vwC v).length = 19)) (mi : Bool) (me : Int) (X0 : Hid ((Vi.vwC v)[3 + k * 2]? = some (.bool mi))) (X1 : Hid ((Vi.vwC v)[3 + k * 2 + 1]? = some (.int .i64 me))) (hk8 : (k : Int) < 8) (HOP : Hid (v.op = false)) (hfd : v.fd = (k : Int)) (hmi : mi = true) (hme : me = ep) (PA : Hid (∀ W, Dv.Rv W r sg eg D → Calls Tryz.prog 52 #[P0 r, aggV (Ar.jobC J), aggV (Vi.vwC v)] W fun x w' => x = .returned (.bool false) ∧ Kept [] W w')) : Calls Tryz.prog 41 #[P0 r, aggV (Ar.jobC J), .int .i64 k, .int .i64 ep] w fun x w' => x = .returned (.tuple #[aggV (Vi.vwC Vi.zv), .bool false, .int .i64 11]) ∧ Dv.Rv w' r sg eg D ∧ Kept [r, sg, eg] w w' := by
  have M : Hid (Ph r sg eg D w w []) := hide (Ph.init h)
  clear h
  subst hmi
  go_enter Tryz.func41, Tryz.ntmps41
  go_wp2_with (
    first
    | (refine wpBoxV rfl (.tmp 1) rfl (Ar.jobC J) rfl ?_
       intro W1 b1 e1 B1 K1
       replace M : Hid (Ph r sg eg D w W1 [(b1, 23, Ar.jobC J)]) := hide ((unhide M).new e1 B1 K1)
       clear e1 B1 K1
       refine Stp.go ?_))
  constructor
  go_wp2_with (
    first
    | (refine wpAllocW (Vi.vwC Vi.zv) Vi.zero26 8 rfl rfl rfl ?_
       intro W2 b2 e2 B2 K2
       replace M : Hid (Ph r sg eg D w W2 [(b1, 23, Ar.jobC J), (b2, 29, Vi.vwC Vi.zv)]) := hide ((unhide M).new e2 B2 K2)
       clear e2 B2 K2
       refine Stp.go ?_))
  constructor
  go_wp2_with (
    first
    | (refine wpLoadA jrow rfl (.tmp 5) rfl b1 0 rfl (Ar.jobC J) rfl ((unhide M).at 0 _ rfl).range ?_
       refine Stp.go ?_))
  constructor
  go_wp2_with (
    first
    | (go_at_call 96
       refine (unhide PW _ (unhide M).rv).mono ?_
       rintro e W3 ⟨rfl, K3⟩
       replace M : Hid (Ph r sg eg D w W3 [(b1, 23, Ar.jobC J), (b2, 29, Vi.vwC Vi.zv)]) := hide ((unhide M).step K3)
       clear K3
       refine Stp.go ?_))
  constructor
  go_wp2_with (
    first
    | (refine wpLoadA jrow rfl (.tmp 5) rfl b1 0 rfl (Ar.jobC J) rfl ((unhide M).at 0 _ rfl).range ?_
       refine Stp.go ?_))
  constructor
  go_wp2_with (
    first
    | (go_at_call 14
       refine (unhide PV _ (unhide M).rv).mono ?_
       rintro e W4 ⟨rfl, K4⟩
       replace M : Hid (Ph r sg eg D w W4 [(b1, 23, Ar.jobC J), (b2, 29, Vi.vwC Vi.zv)]) := hide ((unhide M).step K4)
       clear K4
       refine Stp.go ?_))
  constructor
  go_wp2_with (
    first
    | (refine wpNew Vi.row26 (Vi.vwC Vi.zv) rfl Vi.zero26 12 rfl rfl rfl (.tmp 27) rfl rfl rfl (Vi.vwC v) (unhide HVL) (Vi.vwC_one _) (by kernel_rfl) (by kernel_rfl) ?_
       intro W5 b5 e5 B5 K5
       replace M : Hid (Ph r sg eg D w W5 [(b1, 23, Ar.jobC J), (b2, 29, Vi.vwC Vi.zv), (b5, 29, Vi.vwC v)]) := hide ((unhide M).new e5 B5 K5)
       clear e5 B5 K5
       have c3 : W5.cell? ⟨b5, 1, none⟩ = some (.bool false) := by rw [← unhide HOP]; exact fits_cell ((unhide M).at 2 _ rfl) 1 _ rfl
       have c4 := fits_cell ((unhide M).at 2 _ rfl) 2 (.int .i64 v.fd) rfl
       have c1 := fits_cell ((unhide M).at 2 _ rfl) _ _ (unhide X0)
       have c2 := fits_cell ((unhide M).at 2 _ rfl) _ _ (unhide X1)
       refine Stp.go ?_))
  constructor
  go_wp2_with (
    first
    | (refine wpLoadA jrow rfl (.tmp 5) rfl b1 0 rfl (Ar.jobC J) rfl ((unhide M).at 0 _ rfl).range ?_
       refine Stp.go ?_))
  constructor
  go_wp2_with (
    first
    | (refine wpLoadA Vi.row26 rfl (.tmp 12) rfl b5 0 rfl (Vi.vwC v) (unhide HVL) ((unhide M).at 2 _ rfl).range ?_
       refine Stp.go ?_))
  constructor
  go_wp2_with (
    first
    | (go_at_call 52
       refine (unhide PA _ (unhide M).rv).mono ?_
       rintro e W6 ⟨rfl, K6⟩
       replace M : Hid (Ph r sg eg D w W6 [(b1, 23, Ar.jobC J), (b2, 29, Vi.vwC Vi.zv), (b5, 29, Vi.vwC v)]) := hide ((unhide M).step K6)
       clear K6
       refine Stp.go ?_))
  constructor
  go_wp2_with (
    first
    | (refine wpBuildZ (Vi.vwC Vi.zv) Vi.build26 rfl rfl ?_
       refine Stp.go ?_))
  constructor
  go_wp2_with (
    first
    | (refine wpStoreP Vi.row26 rfl (.tmp 8) (.tmp 63) rfl rfl b2 1 (Vi.vwC Vi.zv) rfl rfl rfl (Vi.vwC_one _) (unhide M) rfl rfl ?_
       intro W7 N7
       replace M : Hid (Ph r sg eg D w W7 [(b1, 23, Ar.jobC J), (b2, 29, Vi.vwC Vi.zv), (b5, 29, Vi.vwC v)]) := hide N7
       clear N7
       refine Stp.go ?_))
  constructor
  go_wp2_with fail
  refine bodyPost_ret (res41 _ b2 (Vi.vwC Vi.zv) false 11 _ rfl rfl rfl rfl ((unhide M).at 1 _ rfl)) rfl ?_
  exact ⟨rfl, (unhide M).rv, (unhide M).kept⟩
set_option maxHeartbeats 8000000 in
theorem ropen_6 (r sg eg : Nat) (D : Dv.Dev) (J : Ar.Job) (ep : Int) (w : World) (h : Dv.Rv w r sg eg D) (k : Nat) (v u y : Vi.Vw) (yb : Bool) (ye : Int) (D2 : Dv.Dev) (PW : Hid (∀ W, Dv.Rv W r sg eg D → Calls Tryz.prog 96 #[P0 r, aggV (Ar.jobC J), .int .i64 k, .int .i64 ep] W fun e w' => e = .returned (.int .i64 0) ∧ Kept [] W w')) (PV : Hid (∀ W, Dv.Rv W r sg eg D → Calls Tryz.prog 14 #[P0 r, aggV (Ar.jobC J)] W fun x w' => x = .returned (.tuple #[aggV (Vi.vwC v), .int .i64 0]) ∧ Kept [] W w')) (HVL : Hid ((Vi.vwC v).length = 19)) (PS : Hid (∀ W, Dv.Rv W r sg eg D → Calls Tryz.prog 97 #[P0 r, aggV (Ar.jobC J), .int .i64 k, .int .i64 ep, aggV (Vi.vwC v), aggV (Vi.vwC u)] W fun x w' => x = .returned (.tuple #[aggV (Vi.vwC y), .bool yb, .int .i64 ye]) ∧ Dv.Rv w' r sg eg D2 ∧ Kept [r, sg, eg] W w')) (HYL : Hid ((Vi.vwC y).length = 19)) (mi : Bool) (me : Int) (X0 : Hid ((Vi.vwC v)[3 + k * 2]? = some (.bool mi))) (X1 : Hid ((Vi.vwC v)[3 + k * 2 + 1]? = some (.int .i64 me))) (hk8 : (k : Int) < 8) (HOP : Hid (v.op = false)) (hfd : v.fd = (k : Int)) (hmi : mi = true) (hme : me = ep) (PA : Hid (∀ W, Dv.Rv W r sg eg D → Calls Tryz.prog 52 #[P0 r, aggV (Ar.jobC J), aggV (Vi.vwC v)] W fun x w' => x = .returned (.bool true) ∧ Kept [] W w')) (HU : Hid ((⟨v.nu, true, v.fd, v.ms⟩ : Vi.Vw) = u)) (HUL : Hid ((Vi.vwC u).length = 19)) : Calls Tryz.prog 41 #[P0 r, aggV (Ar.jobC J), .int .i64 k, .int .i64 ep] w fun x w' => x = .returned (.tuple #[aggV (Vi.vwC y), .bool yb, .int .i64 ye]) ∧ Dv.Rv w' r sg eg D2 ∧ Kept [r, sg, eg] w w' := by
  have M : Hid (Ph r sg eg D w w []) := hide (Ph.init h)
  clear h
  subst hmi
  go_enter Tryz.func41, Tryz.ntmps41
  go_wp2_with (
    first
    | (refine wpBoxV rfl (.tmp 1) rfl (Ar.jobC J) rfl ?_
       intro W1 b1 e1 B1 K1
       replace M : Hid (Ph r sg eg D w W1 [(b1, 23, Ar.jobC J)]) := hide ((unhide M).new e1 B1 K1)
       clear e1 B1 K1
       refine Stp.go ?_))
  constructor
  go_wp2_with (
    first
    | (refine wpAllocW (Vi.vwC Vi.zv) Vi.zero26 8 rfl rfl rfl ?_
       intro W2 b2 e2 B2 K2
       replace M : Hid (Ph r sg eg D w W2 [(b1, 23, Ar.jobC J), (b2, 29, Vi.vwC Vi.zv)]) := hide ((unhide M).new e2 B2 K2)
       clear e2 B2 K2
       refine Stp.go ?_))
  constructor
  go_wp2_with (
    first
    | (refine wpLoadA jrow rfl (.tmp 5) rfl b1 0 rfl (Ar.jobC J) rfl ((unhide M).at 0 _ rfl).range ?_
       refine Stp.go ?_))
  constructor
  go_wp2_with (
    first
    | (go_at_call 96
       refine (unhide PW _ (unhide M).rv).mono ?_
       rintro e W3 ⟨rfl, K3⟩
       replace M : Hid (Ph r sg eg D w W3 [(b1, 23, Ar.jobC J), (b2, 29, Vi.vwC Vi.zv)]) := hide ((unhide M).step K3)
       clear K3
       refine Stp.go ?_))
  constructor
  go_wp2_with (
    first
    | (refine wpLoadA jrow rfl (.tmp 5) rfl b1 0 rfl (Ar.jobC J) rfl ((unhide M).at 0 _ rfl).range ?_
       refine Stp.go ?_))
  constructor
  go_wp2_with (
    first
    | (go_at_call 14
       refine (unhide PV _ (unhide M).rv).mono ?_
       rintro e W4 ⟨rfl, K4⟩
       replace M : Hid (Ph r sg eg D w W4 [(b1, 23, Ar.jobC J), (b2, 29, Vi.vwC Vi.zv)]) := hide ((unhide M).step K4)
       clear K4
       refine Stp.go ?_))
  constructor
  go_wp2_with (
    first
    | (refine wpNew Vi.row26 (Vi.vwC Vi.zv) rfl Vi.zero26 12 rfl rfl rfl (.tmp 27) rfl rfl rfl (Vi.vwC v) (unhide HVL) (Vi.vwC_one _) (by kernel_rfl) (by kernel_rfl) ?_
       intro W5 b5 e5 B5 K5
       replace M : Hid (Ph r sg eg D w W5 [(b1, 23, Ar.jobC J), (b2, 29, Vi.vwC Vi.zv), (b5, 29, Vi.vwC v)]) := hide ((unhide M).new e5 B5 K5)
       clear e5 B5 K5
       have c3 : W5.cell? ⟨b5, 1, none⟩ = some (.bool false) := by rw [← unhide HOP]; exact fits_cell ((unhide M).at 2 _ rfl) 1 _ rfl
       have c4 := fits_cell ((unhide M).at 2 _ rfl) 2 (.int .i64 v.fd) rfl
       have c1 := fits_cell ((unhide M).at 2 _ rfl) _ _ (unhide X0)
       have c2 := fits_cell ((unhide M).at 2 _ rfl) _ _ (unhide X1)
       refine Stp.go ?_))
  constructor
  go_wp2_with (
    first
    | (refine wpLoadA jrow rfl (.tmp 5) rfl b1 0 rfl (Ar.jobC J) rfl ((unhide M).at 0 _ rfl).range ?_
       refine Stp.go ?_))
  constructor
  go_wp2_with (
    first
    | (refine wpLoadA Vi.row26 rfl (.tmp 12) rfl b5 0 rfl (Vi.vwC v) (unhide HVL) ((unhide M).at 2 _ rfl).range ?_
       refine Stp.go ?_))
  constructor
  go_wp2_with (
    first
    | (go_at_call 52
       refine (unhide PA _ (unhide M).rv).mono ?_
       rintro e W6 ⟨rfl, K6⟩
       replace M : Hid (Ph r sg eg D w W6 [(b1, 23, Ar.jobC J), (b2, 29, Vi.vwC Vi.zv), (b5, 29, Vi.vwC v)]) := hide ((unhide M).step K6)
       clear K6
       refine Stp.go ?_))
  constructor
  go_wp2_with (
    first
    | (refine wpLoadA Vi.row26 rfl (.tmp 12) rfl b5 0 rfl (Vi.vwC v) (unhide HVL) ((unhide M).at 2 _ rfl).range ?_
       refine Stp.go ?_))
  constructor
  go_wp2_with (
    first
    | (refine wpNew Vi.row26 (Vi.vwC Vi.zv) rfl Vi.zero26 13 rfl rfl rfl (.tmp 64) rfl rfl rfl (Vi.vwC v) (unhide HVL) (Vi.vwC_one _) (by kernel_rfl) (by kernel_rfl) ?_
       intro W7 b7 e7 B7 K7
       replace M : Hid (Ph r sg eg D w W7 [(b1, 23, Ar.jobC J), (b2, 29, Vi.vwC Vi.zv), (b5, 29, Vi.vwC v), (b7, 29, Vi.vwC v)]) := hide ((unhide M).new e7 B7 K7)
       clear e7 B7 K7
       clear c1 c2 c3 c4
       refine Stp.go ?_))
  constructor
  go_wp2_with (
    first
    | (refine wpStoreP1 Le.size4 rfl (.tmp 65) (.const (.bool true)) rfl rfl b7 1 3 (.bool true) ⟨rfl, rfl⟩ rfl rfl (unhide M) rfl (by simp [Vi.vwC]) ?_
       intro W8 N8
       replace M : Hid (Ph r sg eg D w W8 [(b1, 23, Ar.jobC J), (b2, 29, Vi.vwC Vi.zv), (b5, 29, Vi.vwC v), (b7, 29, Vi.vwC u)]) := by have h9 : Ph r sg eg D w W8 [(b1, 23, Ar.jobC J), (b2, 29, Vi.vwC Vi.zv), (b5, 29, Vi.vwC v), (b7, 29, Vi.vwC ⟨v.nu, true, v.fd, v.ms⟩)] := N8; rw [show (⟨v.nu, true, v.fd, v.ms⟩ : Vi.Vw) = u from unhide HU] at h9; exact h9
       clear N8
       refine Stp.go ?_))
  constructor
  go_wp2_with (
    first
    | (refine wpLoadA jrow rfl (.tmp 5) rfl b1 0 rfl (Ar.jobC J) rfl ((unhide M).at 0 _ rfl).range ?_
       refine Stp.go ?_))
  constructor
  go_wp2_with (
    first
    | (refine wpLoadA Vi.row26 rfl (.tmp 12) rfl b5 0 rfl (Vi.vwC v) (unhide HVL) ((unhide M).at 2 _ rfl).range ?_
       refine Stp.go ?_))
  constructor
  go_wp2_with (
    first
    | (refine wpLoadA Vi.row26 rfl (.tmp 13) rfl b7 0 rfl (Vi.vwC u) (unhide HUL) ((unhide M).at 3 _ rfl).range ?_
       refine Stp.go ?_))
  constructor
  go_wp2_with (
    first
    | (go_at_call 97
       refine (unhide PS _ (unhide M).rv).mono ?_
       rintro e W9 ⟨rfl, R9, K9⟩
       replace M : Hid (Ph r sg eg D2 w W9 [(b1, 23, Ar.jobC J), (b2, 29, Vi.vwC Vi.zv), (b5, 29, Vi.vwC v), (b7, 29, Vi.vwC u)]) := hide ((unhide M).dev K9 (by simp) R9)
       clear K9 R9
       refine Stp.go ?_))
  constructor
  go_wp2_with (
    first
    | (refine wpStoreP Vi.row26 rfl (.tmp 8) (.tmp 73) rfl rfl b2 1 (Vi.vwC y) rfl rfl (unhide HYL) (Vi.vwC_one _) (unhide M) rfl rfl ?_
       intro W10 N10
       replace M : Hid (Ph r sg eg D2 w W10 [(b1, 23, Ar.jobC J), (b2, 29, Vi.vwC y), (b5, 29, Vi.vwC v), (b7, 29, Vi.vwC u)]) := hide N10
       clear N10
       refine Stp.go ?_))
  constructor
  go_wp2_with fail
  refine bodyPost_ret (res41 _ b2 (Vi.vwC y) yb ye _ rfl rfl rfl (unhide HYL) ((unhide M).at 1 _ rfl)) rfl ?_
  exact ⟨rfl, (unhide M).rv, (unhide M).kept⟩

/-- Open, as the document has it. -/
def ropen (D : Dv.Dev) (J : Ar.Job) (n ep : Int) : (Vi.Vw × Bool) × Int × Dv.Dev :=
  if rwho D J n ep ≠ 0 then ((Vi.zv, false), rwho D J n ep, D) else if (oV D).2 ≠ 0 then ((Vi.zv, false), (oV D).2, D)
  else if (oV D).1.op = true then (((oV D).1, false), 0, D)
  else if ¬ ((oV D).1.fd = n ∧ ((oV D).1.mem n).1 = true ∧ ((oV D).1.mem n).2 = ep) then ((Vi.zv, false), 6, D)
  else if rall D J (oV D).1 = false then ((Vi.zv, false), 11, D)
  else mswap D n ep (oV D).1 ⟨(oV D).1.nu, true, (oV D).1.fd, (oV D).1.ms⟩
theorem open_may {v : Vi.Vw} (hm : v.may = true) : (⟨v.nu, true, v.fd, v.ms⟩ : Vi.Vw).may = true := by
  unfold Vi.Vw.may at hm ⊢
  simp only
  split
  · rename_i h0
    rw [if_pos h0] at hm
    have := of_decide_eq_true hm
    rw [this]; rfl
  · rename_i h0
    rw [if_neg h0] at hm
    exact hm
theorem ropen41 (r sg eg : Nat) (D : Dv.Dev) (J : Ar.Job) (n ep : Int) (w : World) (h : Dv.Rv w r sg eg D) (hJ : J.n ≤ 8) : Calls Tryz.prog 41 #[P0 r, aggV (Ar.jobC J), .int .i64 n, .int .i64 ep] w fun x w' => x = .returned (.tuple #[aggV (Vi.vwC (ropen D J n ep).1.1), .bool (ropen D J n ep).1.2, .int .i64 (ropen D J n ep).2.1]) ∧ Dv.Rv w' r sg eg (ropen D J n ep).2.2 ∧ Kept [r, sg, eg] w w' := by
  have PW := fun W (h0 : Dv.Rv W r sg eg D) => who96 r sg eg D J n ep W h0
  have PV := fun W (h0 : Dv.Rv W r sg eg D) => rview14 r sg eg D J W h0
  have hok := oV_okD h.ok
  unfold ropen
  by_cases h1 : rwho D J n ep = 0
  · rw [if_neg (fun q => q h1)]
    obtain ⟨g0, g1, g2, g3⟩ := rwho_0 h1
    rw [h1] at PW
    by_cases h2 : (oV D).2 = 0
    · rw [if_neg (fun q => q h2)]
      have hmay := getV_may _ h2
      rw [h2] at PV
      replace hmay : (oV D).1.may = true := hmay
      obtain ⟨v, hv⟩ : ∃ v, v = (oV D).1 := ⟨_, rfl⟩
      rw [← hv] at PV hok hmay ⊢
      obtain ⟨k, rfl⟩ : ∃ k : Nat, n = (k : Int) := ⟨n.toNat, by omega⟩
      have hk8 : k < 8 := by omega
      obtain ⟨m, hm⟩ : ∃ m, v.ms[k]? = some m := ⟨_, List.getElem?_eq_getElem (by rw [hok.len]; exact hk8)⟩
      have hmm : v.mem (k : Int) = m := by unfold Vi.Vw.mem; rw [Int.toNat_natCast, List.getD_eq_getElem?_getD, hm]; rfl
      obtain ⟨x0, x1⟩ := Vi.vwC_at hm
      rw [Nat.mul_comm] at x0 x1
      have HVL := Vi.vwC_len hok.len
      rw [hmm]
      by_cases h3 : v.op = true
      · rw [if_pos h3]
        exact ropen_3 r sg eg D J ep w h k v PW PV HVL m.1 m.2 x0 x1 h3
      · rw [if_neg h3]
        have h3f : v.op = false := by simpa using h3
        by_cases h4 : v.fd = (k : Int) ∧ m.1 = true ∧ m.2 = ep
        · rw [if_neg (fun q => q h4)]
          have PA := fun W (h0 : Dv.Rv W r sg eg D) => rall52 r sg eg D J v W h0 hJ hok.len
          by_cases h5 : rall D J v = false
          · rw [if_pos h5]
            rw [h5] at PA
            exact ropen_5 r sg eg D J ep w h k v PW PV HVL m.1 m.2 x0 x1 (by omega) h3f h4.1 h4.2.1 h4.2.2 PA
          · rw [if_neg h5]
            rw [show rall D J v = true by simpa using h5] at PA
            have huo : (⟨v.nu, true, v.fd, v.ms⟩ : Vi.Vw).Ok := ⟨hok.nu, hok.fd, hok.len, hok.ep⟩
            have PS := fun W (h0 : Dv.Rv W r sg eg D) => rswap97 r sg eg D J (k : Int) ep v _ W h0 hok huo hmay (open_may hmay)
            exact ropen_6 r sg eg D J ep w h k v _ _ _ _ _ PW PV HVL PS (Vi.vwC_len (mswap_len D (k : Int) ep v _ huo.len)) m.1 m.2 x0 x1 (by omega) h3f h4.1 h4.2.1 h4.2.2 PA rfl (Vi.vwC_len huo.len)
        · rw [if_pos h4]
          by_cases h5 : v.fd = (k : Int)
          · cases h6 : m.1 with
            | false => exact ropen_4b r sg eg D J ep w h k v PW PV HVL m.1 m.2 x0 x1 (by omega) h3f h5 h6
            | true => exact ropen_4c r sg eg D J ep w h k v PW PV HVL m.1 m.2 x0 x1 (by omega) h3f h5 h6 (fun q => h4 ⟨h5, h6, q⟩)
          · exact ropen_4a r sg eg D J ep w h k v PW PV HVL m.1 m.2 x0 x1 (by omega) h3f h5
    · rw [if_pos h2]
      exact ropen_2 r sg eg D J ep w h n _ _ PW PV (Vi.vwC_len hok.len) h2
  · rw [if_pos h1]
    exact ropen_1 r sg eg D J ep w h n _ PW h1

end Go.Proofs.YtcfflbafclmheaaGreatDoor

/-
  The document's Out.
-/
namespace Go.Proofs.YtcfflbafclmheaaGreatDoor
set_option maxRecDepth 100000
set_option linter.unusedSimpArgs false
open Go.RowKit
open Le (Mm wpStoreM wpStoreM1)


theorem res39 (w : World) (z : Nat) (vs : List Value) (b : Bool) (e : Int) (tmps : Array Value) (h4 : tmps[10]?.getD undef = P0 z) (h5 : tmps[11]?.getD undef = .bool b) (h6 : tmps[12]?.getD undef = .int .i64 e) (hl : vs.length = 19) (hb : Blk w z 29 vs) : (results Tryz.f39 tmps).run Tryz.prog w = .ok (.tuple #[aggV vs, .bool b, .int .i64 e]) w := by
  have := loadV Vi.row26 hl hb
  simp [results, Tryz.results39, h4, h5, h6, this, asAddr]
set_option maxHeartbeats 8000000 in
theorem rout_1a (r sg eg : Nat) (D : Dv.Dev) (J : Ar.Job) (ep : Int) (w : World) (h : Dv.Rv w r sg eg D) (n q : Int)  (h1 : decide (n < 0) = true) : Calls Tryz.prog 39 #[P0 r, aggV (Ar.jobC J), .int .i64 n, .int .i64 ep, .int .i64 q] w fun x w' => x = .returned (.tuple #[aggV (Vi.vwC Vi.zv), .bool false, .int .i64 2]) ∧ Dv.Rv w' r sg eg D ∧ Kept [r, sg, eg] w w' := by
  have M : Hid (Ph r sg eg D w w []) := hide (Ph.init h)
  clear h
  go_enter Tryz.func39, Tryz.ntmps39
  go_wp2_with (
    first
    | (refine wpBoxV rfl (.tmp 1) rfl (Ar.jobC J) rfl ?_
       intro W1 b1 e1 B1 K1
       replace M : Hid (Ph r sg eg D w W1 [(b1, 23, Ar.jobC J)]) := hide ((unhide M).new e1 B1 K1)
       clear e1 B1 K1
       refine Stp.go ?_))
  constructor
  go_wp2_with (
    first
    | (refine wpAllocW (Vi.vwC Vi.zv) Vi.zero26 10 rfl rfl rfl ?_
       intro W2 b2 e2 B2 K2
       replace M : Hid (Ph r sg eg D w W2 [(b1, 23, Ar.jobC J), (b2, 29, Vi.vwC Vi.zv)]) := hide ((unhide M).new e2 B2 K2)
       clear e2 B2 K2
       have f0 := fits_cell ((unhide M).at 0 _ rfl) 0 (.int .i64 J.n) rfl
       refine Stp.go ?_))
  constructor
  go_wp2_with (
    first
    | (refine wpBuildZ (Vi.vwC Vi.zv) Vi.build26 rfl rfl ?_
       refine Stp.go ?_))
  constructor
  go_wp2_with (
    first
    | (refine wpStoreP Vi.row26 rfl (.tmp 10) (.tmp 39) rfl rfl b2 1 (Vi.vwC Vi.zv) rfl rfl rfl (Vi.vwC_one _) (unhide M) rfl rfl ?_
       intro W3 N3
       replace M : Hid (Ph r sg eg D w W3 [(b1, 23, Ar.jobC J), (b2, 29, Vi.vwC Vi.zv)]) := hide N3
       clear N3
       refine Stp.go ?_))
  constructor
  go_wp2_with fail
  refine bodyPost_ret (res39 _ b2 (Vi.vwC Vi.zv) false 2 _ rfl rfl rfl rfl ((unhide M).at 1 _ rfl)) rfl ?_
  exact ⟨rfl, (unhide M).rv, (unhide M).kept⟩
set_option maxHeartbeats 8000000 in
theorem rout_1b (r sg eg : Nat) (D : Dv.Dev) (J : Ar.Job) (ep : Int) (w : World) (h : Dv.Rv w r sg eg D) (n q : Int) (h1 : decide (n < 0) = false) (h2 : decide (J.n ≤ n) = true) : Calls Tryz.prog 39 #[P0 r, aggV (Ar.jobC J), .int .i64 n, .int .i64 ep, .int .i64 q] w fun x w' => x = .returned (.tuple #[aggV (Vi.vwC Vi.zv), .bool false, .int .i64 2]) ∧ Dv.Rv w' r sg eg D ∧ Kept [r, sg, eg] w w' := by
  have M : Hid (Ph r sg eg D w w []) := hide (Ph.init h)
  clear h
  go_enter Tryz.func39, Tryz.ntmps39
  go_wp2_with (
    first
    | (refine wpBoxV rfl (.tmp 1) rfl (Ar.jobC J) rfl ?_
       intro W1 b1 e1 B1 K1
       replace M : Hid (Ph r sg eg D w W1 [(b1, 23, Ar.jobC J)]) := hide ((unhide M).new e1 B1 K1)
       clear e1 B1 K1
       refine Stp.go ?_))
  constructor
  go_wp2_with (
    first
    | (refine wpAllocW (Vi.vwC Vi.zv) Vi.zero26 10 rfl rfl rfl ?_
       intro W2 b2 e2 B2 K2
       replace M : Hid (Ph r sg eg D w W2 [(b1, 23, Ar.jobC J), (b2, 29, Vi.vwC Vi.zv)]) := hide ((unhide M).new e2 B2 K2)
       clear e2 B2 K2
       have f0 := fits_cell ((unhide M).at 0 _ rfl) 0 (.int .i64 J.n) rfl
       refine Stp.go ?_))
  constructor
  go_wp2_with (
    first
    | (refine wpBuildZ (Vi.vwC Vi.zv) Vi.build26 rfl rfl ?_
       refine Stp.go ?_))
  constructor
  go_wp2_with (
    first
    | (refine wpStoreP Vi.row26 rfl (.tmp 10) (.tmp 39) rfl rfl b2 1 (Vi.vwC Vi.zv) rfl rfl rfl (Vi.vwC_one _) (unhide M) rfl rfl ?_
       intro W3 N3
       replace M : Hid (Ph r sg eg D w W3 [(b1, 23, Ar.jobC J), (b2, 29, Vi.vwC Vi.zv)]) := hide N3
       clear N3
       refine Stp.go ?_))
  constructor
  go_wp2_with fail
  refine bodyPost_ret (res39 _ b2 (Vi.vwC Vi.zv) false 2 _ rfl rfl rfl rfl ((unhide M).at 1 _ rfl)) rfl ?_
  exact ⟨rfl, (unhide M).rv, (unhide M).kept⟩
set_option maxHeartbeats 8000000 in
theorem rout_1c (r sg eg : Nat) (D : Dv.Dev) (J : Ar.Job) (ep : Int) (w : World) (h : Dv.Rv w r sg eg D) (n q : Int) (h1 : decide (n < 0) = false) (h2 : decide (J.n ≤ n) = false) (h3 : decide (q < 0) = true) : Calls Tryz.prog 39 #[P0 r, aggV (Ar.jobC J), .int .i64 n, .int .i64 ep, .int .i64 q] w fun x w' => x = .returned (.tuple #[aggV (Vi.vwC Vi.zv), .bool false, .int .i64 2]) ∧ Dv.Rv w' r sg eg D ∧ Kept [r, sg, eg] w w' := by
  have M : Hid (Ph r sg eg D w w []) := hide (Ph.init h)
  clear h
  go_enter Tryz.func39, Tryz.ntmps39
  go_wp2_with (
    first
    | (refine wpBoxV rfl (.tmp 1) rfl (Ar.jobC J) rfl ?_
       intro W1 b1 e1 B1 K1
       replace M : Hid (Ph r sg eg D w W1 [(b1, 23, Ar.jobC J)]) := hide ((unhide M).new e1 B1 K1)
       clear e1 B1 K1
       refine Stp.go ?_))
  constructor
  go_wp2_with (
    first
    | (refine wpAllocW (Vi.vwC Vi.zv) Vi.zero26 10 rfl rfl rfl ?_
       intro W2 b2 e2 B2 K2
       replace M : Hid (Ph r sg eg D w W2 [(b1, 23, Ar.jobC J), (b2, 29, Vi.vwC Vi.zv)]) := hide ((unhide M).new e2 B2 K2)
       clear e2 B2 K2
       have f0 := fits_cell ((unhide M).at 0 _ rfl) 0 (.int .i64 J.n) rfl
       refine Stp.go ?_))
  constructor
  go_wp2_with (
    first
    | (refine wpBuildZ (Vi.vwC Vi.zv) Vi.build26 rfl rfl ?_
       refine Stp.go ?_))
  constructor
  go_wp2_with (
    first
    | (refine wpStoreP Vi.row26 rfl (.tmp 10) (.tmp 39) rfl rfl b2 1 (Vi.vwC Vi.zv) rfl rfl rfl (Vi.vwC_one _) (unhide M) rfl rfl ?_
       intro W3 N3
       replace M : Hid (Ph r sg eg D w W3 [(b1, 23, Ar.jobC J), (b2, 29, Vi.vwC Vi.zv)]) := hide N3
       clear N3
       refine Stp.go ?_))
  constructor
  go_wp2_with fail
  refine bodyPost_ret (res39 _ b2 (Vi.vwC Vi.zv) false 2 _ rfl rfl rfl rfl ((unhide M).at 1 _ rfl)) rfl ?_
  exact ⟨rfl, (unhide M).rv, (unhide M).kept⟩
set_option maxHeartbeats 8000000 in
theorem rout_1d (r sg eg : Nat) (D : Dv.Dev) (J : Ar.Job) (ep : Int) (w : World) (h : Dv.Rv w r sg eg D) (n q : Int) (h1 : decide (n < 0) = false) (h2 : decide (J.n ≤ n) = false) (h3 : decide (q < 0) = false) (h4 : decide (J.n ≤ q) = true) : Calls Tryz.prog 39 #[P0 r, aggV (Ar.jobC J), .int .i64 n, .int .i64 ep, .int .i64 q] w fun x w' => x = .returned (.tuple #[aggV (Vi.vwC Vi.zv), .bool false, .int .i64 2]) ∧ Dv.Rv w' r sg eg D ∧ Kept [r, sg, eg] w w' := by
  have M : Hid (Ph r sg eg D w w []) := hide (Ph.init h)
  clear h
  go_enter Tryz.func39, Tryz.ntmps39
  go_wp2_with (
    first
    | (refine wpBoxV rfl (.tmp 1) rfl (Ar.jobC J) rfl ?_
       intro W1 b1 e1 B1 K1
       replace M : Hid (Ph r sg eg D w W1 [(b1, 23, Ar.jobC J)]) := hide ((unhide M).new e1 B1 K1)
       clear e1 B1 K1
       refine Stp.go ?_))
  constructor
  go_wp2_with (
    first
    | (refine wpAllocW (Vi.vwC Vi.zv) Vi.zero26 10 rfl rfl rfl ?_
       intro W2 b2 e2 B2 K2
       replace M : Hid (Ph r sg eg D w W2 [(b1, 23, Ar.jobC J), (b2, 29, Vi.vwC Vi.zv)]) := hide ((unhide M).new e2 B2 K2)
       clear e2 B2 K2
       have f0 := fits_cell ((unhide M).at 0 _ rfl) 0 (.int .i64 J.n) rfl
       refine Stp.go ?_))
  constructor
  go_wp2_with (
    first
    | (refine wpBuildZ (Vi.vwC Vi.zv) Vi.build26 rfl rfl ?_
       refine Stp.go ?_))
  constructor
  go_wp2_with (
    first
    | (refine wpStoreP Vi.row26 rfl (.tmp 10) (.tmp 39) rfl rfl b2 1 (Vi.vwC Vi.zv) rfl rfl rfl (Vi.vwC_one _) (unhide M) rfl rfl ?_
       intro W3 N3
       replace M : Hid (Ph r sg eg D w W3 [(b1, 23, Ar.jobC J), (b2, 29, Vi.vwC Vi.zv)]) := hide N3
       clear N3
       refine Stp.go ?_))
  constructor
  go_wp2_with fail
  refine bodyPost_ret (res39 _ b2 (Vi.vwC Vi.zv) false 2 _ rfl rfl rfl rfl ((unhide M).at 1 _ rfl)) rfl ?_
  exact ⟨rfl, (unhide M).rv, (unhide M).kept⟩
set_option maxHeartbeats 8000000 in
theorem rout_1e (r sg eg : Nat) (D : Dv.Dev) (J : Ar.Job) (ep : Int) (w : World) (h : Dv.Rv w r sg eg D) (n q : Int) (_h1 : decide (n < 0) = false) (_h2 : decide (J.n ≤ n) = false) (h3 : decide (q < 0) = false) (h4 : decide (J.n ≤ q) = false) (h5 : n = q) : Calls Tryz.prog 39 #[P0 r, aggV (Ar.jobC J), .int .i64 n, .int .i64 ep, .int .i64 q] w fun x w' => x = .returned (.tuple #[aggV (Vi.vwC Vi.zv), .bool false, .int .i64 2]) ∧ Dv.Rv w' r sg eg D ∧ Kept [r, sg, eg] w w' := by
  have M : Hid (Ph r sg eg D w w []) := hide (Ph.init h)
  clear h
  go_enter Tryz.func39, Tryz.ntmps39
  go_wp2_with (
    first
    | (refine wpBoxV rfl (.tmp 1) rfl (Ar.jobC J) rfl ?_
       intro W1 b1 e1 B1 K1
       replace M : Hid (Ph r sg eg D w W1 [(b1, 23, Ar.jobC J)]) := hide ((unhide M).new e1 B1 K1)
       clear e1 B1 K1
       refine Stp.go ?_))
  constructor
  go_wp2_with (
    first
    | (refine wpAllocW (Vi.vwC Vi.zv) Vi.zero26 10 rfl rfl rfl ?_
       intro W2 b2 e2 B2 K2
       replace M : Hid (Ph r sg eg D w W2 [(b1, 23, Ar.jobC J), (b2, 29, Vi.vwC Vi.zv)]) := hide ((unhide M).new e2 B2 K2)
       clear e2 B2 K2
       have f0 := fits_cell ((unhide M).at 0 _ rfl) 0 (.int .i64 J.n) rfl
       refine Stp.go ?_))
  constructor
  go_wp2_with (
    first
    | (refine wpBuildZ (Vi.vwC Vi.zv) Vi.build26 rfl rfl ?_
       refine Stp.go ?_))
  constructor
  go_wp2_with (
    first
    | (refine wpStoreP Vi.row26 rfl (.tmp 10) (.tmp 39) rfl rfl b2 1 (Vi.vwC Vi.zv) rfl rfl rfl (Vi.vwC_one _) (unhide M) rfl rfl ?_
       intro W3 N3
       replace M : Hid (Ph r sg eg D w W3 [(b1, 23, Ar.jobC J), (b2, 29, Vi.vwC Vi.zv)]) := hide N3
       clear N3
       refine Stp.go ?_))
  constructor
  go_wp2_with fail
  refine bodyPost_ret (res39 _ b2 (Vi.vwC Vi.zv) false 2 _ rfl rfl rfl rfl ((unhide M).at 1 _ rfl)) rfl ?_
  exact ⟨rfl, (unhide M).rv, (unhide M).kept⟩
set_option maxHeartbeats 8000000 in
theorem rout_2 (r sg eg : Nat) (D : Dv.Dev) (J : Ar.Job) (ep : Int) (w : World) (h : Dv.Rv w r sg eg D) (k q : Nat) (e1 : Int) (h1 : decide ((k : Int) < 0) = false) (h3 : decide ((q : Int) < 0) = false) (h7 : ((k : Int) == (q : Int)) = false) (h2 : decide (J.n ≤ (k : Int)) = false) (h4 : decide (J.n ≤ (q : Int)) = false)  (PW : Hid (∀ W, Dv.Rv W r sg eg D → Calls Tryz.prog 96 #[P0 r, aggV (Ar.jobC J), .int .i64 k, .int .i64 ep] W fun e w' => e = .returned (.int .i64 e1) ∧ Kept [] W w')) (he : ¬ e1 = 0) : Calls Tryz.prog 39 #[P0 r, aggV (Ar.jobC J), .int .i64 k, .int .i64 ep, .int .i64 q] w fun x w' => x = .returned (.tuple #[aggV (Vi.vwC Vi.zv), .bool false, .int .i64 e1]) ∧ Dv.Rv w' r sg eg D ∧ Kept [r, sg, eg] w w' := by
  have M : Hid (Ph r sg eg D w w []) := hide (Ph.init h)
  clear h
  go_enter Tryz.func39, Tryz.ntmps39
  go_wp2_with (
    first
    | (refine wpBoxV rfl (.tmp 1) rfl (Ar.jobC J) rfl ?_
       intro W1 b1 e1 B1 K1
       replace M : Hid (Ph r sg eg D w W1 [(b1, 23, Ar.jobC J)]) := hide ((unhide M).new e1 B1 K1)
       clear e1 B1 K1
       refine Stp.go ?_))
  constructor
  go_wp2_with (
    first
    | (refine wpAllocW (Vi.vwC Vi.zv) Vi.zero26 10 rfl rfl rfl ?_
       intro W2 b2 e2 B2 K2
       replace M : Hid (Ph r sg eg D w W2 [(b1, 23, Ar.jobC J), (b2, 29, Vi.vwC Vi.zv)]) := hide ((unhide M).new e2 B2 K2)
       clear e2 B2 K2
       have f0 := fits_cell ((unhide M).at 0 _ rfl) 0 (.int .i64 J.n) rfl
       refine Stp.go ?_))
  constructor
  go_wp2_with (
    first
    | (refine wpLoadA jrow rfl (.tmp 6) rfl b1 0 rfl (Ar.jobC J) rfl ((unhide M).at 0 _ rfl).range ?_
       refine Stp.go ?_))
  constructor
  go_wp2_with (
    first
    | (go_at_call 96
       refine (unhide PW _ (unhide M).rv).mono ?_
       rintro e W3 ⟨rfl, K3⟩
       replace M : Hid (Ph r sg eg D w W3 [(b1, 23, Ar.jobC J), (b2, 29, Vi.vwC Vi.zv)]) := hide ((unhide M).step K3)
       clear K3
       clear f0
       refine Stp.go ?_))
  constructor
  go_wp2_with (
    first
    | (refine wpBuildZ (Vi.vwC Vi.zv) Vi.build26 rfl rfl ?_
       refine Stp.go ?_))
  constructor
  go_wp2_with (
    first
    | (refine wpStoreP Vi.row26 rfl (.tmp 10) (.tmp 47) rfl rfl b2 1 (Vi.vwC Vi.zv) rfl rfl rfl (Vi.vwC_one _) (unhide M) rfl rfl ?_
       intro W4 N4
       replace M : Hid (Ph r sg eg D w W4 [(b1, 23, Ar.jobC J), (b2, 29, Vi.vwC Vi.zv)]) := hide N4
       clear N4
       refine Stp.go ?_))
  constructor
  go_wp2_with fail
  refine bodyPost_ret (res39 _ b2 (Vi.vwC Vi.zv) false e1 _ rfl rfl rfl rfl ((unhide M).at 1 _ rfl)) rfl ?_
  exact ⟨rfl, (unhide M).rv, (unhide M).kept⟩
set_option maxHeartbeats 8000000 in
theorem rout_3 (r sg eg : Nat) (D : Dv.Dev) (J : Ar.Job) (ep : Int) (w : World) (h : Dv.Rv w r sg eg D) (k q : Nat) (e2 : Int) (v : Vi.Vw) (h1 : decide ((k : Int) < 0) = false) (h3 : decide ((q : Int) < 0) = false) (h7 : ((k : Int) == (q : Int)) = false) (h2 : decide (J.n ≤ (k : Int)) = false) (h4 : decide (J.n ≤ (q : Int)) = false)  (PW : Hid (∀ W, Dv.Rv W r sg eg D → Calls Tryz.prog 96 #[P0 r, aggV (Ar.jobC J), .int .i64 k, .int .i64 ep] W fun e w' => e = .returned (.int .i64 0) ∧ Kept [] W w')) (PV : Hid (∀ W, Dv.Rv W r sg eg D → Calls Tryz.prog 14 #[P0 r, aggV (Ar.jobC J)] W fun x w' => x = .returned (.tuple #[aggV (Vi.vwC v), .int .i64 e2]) ∧ Kept [] W w')) (HVL : Hid ((Vi.vwC v).length = 19)) (he : ¬ e2 = 0) : Calls Tryz.prog 39 #[P0 r, aggV (Ar.jobC J), .int .i64 k, .int .i64 ep, .int .i64 q] w fun x w' => x = .returned (.tuple #[aggV (Vi.vwC Vi.zv), .bool false, .int .i64 e2]) ∧ Dv.Rv w' r sg eg D ∧ Kept [r, sg, eg] w w' := by
  have M : Hid (Ph r sg eg D w w []) := hide (Ph.init h)
  clear h
  go_enter Tryz.func39, Tryz.ntmps39
  go_wp2_with (
    first
    | (refine wpBoxV rfl (.tmp 1) rfl (Ar.jobC J) rfl ?_
       intro W1 b1 e1 B1 K1
       replace M : Hid (Ph r sg eg D w W1 [(b1, 23, Ar.jobC J)]) := hide ((unhide M).new e1 B1 K1)
       clear e1 B1 K1
       refine Stp.go ?_))
  constructor
  go_wp2_with (
    first
    | (refine wpAllocW (Vi.vwC Vi.zv) Vi.zero26 10 rfl rfl rfl ?_
       intro W2 b2 e2 B2 K2
       replace M : Hid (Ph r sg eg D w W2 [(b1, 23, Ar.jobC J), (b2, 29, Vi.vwC Vi.zv)]) := hide ((unhide M).new e2 B2 K2)
       clear e2 B2 K2
       have f0 := fits_cell ((unhide M).at 0 _ rfl) 0 (.int .i64 J.n) rfl
       refine Stp.go ?_))
  constructor
  go_wp2_with (
    first
    | (refine wpLoadA jrow rfl (.tmp 6) rfl b1 0 rfl (Ar.jobC J) rfl ((unhide M).at 0 _ rfl).range ?_
       refine Stp.go ?_))
  constructor
  go_wp2_with (
    first
    | (go_at_call 96
       refine (unhide PW _ (unhide M).rv).mono ?_
       rintro e W3 ⟨rfl, K3⟩
       replace M : Hid (Ph r sg eg D w W3 [(b1, 23, Ar.jobC J), (b2, 29, Vi.vwC Vi.zv)]) := hide ((unhide M).step K3)
       clear K3
       clear f0
       refine Stp.go ?_))
  constructor
  go_wp2_with (
    first
    | (refine wpLoadA jrow rfl (.tmp 6) rfl b1 0 rfl (Ar.jobC J) rfl ((unhide M).at 0 _ rfl).range ?_
       refine Stp.go ?_))
  constructor
  go_wp2_with (
    first
    | (go_at_call 14
       refine (unhide PV _ (unhide M).rv).mono ?_
       rintro e W4 ⟨rfl, K4⟩
       replace M : Hid (Ph r sg eg D w W4 [(b1, 23, Ar.jobC J), (b2, 29, Vi.vwC Vi.zv)]) := hide ((unhide M).step K4)
       clear K4
       refine Stp.go ?_))
  constructor
  go_wp2_with (
    first
    | (refine wpNew Vi.row26 (Vi.vwC Vi.zv) rfl Vi.zero26 14 rfl rfl rfl (.tmp 53) rfl rfl rfl (Vi.vwC v) (unhide HVL) (Vi.vwC_one _) (by kernel_rfl) (by kernel_rfl) ?_
       intro W5 b5 e5 B5 K5
       replace M : Hid (Ph r sg eg D w W5 [(b1, 23, Ar.jobC J), (b2, 29, Vi.vwC Vi.zv), (b5, 29, Vi.vwC v)]) := hide ((unhide M).new e5 B5 K5)
       clear e5 B5 K5
       refine Stp.go ?_))
  constructor
  go_wp2_with (
    first
    | (refine wpBuildZ (Vi.vwC Vi.zv) Vi.build26 rfl rfl ?_
       refine Stp.go ?_))
  constructor
  go_wp2_with (
    first
    | (refine wpStoreP Vi.row26 rfl (.tmp 10) (.tmp 57) rfl rfl b2 1 (Vi.vwC Vi.zv) rfl rfl rfl (Vi.vwC_one _) (unhide M) rfl rfl ?_
       intro W6 N6
       replace M : Hid (Ph r sg eg D w W6 [(b1, 23, Ar.jobC J), (b2, 29, Vi.vwC Vi.zv), (b5, 29, Vi.vwC v)]) := hide N6
       clear N6
       refine Stp.go ?_))
  constructor
  go_wp2_with fail
  refine bodyPost_ret (res39 _ b2 (Vi.vwC Vi.zv) false e2 _ rfl rfl rfl rfl ((unhide M).at 1 _ rfl)) rfl ?_
  exact ⟨rfl, (unhide M).rv, (unhide M).kept⟩
set_option maxHeartbeats 8000000 in
theorem rout_4a (r sg eg : Nat) (D : Dv.Dev) (J : Ar.Job) (ep : Int) (w : World) (h : Dv.Rv w r sg eg D) (k q : Nat) (v : Vi.Vw) (h1 : decide ((k : Int) < 0) = false) (h3 : decide ((q : Int) < 0) = false) (h7 : ((k : Int) == (q : Int)) = false) (h2 : decide (J.n ≤ (k : Int)) = false) (h4 : decide (J.n ≤ (q : Int)) = false)  (PW : Hid (∀ W, Dv.Rv W r sg eg D → Calls Tryz.prog 96 #[P0 r, aggV (Ar.jobC J), .int .i64 k, .int .i64 ep] W fun e w' => e = .returned (.int .i64 0) ∧ Kept [] W w')) (PV : Hid (∀ W, Dv.Rv W r sg eg D → Calls Tryz.prog 14 #[P0 r, aggV (Ar.jobC J)] W fun x w' => x = .returned (.tuple #[aggV (Vi.vwC v), .int .i64 0]) ∧ Kept [] W w')) (HVL : Hid ((Vi.vwC v).length = 19)) (mi qi : Bool) (me qe : Int) (X0 : Hid ((Vi.vwC v)[3 + k * 2]? = some (.bool mi))) (X1 : Hid ((Vi.vwC v)[3 + k * 2 + 1]? = some (.int .i64 me))) (Y0 : Hid ((Vi.vwC v)[3 + q * 2]? = some (.bool qi))) (Y1 : Hid ((Vi.vwC v)[3 + q * 2 + 1]? = some (.int .i64 qe))) (hk8 : (k : Int) < 8) (_hq8 : (q : Int) < 8) (hmi : mi = false) : Calls Tryz.prog 39 #[P0 r, aggV (Ar.jobC J), .int .i64 k, .int .i64 ep, .int .i64 q] w fun x w' => x = .returned (.tuple #[aggV (Vi.vwC Vi.zv), .bool false, .int .i64 6]) ∧ Dv.Rv w' r sg eg D ∧ Kept [r, sg, eg] w w' := by
  have M : Hid (Ph r sg eg D w w []) := hide (Ph.init h)
  clear h
  subst hmi
  go_enter Tryz.func39, Tryz.ntmps39
  go_wp2_with (
    first
    | (refine wpBoxV rfl (.tmp 1) rfl (Ar.jobC J) rfl ?_
       intro W1 b1 e1 B1 K1
       replace M : Hid (Ph r sg eg D w W1 [(b1, 23, Ar.jobC J)]) := hide ((unhide M).new e1 B1 K1)
       clear e1 B1 K1
       refine Stp.go ?_))
  constructor
  go_wp2_with (
    first
    | (refine wpAllocW (Vi.vwC Vi.zv) Vi.zero26 10 rfl rfl rfl ?_
       intro W2 b2 e2 B2 K2
       replace M : Hid (Ph r sg eg D w W2 [(b1, 23, Ar.jobC J), (b2, 29, Vi.vwC Vi.zv)]) := hide ((unhide M).new e2 B2 K2)
       clear e2 B2 K2
       have f0 := fits_cell ((unhide M).at 0 _ rfl) 0 (.int .i64 J.n) rfl
       refine Stp.go ?_))
  constructor
  go_wp2_with (
    first
    | (refine wpLoadA jrow rfl (.tmp 6) rfl b1 0 rfl (Ar.jobC J) rfl ((unhide M).at 0 _ rfl).range ?_
       refine Stp.go ?_))
  constructor
  go_wp2_with (
    first
    | (go_at_call 96
       refine (unhide PW _ (unhide M).rv).mono ?_
       rintro e W3 ⟨rfl, K3⟩
       replace M : Hid (Ph r sg eg D w W3 [(b1, 23, Ar.jobC J), (b2, 29, Vi.vwC Vi.zv)]) := hide ((unhide M).step K3)
       clear K3
       clear f0
       refine Stp.go ?_))
  constructor
  go_wp2_with (
    first
    | (refine wpLoadA jrow rfl (.tmp 6) rfl b1 0 rfl (Ar.jobC J) rfl ((unhide M).at 0 _ rfl).range ?_
       refine Stp.go ?_))
  constructor
  go_wp2_with (
    first
    | (go_at_call 14
       refine (unhide PV _ (unhide M).rv).mono ?_
       rintro e W4 ⟨rfl, K4⟩
       replace M : Hid (Ph r sg eg D w W4 [(b1, 23, Ar.jobC J), (b2, 29, Vi.vwC Vi.zv)]) := hide ((unhide M).step K4)
       clear K4
       refine Stp.go ?_))
  constructor
  go_wp2_with (
    first
    | (refine wpNew Vi.row26 (Vi.vwC Vi.zv) rfl Vi.zero26 14 rfl rfl rfl (.tmp 53) rfl rfl rfl (Vi.vwC v) (unhide HVL) (Vi.vwC_one _) (by kernel_rfl) (by kernel_rfl) ?_
       intro W5 b5 e5 B5 K5
       replace M : Hid (Ph r sg eg D w W5 [(b1, 23, Ar.jobC J), (b2, 29, Vi.vwC Vi.zv), (b5, 29, Vi.vwC v)]) := hide ((unhide M).new e5 B5 K5)
       clear e5 B5 K5
       have c0 := fits_cell ((unhide M).at 2 _ rfl) 0 (.int .i64 v.nu) rfl
       have c1 := fits_cell ((unhide M).at 2 _ rfl) _ _ (unhide X0)
       have c2 := fits_cell ((unhide M).at 2 _ rfl) _ _ (unhide X1)
       have c3 := fits_cell ((unhide M).at 2 _ rfl) _ _ (unhide Y0)
       have c4 := fits_cell ((unhide M).at 2 _ rfl) _ _ (unhide Y1)
       refine Stp.go ?_))
  constructor
  go_wp2_with (
    first
    | (refine wpBuildZ (Vi.vwC Vi.zv) Vi.build26 rfl rfl ?_
       refine Stp.go ?_))
  constructor
  go_wp2_with (
    first
    | (refine wpStoreP Vi.row26 rfl (.tmp 10) (.tmp 82) rfl rfl b2 1 (Vi.vwC Vi.zv) rfl rfl rfl (Vi.vwC_one _) (unhide M) rfl rfl ?_
       intro W6 N6
       replace M : Hid (Ph r sg eg D w W6 [(b1, 23, Ar.jobC J), (b2, 29, Vi.vwC Vi.zv), (b5, 29, Vi.vwC v)]) := hide N6
       clear N6
       refine Stp.go ?_))
  constructor
  go_wp2_with fail
  refine bodyPost_ret (res39 _ b2 (Vi.vwC Vi.zv) false 6 _ rfl rfl rfl rfl ((unhide M).at 1 _ rfl)) rfl ?_
  exact ⟨rfl, (unhide M).rv, (unhide M).kept⟩
set_option maxHeartbeats 8000000 in
theorem rout_4b (r sg eg : Nat) (D : Dv.Dev) (J : Ar.Job) (ep : Int) (w : World) (h : Dv.Rv w r sg eg D) (k q : Nat) (v : Vi.Vw) (h1 : decide ((k : Int) < 0) = false) (h3 : decide ((q : Int) < 0) = false) (h7 : ((k : Int) == (q : Int)) = false) (h2 : decide (J.n ≤ (k : Int)) = false) (h4 : decide (J.n ≤ (q : Int)) = false)  (PW : Hid (∀ W, Dv.Rv W r sg eg D → Calls Tryz.prog 96 #[P0 r, aggV (Ar.jobC J), .int .i64 k, .int .i64 ep] W fun e w' => e = .returned (.int .i64 0) ∧ Kept [] W w')) (PV : Hid (∀ W, Dv.Rv W r sg eg D → Calls Tryz.prog 14 #[P0 r, aggV (Ar.jobC J)] W fun x w' => x = .returned (.tuple #[aggV (Vi.vwC v), .int .i64 0]) ∧ Kept [] W w')) (HVL : Hid ((Vi.vwC v).length = 19)) (mi qi : Bool) (me qe : Int) (X0 : Hid ((Vi.vwC v)[3 + k * 2]? = some (.bool mi))) (X1 : Hid ((Vi.vwC v)[3 + k * 2 + 1]? = some (.int .i64 me))) (Y0 : Hid ((Vi.vwC v)[3 + q * 2]? = some (.bool qi))) (Y1 : Hid ((Vi.vwC v)[3 + q * 2 + 1]? = some (.int .i64 qe))) (hk8 : (k : Int) < 8) (_hq8 : (q : Int) < 8) (hmi : mi = true) (hme : ¬ me = ep) : Calls Tryz.prog 39 #[P0 r, aggV (Ar.jobC J), .int .i64 k, .int .i64 ep, .int .i64 q] w fun x w' => x = .returned (.tuple #[aggV (Vi.vwC Vi.zv), .bool false, .int .i64 6]) ∧ Dv.Rv w' r sg eg D ∧ Kept [r, sg, eg] w w' := by
  have M : Hid (Ph r sg eg D w w []) := hide (Ph.init h)
  clear h
  subst hmi
  go_enter Tryz.func39, Tryz.ntmps39
  go_wp2_with (
    first
    | (refine wpBoxV rfl (.tmp 1) rfl (Ar.jobC J) rfl ?_
       intro W1 b1 e1 B1 K1
       replace M : Hid (Ph r sg eg D w W1 [(b1, 23, Ar.jobC J)]) := hide ((unhide M).new e1 B1 K1)
       clear e1 B1 K1
       refine Stp.go ?_))
  constructor
  go_wp2_with (
    first
    | (refine wpAllocW (Vi.vwC Vi.zv) Vi.zero26 10 rfl rfl rfl ?_
       intro W2 b2 e2 B2 K2
       replace M : Hid (Ph r sg eg D w W2 [(b1, 23, Ar.jobC J), (b2, 29, Vi.vwC Vi.zv)]) := hide ((unhide M).new e2 B2 K2)
       clear e2 B2 K2
       have f0 := fits_cell ((unhide M).at 0 _ rfl) 0 (.int .i64 J.n) rfl
       refine Stp.go ?_))
  constructor
  go_wp2_with (
    first
    | (refine wpLoadA jrow rfl (.tmp 6) rfl b1 0 rfl (Ar.jobC J) rfl ((unhide M).at 0 _ rfl).range ?_
       refine Stp.go ?_))
  constructor
  go_wp2_with (
    first
    | (go_at_call 96
       refine (unhide PW _ (unhide M).rv).mono ?_
       rintro e W3 ⟨rfl, K3⟩
       replace M : Hid (Ph r sg eg D w W3 [(b1, 23, Ar.jobC J), (b2, 29, Vi.vwC Vi.zv)]) := hide ((unhide M).step K3)
       clear K3
       clear f0
       refine Stp.go ?_))
  constructor
  go_wp2_with (
    first
    | (refine wpLoadA jrow rfl (.tmp 6) rfl b1 0 rfl (Ar.jobC J) rfl ((unhide M).at 0 _ rfl).range ?_
       refine Stp.go ?_))
  constructor
  go_wp2_with (
    first
    | (go_at_call 14
       refine (unhide PV _ (unhide M).rv).mono ?_
       rintro e W4 ⟨rfl, K4⟩
       replace M : Hid (Ph r sg eg D w W4 [(b1, 23, Ar.jobC J), (b2, 29, Vi.vwC Vi.zv)]) := hide ((unhide M).step K4)
       clear K4
       refine Stp.go ?_))
  constructor
  go_wp2_with (
    first
    | (refine wpNew Vi.row26 (Vi.vwC Vi.zv) rfl Vi.zero26 14 rfl rfl rfl (.tmp 53) rfl rfl rfl (Vi.vwC v) (unhide HVL) (Vi.vwC_one _) (by kernel_rfl) (by kernel_rfl) ?_
       intro W5 b5 e5 B5 K5
       replace M : Hid (Ph r sg eg D w W5 [(b1, 23, Ar.jobC J), (b2, 29, Vi.vwC Vi.zv), (b5, 29, Vi.vwC v)]) := hide ((unhide M).new e5 B5 K5)
       clear e5 B5 K5
       have c0 := fits_cell ((unhide M).at 2 _ rfl) 0 (.int .i64 v.nu) rfl
       have c1 := fits_cell ((unhide M).at 2 _ rfl) _ _ (unhide X0)
       have c2 := fits_cell ((unhide M).at 2 _ rfl) _ _ (unhide X1)
       have c3 := fits_cell ((unhide M).at 2 _ rfl) _ _ (unhide Y0)
       have c4 := fits_cell ((unhide M).at 2 _ rfl) _ _ (unhide Y1)
       refine Stp.go ?_))
  constructor
  go_wp2_with (
    first
    | (refine wpBuildZ (Vi.vwC Vi.zv) Vi.build26 rfl rfl ?_
       refine Stp.go ?_))
  constructor
  go_wp2_with (
    first
    | (refine wpStoreP Vi.row26 rfl (.tmp 10) (.tmp 82) rfl rfl b2 1 (Vi.vwC Vi.zv) rfl rfl rfl (Vi.vwC_one _) (unhide M) rfl rfl ?_
       intro W6 N6
       replace M : Hid (Ph r sg eg D w W6 [(b1, 23, Ar.jobC J), (b2, 29, Vi.vwC Vi.zv), (b5, 29, Vi.vwC v)]) := hide N6
       clear N6
       refine Stp.go ?_))
  constructor
  go_wp2_with fail
  refine bodyPost_ret (res39 _ b2 (Vi.vwC Vi.zv) false 6 _ rfl rfl rfl rfl ((unhide M).at 1 _ rfl)) rfl ?_
  exact ⟨rfl, (unhide M).rv, (unhide M).kept⟩
set_option maxHeartbeats 8000000 in
theorem rout_4c (r sg eg : Nat) (D : Dv.Dev) (J : Ar.Job) (ep : Int) (w : World) (h : Dv.Rv w r sg eg D) (k q : Nat) (v : Vi.Vw) (h1 : decide ((k : Int) < 0) = false) (h3 : decide ((q : Int) < 0) = false) (h7 : ((k : Int) == (q : Int)) = false) (h2 : decide (J.n ≤ (k : Int)) = false) (h4 : decide (J.n ≤ (q : Int)) = false)  (PW : Hid (∀ W, Dv.Rv W r sg eg D → Calls Tryz.prog 96 #[P0 r, aggV (Ar.jobC J), .int .i64 k, .int .i64 ep] W fun e w' => e = .returned (.int .i64 0) ∧ Kept [] W w')) (PV : Hid (∀ W, Dv.Rv W r sg eg D → Calls Tryz.prog 14 #[P0 r, aggV (Ar.jobC J)] W fun x w' => x = .returned (.tuple #[aggV (Vi.vwC v), .int .i64 0]) ∧ Kept [] W w')) (HVL : Hid ((Vi.vwC v).length = 19)) (mi qi : Bool) (me qe : Int) (X0 : Hid ((Vi.vwC v)[3 + k * 2]? = some (.bool mi))) (X1 : Hid ((Vi.vwC v)[3 + k * 2 + 1]? = some (.int .i64 me))) (Y0 : Hid ((Vi.vwC v)[3 + q * 2]? = some (.bool qi))) (Y1 : Hid ((Vi.vwC v)[3 + q * 2 + 1]? = some (.int .i64 qe))) (hk8 : (k : Int) < 8) (hq8 : (q : Int) < 8) (hmi : mi = true) (hme : me = ep) (hqi : qi = false) : Calls Tryz.prog 39 #[P0 r, aggV (Ar.jobC J), .int .i64 k, .int .i64 ep, .int .i64 q] w fun x w' => x = .returned (.tuple #[aggV (Vi.vwC Vi.zv), .bool false, .int .i64 6]) ∧ Dv.Rv w' r sg eg D ∧ Kept [r, sg, eg] w w' := by
  have M : Hid (Ph r sg eg D w w []) := hide (Ph.init h)
  clear h
  subst hmi
  subst hqi
  go_enter Tryz.func39, Tryz.ntmps39
  go_wp2_with (
    first
    | (refine wpBoxV rfl (.tmp 1) rfl (Ar.jobC J) rfl ?_
       intro W1 b1 e1 B1 K1
       replace M : Hid (Ph r sg eg D w W1 [(b1, 23, Ar.jobC J)]) := hide ((unhide M).new e1 B1 K1)
       clear e1 B1 K1
       refine Stp.go ?_))
  constructor
  go_wp2_with (
    first
    | (refine wpAllocW (Vi.vwC Vi.zv) Vi.zero26 10 rfl rfl rfl ?_
       intro W2 b2 e2 B2 K2
       replace M : Hid (Ph r sg eg D w W2 [(b1, 23, Ar.jobC J), (b2, 29, Vi.vwC Vi.zv)]) := hide ((unhide M).new e2 B2 K2)
       clear e2 B2 K2
       have f0 := fits_cell ((unhide M).at 0 _ rfl) 0 (.int .i64 J.n) rfl
       refine Stp.go ?_))
  constructor
  go_wp2_with (
    first
    | (refine wpLoadA jrow rfl (.tmp 6) rfl b1 0 rfl (Ar.jobC J) rfl ((unhide M).at 0 _ rfl).range ?_
       refine Stp.go ?_))
  constructor
  go_wp2_with (
    first
    | (go_at_call 96
       refine (unhide PW _ (unhide M).rv).mono ?_
       rintro e W3 ⟨rfl, K3⟩
       replace M : Hid (Ph r sg eg D w W3 [(b1, 23, Ar.jobC J), (b2, 29, Vi.vwC Vi.zv)]) := hide ((unhide M).step K3)
       clear K3
       clear f0
       refine Stp.go ?_))
  constructor
  go_wp2_with (
    first
    | (refine wpLoadA jrow rfl (.tmp 6) rfl b1 0 rfl (Ar.jobC J) rfl ((unhide M).at 0 _ rfl).range ?_
       refine Stp.go ?_))
  constructor
  go_wp2_with (
    first
    | (go_at_call 14
       refine (unhide PV _ (unhide M).rv).mono ?_
       rintro e W4 ⟨rfl, K4⟩
       replace M : Hid (Ph r sg eg D w W4 [(b1, 23, Ar.jobC J), (b2, 29, Vi.vwC Vi.zv)]) := hide ((unhide M).step K4)
       clear K4
       refine Stp.go ?_))
  constructor
  go_wp2_with (
    first
    | (refine wpNew Vi.row26 (Vi.vwC Vi.zv) rfl Vi.zero26 14 rfl rfl rfl (.tmp 53) rfl rfl rfl (Vi.vwC v) (unhide HVL) (Vi.vwC_one _) (by kernel_rfl) (by kernel_rfl) ?_
       intro W5 b5 e5 B5 K5
       replace M : Hid (Ph r sg eg D w W5 [(b1, 23, Ar.jobC J), (b2, 29, Vi.vwC Vi.zv), (b5, 29, Vi.vwC v)]) := hide ((unhide M).new e5 B5 K5)
       clear e5 B5 K5
       have c0 := fits_cell ((unhide M).at 2 _ rfl) 0 (.int .i64 v.nu) rfl
       have c1 := fits_cell ((unhide M).at 2 _ rfl) _ _ (unhide X0)
       have c2 := fits_cell ((unhide M).at 2 _ rfl) _ _ (unhide X1)
       have c3 := fits_cell ((unhide M).at 2 _ rfl) _ _ (unhide Y0)
       have c4 := fits_cell ((unhide M).at 2 _ rfl) _ _ (unhide Y1)
       refine Stp.go ?_))
  constructor
  go_wp2_with (
    first
    | (refine wpBuildZ (Vi.vwC Vi.zv) Vi.build26 rfl rfl ?_
       refine Stp.go ?_))
  constructor
  go_wp2_with (
    first
    | (refine wpStoreP Vi.row26 rfl (.tmp 10) (.tmp 82) rfl rfl b2 1 (Vi.vwC Vi.zv) rfl rfl rfl (Vi.vwC_one _) (unhide M) rfl rfl ?_
       intro W6 N6
       replace M : Hid (Ph r sg eg D w W6 [(b1, 23, Ar.jobC J), (b2, 29, Vi.vwC Vi.zv), (b5, 29, Vi.vwC v)]) := hide N6
       clear N6
       refine Stp.go ?_))
  constructor
  go_wp2_with fail
  refine bodyPost_ret (res39 _ b2 (Vi.vwC Vi.zv) false 6 _ rfl rfl rfl rfl ((unhide M).at 1 _ rfl)) rfl ?_
  exact ⟨rfl, (unhide M).rv, (unhide M).kept⟩
set_option maxHeartbeats 8000000 in
theorem rout_5 (r sg eg : Nat) (D : Dv.Dev) (J : Ar.Job) (ep : Int) (w : World) (h : Dv.Rv w r sg eg D) (k q : Nat) (v : Vi.Vw) (h1 : decide ((k : Int) < 0) = false) (h3 : decide ((q : Int) < 0) = false) (h7 : ((k : Int) == (q : Int)) = false) (h2 : decide (J.n ≤ (k : Int)) = false) (h4 : decide (J.n ≤ (q : Int)) = false)  (PW : Hid (∀ W, Dv.Rv W r sg eg D → Calls Tryz.prog 96 #[P0 r, aggV (Ar.jobC J), .int .i64 k, .int .i64 ep] W fun e w' => e = .returned (.int .i64 0) ∧ Kept [] W w')) (PV : Hid (∀ W, Dv.Rv W r sg eg D → Calls Tryz.prog 14 #[P0 r, aggV (Ar.jobC J)] W fun x w' => x = .returned (.tuple #[aggV (Vi.vwC v), .int .i64 0]) ∧ Kept [] W w')) (HVL : Hid ((Vi.vwC v).length = 19)) (mi qi : Bool) (me qe : Int) (X0 : Hid ((Vi.vwC v)[3 + k * 2]? = some (.bool mi))) (X1 : Hid ((Vi.vwC v)[3 + k * 2 + 1]? = some (.int .i64 me))) (Y0 : Hid ((Vi.vwC v)[3 + q * 2]? = some (.bool qi))) (Y1 : Hid ((Vi.vwC v)[3 + q * 2 + 1]? = some (.int .i64 qe))) (hk8 : (k : Int) < 8) (hq8 : (q : Int) < 8) (hmi : mi = true) (hme : me = ep) (hqi : qi = true) (HNU : Hid (v.nu = 4611686018427387904)) : Calls Tryz.prog 39 #[P0 r, aggV (Ar.jobC J), .int .i64 k, .int .i64 ep, .int .i64 q] w fun x w' => x = .returned (.tuple #[aggV (Vi.vwC Vi.zv), .bool false, .int .i64 5]) ∧ Dv.Rv w' r sg eg D ∧ Kept [r, sg, eg] w w' := by
  have M : Hid (Ph r sg eg D w w []) := hide (Ph.init h)
  clear h
  subst hmi
  subst hqi
  go_enter Tryz.func39, Tryz.ntmps39
  go_wp2_with (
    first
    | (refine wpBoxV rfl (.tmp 1) rfl (Ar.jobC J) rfl ?_
       intro W1 b1 e1 B1 K1
       replace M : Hid (Ph r sg eg D w W1 [(b1, 23, Ar.jobC J)]) := hide ((unhide M).new e1 B1 K1)
       clear e1 B1 K1
       refine Stp.go ?_))
  constructor
  go_wp2_with (
    first
    | (refine wpAllocW (Vi.vwC Vi.zv) Vi.zero26 10 rfl rfl rfl ?_
       intro W2 b2 e2 B2 K2
       replace M : Hid (Ph r sg eg D w W2 [(b1, 23, Ar.jobC J), (b2, 29, Vi.vwC Vi.zv)]) := hide ((unhide M).new e2 B2 K2)
       clear e2 B2 K2
       have f0 := fits_cell ((unhide M).at 0 _ rfl) 0 (.int .i64 J.n) rfl
       refine Stp.go ?_))
  constructor
  go_wp2_with (
    first
    | (refine wpLoadA jrow rfl (.tmp 6) rfl b1 0 rfl (Ar.jobC J) rfl ((unhide M).at 0 _ rfl).range ?_
       refine Stp.go ?_))
  constructor
  go_wp2_with (
    first
    | (go_at_call 96
       refine (unhide PW _ (unhide M).rv).mono ?_
       rintro e W3 ⟨rfl, K3⟩
       replace M : Hid (Ph r sg eg D w W3 [(b1, 23, Ar.jobC J), (b2, 29, Vi.vwC Vi.zv)]) := hide ((unhide M).step K3)
       clear K3
       clear f0
       refine Stp.go ?_))
  constructor
  go_wp2_with (
    first
    | (refine wpLoadA jrow rfl (.tmp 6) rfl b1 0 rfl (Ar.jobC J) rfl ((unhide M).at 0 _ rfl).range ?_
       refine Stp.go ?_))
  constructor
  go_wp2_with (
    first
    | (go_at_call 14
       refine (unhide PV _ (unhide M).rv).mono ?_
       rintro e W4 ⟨rfl, K4⟩
       replace M : Hid (Ph r sg eg D w W4 [(b1, 23, Ar.jobC J), (b2, 29, Vi.vwC Vi.zv)]) := hide ((unhide M).step K4)
       clear K4
       refine Stp.go ?_))
  constructor
  go_wp2_with (
    first
    | (refine wpNew Vi.row26 (Vi.vwC Vi.zv) rfl Vi.zero26 14 rfl rfl rfl (.tmp 53) rfl rfl rfl (Vi.vwC v) (unhide HVL) (Vi.vwC_one _) (by kernel_rfl) (by kernel_rfl) ?_
       intro W5 b5 e5 B5 K5
       replace M : Hid (Ph r sg eg D w W5 [(b1, 23, Ar.jobC J), (b2, 29, Vi.vwC Vi.zv), (b5, 29, Vi.vwC v)]) := hide ((unhide M).new e5 B5 K5)
       clear e5 B5 K5
       have c0 := fits_cell ((unhide M).at 2 _ rfl) 0 (.int .i64 v.nu) rfl
       have c1 := fits_cell ((unhide M).at 2 _ rfl) _ _ (unhide X0)
       have c2 := fits_cell ((unhide M).at 2 _ rfl) _ _ (unhide X1)
       have c3 := fits_cell ((unhide M).at 2 _ rfl) _ _ (unhide Y0)
       have c4 := fits_cell ((unhide M).at 2 _ rfl) _ _ (unhide Y1)
       rw [unhide HNU] at c0
       refine Stp.go ?_))
  constructor
  go_wp2_with (
    first
    | (refine wpBuildZ (Vi.vwC Vi.zv) Vi.build26 rfl rfl ?_
       refine Stp.go ?_))
  constructor
  go_wp2_with (
    first
    | (refine wpStoreP Vi.row26 rfl (.tmp 10) (.tmp 86) rfl rfl b2 1 (Vi.vwC Vi.zv) rfl rfl rfl (Vi.vwC_one _) (unhide M) rfl rfl ?_
       intro W6 N6
       replace M : Hid (Ph r sg eg D w W6 [(b1, 23, Ar.jobC J), (b2, 29, Vi.vwC Vi.zv), (b5, 29, Vi.vwC v)]) := hide N6
       clear N6
       refine Stp.go ?_))
  constructor
  go_wp2_with fail
  refine bodyPost_ret (res39 _ b2 (Vi.vwC Vi.zv) false 5 _ rfl rfl rfl rfl ((unhide M).at 1 _ rfl)) rfl ?_
  exact ⟨rfl, (unhide M).rv, (unhide M).kept⟩
set_option maxHeartbeats 8000000 in
theorem rout_6 (r sg eg : Nat) (D : Dv.Dev) (J : Ar.Job) (ep : Int) (w : World) (h : Dv.Rv w r sg eg D) (k q : Nat) (v u y : Vi.Vw) (yb : Bool) (ye fe : Int) (D1 D2 : Dv.Dev) (h1 : decide ((k : Int) < 0) = false) (h3 : decide ((q : Int) < 0) = false) (h7 : ((k : Int) == (q : Int)) = false) (h2 : decide (J.n ≤ (k : Int)) = false) (h4 : decide (J.n ≤ (q : Int)) = false)  (PW : Hid (∀ W, Dv.Rv W r sg eg D → Calls Tryz.prog 96 #[P0 r, aggV (Ar.jobC J), .int .i64 k, .int .i64 ep] W fun e w' => e = .returned (.int .i64 0) ∧ Kept [] W w')) (PV : Hid (∀ W, Dv.Rv W r sg eg D → Calls Tryz.prog 14 #[P0 r, aggV (Ar.jobC J)] W fun x w' => x = .returned (.tuple #[aggV (Vi.vwC v), .int .i64 0]) ∧ Kept [] W w')) (HVL : Hid ((Vi.vwC v).length = 19)) (PS : Hid (∀ W, Dv.Rv W r sg eg D1 → Calls Tryz.prog 97 #[P0 r, aggV (Ar.jobC J), .int .i64 k, .int .i64 ep, aggV (Vi.vwC v), aggV (Vi.vwC u)] W fun x w' => x = .returned (.tuple #[aggV (Vi.vwC y), .bool yb, .int .i64 ye]) ∧ Dv.Rv w' r sg eg D2 ∧ Kept [r, sg, eg] W w')) (HYL : Hid ((Vi.vwC y).length = 19)) (mi qi : Bool) (me qe : Int) (X0 : Hid ((Vi.vwC v)[3 + k * 2]? = some (.bool mi))) (X1 : Hid ((Vi.vwC v)[3 + k * 2 + 1]? = some (.int .i64 me))) (Y0 : Hid ((Vi.vwC v)[3 + q * 2]? = some (.bool qi))) (Y1 : Hid ((Vi.vwC v)[3 + q * 2 + 1]? = some (.int .i64 qe))) (hk8 : (k : Int) < 8) (hq8 : (q : Int) < 8) (hmi : mi = true) (hme : me = ep) (hqi : qi = true) (PF : Hid (∀ W, Dv.Rv W r sg eg D → Calls Tryz.prog 98 #[P0 r, .int .i64 k, .int .i64 ep, .int .i64 q, .int .i64 qe] W fun x w' => x = .returned (.int .i64 fe) ∧ Dv.Rv w' r sg eg D1 ∧ Kept [r, eg] W w')) (hnu : ¬ v.nu = 4611686018427387904) (hnr : 0 ≤ v.nu ∧ v.nu ≤ 4611686018427387904) (HQ8 : Hid (q < 8)) (HL8 : Hid (v.ms.length = 8)) (HU : Hid ((⟨v.nu + 1, false, (k : Int), v.ms.set q (false, 0)⟩ : Vi.Vw) = u)) (HUL : Hid ((Vi.vwC u).length = 19)) : Calls Tryz.prog 39 #[P0 r, aggV (Ar.jobC J), .int .i64 k, .int .i64 ep, .int .i64 q] w fun x w' => x = .returned (.tuple #[aggV (Vi.vwC y), .bool yb, .int .i64 ye]) ∧ Dv.Rv w' r sg eg D2 ∧ Kept [r, sg, eg] w w' := by
  have M : Hid (Ph r sg eg D w w []) := hide (Ph.init h)
  clear h
  subst hmi
  subst hqi
  obtain ⟨hn0, hn1⟩ := hnr
  go_enter Tryz.func39, Tryz.ntmps39
  go_wp2_with (
    first
    | (refine wpBoxV rfl (.tmp 1) rfl (Ar.jobC J) rfl ?_
       intro W1 b1 e1 B1 K1
       replace M : Hid (Ph r sg eg D w W1 [(b1, 23, Ar.jobC J)]) := hide ((unhide M).new e1 B1 K1)
       clear e1 B1 K1
       refine Stp.go ?_))
  constructor
  go_wp2_with (
    first
    | (refine wpAllocW (Vi.vwC Vi.zv) Vi.zero26 10 rfl rfl rfl ?_
       intro W2 b2 e2 B2 K2
       replace M : Hid (Ph r sg eg D w W2 [(b1, 23, Ar.jobC J), (b2, 29, Vi.vwC Vi.zv)]) := hide ((unhide M).new e2 B2 K2)
       clear e2 B2 K2
       have f0 := fits_cell ((unhide M).at 0 _ rfl) 0 (.int .i64 J.n) rfl
       refine Stp.go ?_))
  constructor
  go_wp2_with (
    first
    | (refine wpLoadA jrow rfl (.tmp 6) rfl b1 0 rfl (Ar.jobC J) rfl ((unhide M).at 0 _ rfl).range ?_
       refine Stp.go ?_))
  constructor
  go_wp2_with (
    first
    | (go_at_call 96
       refine (unhide PW _ (unhide M).rv).mono ?_
       rintro e W3 ⟨rfl, K3⟩
       replace M : Hid (Ph r sg eg D w W3 [(b1, 23, Ar.jobC J), (b2, 29, Vi.vwC Vi.zv)]) := hide ((unhide M).step K3)
       clear K3
       clear f0
       refine Stp.go ?_))
  constructor
  go_wp2_with (
    first
    | (refine wpLoadA jrow rfl (.tmp 6) rfl b1 0 rfl (Ar.jobC J) rfl ((unhide M).at 0 _ rfl).range ?_
       refine Stp.go ?_))
  constructor
  go_wp2_with (
    first
    | (go_at_call 14
       refine (unhide PV _ (unhide M).rv).mono ?_
       rintro e W4 ⟨rfl, K4⟩
       replace M : Hid (Ph r sg eg D w W4 [(b1, 23, Ar.jobC J), (b2, 29, Vi.vwC Vi.zv)]) := hide ((unhide M).step K4)
       clear K4
       refine Stp.go ?_))
  constructor
  go_wp2_with (
    first
    | (refine wpNew Vi.row26 (Vi.vwC Vi.zv) rfl Vi.zero26 14 rfl rfl rfl (.tmp 53) rfl rfl rfl (Vi.vwC v) (unhide HVL) (Vi.vwC_one _) (by kernel_rfl) (by kernel_rfl) ?_
       intro W5 b5 e5 B5 K5
       replace M : Hid (Ph r sg eg D w W5 [(b1, 23, Ar.jobC J), (b2, 29, Vi.vwC Vi.zv), (b5, 29, Vi.vwC v)]) := hide ((unhide M).new e5 B5 K5)
       clear e5 B5 K5
       have c0 := fits_cell ((unhide M).at 2 _ rfl) 0 (.int .i64 v.nu) rfl
       have c1 := fits_cell ((unhide M).at 2 _ rfl) _ _ (unhide X0)
       have c2 := fits_cell ((unhide M).at 2 _ rfl) _ _ (unhide X1)
       have c3 := fits_cell ((unhide M).at 2 _ rfl) _ _ (unhide Y0)
       have c4 := fits_cell ((unhide M).at 2 _ rfl) _ _ (unhide Y1)
       refine Stp.go ?_))
  constructor
  go_wp2_with (
    first
    | (go_at_call 98
       refine (unhide PF _ (unhide M).rv).mono ?_
       rintro e W6 ⟨rfl, R6, K6⟩
       replace M : Hid (Ph r sg eg D1 w W6 [(b1, 23, Ar.jobC J), (b2, 29, Vi.vwC Vi.zv), (b5, 29, Vi.vwC v)]) := hide ((unhide M).dev K6 (by simp) R6)
       clear K6 R6
       refine Stp.go ?_))
  constructor
  go_wp2_with (
    first
    | (refine wpLoadA Vi.row26 rfl (.tmp 14) rfl b5 0 rfl (Vi.vwC v) (unhide HVL) ((unhide M).at 2 _ rfl).range ?_
       refine Stp.go ?_))
  constructor
  go_wp2_with (
    first
    | (refine wpNew Vi.row26 (Vi.vwC Vi.zv) rfl Vi.zero26 15 rfl rfl rfl (.tmp 97) rfl rfl rfl (Vi.vwC v) (unhide HVL) (Vi.vwC_one _) (by kernel_rfl) (by kernel_rfl) ?_
       intro W7 b7 e7 B7 K7
       replace M : Hid (Ph r sg eg D1 w W7 [(b1, 23, Ar.jobC J), (b2, 29, Vi.vwC Vi.zv), (b5, 29, Vi.vwC v), (b7, 29, Vi.vwC v)]) := hide ((unhide M).new e7 B7 K7)
       clear e7 B7 K7
       clear c0 c1 c2 c3 c4
       have c0 := fits_cell ((unhide M).at 2 _ rfl) 0 (.int .i64 v.nu) rfl
       refine Stp.go ?_))
  constructor
  go_wp2_with (
    first
    | (refine wpStoreP1 Le.size2 rfl (.tmp 101) (.tmp 100) rfl rfl b7 0 3 (.int .i64 (v.nu + 1)) ⟨rfl, rfl⟩ rfl rfl (unhide M) rfl (by simp [Vi.vwC]) ?_
       intro W8 N8
       replace M : Hid (Ph r sg eg D1 w W8 [(b1, 23, Ar.jobC J), (b2, 29, Vi.vwC Vi.zv), (b5, 29, Vi.vwC v), (b7, 29, Vi.vwC ⟨v.nu + 1, v.op, v.fd, v.ms⟩)]) := hide N8
       clear N8
       clear c0
       refine Stp.go ?_))
  constructor
  go_wp2_with (
    first
    | (refine wpStoreP1 Le.size4 rfl (.tmp 102) (.const (.bool false)) rfl rfl b7 1 3 (.bool false) ⟨rfl, rfl⟩ rfl rfl (unhide M) rfl (by simp [Vi.vwC]) ?_
       intro W9 N9
       replace M : Hid (Ph r sg eg D1 w W9 [(b1, 23, Ar.jobC J), (b2, 29, Vi.vwC Vi.zv), (b5, 29, Vi.vwC v), (b7, 29, Vi.vwC ⟨v.nu + 1, false, v.fd, v.ms⟩)]) := hide N9
       clear N9
       refine Stp.go ?_))
  constructor
  go_wp2_with (
    first
    | (refine wpStoreP1 Le.size3 rfl (.tmp 104) (.tmp 103) rfl rfl b7 2 3 (.int .i64 k) ⟨rfl, rfl⟩ rfl rfl (unhide M) rfl (by simp [Vi.vwC]) ?_
       intro W10 N10
       replace M : Hid (Ph r sg eg D1 w W10 [(b1, 23, Ar.jobC J), (b2, 29, Vi.vwC Vi.zv), (b5, 29, Vi.vwC v), (b7, 29, Vi.vwC ⟨v.nu + 1, false, k, v.ms⟩)]) := hide N10
       clear N10
       refine Stp.go ?_))
  constructor
  go_wp2_with (
    first
    | (refine wpBuildZ (Vi.memC (false, 0)) Vi.build23 rfl rfl ?_
       refine Stp.go ?_))
  constructor
  go_wp2_with (
    first
    | (refine wpStoreMemP rfl (.tmp 108) (.tmp 106) rfl rfl b7 q 3 ⟨v.nu + 1, false, k, v.ms⟩ (false, 0) rfl rfl (unhide M) rfl (unhide HQ8) (unhide HL8) ?_
       intro W11 N11
       replace M : Hid (Ph r sg eg D1 w W11 [(b1, 23, Ar.jobC J), (b2, 29, Vi.vwC Vi.zv), (b5, 29, Vi.vwC v), (b7, 29, Vi.vwC u)]) := by have h9 := N11; rw [show (⟨v.nu + 1, false, (k : Int), v.ms.set q (false, 0)⟩ : Vi.Vw) = u from unhide HU] at h9; exact h9
       clear N11
       refine Stp.go ?_))
  constructor
  go_wp2_with (
    first
    | (refine wpLoadA jrow rfl (.tmp 6) rfl b1 0 rfl (Ar.jobC J) rfl ((unhide M).at 0 _ rfl).range ?_
       refine Stp.go ?_))
  constructor
  go_wp2_with (
    first
    | (refine wpLoadA Vi.row26 rfl (.tmp 14) rfl b5 0 rfl (Vi.vwC v) (unhide HVL) ((unhide M).at 2 _ rfl).range ?_
       refine Stp.go ?_))
  constructor
  go_wp2_with (
    first
    | (refine wpLoadA Vi.row26 rfl (.tmp 15) rfl b7 0 rfl (Vi.vwC u) (unhide HUL) ((unhide M).at 3 _ rfl).range ?_
       refine Stp.go ?_))
  constructor
  go_wp2_with (
    first
    | (go_at_call 97
       refine (unhide PS _ (unhide M).rv).mono ?_
       rintro e W12 ⟨rfl, R12, K12⟩
       replace M : Hid (Ph r sg eg D2 w W12 [(b1, 23, Ar.jobC J), (b2, 29, Vi.vwC Vi.zv), (b5, 29, Vi.vwC v), (b7, 29, Vi.vwC u)]) := hide ((unhide M).dev K12 (by simp) R12)
       clear K12 R12
       refine Stp.go ?_))
  constructor
  go_wp2_with (
    first
    | (refine wpStoreP Vi.row26 rfl (.tmp 10) (.tmp 116) rfl rfl b2 1 (Vi.vwC y) rfl rfl (unhide HYL) (Vi.vwC_one _) (unhide M) rfl rfl ?_
       intro W13 N13
       replace M : Hid (Ph r sg eg D2 w W13 [(b1, 23, Ar.jobC J), (b2, 29, Vi.vwC y), (b5, 29, Vi.vwC v), (b7, 29, Vi.vwC u)]) := hide N13
       clear N13
       refine Stp.go ?_))
  constructor
  go_wp2_with fail
  refine bodyPost_ret (res39 _ b2 (Vi.vwC y) yb ye _ rfl rfl rfl (unhide HYL) ((unhide M).at 1 _ rfl)) rfl ?_
  exact ⟨rfl, (unhide M).rv, (unhide M).kept⟩

/-- Out, as the document has it. -/
def rout (D : Dv.Dev) (J : Ar.Job) (n ep q : Int) : (Vi.Vw × Bool) × Int × Dv.Dev :=
  if n < 0 ∨ J.n ≤ n ∨ q < 0 ∨ J.n ≤ q ∨ n = q then ((Vi.zv, false), 2, D) else
  if rwho D J n ep ≠ 0 then ((Vi.zv, false), rwho D J n ep, D) else if (oV D).2 ≠ 0 then ((Vi.zv, false), (oV D).2, D)
  else if ¬ (((oV D).1.mem n).1 = true ∧ ((oV D).1.mem n).2 = ep ∧ ((oV D).1.mem q).1 = true) then ((Vi.zv, false), 6, D)
  else if (oV D).1.nu = 4611686018427387904 then ((Vi.zv, false), 5, D)
  else mswap (D.fence n ep q ((oV D).1.mem q).2).2 n ep (oV D).1 ⟨(oV D).1.nu + 1, false, n, (oV D).1.ms.set q.toNat (false, 0)⟩
theorem mem_at {v : Vi.Vw} (hl : v.ms.length = 8) (k : Nat) (hk : k < 8) : ∃ m, v.ms[k]? = some m ∧ v.mem (k : Int) = m ∧ (Vi.vwC v)[3 + k * 2]? = some (.bool m.1) ∧ (Vi.vwC v)[3 + k * 2 + 1]? = some (.int .i64 m.2) := by
  obtain ⟨m, hm⟩ : ∃ m, v.ms[k]? = some m := ⟨_, List.getElem?_eq_getElem (by rw [hl]; exact hk)⟩
  obtain ⟨x0, x1⟩ := Vi.vwC_at hm
  rw [Nat.mul_comm] at x0 x1
  exact ⟨m, hm, by unfold Vi.Vw.mem; rw [Int.toNat_natCast, List.getD_eq_getElem?_getD, hm]; rfl, x0, x1⟩
theorem rout39 (r sg eg : Nat) (D : Dv.Dev) (J : Ar.Job) (n ep q : Int) (w : World) (h : Dv.Rv w r sg eg D) (hJ : J.n ≤ 8) : Calls Tryz.prog 39 #[P0 r, aggV (Ar.jobC J), .int .i64 n, .int .i64 ep, .int .i64 q] w fun x w' => x = .returned (.tuple #[aggV (Vi.vwC (rout D J n ep q).1.1), .bool (rout D J n ep q).1.2, .int .i64 (rout D J n ep q).2.1]) ∧ Dv.Rv w' r sg eg (rout D J n ep q).2.2 ∧ Kept [r, sg, eg] w w' := by
  unfold rout
  by_cases a1 : n < 0
  · rw [if_pos (Or.inl a1)]; exact rout_1a r sg eg D J ep w h n q (decide_eq_true a1)
  by_cases a2 : J.n ≤ n
  · rw [if_pos (by omega)]; exact rout_1b r sg eg D J ep w h n q (decide_eq_false a1) (decide_eq_true a2)
  by_cases a3 : q < 0
  · rw [if_pos (by omega)]; exact rout_1c r sg eg D J ep w h n q (decide_eq_false a1) (decide_eq_false a2) (decide_eq_true a3)
  by_cases a4 : J.n ≤ q
  · rw [if_pos (by omega)]; exact rout_1d r sg eg D J ep w h n q (decide_eq_false a1) (decide_eq_false a2) (decide_eq_false a3) (decide_eq_true a4)
  by_cases a5 : n = q
  · rw [if_pos (by omega)]; exact rout_1e r sg eg D J ep w h n q (decide_eq_false a1) (decide_eq_false a2) (decide_eq_false a3) (decide_eq_false a4) a5
  rw [if_neg (by omega)]
  obtain ⟨k, rfl⟩ : ∃ k : Nat, n = (k : Int) := ⟨n.toNat, by omega⟩
  obtain ⟨q, rfl⟩ : ∃ q9 : Nat, q = (q9 : Int) := ⟨q.toNat, by omega⟩
  have a6 : ¬ k = q := by omega
  have PW := fun W (h0 : Dv.Rv W r sg eg D) => who96 r sg eg D J k ep W h0
  have PV := fun W (h0 : Dv.Rv W r sg eg D) => rview14 r sg eg D J W h0
  have hok := oV_okD h.ok
  by_cases h1 : rwho D J k ep = 0
  · rw [if_neg (fun q => q h1)]
    obtain ⟨g0, g1, g2, g3⟩ := rwho_0 h1
    rw [h1] at PW
    by_cases h2 : (oV D).2 = 0
    · rw [if_neg (fun q => q h2)]
      have hmay := getV_may _ h2
      rw [h2] at PV
      replace hmay : (oV D).1.may = true := hmay
      obtain ⟨v, hv⟩ : ∃ v, v = (oV D).1 := ⟨_, rfl⟩
      rw [← hv] at PV hok hmay ⊢
      obtain ⟨m, hm, hmm, x0, x1⟩ := mem_at hok.len k (by omega)
      obtain ⟨m2, hm2, hmm2, y0, y1⟩ := mem_at hok.len q (by omega)
      have HVL := Vi.vwC_len hok.len
      rw [hmm, hmm2, Int.toNat_natCast]
      by_cases h3 : m.1 = true ∧ m.2 = ep ∧ m2.1 = true
      · rw [if_neg (fun z => z h3)]
        by_cases h4 : v.nu = 4611686018427387904
        · rw [if_pos h4]
          exact rout_5 r sg eg D J ep w h k q v (decide_eq_false a1) (decide_eq_false a3) (beq_eq_false_iff_ne.2 a5) (decide_eq_false a2) (decide_eq_false a4) PW PV HVL m.1 m2.1 m.2 m2.2 x0 x1 y0 y1 (by omega) (by omega) h3.1 h3.2.1 h3.2.2 h4
        · rw [if_neg h4]
          have hno : Vi.isNo (k : Int) = true := decide_eq_true (by omega)
          have hum := next_may hmay h4 (k : Int) (q : Int) (false, 0) rfl hno (by
            unfold Vi.Vw.mem
            simp only [Int.toNat_natCast]
            rw [List.getD_eq_getElem?_getD, List.getElem?_set_ne (fun z => a6 z.symm), hm]
            exact h3.1)
          have huo := nx_ok hok hmay (k : Int) (q : Int) (false, 0) rfl hno
          rw [Int.toNat_natCast] at hum huo
          have hep : 0 ≤ m2.2 ∧ m2.2 ≤ 2147483647 := by
            by_cases h0 : v.nu = 0
            · have h9 := hmay
              unfold Vi.Vw.may at h9
              rw [if_pos h0] at h9
              have hf := of_decide_eq_true h9
              rw [hf] at hm2
              have : m2 = (false, 0) := by
                have hq := List.mem_of_getElem? hm2
                simpa [Vi.fv, Vi.no8] using hq
              rw [this]; simp
            · exact may_ep hmay h0 (List.mem_of_getElem? hm2)
          have PF := fun W (h0 : Dv.Rv W r sg eg D) => Dv.r_fence r sg eg D k ep q m2.2 W h0 (by omega)
          have PS := fun W (h0 : Dv.Rv W r sg eg (D.fence k ep q m2.2).2) => rswap97 r sg eg _ J (k : Int) ep v _ W h0 hok huo hmay hum
          exact rout_6 r sg eg D J ep w h k q v _ _ _ _ _ _ _ (decide_eq_false a1) (decide_eq_false a3) (beq_eq_false_iff_ne.2 a5) (decide_eq_false a2) (decide_eq_false a4) PW PV HVL PS (Vi.vwC_len (mswap_len _ (k : Int) ep v _ huo.len)) m.1 m2.1 m.2 m2.2 x0 x1 y0 y1 (by omega) (by omega) h3.1 h3.2.1 h3.2.2 PF h4 (Vi.may_nu hmay) (by show _ < _; omega) hok.len rfl (Vi.vwC_len huo.len)
      · rw [if_pos h3]
        cases hm1 : m.1 with
        | false => exact rout_4a r sg eg D J ep w h k q v (decide_eq_false a1) (decide_eq_false a3) (beq_eq_false_iff_ne.2 a5) (decide_eq_false a2) (decide_eq_false a4) PW PV HVL m.1 m2.1 m.2 m2.2 x0 x1 y0 y1 (by omega) (by omega) hm1
        | true =>
          by_cases hme : m.2 = ep
          · exact rout_4c r sg eg D J ep w h k q v (decide_eq_false a1) (decide_eq_false a3) (beq_eq_false_iff_ne.2 a5) (decide_eq_false a2) (decide_eq_false a4) PW PV HVL m.1 m2.1 m.2 m2.2 x0 x1 y0 y1 (by omega) (by omega) hm1 hme (by cases hq : m2.1 with | false => rfl | true => exact absurd ⟨hm1, hme, hq⟩ h3)
          · exact rout_4b r sg eg D J ep w h k q v (decide_eq_false a1) (decide_eq_false a3) (beq_eq_false_iff_ne.2 a5) (decide_eq_false a2) (decide_eq_false a4) PW PV HVL m.1 m2.1 m.2 m2.2 x0 x1 y0 y1 (by omega) (by omega) hm1 hme
    · rw [if_pos h2]
      exact rout_3 r sg eg D J ep w h k q _ _ (decide_eq_false a1) (decide_eq_false a3) (beq_eq_false_iff_ne.2 a5) (decide_eq_false a2) (decide_eq_false a4) PW PV (Vi.vwC_len hok.len) h2
  · rw [if_pos h1]
    exact rout_2 r sg eg D J ep w h k q _ (decide_eq_false a1) (decide_eq_false a3) (beq_eq_false_iff_ne.2 a5) (decide_eq_false a2) (decide_eq_false a4) PW h1

end Go.Proofs.YtcfflbafclmheaaGreatDoor
