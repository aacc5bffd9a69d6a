/-
  No log, a zero log; no device, a zero device.
-/
import Derived.Test.YtmeajhdhiebkdaaDoorLp
namespace Go.Proofs.YtmeajhdhiebkdaaDoor
set_option maxRecDepth 100000
open Go.RowKit

theorem Lz.kept {o : Option Addr} {W W' : World} (h : Lz o W) (hk : Kept [] W W') : Lz o W' := by
  rcases h with rfl | ⟨z, rfl, hc⟩
  · exact .inl rfl
  · exact .inr ⟨z, rfl, hk.cell hc (by simp)⟩
theorem append_z (o : Option Addr) (p ps : Int) (bd : List Int) (w : World) (h : Lz o w) : Calls Tryd.prog 16 #[.pointer o, .int .i64 p, aggV (verC ps bd)] w fun e w' => e = .returned (.tuple #[.int .i64 0, .int .i64 1]) ∧ Kept [] w w' := by
  have PN := hide (fun W (hk : Kept [] w W) => none_z o W (h.kept hk))
  clear h
  go_enter Tryd.func16, Tryd.ntmps16
  go_wp2_with (
    first
    | (refine wpBoxV (by rfl) (.tmp 2) (by rfl) (verC ps bd) (by kernel_rfl) ?_
       intro V1 p5 e5 B5 K5
       have HK := hide K5
       clear e5 B5 K5
       refine Stp.go ?_))
  constructor
  go_wp2_with (
    first
    | (go_at_call 33
       refine (unhide PN _ (unhide HK)).mono ?_
       rintro e w' ⟨rfl, hw9⟩
       obtain rfl := hw9.symm
       clear hw9))
  go_ret2
  exact ⟨rfl, unhide HK⟩
theorem flush_z (o : Option Addr) (w : World) (h : Lz o w) : Calls Tryd.prog 13 #[.pointer o] w fun e w' => e = .returned (.int .i64 1) ∧ w' = w := by
  have PN := hide (fun W (hk : W = w) => none_z o W (hk ▸ h))
  clear h
  go_enter Tryd.func13, Tryd.ntmps13
  go_wp2_with (
    first
    | (go_at_call 33
       refine (unhide PN _ rfl).mono ?_
       rintro e w' ⟨rfl, hw9⟩
       obtain rfl := hw9.symm
       clear hw9))
  go_ret
  exact ⟨rfl, rfl⟩
theorem cut_z (o : Option Addr) (s : Int) (w : World) (h : Lz o w) : Calls Tryd.prog 14 #[.pointer o, .int .i64 s] w fun e w' => e = .returned (.int .i64 1) ∧ w' = w := by
  have PN := hide (fun W (hk : W = w) => none_z o W (hk ▸ h))
  clear h
  go_enter Tryd.func14, Tryd.ntmps14
  go_wp2_with (
    first
    | (go_at_call 33
       refine (unhide PN _ rfl).mono ?_
       rintro e w' ⟨rfl, hw9⟩
       obtain rfl := hw9.symm
       clear hw9))
  go_ret
  exact ⟨rfl, rfl⟩
/-- A pointer to no device, or to a zero one. -/
def Dz (p : Option Addr) (W : World) : Prop := Dv.Sz W (.pointer p) 0
theorem Dz.kept {p : Option Addr} {W W' : World} (h : Dz p W) (hk : Kept [] W W') : Dz p W' := Dv.Sz.kept h hk (by simp)
theorem size_z (p : Option Addr) (w : World) (h : Dz p w) : Calls Tryd.prog 55 #[.pointer p] w fun e w' => e = .returned (.int .i64 0) ∧ w' = w := Dv.size31 _ _ w h
set_option maxHeartbeats 2000000 in
theorem look_z (p : Option Addr) (J : Ar.Job) (nd : Int) (may : Bool) (w : World) (h : Dz p w) : Calls Tryd.prog 31 #[.pointer p, aggV (Ar.jobC J), .int .i64 nd, .bool may] w fun e w' => e = .returned (.tuple #[.int .i64 0, .slice none 0 0, .int .i64 1]) ∧ Kept [] w w' := by
  have HD := hide h
  have HJL : Hid ((Ar.jobC J).length = 5) := rfl
  obtain ⟨many, hmany⟩ : ∃ x, x = J.sectors.1 := ⟨_, rfl⟩
  obtain ⟨mc, hmc⟩ : ∃ x, x = J.sectors.2 := ⟨_, rfl⟩
  obtain ⟨po, hpo⟩ : ∃ x, x = (J.head nd).1 := ⟨_, rfl⟩
  obtain ⟨hc, hhc⟩ : ∃ x, x = (J.head nd).2 := ⟨_, rfl⟩
  have P54 := hide (fun W => sect54 J W)
  have P37 := hide (fun W => head37 J nd W)
  rw [← hmany, ← hmc] at P54
  rw [← hpo, ← hhc] at P37
  clear h hmany hmc hpo hhc
  go_enter Tryd.func31, Tryd.ntmps31
  go_wp2_with (
    first
    | (refine wpBoxV (by rfl) (.tmp 1) (by rfl) (Ar.jobC J) (by kernel_rfl) ?_
       intro W1 t5 e5 B5 K5
       have H5 := hide B5
       have HK := hide K5
       clear e5 B5 K5
       refine Stp.go ?_))
  constructor
  go_wp2_with (
    first
    | (refine wpLoadA row23 (by rfl) (.tmp 5) (by rfl) t5 0 (by kernel_rfl) (Ar.jobC J) (unhide HJL) (unhide H5).range ?_
       refine Stp.go ?_))
  constructor
  go_wp2_with (
    first
    | (go_at_call 54
       refine (unhide P54 _).mono ?_
       rintro e W2 ⟨rfl, K2⟩
       replace H5 := hide ((unhide H5).kept K2 (by simp))
       replace HK := hide ((unhide HK).trans K2)
       clear K2
       refine Stp.go ?_))
  constructor
  go_wp2_with (
    first
    | (refine wpLoadA row23 (by rfl) (.tmp 5) (by rfl) t5 0 (by kernel_rfl) (Ar.jobC J) (unhide HJL) (unhide H5).range ?_
       refine Stp.go ?_))
  constructor
  go_wp2_with (
    first
    | (go_at_call 37
       refine (unhide P37 _).mono ?_
       rintro e W2 ⟨rfl, K2⟩
       replace H5 := hide ((unhide H5).kept K2 (by simp))
       replace HK := hide ((unhide HK).trans K2)
       clear K2
       refine Stp.go ?_))
  constructor
  go_wp2_with (
    first
    | (go_at_call 55
       refine (size_z p _ ((unhide HD).kept (unhide HK))).mono ?_
       rintro e w' ⟨rfl, hw9⟩
       obtain rfl := hw9.symm
       clear hw9))
  refine bodyPost_ret (results_tmp3 rfl _ _) rfl ?_
  exact ⟨rfl, unhide HK⟩
theorem read_z (p : Option Addr) (J : Ar.Job) (nd : Int) (w : World) (h : Dz p w) : Calls Tryd.prog 20 #[.pointer p, aggV (Ar.jobC J), .int .i64 nd] w fun e w' => e = .returned (.tuple #[.int .i64 0, .slice none 0 0, .int .i64 1]) ∧ Kept [] w w' := by
  have HJL : Hid ((Ar.jobC J).length = 5) := rfl
  have P31 := hide (fun W (hk : Kept [] w W) => look_z p J nd true W (h.kept hk))
  clear h
  go_enter Tryd.func20, Tryd.ntmps20
  go_wp2_with (
    first
    | (refine wpBoxV (by rfl) (.tmp 1) (by rfl) (Ar.jobC J) (by kernel_rfl) ?_
       intro W1 t4 e5 B5 K5
       have H4 := hide B5
       have HK := hide K5
       clear e5 B5 K5
       refine Stp.go ?_))
  constructor
  go_wp2_with (
    first
    | (refine wpLoadA row23 (by rfl) (.tmp 4) (by rfl) t4 0 (by kernel_rfl) (Ar.jobC J) (unhide HJL) (unhide H4).range ?_
       refine Stp.go ?_))
  constructor
  go_wp2_with (
    first
    | (go_at_call 31
       refine (unhide P31 _ (unhide HK)).mono ?_
       rintro e W2 ⟨rfl, K2⟩
       replace HK := hide ((unhide HK).trans K2)
       clear K2))
  refine bodyPost_ret (results_tmp3 rfl _ _) rfl ?_
  exact ⟨rfl, unhide HK⟩

end Go.Proofs.YtmeajhdhiebkdaaDoor
