/-
  The document's May.
-/
import Derived.Test.YtcfflbafclmheaaGreatDoorCs

/-
  The document's May.
-/
namespace Go.Proofs.YtcfflbafclmheaaGreatDoor
set_option maxRecDepth 100000
set_option linter.unusedSimpArgs false
open Go.RowKit
open Le (Mm wpStoreM wpStoreM1)

theorem build29f (w : World) : (Instr.build 29 #[(1, .bool true)]).run Tryz.prog w = .ok (aggV (Vi.vwC Vi.fv)) w := by kernel_rfl
namespace Vi
set_option maxHeartbeats 2000000 in
theorem rmay_f (v : Vw) (w : World) (hv : v.ms.length = 8) (h0 : v = fv) : Calls Tryz.prog 50 #[aggV (vwC v)] w fun e w' => e = .returned (.bool true) ∧ Kept [] w w' := by
  have HE : decide (v = fv) = true := by simpa using h0
  clear h0
  have HHE := hide HE
  clear HE
  go_enter Tryz.func50, Tryz.ntmps50
  have M : Hid (Le.Mm [] w w []) := hide (Le.Mm.init)
  go_wp2_with (
    first
    | (refine wpBoxV rfl (.tmp 0) rfl (vwC v) rfl ?_
       intro W1 b1 e1 B1 K1
       replace M : Hid (Le.Mm [] w W1 [(b1, 29, vwC v)]) := hide ((unhide M).new e1 B1 K1)
       clear e1 B1 K1
       refine Stp.go ?_))
  constructor
  go_wp2_with (
    first
    | (refine wpLoadA row26 rfl (.tmp 1) rfl b1 0 rfl (vwC v) (vwC_len hv) ((unhide M).at 0 _ rfl).range ?_
       refine Stp.go ?_))
  constructor
  go_wp2_with (
    first
    | (refine Ar.wpBuildP rfl #[(1, .const (.bool true))] rfl #[(1, .bool true)] (by simp [Act.eval]) (vwC fv) (build29f _) ?_
       refine Stp.go ?_))
  constructor
  go_wp2_with (
    first
    | (refine wpEqlA 29 29 guard26 (.tmp 5) (.tmp 6) rfl rfl (vwC v) (vwC fv) rfl rfl true ((equal26 _ v fv hv rfl).trans (by rw [unhide HHE])) ?_
       refine Stp.go ?_))
  constructor
  go_wp2_with fail
  go_ret
  exact ⟨rfl, (unhide M).kept⟩
set_option maxHeartbeats 2000000 in
theorem rmay_neg (v : Vw) (w : World) (hv : v.ms.length = 8) (HE : decide (v = fv) = false) (h : v.nu < 1) : Calls Tryz.prog 50 #[aggV (vwC v)] w fun e w' => e = .returned (.bool false) ∧ Kept [] w w' := by
  have HHE := hide HE
  clear HE
  go_enter Tryz.func50, Tryz.ntmps50
  have M : Hid (Le.Mm [] w w []) := hide (Le.Mm.init)
  go_wp2_with (
    first
    | (refine wpBoxV rfl (.tmp 0) rfl (vwC v) rfl ?_
       intro W1 b1 e1 B1 K1
       replace M : Hid (Le.Mm [] w W1 [(b1, 29, vwC v)]) := hide ((unhide M).new e1 B1 K1)
       clear e1 B1 K1
       refine Stp.go ?_))
  constructor
  go_wp2_with (
    first
    | (refine wpLoadA row26 rfl (.tmp 1) rfl b1 0 rfl (vwC v) (vwC_len hv) ((unhide M).at 0 _ rfl).range ?_
       refine Stp.go ?_))
  constructor
  go_wp2_with (
    first
    | (refine Ar.wpBuildP rfl #[(1, .const (.bool true))] rfl #[(1, .bool true)] (by simp [Act.eval]) (vwC fv) (build29f _) ?_
       refine Stp.go ?_))
  constructor
  go_wp2_with (
    first
    | (refine wpEqlA 29 29 guard26 (.tmp 5) (.tmp 6) rfl rfl (vwC v) (vwC fv) rfl rfl false ((equal26 _ v fv hv rfl).trans (by rw [unhide HHE])) ?_
       refine Stp.go ?_))
  constructor
  have c0 := fits_cell ((unhide M).at 0 _ rfl) 0 _ rfl
  have c2 := fits_cell ((unhide M).at 0 _ rfl) 2 _ rfl
  go_wp2_with fail
  go_ret
  exact ⟨rfl, (unhide M).kept⟩
set_option maxHeartbeats 2000000 in
theorem rmay_big (v : Vw) (w : World) (hv : v.ms.length = 8) (HE : decide (v = fv) = false) (h1 : 1 ≤ v.nu) (h : 4611686018427387904 < v.nu) : Calls Tryz.prog 50 #[aggV (vwC v)] w fun e w' => e = .returned (.bool false) ∧ Kept [] w w' := by
  have hd1 : decide (v.nu < 1) = false := by simp; omega
  have HHE := hide HE
  clear HE
  go_enter Tryz.func50, Tryz.ntmps50
  have M : Hid (Le.Mm [] w w []) := hide (Le.Mm.init)
  go_wp2_with (
    first
    | (refine wpBoxV rfl (.tmp 0) rfl (vwC v) rfl ?_
       intro W1 b1 e1 B1 K1
       replace M : Hid (Le.Mm [] w W1 [(b1, 29, vwC v)]) := hide ((unhide M).new e1 B1 K1)
       clear e1 B1 K1
       refine Stp.go ?_))
  constructor
  go_wp2_with (
    first
    | (refine wpLoadA row26 rfl (.tmp 1) rfl b1 0 rfl (vwC v) (vwC_len hv) ((unhide M).at 0 _ rfl).range ?_
       refine Stp.go ?_))
  constructor
  go_wp2_with (
    first
    | (refine Ar.wpBuildP rfl #[(1, .const (.bool true))] rfl #[(1, .bool true)] (by simp [Act.eval]) (vwC fv) (build29f _) ?_
       refine Stp.go ?_))
  constructor
  go_wp2_with (
    first
    | (refine wpEqlA 29 29 guard26 (.tmp 5) (.tmp 6) rfl rfl (vwC v) (vwC fv) rfl rfl false ((equal26 _ v fv hv rfl).trans (by rw [unhide HHE])) ?_
       refine Stp.go ?_))
  constructor
  have c0 := fits_cell ((unhide M).at 0 _ rfl) 0 _ rfl
  have c2 := fits_cell ((unhide M).at 0 _ rfl) 2 _ rfl
  go_wp2_with fail
  go_ret
  exact ⟨rfl, (unhide M).kept⟩
set_option maxHeartbeats 2000000 in
theorem rmay_fn (v : Vw) (w : World) (hv : v.ms.length = 8) (HE : decide (v = fv) = false) (h1 : 1 ≤ v.nu) (h2 : v.nu ≤ 4611686018427387904) (h : v.fd < 0) : Calls Tryz.prog 50 #[aggV (vwC v)] w fun e w' => e = .returned (.bool false) ∧ Kept [] w w' := by
  have hd1 : decide (v.nu < 1) = false := by simp; omega
  have hd2 : decide (4611686018427387904 < v.nu) = false := by simp; omega
  have HHE := hide HE
  clear HE
  go_enter Tryz.func50, Tryz.ntmps50
  have M : Hid (Le.Mm [] w w []) := hide (Le.Mm.init)
  go_wp2_with (
    first
    | (refine wpBoxV rfl (.tmp 0) rfl (vwC v) rfl ?_
       intro W1 b1 e1 B1 K1
       replace M : Hid (Le.Mm [] w W1 [(b1, 29, vwC v)]) := hide ((unhide M).new e1 B1 K1)
       clear e1 B1 K1
       refine Stp.go ?_))
  constructor
  go_wp2_with (
    first
    | (refine wpLoadA row26 rfl (.tmp 1) rfl b1 0 rfl (vwC v) (vwC_len hv) ((unhide M).at 0 _ rfl).range ?_
       refine Stp.go ?_))
  constructor
  go_wp2_with (
    first
    | (refine Ar.wpBuildP rfl #[(1, .const (.bool true))] rfl #[(1, .bool true)] (by simp [Act.eval]) (vwC fv) (build29f _) ?_
       refine Stp.go ?_))
  constructor
  go_wp2_with (
    first
    | (refine wpEqlA 29 29 guard26 (.tmp 5) (.tmp 6) rfl rfl (vwC v) (vwC fv) rfl rfl false ((equal26 _ v fv hv rfl).trans (by rw [unhide HHE])) ?_
       refine Stp.go ?_))
  constructor
  have c0 := fits_cell ((unhide M).at 0 _ rfl) 0 _ rfl
  have c2 := fits_cell ((unhide M).at 0 _ rfl) 2 _ rfl
  go_wp2_with fail
  go_ret
  exact ⟨rfl, (unhide M).kept⟩
set_option maxHeartbeats 2000000 in
theorem rmay_fb (v : Vw) (w : World) (hv : v.ms.length = 8) (HE : decide (v = fv) = false) (h1 : 1 ≤ v.nu) (h2 : v.nu ≤ 4611686018427387904) (h3 : 0 ≤ v.fd) (h : 8 ≤ v.fd) : Calls Tryz.prog 50 #[aggV (vwC v)] w fun e w' => e = .returned (.bool false) ∧ Kept [] w w' := by
  have hd1 : decide (v.nu < 1) = false := by simp; omega
  have hd2 : decide (4611686018427387904 < v.nu) = false := by simp; omega
  have hd3 : decide (v.fd < 0) = false := by simp; omega
  have HHE := hide HE
  clear HE
  go_enter Tryz.func50, Tryz.ntmps50
  have M : Hid (Le.Mm [] w w []) := hide (Le.Mm.init)
  go_wp2_with (
    first
    | (refine wpBoxV rfl (.tmp 0) rfl (vwC v) rfl ?_
       intro W1 b1 e1 B1 K1
       replace M : Hid (Le.Mm [] w W1 [(b1, 29, vwC v)]) := hide ((unhide M).new e1 B1 K1)
       clear e1 B1 K1
       refine Stp.go ?_))
  constructor
  go_wp2_with (
    first
    | (refine wpLoadA row26 rfl (.tmp 1) rfl b1 0 rfl (vwC v) (vwC_len hv) ((unhide M).at 0 _ rfl).range ?_
       refine Stp.go ?_))
  constructor
  go_wp2_with (
    first
    | (refine Ar.wpBuildP rfl #[(1, .const (.bool true))] rfl #[(1, .bool true)] (by simp [Act.eval]) (vwC fv) (build29f _) ?_
       refine Stp.go ?_))
  constructor
  go_wp2_with (
    first
    | (refine wpEqlA 29 29 guard26 (.tmp 5) (.tmp 6) rfl rfl (vwC v) (vwC fv) rfl rfl false ((equal26 _ v fv hv rfl).trans (by rw [unhide HHE])) ?_
       refine Stp.go ?_))
  constructor
  have c0 := fits_cell ((unhide M).at 0 _ rfl) 0 _ rfl
  have c2 := fits_cell ((unhide M).at 0 _ rfl) 2 _ rfl
  go_wp2_with fail
  go_ret
  exact ⟨rfl, (unhide M).kept⟩
set_option maxHeartbeats 2000000 in
theorem rmay_out (v : Vw) (w : World) (hv : v.ms.length = 8) (HE : decide (v = fv) = false) (h1 : 1 ≤ v.nu) (h2 : v.nu ≤ 4611686018427387904) (g0 : 0 ≤ v.fd) (g8 : v.fd < 8) (hin : (v.mem v.fd).1 = false) : Calls Tryz.prog 50 #[aggV (vwC v)] w fun e w' => e = .returned (.bool false) ∧ Kept [] w w' := by
  have hd1 : decide (v.nu < 1) = false := by simp; omega
  have hd2 : decide (4611686018427387904 < v.nu) = false := by simp; omega
  have hd3 : decide (v.fd < 0) = false := by simp; omega
  have hd4 : decide (8 ≤ v.fd) = false := by simp; omega
  have HHE := hide HE
  clear HE
  go_enter Tryz.func50, Tryz.ntmps50
  have M : Hid (Le.Mm [] w w []) := hide (Le.Mm.init)
  go_wp2_with (
    first
    | (refine wpBoxV rfl (.tmp 0) rfl (vwC v) rfl ?_
       intro W1 b1 e1 B1 K1
       replace M : Hid (Le.Mm [] w W1 [(b1, 29, vwC v)]) := hide ((unhide M).new e1 B1 K1)
       clear e1 B1 K1
       refine Stp.go ?_))
  constructor
  go_wp2_with (
    first
    | (refine wpLoadA row26 rfl (.tmp 1) rfl b1 0 rfl (vwC v) (vwC_len hv) ((unhide M).at 0 _ rfl).range ?_
       refine Stp.go ?_))
  constructor
  go_wp2_with (
    first
    | (refine Ar.wpBuildP rfl #[(1, .const (.bool true))] rfl #[(1, .bool true)] (by simp [Act.eval]) (vwC fv) (build29f _) ?_
       refine Stp.go ?_))
  constructor
  go_wp2_with (
    first
    | (refine wpEqlA 29 29 guard26 (.tmp 5) (.tmp 6) rfl rfl (vwC v) (vwC fv) rfl rfl false ((equal26 _ v fv hv rfl).trans (by rw [unhide HHE])) ?_
       refine Stp.go ?_))
  constructor
  have c0 := fits_cell ((unhide M).at 0 _ rfl) 0 _ rfl
  have c2 := fits_cell ((unhide M).at 0 _ rfl) 2 _ rfl
  obtain ⟨m0, m1⟩ := Blk.mem ((unhide M).at 0 _ rfl) hv g0 g8
  rw [hin] at m0
  go_wp2_with fail
  go_ret
  exact ⟨rfl, (unhide M).kept⟩
set_option maxHeartbeats 2000000 in
theorem rmay_in (v : Vw) (w : World) (hv : v.ms.length = 8) (HE : decide (v = fv) = false) (h1 : 1 ≤ v.nu) (h2 : v.nu ≤ 4611686018427387904) (g0 : 0 ≤ v.fd) (g8 : v.fd < 8) (hin : (v.mem v.fd).1 = true) : Calls Tryz.prog 50 #[aggV (vwC v)] w fun e w' => e = .returned (.bool (v.ms.all memOk)) ∧ Kept [] w w' := by
  have hd1 : decide (v.nu < 1) = false := by simp; omega
  have hd2 : decide (4611686018427387904 < v.nu) = false := by simp; omega
  have hd3 : decide (v.fd < 0) = false := by simp; omega
  have hd4 : decide (8 ≤ v.fd) = false := by simp; omega
  have HHE := hide HE
  clear HE
  go_enter Tryz.func50, Tryz.ntmps50
  have M : Hid (Le.Mm [] w w []) := hide (Le.Mm.init)
  go_wp2_with (
    first
    | (refine wpBoxV rfl (.tmp 0) rfl (vwC v) rfl ?_
       intro W1 b1 e1 B1 K1
       replace M : Hid (Le.Mm [] w W1 [(b1, 29, vwC v)]) := hide ((unhide M).new e1 B1 K1)
       clear e1 B1 K1
       refine Stp.go ?_))
  constructor
  go_wp2_with (
    first
    | (refine wpLoadA row26 rfl (.tmp 1) rfl b1 0 rfl (vwC v) (vwC_len hv) ((unhide M).at 0 _ rfl).range ?_
       refine Stp.go ?_))
  constructor
  go_wp2_with (
    first
    | (refine Ar.wpBuildP rfl #[(1, .const (.bool true))] rfl #[(1, .bool true)] (by simp [Act.eval]) (vwC fv) (build29f _) ?_
       refine Stp.go ?_))
  constructor
  go_wp2_with (
    first
    | (refine wpEqlA 29 29 guard26 (.tmp 5) (.tmp 6) rfl rfl (vwC v) (vwC fv) rfl rfl false ((equal26 _ v fv hv rfl).trans (by rw [unhide HHE])) ?_
       refine Stp.go ?_))
  constructor
  have c0 := fits_cell ((unhide M).at 0 _ rfl) 0 _ rfl
  have c2 := fits_cell ((unhide M).at 0 _ rfl) 2 _ rfl
  obtain ⟨m0, m1⟩ := Blk.mem ((unhide M).at 0 _ rfl) hv g0 g8
  rw [hin] at m0
  go_wp2_with fail
  clear c0 c2 m0 m1 hd1 hd2 hd3 hd4 h1 h2 g0 g8 hin
  go_loopw [3] (fun i wr => ∃ j : Nat, j ≤ 8 ∧ i = .int .i64 j ∧ Hid (∀ m ∈ v.ms.take j, memOk m = true) ∧ Hid (Le.Mm [] w wr [(b1, 29, vwC v)])) (fun i _ => 8 - (intOf i).toNat)
  case atStart => exact ⟨0, by omega, rfl, (fun m hm => by simp at hm), M⟩
  case round =>
    clear M
    obtain ⟨j, hj, rfl, HA, M⟩ := hrel
    by_cases hlt : j < 8
    · obtain ⟨m, hm⟩ : ∃ m, v.ms[j]? = some m := ⟨_, List.getElem?_eq_getElem (by omega)⟩
      have hltI : (j : Int) < 8 := by omega
      have HR : Hid (wr.rangeAt b1 (3 + j * 2) (memC m)) := by
        have B := (unhide M).at 0 _ rfl
        obtain ⟨x0, x1⟩ := vwC_at hm
        refine hide (B.rangeIn _ fun i hi => ?_)
        rw [Nat.mul_comm] at x0 x1
        match i, hi with
        | 0, _ => exact x0
        | 1, _ => exact x1
        | n + 2, hi => simp [memC] at hi; omega
      obtain ⟨mi, me⟩ := m
      by_cases hok : memOk (mi, me) = true
      · have HT : Hid (∀ m ∈ v.ms.take (j + 1), memOk m = true) := by
          intro m' hm'
          rw [List.take_add_one, hm] at hm'
          rcases List.mem_append.1 hm' with h | h
          · exact unhide HA m' h
          · simp at h; rw [h]; exact hok
        clear HA hm
        cases mi with
        | true =>
          have he : 1 ≤ me ∧ me ≤ 2147483647 := by simpa [memOk, isEp] using hok
          obtain ⟨he1, he2⟩ := he
          have hd1 : decide (me < 1) = false := by simp; omega
          have hd2 : decide (2147483647 < me) = false := by simp; omega
          clear hok
          go_wp2_with (
            first
            | (refine wpLoadA row23 rfl (.tmp 41) rfl b1 (3 + j * 2) rfl (memC (true, me)) rfl (unhide HR) ?_
               refine Stp.go ?_))
          constructor
          go_wp2_with (
            first
            | (refine wpNew row23 (memC (false, 0)) rfl zero23 4 rfl rfl rfl (.tmp 42) rfl rfl rfl (memC (true, me)) rfl (memC_one _) (by kernel_rfl) (by kernel_rfl) ?_
               intro W11 b11 e11 B11 K11
               replace M : Hid (Le.Mm [] w W11 [(b1, 29, vwC v), (b11, 26, memC (true, me))]) := hide ((unhide M).new e11 B11 K11)
               clear e11 B11 K11
               have d0 := fits_cell ((unhide M).at 1 _ rfl) 0 _ rfl
               have d1 := fits_cell ((unhide M).at 1 _ rfl) 1 _ rfl
               refine Stp.go ?_))
          constructor
          go_wp2_with fail
          go_roundw
          case rel => exact ⟨j + 1, by omega, by go_num, HT, hide ((unhide M).less ((List.nil_sublist _).cons_cons _))⟩
          case measure => simp [intOf]; omega
        | false =>
          have he : me = 0 := by simpa [memOk] using hok
          subst he
          clear hok
          go_wp2_with (
            first
            | (refine wpLoadA row23 rfl (.tmp 41) rfl b1 (3 + j * 2) rfl (memC (false, 0)) rfl (unhide HR) ?_
               refine Stp.go ?_))
          constructor
          go_wp2_with (
            first
            | (refine wpNew row23 (memC (false, 0)) rfl zero23 4 rfl rfl rfl (.tmp 42) rfl rfl rfl (memC (false, 0)) rfl (memC_one _) (by kernel_rfl) (by kernel_rfl) ?_
               intro W11 b11 e11 B11 K11
               replace M : Hid (Le.Mm [] w W11 [(b1, 29, vwC v), (b11, 26, memC (false, 0))]) := hide ((unhide M).new e11 B11 K11)
               clear e11 B11 K11
               have d0 := fits_cell ((unhide M).at 1 _ rfl) 0 _ rfl
               have d1 := fits_cell ((unhide M).at 1 _ rfl) 1 _ rfl
               refine Stp.go ?_))
          constructor
          go_wp2_with fail
          go_roundw
          case rel => exact ⟨j + 1, by omega, by go_num, HT, hide ((unhide M).less ((List.nil_sublist _).cons_cons _))⟩
          case measure => simp [intOf]; omega
      · have HFA : Hid (v.ms.all memOk = false) := by
          have : v.ms.all memOk = false := by
            rw [List.all_eq_false]
            exact ⟨(mi, me), List.mem_of_getElem? hm, hok⟩
          exact this
        clear HA hm
        cases mi with
        | true =>
          have he : ¬ (1 ≤ me ∧ me ≤ 2147483647) := by simpa [memOk, isEp] using hok
          clear hok
          by_cases he1 : 1 ≤ me
          · have he2 : 2147483647 < me := by omega
            have hd1 : decide (me < 1) = false := by simp; omega
            clear he
            go_wp2_with (
              first
              | (refine wpLoadA row23 rfl (.tmp 41) rfl b1 (3 + j * 2) rfl (memC (true, me)) rfl (unhide HR) ?_
                 refine Stp.go ?_))
            constructor
            go_wp2_with (
              first
              | (refine wpNew row23 (memC (false, 0)) rfl zero23 4 rfl rfl rfl (.tmp 42) rfl rfl rfl (memC (true, me)) rfl (memC_one _) (by kernel_rfl) (by kernel_rfl) ?_
                 intro W11 b11 e11 B11 K11
                 replace M : Hid (Le.Mm [] w W11 [(b1, 29, vwC v), (b11, 26, memC (true, me))]) := hide ((unhide M).new e11 B11 K11)
                 clear e11 B11 K11
                 have d0 := fits_cell ((unhide M).at 1 _ rfl) 0 _ rfl
                 have d1 := fits_cell ((unhide M).at 1 _ rfl) 1 _ rfl
                 refine Stp.go ?_))
            constructor
            go_wp2_with fail
            go_ret
            exact ⟨by rw [unhide HFA]; rfl, (unhide M).kept⟩
          · have hd1 : decide (me < 1) = true := by simp; omega
            clear he
            go_wp2_with (
              first
              | (refine wpLoadA row23 rfl (.tmp 41) rfl b1 (3 + j * 2) rfl (memC (true, me)) rfl (unhide HR) ?_
                 refine Stp.go ?_))
            constructor
            go_wp2_with (
              first
              | (refine wpNew row23 (memC (false, 0)) rfl zero23 4 rfl rfl rfl (.tmp 42) rfl rfl rfl (memC (true, me)) rfl (memC_one _) (by kernel_rfl) (by kernel_rfl) ?_
                 intro W11 b11 e11 B11 K11
                 replace M : Hid (Le.Mm [] w W11 [(b1, 29, vwC v), (b11, 26, memC (true, me))]) := hide ((unhide M).new e11 B11 K11)
                 clear e11 B11 K11
                 have d0 := fits_cell ((unhide M).at 1 _ rfl) 0 _ rfl
                 have d1 := fits_cell ((unhide M).at 1 _ rfl) 1 _ rfl
                 refine Stp.go ?_))
            constructor
            go_wp2_with fail
            go_ret
            exact ⟨by rw [unhide HFA]; rfl, (unhide M).kept⟩
        | false =>
          have he : ¬ me = 0 := by simpa [memOk] using hok
          have hde : decide (me = 0) = false := by simpa using he
          clear hok
          go_wp2_with (
            first
            | (refine wpLoadA row23 rfl (.tmp 41) rfl b1 (3 + j * 2) rfl (memC (false, me)) rfl (unhide HR) ?_
               refine Stp.go ?_))
          constructor
          go_wp2_with (
            first
            | (refine wpNew row23 (memC (false, 0)) rfl zero23 4 rfl rfl rfl (.tmp 42) rfl rfl rfl (memC (false, me)) rfl (memC_one _) (by kernel_rfl) (by kernel_rfl) ?_
               intro W11 b11 e11 B11 K11
               replace M : Hid (Le.Mm [] w W11 [(b1, 29, vwC v), (b11, 26, memC (false, me))]) := hide ((unhide M).new e11 B11 K11)
               clear e11 B11 K11
               have d0 := fits_cell ((unhide M).at 1 _ rfl) 0 _ rfl
               have d1 := fits_cell ((unhide M).at 1 _ rfl) 1 _ rfl
               refine Stp.go ?_))
          constructor
          go_wp2_with fail
          go_ret
          exact ⟨by rw [unhide HFA]; rfl, (unhide M).kept⟩
    · have HFA : Hid (v.ms.all memOk = true) := by
        have : v.ms.all memOk = true := by
          rw [List.all_eq_true]
          intro m hm
          exact unhide HA m (by rw [List.take_of_length_le (by omega)]; exact hm)
        exact this
      go_wp2_with fail
      go_ret
      exact ⟨by rw [unhide HFA]; rfl, (unhide M).kept⟩

theorem rmay50 (v : Vw) (w : World) (hv : v.ms.length = 8) : Calls Tryz.prog 50 #[aggV (vwC v)] w fun e w' => e = .returned (.bool v.may) ∧ Kept [] w w' := by
  by_cases hf : v = fv
  · have : v.may = true := by subst hf; rfl
    rw [this]
    exact rmay_f v w hv hf
  have HE : decide (v = fv) = false := by simpa using hf
  by_cases h1 : v.nu < 1
  · have : v.may = false := by
      unfold Vw.may
      split
      · exact HE
      · rw [decide_eq_false (by omega)]; rfl
    rw [this]
    exact rmay_neg v w hv HE h1
  have hn : ¬ v.nu = 0 := by omega
  unfold Vw.may
  rw [if_neg hn]
  by_cases h2 : 4611686018427387904 < v.nu
  · rw [decide_eq_false (by omega), Bool.false_and]
    exact rmay_big v w hv HE (by omega) h2
  rw [decide_eq_true (show 1 ≤ v.nu ∧ v.nu ≤ 4611686018427387904 by omega), Bool.true_and]
  by_cases h3 : v.fd < 0
  · rw [Vw.isIn, show isNo v.fd = false by simp [isNo]; omega, Bool.false_and, Bool.false_and]
    exact rmay_fn v w hv HE (by omega) (by omega) h3
  by_cases h4 : 8 ≤ v.fd
  · rw [Vw.isIn, show isNo v.fd = false by simp [isNo]; omega, Bool.false_and, Bool.false_and]
    exact rmay_fb v w hv HE (by omega) (by omega) (by omega) h4
  rw [Vw.isIn, show isNo v.fd = true by simp [isNo]; omega, Bool.true_and]
  cases hin : (v.mem v.fd).1 with
  | false => exact rmay_out v w hv HE (by omega) (by omega) (by omega) (by omega) hin
  | true => rw [Bool.true_and]; exact rmay_in v w hv HE (by omega) (by omega) (by omega) (by omega) hin

end Vi

end Go.Proofs.YtcfflbafclmheaaGreatDoor
