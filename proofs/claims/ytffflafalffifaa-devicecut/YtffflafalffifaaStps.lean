/-
  The walk of DeviceSteps' law.
-/
import Derived.Test.YtffflafalffifaaDoc
import Derived.Test.YtffflafalffifaaStands
import Derived.Test.YtffflafalffifaaKnownb
namespace Go.Proofs.Ytffflafalffifaa.K
open Go.RowKit

def sizeC (n0 n1 : Int) : List Value := [.int .i64 n0, .int .i64 n1]
theorem size_cells {W : World} {b3 : Nat} {n0 n1 : Int} (h : Blk W b3 22 (sizeC n0 n1)) : W.cell? ⟨b3, 0, none⟩ = some (.int .i64 n0) ∧ W.cell? ⟨b3, 1, none⟩ = some (.int .i64 n1) := ⟨fits_cell h 0 _ rfl, fits_cell h 1 _ rfl⟩
set_option maxHeartbeats 2000000 in
set_option maxRecDepth 100000 in
theorem steps_no (n0 n1 leave : Int) (ao : Option Addr) (m c : Nat) (w : World) (h : newB n0 n1 = false) : Calls Try.prog 3 #[aggV (sizeC n0 n1), .slice ao m c, .int .i64 leave] w fun e w' => e = .returned (.bool true) ∧ Kept [] w w' := by
  have HN := hide h
  clear h
  go_enter Try.func3, Try.ntmps3
  go_wp2_with (
    first
    | (refine wpBoxV (by rfl) (.tmp 0) (by rfl) (sizeC n0 n1) (by rfl) ?_
       intro W1 b3 e1 B1 K1
       have HB := hide B1
       have HK := hide K1
       obtain ⟨q0, q1⟩ := size_cells B1
       clear e1 B1 K1
       refine Stp.go ?_))
  constructor
  go_wp2_with (
    first
    | (go_at_call 8
       refine (new_no n0 n1 _ (unhide HN)).mono ?_
       rintro e V1 ⟨rfl, hw1⟩
       obtain rfl := hw1.symm
       clear hw1
       refine Stp.go ?_))
  constructor
  go_wp2_with (
    first
    | (go_at_call 9
       refine (r_new_no n0 n1 _ (unhide HN)).mono ?_
       rintro e V2 ⟨rfl, hw1⟩
       obtain rfl := hw1.symm
       clear hw1
       refine Stp.go ?_))
  constructor
  go_wp2_with (
    first
    | (go_at_call 10; refine (num10 _ _).mono ?_; rintro e w' ⟨rfl, hww⟩; obtain rfl := hww.symm; clear hww
       refine Stp.go ?_))
  constructor
  go_wp2_with (
    first
    | (go_at_call 11
       refine (known11 _).mono ?_
       rintro e V9 ⟨rfl, k9⟩
       replace HK := hide ((unhide HK).trans k9)
       clear k9))
  go_ret
  exact ⟨rfl, unhide HK⟩
/-- What the law keeps. -/
structure Sg (w W : World) (b g r sg eg : Nat) (D : Dev) : Prop where
  dv : Dv W b g D
  rv : Rv W r sg eg D
  ap : Ap w.heap.size b g r sg eg
  tz : Tz D
  k : Kept [] w W
theorem Sg.step {w W W' : World} {b g r sg eg : Nat} {D : Dev} (h : Sg w W b g r sg eg D) (hk : Kept [] W W') : Sg w W' b g r sg eg D :=
  ⟨h.dv.kept hk (by simp) (by simp), h.rv.kept hk (by simp) (by simp) (by simp), h.ap, h.tz, h.k.trans hk⟩
theorem Sg.do {w W W' : World} {b g r sg eg b' g' r' sg' eg' : Nat} {D D' : Dev} (h : Sg w W b g r sg eg D) (hn : Nx D D') (hd : Dv W' b' g' D') (hr : Rv W' r' sg' eg' D') (ap : Ap w.heap.size b' g' r' sg' eg') (hk : Kept [b, g, r, sg, eg] W W') : Sg w W' b' g' r' sg' eg' D' :=
  ⟨hd, hr, ap, hn.z h.tz, h.k.fresh hk (fun i hi hl => by have := h.ap.ge; simp at hi; omega)⟩
theorem new_nat {n0 n1 : Int} (h : newB n0 n1 = true) : ∃ n N : Nat, n0 = n ∧ n1 = N := by
  simp [newB] at h
  exact ⟨n0.toNat, n1.toNat, by omega, by omega⟩
set_option maxHeartbeats 2000000 in
set_option maxRecDepth 100000 in
theorem steps_big (n N : Nat) (leave : Int) (ao : Option Addr) (m c : Nat) (w : World) (h : newB n N = true) (h64 : (64 : Int) < n) : Calls Try.prog 3 #[aggV (sizeC n N), .slice ao m c, .int .i64 leave] w fun e w' => e = .returned (.bool true) ∧ Kept [] w w' := by
  have HN := hide h
  clear h
  go_enter Try.func3, Try.ntmps3
  go_wp2_with (
    first
    | (refine wpBoxV (by rfl) (.tmp 0) (by rfl) (sizeC n N) (by rfl) ?_
       intro W1 b3 e1 B1 K1
       have HB := hide B1
       have HK := hide K1
       obtain ⟨q0, q1⟩ := size_cells B1
       clear e1 B1 K1
       refine Stp.go ?_))
  constructor
  go_wp2_with (
    first
    | (go_at_call 8
       refine (new_yes n N _ (unhide HN)).mono ?_
       rintro e V1 ⟨b, g, rfl, hb1, hg1, hd1, k1⟩
       have HD := hide hd1
       have HBG : Hid (w.heap.size ≤ b ∧ w.heap.size ≤ g) := by have := (unhide HK).size; exact ⟨by omega, by omega⟩
       clear hb1 hg1 hd1
       replace HB := hide ((unhide HB).kept k1 (by simp))
       replace HK := hide ((unhide HK).trans k1)
       clear q0 q1
       obtain ⟨q0, q1⟩ := size_cells (unhide HB)
       clear k1
       refine Stp.go ?_))
  constructor
  go_wp2_with (
    first
    | (go_at_call 9
       refine (r_new_yes n N _ (unhide HN)).mono ?_
       rintro e V2 ⟨r, sg, eg, rfl, hr1, hs1, he1, hR, k2⟩
       have h1 := (unhide HD).lt
       have h2 := unhide HBG
       have h3 := (unhide HK).size
       have SG : Hid (Sg w V2 b g r sg eg (newDev n N)) := ⟨(unhide HD).kept k2 (by simp) (by simp), hR, ⟨⟨by omega, by omega, by omega, by omega, by omega⟩, by omega, by omega, by omega, by omega, by omega, by omega⟩, tz_new n N, (unhide HK).trans k2⟩
       clear hr1 hs1 he1 hR h1 h2 h3 HD HBG
       replace HB := hide ((unhide HB).kept k2 (by simp))
       replace HK := hide ((unhide HK).trans k2)
       clear q0 q1
       obtain ⟨q0, q1⟩ := size_cells (unhide HB)
       clear k2
       refine Stp.go ?_))
  constructor
  go_wp2_with (
    first
    | (go_at_call 11
       refine (known11 _).mono ?_
       rintro e V9 ⟨rfl, k9⟩
       replace HK := hide ((unhide HK).trans k9)
       clear k9))
  go_ret
  exact ⟨rfl, unhide HK⟩
set_option maxHeartbeats 4000000 in
set_option maxRecDepth 100000 in
theorem steps_yes (n N : Nat) (leave : Int) (ao : Option Addr) (m c : Nat) (X : List Sx) (w : World) (h : newB n N = true) (hS : Scr w w.heap.size ao m c X) (hm : m ≤ 9223372036854775807) (h64 : ¬ (64 : Int) < n) : Calls Try.prog 3 #[aggV (sizeC n N), .slice ao m c, .int .i64 leave] w fun e w' => e = .returned (.bool true) ∧ Kept [] w w' := by
  have HN := hide h
  have HS := hide hS
  clear h hS
  go_enter Try.func3, Try.ntmps3
  go_wp2_with (
    first
    | (refine wpBoxV (by rfl) (.tmp 0) (by rfl) (sizeC n N) (by rfl) ?_
       intro W1 b3 e1 B1 K1
       have HB := hide B1
       have HK := hide K1
       obtain ⟨q0, q1⟩ := size_cells B1
       clear e1 B1 K1
       refine Stp.go ?_))
  constructor
  go_wp2_with (
    first
    | (go_at_call 8
       refine (new_yes n N _ (unhide HN)).mono ?_
       rintro e V1 ⟨b, g, rfl, hb1, hg1, hd1, k1⟩
       have HD := hide hd1
       have HBG : Hid (w.heap.size ≤ b ∧ w.heap.size ≤ g) := by have := (unhide HK).size; exact ⟨by omega, by omega⟩
       clear hb1 hg1 hd1
       replace HB := hide ((unhide HB).kept k1 (by simp))
       replace HK := hide ((unhide HK).trans k1)
       clear q0 q1
       obtain ⟨q0, q1⟩ := size_cells (unhide HB)
       clear k1
       refine Stp.go ?_))
  constructor
  go_wp2_with (
    first
    | (go_at_call 9
       refine (r_new_yes n N _ (unhide HN)).mono ?_
       rintro e V2 ⟨r, sg, eg, rfl, hr1, hs1, he1, hR, k2⟩
       have h1 := (unhide HD).lt
       have h2 := unhide HBG
       have h3 := (unhide HK).size
       have SG : Hid (Sg w V2 b g r sg eg (newDev n N)) := ⟨(unhide HD).kept k2 (by simp) (by simp), hR, ⟨⟨by omega, by omega, by omega, by omega, by omega⟩, by omega, by omega, by omega, by omega, by omega, by omega⟩, tz_new n N, (unhide HK).trans k2⟩
       clear hr1 hs1 he1 hR h1 h2 h3 HD HBG
       replace HB := hide ((unhide HB).kept k2 (by simp))
       replace HK := hide ((unhide HK).trans k2)
       clear q0 q1
       obtain ⟨q0, q1⟩ := size_cells (unhide HB)
       clear k2
       refine Stp.go ?_))
  constructor
  go_wp2_with (
    first
    | (go_at_call 12
       refine (much12 w.heap.size ao m c X _ ((unhide HS).kept (unhide HK) (by simp)) hm).mono ?_
       rintro e V3 ⟨⟨rm, rfl⟩, k3⟩
       replace SG := hide ((unhide SG).step k3)
       replace HB := hide ((unhide HB).kept k3 (by simp))
       replace HK := hide ((unhide HK).trans k3)
       clear q0 q1
       obtain ⟨q0, q1⟩ := size_cells (unhide HB)
       clear k3
       refine Stp.go ?_))
  constructor
  cases rm with
  | true =>
    go_wp2_with (
      first
      | (go_at_call 11
         refine (known11 _).mono ?_
         rintro e V9 ⟨rfl, k9⟩
         replace HK := hide ((unhide HK).trans k9)
         clear k9))
    go_ret
    exact ⟨rfl, unhide HK⟩
  | false =>
    go_wp2_with (
      first
      | (go_at_call 10; refine (num10 _ _).mono ?_; rintro e w' ⟨rfl, hww⟩; obtain rfl := hww.symm; clear hww
         refine Stp.go ?_))
    constructor
    go_wp2_with (
      first
      | (go_at_call 13
         refine (stands13 b g r sg eg _ leave _ (unhide SG).dv (unhide SG).rv).mono ?_
         rintro e V4 ⟨rfl, k4⟩
         replace SG := hide ((unhide SG).step k4)
         clear k4))
    clear HB HK q0 q1 HN
    go_loopw [7, 9, 10, 11] (fun d rr i _ wr => ∃ b g r sg eg k : Nat, ∃ D : Dev, k ≤ m ∧ k ≤ 60 ∧ d = P0 b ∧ rr = P0 r ∧ i = .int .i64 k ∧ Hid (Sg w wr b g r sg eg D)) (fun _ _ i _ _ => 60 - (intOf i).toNat)
    case atStart => exact ⟨b, g, r, sg, eg, 0, _, by omega, by omega, rfl, rfl, rfl, SG⟩
    case round =>
      clear SG
      obtain ⟨b, g, r, sg, eg, k, D, hk, hk6, rfl, rfl, rfl, SG⟩ := hrel
      by_cases hlt : k < m
      · by_cases h60 : k < 60
        · obtain ⟨x, hx⟩ : ∃ x, X[k]? = some x := ⟨_, List.getElem?_eq_getElem (by rw [(unhide HS).len]; exact hlt)⟩
          have hS2 := (unhide HS).kept (unhide SG).k (by simp)
          obtain ⟨h, off, rfl, hg, hl⟩ := hS2.lies (by intro e; rw [e] at hx; simp at hx)
          have HR := hide (hl k x hx)
          have HX := hide (hS2.ok x (List.mem_of_getElem? hx))
          have hlC := C_len (unhide HX)
          have P14 := hide (do14 w.heap.size b g r sg eg D x wr (unhide SG).dv (unhide SG).rv (unhide SG).ap (unhide HX) (unhide SG).tz (unhide SG).k.size)
          clear hl hS2 hg HX
          go_wp2_with (
            first
            | (refine wpLoadA row40 (by rfl) (.tmp 74) (by rfl) h (off + k * 134) (by kernel_rfl) x.C hlC (unhide HR) ?_
               refine Stp.go ?_))
          constructor
          go_wp2_with fail
          refine (unhide P14).mono ?_
          intro e V5 hdo
          obtain ⟨b', g', r', sg', eg', rfl, hd', hr', ap', k', fr'⟩ := hdo
          have SG2 := hide (Sg.do (unhide SG) (Nx.next D x) hd' hr' ap' k')
          clear hd' hr' ap' k' fr' P14 HR SG
          go_wp2_with fail
          refine (stands13 b' g' r' sg' eg' _ leave _ (unhide SG2).dv (unhide SG2).rv).mono ?_
          rintro e V4 ⟨rfl, k4⟩
          have SG := hide ((unhide SG2).step k4)
          clear k4 SG2
          go_wp2_with fail
          go_roundw
          case rel => exact ⟨b', g', r', sg', eg', k + 1, _, by omega, by omega, rfl, rfl, by go_num, SG⟩
          case measure => simp [intOf]; omega
        · have HK := hide (unhide SG).k
          go_wp2_with (
            first
            | (go_at_call 11
               refine (known11 _).mono ?_
               rintro e V9 ⟨rfl, k9⟩
               replace HK := hide ((unhide HK).trans k9)
               clear k9))
          go_ret
          exact ⟨rfl, unhide HK⟩
      · have HK := hide (unhide SG).k
        go_wp2_with (
          first
          | (go_at_call 11
             refine (known11 _).mono ?_
             rintro e V9 ⟨rfl, k9⟩
             replace HK := hide ((unhide HK).trans k9)
             clear k9))
        go_ret
        exact ⟨rfl, unhide HK⟩
theorem steps3 (n0 n1 leave : Int) (ao : Option Addr) (m c : Nat) (X : List Sx) (w : World) (hS : Scr w w.heap.size ao m c X) (hm : m ≤ 9223372036854775807) : Calls Try.prog 3 #[aggV (sizeC n0 n1), .slice ao m c, .int .i64 leave] w fun e w' => e = .returned (.bool true) ∧ Kept [] w w' := by
  cases h : newB n0 n1 with
  | false => exact steps_no n0 n1 leave ao m c w h
  | true =>
    obtain ⟨n, N, rfl, rfl⟩ := new_nat h
    by_cases h64 : (64 : Int) < n
    · exact steps_big n N leave ao m c w h h64
    · exact steps_yes n N leave ao m c X w h hS hm h64

end Go.Proofs.Ytffflafalffifaa.K
