/-
  One step of a session, and of the document's.
-/
import Derived.Test.YthbgnpbkdeofcaaSs
namespace Go.Proofs.Ythbgnpbkdeofcaa
set_option maxRecDepth 100000
open Go.RowKit

/-- One step, plainly. -/
def Ps.one (P : Ps) (x : St1) : Ps := if x.kind = 1 then (P.send x.y.bs).1 else if x.kind = 2 then P.toldP else if x.kind = 3 then P.toldP else if x.kind = 4 then (P.come x.d).1 else P
theorem one_len (P : Ps) (x : St1) : (P.one x).sent.length ≤ P.sent.length + 1 := by
  unfold Ps.one
  split
  · exact send_len P x.y.bs
  · split
    · show P.sent.length ≤ _; omega
    · split
      · show P.sent.length ≤ _; omega
      · split
        · rw [come_sent]; omega
        · omega
set_option maxHeartbeats 2000000 in
theorem one29 (w W : World) (b : Nat) (v : Value) (ws : List Value) (P : Ps) (x : St1) (h : Sm w W b v ws P) (hx : x.Ok W w.heap.size) (hl : P.sent.length < 1000) : Calls Try.prog 29 #[P0 b, aggV x.C] W fun e W' => e = .returned (.tuple #[]) ∧ ∃ v' ws', SR W b v ws W' v' ws' (P.one x) := by
  have HS := hide h
  have HS0 := hide h
  have HX := hide hx
  have HL := hide hl
  clear h hx hl
  go_enter Try.func29, Try.ntmps29
  go_wp2_with (
    first
    | (refine wpBoxV (by rfl) (.tmp 1) (by rfl) x.C (by kernel_rfl) ?_
       intro W1 p e1 B1 K1
       have HP := hide B1
       have HK := hide K1
       replace HS := hide ((unhide HS).step K1)
       clear e1 B1 K1
       have hp0 := fits_cell (unhide HP) 0 _ rfl
       refine Stp.go ?_))
  constructor
  replace HX := hide ((unhide HX).kept (unhide HK) (by simp))
  by_cases k1 : x.kind = 1
  · have he : P.one x = (P.send x.y.bs).1 := by unfold Ps.one; rw [if_pos k1]
    rw [k1] at hp0
    have hp1 := fits_cell (unhide HP) 1 _ rfl
    have HEQ := hide he
    clear he
    go_wp2_with (
      first
      | (go_at_call 12
         refine (send_arg _ b v ws P x.y w.heap.size (unhide HS).sx (unhide HX).y (unhide HL)).mono ?_
         rintro e W2 ⟨rfl, v', ws', hR⟩
         have HR := hide (hR.after (unhide HK))
         rw [← unhide HEQ] at HR
         clear hR hp0 hp1))
    go_end0
    exact ⟨rfl, _, _, unhide HR⟩
  · by_cases k2 : x.kind = 2
    · have he : P.one x = P.toldP := by unfold Ps.one; rw [if_neg k1, if_pos k2]
      rw [k2] at hp0
      have HEQ := hide he
      clear he
      go_wp2_with (
        first
        | (go_at_call 14
           refine (fresh14 b v ws P _ (unhide HS).sx).mono ?_
           rintro e W2 ⟨dv, L, rfl, _, _, hR⟩
           have HR := hide (hR.after (unhide HK))
           rw [← unhide HEQ] at HR
           clear hR hp0))
      go_end0
      exact ⟨rfl, _, _, unhide HR⟩
    · by_cases k3 : x.kind = 3
      · have he : P.one x = P.toldP := by unfold Ps.one; rw [if_neg k1, if_neg k2, if_pos k3]
        rw [k3] at hp0
        have HEQ := hide he
        clear he
        go_wp2_with (
          first
          | (go_at_call 18
             refine (again18 b v ws P _ (unhide HS).sx).mono ?_
             rintro e W2 ⟨dv, L, rfl, _, _, hR⟩
             have HR := hide (hR.after (unhide HK))
             rw [← unhide HEQ] at HR
             clear hR hp0))
        go_end0
        exact ⟨rfl, _, _, unhide HR⟩
      · by_cases k4 : x.kind = 4
        · have he : P.one x = (P.come x.d).1 := by unfold Ps.one; rw [if_neg k1, if_neg k2, if_neg k3, if_pos k4]
          rw [k4] at hp0
          have HEQ := hide he
          clear he
          have HPD : Hid (W1.rangeAt p 2 (x.d.C x.e.v)) := (unhide HP).rangeIn (o := 2) (x.d.C x.e.v) (fun j hj => by have e : x.C = [.int .i64 x.kind, x.y.v] ++ x.d.C x.e.v := rfl; rw [e, List.getElem?_append_right (by simp)]; simp)
          go_wp2_with (
            first
            | (refine wpLoadA row35 (by rfl) (.tmp 23) (by rfl) p 2 (by kernel_rfl) (x.d.C x.e.v) rfl (unhide HPD) ?_)
            | (go_at_call 20
               refine (come_arg w _ b v ws P x.d x.e (unhide HS) (unhide HX).e (unhide HX).d).mono ?_
               rintro e W2 ⟨v', ws', r, rfl, hR, _, _⟩
               have HR := hide (hR.after (unhide HK))
               rw [← unhide HEQ] at HR
               clear hR hp0))
          go_end0
          exact ⟨rfl, _, _, unhide HR⟩
        · have he : P.one x = P := by unfold Ps.one; rw [if_neg k1, if_neg k2, if_neg k3, if_neg k4]
          have HEQ := hide he
          clear he
          go_wp2_with fail
          go_end0
          exact ⟨rfl, v, ws, by rw [unhide HEQ]; exact SR.same (unhide HS0).sx (unhide HK)⟩
set_option maxHeartbeats 2000000 in
theorem one30 (w W : World) (b : Nat) (v : Value) (ws : List Value) (P : Ps) (x : St1) (h : Rx W b v ws P) (hge : w.heap.size ≤ b ∧ ∀ i, v.ownBlock = some i → w.heap.size ≤ i) (hx : x.Ok W w.heap.size) (hl : P.sent.length < 1000) : Calls Try.prog 30 #[P0 b, aggV x.C] W fun e W' => e = .returned (.tuple #[]) ∧ ∃ v' ws', RR W b v ws W' v' ws' (P.one x) := by
  have HS := hide h
  have HS0 := hide h
  have HGE := hide hge
  have HX := hide hx
  have HL := hide hl
  clear h hx hl hge
  go_enter Try.func30, Try.ntmps30
  go_wp2_with (
    first
    | (refine wpBoxV (by rfl) (.tmp 1) (by rfl) x.C (by kernel_rfl) ?_
       intro W1 p e1 B1 K1
       have HP := hide B1
       have HK := hide K1
       replace HS := hide ((unhide HS).kept0 K1)
       clear e1 B1 K1
       have hp0 := fits_cell (unhide HP) 0 _ rfl
       refine Stp.go ?_))
  constructor
  replace HX := hide ((unhide HX).kept (unhide HK) (by simp))
  by_cases k1 : x.kind = 1
  · have he : P.one x = (P.send x.y.bs).1 := by unfold Ps.one; rw [if_pos k1]
    rw [k1] at hp0
    have hp1 := fits_cell (unhide HP) 1 _ rfl
    have HEQ := hide he
    clear he
    go_wp2_with (
      first
      | (go_at_call 13
         refine (rsend_arg _ b v ws P x.y w.heap.size (unhide HS) (unhide HX).y (unhide HL)).mono ?_
         rintro e W2 ⟨rfl, v', ws', hR⟩
         have HR := hide (hR.after (unhide HK))
         rw [← unhide HEQ] at HR
         clear hR hp0 hp1))
    go_end0
    exact ⟨rfl, _, _, unhide HR⟩
  · by_cases k2 : x.kind = 2
    · have he : P.one x = P.toldP := by unfold Ps.one; rw [if_neg k1, if_pos k2]
      rw [k2] at hp0
      have HEQ := hide he
      clear he
      go_wp2_with (
        first
        | (go_at_call 16
           refine (rfresh16 b v ws P _ (unhide HS)).mono ?_
           rintro e W2 ⟨dv, L, rfl, _, _, hR⟩
           have HR := hide (hR.after (unhide HK))
           rw [← unhide HEQ] at HR
           clear hR hp0))
      go_end0
      exact ⟨rfl, _, _, unhide HR⟩
    · by_cases k3 : x.kind = 3
      · have he : P.one x = P.toldP := by unfold Ps.one; rw [if_neg k1, if_neg k2, if_pos k3]
        rw [k3] at hp0
        have HEQ := hide he
        clear he
        go_wp2_with (
          first
          | (go_at_call 19
             refine (ragain19 b v ws P _ (unhide HS)).mono ?_
             rintro e W2 ⟨dv, L, rfl, _, _, hR⟩
             have HR := hide (hR.after (unhide HK))
             rw [← unhide HEQ] at HR
             clear hR hp0))
        go_end0
        exact ⟨rfl, _, _, unhide HR⟩
      · by_cases k4 : x.kind = 4
        · have he : P.one x = (P.come x.d).1 := by unfold Ps.one; rw [if_neg k1, if_neg k2, if_neg k3, if_pos k4]
          rw [k4] at hp0
          have HEQ := hide he
          clear he
          have HPD : Hid (W1.rangeAt p 2 (x.d.C x.e.v)) := (unhide HP).rangeIn (o := 2) (x.d.C x.e.v) (fun j hj => by have e : x.C = [.int .i64 x.kind, x.y.v] ++ x.d.C x.e.v := rfl; rw [e, List.getElem?_append_right (by simp)]; simp)
          go_wp2_with (
            first
            | (refine wpLoadA row35 (by rfl) (.tmp 23) (by rfl) p 2 (by kernel_rfl) (x.d.C x.e.v) rfl (unhide HPD) ?_)
            | (go_at_call 21
               refine (rcome_arg w _ b v ws P x.d x.e (unhide HS) (unhide HGE) (unhide HX).e (unhide HX).d).mono ?_
               rintro e W2 ⟨r, rfl, hR, _, _⟩
               have HR := hide (hR.after (unhide HK))
               rw [← unhide HEQ] at HR
               clear hR hp0))
          go_end0
          exact ⟨rfl, _, _, unhide HR⟩
        · have he : P.one x = P := by unfold Ps.one; rw [if_neg k1, if_neg k2, if_neg k3, if_neg k4]
          have HEQ := hide he
          clear he
          go_wp2_with fail
          go_end0
          exact ⟨rfl, v, ws, by rw [unhide HEQ]; exact RR.same (unhide HS0) (unhide HK)⟩

end Go.Proofs.Ythbgnpbkdeofcaa
