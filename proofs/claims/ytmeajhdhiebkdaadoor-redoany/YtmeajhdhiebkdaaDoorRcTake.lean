/-
  The walks of headIn and TakeHead.
-/
import Derived.Test.YtmeajhdhiebkdaaDoorRcHead
import Derived.Test.YtmeajhdhiebkdaaDoorRcGet
namespace Go.Proofs.YtmeajhdhiebkdaaDoor.Rc
set_option maxRecDepth 100000
open Go.RowKit

/-- The head that can have a sector. -/
def hdR (s : List Int) : Int × Int := if s = zs 64 then (1, 0) else (numL s 5 4, numL s 1 4)
/-- What headIn keeps while it goes. -/
structure Iw (w wr : World) (b c zb : Nat) (s : List Int) (o : Nat) : Prop where
  tw : Tw wr b c s o
  res : Blk wr zb 91 (hdC 0 0)
  kept : Kept [] w wr
  nc : w.heap.size ≤ c
  nz : w.heap.size ≤ zb
  n4 : zb ≠ c
theorem Iw.take {w wr wn : World} {b c zb : Nat} {s : List Int} {o o' : Nat} (h : Iw w wr b c zb s o) (hp : Tw wn b c s o') (hk : Kept [c] wr wn) : Iw w wn b c zb s o' :=
  ⟨hp, h.res.kept hk (by simp [h.n4]), h.kept.fresh hk (fun i hi hl => by have := h.nc; simp at hi; omega), h.nc, h.nz, h.n4⟩
theorem res36 (w : World) (z : Nat) (vs : List Value) (tmps : Array Value) (h4 : tmps[2]?.getD undef = P0 z) (hl : vs.length = 2) (hb : Blk w z 91 vs) : (results Tryd.f81 tmps).run Tryd.prog w = .ok (aggV vs) w := by
  have := loadV row27 hl hb
  simp [results, Tryd.results81, h4, this, asAddr]
theorem res12 (w : World) (z : Nat) (vs : List Value) (e : Int) (tmps : Array Value) (h4 : tmps[2]?.getD undef = P0 z) (h5 : tmps[3]?.getD undef = .int .i64 e) (hl : vs.length = 2) (hb : Blk w z 91 vs) : (results Tryd.f57 tmps).run Tryd.prog w = .ok (.tuple #[aggV vs, .int .i64 e]) w := by
  have := loadV row27 hl hb
  simp [results, Tryd.results57, h4, h5, this, asAddr]
theorem build27p (w : World) (s e : Int) : (Instr.build 91 #[(0, .int .i64 s), (1, .int .i64 e)]).run Tryd.prog w = .ok (aggV (hdC s e)) w := by kernel_rfl
set_option maxHeartbeats 1000000 in
set_option maxRecDepth 100000 in
theorem headIn36 (s : List Int) (hs : Byts 64 s) (w : World) (hF : First w) : Calls Tryd.prog 81 #[aggV (u8s s)] w fun e w' => e = .returned (aggV (hdC (hdR s).1 (hdR s).2)) ∧ Kept [] w w' := by
  have F0 := hide hF
  clear hF
  have lz : (u8s (zs 64)).length = 64 := zl 64
  have ls : (u8s s).length = 64 := by rw [u8s_len, hs.len]
  by_cases h0 : s = zs 64
  · have e : hdR s = (1, 0) := by simp [hdR, h0]
    rw [e]
    have H0 := hide h0
    clear h0 e
    go_enter Tryd.func81, Tryd.ntmps81
    have KK0 := hide (Kept.refl [] w)
    go_wp2_with (
      first
      | (refine wpBoxV rfl (.tmp 0) rfl (u8s s) rfl ?_
         intro W1 b1 e1 B1 K1
         have Z1 : Hid (w.heap.size ≤ b1) := by have := (unhide KK0).size; show _ ≤ _; omega
         have X1_FF := hide ((unhide F0).kept K1)
         have KK1 := hide ((unhide KK0).trans K1)
         have X1_s := hide B1
         clear e1 B1 K1 F0 KK0)
      | (refine wpAllocW (hdC 0 0) zero27 2 rfl rfl rfl ?_
         intro W2 b2 e2 B2 K2
         have Z2 : Hid (w.heap.size ≤ b2) := by have := (unhide KK1).size; show _ ≤ _; omega
         have X2_FF := hide ((unhide X1_FF).kept K2)
         have X2_s := hide ((unhide X1_s).kept K2 (by simp))
         have KK2 := hide ((unhide KK1).trans K2)
         have X2_z := hide B2
         clear e2 B2 K2 X1_FF X1_s KK1)
      | (refine wpLoadA row29 rfl (.tmp 1) rfl b1 0 rfl (u8s s) ls (unhide X2_s).range ?_)
      | (refine wpBuildZ (u8s (zs 64)) build29 rfl rfl ?_)
      | (refine wpEqlA 80 80 guard29 (.tmp 5) (.tmp 6) rfl rfl (u8s s) (u8s (zs 64)) rfl rfl true ((equal29 _ _ _ hs.len (zs_byts 64).len).trans (by rw [decide_eq_true (unhide H0)])) ?_)
      | (refine wpLoadGl rfl rfl (unhide X2_FF) ?_)
      | (refine wpStoreA row27 rfl (.tmp 2) (.tmp 8) rfl b2 0 (hdC 1 0) rfl rfl rfl (hdC_one _ _) ((unhide X2_z).there (by simp [hdC])) ?_))
    have g4 := (unhide X2_z).put (vs := hdC 1 0) rfl
    have nz := unhide Z2
    exact bodyPost_ret (res36 _ _ _ _ rfl rfl g4) rfl ⟨rfl, (unhide KK2).setCells _ _ (by omega)⟩
  · have e : hdR s = (numL s 5 4, numL s 1 4) := by simp [hdR, h0]
    rw [e]
    have H0 := hide h0
    clear h0 e
    go_enter Tryd.func81, Tryd.ntmps81
    have KK0 := hide (Kept.refl [] w)
    go_wp2_with (
      first
      | (refine wpBoxV rfl (.tmp 0) rfl (u8s s) rfl ?_
         intro W1 b1 e1 B1 K1
         have Z1 : Hid (w.heap.size ≤ b1) := by have := (unhide KK0).size; show _ ≤ _; omega
         have X1_FF := hide ((unhide F0).kept K1)
         have KK1 := hide ((unhide KK0).trans K1)
         have X1_s := hide B1
         clear e1 B1 K1 F0 KK0)
      | (refine wpAllocW (hdC 0 0) zero27 2 rfl rfl rfl ?_
         intro W2 b2 e2 B2 K2
         have Z2 : Hid (w.heap.size ≤ b2) := by have := (unhide KK1).size; show _ ≤ _; omega
         have X2_FF := hide ((unhide X1_FF).kept K2)
         have X2_s := hide ((unhide X1_s).kept K2 (by simp))
         have KK2 := hide ((unhide KK1).trans K2)
         have X2_z := hide B2
         clear e2 B2 K2 X1_FF X1_s KK1)
      | (refine wpLoadA row29 rfl (.tmp 1) rfl b1 0 rfl (u8s s) ls (unhide X2_s).range ?_)
      | (refine wpBuildZ (u8s (zs 64)) build29 rfl rfl ?_)
      | (refine wpEqlA 80 80 guard29 (.tmp 5) (.tmp 6) rfl rfl (u8s s) (u8s (zs 64)) rfl rfl false ((equal29 _ _ _ hs.len (zs_byts 64).len).trans (by rw [decide_eq_false (unhide H0)])) ?_)
      | (go_at_call 90
         refine (taker48 s _).mono ?_
         rintro e W4 ⟨b, c, rfl, P4, K4, g1, g3⟩
         have L0 : Hid (Iw w W4 b c b2 s 0) := by
           have q1 := (unhide X2_z).lt
           have q2 := unhide Z2
           have q5 := (unhide KK2).size
           exact ⟨P4, (unhide X2_z).kept K4 (by simp), (unhide KK2).trans K4, by omega, by omega, by omega⟩
         clear P4 K4 g1 g3 X2_z X2_s KK2 X2_FF)
      | (go_at_call 94
         refine (take53 1 (by omega) b c s hs 0 (by omega) _ (unhide L0).tw).mono ?_
         rintro e V0 ⟨rfl, P, K⟩
         have L1 := hide ((unhide L0).take P K)
         clear P K L0)
      | (go_at_call 94
         refine (take53 4 (by omega) b c s hs 1 (by omega) _ (unhide L1).tw).mono ?_
         rintro e V1 ⟨rfl, P, K⟩
         have L2 := hide ((unhide L1).take P K)
         clear P K L1)
      | (go_at_call 94
         refine (take53 4 (by omega) b c s hs 5 (by omega) _ (unhide L2).tw).mono ?_
         rintro e V2 ⟨rfl, P, K⟩
         have L3 := hide ((unhide L2).take P K)
         clear P K L2)
      | (refine wpBuildP rfl _ rfl #[(0, .int .i64 (numL s 5 4)), (1, .int .i64 (numL s 1 4))] (by simp only [List.map_toArray, List.map_cons, List.map_nil]; rfl) (hdC (numL s 5 4) (numL s 1 4)) (build27p _ _ _) ?_)
      | (refine wpStoreA row27 rfl (.tmp 2) (.tmp 18) rfl b2 0 (hdC (numL s 5 4) (numL s 1 4)) rfl rfl rfl (hdC_one _ _) ((unhide L3).res.there (by simp [hdC])) ?_))
    have g4 := (unhide L3).res.put (vs := hdC (numL s 5 4) (numL s 1 4)) rfl
    exact bodyPost_ret (res36 _ _ _ _ rfl rfl g4) rfl ⟨rfl, (unhide L3).kept.setCells _ _ (by have := (unhide L3).nz; omega)⟩

/-- What TakeHead tells. -/
def takeR (s : List Int) : (Int × Int) × Int := if (puthR (hdR s).1 (hdR s).2).2 = 0 ∧ s = (puthR (hdR s).1 (hdR s).2).1 then (hdR s, 0) else ((0, 0), 12)

set_option maxHeartbeats 4000000 in
set_option maxRecDepth 100000 in
theorem take_no (s : List Int) (hs : Byts 64 s) (st ep : Int) (L : List Int) (lL0 : L.length = 64) (hB0 : ∀ w, First w → Calls Tryd.prog 81 #[aggV (u8s s)] w fun e w' => e = .returned (aggV (hdC st ep)) ∧ Kept [] w w') (hP0 : ∀ w, First w → Calls Tryd.prog 38 #[aggV (hdC st ep)] w fun e w' => e = .returned (.tuple #[aggV (u8s L), .int .i64 2]) ∧ Kept [] w w')  (w : World) (hF : First w) : Calls Tryd.prog 57 #[aggV (u8s s)] w fun e w' => e = .returned (.tuple #[aggV (hdC 0 0), .int .i64 12]) ∧ Kept [] w w' := by
  have F0 := hide hF
  have hB := hide hB0
  have hP := hide hP0
  clear hF hB0 hP0
  have lL : (u8s L).length = 64 := by rw [u8s_len, lL0]
  have ls : (u8s s).length = 64 := by rw [u8s_len, hs.len]
  go_enter Tryd.func57, Tryd.ntmps57
  have KK0 := hide (Kept.refl [] w)
  go_wp2_with (
    first
    | (refine wpBoxV rfl (.tmp 0) rfl (u8s s) rfl ?_
       intro W1 b1 e1 B1 K1
       have Z1 : Hid (w.heap.size ≤ b1) := by have := (unhide KK0).size; show _ ≤ _; omega
       have X1_FF := hide ((unhide F0).kept K1)
       have KK1 := hide ((unhide KK0).trans K1)
       have X1_s := hide B1
       clear e1 B1 K1 F0 KK0)
    | (refine wpAllocW (hdC 0 0) zero27 2 rfl rfl rfl ?_
       intro W2 b2 e2 B2 K2
       have Z2 : Hid (w.heap.size ≤ b2) := by have := (unhide KK1).size; show _ ≤ _; omega
       have X2_FF := hide ((unhide X1_FF).kept K2)
       have X2_s := hide ((unhide X1_s).kept K2 (by simp))
       have KK2 := hide ((unhide KK1).trans K2)
       have X2_z := hide B2
       clear e2 B2 K2 X1_FF X1_s KK1)
    | (refine wpLoadA row29 rfl (.tmp 1) rfl b1 0 rfl (u8s s) ls (unhide X2_s).range ?_)
    | (go_at_call 81
       refine (unhide hB _ (unhide X2_FF)).mono ?_
       rintro e W3 ⟨rfl, K3⟩
       have X3_FF := hide ((unhide X2_FF).kept K3)
       have X3_s := hide ((unhide X2_s).kept K3 (by simp))
       have X3_z := hide ((unhide X2_z).kept K3 (by simp))
       have KK3 := hide ((unhide KK2).trans K3)
       clear K3 X2_FF X2_s X2_z KK2)
    | (refine wpNew row27 (hdC 0 0) rfl zero27 4 rfl rfl rfl (.tmp 8) rfl rfl rfl (hdC st ep) rfl (hdC_one _ _) rfl rfl ?_
       intro W4 b4 e4 B4 K4
       have Z4 : Hid (w.heap.size ≤ b4) := by have := (unhide KK3).size; show _ ≤ _; omega
       have X4_FF := hide ((unhide X3_FF).kept K4)
       have X4_s := hide ((unhide X3_s).kept K4 (by simp))
       have X4_z := hide ((unhide X3_z).kept K4 (by simp))
       have KK4 := hide ((unhide KK3).trans K4)
       have X4_h := hide B4
       clear e4 B4 K4 X3_FF X3_s X3_z KK3)
    | (refine wpLoadA row27 rfl (.tmp 4) rfl b4 0 rfl (hdC st ep) rfl (unhide X4_h).range ?_)
    | (go_at_call 38
       refine (unhide hP _ (unhide X4_FF)).mono ?_
       rintro e W5 ⟨rfl, K5⟩
       have X5_FF := hide ((unhide X4_FF).kept K5)
       have X5_s := hide ((unhide X4_s).kept K5 (by simp))
       have X5_z := hide ((unhide X4_z).kept K5 (by simp))
       have X5_h := hide ((unhide X4_h).kept K5 (by simp))
       have KK5 := hide ((unhide KK4).trans K5)
       clear K5 X4_FF X4_s X4_z X4_h KK4)
    | (refine wpNew row29 (u8s (zs 64)) (zl 64) zero29 5 rfl rfl rfl (.tmp 12) rfl rfl rfl (u8s L) lL (u8s_one _) rfl rfl ?_
       intro W6 b6 e6 B6 K6
       have Z6 : Hid (w.heap.size ≤ b6) := by have := (unhide KK5).size; show _ ≤ _; omega
       have X6_FF := hide ((unhide X5_FF).kept K6)
       have X6_s := hide ((unhide X5_s).kept K6 (by simp))
       have X6_z := hide ((unhide X5_z).kept K6 (by simp))
       have X6_h := hide ((unhide X5_h).kept K6 (by simp))
       have KK6 := hide ((unhide KK5).trans K6)
       have X6_t := hide B6
       clear e6 B6 K6 X5_FF X5_s X5_z X5_h KK5)
    | (refine wpBuildZ (hdC 0 0) build27 rfl rfl ?_)
    | (refine wpStoreA row27 rfl (.tmp 2) (.tmp 21) rfl b2 0 (hdC 0 0) rfl rfl rfl (hdC_one _ _) ((unhide X6_z).there (by simp [hdC])) ?_))
  have g4 := (unhide X6_z).put (vs := hdC 0 0) rfl
  have nz := unhide Z2
  exact bodyPost_ret (res12 _ _ _ _ _ rfl rfl rfl g4) rfl ⟨rfl, (unhide KK6).setCells _ _ (by omega)⟩

set_option maxHeartbeats 4000000 in
set_option maxRecDepth 100000 in
theorem take_yes (s : List Int) (hs : Byts 64 s) (st ep : Int) (L : List Int) (lL0 : L.length = 64) (hB0 : ∀ w, First w → Calls Tryd.prog 81 #[aggV (u8s s)] w fun e w' => e = .returned (aggV (hdC st ep)) ∧ Kept [] w w') (hP0 : ∀ w, First w → Calls Tryd.prog 38 #[aggV (hdC st ep)] w fun e w' => e = .returned (.tuple #[aggV (u8s L), .int .i64 0]) ∧ Kept [] w w') (hN : s = L) (w : World) (hF : First w) : Calls Tryd.prog 57 #[aggV (u8s s)] w fun e w' => e = .returned (.tuple #[aggV (hdC st ep), .int .i64 0]) ∧ Kept [] w w' := by
  have F0 := hide hF
  have hB := hide hB0
  have hP := hide hP0
  clear hF hB0 hP0
  have lL : (u8s L).length = 64 := by rw [u8s_len, lL0]
  have ls : (u8s s).length = 64 := by rw [u8s_len, hs.len]
  have HN := hide hN
  clear hN
  go_enter Tryd.func57, Tryd.ntmps57
  have KK0 := hide (Kept.refl [] w)
  go_wp2_with (
    first
    | (refine wpBoxV rfl (.tmp 0) rfl (u8s s) rfl ?_
       intro W1 b1 e1 B1 K1
       have Z1 : Hid (w.heap.size ≤ b1) := by have := (unhide KK0).size; show _ ≤ _; omega
       have X1_FF := hide ((unhide F0).kept K1)
       have KK1 := hide ((unhide KK0).trans K1)
       have X1_s := hide B1
       clear e1 B1 K1 F0 KK0)
    | (refine wpAllocW (hdC 0 0) zero27 2 rfl rfl rfl ?_
       intro W2 b2 e2 B2 K2
       have Z2 : Hid (w.heap.size ≤ b2) := by have := (unhide KK1).size; show _ ≤ _; omega
       have X2_FF := hide ((unhide X1_FF).kept K2)
       have X2_s := hide ((unhide X1_s).kept K2 (by simp))
       have KK2 := hide ((unhide KK1).trans K2)
       have X2_z := hide B2
       clear e2 B2 K2 X1_FF X1_s KK1)
    | (refine wpLoadA row29 rfl (.tmp 1) rfl b1 0 rfl (u8s s) ls (unhide X2_s).range ?_)
    | (go_at_call 81
       refine (unhide hB _ (unhide X2_FF)).mono ?_
       rintro e W3 ⟨rfl, K3⟩
       have X3_FF := hide ((unhide X2_FF).kept K3)
       have X3_s := hide ((unhide X2_s).kept K3 (by simp))
       have X3_z := hide ((unhide X2_z).kept K3 (by simp))
       have KK3 := hide ((unhide KK2).trans K3)
       clear K3 X2_FF X2_s X2_z KK2)
    | (refine wpNew row27 (hdC 0 0) rfl zero27 4 rfl rfl rfl (.tmp 8) rfl rfl rfl (hdC st ep) rfl (hdC_one _ _) rfl rfl ?_
       intro W4 b4 e4 B4 K4
       have Z4 : Hid (w.heap.size ≤ b4) := by have := (unhide KK3).size; show _ ≤ _; omega
       have X4_FF := hide ((unhide X3_FF).kept K4)
       have X4_s := hide ((unhide X3_s).kept K4 (by simp))
       have X4_z := hide ((unhide X3_z).kept K4 (by simp))
       have KK4 := hide ((unhide KK3).trans K4)
       have X4_h := hide B4
       clear e4 B4 K4 X3_FF X3_s X3_z KK3)
    | (refine wpLoadA row27 rfl (.tmp 4) rfl b4 0 rfl (hdC st ep) rfl (unhide X4_h).range ?_)
    | (go_at_call 38
       refine (unhide hP _ (unhide X4_FF)).mono ?_
       rintro e W5 ⟨rfl, K5⟩
       have X5_FF := hide ((unhide X4_FF).kept K5)
       have X5_s := hide ((unhide X4_s).kept K5 (by simp))
       have X5_z := hide ((unhide X4_z).kept K5 (by simp))
       have X5_h := hide ((unhide X4_h).kept K5 (by simp))
       have KK5 := hide ((unhide KK4).trans K5)
       clear K5 X4_FF X4_s X4_z X4_h KK4)
    | (refine wpNew row29 (u8s (zs 64)) (zl 64) zero29 5 rfl rfl rfl (.tmp 12) rfl rfl rfl (u8s L) lL (u8s_one _) rfl rfl ?_
       intro W6 b6 e6 B6 K6
       have Z6 : Hid (w.heap.size ≤ b6) := by have := (unhide KK5).size; show _ ≤ _; omega
       have X6_FF := hide ((unhide X5_FF).kept K6)
       have X6_s := hide ((unhide X5_s).kept K6 (by simp))
       have X6_z := hide ((unhide X5_z).kept K6 (by simp))
       have X6_h := hide ((unhide X5_h).kept K6 (by simp))
       have KK6 := hide ((unhide KK5).trans K6)
       have X6_t := hide B6
       clear e6 B6 K6 X5_FF X5_s X5_z X5_h KK5)
    | (refine wpLoadG row29 (.tmp 1) rfl rfl b1 0 rfl (u8s s) ls (unhide X6_s).range ?_)
    | (refine wpLoadG row29 (.tmp 5) rfl rfl b6 0 rfl (u8s L) lL (unhide X6_t).range ?_)
    | (refine wpNeqG 80 80 guard29 (.tmp 17) (.tmp 18) rfl rfl (u8s s) (u8s L) rfl rfl true ((equal29 _ _ _ hs.len lL0).trans (by rw [decide_eq_true (unhide HN)])) ?_)
    | (refine wpLoadA row27 rfl (.tmp 4) rfl b4 0 rfl (hdC st ep) rfl (unhide X6_h).range ?_)
    | (refine wpStoreA row27 rfl (.tmp 2) (.tmp 22) rfl b2 0 (hdC st ep) rfl rfl rfl (hdC_one _ _) ((unhide X6_z).there (by simp [hdC])) ?_))
  have g4 := (unhide X6_z).put (vs := hdC st ep) rfl
  have nz := unhide Z2
  exact bodyPost_ret (res12 _ _ _ _ _ rfl rfl rfl g4) rfl ⟨rfl, (unhide KK6).setCells _ _ (by omega)⟩

set_option maxHeartbeats 4000000 in
set_option maxRecDepth 100000 in
theorem take_other (s : List Int) (hs : Byts 64 s) (st ep : Int) (L : List Int) (lL0 : L.length = 64) (hB0 : ∀ w, First w → Calls Tryd.prog 81 #[aggV (u8s s)] w fun e w' => e = .returned (aggV (hdC st ep)) ∧ Kept [] w w') (hP0 : ∀ w, First w → Calls Tryd.prog 38 #[aggV (hdC st ep)] w fun e w' => e = .returned (.tuple #[aggV (u8s L), .int .i64 0]) ∧ Kept [] w w') (hN : ¬ s = L) (w : World) (hF : First w) : Calls Tryd.prog 57 #[aggV (u8s s)] w fun e w' => e = .returned (.tuple #[aggV (hdC 0 0), .int .i64 12]) ∧ Kept [] w w' := by
  have F0 := hide hF
  have hB := hide hB0
  have hP := hide hP0
  clear hF hB0 hP0
  have lL : (u8s L).length = 64 := by rw [u8s_len, lL0]
  have ls : (u8s s).length = 64 := by rw [u8s_len, hs.len]
  have HN := hide hN
  clear hN
  go_enter Tryd.func57, Tryd.ntmps57
  have KK0 := hide (Kept.refl [] w)
  go_wp2_with (
    first
    | (refine wpBoxV rfl (.tmp 0) rfl (u8s s) rfl ?_
       intro W1 b1 e1 B1 K1
       have Z1 : Hid (w.heap.size ≤ b1) := by have := (unhide KK0).size; show _ ≤ _; omega
       have X1_FF := hide ((unhide F0).kept K1)
       have KK1 := hide ((unhide KK0).trans K1)
       have X1_s := hide B1
       clear e1 B1 K1 F0 KK0)
    | (refine wpAllocW (hdC 0 0) zero27 2 rfl rfl rfl ?_
       intro W2 b2 e2 B2 K2
       have Z2 : Hid (w.heap.size ≤ b2) := by have := (unhide KK1).size; show _ ≤ _; omega
       have X2_FF := hide ((unhide X1_FF).kept K2)
       have X2_s := hide ((unhide X1_s).kept K2 (by simp))
       have KK2 := hide ((unhide KK1).trans K2)
       have X2_z := hide B2
       clear e2 B2 K2 X1_FF X1_s KK1)
    | (refine wpLoadA row29 rfl (.tmp 1) rfl b1 0 rfl (u8s s) ls (unhide X2_s).range ?_)
    | (go_at_call 81
       refine (unhide hB _ (unhide X2_FF)).mono ?_
       rintro e W3 ⟨rfl, K3⟩
       have X3_FF := hide ((unhide X2_FF).kept K3)
       have X3_s := hide ((unhide X2_s).kept K3 (by simp))
       have X3_z := hide ((unhide X2_z).kept K3 (by simp))
       have KK3 := hide ((unhide KK2).trans K3)
       clear K3 X2_FF X2_s X2_z KK2)
    | (refine wpNew row27 (hdC 0 0) rfl zero27 4 rfl rfl rfl (.tmp 8) rfl rfl rfl (hdC st ep) rfl (hdC_one _ _) rfl rfl ?_
       intro W4 b4 e4 B4 K4
       have Z4 : Hid (w.heap.size ≤ b4) := by have := (unhide KK3).size; show _ ≤ _; omega
       have X4_FF := hide ((unhide X3_FF).kept K4)
       have X4_s := hide ((unhide X3_s).kept K4 (by simp))
       have X4_z := hide ((unhide X3_z).kept K4 (by simp))
       have KK4 := hide ((unhide KK3).trans K4)
       have X4_h := hide B4
       clear e4 B4 K4 X3_FF X3_s X3_z KK3)
    | (refine wpLoadA row27 rfl (.tmp 4) rfl b4 0 rfl (hdC st ep) rfl (unhide X4_h).range ?_)
    | (go_at_call 38
       refine (unhide hP _ (unhide X4_FF)).mono ?_
       rintro e W5 ⟨rfl, K5⟩
       have X5_FF := hide ((unhide X4_FF).kept K5)
       have X5_s := hide ((unhide X4_s).kept K5 (by simp))
       have X5_z := hide ((unhide X4_z).kept K5 (by simp))
       have X5_h := hide ((unhide X4_h).kept K5 (by simp))
       have KK5 := hide ((unhide KK4).trans K5)
       clear K5 X4_FF X4_s X4_z X4_h KK4)
    | (refine wpNew row29 (u8s (zs 64)) (zl 64) zero29 5 rfl rfl rfl (.tmp 12) rfl rfl rfl (u8s L) lL (u8s_one _) rfl rfl ?_
       intro W6 b6 e6 B6 K6
       have Z6 : Hid (w.heap.size ≤ b6) := by have := (unhide KK5).size; show _ ≤ _; omega
       have X6_FF := hide ((unhide X5_FF).kept K6)
       have X6_s := hide ((unhide X5_s).kept K6 (by simp))
       have X6_z := hide ((unhide X5_z).kept K6 (by simp))
       have X6_h := hide ((unhide X5_h).kept K6 (by simp))
       have KK6 := hide ((unhide KK5).trans K6)
       have X6_t := hide B6
       clear e6 B6 K6 X5_FF X5_s X5_z X5_h KK5)
    | (refine wpLoadG row29 (.tmp 1) rfl rfl b1 0 rfl (u8s s) ls (unhide X6_s).range ?_)
    | (refine wpLoadG row29 (.tmp 5) rfl rfl b6 0 rfl (u8s L) lL (unhide X6_t).range ?_)
    | (refine wpNeqG 80 80 guard29 (.tmp 17) (.tmp 18) rfl rfl (u8s s) (u8s L) rfl rfl false ((equal29 _ _ _ hs.len lL0).trans (by rw [decide_eq_false (unhide HN)])) ?_)
    | (refine wpBuildZ (hdC 0 0) build27 rfl rfl ?_)
    | (refine wpStoreA row27 rfl (.tmp 2) (.tmp 21) rfl b2 0 (hdC 0 0) rfl rfl rfl (hdC_one _ _) ((unhide X6_z).there (by simp [hdC])) ?_))
  have g4 := (unhide X6_z).put (vs := hdC 0 0) rfl
  have nz := unhide Z2
  exact bodyPost_ret (res12 _ _ _ _ _ rfl rfl rfl g4) rfl ⟨rfl, (unhide KK6).setCells _ _ (by omega)⟩

theorem puthR_two (st ep : Int) : (puthR st ep).2 = 0 ∨ (puthR st ep).2 = 2 := by
  unfold puthR
  split
  · exact .inl rfl
  · split
    · exact .inl rfl
    · exact .inr rfl
theorem takehead12 (s : List Int) (hs : Byts 64 s) (w : World) (hF : First w) : Calls Tryd.prog 57 #[aggV (u8s s)] w fun e w' => e = .returned (.tuple #[aggV (hdC (takeR s).1.1 (takeR s).1.2), .int .i64 (takeR s).2]) ∧ Kept [] w w' := by
  have hB := headIn36 s hs
  have hP := puthead9 (hdR s).1 (hdR s).2
  have lL := (puthR_byts (hdR s).1 (hdR s).2).len
  by_cases h0 : (puthR (hdR s).1 (hdR s).2).2 = 0
  · rw [h0] at hP
    by_cases hN : s = (puthR (hdR s).1 (hdR s).2).1
    · have e : takeR s = (hdR s, 0) := by unfold takeR; rw [if_pos ⟨h0, hN⟩]
      rw [e]
      exact take_yes s hs _ _ _ lL hB hP hN w hF
    · have e : takeR s = ((0, 0), 12) := by unfold takeR; rw [if_neg (fun h => hN h.2)]
      rw [e]
      exact take_other s hs _ _ _ lL hB hP hN w hF
  · have e2 : (puthR (hdR s).1 (hdR s).2).2 = 2 := by
      rcases puthR_two (hdR s).1 (hdR s).2 with h | h
      · exact absurd h h0
      · exact h
    rw [e2] at hP
    have e : takeR s = ((0, 0), 12) := by unfold takeR; rw [if_neg (fun h => h0 h.1)]
    rw [e]
    exact take_no s hs _ _ _ lL hB hP w hF

end Go.Proofs.YtmeajhdhiebkdaaDoor.Rc
