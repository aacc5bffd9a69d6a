/-
  The walks of PutHead, headIn and TakeHead.
-/
import Derived.Test.YtmeajhdhiebkdaaDoorRcKit
namespace Go.Proofs.YtmeajhdhiebkdaaDoor.Rc
set_option maxRecDepth 100000
open Go.RowKit

/-- The first head lies where it lies. -/
structure First (w : World) : Prop where
  at' : w.rangeAt 0 0 (hdC 1 0)
  pos : 0 < w.heap.size
theorem First.kept {w w' : World} (h : First w) (hk : Kept [] w w') : First w' :=
  ⟨fun j v hj => hk.cell (h.at' j v hj) (by simp), by have := h.pos; have := hk.size; omega⟩
theorem First.keptX {w w' : World} {X : List Nat} (h : First w) (hk : Kept X w w') (hX : 0 ∉ X) : First w' :=
  ⟨fun j v hj => hk.cell (h.at' j v hj) hX, by have := h.pos; have := hk.size; omega⟩
theorem wpLoadGl {ops : Array Oper} {rest : List Oper} {op : Oper} {a : Act} {w : World} {Q : Exit → Act → World → Prop} (hgd : op.guard = none) (ho : op.op = .load 91 (.global 0)) (h : First w)
    (hh : wpList Tryd.prog ops Q rest (a.put op.dst (aggV (hdC 1 0))) w) : wpList Tryd.prog ops Q (op :: rest) a w :=
  wpLoadA row27 hgd (.global 0) ho 0 0 rfl (hdC 1 0) rfl h.at' hh

/-- What PutHead tells. -/
def isHd (st ep : Int) : Bool := decide (st = 1) && decide (ep = 0)
def puthR (st ep : Int) : List Int × Int := if isHd st ep then (zs 64, 0) else if isWrit ep && isWrit st then (secOf (be 1 179 ++ be 4 ep ++ be 4 st), 0) else (zs 64, 2)
theorem puthR_byts (st ep : Int) : Byts 64 (puthR st ep).1 := by
  unfold puthR
  split
  · exact zs_byts 64
  · split
    · exact secOf_byts (((be_byts _ 1).app (be_byts _ 4)).app (be_byts _ 4)) (by omega)
    · exact zs_byts 64
/-- What PutHead keeps while it goes. -/
structure Hw (w wr : World) (b c1 c3 hb zb : Nat) (d : List Int) (st ep : Int) : Prop where
  pw : Pw wr b c1 c3 d
  hd : Blk wr hb 91 (hdC st ep)
  res : Blk wr zb 80 (u8s (zs 64))
  kept : Kept [] w wr
  nb : w.heap.size ≤ b
  nc : w.heap.size ≤ c3
  nz : w.heap.size ≤ zb
  n1 : hb ≠ b
  n2 : hb ≠ c3
  n3 : zb ≠ b
  n4 : zb ≠ c3
theorem Hw.put {w wr wn : World} {b c1 c3 hb zb : Nat} {d d' : List Int} {st ep : Int} (h : Hw w wr b c1 c3 hb zb d st ep) (hp : Pw wn b c1 c3 d') (hk : Kept [b, c3] wr wn) : Hw w wn b c1 c3 hb zb d' st ep :=
  ⟨hp, h.hd.kept hk (by simp [h.n1, h.n2]), h.res.kept hk (by simp [h.n3, h.n4]), h.kept.fresh hk (fun i hi hl => by have := h.nb; have := h.nc; simp at hi; omega), h.nb, h.nc, h.nz, h.n1, h.n2, h.n3, h.n4⟩
theorem res9 (w : World) (z : Nat) (vs : List Value) (e : Int) (tmps : Array Value) (h4 : tmps[2]?.getD undef = P0 z) (h5 : tmps[3]?.getD undef = .int .i64 e) (hl : vs.length = 64) (hb : Blk w z 80 vs) : (results Tryd.f38 tmps).run Tryd.prog w = .ok (.tuple #[aggV vs, .int .i64 e]) w := by
  have := loadV row29 hl hb
  simp [results, Tryd.results38, h4, h5, this, asAddr]

set_option maxHeartbeats 1000000 in
set_option maxRecDepth 100000 in
theorem puth_first (st ep : Int) (w : World) (hF : First w) (hI : isHd st ep = true) : Calls Tryd.prog 38 #[aggV (hdC st ep)] w fun e w' => e = .returned (.tuple #[aggV (u8s (zs 64)), .int .i64 0]) ∧ Kept [] w w' := by
  have F0 := hide hF
  clear hF
  have lz : (u8s (zs 64)).length = 64 := zl 64
  go_enter Tryd.func38, Tryd.ntmps38
  have KK0 := hide (Kept.refl [] w)
  go_wp2_with (
    first
    | (refine wpBoxV rfl (.tmp 0) rfl (hdC st ep) rfl ?_
       intro W1 b1 e1 B1 K1
       have Z1 : Hid (w.heap.size ≤ b1) := by have := (unhide KK0).size; show _ ≤ _; omega
       have X1_FF := hide ((unhide F0).kept K1)
       have KK1 := hide ((unhide KK0).trans K1)
       have X1_h := hide B1
       clear e1 B1 K1 F0 KK0)
    | (refine wpAllocW (u8s (zs 64)) zero29 2 rfl rfl rfl ?_
       intro W2 b2 e2 B2 K2
       have Z2 : Hid (w.heap.size ≤ b2) := by have := (unhide KK1).size; show _ ≤ _; omega
       have X2_FF := hide ((unhide X1_FF).kept K2)
       have X2_h := hide ((unhide X1_h).kept K2 (by simp))
       have KK2 := hide ((unhide KK1).trans K2)
       have X2_z := hide B2
       clear e2 B2 K2 X1_FF X1_h KK1)
    | (refine wpAllocW (u8s (zs 64)) zero29 4 rfl rfl rfl ?_
       intro W3 b3 e3 B3 K3
       have Z3 : Hid (w.heap.size ≤ b3) := by have := (unhide KK2).size; show _ ≤ _; omega
       have X3_FF := hide ((unhide X2_FF).kept K3)
       have X3_h := hide ((unhide X2_h).kept K3 (by simp))
       have X3_z := hide ((unhide X2_z).kept K3 (by simp))
       have KK3 := hide ((unhide KK2).trans K3)
       have X3_s := hide B3
       have ce := fits_cell (unhide X3_h) 1 _ rfl
       have cs := fits_cell (unhide X3_h) 0 _ rfl
       clear e3 B3 K3 X2_FF X2_h X2_z KK2)
    | (refine wpLoadA row27 rfl (.tmp 1) rfl b1 0 rfl (hdC st ep) rfl (unhide X3_h).range ?_)
    | (refine wpLoadGl rfl rfl (unhide X3_FF) ?_)
    | (refine wpEqlA 91 91 guard27 (.tmp 7) (.tmp 8) rfl rfl (hdC st ep) (hdC 1 0) rfl rfl true ((equal27 _ _ _ _ _).trans (by rw [← isHd, hI])) ?_)
    | (refine wpLoadA row29 rfl (.tmp 4) rfl b3 0 rfl (u8s (zs 64)) lz (unhide X3_s).range ?_)
    | (refine wpStoreA row29 rfl (.tmp 2) (.tmp 10) rfl b2 0 (u8s (zs 64)) rfl rfl lz (u8s_one _) ((unhide X3_z).there (by rw [lz]; omega)) ?_))
  have g4 := (unhide X3_z).put (vs := u8s (zs 64)) rfl
  have nz := unhide Z2
  exact bodyPost_ret (res9 _ _ _ _ _ rfl rfl lz g4) rfl ⟨rfl, (unhide KK3).setCells _ _ (by omega)⟩

set_option maxHeartbeats 1000000 in
set_option maxRecDepth 100000 in
theorem puth_bad1 (st ep : Int) (w : World) (hF : First w) (hI : isHd st ep = false) (hE : isWrit ep = false) : Calls Tryd.prog 38 #[aggV (hdC st ep)] w fun e w' => e = .returned (.tuple #[aggV (u8s (zs 64)), .int .i64 2]) ∧ Kept [] w w' := by
  have F0 := hide hF
  clear hF
  have lz : (u8s (zs 64)).length = 64 := zl 64
  go_enter Tryd.func38, Tryd.ntmps38
  have KK0 := hide (Kept.refl [] w)
  go_wp2_with (
    first
    | (refine wpBoxV rfl (.tmp 0) rfl (hdC st ep) rfl ?_
       intro W1 b1 e1 B1 K1
       have Z1 : Hid (w.heap.size ≤ b1) := by have := (unhide KK0).size; show _ ≤ _; omega
       have X1_FF := hide ((unhide F0).kept K1)
       have KK1 := hide ((unhide KK0).trans K1)
       have X1_h := hide B1
       clear e1 B1 K1 F0 KK0)
    | (refine wpAllocW (u8s (zs 64)) zero29 2 rfl rfl rfl ?_
       intro W2 b2 e2 B2 K2
       have Z2 : Hid (w.heap.size ≤ b2) := by have := (unhide KK1).size; show _ ≤ _; omega
       have X2_FF := hide ((unhide X1_FF).kept K2)
       have X2_h := hide ((unhide X1_h).kept K2 (by simp))
       have KK2 := hide ((unhide KK1).trans K2)
       have X2_z := hide B2
       clear e2 B2 K2 X1_FF X1_h KK1)
    | (refine wpAllocW (u8s (zs 64)) zero29 4 rfl rfl rfl ?_
       intro W3 b3 e3 B3 K3
       have Z3 : Hid (w.heap.size ≤ b3) := by have := (unhide KK2).size; show _ ≤ _; omega
       have X3_FF := hide ((unhide X2_FF).kept K3)
       have X3_h := hide ((unhide X2_h).kept K3 (by simp))
       have X3_z := hide ((unhide X2_z).kept K3 (by simp))
       have KK3 := hide ((unhide KK2).trans K3)
       have X3_s := hide B3
       have ce := fits_cell (unhide X3_h) 1 _ rfl
       have cs := fits_cell (unhide X3_h) 0 _ rfl
       clear e3 B3 K3 X2_FF X2_h X2_z KK2)
    | (refine wpLoadA row27 rfl (.tmp 1) rfl b1 0 rfl (hdC st ep) rfl (unhide X3_h).range ?_)
    | (refine wpLoadGl rfl rfl (unhide X3_FF) ?_)
    | (refine wpEqlA 91 91 guard27 (.tmp 7) (.tmp 8) rfl rfl (hdC st ep) (hdC 1 0) rfl rfl false ((equal27 _ _ _ _ _).trans (by rw [← isHd, hI])) ?_)
    | (go_at_call 68
       refine (isEpoch33 ep _).mono ?_
       rintro e We ⟨rfl, rfl⟩
       rw [hE])
    | (go_at_call 69
       refine (isStamp34 st _).mono ?_
       rintro e We ⟨rfl, rfl⟩
       rw [hS])
    | (refine wpLoadA row29 rfl (.tmp 4) rfl b3 0 rfl (u8s (zs 64)) lz (unhide X3_s).range ?_)
    | (refine wpStoreA row29 rfl (.tmp 2) (.tmp 22) rfl b2 0 (u8s (zs 64)) rfl rfl lz (u8s_one _) ((unhide X3_z).there (by rw [lz]; omega)) ?_))
  have g4 := (unhide X3_z).put (vs := u8s (zs 64)) rfl
  have nz := unhide Z2
  exact bodyPost_ret (res9 _ _ _ _ _ rfl rfl lz g4) rfl ⟨rfl, (unhide KK3).setCells _ _ (by omega)⟩

set_option maxHeartbeats 1000000 in
set_option maxRecDepth 100000 in
theorem puth_bad2 (st ep : Int) (w : World) (hF : First w) (hI : isHd st ep = false) (hE : isWrit ep = true) (hS : isWrit st = false) : Calls Tryd.prog 38 #[aggV (hdC st ep)] w fun e w' => e = .returned (.tuple #[aggV (u8s (zs 64)), .int .i64 2]) ∧ Kept [] w w' := by
  have F0 := hide hF
  clear hF
  have lz : (u8s (zs 64)).length = 64 := zl 64
  go_enter Tryd.func38, Tryd.ntmps38
  have KK0 := hide (Kept.refl [] w)
  go_wp2_with (
    first
    | (refine wpBoxV rfl (.tmp 0) rfl (hdC st ep) rfl ?_
       intro W1 b1 e1 B1 K1
       have Z1 : Hid (w.heap.size ≤ b1) := by have := (unhide KK0).size; show _ ≤ _; omega
       have X1_FF := hide ((unhide F0).kept K1)
       have KK1 := hide ((unhide KK0).trans K1)
       have X1_h := hide B1
       clear e1 B1 K1 F0 KK0)
    | (refine wpAllocW (u8s (zs 64)) zero29 2 rfl rfl rfl ?_
       intro W2 b2 e2 B2 K2
       have Z2 : Hid (w.heap.size ≤ b2) := by have := (unhide KK1).size; show _ ≤ _; omega
       have X2_FF := hide ((unhide X1_FF).kept K2)
       have X2_h := hide ((unhide X1_h).kept K2 (by simp))
       have KK2 := hide ((unhide KK1).trans K2)
       have X2_z := hide B2
       clear e2 B2 K2 X1_FF X1_h KK1)
    | (refine wpAllocW (u8s (zs 64)) zero29 4 rfl rfl rfl ?_
       intro W3 b3 e3 B3 K3
       have Z3 : Hid (w.heap.size ≤ b3) := by have := (unhide KK2).size; show _ ≤ _; omega
       have X3_FF := hide ((unhide X2_FF).kept K3)
       have X3_h := hide ((unhide X2_h).kept K3 (by simp))
       have X3_z := hide ((unhide X2_z).kept K3 (by simp))
       have KK3 := hide ((unhide KK2).trans K3)
       have X3_s := hide B3
       have ce := fits_cell (unhide X3_h) 1 _ rfl
       have cs := fits_cell (unhide X3_h) 0 _ rfl
       clear e3 B3 K3 X2_FF X2_h X2_z KK2)
    | (refine wpLoadA row27 rfl (.tmp 1) rfl b1 0 rfl (hdC st ep) rfl (unhide X3_h).range ?_)
    | (refine wpLoadGl rfl rfl (unhide X3_FF) ?_)
    | (refine wpEqlA 91 91 guard27 (.tmp 7) (.tmp 8) rfl rfl (hdC st ep) (hdC 1 0) rfl rfl false ((equal27 _ _ _ _ _).trans (by rw [← isHd, hI])) ?_)
    | (go_at_call 68
       refine (isEpoch33 ep _).mono ?_
       rintro e We ⟨rfl, rfl⟩
       rw [hE])
    | (go_at_call 69
       refine (isStamp34 st _).mono ?_
       rintro e We ⟨rfl, rfl⟩
       rw [hS])
    | (refine wpLoadA row29 rfl (.tmp 4) rfl b3 0 rfl (u8s (zs 64)) lz (unhide X3_s).range ?_)
    | (refine wpStoreA row29 rfl (.tmp 2) (.tmp 22) rfl b2 0 (u8s (zs 64)) rfl rfl lz (u8s_one _) ((unhide X3_z).there (by rw [lz]; omega)) ?_))
  have g4 := (unhide X3_z).put (vs := u8s (zs 64)) rfl
  have nz := unhide Z2
  exact bodyPost_ret (res9 _ _ _ _ _ rfl rfl lz g4) rfl ⟨rfl, (unhide KK3).setCells _ _ (by omega)⟩

set_option maxHeartbeats 1000000 in
set_option maxRecDepth 100000 in
theorem puth_yes (st ep : Int) (w : World) (hF : First w) (hI : isHd st ep = false) (hE : isWrit ep = true) (hS : isWrit st = true) : Calls Tryd.prog 38 #[aggV (hdC st ep)] w fun e w' => e = .returned (.tuple #[aggV (u8s (secOf (be 1 179 ++ be 4 ep ++ be 4 st))), .int .i64 0]) ∧ Kept [] w w' := by
  have F0 := hide hF
  clear hF
  have lz : (u8s (zs 64)).length = 64 := zl 64
  have lR : (u8s (secOf (be 1 179 ++ be 4 ep ++ be 4 st))).length = 64 := by rw [u8s_len]; exact secOf_len (by simp [be_len])
  have hE2 := hE
  have hS2 := hS
  simp only [isWrit, decide_eq_true_eq] at hE2 hS2
  obtain ⟨e1, e2⟩ := hE2
  obtain ⟨s1, s2⟩ := hS2
  go_enter Tryd.func38, Tryd.ntmps38
  have KK0 := hide (Kept.refl [] w)
  go_wp2_with (
    first
    | (refine wpBoxV rfl (.tmp 0) rfl (hdC st ep) rfl ?_
       intro W1 b1 e1 B1 K1
       have Z1 : Hid (w.heap.size ≤ b1) := by have := (unhide KK0).size; show _ ≤ _; omega
       have X1_FF := hide ((unhide F0).kept K1)
       have KK1 := hide ((unhide KK0).trans K1)
       have X1_h := hide B1
       clear e1 B1 K1 F0 KK0)
    | (refine wpAllocW (u8s (zs 64)) zero29 2 rfl rfl rfl ?_
       intro W2 b2 e2 B2 K2
       have o1 : Hid (b1 < b2) := by have := (unhide X1_h).lt; show _ < _; omega
       have Z2 : Hid (w.heap.size ≤ b2) := by have := (unhide KK1).size; show _ ≤ _; omega
       have X2_FF := hide ((unhide X1_FF).kept K2)
       have X2_h := hide ((unhide X1_h).kept K2 (by simp))
       have KK2 := hide ((unhide KK1).trans K2)
       have X2_z := hide B2
       clear e2 B2 K2 X1_FF X1_h KK1)
    | (refine wpAllocW (u8s (zs 64)) zero29 4 rfl rfl rfl ?_
       intro W3 b3 e3 B3 K3
       have o2 : Hid (b2 < b3) := by have := (unhide X2_z).lt; show _ < _; omega
       have Z3 : Hid (w.heap.size ≤ b3) := by have := (unhide KK2).size; show _ ≤ _; omega
       have X3_FF := hide ((unhide X2_FF).kept K3)
       have X3_h := hide ((unhide X2_h).kept K3 (by simp))
       have X3_z := hide ((unhide X2_z).kept K3 (by simp))
       have KK3 := hide ((unhide KK2).trans K3)
       have X3_s := hide B3
       have ce := fits_cell (unhide X3_h) 1 _ rfl
       have cs := fits_cell (unhide X3_h) 0 _ rfl
       clear e3 B3 K3 X2_FF X2_h X2_z KK2)
    | (refine wpLoadA row27 rfl (.tmp 1) rfl b1 0 rfl (hdC st ep) rfl (unhide X3_h).range ?_)
    | (refine wpLoadGl rfl rfl (unhide X3_FF) ?_)
    | (refine wpEqlA 91 91 guard27 (.tmp 7) (.tmp 8) rfl rfl (hdC st ep) (hdC 1 0) rfl rfl false ((equal27 _ _ _ _ _).trans (by rw [← isHd, hI])) ?_)
    | (go_at_call 68
       refine (isEpoch33 ep _).mono ?_
       rintro e We ⟨rfl, rfl⟩
       rw [hE])
    | (go_at_call 69
       refine (isStamp34 st _).mono ?_
       rintro e We ⟨rfl, rfl⟩
       rw [hS])
    | (go_at_call 70
       refine (putter35 b3 _ (unhide X3_s)).mono ?_
       rintro e W4 ⟨c1, c3, rfl, P4, K4, g1, g3⟩
       have L0 : Hid (Hw w W4 b3 c1 c3 b1 b2 [] st ep) := by
         have q1 := (unhide X3_s).lt
         have q2 := unhide Z2
         have q3 := unhide o1
         have q4 := unhide o2
         have q5 := (unhide KK3).size
         exact ⟨P4, (unhide X3_h).kept K4 (by simp), (unhide X3_z).kept K4 (by simp), (unhide KK3).trans K4, by omega, by omega, by omega, by omega, by omega, by omega, by omega⟩
       clear P4 K4 g1 g3 o1 o2 ce cs X3_s X3_h X3_z KK3 X3_FF)
    | (go_at_call 87
       refine (put47 1 (by omega) 179 ⟨by omega, by omega⟩ b3 c1 c3 [] _ (unhide L0).pw (by simp)).mono ?_
       rintro e W5 ⟨rfl, P5, K5⟩
       have L1 := hide ((unhide L0).put P5 K5)
       have ce := fits_cell (unhide L1).hd 1 _ rfl
       clear P5 K5 L0)
    | (go_at_call 87
       refine (put47 4 (by omega) ep ⟨by omega, by omega⟩ b3 c1 c3 _ _ (unhide L1).pw (by simp [be_len])).mono ?_
       rintro e W6 ⟨rfl, P6, K6⟩
       have L2 := hide ((unhide L1).put P6 K6)
       clear ce
       have cs := fits_cell (unhide L2).hd 0 _ rfl
       clear P6 K6 L1)
    | (go_at_call 87
       refine (put47 4 (by omega) st ⟨by omega, by omega⟩ b3 c1 c3 _ _ (unhide L2).pw (by simp [be_len])).mono ?_
       rintro e W7 ⟨rfl, P7, K7⟩
       have L3 := hide ((unhide L2).put P7 K7)
       clear cs P7 K7 L2)
    | (refine wpLoadA row29 rfl (.tmp 4) rfl b3 0 rfl (u8s (secOf (be 1 179 ++ be 4 ep ++ be 4 st))) lR (unhide L3).pw.sec.range ?_)
    | (refine wpStoreA row29 rfl (.tmp 2) (.tmp 34) rfl b2 0 (u8s (secOf (be 1 179 ++ be 4 ep ++ be 4 st))) rfl rfl lR (u8s_one _) ((unhide L3).res.there (by rw [lz]; omega)) ?_))
  have g4 := (unhide L3).res.put (vs := u8s (secOf (be 1 179 ++ be 4 ep ++ be 4 st))) (lz.trans lR.symm)
  exact bodyPost_ret (res9 _ _ _ _ _ rfl rfl lR g4) rfl ⟨rfl, (unhide L3).kept.setCells _ _ (by have := (unhide L3).nz; omega)⟩

theorem puthead9 (st ep : Int) (w : World) (hF : First w) : Calls Tryd.prog 38 #[aggV (hdC st ep)] w fun e w' => e = .returned (.tuple #[aggV (u8s (puthR st ep).1), .int .i64 (puthR st ep).2]) ∧ Kept [] w w' := by
  cases hI : isHd st ep with
  | true =>
    have e : puthR st ep = (zs 64, 0) := by simp [puthR, hI]
    rw [e]
    exact puth_first st ep w hF hI
  | false =>
    cases hE : isWrit ep with
    | false =>
      have e : puthR st ep = (zs 64, 2) := by simp [puthR, hI, hE]
      rw [e]
      exact puth_bad1 st ep w hF hI hE
    | true =>
      cases hS : isWrit st with
      | false =>
        have e : puthR st ep = (zs 64, 2) := by simp [puthR, hI, hS]
        rw [e]
        exact puth_bad2 st ep w hF hI hE hS
      | true =>
        have e : puthR st ep = (secOf (be 1 179 ++ be 4 ep ++ be 4 st), 0) := by simp [puthR, hI, hE, hS]
        rw [e]
        exact puth_yes st ep w hF hI hE hS

end Go.Proofs.YtmeajhdhiebkdaaDoor.Rc
