/-
  The walks of the document's PutHead and Half.
-/
import Derived.Test.YtkpkiibahfdomaaDoorRput
import Derived.Test.YtkpkiibahfdomaaDoorRmayh
namespace Go.Proofs.YtkpkiibahfdomaaDoor
open Go.RowKit

theorem res13 (w : World) (z : Nat) (vs : List Value) (tmps : Array Value) (h4 : tmps[2]?.getD undef = P0 z) (hl : vs.length = 64) (hb : Blk w z 29 vs) : (results Tryd.f13 tmps).run Tryd.prog w = .ok (aggV vs) w := by
  have := loadV row29 hl hb
  simp [results, Tryd.results13, h4, this, asAddr]
theorem res17 (w : World) (z : Nat) (vs : List Value) (tmps : Array Value) (h4 : tmps[4]?.getD undef = P0 z) (hl : vs.length = 64) (hb : Blk w z 29 vs) : (results Tryd.f17 tmps).run Tryd.prog w = .ok (aggV vs) w := by
  have := loadV row29 hl hb
  simp [results, Tryd.results17, h4, this, asAddr]
/-- What Half keeps while it goes: what it was given, the result's place, the sector. -/
structure Sw (w wr : World) (b rb zb T : Nat) (vs : List Value) (d : List Int) : Prop where
  sec : Blk wr b 29 (u8s (secOf d))
  rcd : Blk wr rb T vs
  res : Blk wr zb 29 (u8s (zs 64))
  kept : Kept [] w wr
  nb : w.heap.size ≤ b
  nz : w.heap.size ≤ zb
  n1 : rb ≠ b
  n3 : zb ≠ b
theorem Sw.put {w wr wn : World} {b rb zb T : Nat} {vs : List Value} {d d' : List Int} (h : Sw w wr b rb zb T vs d) (hp : Blk wn b 29 (u8s (secOf d'))) (hk : Kept [b] wr wn) : Sw w wn b rb zb T vs d' :=
  ⟨hp, h.rcd.kept hk (by simp [h.n1]), h.res.kept hk (by simp [h.n3]), h.kept.fresh hk (fun i hi hl => by have := h.nb; simp at hi; omega), h.nb, h.nz, h.n1, h.n3⟩
theorem Sw.byte {w wr wn : World} {b rb zb T : Nat} {vs : List Value} {d : List Int} (x : Int) (h : Sw w wr b rb zb T vs d) (hd : d.length < 64) (hp : Blk wn b 29 ((u8s (secOf d)).set d.length (.int .u8 x))) (hk : Kept [b] wr wn) : Sw w wn b rb zb T vs (d ++ [x]) := by
  rw [u8s_set, secOf_add d x hd] at hp
  exact h.put hp hk
theorem Sw.four {w wr wn : World} {b rb zb T : Nat} {vs : List Value} {d : List Int} {n : Int} {o : Nat} (h : Sw w wr b rb zb T vs d) (ho : d.length = o) (hd : o + 4 ≤ 64) (hp : Blk wn b 29 (u8s (putK n o 4 (secOf d)))) (hk : Kept [b] wr wn) : Sw w wn b rb zb T vs (d ++ be 4 n) := by
  subst ho
  rw [putK_sec n d hd] at hp
  exact h.put hp hk
theorem u8l {l : List Int} {n : Nat} (h : l.length = n) : (u8s l).length = n := by rw [u8s_len, h]

set_option maxHeartbeats 1000000 in
set_option maxRecDepth 100000 in
theorem rputh_first (st ep : Int) (w : World) (hI : isHd st ep = true) : Calls Tryd.prog 13 #[aggV (hdC st ep)] w fun e w' => e = .returned (aggV (u8s (zs 64))) ∧ Kept [] w w' := by
  have lz : (u8s (zs 64)).length = 64 := zl 64
  simp only [isHd, Bool.and_eq_true, decide_eq_true_eq] at hI
  obtain ⟨rfl, rfl⟩ := hI
  go_enter Tryd.func13, Tryd.ntmps13
  go_wp2_with (
    first
    | (refine wpBoxV rfl (.tmp 0) rfl (hdC 1 0) rfl ?_
       intro W1 b1 e1 B1 K1
       have BR := hide B1
       have KA := hide K1
       clear e1 B1 K1)
    | (refine wpAllocW (u8s (zs 64)) zero29 2 rfl rfl rfl ?_
       intro W2 b2 e2 B2 K2
       have BR2 := hide ((unhide BR).kept K2 (by simp))
       have BZ := hide B2
       have nz : Hid (w.heap.size ≤ b2) := by have := (unhide KA).size; show _ ≤ _; omega
       have hrz : Hid (b1 < b2) := by have := (unhide BR).lt; show _ < _; omega
       have KB := hide ((unhide KA).trans K2)
       clear e2 B2 K2 BR KA)
    | (refine wpAllocW (u8s (zs 64)) zero29 3 rfl rfl rfl ?_
       intro W3 b3 e3 B3 K3
       have L0 : Hid (Sw w W3 b3 b1 b2 27 (hdC 1 0) []) := by
         have q1 := (unhide BZ).lt
         have q2 := unhide nz
         have q3 := unhide hrz
         exact ⟨B3, (unhide BR2).kept K3 (by simp), (unhide BZ).kept K3 (by simp), (unhide KB).trans K3, by omega, by omega, by omega, by omega⟩
       clear e3 B3 K3 BR2 KB BZ nz hrz
       have cs := fits_cell (unhide L0).rcd 0 _ rfl
       have ce := fits_cell (unhide L0).rcd 1 _ rfl)
    | (refine wpLoadA row29 (by rfl) (.tmp 3) (by rfl) b3 0 (by rfl) (u8s (zs 64)) lz (unhide L0).sec.range ?_)
    | (refine wpStoreA row29 (by rfl) (.tmp 2) (.tmp 7) (by rfl) b2 0 (u8s (zs 64)) (by rfl) (by rfl) lz (u8s_one _) ((unhide L0).res.there (by rw [lz]; omega)) ?_))
  have g4 := (unhide L0).res.put (vs := u8s (zs 64)) rfl
  have nz := (unhide L0).nz
  exact bodyPost_ret (res13 _ _ _ _ rfl lz g4) rfl ⟨rfl, (unhide L0).kept.setCells _ _ (by omega)⟩

set_option maxHeartbeats 1000000 in
set_option maxRecDepth 100000 in
theorem rputh_yes (st ep : Int) (w : World) (hE : isWrit ep = true) (hS : isWrit st = true) : Calls Tryd.prog 13 #[aggV (hdC st ep)] w fun e w' => e = .returned (aggV (u8s (secOf ([179] ++ be 4 ep ++ be 4 st)))) ∧ Kept [] w w' := by
  have lz : (u8s (zs 64)).length = 64 := zl 64
  have lR : (u8s (secOf ([179] ++ be 4 ep ++ be 4 st))).length = 64 := u8l (secOf_len (by simp [be_len]))
  simp only [isWrit, decide_eq_true_eq] at hE hS
  obtain ⟨e1, e2⟩ := hE
  obtain ⟨s1, s2⟩ := hS
  have ez : (ep == 0) = false := by simp; omega
  go_enter Tryd.func13, Tryd.ntmps13
  go_wp2_with (
    first
    | (refine wpBoxV rfl (.tmp 0) rfl (hdC st ep) rfl ?_
       intro W1 b1 e1 B1 K1
       have BR := hide B1
       have KA := hide K1
       clear e1 B1 K1)
    | (refine wpAllocW (u8s (zs 64)) zero29 2 rfl rfl rfl ?_
       intro W2 b2 e2 B2 K2
       have BR2 := hide ((unhide BR).kept K2 (by simp))
       have BZ := hide B2
       have nz : Hid (w.heap.size ≤ b2) := by have := (unhide KA).size; show _ ≤ _; omega
       have hrz : Hid (b1 < b2) := by have := (unhide BR).lt; show _ < _; omega
       have KB := hide ((unhide KA).trans K2)
       clear e2 B2 K2 BR KA)
    | (refine wpAllocW (u8s (zs 64)) zero29 3 rfl rfl rfl ?_
       intro W3 b3 e3 B3 K3
       have L0 : Hid (Sw w W3 b3 b1 b2 27 (hdC st ep) []) := by
         have q1 := (unhide BZ).lt
         have q2 := unhide nz
         have q3 := unhide hrz
         exact ⟨B3, (unhide BR2).kept K3 (by simp), (unhide BZ).kept K3 (by simp), (unhide KB).trans K3, by omega, by omega, by omega, by omega⟩
       clear e3 B3 K3 BR2 KB BZ nz hrz
       have cs := fits_cell (unhide L0).rcd 0 _ rfl
       have ce := fits_cell (unhide L0).rcd 1 _ rfl)
    | (refine wpStore1 size5 (by rfl) (.tmp 8) (.const (.int .u8 179)) (by rfl) (by rfl) b3 0 .u8 179 29 (u8s (secOf [])) (by rfl) (by rfl) (unhide L0).sec (by kernel_rfl) ?_
       intro W4 B4 K4
       have L1 : Hid (Sw w W4 b3 b1 b2 27 (hdC st ep) [179]) := (unhide L0).byte 179 (by simp) B4 K4
       clear cs ce
       have cs := fits_cell (unhide L1).rcd 0 _ rfl
       have ce := fits_cell (unhide L1).rcd 1 _ rfl
       clear B4 K4 L0)
    | (go_at_call 37
       refine (four37 b3 1 ep ⟨by omega, by omega⟩ (secOf [179]) (secOf_len (by simp)) (by omega) _ (unhide L1).sec).mono ?_
       rintro e W5 ⟨rfl, B5, K5⟩
       have L2 : Hid (Sw w W5 b3 b1 b2 27 (hdC st ep) ([179] ++ be 4 ep)) := (unhide L1).four (o := 1) (by simp) (by omega) B5 K5
       clear cs ce
       have cs := fits_cell (unhide L2).rcd 0 _ rfl
       clear B5 K5 L1)
    | (go_at_call 37
       refine (four37 b3 5 st ⟨by omega, by omega⟩ (secOf ([179] ++ be 4 ep)) (secOf_len (by simp [be_len])) (by omega) _ (unhide L2).sec).mono ?_
       rintro e W6 ⟨rfl, B6, K6⟩
       have L3 : Hid (Sw w W6 b3 b1 b2 27 (hdC st ep) ([179] ++ be 4 ep ++ be 4 st)) := (unhide L2).four (by simp [be_len]) (by omega) B6 K6
       clear B6 K6 L2 cs)
    | (refine wpLoadA row29 (by rfl) (.tmp 3) (by rfl) b3 0 (by rfl) (u8s (secOf ([179] ++ be 4 ep ++ be 4 st))) lR (unhide L3).sec.range ?_)
    | (refine wpStoreA row29 (by rfl) (.tmp 2) (.tmp 15) (by rfl) b2 0 (u8s (secOf ([179] ++ be 4 ep ++ be 4 st))) (by rfl) (by rfl) lR (u8s_one _) ((unhide L3).res.there (by rw [lz]; omega)) ?_))
  have g4 := (unhide L3).res.put (vs := u8s (secOf ([179] ++ be 4 ep ++ be 4 st))) (by rw [lz, lR])
  have nz := (unhide L3).nz
  exact bodyPost_ret (res13 _ _ _ _ rfl lR g4) rfl ⟨rfl, (unhide L3).kept.setCells _ _ (by omega)⟩

theorem rputh13 (st ep : Int) (h : mayH st ep = true) (w : World) : Calls Tryd.prog 13 #[aggV (hdC st ep)] w fun e w' => e = .returned (aggV (u8s (puthR st ep).1)) ∧ Kept [] w w' := by
  by_cases hI : isHd st ep = true
  · have e : (puthR st ep).1 = zs 64 := by simp [puthR, hI]
    rw [e]
    exact rputh_first st ep w hI
  · have h2 : isWrit ep = true ∧ isWrit st = true := by simpa [mayH, hI] using h
    have e : (puthR st ep).1 = secOf ([179] ++ be 4 ep ++ be 4 st) := by simp [puthR, hI, h2.1, h2.2, be]
    rw [e]
    exact rputh_yes st ep w h2.1 h2.2

set_option maxHeartbeats 2000000 in
set_option maxRecDepth 100000 in
theorem half17 (r : Rec) (hr : isRec r = true) (hs : Byts 96 r.bd) (h : Nat) (hh : h < 2) (w : World) : Calls Tryd.prog 17 #[aggV (recC r), .int .i64 h] w fun e w' => e = .returned (aggV (u8s (laidR r h))) ∧ Kept [] w w' := by
  have lz : (u8s (zs 64)).length = 64 := zl 64
  simp only [isRec, isWrit, Bool.and_eq_true, decide_eq_true_eq] at hr
  obtain ⟨⟨n1, n2⟩, ⟨p1, p2⟩, ⟨e1, e2⟩, ⟨l1, l2⟩, s1, s2⟩ := hr
  have m1 : (177 + (h : Int)) % 256 = 177 + (h : Int) := by omega
  have m2 : (16 * r.nd + r.pg) % 256 = 16 * r.nd + r.pg := by omega
  have hHd : Hid (([177 + (h : Int), 16 * r.nd + r.pg] ++ be 4 r.ep ++ be 4 r.ls ++ be 4 r.ps) = laidH r h) := by show _ = _; simp [laidH, be, m1, m2]
  go_enter Tryd.func17, Tryd.ntmps17
  go_wp2_with (
    first
    | (refine wpBoxV rfl (.tmp 0) rfl (recC r) rfl ?_
       intro W1 b1 e1 B1 K1
       have BR := hide B1
       have KA := hide K1
       clear e1 B1 K1)
    | (refine wpAllocW (u8s (zs 64)) zero29 4 rfl rfl rfl ?_
       intro W2 b2 e2 B2 K2
       have BR2 := hide ((unhide BR).kept K2 (by simp))
       have BZ := hide B2
       have nz : Hid (w.heap.size ≤ b2) := by have := (unhide KA).size; show _ ≤ _; omega
       have hrz : Hid (b1 < b2) := by have := (unhide BR).lt; show _ < _; omega
       have KB := hide ((unhide KA).trans K2)
       clear e2 B2 K2 BR KA)
    | (refine wpAllocW (u8s (zs 64)) zero29 5 rfl rfl rfl ?_
       intro W3 b3 e3 B3 K3
       have L0 : Hid (Sw w W3 b3 b1 b2 25 (recC r) []) := by
         have q1 := (unhide BZ).lt
         have q2 := unhide nz
         have q3 := unhide hrz
         exact ⟨B3, (unhide BR2).kept K3 (by simp), (unhide BZ).kept K3 (by simp), (unhide KB).trans K3, by omega, by omega, by omega, by omega⟩
       clear e3 B3 K3 BR2 KB BZ nz hrz
       obtain ⟨x0, x1, x2, x3, x4⟩ := Rec.cells (unhide L0).rcd)
    | (refine wpStore1 size5 (by rfl) (.tmp 10) (.tmp 9) (by rfl) (by rfl) b3 0 .u8 (177 + (h : Int)) 29 (u8s (secOf [])) (by rfl) (by rfl) (unhide L0).sec (by kernel_rfl) ?_
       intro W4 B4 K4
       have L1 : Hid (Sw w W4 b3 b1 b2 25 (recC r) [177 + (h : Int)]) := (unhide L0).byte (177 + (h : Int)) (by simp) B4 K4
       clear x0 x1 x2 x3 x4
       obtain ⟨x0, x1, x2, x3, x4⟩ := Rec.cells (unhide L1).rcd
       clear B4 K4 L0)
    | (refine wpStore1 size5 (by rfl) (.tmp 18) (.tmp 17) (by rfl) (by rfl) b3 1 .u8 (16 * r.nd + r.pg) 29 (u8s (secOf [177 + (h : Int)])) (by rfl) (by rfl) (unhide L1).sec (by simp [u8s_len, secOf_len]) ?_
       intro W5 B5 K5
       have L2 : Hid (Sw w W5 b3 b1 b2 25 (recC r) [177 + (h : Int), 16 * r.nd + r.pg]) := (unhide L1).byte (16 * r.nd + r.pg) (by simp) B5 K5
       clear x0 x1 x2 x3 x4
       obtain ⟨x0, x1, x2, x3, x4⟩ := Rec.cells (unhide L2).rcd
       clear B5 K5 L1)
    | (go_at_call 37
       refine (four37 b3 2 r.ep ⟨by omega, by omega⟩ (secOf [177 + (h : Int), 16 * r.nd + r.pg]) (secOf_len (by simp)) (by omega) _ (unhide L2).sec).mono ?_
       rintro e W6 ⟨rfl, B6, K6⟩
       have L3 : Hid (Sw w W6 b3 b1 b2 25 (recC r) ([177 + (h : Int), 16 * r.nd + r.pg] ++ be 4 r.ep)) := (unhide L2).four (by simp) (by omega) B6 K6
       clear x0 x1 x2 x3 x4
       obtain ⟨x0, x1, x2, x3, x4⟩ := Rec.cells (unhide L3).rcd
       clear B6 K6 L2)
    | (go_at_call 37
       refine (four37 b3 6 r.ls ⟨by omega, by omega⟩ (secOf ([177 + (h : Int), 16 * r.nd + r.pg] ++ be 4 r.ep)) (secOf_len (by simp [be_len])) (by omega) _ (unhide L3).sec).mono ?_
       rintro e W7 ⟨rfl, B7, K7⟩
       have L4 : Hid (Sw w W7 b3 b1 b2 25 (recC r) ([177 + (h : Int), 16 * r.nd + r.pg] ++ be 4 r.ep ++ be 4 r.ls)) := (unhide L3).four (by simp [be_len]) (by omega) B7 K7
       clear x0 x1 x2 x3 x4
       obtain ⟨x0, x1, x2, x3, x4⟩ := Rec.cells (unhide L4).rcd
       clear B7 K7 L3)
    | (go_at_call 37
       refine (four37 b3 10 r.ps ⟨by omega, by omega⟩ (secOf ([177 + (h : Int), 16 * r.nd + r.pg] ++ be 4 r.ep ++ be 4 r.ls)) (secOf_len (by simp [be_len])) (by omega) _ (unhide L4).sec).mono ?_
       rintro e W8 ⟨rfl, B8, K8⟩
       have L5 : Hid (Sw w W8 b3 b1 b2 25 (recC r) ([177 + (h : Int), 16 * r.nd + r.pg] ++ be 4 r.ep ++ be 4 r.ls ++ be 4 r.ps)) := (unhide L4).four (by simp [be_len]) (by omega) B8 K8
       clear x0 x1 x2 x3 x4
       obtain ⟨x0, x1, x2, x3, x4⟩ := Rec.cells (unhide L5).rcd
       clear B8 K8 L4))
  rw [unhide hHd] at L5
  clear x0 x1 x2 x3 x4 hHd
  go_loopw [6] (fun i wr => ∃ k : Nat, k ≤ 48 ∧ i = .int .i64 k ∧ Hid (Sw w wr b3 b1 b2 25 (recC r) (laidH r h ++ (halfB h r.bd).take k))) (fun i _ => 48 - (intOf i).toNat)
  case atStart =>
    refine ⟨0, by omega, rfl, ?_⟩
    have := unhide L5
    simpa [Hid] using this
  case round =>
    clear L5
    obtain ⟨k, hk4, rfl, R⟩ := hrel
    have hl := (halfB_byts hh hs).len
    have hdl : (laidH r h ++ (halfB h r.bd).take k).length = 14 + k := by rw [List.length_append, laidH_len, List.length_take, hl]; omega
    by_cases hlt : k < 48
    · obtain ⟨x, hc⟩ : ∃ x, x = (halfB h r.bd)[k]'(by rw [hl]; omega) := ⟨_, rfl⟩
      have ht : Hid (laidH r h ++ (halfB h r.bd).take (k + 1) = (laidH r h ++ (halfB h r.bd).take k) ++ [x]) := by show _ = _; rw [hc, List.take_add_one, List.getElem?_eq_getElem (by omega), List.append_assoc]; rfl
      have q : wr.cell? ⟨b1, 5 + (48 * h + k), none⟩ = some (.int .u8 x) := by
        refine fits_cell (unhide R).rcd _ _ ?_
        rw [hc, Nat.mul_comm]
        have e : (recC r)[5 + (h * 48 + k)]? = (u8s r.bd)[h * 48 + k]? := by rw [Nat.add_comm]; rfl
        rw [e]
        simp [u8s, halfB]
      have e1 : ((14 : Int) + (k : Int)).toNat = 14 + k := by omega
      have e2 : ((48 : Int) * (h : Int) + (k : Int)).toNat = 48 * h + k := by omega
      have HD := hide hdl
      clear hc hl hdl
      go_wp2_with (
        refine wpStore1 size5 (by rfl) (.tmp 41) (.tmp 40) (by rfl) (by rfl) b3 (14 + k) .u8 x 29 (u8s (secOf (laidH r h ++ (halfB h r.bd).take k))) (by rfl) (by rfl) (unhide R).sec (by rw [u8s_len, secOf_len (by rw [unhide HD]; omega)]; simp; omega) ?_
        intro W9 B9 K9
        rw [← unhide HD] at B9
        have R9 : Hid (Sw w W9 b3 b1 b2 25 (recC r) (laidH r h ++ (halfB h r.bd).take (k + 1))) := by rw [unhide ht]; exact (unhide R).byte x (by rw [unhide HD]; omega) B9 K9
        clear B9 K9 R q)
      go_roundw
      case rel => exact ⟨k + 1, by omega, by go_num, R9⟩
      case measure => simp [intOf]; omega
    · obtain rfl : k = 48 := by omega
      have hT : (halfB h r.bd).take 48 = halfB h r.bd := List.take_of_length_le (by omega)
      rw [hT] at R
      have lR : (u8s (laidR r h)).length = 64 := u8l (laidR_byts hh hs).len
      clear hT hl hdl
      go_wp2_with (
        first
        | (refine wpLoadA row29 (by rfl) (.tmp 5) (by rfl) b3 0 (by rfl) (u8s (laidR r h)) lR (unhide R).sec.range ?_)
        | (refine wpStoreA row29 (by rfl) (.tmp 4) (.tmp 42) (by rfl) b2 0 (u8s (laidR r h)) (by rfl) (by rfl) lR (u8s_one _) ((unhide R).res.there (by rw [lz]; omega)) ?_))
      have g4 := (unhide R).res.put (vs := u8s (laidR r h)) (by rw [lz, lR])
      have nz := (unhide R).nz
      exact bodyPost_ret (res17 _ _ _ _ rfl lR g4) rfl ⟨rfl, (unhide R).kept.setCells _ _ (by omega)⟩

end Go.Proofs.YtkpkiibahfdomaaDoor
