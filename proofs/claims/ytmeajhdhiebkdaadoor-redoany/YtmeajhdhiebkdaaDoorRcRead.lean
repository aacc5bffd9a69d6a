/-
  The walk of read: what laid would have been given for a sector.
-/
import Derived.Test.YtmeajhdhiebkdaaDoorRcLaid
namespace Go.Proofs.YtmeajhdhiebkdaaDoor.Rc
set_option maxRecDepth 100000
open Go.RowKit

/-- The first k bytes of a half in their place. -/
def bodyK (s : List Int) (h k : Nat) : List Int := zs (h * 48) ++ (s.drop 14).take k ++ zs (96 - h * 48 - k)
/-- What a sector says, if it is that half. -/
def readR (s : List Int) (h : Nat) : Rec := ⟨numL s 1 1 / 16, numL s 2 4, numL s 6 4, numL s 1 1 % 16, numL s 10 4, bodyK s h 48⟩
theorem numL_nn (s : List Int) (o m : Nat) : 0 ≤ numL s o m := by simp [numL]
theorem numL_lt {s : List Int} (hs : Byts 64 s) (o m : Nat) (h : o + m ≤ 64) (hm : m ≤ 4) : numL s o m < 4294967296 := by
  have := numK_lt hs o m h
  have h8 : (256 : Nat) ^ m ≤ 256 ^ 4 := Nat.pow_le_pow_right (by decide) hm
  have h9 : (256 : Nat) ^ 4 = 4294967296 := by decide
  unfold numL; omega
theorem numL1 {s : List Int} (hs : Byts 64 s) (o : Nat) (h : o < 64) : numL s o 1 = s[o]'(by rw [hs.len]; omega) := by
  have := hs.byte (s[o]'(by rw [hs.len]; omega)) (List.getElem_mem _)
  simp [numL, numK, List.getD, hs.len, h]
  omega
theorem byte1 {s : List Int} (hs : Byts 64 s) (o : Nat) (h : o < 64) : 0 ≤ numL s o 1 ∧ numL s o 1 < 256 := by
  rw [numL1 hs o h]; exact hs.byte _ (List.getElem_mem _)
theorem bodyK_byts {s : List Int} (hs : Byts 64 s) {h k : Nat} (hh : h < 2) (hk : k ≤ 48) : Byts 96 (bodyK s h k) := by
  refine ⟨by simp [bodyK, zs, hs.len]; omega, fun x hx => ?_⟩
  simp only [bodyK, List.mem_append] at hx
  rcases hx with (hx | hx) | hx
  · exact (zs_byts _).byte x hx
  · exact hs.byte x (List.mem_of_mem_drop (List.mem_of_mem_take hx))
  · exact (zs_byts _).byte x hx
theorem readR_ok {s : List Int} (hs : Byts 64 s) {h : Nat} (hh : h < 2) : (readR s h).Ok := by
  have h1 := byte1 hs 1 (by omega)
  have h2 := numL_lt hs 2 4 (by omega) (by omega)
  have h3 := numL_lt hs 6 4 (by omega) (by omega)
  have h4 := numL_lt hs 10 4 (by omega) (by omega)
  have g2 := numL_nn s 2 4
  have g3 := numL_nn s 6 4
  have g4 := numL_nn s 10 4
  refine ⟨?_, ?_, ?_, ?_, ?_, bodyK_byts hs hh (by omega)⟩ <;> simp only [I64, readR] <;> omega
theorem bodyK_zero (s : List Int) {h : Nat} (hh : h < 2) : bodyK s h 0 = zs 96 := by
  obtain rfl | rfl : h = 0 ∨ h = 1 := by omega
  · simp [bodyK, zs]
  · simp [bodyK, zs]
theorem bodyK_step {s : List Int} (hs : Byts 64 s) {h k : Nat} (hh : h < 2) (hk : k < 48) : (bodyK s h k).set (h * 48 + k) (numL s (14 + k) 1) = bodyK s h (k + 1) := by
  have e : numL s (14 + k) 1 = s[14 + k]'(by rw [hs.len]; omega) := numL1 hs _ (by omega)
  rw [e]
  have ht : (s.drop 14).take (k + 1) = (s.drop 14).take k ++ [s[14 + k]'(by rw [hs.len]; omega)] := by
    rw [List.take_add_one, List.getElem?_drop, List.getElem?_eq_getElem (by rw [hs.len]; omega)]; rfl
  obtain ⟨m, hm⟩ : ∃ m, 96 - h * 48 - k = m + 1 := ⟨95 - h * 48 - k, by omega⟩
  have hm2 : 96 - h * 48 - (k + 1) = m := by omega
  have hlen : (zs (h * 48) ++ (s.drop 14).take k).length = h * 48 + k := by simp [zs, hs.len]; omega
  unfold bodyK
  rw [ht, hm, hm2, List.set_append_right _ _ (by omega), hlen]
  simp [zs, List.replicate_succ]
theorem recC_body (v : Rec) (j : Nat) (x : Int) : (recC v).set (5 + j) (.int .u8 x) = recC { v with bd := v.bd.set j x } := by
  rw [Nat.add_comm]; simp [recC, u8s, List.map_set]

theorem res40 (w : World) (z : Nat) (vs : List Value) (tmps : Array Value) (h4 : tmps[4]?.getD undef = P0 z) (hl : vs.length = 101) (hb : Blk w z 45 vs) : (results Tryd.f96 tmps).run Tryd.prog w = .ok (aggV vs) w := by
  have := loadV row25 hl hb
  simp [results, Tryd.results96, h4, this, asAddr]

/-- What read keeps while it goes: the taker, the record, the result's place. -/
structure Rw (w wr : World) (b c rb zb : Nat) (s : List Int) (o : Nat) (v : Rec) : Prop where
  tw : Tw wr b c s o
  rcd : Blk wr rb 45 (recC v)
  res : Blk wr zb 45 (recC zrec)
  kept : Kept [] w wr
  nc : w.heap.size ≤ c
  nr : w.heap.size ≤ rb
  nz : w.heap.size ≤ zb
  n1 : rb ≠ b
  n2 : rb ≠ c
  n3 : zb ≠ rb
  n4 : zb ≠ c
theorem Rw.take {w wr wn : World} {b c rb zb : Nat} {s : List Int} {o o' : Nat} {v : Rec} (h : Rw w wr b c rb zb s o v) (hp : Tw wn b c s o') (hk : Kept [c] wr wn) : Rw w wn b c rb zb s o' v :=
  ⟨hp, h.rcd.kept hk (by simp [h.n2]), h.res.kept hk (by simp [h.n4]), h.kept.fresh hk (fun i hi hl => by have := h.nc; simp at hi; omega), h.nc, h.nr, h.nz, h.n1, h.n2, h.n3, h.n4⟩
theorem Rw.put {w wr : World} {b c rb zb : Nat} {s : List Int} {o : Nat} {v v' : Rec} (h : Rw w wr b c rb zb s o v) (i : Nat) (u : Value) (he : (recC v).set i u = recC v') : Rw w (wr.setCell ⟨rb, i, none⟩ u) b c rb zb s o v' :=
  ⟨⟨h.tw.sec.set_other (Ne.symm h.n1) _, h.tw.at'.set_other (Ne.symm h.n2) _, h.tw.ne⟩, by have := h.rcd.set (i := i) u; rw [he] at this; exact this, h.res.set_other h.n3 _, h.kept.setCell (by simp; have := h.nr; omega) _, h.nc, h.nr, h.nz, h.n1, h.n2, h.n3, h.n4⟩
theorem Rw.cells {w wr : World} {b c rb zb : Nat} {s : List Int} {o : Nat} {v : Rec} (h : Rw w wr b c rb zb s o v) (i : Nat) (hi : i < 5) : (∃ u, wr.cell? ⟨rb, i, none⟩ = some u) ∧ wr.frozen? ⟨rb, i, none⟩ = false := by
  refine ⟨?_, h.rcd.frozen i⟩
  rw [h.rcd.cell, List.getElem?_eq_getElem (by simp [recC]; omega)]
  exact ⟨_, rfl⟩

set_option maxHeartbeats 1000000 in
set_option maxRecDepth 100000 in
theorem read40 (s : List Int) (hs : Byts 64 s) (h : Nat) (hh : h < 2) (w : World) : Calls Tryd.prog 96 #[aggV (u8s s), .int .i64 h] w fun e w' => e = .returned (aggV (recC (readR s h))) ∧ Kept [] w w' := by
  have hsu : (u8s s).length = 64 := by rw [u8s_len, hs.len]
  obtain ⟨y1, y2⟩ := byte1 hs 1 (by omega)
  go_enter Tryd.func96, Tryd.ntmps96
  go_wp2_with (
    first
    | (refine wpBoxV rfl (.tmp 0) rfl (u8s s) rfl ?_
       intro W1 sb er B1 K1
       have BS := hide B1
       have KA := hide K1
       clear er B1 K1)
    | (refine wpAllocW (recC zrec) zero25 4 rfl rfl rfl ?_
       intro W2 zb ez BZ1 K2
       have BS2 := hide ((unhide BS).kept K2 (by simp))
       have BZ := hide BZ1
       have nz : Hid (w.heap.size ≤ zb) := by have := (unhide KA).size; show _ ≤ _; omega
       have KB := hide ((unhide KA).trans K2)
       clear ez BZ1 K2 BS KA)
    | (refine wpAllocW (recC zrec) zero25 5 rfl rfl rfl ?_
       intro W3 rb eb BB1 K3
       have BS := hide ((unhide BS2).kept K3 (by simp))
       have BZ3 := hide ((unhide BZ).kept K3 (by simp))
       have BB := hide BB1
       have nb : Hid (zb < rb) := by have := (unhide BZ).lt; show _ < _; omega
       have KC := hide ((unhide KB).trans K3)
       clear eb BB1 K3 BS2 KB BZ)
    | (refine wpLoadA row29 rfl (.tmp 2) rfl sb 0 rfl (u8s s) hsu (unhide BS).range ?_)
    | (go_at_call 90
       refine (taker48 s _).mono ?_
       rintro e W4 ⟨b, c, rfl, P4, K4, g1, g3⟩
       have L0 : Hid (Rw w W4 b c rb zb s 0 zrec) := by
         have b1 := (unhide BB).lt
         have b2 := unhide nz
         have b4 := unhide nb
         have b5 := (unhide KC).size
         exact ⟨P4, (unhide BB).kept K4 (by simp), (unhide BZ3).kept K4 (by simp), (unhide KC).trans K4, by omega, by omega, by omega, by omega, by omega, by omega, by omega⟩
       clear P4 K4 g1 g3 BS BZ3 BB nb KC nz)
    | (go_at_call 94
       refine (take53 1 (by omega) b c s hs 0 (by omega) _ (unhide L0).tw).mono ?_
       rintro e W5 ⟨rfl, P5, K5⟩
       have L1 := hide ((unhide L0).take P5 K5)
       clear P5 K5 L0)
    | (go_at_call 94
       refine (take53 1 (by omega) b c s hs (0 + 1) (by omega) _ (unhide L1).tw).mono ?_
       rintro e W6 ⟨rfl, P6, K6⟩
       have L2 := hide ((unhide L1).take P6 K6)
       obtain ⟨⟨u0, x0⟩, f0⟩ := (unhide L2).cells 0 (by omega)
       obtain ⟨⟨u3, x3⟩, f3⟩ := (unhide L2).cells 3 (by omega)
       clear P6 K6 L1)
    | (go_at_call 94
       have L3 : Hid (Rw w _ b c rb zb s 2 ⟨numL s 1 1 / 16, 0, 0, numL s 1 1 % 16, 0, zs 96⟩) := ((unhide L2).put (v' := ⟨numL s 1 1 / 16, 0, 0, 0, 0, zs 96⟩) 0 (.int .i64 (numL s 1 1 / 16)) rfl).put 3 (.int .i64 (numL s 1 1 % 16)) rfl
       refine (take53 4 (by omega) b c s hs 2 (by omega) _ (unhide L3).tw).mono ?_
       rintro e W7 ⟨rfl, P7, K7⟩
       have L4 := hide ((unhide L3).take P7 K7)
       clear x0 x3 f0 f3
       obtain ⟨⟨u0, x0⟩, f0⟩ := (unhide L4).cells 1 (by omega)
       clear P7 K7 L2 L3)
    | (go_at_call 94
       have L5 : Hid (Rw w _ b c rb zb s 6 ⟨numL s 1 1 / 16, numL s 2 4, 0, numL s 1 1 % 16, 0, zs 96⟩) := (unhide L4).put 1 (.int .i64 (numL s 2 4)) rfl
       refine (take53 4 (by omega) b c s hs 6 (by omega) _ (unhide L5).tw).mono ?_
       rintro e W8 ⟨rfl, P8, K8⟩
       have L6 := hide ((unhide L5).take P8 K8)
       clear x0 f0
       obtain ⟨⟨u0, x0⟩, f0⟩ := (unhide L6).cells 2 (by omega)
       clear P8 K8 L4 L5)
    | (go_at_call 94
       have L7 : Hid (Rw w _ b c rb zb s 10 ⟨numL s 1 1 / 16, numL s 2 4, numL s 6 4, numL s 1 1 % 16, 0, zs 96⟩) := (unhide L6).put 2 (.int .i64 (numL s 6 4)) rfl
       refine (take53 4 (by omega) b c s hs 10 (by omega) _ (unhide L7).tw).mono ?_
       rintro e W9 ⟨rfl, P9, K9⟩
       have L8 := hide ((unhide L7).take P9 K9)
       clear x0 f0
       obtain ⟨⟨u0, x0⟩, f0⟩ := (unhide L8).cells 4 (by omega)
       clear P9 K9 L6 L7))
  go_loopw [30] (fun i wr => ∃ k : Nat, k ≤ 48 ∧ i = .int .i64 k ∧ Hid (Rw w wr b c rb zb s (14 + k) ⟨numL s 1 1 / 16, numL s 2 4, numL s 6 4, numL s 1 1 % 16, numL s 10 4, bodyK s h k⟩)) (fun i _ => 48 - (intOf i).toNat)
  case atStart =>
    refine ⟨0, by omega, rfl, ?_⟩
    rw [bodyK_zero s hh]
    exact (unhide L8).put 4 (.int .i64 (numL s 10 4)) rfl
  case round =>
    obtain ⟨k, hk4, rfl, R⟩ := hrel
    clear L8 x0 f0
    by_cases hlt : k < 48
    · have hx := byte1 hs (14 + k) (by omega)
      have ht := hide (bodyK_step hs hh hlt)
      obtain ⟨x, hc⟩ : ∃ x, x = numL s (14 + k) 1 := ⟨_, rfl⟩
      have hcall := hide (fun W hW => take53 1 (by omega) b c s hs (14 + k) (by omega) W hW)
      rw [← hc] at hx ht hcall
      clear hc
      have hbl := (bodyK_byts hs hh (k := k) (by omega)).len
      go_wp2_with (go_at_call 94
                   refine ((unhide hcall) _ (unhide R).tw).mono ?_
                   rintro e W6 ⟨rfl, P6, K6⟩
                   have L2 := hide ((unhide R).take P6 K6)
                   have f0 := (unhide L2).rcd.frozen (5 + (h * 48 + k))
                   have x0 : W6.cell? ⟨rb, 5 + (h * 48 + k), none⟩ = some (.int .u8 ((bodyK s h k)[h * 48 + k]'(by omega))) := by
                     refine fits_cell (unhide L2).rcd _ _ ?_
                     rw [Nat.add_comm]
                     simp [recC, u8s]
                   clear P6 K6)
      go_roundw
      case rel =>
        refine ⟨k + 1, by omega, by simp, ?_⟩
        rw [← unhide ht]
        have := (unhide L2).put (v' := ⟨numL s 1 1 / 16, numL s 2 4, numL s 6 4, numL s 1 1 % 16, numL s 10 4, (bodyK s h k).set (h * 48 + k) x⟩) (5 + (h * 48 + k)) (.int .u8 x) (recC_body _ _ _)
        exact this
      case measure => simp [intOf]; omega
    · obtain rfl : k = 48 := by omega
      have hl := recC_len (readR_ok hs hh).bd.len
      have L6 : Hid (Rw w wr b c rb zb s 62 (readR s h)) := R
      clear R
      go_wp2_with (
        first
        | (refine wpLoadA row25 rfl (.tmp 5) rfl rb 0 rfl (recC (readR s h)) hl (unhide L6).rcd.range ?_)
        | (refine wpStoreA row25 rfl (.tmp 4) (.tmp 43) rfl zb 0 (recC (readR s h)) rfl rfl hl (recC_one _) ((unhide L6).res.there (by rw [recC_len (zs_byts 96).len]; omega)) ?_))
      have g4 := (unhide L6).res.put (vs := recC (readR s h)) (by rw [hl, recC_len (zs_byts 96).len])
      exact bodyPost_ret (res40 _ _ _ _ rfl hl g4) rfl ⟨rfl, (unhide L6).kept.setCells _ _ (by have := (unhide L6).nz; omega)⟩
end Go.Proofs.YtmeajhdhiebkdaaDoor.Rc
