/-
  The walk of laid: a record's first or second sector.
-/
import Derived.Test.YtmeajhdhiebkdaaDoorRcClos
namespace Go.Proofs.YtmeajhdhiebkdaaDoor.Rc
set_option maxRecDepth 100000
open Go.RowKit

def halfB (h : Nat) (s : List Int) : List Int := (s.drop (h * 48)).take 48
def laidH (r : Rec) (h : Nat) : List Int := be 1 (177 + h) ++ be 1 (16 * r.nd + r.pg) ++ be 4 r.ep ++ be 4 r.ls ++ be 4 r.ps
def laidD (r : Rec) (h : Nat) : List Int := laidH r h ++ halfB h r.bd
/-- The sector. -/
def laidR (r : Rec) (h : Nat) : List Int := secOf (laidD r h)
theorem laidH_len (r : Rec) (h : Nat) : (laidH r h).length = 14 := by simp [laidH, be_len]
theorem be_byts (n : Int) : ∀ m, Byts m (be m n)
  | 0 => ⟨rfl, fun x hx => by simp [be] at hx⟩
  | m + 1 => ⟨be_len n _, fun x hx => by
    simp only [be, List.mem_cons] at hx
    rcases hx with rfl | hx
    · omega
    · exact (be_byts n m).byte x hx⟩
theorem halfB_byts {h : Nat} (hh : h < 2) {s : List Int} (hs : Byts 96 s) : Byts 48 (halfB h s) :=
  ⟨by simp [halfB, hs.len]; omega, fun x hx => hs.byte x (List.mem_of_mem_drop (List.mem_of_mem_take hx))⟩
theorem Byts.app {n m : Nat} {a b : List Int} (ha : Byts n a) (hb : Byts m b) : Byts (n + m) (a ++ b) :=
  ⟨by simp [ha.len, hb.len], fun x hx => (List.mem_append.1 hx).elim (ha.byte x) (hb.byte x)⟩
theorem secOf_byts {n : Nat} {d : List Int} (h : Byts n d) (hn : n ≤ 64) : Byts 64 (secOf d) := by
  have := h.app (zs_byts (64 - n))
  unfold secOf
  rw [h.len]
  rw [show n + (64 - n) = 64 by omega] at this
  exact this
theorem laidD_byts {r : Rec} {h : Nat} (hh : h < 2) (hs : Byts 96 r.bd) : Byts 62 (laidD r h) :=
  (((((be_byts _ 1).app (be_byts _ 1)).app (be_byts _ 4)).app (be_byts _ 4)).app (be_byts _ 4)).app (halfB_byts hh hs)
theorem laidR_byts {r : Rec} {h : Nat} (hh : h < 2) (hs : Byts 96 r.bd) : Byts 64 (laidR r h) := secOf_byts (laidD_byts hh hs) (by omega)
theorem be1 {x : Int} (h : 0 ≤ x ∧ x < 256) : be 1 x = [x] := by simp [be]; omega

theorem res32 (w : World) (z : Nat) (vs : List Value) (tmps : Array Value) (h4 : tmps[4]?.getD undef = P0 z) (hl : vs.length = 64) (hb : Blk w z 80 vs) : (results Tryd.f62 tmps).run Tryd.prog w = .ok (aggV vs) w := by
  have := loadV row29 hl hb
  simp [results, Tryd.results62, h4, this, asAddr]

/-- What laid keeps while it goes: the putter, the record, the result's place. -/
structure Lw (w wr : World) (b c1 c3 rb zb : Nat) (d : List Int) (r : Rec) : Prop where
  pw : Pw wr b c1 c3 d
  rcd : Blk wr rb 45 (recC r)
  res : Blk wr zb 80 (u8s (zs 64))
  kept : Kept [] w wr
  nb : w.heap.size ≤ b
  nc : w.heap.size ≤ c3
  nz : w.heap.size ≤ zb
  n1 : rb ≠ b
  n2 : rb ≠ c3
  n3 : zb ≠ b
  n4 : zb ≠ c3
theorem Lw.put {w wr wn : World} {b c1 c3 rb zb : Nat} {d d' : List Int} {r : Rec} (h : Lw w wr b c1 c3 rb zb d r) (hp : Pw wn b c1 c3 d') (hk : Kept [b, c3] wr wn) : Lw w wn b c1 c3 rb zb d' r :=
  ⟨hp, h.rcd.kept hk (by simp [h.n1, h.n2]), h.res.kept hk (by simp [h.n3, h.n4]), h.kept.fresh hk (fun i hi hl => by have := h.nb; have := h.nc; simp at hi; omega), h.nb, h.nc, h.nz, h.n1, h.n2, h.n3, h.n4⟩

set_option maxHeartbeats 1000000 in
set_option maxRecDepth 100000 in
theorem laid32 (r : Rec) (hr : isRec r = true) (hs : Byts 96 r.bd) (h : Nat) (hh : h < 2) (w : World) : Calls Tryd.prog 62 #[aggV (recC r), .int .i64 h] w fun e w' => e = .returned (aggV (u8s (laidR r h))) ∧ Kept [] w w' := by
  simp only [isRec, isWrit, Bool.and_eq_true, decide_eq_true_eq] at hr
  obtain ⟨⟨n1, n2⟩, ⟨p1, p2⟩, ⟨e1, e2⟩, ⟨l1, l2⟩, s1, s2⟩ := hr
  go_enter Tryd.func62, Tryd.ntmps62
  go_wp2_with (
    first
    | (refine wpBoxV rfl (.tmp 0) rfl (recC r) rfl ?_
       intro W1 rb er B1 K1
       have BR := hide B1
       have KA := hide K1
       clear er B1 K1)
    | (refine wpAllocW (u8s (zs 64)) zero29 4 rfl rfl rfl ?_
       intro W2 zb ez BZ1 K2
       have BR2 := hide ((unhide BR).kept K2 (by simp))
       have BZ := hide BZ1
       have nz : Hid (w.heap.size ≤ zb) := by have := (unhide KA).size; show _ ≤ _; omega
       have hrz : Hid (rb < zb) := by have := (unhide BR).lt; show _ < _; omega
       have KB := hide ((unhide KA).trans K2)
       clear ez BZ1 K2 BR KA)
    | (refine wpAllocW (u8s (zs 64)) zero29 5 rfl rfl rfl ?_
       intro W3 b eb BB1 K3
       have BR := hide ((unhide BR2).kept K3 (by simp))
       have BZ3 := hide ((unhide BZ).kept K3 (by simp))
       have BB := hide BB1
       have nb : Hid (zb < b) := by have := (unhide BZ).lt; show _ < _; omega
       have KC := hide ((unhide KB).trans K3)
       clear eb BB1 K3 BR2 KB BZ)
    | (go_at_call 70
       refine (putter35 b _ (unhide BB)).mono ?_
       rintro e W4 ⟨c1, c3, rfl, P4, K4, g1, g3⟩
       have L0 : Hid (Lw w W4 b c1 c3 rb zb [] r) := by
         have b1 := (unhide BB).lt
         have b2 := unhide nz
         have b3 := unhide hrz
         have b4 := unhide nb
         have b5 := (unhide KC).size
         exact ⟨P4, (unhide BR).kept K4 (by simp), (unhide BZ3).kept K4 (by simp), (unhide KC).trans K4, by omega, by omega, by omega, by omega, by omega, by omega, by omega⟩
       clear P4 K4 g1 g3 BR BZ3 BB nb KC nz hrz)
    | (go_at_call 87
       refine (put47 1 (by omega) (177 + h) ⟨by omega, by omega⟩ b c1 c3 [] _ (unhide L0).pw (by simp)).mono ?_
       rintro e W5 ⟨rfl, P5, K5⟩
       have L1 := hide ((unhide L0).put P5 K5)
       obtain ⟨x0, x1, x2, x3, x4⟩ := Rec.cells (unhide L1).rcd
       clear P5 K5 L0)
    | (go_at_call 87
       refine (put47 1 (by omega) (16 * r.nd + r.pg) ⟨by omega, by omega⟩ b c1 c3 _ _ (unhide L1).pw (by simp [be_len])).mono ?_
       rintro e W6 ⟨rfl, P6, K6⟩
       have L2 := hide ((unhide L1).put P6 K6)
       clear x0 x1 x2 x3 x4
       obtain ⟨x0, x1, x2, x3, x4⟩ := Rec.cells (unhide L2).rcd
       clear P6 K6 L1)
    | (go_at_call 87
       refine (put47 4 (by omega) r.ep ⟨by omega, by omega⟩ b c1 c3 _ _ (unhide L2).pw (by simp [be_len])).mono ?_
       rintro e W7 ⟨rfl, P7, K7⟩
       have L3 := hide ((unhide L2).put P7 K7)
       clear x0 x1 x2 x3 x4
       obtain ⟨x0, x1, x2, x3, x4⟩ := Rec.cells (unhide L3).rcd
       clear P7 K7 L2)
    | (go_at_call 87
       refine (put47 4 (by omega) r.ls ⟨by omega, by omega⟩ b c1 c3 _ _ (unhide L3).pw (by simp [be_len])).mono ?_
       rintro e W8 ⟨rfl, P8, K8⟩
       have L4 := hide ((unhide L3).put P8 K8)
       clear x0 x1 x2 x3 x4
       obtain ⟨x0, x1, x2, x3, x4⟩ := Rec.cells (unhide L4).rcd
       clear P8 K8 L3)
    | (go_at_call 87
       refine (put47 4 (by omega) r.ps ⟨by omega, by omega⟩ b c1 c3 _ _ (unhide L4).pw (by simp [be_len])).mono ?_
       rintro e W9 ⟨rfl, P9, K9⟩
       have L5 := hide ((unhide L4).put P9 K9)
       clear x0 x1 x2 x3 x4
       clear P9 K9 L4))
  go_loopw [33] (fun i wr => ∃ k : Nat, k ≤ 48 ∧ i = .int .i64 k ∧ Hid (Lw w wr b c1 c3 rb zb (laidH r h ++ (halfB h r.bd).take k) r)) (fun i _ => 48 - (intOf i).toNat)
  case atStart =>
    refine ⟨0, by omega, rfl, ?_⟩
    have := unhide L5
    simpa [laidH, Hid] using this
  case round =>
    obtain ⟨k, hk4, rfl, R⟩ := hrel
    by_cases hlt : k < 48
    · have hx := (halfB_byts hh hs).byte ((halfB h r.bd)[k]'(by rw [(halfB_byts hh hs).len]; omega)) (List.getElem_mem _)
      have hl := (halfB_byts hh hs).len
      obtain ⟨x, hc⟩ : ∃ x, x = (halfB h r.bd)[k]'(by rw [hl]; omega) := ⟨_, rfl⟩
      rw [← hc] at hx
      have ht : (halfB h r.bd).take (k + 1) = (halfB h r.bd).take k ++ [x] := by rw [hc, List.take_add_one, List.getElem?_eq_getElem (by omega)]; rfl
      have q : wr.cell? ⟨rb, 5 + (h * 48 + k), none⟩ = some (.int .u8 x) := by
        refine fits_cell (unhide R).rcd _ _ ?_
        rw [hc]
        have e : (recC r)[5 + (h * 48 + k)]? = (u8s r.bd)[h * 48 + k]? := by rw [Nat.add_comm]; rfl
        rw [e]
        simp [u8s, halfB]
      have HT := hide ht
      clear ht hc hl
      go_wp2_with (go_at_call 87
                   refine (put47 1 (by omega) x ⟨by omega, by omega⟩ b c1 c3 _ _ (unhide R).pw (by simp [laidH_len]; omega)).mono ?_
                   rintro e W6 ⟨rfl, P6, K6⟩
                   rw [be1 hx] at P6
                   have L2 := hide ((unhide R).put P6 K6)
                   clear P6 K6)
      go_roundw
      case rel =>
        refine ⟨k + 1, by omega, by simp, ?_⟩
        rw [unhide HT, ← List.append_assoc]
        exact L2
      case measure => simp [intOf]; omega
    · obtain rfl : k = 48 := by omega
      have hl := (laidR_byts (r := r) hh hs).len
      have L6 : Hid (Lw w wr b c1 c3 rb zb (laidD r h) r) := by
        have := unhide R
        rw [List.take_of_length_le (by rw [(halfB_byts hh hs).len]; omega)] at this
        exact this
      clear R L5
      go_wp2_with (
        first
        | (refine wpLoadA row29 rfl (.tmp 5) rfl b 0 rfl (u8s (laidR r h)) (by rw [u8s_len, hl]) (unhide L6).pw.sec.range ?_)
        | (refine wpStoreA row29 rfl (.tmp 4) (.tmp 47) rfl zb 0 (u8s (laidR r h)) rfl rfl (by rw [u8s_len, hl]) (u8s_one _) ((unhide L6).res.there (by simp [u8s_len, zs])) ?_))
      have g4 := (unhide L6).res.put (vs := u8s (laidR r h)) (by simp [u8s_len, zs, hl])
      exact bodyPost_ret (res32 _ _ _ _ rfl (by rw [u8s_len, hl]) g4) rfl ⟨rfl, (unhide L6).kept.setCells _ _ (by have := (unhide L6).nz; omega)⟩
end Go.Proofs.YtmeajhdhiebkdaaDoor.Rc
