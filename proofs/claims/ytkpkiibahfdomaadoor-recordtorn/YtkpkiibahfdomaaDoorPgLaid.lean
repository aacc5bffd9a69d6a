/-
  The walk of laid: the sector that says a stamp, with its half of the body.
-/
import Derived.Test.YtkpkiibahfdomaaDoorPgSmall
namespace Go.Proofs.YtkpkiibahfdomaaDoor.Pg
open Go.RowKit

/-- The last k bytes of a number, into the places 5, 4, .. -/
def putPsn (n : Int) : Nat → List Int → List Int
  | 0, l => l
  | k + 1, l => (putPsn n k l).set (5 - k) (n / 256 ^ k % 256)
theorem putPsn_len (n : Int) (l : List Int) : ∀ k, (putPsn n k l).length = l.length
  | 0 => rfl
  | k + 1 => by simp [putPsn, putPsn_len n l k]
def laidBase (p h : Int) : List Int := ((zs 64).set 0 ((161 + h) % 256)).set 1 (p % 256)
/-- The sector. -/
def laidL (p h n : Int) (s : List Int) : List Int := [(161 + h) % 256, p % 256, n / 16777216 % 256, n / 65536 % 256, n / 256 % 256, n % 256] ++ s ++ zs 10
theorem laidL_byts {p h n : Int} {s : List Int} (hs : Byts 48 s) : Byts 64 (laidL p h n s) := by
  refine ⟨by simp [laidL, hs.len, zs], fun x hx => ?_⟩
  simp only [laidL, List.mem_append, List.mem_cons, List.mem_nil_iff, or_false] at hx
  rcases hx with ((rfl | rfl | rfl | rfl | rfl | rfl) | hx) | hx
  iterate 6 omega
  · exact hs.byte x hx
  · exact (zs_byts 10).byte x hx

theorem u8s_set (l : List Int) (i : Nat) (x : Int) : (u8s l).set i (.int .u8 x) = u8s (l.set i x) := by simp [u8s, List.map_set]

theorem keptBelow {X : List Nat} {a w w' : World} {B : Nat} (h : Kept X a w) (hb : Below B w w') (hB : a.heap.size ≤ B) : Kept X a w' :=
  ⟨hb.os.trans h.os, hb.tape.trans h.tape, hb.output.trans h.output, Nat.le_trans h.size hb.size, fun i hi hx => (hb.block i (by omega)).trans (h.block i hi hx)⟩

theorem splice_laid (p h n : Int) (s : List Int) (hs : s.length = 48) : splice (u8s (putPsn n 4 (laidBase p h))) 6 (u8s s) = u8s (laidL p h n s) := by
  have e : putPsn n 4 (laidBase p h) = [(161 + h) % 256, p % 256, n / 16777216 % 256, n / 65536 % 256, n / 256 % 256, n % 256] ++ zs 58 := by
    have e0 : n / 256 ^ 0 % 256 = n % 256 := by simp
    have e1 : n / 256 ^ 1 % 256 = n / 256 % 256 := by simp
    have e2 : n / 256 ^ 2 % 256 = n / 65536 % 256 := by simp
    have e3 : n / 256 ^ 3 % 256 = n / 16777216 % 256 := by simp
    show (((((laidBase p h).set 5 _).set 4 _).set 3 _).set 2 _) = _
    rw [e0, e1, e2, e3]
    rfl
  rw [e]
  unfold splice
  rw [u8s_len, hs, u8s_app]
  simp only [laidL, u8s_app]
  rfl

theorem loadV {w : World} {b T n : Nat} {vs : List Value} (hT : Row T n) (hl : vs.length = n) (h : Blk w b T vs) : (loadVar T ⟨b, 0, none⟩).run Tryd.prog w = .ok (aggV vs) w := by
  obtain ⟨d, h1, h2, h3⟩ := hT
  exact run_loadVar_mid (P := Tryd.prog) w b 0 T vs d h.range h1 h2 (by rw [hl]; exact h3)
theorem res44 (w : World) (z : Nat) (vs : List Value) (tmps : Array Value) (h4 : tmps[4]?.getD undef = P0 z) (hl : vs.length = 64) (hb : Blk w z 29 vs) : (results Tryd.f44 tmps).run Tryd.prog w = .ok (aggV vs) w := by
  have := loadV row29 hl hb
  simp [results, Tryd.results44, h4, this, asAddr]

/-- A world of which is known only what is said of it. -/
theorem wpAllocV {ops : Array Oper} {rest : List Oper} {op : Oper} {a : Act} {w : World} {Q : Exit → Act → World → Prop} {T : Nat} (vs : List Value) (hr : ∀ w : World, (Instr.alloc T true (.tuple #[])).run Tryd.prog w = .ok (P0 w.heap.size) (w.alloc (.cells vs.toArray T))) (d : Nat) (_ : op.dst = some d) (hgd : op.guard = none) (ho : op.op = .alloc T)
    (h : ∀ W, W = w.alloc (.cells vs.toArray T) → wpList Tryd.prog ops Q rest (a.put op.dst (P0 w.heap.size)) W) : wpList Tryd.prog ops Q (op :: rest) a w :=
  wpAllocA vs hr hgd ho (h _ rfl)

set_option maxHeartbeats 1000000 in
set_option maxRecDepth 100000 in
theorem laid26 (p h n : Int) (s : List Int) (hs : Byts 48 s) (hh : h = 0 ∨ h = 1) (w : World) : Calls Tryd.prog 44 #[aggV (stC p h n), aggV (u8s s)] w fun e w' => e = .returned (aggV (u8s (laidL p h n s))) ∧ Kept [] w w' := by
  have hw : IntKind.u8.wrap (161 + h) = (161 + h) % 256 := by rw [IntKind.wrap_u8]
  go_enter Tryd.func44, Tryd.ntmps44
  go_wp2_with (
    first
    | (refine wpBoxA rfl (.tmp 0) rfl (stC p h n) rfl ?_)
    | (refine wpBoxA rfl (.tmp 1) rfl (u8s s) rfl ?_)
    | (refine wpAllocV (u8s (zs 64)) zero29 5 rfl rfl rfl ?_
       intro W eW
       have b0 : Blk W w.heap.size 63 (stC p h n) := by rw [eW]; exact (((Blk.new' rfl).alloc _).alloc _).alloc _
       have b1 : Blk W (w.heap.size + 1) 84 (u8s s) := by rw [eW]; exact ((Blk.new' (by simp)).alloc _).alloc _
       have b2 : Blk W (w.heap.size + 1 + 1) 29 (u8s (zs 64)) := by rw [eW]; exact (Blk.new' (by simp)).alloc _
       have b3 : Blk W (w.heap.size + 1 + 1 + 1) 29 (u8s (zs 64)) := by rw [eW]; exact Blk.new' (by simp)
       have hk : Hid (Kept [] w W) := by rw [eW]; exact ((((Kept.refl _ _).alloc _).alloc _).alloc _).alloc _
       clear eW
       have c1 := fits_cell b0 1 (.int .i64 h) rfl
       have c0 := fits_cell b0 0 (.int .i64 p) rfl
       have d0 := fits_cell b3 0 (.int .u8 0) rfl
       have d1 := fits_cell b3 1 (.int .u8 0) rfl
       have f0 := b3.frozen 0
       have f1 := b3.frozen 1
       have B0 := hide b0
       have B1 := hide b1
       have B2 := hide b2
       have B3 := hide b3
       clear b0 b1 b2 b3)
    | (refine wpAllocA (u8s (zs 64)) zero29 rfl rfl ?_))
  go_loopw [6] (fun i wr => ∃ k : Nat, k ≤ 4 ∧ i = .int .i64 (5 - k) ∧ Hid (Blk wr w.heap.size 63 (stC p h (n / 256 ^ k))) ∧ Hid (Blk wr (w.heap.size + 1) 84 (u8s s)) ∧ Hid (Blk wr (w.heap.size + 1 + 1) 29 (u8s (zs 64))) ∧ Hid (Blk wr (w.heap.size + 1 + 1 + 1) 29 (u8s (putPsn n k (laidBase p h)))) ∧ Hid (Kept [] w wr)) (fun i _ => (intOf i).toNat)
  case atStart =>
    refine ⟨0, by omega, rfl, ?_, ?_, ?_, ?_, ?_⟩
    · have := ((unhide B0).set_other (b' := w.heap.size + 1 + 1 + 1) (i := 0) (by omega) (.int .u8 ((161 + h) % 256))).set_other (b' := w.heap.size + 1 + 1 + 1) (i := 1) (by omega) (.int .u8 (p % 256))
      simpa [Hid] using this
    · exact ((unhide B1).set_other (by omega) _).set_other (by omega) _
    · exact ((unhide B2).set_other (by omega) _).set_other (by omega) _
    · have := ((unhide B3).set (i := 0) (.int .u8 ((161 + h) % 256))).set (i := 1) (.int .u8 (p % 256))
      rw [u8s_set, u8s_set] at this
      exact this
    · exact ((unhide hk).setCell (by simp; omega) _).setCell (by simp; omega) _
  case round =>
    obtain ⟨k, hk4, rfl, R0, R1, R2, R3, RK⟩ := hrel
    have hlen : (putPsn n k (laidBase p h)).length = 64 := by rw [putPsn_len]; simp [laidBase, zs]
    by_cases hlt : k < 4
    · have q2 := fits_cell (unhide R0) 2 (.int .i64 (n / 256 ^ k)) rfl
      have z2 := (unhide R0).frozen 2
      have e5 : (5 - (k : Int)).toNat = 5 - k := by omega
      have q5 : wr.cell? ⟨w.heap.size + 1 + 1 + 1, 5 - k, none⟩ = some (.int .u8 ((putPsn n k (laidBase p h))[5 - k]'(by omega))) := fits_cell (unhide R3) (5 - k) _ (by simp [u8s])
      have z5 := (unhide R3).frozen (5 - k)
      go_wp2_with fail
      go_roundw
      case rel =>
        refine ⟨k + 1, by omega, by go_num, ?_, ?_, ?_, ?_, ?_⟩
        · have := ((unhide R0).set_other (b' := w.heap.size + 1 + 1 + 1) (i := 5 - k) (by omega) (.int .u8 (n / 256 ^ k % 256))).set (i := 2) (.int .i64 (n / 256 ^ k / 256))
          have e : n / 256 ^ (k + 1) = n / 256 ^ k / 256 := by rw [Int.pow_succ, ← Int.ediv_ediv_of_nonneg (Int.pow_nonneg (by omega))]
          rw [e]
          exact this
        · exact ((unhide R1).set_other (by omega) _).set_other (by omega) _
        · exact ((unhide R2).set_other (by omega) _).set_other (by omega) _
        · have := ((unhide R3).set (i := 5 - k) (.int .u8 (n / 256 ^ k % 256))).set_other (b' := w.heap.size) (i := 2) (by omega) (.int .i64 (n / 256 ^ k / 256))
          rw [u8s_set] at this
          exact this
        · exact ((unhide RK).setCell (by simp; omega) _).setCell (by simp) _
      case measure => simp [intOf]; omega
    · obtain rfl : k = 4 := by omega
      have hsl : (u8s s).length = 48 := by rw [u8s_len, hs.len]
      have hkl := (unhide RK).size
      go_wp2_with fail
      go_region_law (refine step_copy_splice rfl (.tmp 29) (.tmp 30) 90 90 rfl 5 Tryd.underlying90 Tryd.size5 (some ⟨w.heap.size + 1 + 1 + 1, 6, none⟩) (some ⟨w.heap.size + 1, 0, none⟩) 58 58 48 48 rfl rfl (w.heap.size + 1 + 1 + 1) 6 (u8s (putPsn n 4 (laidBase p h))) 29 (unhide R3) (u8s s) hsl (fun _ => ⟨rfl, _, rfl, fun j v hj => by rw [Addr.add_mid]; exact (unhide R1).range j v hj⟩) (by rw [hsl, u8s_len, hlen]; omega) (u8s_one _) (w.heap.size + 1 + 1 + 1) wr.drew (Below.refl _ _) (Nat.le_refl _) ?_; intro w4 hg4 hb4)
      have g3 : Hid (Blk w4 (w.heap.size + 1 + 1 + 1) 29 (u8s (laidL p h n s))) := by
        have := unhide hg4
        rw [splice_laid p h n s hs.len] at this
        exact this
      have g2 : Hid (Blk w4 (w.heap.size + 1 + 1) 29 (u8s (zs 64))) := by
        show _ = _
        rw [hb4.block _ (by omega)]
        exact unhide R2
      have gk : Hid (Kept [] w w4) := keptBelow (unhide RK).drew hb4 (by omega)
      have hl := (laidL_byts (p := p) (h := h) (n := n) hs).len
      clear hg4 hb4 R0 R1 R2 R3 RK B0 B1 B2 B3 hk c1 c0 d0 d1 f0 f1
      go_wp2_with (
        first
        | (refine wpLoadA row29 rfl (.tmp 5) rfl (w.heap.size + 1 + 1 + 1) 0 rfl (u8s (laidL p h n s)) (by rw [u8s_len, hl]) (unhide g3).range ?_)
        | (refine wpStoreA row29 rfl (.tmp 4) (.tmp 32) rfl (w.heap.size + 1 + 1) 0 (u8s (laidL p h n s)) rfl rfl (by rw [u8s_len, hl]) (u8s_one _) ((unhide g2).there (by simp [u8s_len, zs])) ?_))
      have g4 := (unhide g2).put (vs := u8s (laidL p h n s)) (by simp [u8s_len, zs, hl])
      exact bodyPost_ret (res44 _ _ _ _ rfl (by rw [u8s_len, hl]) g4) rfl ⟨rfl, (unhide gk).setCells _ _ (by omega)⟩

end Go.Proofs.YtkpkiibahfdomaaDoor.Pg
