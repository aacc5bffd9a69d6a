/-
  The walks of page's small functions: isPage, isWritten, isVersion, isStamp, isPlain, Better; and the law's num and version. The walk of laid: the sector that says a stamp, with its half of the body. The walks of psn, halfOf and between: what two sectors would say. The walk of between: the one version that can have two sectors. The walk of Put: a version's two sectors.
-/
import Derived.Test.YtkpkiibahfdomaaDoorKit
import Derived.Laws.BitsAllLaws
import Derived.Test.YtkpkiibahfdomaaDoorPref
import Derived.BigFrame

namespace Go.Proofs.YtkpkiibahfdomaaDoor.Pg
open Go.RowKit

def isPageB (p : Int) : Bool := decide (0 ≤ p ∧ p < 16)
def isWrit (n : Int) : Bool := decide (1 ≤ n ∧ n ≤ 2147483647)
def isVer (n : Int) (s : List Int) : Bool := if n = 0 then decide (s = zs 96) else isWrit n

theorem ret_bool {a b : Bool} (h : a = true ↔ b = true) : Ending.returned (Value.bool a) = .returned (.bool b) := by rw [Bool.eq_iff_iff.2 h]

theorem isPage24 (p : Int) (w : World) : Calls Tryd.prog 49 #[.int .i64 p] w fun e w' => e = .returned (.bool (isPageB p)) ∧ w' = w := by
  by_cases h1 : 0 ≤ p
  · go_enter Tryd.func49, Tryd.ntmps49
    go_wp2_with fail
    go_ret
    exact ⟨ret_bool (by simp [isPageB]; omega), rfl⟩
  · go_enter Tryd.func49, Tryd.ntmps49
    go_wp2_with fail
    go_ret
    exact ⟨ret_bool (by simp [isPageB]; omega), rfl⟩

theorem isWritten38 (n : Int) (w : World) : Calls Tryd.prog 50 #[.int .i64 n] w fun e w' => e = .returned (.bool (isWrit n)) ∧ w' = w := by
  by_cases h1 : 1 ≤ n
  · go_enter Tryd.func50, Tryd.ntmps50
    go_wp2_with fail
    go_ret
    exact ⟨ret_bool (by simp [isWrit]; omega), rfl⟩
  · go_enter Tryd.func50, Tryd.ntmps50
    go_wp2_with fail
    go_ret
    exact ⟨ret_bool (by simp [isWrit]; omega), rfl⟩

theorem num10 (n : Int) (w : World) : Calls Tryd.prog 11 #[.int .i64 n] w fun e w' => e = .returned (.int .i64 n) ∧ w' = w := by
  go_enter Tryd.func11, Tryd.ntmps11
  go_wp2_with fail
  go_ret
  exact ⟨rfl, rfl⟩

theorem fits_cell {w : World} {b T : Nat} {vs : List Value} (h : Blk w b T vs) (i : Nat) (v : Value) (hi : vs[i]? = some v) : w.cell? ⟨b, i, none⟩ = some v := by rw [h.cell]; exact hi

theorem isVersion25 (n : Int) (s : List Int) (hs : s.length = 96) (w : World) : Calls Tryd.prog 54 #[aggV (verC n s)] w fun e w' => e = .returned (.bool (isVer n s)) ∧ Kept [] w w' := by
  have hb : Blk (w.alloc (.cells (verC n s).toArray 61)) w.heap.size 61 (verC n s) := Blk.new w 61 _
  have hc : (w.alloc (.cells (verC n s).toArray 61)).cell? ⟨w.heap.size, 0, none⟩ = some (.int .i64 n) := fits_cell hb 0 _ rfl
  have hr : Hid ((w.alloc (.cells (verC n s).toArray 61)).rangeAt w.heap.size 1 (u8s s)) := hb.rangeIn _ (fun j _ => by simp [verC, Nat.add_comm])
  have hk := hide ((Kept.refl [] w).alloc (.cells (verC n s).toArray 61))
  have hw := hide (isWritten38 n (w.alloc (.cells (verC n s).toArray 61)))
  have hB := hide hb
  clear hb
  by_cases h0 : n = 0
  · subst h0
    go_enter Tryd.func54, Tryd.ntmps54
    go_wp2_with (first | (refine wpBoxA rfl (.tmp 0) rfl (verC 0 s) rfl ?_) | (refine wpLoadA row23 rfl (.tmp 6) rfl w.heap.size 1 rfl (u8s s) (by rw [u8s_len, hs]) (unhide hr) ?_) | (refine wpBuildZ (u8s (zs 96)) build23 rfl rfl ?_) | (refine wpEqlA 23 23 guard23 (.tmp 7) (.tmp 8) rfl rfl (u8s s) (u8s (zs 96)) rfl rfl _ (equal23 _ _ _ hs (zs_byts 96).len) ?_))
    go_ret
    exact ⟨by simp [isVer], unhide hk⟩
  · go_enter Tryd.func54, Tryd.ntmps54
    go_wp2_with (first | (refine wpBoxA rfl (.tmp 0) rfl (verC n s) rfl ?_) | (go_at_call 50; refine (unhide hw).mono ?_; rintro e w' ⟨rfl, rfl⟩))
    go_ret
    exact ⟨by simp [isVer, h0], unhide hk⟩

set_option maxHeartbeats 1000000 in
theorem isStamp30 (p h n : Int) (w : World) : Calls Tryd.prog 43 #[aggV (stC p h n)] w fun e w' => e = .returned (.bool (isPageB p && (decide (h = 0 ∨ h = 1) && isWrit n))) ∧ Kept [] w w' := by
  have hb : Blk (w.alloc (.cells (stC p h n).toArray 63)) w.heap.size 63 (stC p h n) := Blk.new w 63 _
  have c0 : (w.alloc (.cells (stC p h n).toArray 63)).cell? ⟨w.heap.size, 0, none⟩ = some (.int .i64 p) := fits_cell hb 0 _ rfl
  have c1 : (w.alloc (.cells (stC p h n).toArray 63)).cell? ⟨w.heap.size, 1, none⟩ = some (.int .i64 h) := fits_cell hb 1 _ rfl
  have c2 : (w.alloc (.cells (stC p h n).toArray 63)).cell? ⟨w.heap.size, 2, none⟩ = some (.int .i64 n) := fits_cell hb 2 _ rfl
  have hk := hide ((Kept.refl [] w).alloc (.cells (stC p h n).toArray 63))
  have hp := hide (isPage24 p (w.alloc (.cells (stC p h n).toArray 63)))
  have hw := hide (isWritten38 n (w.alloc (.cells (stC p h n).toArray 63)))
  clear hb
  cases hP : isPageB p with
  | false =>
    rw [hP] at hp
    clear hP
    go_enter Tryd.func43, Tryd.ntmps43
    go_wp2_with (first | (refine wpBoxA rfl (.tmp 0) rfl (stC p h n) rfl ?_) | (go_at_call 49; refine (unhide hp).mono ?_; rintro e w' ⟨rfl, rfl⟩))
    go_ret
    exact ⟨by simp, unhide hk⟩
  | true =>
    rw [hP] at hp
    clear hP
    by_cases h0 : h = 0
    · subst h0
      go_enter Tryd.func43, Tryd.ntmps43
      go_wp2_with (first | (refine wpBoxA rfl (.tmp 0) rfl (stC p 0 n) rfl ?_) | (go_at_call 49; refine (unhide hp).mono ?_; rintro e w' ⟨rfl, rfl⟩) | (go_at_call 50; refine (unhide hw).mono ?_; rintro e w' ⟨rfl, rfl⟩))
      go_ret
      exact ⟨by simp, unhide hk⟩
    · by_cases h1 : h = 1
      · subst h1
        go_enter Tryd.func43, Tryd.ntmps43
        go_wp2_with (first | (refine wpBoxA rfl (.tmp 0) rfl (stC p 1 n) rfl ?_) | (go_at_call 49; refine (unhide hp).mono ?_; rintro e w' ⟨rfl, rfl⟩) | (go_at_call 50; refine (unhide hw).mono ?_; rintro e w' ⟨rfl, rfl⟩))
        go_ret
        exact ⟨by simp, unhide hk⟩
      · go_enter Tryd.func43, Tryd.ntmps43
        go_wp2_with (first | (refine wpBoxA rfl (.tmp 0) rfl (stC p h n) rfl ?_) | (go_at_call 49; refine (unhide hp).mono ?_; rintro e w' ⟨rfl, rfl⟩))
        go_ret
        exact ⟨by simp [h0, h1], unhide hk⟩

end Go.Proofs.YtkpkiibahfdomaaDoor.Pg

namespace Go.Proofs.YtkpkiibahfdomaaDoor.Pg
open Go.RowKit

/-- The last k bytes of a number, into the places 5, 4, .. -/
def putPsn (n : Int) : Nat → List Int → List Int
  | 0, l => l
  | k + 1, l => (putPsn n k l).set (5 - k) (n / 256 ^ k % 256)
theorem putPsn_len (n : Int) (l : List Int) : ∀ k, (putPsn n k l).length = l.length
  | 0 => rfl
  | k + 1 => by simp [putPsn, putPsn_len n l k]
def laidBase (p h : Int) : List Int := ((zs 64).set 0 ((161 + h) % 256)).set 1 (p % 256)
/-- The sector. -/
def laidL (p h n : Int) (s : List Int) : List Int := [(161 + h) % 256, p % 256, n / 16777216 % 256, n / 65536 % 256, n / 256 % 256, n % 256] ++ s ++ zs 10
theorem laidL_byts {p h n : Int} {s : List Int} (hs : Byts 48 s) : Byts 64 (laidL p h n s) := by
  refine ⟨by simp [laidL, hs.len, zs], fun x hx => ?_⟩
  simp only [laidL, List.mem_append, List.mem_cons, List.mem_nil_iff, or_false] at hx
  rcases hx with ((rfl | rfl | rfl | rfl | rfl | rfl) | hx) | hx
  iterate 6 omega
  · exact hs.byte x hx
  · exact (zs_byts 10).byte x hx

theorem u8s_set (l : List Int) (i : Nat) (x : Int) : (u8s l).set i (.int .u8 x) = u8s (l.set i x) := by simp [u8s, List.map_set]

theorem keptBelow {X : List Nat} {a w w' : World} {B : Nat} (h : Kept X a w) (hb : Below B w w') (hB : a.heap.size ≤ B) : Kept X a w' :=
  ⟨hb.os.trans h.os, hb.tape.trans h.tape, hb.output.trans h.output, Nat.le_trans h.size hb.size, fun i hi hx => (hb.block i (by omega)).trans (h.block i hi hx)⟩

theorem splice_laid (p h n : Int) (s : List Int) (hs : s.length = 48) : splice (u8s (putPsn n 4 (laidBase p h))) 6 (u8s s) = u8s (laidL p h n s) := by
  have e : putPsn n 4 (laidBase p h) = [(161 + h) % 256, p % 256, n / 16777216 % 256, n / 65536 % 256, n / 256 % 256, n % 256] ++ zs 58 := by
    have e0 : n / 256 ^ 0 % 256 = n % 256 := by simp
    have e1 : n / 256 ^ 1 % 256 = n / 256 % 256 := by simp
    have e2 : n / 256 ^ 2 % 256 = n / 65536 % 256 := by simp
    have e3 : n / 256 ^ 3 % 256 = n / 16777216 % 256 := by simp
    show (((((laidBase p h).set 5 _).set 4 _).set 3 _).set 2 _) = _
    rw [e0, e1, e2, e3]
    rfl
  rw [e]
  unfold splice
  rw [u8s_len, hs, u8s_app]
  simp only [laidL, u8s_app]
  rfl

theorem loadV {w : World} {b T n : Nat} {vs : List Value} (hT : Row T n) (hl : vs.length = n) (h : Blk w b T vs) : (loadVar T ⟨b, 0, none⟩).run Tryd.prog w = .ok (aggV vs) w := by
  obtain ⟨d, h1, h2, h3⟩ := hT
  exact run_loadVar_mid (P := Tryd.prog) w b 0 T vs d h.range h1 h2 (by rw [hl]; exact h3)
theorem res44 (w : World) (z : Nat) (vs : List Value) (tmps : Array Value) (h4 : tmps[4]?.getD undef = P0 z) (hl : vs.length = 64) (hb : Blk w z 29 vs) : (results Tryd.f44 tmps).run Tryd.prog w = .ok (aggV vs) w := by
  have := loadV row29 hl hb
  simp [results, Tryd.results44, h4, this, asAddr]

/-- A world of which is known only what is said of it. -/
theorem wpAllocV {ops : Array Oper} {rest : List Oper} {op : Oper} {a : Act} {w : World} {Q : Exit → Act → World → Prop} {T : Nat} (vs : List Value) (hr : ∀ w : World, (Instr.alloc T true (.tuple #[])).run Tryd.prog w = .ok (P0 w.heap.size) (w.alloc (.cells vs.toArray T))) (d : Nat) (_ : op.dst = some d) (hgd : op.guard = none) (ho : op.op = .alloc T)
    (h : ∀ W, W = w.alloc (.cells vs.toArray T) → wpList Tryd.prog ops Q rest (a.put op.dst (P0 w.heap.size)) W) : wpList Tryd.prog ops Q (op :: rest) a w :=
  wpAllocA vs hr hgd ho (h _ rfl)

set_option maxHeartbeats 1000000 in
set_option maxRecDepth 100000 in
theorem laid26 (p h n : Int) (s : List Int) (hs : Byts 48 s) (hh : h = 0 ∨ h = 1) (w : World) : Calls Tryd.prog 44 #[aggV (stC p h n), aggV (u8s s)] w fun e w' => e = .returned (aggV (u8s (laidL p h n s))) ∧ Kept [] w w' := by
  have hw : IntKind.u8.wrap (161 + h) = (161 + h) % 256 := by rw [IntKind.wrap_u8]
  go_enter Tryd.func44, Tryd.ntmps44
  go_wp2_with (
    first
    | (refine wpBoxA rfl (.tmp 0) rfl (stC p h n) rfl ?_)
    | (refine wpBoxA rfl (.tmp 1) rfl (u8s s) rfl ?_)
    | (refine wpAllocV (u8s (zs 64)) zero29 5 rfl rfl rfl ?_
       intro W eW
       have b0 : Blk W w.heap.size 63 (stC p h n) := by rw [eW]; exact (((Blk.new' rfl).alloc _).alloc _).alloc _
       have b1 : Blk W (w.heap.size + 1) 84 (u8s s) := by rw [eW]; exact ((Blk.new' (by simp)).alloc _).alloc _
       have b2 : Blk W (w.heap.size + 1 + 1) 29 (u8s (zs 64)) := by rw [eW]; exact (Blk.new' (by simp)).alloc _
       have b3 : Blk W (w.heap.size + 1 + 1 + 1) 29 (u8s (zs 64)) := by rw [eW]; exact Blk.new' (by simp)
       have hk : Hid (Kept [] w W) := by rw [eW]; exact ((((Kept.refl _ _).alloc _).alloc _).alloc _).alloc _
       clear eW
       have c1 := fits_cell b0 1 (.int .i64 h) rfl
       have c0 := fits_cell b0 0 (.int .i64 p) rfl
       have d0 := fits_cell b3 0 (.int .u8 0) rfl
       have d1 := fits_cell b3 1 (.int .u8 0) rfl
       have f0 := b3.frozen 0
       have f1 := b3.frozen 1
       have B0 := hide b0
       have B1 := hide b1
       have B2 := hide b2
       have B3 := hide b3
       clear b0 b1 b2 b3)
    | (refine wpAllocA (u8s (zs 64)) zero29 rfl rfl ?_))
  go_loopw [6] (fun i wr => ∃ k : Nat, k ≤ 4 ∧ i = .int .i64 (5 - k) ∧ Hid (Blk wr w.heap.size 63 (stC p h (n / 256 ^ k))) ∧ Hid (Blk wr (w.heap.size + 1) 84 (u8s s)) ∧ Hid (Blk wr (w.heap.size + 1 + 1) 29 (u8s (zs 64))) ∧ Hid (Blk wr (w.heap.size + 1 + 1 + 1) 29 (u8s (putPsn n k (laidBase p h)))) ∧ Hid (Kept [] w wr)) (fun i _ => (intOf i).toNat)
  case atStart =>
    refine ⟨0, by omega, rfl, ?_, ?_, ?_, ?_, ?_⟩
    · have := ((unhide B0).set_other (b' := w.heap.size + 1 + 1 + 1) (i := 0) (by omega) (.int .u8 ((161 + h) % 256))).set_other (b' := w.heap.size + 1 + 1 + 1) (i := 1) (by omega) (.int .u8 (p % 256))
      simpa [Hid] using this
    · exact ((unhide B1).set_other (by omega) _).set_other (by omega) _
    · exact ((unhide B2).set_other (by omega) _).set_other (by omega) _
    · have := ((unhide B3).set (i := 0) (.int .u8 ((161 + h) % 256))).set (i := 1) (.int .u8 (p % 256))
      rw [u8s_set, u8s_set] at this
      exact this
    · exact ((unhide hk).setCell (by simp; omega) _).setCell (by simp; omega) _
  case round =>
    obtain ⟨k, hk4, rfl, R0, R1, R2, R3, RK⟩ := hrel
    have hlen : (putPsn n k (laidBase p h)).length = 64 := by rw [putPsn_len]; simp [laidBase, zs]
    by_cases hlt : k < 4
    · have q2 := fits_cell (unhide R0) 2 (.int .i64 (n / 256 ^ k)) rfl
      have z2 := (unhide R0).frozen 2
      have e5 : (5 - (k : Int)).toNat = 5 - k := by omega
      have q5 : wr.cell? ⟨w.heap.size + 1 + 1 + 1, 5 - k, none⟩ = some (.int .u8 ((putPsn n k (laidBase p h))[5 - k]'(by omega))) := fits_cell (unhide R3) (5 - k) _ (by simp [u8s])
      have z5 := (unhide R3).frozen (5 - k)
      go_wp2_with fail
      go_roundw
      case rel =>
        refine ⟨k + 1, by omega, by go_num, ?_, ?_, ?_, ?_, ?_⟩
        · have := ((unhide R0).set_other (b' := w.heap.size + 1 + 1 + 1) (i := 5 - k) (by omega) (.int .u8 (n / 256 ^ k % 256))).set (i := 2) (.int .i64 (n / 256 ^ k / 256))
          have e : n / 256 ^ (k + 1) = n / 256 ^ k / 256 := by rw [Int.pow_succ, ← Int.ediv_ediv_of_nonneg (Int.pow_nonneg (by omega))]
          rw [e]
          exact this
        · exact ((unhide R1).set_other (by omega) _).set_other (by omega) _
        · exact ((unhide R2).set_other (by omega) _).set_other (by omega) _
        · have := ((unhide R3).set (i := 5 - k) (.int .u8 (n / 256 ^ k % 256))).set_other (b' := w.heap.size) (i := 2) (by omega) (.int .i64 (n / 256 ^ k / 256))
          rw [u8s_set] at this
          exact this
        · exact ((unhide RK).setCell (by simp; omega) _).setCell (by simp) _
      case measure => simp [intOf]; omega
    · obtain rfl : k = 4 := by omega
      have hsl : (u8s s).length = 48 := by rw [u8s_len, hs.len]
      have hkl := (unhide RK).size
      go_wp2_with fail
      go_region_law (refine step_copy_splice rfl (.tmp 29) (.tmp 30) 90 90 rfl 5 Tryd.underlying90 Tryd.size5 (some ⟨w.heap.size + 1 + 1 + 1, 6, none⟩) (some ⟨w.heap.size + 1, 0, none⟩) 58 58 48 48 rfl rfl (w.heap.size + 1 + 1 + 1) 6 (u8s (putPsn n 4 (laidBase p h))) 29 (unhide R3) (u8s s) hsl (fun _ => ⟨rfl, _, rfl, fun j v hj => by rw [Addr.add_mid]; exact (unhide R1).range j v hj⟩) (by rw [hsl, u8s_len, hlen]; omega) (u8s_one _) (w.heap.size + 1 + 1 + 1) wr.drew (Below.refl _ _) (Nat.le_refl _) ?_; intro w4 hg4 hb4)
      have g3 : Hid (Blk w4 (w.heap.size + 1 + 1 + 1) 29 (u8s (laidL p h n s))) := by
        have := unhide hg4
        rw [splice_laid p h n s hs.len] at this
        exact this
      have g2 : Hid (Blk w4 (w.heap.size + 1 + 1) 29 (u8s (zs 64))) := by
        show _ = _
        rw [hb4.block _ (by omega)]
        exact unhide R2
      have gk : Hid (Kept [] w w4) := keptBelow (unhide RK).drew hb4 (by omega)
      have hl := (laidL_byts (p := p) (h := h) (n := n) hs).len
      clear hg4 hb4 R0 R1 R2 R3 RK B0 B1 B2 B3 hk c1 c0 d0 d1 f0 f1
      go_wp2_with (
        first
        | (refine wpLoadA row29 rfl (.tmp 5) rfl (w.heap.size + 1 + 1 + 1) 0 rfl (u8s (laidL p h n s)) (by rw [u8s_len, hl]) (unhide g3).range ?_)
        | (refine wpStoreA row29 rfl (.tmp 4) (.tmp 32) rfl (w.heap.size + 1 + 1) 0 (u8s (laidL p h n s)) rfl rfl (by rw [u8s_len, hl]) (u8s_one _) ((unhide g2).there (by simp [u8s_len, zs])) ?_))
      have g4 := (unhide g2).put (vs := u8s (laidL p h n s)) (by simp [u8s_len, zs, hl])
      exact bodyPost_ret (res44 _ _ _ _ rfl (by rw [u8s_len, hl]) g4) rfl ⟨rfl, (unhide gk).setCells _ _ (by omega)⟩

end Go.Proofs.YtkpkiibahfdomaaDoor.Pg

namespace Go.Proofs.YtkpkiibahfdomaaDoor.Pg
open Go.RowKit

/-- The number in the first k of the places 2 to 5. -/
def psnK (s : List Int) : Nat → Nat
  | 0 => 0
  | k + 1 => psnK s k * 256 + (s.getD (2 + k) 0).toNat
/-- A sector's PSN. -/
def psnL (s : List Int) : Int := psnK s 4
theorem psnK_lt {s : List Int} (hs : Byts 64 s) : ∀ k, k ≤ 4 → psnK s k < 256 ^ k
  | 0, _ => by simp [psnK]
  | k + 1, h => by
    have := psnK_lt hs k (by omega)
    have h2 := hs.byte (s[2 + k]'(by rw [hs.len]; omega)) (List.getElem_mem _)
    have e : s.getD (2 + k) 0 = s[2 + k]'(by rw [hs.len]; omega) := by simp [List.getD, hs.len, show 2 + k < 64 by omega]
    rw [psnK, e, Nat.pow_succ]
    omega
theorem pow256_le (k : Nat) (h : k ≤ 4) : 256 ^ k ≤ 4294967296 := by
  have h8 : (256 : Nat) ^ 4 = 4294967296 := by decide
  rw [← h8]; exact Nat.pow_le_pow_right (by decide) h

theorem wraps_i64 (n : Int) (h₀ : 0 ≤ n) (h₁ : n < 2 ^ 63) : IntKind.i64.wrap n = n := by rw [IntKind.wrap_i64]; omega
theorem or_psn (a c : Nat) (ha : a < 16777216) (hc : c < 256) : bits .or .i64 ((a : Int) * 256) (c : Int) = (a : Int) * 256 + c :=
  bits_join .i64 63 (by decide) wraps_i64 8 _ _ (by omega) (by omega) (by omega) (by omega) (by omega) (by omega)

set_option maxHeartbeats 1000000 in
set_option maxRecDepth 100000 in
theorem psn29 (s : List Int) (hs : Byts 64 s) (w : World) : Calls Tryd.prog 42 #[aggV (u8s s)] w fun e w' => e = .returned (.int .i64 (psnL s)) ∧ Kept [] w w' := by
  have hb : Hid (Blk (w.alloc (.cells (u8s s).toArray 29)) w.heap.size 29 (u8s s)) := Blk.new w 29 _
  have hk := hide ((Kept.refl [] w).alloc (.cells (u8s s).toArray 29))
  go_enter Tryd.func42, Tryd.ntmps42
  go_wp2_with (refine wpBoxA rfl (.tmp 0) rfl (u8s s) rfl ?_)
  go_loopw [8, 3] (fun i n wr => ∃ k : Nat, k ≤ 4 ∧ i = .int .i64 k ∧ n = .int .i64 (psnK s k) ∧ wr = w.alloc (.cells (u8s s).toArray 29)) (fun i _ _ => 4 - (intOf i).toNat)
  case atStart => exact ⟨0, by omega, rfl, rfl, rfl⟩
  case round =>
    obtain ⟨k, hk4, rfl, rfl, rfl⟩ := hrel
    by_cases hlt : k < 4
    · have hl : 2 + k < s.length := by rw [hs.len]; omega
      have hx := hs.byte s[2 + k] (List.getElem_mem _)
      obtain ⟨c, hc⟩ := Int.eq_ofNat_of_zero_le hx.1
      have q : (w.alloc (.cells (u8s s).toArray 29)).cell? ⟨w.heap.size, 2 + k, none⟩ = some (.int .u8 c) := fits_cell (unhide hb) (2 + k) _ (by simp [u8s, hl]; exact hc)
      have hlk := psnK_lt hs k (by omega)
      have hp := pow256_le k (by omega)
      have hp3 : 256 ^ k ≤ 16777216 := by
        have h8 : (256 : Nat) ^ 3 = 16777216 := by decide
        rw [← h8]; exact Nat.pow_le_pow_right (by decide) (by omega)
      have ho := or_psn (psnK s k) c (by omega) (by omega)
      have hn : psnK s (k + 1) = psnK s k * 256 + c := by
        rw [psnK]; congr 1; simp [List.getD, hl]; omega
      go_wp2_with fail
      refine ⟨⟨k + 1, by omega, by simp, by rw [hn]; simp, trivial⟩, by simp [intOf]; omega⟩
    · obtain rfl : k = 4 := by omega
      go_wp2_with fail
      go_ret
      exact ⟨rfl, unhide hk⟩

/-- A sector's half of a body. -/
def halfL (s : List Int) : List Int := (s.drop 6).take 48
theorem halfL_byts {s : List Int} (hs : Byts 64 s) : Byts 48 (halfL s) :=
  ⟨by simp [halfL, hs.len], fun x hx => hs.byte x (List.mem_of_mem_drop (List.mem_of_mem_take hx))⟩

theorem half_at {W : World} {b T : Nat} {s : List Int} (h : Blk W b T (u8s s)) : ∀ j v, (u8s (halfL s))[j]? = some v → W.cell? ((⟨b, 6, none⟩ : Addr).add j) = some v := by
  intro j v hj
  have hl : j < 48 := by
    have := (List.getElem?_eq_some_iff.1 hj).1
    rw [u8s_len, halfL, List.length_take] at this
    omega
  rw [Addr.add_mid, h.cell]
  simp only [u8s, halfL, List.map_take, List.map_drop] at hj
  rw [List.getElem?_take_of_lt hl, List.getElem?_drop] at hj
  exact hj

theorem res45 (w : World) (z : Nat) (vs : List Value) (tmps : Array Value) (h4 : tmps[2]?.getD undef = P0 z) (hl : vs.length = 48) (hb : Blk w z 84 vs) : (results Tryd.f45 tmps).run Tryd.prog w = .ok (aggV vs) w := by
  have := loadV row84 hl hb
  simp [results, Tryd.results45, h4, this, asAddr]

set_option maxHeartbeats 1000000 in
set_option maxRecDepth 100000 in
theorem halfOf31 (s : List Int) (hs : Byts 64 s) (w : World) : Calls Tryd.prog 45 #[aggV (u8s s)] w fun e w' => e = .returned (aggV (u8s (halfL s))) ∧ Kept [] w w' := by
  have hl := (halfL_byts hs).len
  have hll : (u8s (halfL s)).length = 48 := by rw [u8s_len, hl]
  go_enter Tryd.func45, Tryd.ntmps45
  go_wp2_with (
    first
    | (refine wpBoxA rfl (.tmp 0) rfl (u8s s) rfl ?_)
    | (refine wpAllocV (u8s (zs 48)) zero84 3 rfl rfl rfl ?_
       intro W eW
       have b0 : Hid (Blk W w.heap.size 29 (u8s s)) := by rw [eW]; exact ((Blk.new' rfl).alloc _).alloc _
       have b1 : Hid (Blk W (w.heap.size + 1) 84 (u8s (zs 48))) := by rw [eW]; exact (Blk.new' (by simp)).alloc _
       have b2 : Hid (Blk W (w.heap.size + 1 + 1) 84 (u8s (zs 48))) := by rw [eW]; exact Blk.new' (by simp)
       have hk : Hid (Kept [] w W) := by rw [eW]; exact (((Kept.refl _ _).alloc _).alloc _).alloc _
       clear eW)
    | (refine wpAllocA (u8s (zs 48)) zero84 rfl rfl ?_))
  go_region_law (refine step_copy_splice rfl (.tmp 4) (.tmp 5) 90 90 rfl 5 Tryd.underlying90 Tryd.size5 (some ⟨w.heap.size + 1 + 1, 0, none⟩) (some ⟨w.heap.size, 6, none⟩) 48 48 58 58 rfl rfl (w.heap.size + 1 + 1) 0 (u8s (zs 48)) 84 (unhide b2) (u8s (halfL s)) hll (fun _ => ⟨rfl, _, rfl, half_at (unhide b0)⟩) (by simp [u8s_len, hl, zs]) (u8s_one _) (w.heap.size + 1 + 1) W.drew (Below.refl _ _) (Nat.le_refl _) ?_; intro w4 hg4 hb4)
  have g3 : Hid (Blk w4 (w.heap.size + 1 + 1) 84 (u8s (halfL s))) := by
    have := unhide hg4
    have e : splice (u8s (zs 48)) 0 (u8s (halfL s)) = u8s (halfL s) := by unfold splice; simp [hll]; simp [u8s, zs]
    rw [e] at this
    exact this
  have g2 : Hid (Blk w4 (w.heap.size + 1) 84 (u8s (zs 48))) := by
    show _ = _
    rw [hb4.block _ (by omega)]
    exact unhide b1
  have gk : Hid (Kept [] w w4) := keptBelow (unhide hk).drew hb4 (by omega)
  clear hg4 hb4 b0 b1 b2 hk
  go_wp2_with (
    first
    | (refine wpLoadA row84 rfl (.tmp 3) rfl (w.heap.size + 1 + 1) 0 rfl (u8s (halfL s)) hll (unhide g3).range ?_)
    | (refine wpStoreA row84 rfl (.tmp 2) (.tmp 7) rfl (w.heap.size + 1) 0 (u8s (halfL s)) rfl rfl hll (u8s_one _) ((unhide g2).there (by simp [u8s_len, zs])) ?_))
  have g4 := (unhide g2).put (vs := u8s (halfL s)) (by simp [u8s_len, zs, hl])
  exact bodyPost_ret (res45 _ _ _ _ rfl hll g4) rfl ⟨rfl, (unhide gk).setCells _ _ (by omega)⟩

end Go.Proofs.YtkpkiibahfdomaaDoor.Pg

namespace Go.Proofs.YtkpkiibahfdomaaDoor.Pg
open Go.RowKit

section
variable {o : Oper} {a : Act} {w : World} {K : Act → World → Prop} {Q : Exit → Act → World → Prop}
theorem wp_loadA {T n : Nat} (hT : Row T n) (x : Operand) (ho : o.op = .load T x) (b off : Nat) (hx : a.eval x = .pointer (some ⟨b, off, none⟩)) (vs : List Value) (hl : vs.length = n) (hA : w.rangeAt b off vs)
    (h : K (a.put o.dst (aggV vs)) w) : o.wp Tryd.prog a w K Q := by
  obtain ⟨d, h1, h2, h3⟩ := hT
  exact wp_load_mid (P := Tryd.prog) T x ho b off hx vs d hA h1 h2 (by rw [hl]; exact h3) h
theorem wp_storeA {T n : Nat} (hT : Row T n) (x y : Operand) (ho : o.op = .store T x y) (b off : Nat) (vs : List Value) (hx : a.eval x = .pointer (some ⟨b, off, none⟩)) (hy : a.eval y = aggV vs) (hl : vs.length = n) (h1 : ∀ v ∈ vs, v.oneCell' = true) (hA : w.there b off n)
    (h : K (a.put o.dst undef) (w.setCells b off vs)) : o.wp Tryd.prog a w K Q := by
  obtain ⟨d, g1, g2, g3⟩ := hT
  exact wp_store_mid (P := Tryd.prog) T x y ho b off vs.toArray hx hy (by simpa [hl] using hA) (by simpa [hl] using g3) (all_oneCell_toArray h1) h
theorem wp_storeN {T n : Nat} (hT : Row T n) (x y : Operand) (ho : o.op = .store T x y) (hd : o.dst = none) (b off : Nat) (vs : List Value) (hx : a.eval x = .pointer (some ⟨b, off, none⟩)) (hy : a.eval y = aggV vs) (hl : vs.length = n) (h1 : ∀ v ∈ vs, v.oneCell' = true) (hA : w.there b off n)
    (h : K a (w.setCells b off vs)) : o.wp Tryd.prog a w K Q := by
  refine wp_storeA hT x y ho b off vs hx hy hl h1 hA ?_
  rw [hd]
  exact h
theorem wp_allocA {T : Nat} (vs : List Value) (hr : ∀ w : World, (Instr.alloc T true (.tuple #[])).run Tryd.prog w = .ok (P0 w.heap.size) (w.alloc (.cells vs.toArray T))) (ho : o.op = .alloc T)
    (h : K (a.put o.dst (P0 w.heap.size)) (w.alloc (.cells vs.toArray T))) : o.wp Tryd.prog a w K Q := by
  unfold Oper.wp execOp
  simp only [ho, Sem.run_bind, hr, Result.andThen_ok]
  exact h
/-- One operation: a function is called. -/
theorem wp_callF {P : Program} (f : FuncId) (args : Array Operand) (ts : Array TypeId) (ho : o.op = .call { callee := .value (.func f), args := args, argTypes := ts })
    (vs : Array Value) (hv : args.map a.eval = vs) (hcf : (callFunc f vs).run P w = .ok (.enter f vs) w) (h : Calls P f vs w fun e w' => ∃ v, e = .returned v ∧ K (a.put o.dst v) w') : o.wp P a w K Q := by
  subst hv
  unfold Oper.wp execOp
  simp only [ho]
  simp [resolve, invoke, go_sem, hcf]
  refine h.mono ?_
  rintro e w' ⟨v, rfl, hk⟩
  exact hk
end
theorem wpBuildP {ops : Array Oper} {rest : List Oper} {op : Oper} {a : Act} {w : World} {Q : Exit → Act → World → Prop} {T : Nat} (hgd : op.guard = none) (parts : Array (Nat × Operand)) (ho : op.op = .build T parts) (ps : Array (Nat × Value)) (hp : (parts.map fun (i, x) => (i, a.eval x)) = ps) (vs : List Value)
    (hr : (Instr.build T ps).run Tryd.prog w = .ok (aggV vs) w) (h : wpList Tryd.prog ops Q rest (a.put op.dst (aggV vs)) w) : wpList Tryd.prog ops Q (op :: rest) a w :=
  wpList_plain hgd fun K hK => by
    subst hp
    unfold Oper.wp execOp
    simp only [ho, Sem.run_bind, hr, Result.andThen_ok]
    exact hK _ _ h
theorem wpOp_of {P : Program} {ops : Array Oper} {o : Oper} {a : Act} {w : World} {K : Act → World → Prop} {Q : Exit → Act → World → Prop} {i : Nat} (ho : ops[i]? = some o) (hg : o.guard = none) (h : o.wp P a w K Q) : wpOp P ops Q i K a w := by
  unfold wpOp
  rw [ho]
  have hw : Region.wanted o (yielded ops a.tmps) = true := by simp [Region.wanted, hg]
  simp only [hw, if_true]
  exact .inl h

/-- A copy as one step of a region that draws its order. -/
theorem step_copyK {ops : Array Oper} {o : Oper} {a : Act} {w : World} {K : Act → World → Prop} {Q : Exit → Act → World → Prop} {E : Prop} (hgd : o.guard = none) (d s : Operand)
    (ho : o.op = .call { callee := .builtin .copy, args := #[d, s], argTypes := #[90, 90] }) (ad : Addr) (dLen dCap sLen sCap : Nat) (g off : Nat) (hd : a.eval d = .slice (some ⟨g, off, none⟩) dLen dCap) (hs : a.eval s = .slice (some ad) sLen sCap)
    (cur : List Value) (t : TypeId) (hg : Blk w g t cur) (cs : List Value) (hn : cs.length = Nat.min sLen dLen) (hsrc : ∀ j v, cs[j]? = some v → w.cell? (ad.add j) = some v)
    (hfit : off + cs.length ≤ cur.length) (h1 : ∀ v ∈ cs, v.oneCell' = true)
    (h : ∀ w', Hid (Blk w' g t (splice cur off cs)) → Hid (Kept [g] w w') → K (a.put o.dst (goInt cs.length)) w') :
    if Region.wanted o (yielded ops a.tmps) = true then Oper.wp Tryd.prog o a w K Q else E := by
  have hw : Region.wanted o (yielded ops a.tmps) = true := by simp [Region.wanted, hgd]
  rw [if_pos hw]
  have hrun := run_copy_row (P := Tryd.prog) w 90 90 o.type 5 g off dLen dCap ad sLen sCap cur.toArray t cs Tryd.underlying90 Tryd.size5 hg hn hsrc (by simpa using hfit) h1
  unfold Oper.wp
  simp [execOp, ho, resolve, invoke, builtin, hd, hs, hrun, Result.andThen]
  refine h _ (show _ = _ by simpa [splice] using setRow_heap w g _ _ t _ hg) ⟨rfl, rfl, rfl, by simp [World.setRow], fun k _ hx => setRow_other w g k _ (by simpa using hx)⟩

theorem cf45 (vs : Array Value) (w : World) : (callFunc 45 vs).run Tryd.prog w = .ok (.enter 45 vs) w := by kernel_rfl
theorem mixed : Tryd.prog.follows .mixedOrders = true := by kernel_rfl

/-- What is known of a value: it is this one, or a new block that has these cells. -/
inductive Fact
  | is (v : Value)
  | new (T : Nat) (vs : List Value) (B : Nat)
def Fact.at (v : Value) (w : World) : Fact → Prop
  | .is u => v = u
  | .new T vs B => ∃ q, v = P0 q ∧ B ≤ q ∧ Blk w q T vs
def tab (fs : List Fact) (j : Nat) (v : Value) (w : World) : Prop := match fs[j]? with
  | some f => f.at v w
  | none => True
theorem tab_kept (fs : List Fact) : ∀ j v w w', tab fs j v w → Kept [] w w' → tab fs j v w' := by
  intro j v w w' h hk
  unfold tab at *
  cases hf : fs[j]? with
  | none => trivial
  | some f =>
    rw [hf] at h
    cases f with
    | is u => exact h
    | new T vs B =>
      obtain ⟨q, h1, h2, h3⟩ := h
      exact ⟨q, h1, h2, h3.kept hk (by simp)⟩

/-- Values of these operations are apart. -/
def apartE (L : List Nat) (i j : Nat) (u v : Value) : Prop := i ∈ L → j ∈ L → u ≠ v
theorem apart_no {L : List Nat} {j : Nat} (h : j ∉ L) (i : Nat) (u v : Value) : apartE L i j u v := fun _ hj => absurd hj h
theorem apart_new {L : List Nat} {fs : List Fact} {w : World} (hL : ∀ i ∈ L, ∃ T vs B, fs[i]? = some (.new T vs B)) (i j : Nat) (u : Value) (h : tab fs i u w) : apartE L i j u (P0 w.heap.size) := by
  intro hi _ e
  obtain ⟨T, vs, B, hf⟩ := hL i hi
  unfold tab at h
  rw [hf] at h
  obtain ⟨q, rfl, _, hb⟩ := h
  have := hb.lt
  cases e
  omega
theorem vs6 {vs : List Value} (h : vs.length = 6) : ∃ a b c d e f, vs = [a, b, c, d, e, f] := by
  match vs, h with
  | [a, b, c, d, e, f], _ => exact ⟨a, b, c, d, e, f, rfl⟩

theorem splice_ver1 (n : Int) (a : List Int) (ha : a.length = 48) : splice (verC n (zs 96)) 1 (u8s a) = verC n (a ++ zs 48) := by
  unfold splice verC
  rw [u8s_len, ha, u8s_app]
  rfl
theorem splice_ver2 (n : Int) (a b : List Int) (ha : a.length = 48) (hb : b.length = 48) : splice (verC n (a ++ zs 48)) 49 (u8s b) = verC n (a ++ b) := by
  unfold splice verC
  rw [u8s_len, hb, u8s_app, u8s_app]
  have e1 : (Value.int .i64 n :: (u8s a ++ u8s (zs 48))).take 49 = .int .i64 n :: u8s a := by
    rw [List.take_succ_cons, List.take_append_of_le_length (by rw [u8s_len, ha]; exact Nat.le_refl _), List.take_of_length_le (by rw [u8s_len, ha]; exact Nat.le_refl _)]
  have e2 : (Value.int .i64 n :: (u8s a ++ u8s (zs 48))).drop (49 + 48) = [] := List.drop_eq_nil_of_le (by simp [u8s_len, ha, zs])
  rw [e1, e2]
  simp

theorem res51 (w : World) (z : Nat) (vs : List Value) (tmps : Array Value) (h4 : tmps[4]?.getD undef = P0 z) (hl : vs.length = 97) (hb : Blk w z 61 vs) : (results Tryd.f51 tmps).run Tryd.prog w = .ok (aggV vs) w := by
  have := loadV row61 hl hb
  simp [results, Tryd.results51, h4, this, asAddr]

theorem build61n (w : World) (n : Int) : (Instr.build 61 #[(0, .int .i64 n)]).run Tryd.prog w = .ok (aggV (verC n (zs 96))) w := by kernel_rfl

set_option maxHeartbeats 1000000 in
set_option maxRecDepth 100000 in
theorem between27 (s t : List Int) (hs : Byts 64 s) (ht : Byts 64 t) (w : World) : Calls Tryd.prog 51 #[aggV (u8s s), aggV (u8s t)] w fun e w' => e = .returned (aggV (verC (psnL s) (halfL s ++ halfL t))) ∧ Kept [] w w' := by
  have hsl := (halfL_byts hs).len
  have htl := (halfL_byts ht).len
  have hsu : (u8s s).length = 64 := by rw [u8s_len, hs.len]
  have htu : (u8s t).length = 64 := by rw [u8s_len, ht.len]
  have b0 : Hid (Blk (((w.alloc (.cells (u8s s).toArray 29)).alloc (.cells (u8s t).toArray 29)).alloc (.cells (verC 0 (zs 96)).toArray 61)) w.heap.size 29 (u8s s)) := ((Blk.new' rfl).alloc _).alloc _
  have b1 : Hid (Blk (((w.alloc (.cells (u8s s).toArray 29)).alloc (.cells (u8s t).toArray 29)).alloc (.cells (verC 0 (zs 96)).toArray 61)) (w.heap.size + 1) 29 (u8s t)) := (Blk.new' (by simp)).alloc _
  have b2 : Hid (Blk (((w.alloc (.cells (u8s s).toArray 29)).alloc (.cells (u8s t).toArray 29)).alloc (.cells (verC 0 (zs 96)).toArray 61)) (w.heap.size + 1 + 1) 61 (verC 0 (zs 96))) := Blk.new' (by simp)
  have hk : Hid (Kept [] w (((w.alloc (.cells (u8s s).toArray 29)).alloc (.cells (u8s t).toArray 29)).alloc (.cells (verC 0 (zs 96)).toArray 61))) := (((Kept.refl _ _).alloc _).alloc _).alloc _
  have hp := hide (psn29 s hs (((w.alloc (.cells (u8s s).toArray 29)).alloc (.cells (u8s t).toArray 29)).alloc (.cells (verC 0 (zs 96)).toArray 61)))
  go_enter Tryd.func51, Tryd.ntmps51
  go_wp2_with (
    first
    | (refine wpBoxA rfl (.tmp 0) rfl (u8s s) rfl ?_)
    | (refine wpBoxA rfl (.tmp 1) rfl (u8s t) rfl ?_)
    | (refine wpLoadA row29 rfl (.tmp 2) rfl w.heap.size 0 rfl (u8s s) hsu (unhide b0).range ?_)
    | (go_at_call 42
       refine (unhide hp).mono ?_
       rintro e w1 ⟨rfl, k1⟩)
    | (refine wpBuildP rfl _ rfl #[(0, .int .i64 (psnL s))] (by simp only [List.map_toArray, List.map_cons, List.map_nil]; rfl) (verC (psnL s) (zs 96)) (build61n _ _) ?_)
    | (refine wpAllocV (verC 0 (zs 96)) zero61 5 rfl rfl rfl ?_
       intro W eW
       have c0 : Hid (Blk W w.heap.size 29 (u8s s)) := by rw [eW]; exact ((unhide b0).kept k1 (by simp)).alloc _
       have c1 : Hid (Blk W (w.heap.size + 1) 29 (u8s t)) := by rw [eW]; exact ((unhide b1).kept k1 (by simp)).alloc _
       have c2 : Hid (Blk W (w.heap.size + 1 + 1) 61 (verC 0 (zs 96))) := by rw [eW]; exact ((unhide b2).kept k1 (by simp)).alloc _
       have c3 : Hid (Blk W w1.heap.size 61 (verC 0 (zs 96))) := by rw [eW]; exact Blk.new' rfl
       have ck : Hid (Kept [] w W) := by rw [eW]; exact ((unhide hk).trans k1).alloc _
       have cs1 : Hid (w.heap.size + 1 + 1 < w1.heap.size) := ((unhide b2).kept k1 (by simp)).lt
       clear b0 b1 b2 hk hp k1 eW)
    | (refine wpAllocA (verC 0 (zs 96)) zero61 rfl rfl ?_)
    | (refine wpStoreA row61 rfl (.tmp 5) (.tmp 10) rfl w1.heap.size 0 (verC (psnL s) (zs 96)) rfl rfl (by simp [verC, u8s_len, zs]) (verC_one _ _) ((unhide c3).there (by simp [verC, u8s_len, zs])) ?_))
  have d0 : Hid (Blk (W.setCells w1.heap.size 0 (verC (psnL s) (zs 96))) w.heap.size 29 (u8s s)) := (unhide c0).other (by have := unhide cs1; omega)
  have d1 : Hid (Blk (W.setCells w1.heap.size 0 (verC (psnL s) (zs 96))) (w.heap.size + 1) 29 (u8s t)) := (unhide c1).other (by have := unhide cs1; omega)
  have d2 : Hid (Blk (W.setCells w1.heap.size 0 (verC (psnL s) (zs 96))) (w.heap.size + 1 + 1) 61 (verC 0 (zs 96))) := (unhide c2).other (by have := unhide cs1; omega)
  have d3 : Hid (Blk (W.setCells w1.heap.size 0 (verC (psnL s) (zs 96))) w1.heap.size 61 (verC (psnL s) (zs 96))) := (unhide c3).put (by simp [verC, u8s_len, zs])
  have dk : Hid (Kept [] w (W.setCells w1.heap.size 0 (verC (psnL s) (zs 96)))) := (unhide ck).setCells _ _ (by have := unhide cs1; omega)
  clear c0 c1 c2 c3 ck
  generalize (W.setCells w1.heap.size 0 (verC (psnL s) (zs 96))) = W2 at *
  refine wp_region_prefix mixed 6 2 rfl (by kernel_rfl) (tab [.is (aggV (u8s s)), .is (aggV (u8s (halfL s))), .is (aggV (u8s t)), .is (aggV (u8s (halfL t))), .new 84 (u8s (zs 48)) W2.heap.size, .new 84 (u8s (zs 48)) W2.heap.size]) (apartE [4, 5]) (tab_kept _) (by kernel_rfl) ?_ ?_
  · intro j o hj ho a w2 hout hin hk
    match j, ho with
    | 0, ho =>
      obtain rfl := Option.some.inj ho
      exact wp_loadA row29 (.tmp 2) rfl w.heap.size 0 ((hout 2 (by kernel_rfl)).trans rfl) (u8s s) hsu ((unhide d0).kept hk (by simp)).range ⟨_, rfl, rfl, Kept.refl _ _, fun i u _ _ _ => apart_no (by decide) i u _⟩
    | 1, ho =>
      obtain rfl := Option.some.inj ho
      have e0 : a.eval (.tmp 11) = aggV (u8s s) := hin 0 11 (by kernel_rfl) (by kernel_rfl)
      refine wp_callF 45 _ _ rfl #[aggV (u8s s)] (by simp [e0]) (cf45 _ _) ((halfOf31 s hs w2).mono ?_)
      rintro e w3 ⟨rfl, hk3⟩
      exact ⟨_, rfl, _, rfl, rfl, hk3, fun i u _ _ _ => apart_no (by decide) i u _⟩
    | 2, ho =>
      obtain rfl := Option.some.inj ho
      exact wp_loadA row29 (.tmp 3) rfl (w.heap.size + 1) 0 ((hout 3 (by kernel_rfl)).trans rfl) (u8s t) htu ((unhide d1).kept hk (by simp)).range ⟨_, rfl, rfl, Kept.refl _ _, fun i u _ _ _ => apart_no (by decide) i u _⟩
    | 3, ho =>
      obtain rfl := Option.some.inj ho
      have e0 : a.eval (.tmp 13) = aggV (u8s t) := hin 2 13 (by kernel_rfl) (by kernel_rfl)
      refine wp_callF 45 _ _ rfl #[aggV (u8s t)] (by simp [e0]) (cf45 _ _) ((halfOf31 t ht w2).mono ?_)
      rintro e w3 ⟨rfl, hk3⟩
      exact ⟨_, rfl, _, rfl, rfl, hk3, fun i u _ _ _ => apart_no (by decide) i u _⟩
    | 4, ho =>
      obtain rfl := Option.some.inj ho
      exact wp_allocA (u8s (zs 48)) zero84 rfl ⟨_, rfl, ⟨_, rfl, hk.size, Blk.new' rfl⟩, (Kept.refl _ _).alloc _, fun i u _ _ h => apart_new (by simp) i 4 u h⟩
    | 5, ho =>
      obtain rfl := Option.some.inj ho
      exact wp_allocA (u8s (zs 48)) zero84 rfl ⟨_, rfl, ⟨_, rfl, hk.size, Blk.new' rfl⟩, (Kept.refl _ _).alloc _, fun i u _ _ h => apart_new (by simp) i 5 u h⟩
  · intro vs w3 hlen hF hE hk
    obtain ⟨x0, x1, x2, x3, x4, x5, rfl⟩ := vs6 hlen
    obtain rfl : x0 = aggV (u8s s) := hF 0 _ rfl
    obtain rfl : x1 = aggV (u8s (halfL s)) := hF 1 _ rfl
    obtain rfl : x2 = aggV (u8s t) := hF 2 _ rfl
    obtain rfl : x3 = aggV (u8s (halfL t)) := hF 3 _ rfl
    obtain ⟨q4, rfl, hq4, hb4⟩ : ∃ q, x4 = P0 q ∧ W2.heap.size ≤ q ∧ Blk w3 q 84 (u8s (zs 48)) := hF 4 _ rfl
    obtain ⟨q5, rfl, hq5, hb5⟩ : ∃ q, x5 = P0 q ∧ W2.heap.size ≤ q ∧ Blk w3 q 84 (u8s (zs 48)) := hF 5 _ rfl
    have hne : q4 ≠ q5 := by
      intro e
      subst e
      rcases hE 4 5 _ _ (by decide) rfl rfl with h | h
      · exact h (by decide) (by decide) rfl
      · exact h (by decide) (by decide) rfl
    simp only [List.take_succ_cons, List.take_zero, putAll, Act.put, List.setIfInBounds_toArray, List.set_cons_succ, List.set_cons_zero]
    refine wpAny_all (rs := [6]) (by kernel_rfl) (by simp) ?_
    intro i hi
    obtain rfl : i = 6 := by simpa using hi
    refine wpOp_of rfl rfl (wp_storeN row84 (.tmp 6) (.tmp 12) rfl rfl q4 0 (u8s (halfL s)) rfl rfl (by rw [u8s_len, hsl]) (u8s_one _) (hb4.there (by simp [u8s_len, zs])) ?_)
    refine wpAny_all (rs := [7]) (by kernel_rfl) (by simp) ?_
    intro i hi
    obtain rfl : i = 7 := by simpa using hi
    refine wpOp_of rfl rfl (wp_storeN row84 (.tmp 7) (.tmp 14) rfl rfl q5 0 (u8s (halfL t)) rfl rfl (by rw [u8s_len, htl]) (u8s_one _) ((hb5.other (fun e => hne e.symm)).there (by simp [u8s_len, zs])) ?_)
    refine wpAny_done (by kernel_rfl) ?_ _
    have l1 := unhide cs1
    have l2 := (unhide d3).lt
    have f2 : Hid (Blk ((w3.setCells q4 0 (u8s (halfL s))).setCells q5 0 (u8s (halfL t))) (w.heap.size + 1 + 1) 61 (verC 0 (zs 96))) := (((unhide d2).kept hk (by simp)).other (by omega)).other (by omega)
    have f3 : Hid (Blk ((w3.setCells q4 0 (u8s (halfL s))).setCells q5 0 (u8s (halfL t))) w1.heap.size 61 (verC (psnL s) (zs 96))) := (((unhide d3).kept hk (by simp)).other (by omega)).other (by omega)
    have f4 : Hid (Blk ((w3.setCells q4 0 (u8s (halfL s))).setCells q5 0 (u8s (halfL t))) q4 84 (u8s (halfL s))) := (hb4.put (by simp [u8s_len, zs, hsl])).other hne
    have f5 : Hid (Blk ((w3.setCells q4 0 (u8s (halfL s))).setCells q5 0 (u8s (halfL t))) q5 84 (u8s (halfL t))) := (hb5.other (fun e => hne e.symm)).put (by simp [u8s_len, zs, htl])
    have fk : Hid (Kept [] w ((w3.setCells q4 0 (u8s (halfL s))).setCells q5 0 (u8s (halfL t)))) := (((unhide dk).trans hk).setCells _ _ (by have := (unhide dk).size; omega)).setCells _ _ (by have := (unhide dk).size; omega)
    clear hF hE hk hb4 hb5 d0 d1 d2 d3 dk
    generalize ((w3.setCells q4 0 (u8s (halfL s))).setCells q5 0 (u8s (halfL t))) = W4 at *
    clear hlen
    have hks := (unhide fk).size
    have ls : (u8s (halfL s)).length = 48 := by rw [u8s_len, hsl]
    have lt : (u8s (halfL t)).length = 48 := by rw [u8s_len, htl]
    go_wp2_with fail
    go_region_law (refine step_copyK rfl (.tmp 16) (.tmp 17) rfl ⟨q4, 0, none⟩ 48 96 48 48 w1.heap.size 1 rfl rfl (verC (psnL s) (zs 96)) 61 (unhide f3) (u8s (halfL s)) ls (fun j v hj => by rw [Addr.add_mid]; exact (unhide f4).range j v hj) (by simp [verC, u8s_len, zs, hsl]) (u8s_one _) ?_; intro w5 hg5 hk5)
    have g2 : Hid (Blk w5 (w.heap.size + 1 + 1) 61 (verC 0 (zs 96))) := (unhide f2).drew.kept (unhide hk5) (by simp; omega)
    have g5 : Hid (Blk w5 q5 84 (u8s (halfL t))) := (unhide f5).drew.kept (unhide hk5) (by simp; omega)
    have g3 : Hid (Blk w5 w1.heap.size 61 (verC (psnL s) (halfL s ++ zs 48))) := by
      have := unhide hg5
      rw [splice_ver1 _ _ hsl] at this
      exact this
    have gk : Hid (Kept [] w w5) := (unhide fk).drew.fresh (unhide hk5) (by intro i hi; simp at hi; omega)
    clear hg5 hk5 f2 f3 f4 f5 fk
    go_wp2_with fail
    go_region_law (refine step_copyK rfl (.tmp 20) (.tmp 21) rfl ⟨q5, 0, none⟩ 48 48 48 48 w1.heap.size 49 rfl rfl (verC (psnL s) (halfL s ++ zs 48)) 61 (unhide g3) (u8s (halfL t)) lt (fun j v hj => by rw [Addr.add_mid]; exact (unhide g5).range j v hj) (by simp [verC, u8s_len, zs, hsl, htl]) (u8s_one _) ?_; intro w6 hg6 hk6)
    have h2 : Hid (Blk w6 (w.heap.size + 1 + 1) 61 (verC 0 (zs 96))) := (unhide g2).drew.kept (unhide hk6) (by simp; omega)
    have h3 : Hid (Blk w6 w1.heap.size 61 (verC (psnL s) (halfL s ++ halfL t))) := by
      have := unhide hg6
      rw [splice_ver2 _ _ _ hsl htl] at this
      exact this
    have hk6' : Hid (Kept [] w w6) := (unhide gk).drew.fresh (unhide hk6) (by intro i hi; simp at hi; omega)
    have hvl : (verC (psnL s) (halfL s ++ halfL t)).length = 97 := by simp [verC, u8s_len, hsl, htl]
    clear hg6 hk6 g2 g3 g5 gk
    go_wp2_with (
      first
      | (refine wpLoadA row61 rfl (.tmp 5) rfl w1.heap.size 0 rfl (verC (psnL s) (halfL s ++ halfL t)) hvl (unhide h3).range ?_)
      | (refine wpStoreA row61 rfl (.tmp 4) (.tmp 23) rfl (w.heap.size + 1 + 1) 0 (verC (psnL s) (halfL s ++ halfL t)) rfl rfl hvl (verC_one _ _) ((unhide h2).there (by simp [verC, u8s_len, zs])) ?_))
    have g4 := (unhide h2).put (vs := verC (psnL s) (halfL s ++ halfL t)) (by simp [verC, u8s_len, zs, hsl, htl])
    exact bodyPost_ret (res51 _ _ _ _ rfl hvl g4) rfl ⟨rfl, (unhide hk6').setCells _ _ (by omega)⟩

end Go.Proofs.YtkpkiibahfdomaaDoor.Pg

namespace Go.Proofs.YtkpkiibahfdomaaDoor.Pg
open Go.RowKit

/-- What Put tells. -/
def putL (p n : Int) (s : List Int) : List Int × Int :=
  if (isPageB p && isVer n s) = false then (zs 128, 2) else if n = 0 then (zs 128, 0) else (laidL p 0 n (s.take 48) ++ laidL p 1 n (s.drop 48), 0)
theorem take48 {s : List Int} (hs : Byts 96 s) : Byts 48 (s.take 48) := ⟨by simp [hs.len], fun x hx => hs.byte x (List.mem_of_mem_take hx)⟩
theorem drop48 {s : List Int} (hs : Byts 96 s) : Byts 48 (s.drop 48) := ⟨by simp [hs.len], fun x hx => hs.byte x (List.mem_of_mem_drop hx)⟩
theorem putL_byts {p n : Int} {s : List Int} (hs : Byts 96 s) : Byts 128 (putL p n s).1 := by
  unfold putL
  split
  · exact zs_byts 128
  · split
    · exact zs_byts 128
    · have h1 := laidL_byts (p := p) (h := 0) (n := n) (take48 hs)
      have h2 := laidL_byts (p := p) (h := 1) (n := n) (drop48 hs)
      refine ⟨by simp [h1.len, h2.len], fun x hx => ?_⟩
      rcases List.mem_append.1 hx with h | h
      · exact h1.byte x h
      · exact h2.byte x h

theorem res52 (w : World) (z : Nat) (vs : List Value) (e : Int) (tmps : Array Value) (h4 : tmps[4]?.getD undef = P0 z) (h5 : tmps[5]?.getD undef = .int .i64 e) (hl : vs.length = 128) (hb : Blk w z 30 vs) : (results Tryd.f52 tmps).run Tryd.prog w = .ok (.tuple #[aggV vs, .int .i64 e]) w := by
  have := loadV row30 hl hb
  simp [results, Tryd.results52, h4, h5, this, asAddr]

section
variable {ops : Array Oper} {rest : List Oper} {op : Oper} {a : Act} {w : World} {Q : Exit → Act → World → Prop}
/-- An array or struct is loaded, at an operation that is guarded. -/
theorem wpLoadG {T n : Nat} (hT : Row T n) (x : Operand) (ho : op.op = .load T x) (hw : Region.wanted op (yielded ops a.tmps) = true) (b o : Nat) (hx : a.eval x = .pointer (some ⟨b, o, none⟩)) (vs : List Value) (hl : vs.length = n) (hA : w.rangeAt b o vs)
    (h : wpList Tryd.prog ops Q rest (a.put op.dst (aggV vs)) w) : wpList Tryd.prog ops Q (op :: rest) a w :=
  BigFrame.wpList_want hw fun _ hK => wp_loadA hT x ho b o hx vs hl hA (hK _ _ h)
end

/-- The two sectors, k of them laid. -/
def partL (p n : Int) (s : List Int) : Nat → List Int
  | 0 => zs 128
  | 1 => laidL p 0 n (s.take 48) ++ zs 64
  | _ => laidL p 0 n (s.take 48) ++ laidL p 1 n (s.drop 48)
theorem partL_0 (p n : Int) (s : List Int) : partL p n s 0 = zs 128 := rfl
theorem partL_1 (p n : Int) (s : List Int) : partL p n s 1 = laidL p 0 n (s.take 48) ++ zs 64 := rfl
theorem partL_2 (p n : Int) (s : List Int) : partL p n s 2 = laidL p 0 n (s.take 48) ++ laidL p 1 n (s.drop 48) := rfl
theorem partL_len (p n : Int) (s : List Int) (hs : Byts 96 s) (k : Nat) (hk : k ≤ 2) : (partL p n s k).length = 128 := by
  have h1 := (laidL_byts (p := p) (h := 0) (n := n) (take48 hs)).len
  have h2 := (laidL_byts (p := p) (h := 1) (n := n) (drop48 hs)).len
  match k, hk with
  | 0, _ => simp [partL, zs]
  | 1, _ => simp [partL, zs, h1]
  | 2, _ => simp [partL, h1, h2]
theorem zs2 : zs 128 = zs 64 ++ zs 64 := by simp [zs]
theorem zl (n : Nat) : (u8s (zs n)).length = n := by simp [u8s_len, zs]
theorem build63 (w : World) (p h n : Int) : (Instr.build 63 #[(0, .int .i64 p), (1, .int .i64 h), (2, .int .i64 n)]).run Tryd.prog w = .ok (aggV (stC p h n)) w := by kernel_rfl

theorem body_at {W : World} {b T k : Nat} {n : Int} {s : List Int} (h : Blk W b T (verC n s)) : ∀ j v, (u8s ((s.drop k).take 48))[j]? = some v → W.cell? ((⟨b, 1 + k, none⟩ : Addr).add j) = some v := by
  intro j v hj
  have hl : j < 48 := by
    have := (List.getElem?_eq_some_iff.1 hj).1
    rw [u8s_len, List.length_take] at this
    omega
  rw [Addr.add_mid, h.cell]
  simp only [u8s, List.map_take, List.map_drop] at hj
  rw [List.getElem?_take_of_lt hl, List.getElem?_drop] at hj
  rw [verC, show 1 + k + j = (k + j) + 1 by omega, List.getElem?_cons_succ]
  exact hj
theorem splice_all {n : Nat} {s : List Int} (hs : s.length = n) : splice (u8s (zs n)) 0 (u8s s) = u8s s := by
  unfold splice
  rw [List.take_zero, List.nil_append, u8s_len, hs, List.drop_eq_nil_of_le (by simp [u8s_len, zs]), List.append_nil]

set_option maxHeartbeats 1000000 in
set_option maxRecDepth 100000 in
theorem put_nopage (p n : Int) (s : List Int) (hs : Byts 96 s) (hp : isPageB p = false) (w : World) : Calls Tryd.prog 52 #[.int .i64 p, aggV (verC n s)] w fun e w' => e = .returned (.tuple #[aggV (u8s (zs 128)), .int .i64 2]) ∧ Kept [] w w' := by
  have hvl : (verC n s).length = 97 := by simp [verC, u8s_len, hs.len]
  go_enter Tryd.func52, Tryd.ntmps52
  go_wp2_with (
    first
    | (refine wpBoxA rfl (.tmp 1) rfl (verC n s) rfl ?_)
    | (refine wpAllocV (u8s (zs 128)) zero30 6 rfl rfl rfl ?_
       intro W eW
       have b0 : Hid (Blk W w.heap.size 61 (verC n s)) := by rw [eW]; exact ((Blk.new' rfl).alloc _).alloc _
       have b1 : Hid (Blk W (w.heap.size + 1) 30 (u8s (zs 128))) := by rw [eW]; exact (Blk.new' (by simp)).alloc _
       have b2 : Hid (Blk W (w.heap.size + 1 + 1) 30 (u8s (zs 128))) := by rw [eW]; exact Blk.new' (by simp)
       have hk : Hid (Kept [] w W) := by rw [eW]; exact (((Kept.refl _ _).alloc _).alloc _).alloc _
       have hpg := hide (isPage24 p W)
       have hvr := hide (isVersion25 n s hs.len W)
       rw [hp] at hpg
       clear eW)
    | (refine wpAllocA (u8s (zs 128)) zero30 rfl rfl ?_)
    | (go_at_call 49; refine (unhide hpg).mono ?_; rintro e w1 ⟨rfl, rfl⟩)
    | (refine wpLoadA row30 rfl (.tmp 6) rfl (w.heap.size + 1 + 1) 0 rfl (u8s (zs 128)) (zl 128) (unhide b2).range ?_)
    | (refine wpStoreA row30 rfl (.tmp 4) (.tmp 18) rfl (w.heap.size + 1) 0 (u8s (zs 128)) rfl rfl (zl 128) (u8s_one _) ((unhide b1).there (by rw [zl]; omega)) ?_))
  have hvl2 : (u8s (zs 128)).length = 128 := by rw [u8s_len]; simp [zs]
  have g4 := (unhide b1).put (vs := u8s (zs 128)) (by rw [zl])
  exact bodyPost_ret (res52 _ _ _ _ _ rfl rfl hvl2 g4) rfl ⟨rfl, (unhide hk).setCells _ _ (by omega)⟩

set_option maxHeartbeats 1000000 in
set_option maxRecDepth 100000 in
theorem put_nover (p n : Int) (s : List Int) (hs : Byts 96 s) (hp : isPageB p = true) (hv : isVer n s = false) (w : World) : Calls Tryd.prog 52 #[.int .i64 p, aggV (verC n s)] w fun e w' => e = .returned (.tuple #[aggV (u8s (zs 128)), .int .i64 2]) ∧ Kept [] w w' := by
  have hvl : (verC n s).length = 97 := by simp [verC, u8s_len, hs.len]
  go_enter Tryd.func52, Tryd.ntmps52
  go_wp2_with (
    first
    | (refine wpBoxA rfl (.tmp 1) rfl (verC n s) rfl ?_)
    | (refine wpAllocV (u8s (zs 128)) zero30 6 rfl rfl rfl ?_
       intro W eW
       have b0 : Hid (Blk W w.heap.size 61 (verC n s)) := by rw [eW]; exact ((Blk.new' rfl).alloc _).alloc _
       have b1 : Hid (Blk W (w.heap.size + 1) 30 (u8s (zs 128))) := by rw [eW]; exact (Blk.new' (by simp)).alloc _
       have b2 : Hid (Blk W (w.heap.size + 1 + 1) 30 (u8s (zs 128))) := by rw [eW]; exact Blk.new' (by simp)
       have hk : Hid (Kept [] w W) := by rw [eW]; exact (((Kept.refl _ _).alloc _).alloc _).alloc _
       have hpg := hide (isPage24 p W)
       have hvr := hide (isVersion25 n s hs.len W)
       rw [hp] at hpg
       rw [hv] at hvr
       clear eW)
    | (refine wpAllocA (u8s (zs 128)) zero30 rfl rfl ?_)
    | (go_at_call 49; refine (unhide hpg).mono ?_; rintro e w1 ⟨rfl, rfl⟩)
    | (refine wpLoadG row61 (.tmp 3) rfl rfl w.heap.size 0 rfl (verC n s) hvl (unhide b0).range ?_)
    | (go_at_call 54
       refine (unhide hvr).mono ?_
       rintro e w2 ⟨rfl, k2⟩
       have c0 : Hid (Blk w2 w.heap.size 61 (verC n s)) := (unhide b0).kept k2 (by simp)
       have c1 : Hid (Blk w2 (w.heap.size + 1) 30 (u8s (zs 128))) := (unhide b1).kept k2 (by simp)
       have c2 : Hid (Blk w2 (w.heap.size + 1 + 1) 30 (u8s (zs 128))) := (unhide b2).kept k2 (by simp)
       have ck : Hid (Kept [] w w2) := (unhide hk).trans k2
       clear b0 b1 b2 hk k2 hvr hpg)
    | (refine wpLoadA row30 rfl (.tmp 6) rfl (w.heap.size + 1 + 1) 0 rfl (u8s (zs 128)) (zl 128) (unhide c2).range ?_)
    | (refine wpStoreA row30 rfl (.tmp 4) (.tmp 18) rfl (w.heap.size + 1) 0 (u8s (zs 128)) rfl rfl (zl 128) (u8s_one _) ((unhide c1).there (by rw [zl]; omega)) ?_))
  have hvl2 : (u8s (zs 128)).length = 128 := by rw [u8s_len]; simp [zs]
  have g4 := (unhide c1).put (vs := u8s (zs 128)) (by rw [zl])
  exact bodyPost_ret (res52 _ _ _ _ _ rfl rfl hvl2 g4) rfl ⟨rfl, (unhide ck).setCells _ _ (by omega)⟩

set_option maxHeartbeats 1000000 in
set_option maxRecDepth 100000 in
theorem put_zero (p : Int) (s : List Int) (hs : Byts 96 s) (hp : isPageB p = true) (hv : isVer 0 s = true)  (w : World) : Calls Tryd.prog 52 #[.int .i64 p, aggV (verC 0 s)] w fun e w' => e = .returned (.tuple #[aggV (u8s (zs 128)), .int .i64 0]) ∧ Kept [] w w' := by
  have hvl : (verC 0 s).length = 97 := by simp [verC, u8s_len, hs.len]
  go_enter Tryd.func52, Tryd.ntmps52
  go_wp2_with (
    first
    | (refine wpBoxA rfl (.tmp 1) rfl (verC 0 s) rfl ?_)
    | (refine wpAllocV (u8s (zs 128)) zero30 6 rfl rfl rfl ?_
       intro W eW
       have b0 : Hid (Blk W w.heap.size 61 (verC 0 s)) := by rw [eW]; exact ((Blk.new' rfl).alloc _).alloc _
       have b1 : Hid (Blk W (w.heap.size + 1) 30 (u8s (zs 128))) := by rw [eW]; exact (Blk.new' (by simp)).alloc _
       have b2 : Hid (Blk W (w.heap.size + 1 + 1) 30 (u8s (zs 128))) := by rw [eW]; exact Blk.new' (by simp)
       have hk : Hid (Kept [] w W) := by rw [eW]; exact (((Kept.refl _ _).alloc _).alloc _).alloc _
       have hpg := hide (isPage24 p W)
       have hvr := hide (isVersion25 0 s hs.len W)
       rw [hp] at hpg
       rw [hv] at hvr
       clear eW)
    | (refine wpAllocA (u8s (zs 128)) zero30 rfl rfl ?_)
    | (go_at_call 49; refine (unhide hpg).mono ?_; rintro e w1 ⟨rfl, rfl⟩)
    | (refine wpLoadG row61 (.tmp 3) rfl rfl w.heap.size 0 rfl (verC 0 s) hvl (unhide b0).range ?_)
    | (go_at_call 54
       refine (unhide hvr).mono ?_
       rintro e w2 ⟨rfl, k2⟩
       have c0 : Hid (Blk w2 w.heap.size 61 (verC 0 s)) := (unhide b0).kept k2 (by simp)
       have c1 : Hid (Blk w2 (w.heap.size + 1) 30 (u8s (zs 128))) := (unhide b1).kept k2 (by simp)
       have c2 : Hid (Blk w2 (w.heap.size + 1 + 1) 30 (u8s (zs 128))) := (unhide b2).kept k2 (by simp)
       have ck : Hid (Kept [] w w2) := (unhide hk).trans k2
       have cn := fits_cell (unhide c0) 0 (.int .i64 0) rfl
       clear b0 b1 b2 hk k2 hvr hpg)
    | (refine wpLoadA row30 rfl (.tmp 6) rfl (w.heap.size + 1 + 1) 0 rfl (u8s (zs 128)) (zl 128) (unhide c2).range ?_)
    | (refine wpStoreA row30 rfl (.tmp 4) (.tmp 23) rfl (w.heap.size + 1) 0 (u8s (zs 128)) rfl rfl (zl 128) (u8s_one _) ((unhide c1).there (by rw [zl]; omega)) ?_))
  have hvl2 : (u8s (zs 128)).length = 128 := by rw [u8s_len]; simp [zs]
  have g4 := (unhide c1).put (vs := u8s (zs 128)) (by rw [zl])
  exact bodyPost_ret (res52 _ _ _ _ _ rfl rfl hvl2 g4) rfl ⟨rfl, (unhide ck).setCells _ _ (by omega)⟩

end Go.Proofs.YtkpkiibahfdomaaDoor.Pg
