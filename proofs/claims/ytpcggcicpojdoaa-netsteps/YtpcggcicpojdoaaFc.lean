/-
  At, Look, To of both nets; bytes that are written over.
-/
import Derived.Test.YtpcggcicpojdoaaEa
import Derived.Test.YtpcggcicpojdoaaKna
namespace Go.Proofs.Ytpcggcicpojdoaa
open Go.RowKit

def psigAt (S : List (Int × Int × Int × List Int)) (i : Int) : Option (Int × Int × Int × List Int) := if 0 ≤ i then S[i.toNat]? else none
def sig0 : Int × Int × Int × List Int := (0, 0, 0, [])
theorem psigAt_none {L : List Ltr} {i : Int} (h : i < 0 ∨ (L.length : Int) ≤ i) : psigAt (sigs L) i = none := by
  unfold psigAt
  split
  · rw [List.getElem?_eq_none (by rw [sigs_len]; omega)]
  · rfl
theorem psigAt_some {L : List Ltr} {i : Nat} {l : Ltr} (h : L[i]? = some l) : psigAt (sigs L) i = some l.sig := by
  unfold psigAt
  rw [if_pos (by omega), Int.toNat_natCast]
  simp [sigs, h]
set_option maxHeartbeats 1000000 in
theorem at_lo (b mb : Nat) (v : Value) (N : Nn) (i : Int) (w : World) (h : Nt w b mb v N) (hi : i < 0) : Calls Try.prog 24 #[P0 b, .int .i64 i] w fun e w' => e = .returned (.tuple #[aggV zL, .bool false]) ∧ Kept [] w w' := by
  have PT := hide (fun W (hk : Kept [] w W) => len21 b mb _ N W (h.kept0 hk))
  clear h
  go_enter Try.func24, Try.ntmps24
  go_wp2_with (
    first
    | (refine wpAllocW zL alloc47 4 (by rfl) (by rfl) (by rfl) ?_
       intro W2 p2 e2 B2 K2
       have HF2 : Hid (w.heap.size ≤ p2) := by rw [e2]; exact Nat.le_refl _
       have HZ := hide B2
       have HK := hide K2
       clear e2 B2 K2
       refine Stp.go ?_))
  constructor
  go_wp2_with (
    first
    | (refine wpBuildZ zL build47 (by rfl) (by rfl) ?_
       refine Stp.go ?_))
  constructor
  go_wp2_with (
    first
    | (refine wpStoreW row47 (by rfl) (.tmp 4) (.tmp 14) (by rfl) (by rfl) p2 zL (zL) (by kernel_rfl) (by kernel_rfl) rfl (zL_one) (unhide HZ) rfl ?_
       intro W5 B5 K5
       replace HZ := hide B5
       replace HK := hide ((unhide HK).fresh K5 (fun i hi hl => by have : w.heap.size ≤ p2 := unhide HF2; simp at hi; omega))
       clear B5 K5))
  exact bodyPost_ret (res24 _ p2 zL false _ rfl rfl rfl (unhide HZ)) rfl ⟨rfl, unhide HK⟩
set_option maxHeartbeats 1000000 in
theorem at_hi (b mb : Nat) (v : Value) (N : Nn) (i : Int) (w : World) (h : Nt w b mb v N) (hi : (N.L.length : Int) ≤ i) : Calls Try.prog 24 #[P0 b, .int .i64 i] w fun e w' => e = .returned (.tuple #[aggV zL, .bool false]) ∧ Kept [] w w' := by
  have PT := hide (fun W (hk : Kept [] w W) => len21 b mb _ N W (h.kept0 hk))
  have hi0 : ¬ i < 0 := by omega
  clear h
  go_enter Try.func24, Try.ntmps24
  go_wp2_with (
    first
    | (refine wpAllocW zL alloc47 4 (by rfl) (by rfl) (by rfl) ?_
       intro W2 p2 e2 B2 K2
       have HF2 : Hid (w.heap.size ≤ p2) := by rw [e2]; exact Nat.le_refl _
       have HZ := hide B2
       have HK := hide K2
       clear e2 B2 K2
       refine Stp.go ?_))
  constructor
  go_wp2_with (
    first
    | (go_at_call 21
       refine (unhide PT _ (unhide HK)).mono ?_
       rintro e V1 ⟨rfl, hw1⟩
       obtain rfl := hw1.symm
       clear hw1
       refine Stp.go ?_))
  constructor
  go_wp2_with (
    first
    | (refine wpBuildZ zL build47 (by rfl) (by rfl) ?_
       refine Stp.go ?_))
  constructor
  go_wp2_with (
    first
    | (refine wpStoreW row47 (by rfl) (.tmp 4) (.tmp 14) (by rfl) (by rfl) p2 zL (zL) (by kernel_rfl) (by kernel_rfl) rfl (zL_one) (unhide HZ) rfl ?_
       intro W5 B5 K5
       replace HZ := hide B5
       replace HK := hide ((unhide HK).fresh K5 (fun i hi hl => by have : w.heap.size ≤ p2 := unhide HF2; simp at hi; omega))
       clear B5 K5))
  exact bodyPost_ret (res24 _ p2 zL false _ rfl rfl rfl (unhide HZ)) rfl ⟨rfl, unhide HK⟩
theorem pat24 (b mb : Nat) (v : Value) (N : Nn) (i : Int) (w : World) (h : Nt w b mb v N) : Calls Try.prog 24 #[P0 b, .int .i64 i] w fun e w' => ∃ l : Ltr, e = .returned (.tuple #[aggV l.C, .bool (psigAt N.pl.S i).isSome]) ∧ l.sig = (psigAt N.pl.S i).getD sig0 ∧ Bod w' l.v l.bs ∧ (∀ j, l.v.ownBlock = some j → w.heap.size ≤ j) ∧ Kept [] w w' := by
  show Calls Try.prog 24 #[P0 b, .int .i64 i] w fun e w' => ∃ l : Ltr, e = .returned (.tuple #[aggV l.C, .bool (psigAt (sigs N.L) i).isSome]) ∧ l.sig = (psigAt (sigs N.L) i).getD sig0 ∧ Bod w' l.v l.bs ∧ (∀ j, l.v.ownBlock = some j → w.heap.size ≤ j) ∧ Kept [] w w'
  by_cases h0 : i < 0
  · rw [psigAt_none (.inl h0)]
    exact (at_lo b mb v N i w h h0).mono (by rintro e w' ⟨rfl, hk⟩; exact ⟨zLtr, rfl, rfl, bod_nil _, (fun j hj => by cases hj), hk⟩)
  · by_cases h1 : (N.L.length : Int) ≤ i
    · rw [psigAt_none (.inr h1)]
      exact (at_hi b mb v N i w h h1).mono (by rintro e w' ⟨rfl, hk⟩; exact ⟨zLtr, rfl, rfl, bod_nil _, (fun j hj => by cases hj), hk⟩)
    · obtain ⟨n, rfl⟩ : ∃ n : Nat, i = n := ⟨i.toNat, by omega⟩
      obtain ⟨l, hl⟩ : ∃ l, N.L[n]? = some l := ⟨_, List.getElem?_eq_getElem (by omega)⟩
      rw [psigAt_some hl]
      refine (at_in b mb v N n l w h hl).mono ?_
      rintro e w' ⟨u, rfl, h2, h3, h4⟩
      exact ⟨⟨l.num, l.fr, l.to, u, l.bs⟩, rfl, rfl, h2, h3, h4⟩
theorem plook_isSome (L : List Ltr) (k : Int) : (pidx k (sigs L) 0).isSome = (placeOf k L 0).isSome := by rw [pidx_place]; simp
def plook (S : List (Int × Int × Int × List Int)) (k : Int) : Int × Int × Int × List Int := match pidx k S 0 with
  | none => sig0
  | some x => x.2
theorem plook_sig (L : List Ltr) (k : Int) : plook (sigs L) k = (lookL k L).sig := by
  unfold plook lookL
  rw [pidx_place]
  cases placeOf k L 0 <;> rfl
theorem plk34 (b mb : Nat) (v : Value) (N : Nn) (k : Int) (w : World) (h : Nt w b mb v N) : Calls Try.prog 34 #[P0 b, .int .i64 k] w fun e w' => ∃ l : Ltr, e = .returned (.tuple #[aggV l.C, .bool (pidx k N.pl.S 0).isSome]) ∧ l.sig = plook N.pl.S k ∧ Bod w' l.v l.bs ∧ (∀ j, l.v.ownBlock = some j → w.heap.size ≤ j) ∧ Kept [] w w' := by
  refine (look34 b mb v N k w h).mono ?_
  rintro e w' ⟨u, rfl, h2, h3, h4⟩
  exact ⟨⟨(lookL k N.L).num, (lookL k N.L).fr, (lookL k N.L).to, u, (lookL k N.L).bs⟩, by rw [← plook_isSome]; rfl, (plook_sig N.L k).symm, h2, h3, h4⟩
theorem res32 (w : World) (z : Nat) (vs : List Value) (f : Bool) (tmps : Array Value) (hl : vs.length = 4) (h4 : tmps[4]?.getD undef = P0 z) (h5 : tmps[5]?.getD undef = .bool f) (hb : Blk w z 47 vs) : (results Try.f32 tmps).run Try.prog w = .ok (.tuple #[aggV vs, .bool f]) w := by
  have := loadV row47 hl hb
  simp [results, Try.results32, h4, h5, this, asAddr]
theorem res35 (w : World) (z : Nat) (vs : List Value) (f : Bool) (tmps : Array Value) (hl : vs.length = 4) (h4 : tmps[4]?.getD undef = P0 z) (h5 : tmps[5]?.getD undef = .bool f) (hb : Blk w z 47 vs) : (results Try.f35 tmps).run Try.prog w = .ok (.tuple #[aggV vs, .bool f]) w := by
  have := loadV row47 hl hb
  simp [results, Try.results35, h4, h5, this, asAddr]
set_option maxHeartbeats 1000000 in
theorem rat_lo (r : Nat) (lv : Value) (R : Nn) (i : Int) (w : World) (h : Rt w r lv R) (hi : i < 0) : Calls Try.prog 32 #[P0 r, .int .i64 i] w fun e w' => e = .returned (.tuple #[aggV zL, .bool false]) ∧ Kept [] w w' := by
  obtain ⟨lo, lc, rfl⟩ := owns_slN h.row
  have HR := hide h
  clear h
  go_enter Try.func32, Try.ntmps32
  go_wp2_with (
    first
    | (refine wpAllocW zL alloc47 4 (by rfl) (by rfl) (by rfl) ?_
       intro W2 p2 e2 B2 K2
       have HF2 : Hid (w.heap.size ≤ p2) := by rw [e2]; exact Nat.le_refl _
       have HZ := hide B2
       have HK := hide K2
       have hc1 := ((unhide HR).kept0 K2).cell.2.1
       clear e2 B2 K2
       refine Stp.go ?_))
  constructor
  go_wp2_with (
    first
    | (refine wpBuildZ zL build47 (by rfl) (by rfl) ?_
       refine Stp.go ?_))
  constructor
  go_wp2_with (
    first
    | (refine wpStoreW row47 (by rfl) (.tmp 4) (.tmp 21) (by rfl) (by rfl) p2 zL (zL) (by kernel_rfl) (by kernel_rfl) rfl (zL_one) (unhide HZ) rfl ?_
       intro W5 B5 K5
       replace HZ := hide B5
       clear hc1
       replace HK := hide ((unhide HK).fresh K5 (fun i hi hl => by have : w.heap.size ≤ p2 := unhide HF2; simp at hi; omega))
       clear B5 K5))
  exact bodyPost_ret (res32 _ p2 zL false _ rfl rfl rfl (unhide HZ)) rfl ⟨rfl, unhide HK⟩
set_option maxHeartbeats 1000000 in
theorem rat_hi (r : Nat) (lv : Value) (R : Nn) (i : Int) (w : World) (h : Rt w r lv R) (hi : (R.L.length : Int) ≤ i) : Calls Try.prog 32 #[P0 r, .int .i64 i] w fun e w' => e = .returned (.tuple #[aggV zL, .bool false]) ∧ Kept [] w w' := by
  have hi0 : ¬ i < 0 := by omega
  obtain ⟨lo, lc, rfl⟩ := owns_slN h.row
  have HR := hide h
  clear h
  go_enter Try.func32, Try.ntmps32
  go_wp2_with (
    first
    | (refine wpAllocW zL alloc47 4 (by rfl) (by rfl) (by rfl) ?_
       intro W2 p2 e2 B2 K2
       have HF2 : Hid (w.heap.size ≤ p2) := by rw [e2]; exact Nat.le_refl _
       have HZ := hide B2
       have HK := hide K2
       have hc1 := ((unhide HR).kept0 K2).cell.2.1
       clear e2 B2 K2
       refine Stp.go ?_))
  constructor
  go_wp2_with (
    first
    | (refine wpBuildZ zL build47 (by rfl) (by rfl) ?_
       refine Stp.go ?_))
  constructor
  go_wp2_with (
    first
    | (refine wpStoreW row47 (by rfl) (.tmp 4) (.tmp 21) (by rfl) (by rfl) p2 zL (zL) (by kernel_rfl) (by kernel_rfl) rfl (zL_one) (unhide HZ) rfl ?_
       intro W5 B5 K5
       replace HZ := hide B5
       clear hc1
       replace HK := hide ((unhide HK).fresh K5 (fun i hi hl => by have : w.heap.size ≤ p2 := unhide HF2; simp at hi; omega))
       clear B5 K5))
  exact bodyPost_ret (res32 _ p2 zL false _ rfl rfl rfl (unhide HZ)) rfl ⟨rfl, unhide HK⟩
set_option maxHeartbeats 1000000 in
theorem rat_in (r : Nat) (lv : Value) (R : Nn) (i : Nat) (l : Ltr) (w : World) (h : Rt w r lv R) (hl : R.L[i]? = some l) : Calls Try.prog 32 #[P0 r, .int .i64 i] w fun e w' => e = .returned (.tuple #[aggV l.C, .bool true]) ∧ Kept [] w w' := by
  have hlt : i < R.L.length := (List.getElem?_eq_some_iff.1 hl).1
  have hbo := h.body l (List.mem_of_getElem? hl)
  obtain ⟨lo, lc, rfl⟩ := owns_slN h.row
  obtain ⟨g, rfl, hRG⟩ := cellsL_at h.row hl
  have HRG := hide hRG
  have HR := hide h
  have HB := hide hbo.one
  have hi0 : (0 : Int) ≤ i := by omega
  have hi1 : (i : Int) < R.L.length := by omega
  have hi2 : ¬ ((R.L.length : Int) ≤ i) := by omega
  clear h hRG hl hbo
  go_enter Try.func32, Try.ntmps32
  go_wp2_with (
    first
    | (refine wpAllocW zL alloc47 4 (by rfl) (by rfl) (by rfl) ?_
       intro W2 p2 e2 B2 K2
       have HF2 : Hid (w.heap.size ≤ p2) := by rw [e2]; exact Nat.le_refl _
       have HZ := hide B2
       have HK := hide K2
       have hc1 := ((unhide HR).kept0 K2).cell.2.1
       replace HRG : Hid (W2.rangeAt g (i * 4) l.C) := fun j u hj => K2.cell (unhide HRG j u hj) (by simp)
       clear e2 B2 K2
       refine Stp.go ?_))
  constructor
  go_wp2_with (
    first
    | (refine wpLoadA row47 (by rfl) (.tmp 27) (by rfl) g (i * 4) (by kernel_rfl) l.C rfl (unhide HRG) ?_
       refine Stp.go ?_))
  constructor
  go_wp2_with (
    first
    | (refine wpStoreW row47 (by rfl) (.tmp 4) (.tmp 28) (by rfl) (by rfl) p2 zL (l.C) (by kernel_rfl) (by kernel_rfl) rfl (D_one (l := l) (unhide HB)) (unhide HZ) rfl ?_
       intro W5 B5 K5
       replace HZ := hide B5
       clear hc1
       replace HK := hide ((unhide HK).fresh K5 (fun i hi hl => by have : w.heap.size ≤ p2 := unhide HF2; simp at hi; omega))
       clear B5 K5))
  exact bodyPost_ret (res32 _ p2 l.C true _ rfl rfl rfl (unhide HZ)) rfl ⟨rfl, unhide HK⟩
theorem prat32 (r : Nat) (lv : Value) (R : Nn) (i : Int) (w : World) (h : Rt w r lv R) : Calls Try.prog 32 #[P0 r, .int .i64 i] w fun e w' => ∃ l : Ltr, e = .returned (.tuple #[aggV l.C, .bool (psigAt R.pl.S i).isSome]) ∧ l.sig = (psigAt R.pl.S i).getD sig0 ∧ Bod w' l.v l.bs ∧ Kept [] w w' := by
  show Calls Try.prog 32 #[P0 r, .int .i64 i] w fun e w' => ∃ l : Ltr, e = .returned (.tuple #[aggV l.C, .bool (psigAt (sigs R.L) i).isSome]) ∧ l.sig = (psigAt (sigs R.L) i).getD sig0 ∧ Bod w' l.v l.bs ∧ Kept [] w w'
  by_cases h0 : i < 0
  · rw [psigAt_none (.inl h0)]
    exact (rat_lo r lv R i w h h0).mono (by rintro e w' ⟨rfl, hk⟩; exact ⟨zLtr, rfl, rfl, bod_nil _, hk⟩)
  · by_cases h1 : (R.L.length : Int) ≤ i
    · rw [psigAt_none (.inr h1)]
      exact (rat_hi r lv R i w h h1).mono (by rintro e w' ⟨rfl, hk⟩; exact ⟨zLtr, rfl, rfl, bod_nil _, hk⟩)
    · obtain ⟨n, rfl⟩ : ∃ n : Nat, i = n := ⟨i.toNat, by omega⟩
      obtain ⟨l, hl⟩ : ∃ l, R.L[n]? = some l := ⟨_, List.getElem?_eq_getElem (by omega)⟩
      rw [psigAt_some hl]
      refine (rat_in r lv R n l w h hl).mono ?_
      rintro e w' ⟨rfl, h4⟩
      exact ⟨l, rfl, rfl, (h.body l (List.mem_of_getElem? hl)).kept h4 (by simp), h4⟩
set_option maxHeartbeats 1000000 in
theorem rlook_none (r : Nat) (lv : Value) (R : Nn) (k : Int) (w : World) (h : Rt w r lv R) (hmany : R.L.length ≤ 4096) (hp : placeOf k R.L 0 = none) : Calls Try.prog 35 #[P0 r, .int .i64 k] w fun e w' => e = .returned (.tuple #[aggV zL, .bool false]) ∧ Kept [] w w' := by
  have P49 := hide (fun W (hk : Kept [] w W) => find49 r lv R k W (h.kept0 hk) hmany)
  rw [findI_none hp] at P49
  clear h
  go_enter Try.func35, Try.ntmps35
  go_wp2_with (
    first
    | (refine wpAllocW zL alloc47 4 (by rfl) (by rfl) (by rfl) ?_
       intro W2 p2 e2 B2 K2
       have HF2 : Hid (w.heap.size ≤ p2) := by rw [e2]; exact Nat.le_refl _
       have HZ := hide B2
       have HK := hide K2
       clear e2 B2 K2
       refine Stp.go ?_))
  constructor
  go_wp2_with (
    first
    | (go_at_call 49
       refine (unhide P49 _ (unhide HK)).mono ?_
       rintro e V1 ⟨rfl, hw1⟩
       obtain rfl := hw1.symm
       clear hw1
       refine Stp.go ?_))
  constructor
  go_wp2_with (
    first
    | (refine wpBuildZ zL build47 (by rfl) (by rfl) ?_
       refine Stp.go ?_))
  constructor
  go_wp2_with (
    first
    | (refine wpStoreW row47 (by rfl) (.tmp 4) (.tmp 14) (by rfl) (by rfl) p2 zL (zL) (by kernel_rfl) (by kernel_rfl) rfl (zL_one) (unhide HZ) rfl ?_
       intro W5 B5 K5
       replace HZ := hide B5
       replace HK := hide ((unhide HK).fresh K5 (fun i hi hl => by have : w.heap.size ≤ p2 := unhide HF2; simp at hi; omega))
       clear B5 K5))
  exact bodyPost_ret (res35 _ p2 zL false _ rfl rfl rfl (unhide HZ)) rfl ⟨rfl, unhide HK⟩
theorem cg49 (vs : Array Value) (w : World) : (callFunc 49 vs).run Try.prog w = .ok (.enter 49 vs) w := by kernel_rfl
/-- What the region of Look keeps. -/
@[reducible] def S35 (V : World) (p : Nat) (l : Ltr) (d : Nat → Bool) (_ : Nat → Value) (W : World) : Prop := (d 9 = false → Kept [] V W) ∧ (d 9 = true → Kept [p] V W ∧ Blk W p 47 l.C)
theorem S35.loc {V : World} {p : Nat} {l : Ltr} : ∀ d d' vs vs' W, (∀ i ∈ [9], d i = d' i ∧ vs i = vs' i) → S35 V p l d vs W → S35 V p l d' vs' W := by
  intro d d' vs vs' W H h
  have e := H 9 (by simp)
  unfold S35 at h ⊢
  rw [← e.1]
  exact h
set_option maxHeartbeats 2000000 in
set_option maxRecDepth 100000 in
theorem rlook_yes (r : Nat) (lv : Value) (R : Nn) (k : Int) (w : World) (h : Rt w r lv R) (hmany : R.L.length ≤ 4096) (i : Nat) (l0 : Ltr) (hp : placeOf k R.L 0 = some (i, l0)) : Calls Try.prog 35 #[P0 r, .int .i64 k] w fun e w' => e = .returned (.tuple #[aggV l0.C, .bool true]) ∧ Kept [] w w' := by
  have P49 := hide (fun W (hk : Kept [] w W) => find49 r lv R k W (h.kept0 hk) hmany)
  rw [findI_some hp] at P49
  obtain ⟨_, hl, _⟩ := placeOf_some hp
  rw [Nat.sub_zero] at hl
  have HB := hide (h.body l0 (List.mem_of_getElem? hl)).one
  have HLT : Hid (i < R.L.length) := (List.getElem?_eq_some_iff.1 hl).1
  obtain ⟨lo, lc, rfl⟩ := owns_slN h.row
  obtain ⟨g, rfl, hRG⟩ := cellsL_at h.row hl
  have HRG := hide hRG
  have HR := hide h
  have hi0 : ¬ ((i : Int) < 0) := by omega
  clear h hRG hl hp
  go_enter Try.func35, Try.ntmps35
  go_wp2_with (
    first
    | (refine wpAllocW zL alloc47 4 (by rfl) (by rfl) (by rfl) ?_
       intro W2 p2 e2 B2 K2
       have HF2 : Hid (w.heap.size ≤ p2) := by rw [e2]; exact Nat.le_refl _
       have HZ := hide B2
       have HK := hide K2
       replace HRG : Hid (W2.rangeAt g (i * 4) l0.C) := fun j u hj => K2.cell (unhide HRG j u hj) (by simp)
       clear e2 B2 K2
       refine Stp.go ?_))
  constructor
  go_wp2_with (
    first
    | (go_at_call 49
       refine (unhide P49 _ (unhide HK)).mono ?_
       rintro e V1 ⟨rfl, hw1⟩
       obtain rfl := hw1.symm
       clear hw1
       refine Stp.go ?_))
  constructor
  go_wp2_with fail
  refine wp_region_any mixed (wpAny_gx 11 rfl (by kernel_rfl) [some (P0 r), some (P0 r), some (.pointer (some ⟨r, 1, none⟩)), some (.slice (some ⟨g, 0, none⟩) R.L.length lc), some (P0 r), some (.int .i64 k), some (.int .i64 i), some (.pointer (some ⟨g, i * 4, none⟩)), some (aggV l0.C), none, some (.bool true)] rfl (by kernel_rfl) (fun l vs W => (S35 W2 p2 l0) (fun i => l.getD i false) vs W) (⟨fun _ => ⟨rfl, rfl, rfl, Nat.le_refl _, fun _ _ _ => rfl⟩, fun h => by cases h⟩) ?_ ?_)
  · intro ix o' hi ho a' w2 l vs hls hlf hJ hout hin hdep hnot
    match ix, ho with
    | 0, ho =>
      obtain rfl := Option.some.inj ho
      have e0 := hout 0 (by kernel_rfl)
      replace e0 : a'.eval (.tmp 0) = _ := e0.trans rfl
      exact wp_move (.tmp 0) rfl _ e0 ⟨_, rfl, told_of rfl, keepG (St := (S35 W2 p2 l0)) [9] S35.loc (by omega) (by decide) hJ⟩
    | 1, ho =>
      obtain rfl := Option.some.inj ho
      have e0 : a'.eval (.tmp 15) = P0 r := by have h9 := hin 0 15 (by kernel_rfl) (by kernel_rfl); exact h9.1.trans (told_is _ h9.2 rfl)
      exact o_nil (.tmp 15) rfl _ e0 ⟨_, rfl, told_of rfl, keepG (St := (S35 W2 p2 l0)) [9] S35.loc (by omega) (by decide) hJ⟩
    | 2, ho =>
      obtain rfl := Option.some.inj ho
      have e0 : a'.eval (.tmp 16) = P0 r := by have h9 := hin 1 16 (by kernel_rfl) (by kernel_rfl); exact h9.1.trans (told_is _ h9.2 rfl)
      exact o_fld60_1 (.tmp 16) rfl _ e0 ⟨_, rfl, told_of rfl, keepG (St := (S35 W2 p2 l0)) [9] S35.loc (by omega) (by decide) hJ⟩
    | 3, ho =>
      obtain rfl := Option.some.inj ho
      have e0 : a'.eval (.tmp 17) = .pointer (some ⟨r, 1, none⟩) := by have h9 := hin 2 17 (by kernel_rfl) (by kernel_rfl); exact h9.1.trans (told_is _ h9.2 rfl)
      exact o_load43 (.tmp 17) rfl _ _ e0 (fits_cell (((unhide HR).head.kept (unhide HK) (by simp)).kept (hJ.1 (hnot 9 (by kernel_rfl))) (by simp)) 1 _ rfl) ⟨_, rfl, told_of rfl, keepG (St := (S35 W2 p2 l0)) [9] S35.loc (by omega) (by decide) hJ⟩
    | 4, ho =>
      obtain rfl := Option.some.inj ho
      have e0 := hout 0 (by kernel_rfl)
      replace e0 : a'.eval (.tmp 0) = _ := e0.trans rfl
      exact wp_move (.tmp 0) rfl _ e0 ⟨_, rfl, told_of rfl, keepG (St := (S35 W2 p2 l0)) [9] S35.loc (by omega) (by decide) hJ⟩
    | 5, ho =>
      obtain rfl := Option.some.inj ho
      have e0 := hout 1 (by kernel_rfl)
      replace e0 : a'.eval (.tmp 1) = _ := e0.trans rfl
      exact wp_move (.tmp 1) rfl _ e0 ⟨_, rfl, told_of rfl, keepG (St := (S35 W2 p2 l0)) [9] S35.loc (by omega) (by decide) hJ⟩
    | 6, ho =>
      obtain rfl := Option.some.inj ho
      have e0 : a'.eval (.tmp 19) = P0 r := by have h9 := hin 4 19 (by kernel_rfl) (by kernel_rfl); exact h9.1.trans (told_is _ h9.2 rfl)
      have e1 : a'.eval (.tmp 20) = .int .i64 k := by have h9 := hin 5 20 (by kernel_rfl) (by kernel_rfl); exact h9.1.trans (told_is _ h9.2 rfl)
      refine wp_callF 49 _ _ rfl #[P0 r, .int .i64 k] (by simp [e0, e1]) (cg49 _ _) ((unhide P49 w2 ((unhide HK).trans (hJ.1 (hnot 9 (by kernel_rfl))))).mono ?_)
      rintro e w3 ⟨rfl, rfl⟩
      exact ⟨_, rfl, _, rfl, told_of rfl, keepG (St := (S35 W2 p2 l0)) [9] S35.loc (by omega) (by decide) hJ⟩
    | 7, ho =>
      obtain rfl := Option.some.inj ho
      have e0 : a'.eval (.tmp 18) = .slice (some ⟨g, 0, none⟩) R.L.length lc := by have h9 := hin 3 18 (by kernel_rfl) (by kernel_rfl); exact h9.1.trans (told_is _ h9.2 rfl)
      have e1 : a'.eval (.tmp 21) = .int .i64 i := by have h9 := hin 6 21 (by kernel_rfl) (by kernel_rfl); exact h9.1.trans (told_is _ h9.2 rfl)
      exact o_ix43 (.tmp 18) (.tmp 21) rfl g _ lc i (unhide HLT) e0 e1 ⟨_, rfl, told_of rfl, keepG (St := (S35 W2 p2 l0)) [9] S35.loc (by omega) (by decide) hJ⟩
    | 8, ho =>
      obtain rfl := Option.some.inj ho
      have e0 : a'.eval (.tmp 22) = .pointer (some ⟨g, i * 4, none⟩) := by have h9 := hin 7 22 (by kernel_rfl) (by kernel_rfl); exact h9.1.trans (told_is _ h9.2 rfl)
      exact wp_loadA row47 (.tmp 22) rfl g (i * 4) e0 l0.C rfl (fun j u hj => (hJ.1 (hnot 9 (by kernel_rfl))).cell (unhide HRG j u hj) (by simp)) ⟨_, rfl, told_of rfl, keepG (St := (S35 W2 p2 l0)) [9] S35.loc (by omega) (by decide) hJ⟩
    | 9, ho =>
      obtain rfl := Option.some.inj ho
      have e0 : a'.eval (.tmp 23) = aggV l0.C := by have h9 := hin 8 23 (by kernel_rfl) (by kernel_rfl); exact h9.1.trans (told_is _ h9.2 rfl)
      have ez := hout 4 (by kernel_rfl)
      replace ez : a'.eval (.tmp 4) = _ := ez.trans rfl
      have hz := (unhide HZ).kept (hJ.1 hlf) (by simp)
      exact wp_storeN row47 (.tmp 4) (.tmp 23) rfl rfl p2 0 l0.C ez e0 rfl (D_one (l := l0) (unhide HB)) (hz.there (by decide)) ⟨undef, rfl, told_no rfl, nextG (St := (S35 W2 p2 l0)) (by omega) ⟨(fun h => by cases h), fun _ => ⟨((hJ.1 hlf).mono (by simp)).setCells _ _ (by simp), hz.put rfl⟩⟩⟩
    | 10, ho =>
      obtain rfl := Option.some.inj ho
      exact wp_assignV (.const (.bool true)) rfl _ rfl ⟨_, rfl, told_of rfl, keepG (St := (S35 W2 p2 l0)) [9] S35.loc (by omega) (by decide) hJ⟩
  intro l vs w9 hl hJ htold
  have t0 : vs 0 = P0 r := told_is _ (htold 0 (by decide)) rfl
  have t1 : vs 1 = P0 r := told_is _ (htold 1 (by decide)) rfl
  have t2 : vs 2 = .pointer (some ⟨r, 1, none⟩) := told_is _ (htold 2 (by decide)) rfl
  have t3 : vs 3 = .slice (some ⟨g, 0, none⟩) R.L.length lc := told_is _ (htold 3 (by decide)) rfl
  have t4 : vs 4 = P0 r := told_is _ (htold 4 (by decide)) rfl
  have t5 : vs 5 = .int .i64 k := told_is _ (htold 5 (by decide)) rfl
  have t6 : vs 6 = .int .i64 i := told_is _ (htold 6 (by decide)) rfl
  have t7 : vs 7 = .pointer (some ⟨g, i * 4, none⟩) := told_is _ (htold 7 (by decide)) rfl
  have t8 : vs 8 = aggV l0.C := told_is _ (htold 8 (by decide)) rfl
  have t10 : vs 10 = .bool true := told_is _ (htold 10 (by decide)) rfl
  rw [show (List.range 11).map vs = [vs 0, vs 1, vs 2, vs 3, vs 4, vs 5, vs 6, vs 7, vs 8, vs 9, vs 10] from rfl]
  simp only [t0, t1, t2, t3, t4, t5, t6, t7, t8, t10, putAll, Act.put, List.setIfInBounds_toArray, List.set_cons_succ, List.set_cons_zero]
  clear t0 t1 t2 t3 t4 t5 t6 t7 t8 t10 htold
  obtain ⟨hk9, hb9⟩ := hJ.2 (hl 9 (by decide))
  have HK9 := hide ((unhide HK).fresh hk9 (fun i hi hl => by have : w.heap.size ≤ p2 := unhide HF2; simp at hi; omega))
  have HB9 := hide hb9
  clear hJ hl hk9 hb9
  go_wp2_with fail
  exact bodyPost_ret (res35 _ p2 l0.C true _ rfl rfl rfl (unhide HB9)) rfl ⟨rfl, unhide HK9⟩
theorem prlk35 (r : Nat) (lv : Value) (R : Nn) (k : Int) (w : World) (h : Rt w r lv R) (hmany : R.L.length ≤ 4096) : Calls Try.prog 35 #[P0 r, .int .i64 k] w fun e w' => ∃ l : Ltr, e = .returned (.tuple #[aggV l.C, .bool (pidx k R.pl.S 0).isSome]) ∧ l.sig = plook R.pl.S k ∧ Bod w' l.v l.bs ∧ Kept [] w w' := by
  show Calls Try.prog 35 #[P0 r, .int .i64 k] w fun e w' => ∃ l : Ltr, e = .returned (.tuple #[aggV l.C, .bool (pidx k (sigs R.L) 0).isSome]) ∧ l.sig = plook (sigs R.L) k ∧ Bod w' l.v l.bs ∧ Kept [] w w'
  rw [plook_isSome, plook_sig]
  cases hp : placeOf k R.L 0 with
  | none =>
    refine (rlook_none r lv R k w h hmany hp).mono ?_
    rintro e w' ⟨rfl, h4⟩
    exact ⟨zLtr, rfl, by unfold lookL; rw [hp], bod_nil _, h4⟩
  | some x =>
    obtain ⟨i, l⟩ := x
    refine (rlook_yes r lv R k w h hmany i l hp).mono ?_
    rintro e w' ⟨rfl, h4⟩
    exact ⟨l, rfl, by unfold lookL; rw [hp], (h.body l (look_mem hp)).kept h4 (by simp), h4⟩
set_option maxHeartbeats 2000000 in
set_option maxRecDepth 100000 in
/-- Bytes that are written over. -/
theorem spoil33 (l : Ltr) (w : World) (hB : Bod w l.v l.bs) (hs : l.bs.length ≤ 512) : Calls Try.prog 33 #[aggV l.C] w fun e w' => (∃ v, e = .returned v) ∧ Kept l.v.ownBlock.toList w w' := by
  obtain ⟨num, fr, to, v, bs⟩ := l
  show Calls Try.prog 33 #[aggV [.int .i64 num, .int .i64 fr, .int .i64 to, v]] w fun e w' => (∃ u, e = .returned u) ∧ Kept v.ownBlock.toList w w'
  by_cases h0 : bs = []
  · obtain ⟨ao, c, hv, _, _⟩ := hB.sl
    have hl0 : bs.length = 0 := by rw [h0]; rfl
    replace hv : v = .slice ao bs.length c := hv
    rw [hl0] at hv
    subst hv
    clear hB hs hl0
    go_enter Try.func33, Try.ntmps33
    go_wp2_with (
      first
      | (refine wpBoxV (by rfl) (.tmp 0) (by rfl) [.int .i64 num, .int .i64 fr, .int .i64 to, .slice ao 0 c] (by kernel_rfl) ?_
         intro V1 p1 e1 B1 K1
         have HK := hide K1
         have hx3 := fits_cell B1 3 _ rfl
         clear e1 B1 K1
         refine Stp.go ?_))
    constructor
    go_wp2_with fail
    go_loopw [2] (fun i wr => i = .int .i64 0 ∧ wr = V1) (fun _ _ => 0)
    case atStart => exact ⟨rfl, rfl⟩
    case round =>
      obtain ⟨rfl, rfl⟩ := hrel
      go_wp2_with fail
      go_end0
      exact ⟨⟨_, rfl⟩, (unhide HK).mono (by simp)⟩
  · have hu : u8s bs ≠ [] := by intro e; exact h0 (by have := congrArg List.length e; rw [u8s_len] at this; exact List.length_eq_zero_iff.1 this)
    have hown : w.ownsRow 0 5 1 v (u8s bs).length (u8s bs) := by rw [u8s_len]; exact hB.own
    obtain ⟨g, ex, hv, _, hBk⟩ := owns_blk hown hu
    have hl2 : (u8s bs ++ ex).length = bs.length + ex.length := by rw [List.length_append, u8s_len]
    rw [u8s_len] at hv
    obtain ⟨cap, hcap⟩ : ∃ cap, (u8s bs ++ ex).length = cap := ⟨_, rfl⟩
    rw [hcap] at hv
    replace hs : bs.length ≤ 512 := hs
    have HCL : Hid (bs.length ≤ cap) := by show bs.length ≤ cap; omega
    obtain ⟨m, hm⟩ : ∃ m, bs.length = m := ⟨_, rfl⟩
    rw [hm] at hv hs HCL
    subst hv
    have HB0 := hide hBk
    have HCE := hide hcap
    clear hB hown hBk hl2 hu h0 hcap hm
    show Calls Try.prog 33 #[aggV [.int .i64 num, .int .i64 fr, .int .i64 to, .slice (some ⟨g, 0, none⟩) m cap]] w fun e w' => (∃ u, e = .returned u) ∧ Kept [g] w w'
    go_enter Try.func33, Try.ntmps33
    go_wp2_with (
      first
      | (refine wpBoxV (by rfl) (.tmp 0) (by rfl) [.int .i64 num, .int .i64 fr, .int .i64 to, .slice (some ⟨g, 0, none⟩) m cap] (by kernel_rfl) ?_
         intro V1 p1 e1 B1 K1
         have HK := hide (K1.mono (Y := [g]) (by simp))
         have HX := hide B1
         have HNE : Hid (p1 ≠ g) := by intro e; have h1 := (unhide HB0).lt; omega
         replace HB0 := hide ((unhide HB0).kept K1 (by simp))
         clear e1 B1 K1
         refine Stp.go ?_))
    constructor
    go_wp2_with fail
    go_loopw [2] (fun i wr => ∃ (j : Nat) (us : List Value), j ≤ m ∧ i = .int .i64 j ∧ Hid (us.length = cap) ∧ Hid (Blk wr g 5 us) ∧ Hid (Kept [g] w wr) ∧ Hid (Blk wr p1 47 [.int .i64 num, .int .i64 fr, .int .i64 to, .slice (some ⟨g, 0, none⟩) m cap])) (fun i _ => m - (intOf i).toNat)
    case atStart => exact ⟨0, _, by omega, rfl, HCE, HB0, HK, HX⟩
    case round =>
      clear HK HB0 HX
      obtain ⟨j, us, hj, rfl, HUL, HBr, HKr, HX⟩ := hrel
      have hx3 := fits_cell (unhide HX) 3 _ rfl
      by_cases hlt : j < m
      · have hltI : (j : Int) < (m : Int) := by omega
        go_wp2_with (
          first
          | (refine wpStoreV (T := 5) (b := g) (i := j) (v := .int .u8 102) (by rfl) (.tmp 13) (.const (.int .u8 102)) (by rfl) (by rfl) (by kernel_rfl) (by rfl) 5 us (unhide HBr) (st5 _ _ _ _ _ _ (unhide HBr) (by have h1 := unhide HUL; have h2 : m ≤ cap := unhide HCL; omega)) ?_
             intro V7 B7 K7
             have HB7 := hide B7
             have HK7 := hide K7
             clear B7 K7 hx3
             refine Stp.go ?_))
        constructor
        go_wp2_with fail
        go_roundw
        case rel => exact ⟨j + 1, _, by omega, by go_num, by show (us.set j _).length = cap; rw [List.length_set]; exact unhide HUL, HB7, hide ((unhide HKr).trans (unhide HK7)), hide ((unhide HX).kept (unhide HK7) (by simp; exact unhide HNE))⟩
        case measure => simp [intOf]; omega
      · have hnI : ¬ (j : Int) < (m : Int) := by omega
        go_wp2_with fail
        go_end0
        exact ⟨⟨_, rfl⟩, unhide HKr⟩

end Go.Proofs.Ytpcggcicpojdoaa
