/-
  Letters that are the same; steps that came in; much.
-/
import Derived.Test.YtpcggcicpojdoaaNp
namespace Go.Proofs.Ytpcggcicpojdoaa
open Go.RowKit

set_option maxHeartbeats 1000000 in
theorem same19 (num fr to : Int) (v1 v2 : Value) (bs : List Int) (w : World) (h1 : RowAt w v1 bs) (h2 : RowAt w v2 bs) : Calls Try.prog 19 #[aggV [.int .i64 num, .int .i64 fr, .int .i64 to, v1], aggV [.int .i64 num, .int .i64 fr, .int .i64 to, v2]] w fun e w' => e = .returned (.bool true) ∧ Kept [] w w' := by
  have R1 := hide h1
  have R2 := hide h2
  obtain ⟨a1, c1, rfl, _⟩ := h1
  obtain ⟨a2, c2, rfl, _⟩ := h2
  have HK := hide (Kept.refl [] w)
  go_enter Try.func19, Try.ntmps19
  go_wp2_with (
    first
    | (refine wpBoxV (by rfl) (.tmp 0) (by rfl) [.int .i64 num, .int .i64 fr, .int .i64 to, .slice a1 bs.length c1] (by kernel_rfl) ?_
       intro W1 p1 e1 B1 K1
       have HB := hide B1
       replace HK := hide ((unhide HK).trans K1)
       clear e1 B1 K1
       refine Stp.go ?_))
  constructor
  go_wp2_with (
    first
    | (refine wpBoxV (by rfl) (.tmp 1) (by rfl) [.int .i64 num, .int .i64 fr, .int .i64 to, .slice a2 bs.length c2] (by kernel_rfl) ?_
       intro W2 p2 e2 B2 K2
       replace HB := hide ((unhide HB).kept K2 (by simp))
       replace HK := hide ((unhide HK).trans K2)
       have g0 := fits_cell (unhide HB) 0 _ rfl
       have g1 := fits_cell (unhide HB) 1 _ rfl
       have g2 := fits_cell (unhide HB) 2 _ rfl
       have g3 := fits_cell (unhide HB) 3 _ rfl
       have f0 := fits_cell B2 0 _ rfl
       have f1 := fits_cell B2 1 _ rfl
       have f2 := fits_cell B2 2 _ rfl
       have f3 := fits_cell B2 3 _ rfl
       have hc1 := conv34 ((unhide R1).kept (unhide HK))
       have hc2 := conv34 ((unhide R2).kept (unhide HK))
       clear e2 B2 K2))
  go_ret
  exact ⟨rfl, unhide HK⟩
/-- A step. -/
structure Stq where
  k : Int
  a : Int
  b : Int
  n : Int
  ao : Option Addr
  m : Nat
  c : Nat
  bs : List Int
def Stq.C (x : Stq) : List Value := [.int .i64 x.k, .int .i64 x.a, .int .i64 x.b, .int .i64 x.n, .slice x.ao x.m x.c]
structure Stq.Ok (x : Stq) (w : World) (B : Nat) : Prop where
  vals : Vals w x.ao x.m x.c (u8s x.bs)
  nil : x.ao = none → x.m = 0 ∧ x.c = 0
  byte : ∀ y ∈ x.bs, 0 ≤ y ∧ y < 256
  old : x.bs ≠ [] → ∀ h off, x.ao = some ⟨h, off, none⟩ → h < B
  big : x.m ≤ 1048576
  num : -9223372036854775808 ≤ x.n ∧ x.n ≤ 9223372036854775807
/-- A script that came in. -/
structure Scq (w : World) (B : Nat) (ao : Option Addr) (m c : Nat) (X : List Stq) : Prop where
  len : X.length = m
  cap : m ≤ c
  ok : ∀ x ∈ X, x.Ok w B
  lies : X ≠ [] → ∃ h off, ao = some ⟨h, off, none⟩ ∧ h < B ∧ ∀ (i : Nat) x, X[i]? = some x → w.rangeAt h (off + i * 5) x.C
theorem Stq.Ok.kept {x : Stq} {w w' : World} {B : Nat} {X : List Nat} (h : x.Ok w B) (hk : Kept X w w') (hX : ∀ i ∈ X, B ≤ i) : x.Ok w' B := by
  refine ⟨⟨h.vals.len, h.vals.cap, fun hne => ?_⟩, h.nil, h.byte, h.old, h.big, h.num⟩
  obtain ⟨g, off, e, hr⟩ := h.vals.lies hne
  have hg := h.old (fun e => hne (by rw [e]; rfl)) g off e
  exact ⟨g, off, e, fun j v hj => hk.cell (hr j v hj) (fun hm => by have := hX _ hm; simp at this; omega)⟩
theorem Scq.kept {w w' : World} {B : Nat} {ao : Option Addr} {m c : Nat} {Y : List Stq} {X : List Nat} (h : Scq w B ao m c Y) (hk : Kept X w w') (hX : ∀ i ∈ X, B ≤ i) : Scq w' B ao m c Y := by
  refine ⟨h.len, h.cap, fun x hx => (h.ok x hx).kept hk hX, fun hne => ?_⟩
  obtain ⟨g, off, e, hg, hr⟩ := h.lies hne
  exact ⟨g, off, e, hg, fun i x hi j v hj => hk.cell (hr i x hi j v hj) (fun hm => by have := hX _ hm; simp at this; omega)⟩
set_option maxHeartbeats 1000000 in
theorem much11 (B : Nat) (ao : Option Addr) (m c : Nat) (X : List Stq) (w : World) (h : Scq w B ao m c X) (hm : m ≤ 9223372036854775807) : Calls Try.prog 11 #[.slice ao m c] w fun e w' => ∃ r : Bool, e = .returned (.bool r) ∧ w' = w := by
  have HS := hide h
  clear h
  go_enter Try.func11, Try.ntmps11
  go_wp2
  go_loopw [3, 4] (fun s i wr => ∃ (k : Nat) (t : Int), k ≤ m ∧ k ≤ 100 ∧ s = .int .i64 t ∧ 0 ≤ t ∧ t ≤ 9000 * k ∧ i = .int .i64 k ∧ wr = w) (fun _ i _ => 100 - (intOf i).toNat)
  case atStart => exact ⟨0, 0, by omega, by omega, rfl, by omega, by omega, rfl, rfl⟩
  case round =>
    obtain ⟨k, t, hk, hk1, rfl, ht0, ht1, rfl, rfl⟩ := hrel
    by_cases hlt : k < m
    · by_cases h1 : k < 100
      · obtain ⟨x, hx⟩ : ∃ x, X[k]? = some x := ⟨_, List.getElem?_eq_getElem (by rw [(unhide HS).len]; exact hlt)⟩
        obtain ⟨g, off, rfl, _, hl⟩ := (unhide HS).lies (by intro e; rw [e] at hx; simp at hx)
        have hc4 := hl k x hx 4 _ rfl
        have hbig := ((unhide HS).ok x (List.mem_of_getElem? hx)).big
        have hltI : (k : Int) < m := by omega
        have h1I : (k : Int) < 100 := by omega
        clear hl
        go_wp2
        refine ⟨⟨k + 1, t + (if (9000 : Int) < (x.m : Int) then (9000 : Int) else (x.m : Int)), by omega, by omega, rfl, ?_, ?_, by go_num, trivial⟩, by simp [intOf]; omega⟩
        · split <;> omega
        · split <;> omega
      · go_wp2
        go_ret
        exact ⟨_, rfl, rfl⟩
    · go_wp2
      go_ret
      exact ⟨_, rfl, rfl⟩

end Go.Proofs.Ytpcggcicpojdoaa
