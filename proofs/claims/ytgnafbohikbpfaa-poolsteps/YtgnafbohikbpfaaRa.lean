/-
  The document's pool; which frames may be; finding.
-/
import Derived.Test.YtgnafbohikbpfaaQm
namespace Go.Proofs.Ytgnafbohikbpfaa
set_option maxRecDepth 100000
set_option linter.unusedSimpArgs false
open Go.RowKit


variable {w0 w W W' : World} {b g c mb : Nat} {P Q : Po} {L : List En} {pg : Int} {q k : Nat}
/-- The document's pool stands in memory. -/
structure Rg (W : World) (b g c : Nat) (P : Po) : Prop where
  bk : Blk W b 73 [.slice (some ⟨g, 0, none⟩) P.m c, .int .i64 (P.h : Int)]
  row : ∃ post, Blk W g 84 (plsD P.S P.m ++ post)
  ok : P.Ok
  cm : P.m ≤ c
theorem Rg.step (h : Rg W b g c P) {X : List Nat} (hk : Kept X W W') (h1 : b ∉ X) (h2 : g ∉ X) : Rg W' b g c P := by
  obtain ⟨post, hp⟩ := h.row
  exact ⟨h.bk.kept hk h1, ⟨post, hp.kept hk h2⟩, h.ok, h.cm⟩
theorem Rg.cs (h : Rg W b g c P) : W.cell? ⟨b, 0, none⟩ = some (.slice (some ⟨g, 0, none⟩) P.m c) := fits_cell h.bk 0 _ rfl
theorem Rg.ch (h : Rg W b g c P) : W.cell? ⟨b, 1, none⟩ = some (.int .i64 (P.h : Int)) := fits_cell h.bk 1 _ rfl
theorem Rg.cc (h : Rg W b g c P) {j : Nat} (hk : k < P.m) (hj : j < 105) {v : Value} (hv : (P.S k).D[j]? = some v) : W.cell? ⟨g, k * 105 + j, none⟩ = some v := by
  obtain ⟨post, hp⟩ := h.row
  exact fits_cell hp _ _ (by rw [plsD_at _ _ _ _ _ hk hj]; exact hv)
theorem Rg.cis (h : Rg W b g c P) (hk : k < P.m) : W.cell? ⟨g, k * 105, none⟩ = some (.bool (P.S k).bz) := h.cc (j := 0) hk (by omega) (P.S k).D_is
theorem Rg.cpg (h : Rg W b g c P) (hk : k < P.m) : W.cell? ⟨g, k * 105 + 1, none⟩ = some (.int .i64 (P.S k).f.pg) := h.cc (j := 1) hk (by omega) (by rw [show 1 = 1 + 0 from rfl, (P.S k).D_f 0 (by omega)]; rfl)
theorem Rg.cpn (h : Rg W b g c P) (hk : k < P.m) : W.cell? ⟨g, k * 105 + 103, none⟩ = some (.int .i64 ((P.S k).pn : Int)) := h.cc hk (by omega) (P.S k).D_pn
theorem Rg.cus (h : Rg W b g c P) (hk : k < P.m) : W.cell? ⟨g, k * 105 + 104, none⟩ = some (.bool (P.S k).us) := h.cc hk (by omega) (P.S k).D_us
theorem Rg.frR (h : Rg W b g c P) (hk : k < P.m) : W.rangeAt g (k * 105 + 1) (P.S k).f.C := by
  obtain ⟨post, hp⟩ := h.row
  refine hp.rangeIn _ (fun j hj => ?_)
  rw [Fr.len] at hj
  rw [Nat.add_assoc, plsD_at _ _ _ _ _ hk (by omega), (P.S k).D_f j hj]
theorem Rg.ne (h : Rg W b g c P) : b ≠ g := by
  obtain ⟨post, hp⟩ := h.row
  intro e
  subst e
  have h1 := h.bk
  unfold Blk at h1 hp
  rw [h1] at hp
  injection hp with hp
  injection hp with _ h2 _
  cases h2
theorem find48_z (w : World) (pg : Int) : Calls Try.prog 48 #[.pointer none, .int .i64 pg] w fun e w' => e = .returned (.int .i64 (-1)) ∧ w' = w := by
  go_enter Try.func48, Try.ntmps48
  go_wp2_with fail
  go_loopw [5] (fun xi wr => xi = .int .i64 0 ∧ wr = w) (fun _ _ => 0)
  case atStart => exact ⟨rfl, rfl⟩
  case round =>
    obtain ⟨rfl, rfl⟩ := hrel
    go_wp2_with fail
    go_ret
    exact ⟨rfl, rfl⟩
/-- Where a page's frame is, for the document. -/
def Po.rfnd (P : Po) (pg : Int) : Int := match P.find pg with
  | some q => (q : Int)
  | none => -1
theorem findTo_is {P : Po} {pg : Int} {k : Nat} (h0 : ∀ j, j < k → ¬ (¬ (P.S j).f.md = 0 ∧ (P.S j).f.pg = pg)) (hk : ¬ (P.S k).f.md = 0 ∧ (P.S k).f.pg = pg) : ∀ n, k < n → findTo P pg n = some k := by
  intro n
  induction n with
  | zero => intro h; omega
  | succ n ih =>
    intro h
    unfold findTo
    by_cases e : k < n
    · rw [ih e]
    · obtain rfl : k = n := by omega
      have : findTo P pg k = none := by
        cases hf : findTo P pg k with
        | none => rfl
        | some i => obtain ⟨h1, h2⟩ := findTo_some hf; exact absurd h2 (h0 i h1)
      rw [this]; simp only; rw [if_pos hk]
theorem findTo_no {P : Po} {pg : Int} {n : Nat} (h0 : ∀ j, j < n → ¬ (¬ (P.S j).f.md = 0 ∧ (P.S j).f.pg = pg)) : findTo P pg n = none := by
  cases hf : findTo P pg n with
  | none => rfl
  | some i => obtain ⟨h1, h2⟩ := findTo_some hf; exact absurd h2 (h0 i h1)
set_option maxHeartbeats 1000000 in
theorem find48 (w : World) (h : Rg w b g c P) (pg : Int) : Calls Try.prog 48 #[P0 b, .int .i64 pg] w fun e w' => e = .returned (.int .i64 (P.rfnd pg)) ∧ w' = w := by
  have HP := hide h
  have cs := h.cs
  have hcm := h.cm
  have hm := h.ok.m
  clear h
  go_enter Try.func48, Try.ntmps48
  go_wp2_with fail
  go_loopw [5] (fun xi wr => ∃ k : Nat, k ≤ P.m ∧ xi = .int .i64 k ∧ wr = w ∧ Hid (∀ j, j < k → ¬ (¬ (P.S j).f.md = 0 ∧ (P.S j).f.pg = pg))) (fun xi _ => P.m - (intOf xi).toNat)
  case atStart => exact ⟨0, by omega, rfl, rfl, fun j hj => by omega⟩
  case round =>
    obtain ⟨k, hk, rfl, rfl, HI⟩ := hrel
    by_cases hlt : k < P.m
    · have hd : decide ((k : Int) < (P.m : Int)) = true := by simp; omega
      have hkI : (k : Int) < (P.m : Int) := by omega
      have cpg := (unhide HP).cpg hlt
      by_cases h1 : (P.S k).f.md = 0
      · have cis : wr.cell? ⟨g, k * 105, none⟩ = some (.bool false) := by have h9 := (unhide HP).cis hlt; unfold Pl.bz at h9; rw [h1] at h9; exact h9
        have HI2 : Hid (∀ j, j < k + 1 → ¬ (¬ (P.S j).f.md = 0 ∧ (P.S j).f.pg = pg)) := fun j hj hh => by
          by_cases e : j = k
          · subst e; exact hh.1 h1
          · exact unhide HI j (by omega) hh
        clear h1 cpg
        go_wp2_with fail
        go_roundw
        case rel => exact ⟨k + 1, by omega, by go_num, by trivial, HI2⟩
        case measure => simp [intOf]; omega
      · have cis : wr.cell? ⟨g, k * 105, none⟩ = some (.bool true) := by have h9 := (unhide HP).cis hlt; unfold Pl.bz at h9; rw [decide_eq_false h1] at h9; exact h9
        by_cases h2 : (P.S k).f.pg = pg
        · have HF : Hid (P.rfnd pg = (k : Int)) := by show _ = _; unfold Po.rfnd Po.find; rw [findTo_is (unhide HI) ⟨h1, h2⟩ _ hlt]
          have h2a := eqt_a h2
          have h2b := eqt_b h2
          clear h1 h2
          go_wp2_with fail
          go_ret
          exact ⟨by rw [unhide HF]; rfl, rfl⟩
        · have HI2 : Hid (∀ j, j < k + 1 → ¬ (¬ (P.S j).f.md = 0 ∧ (P.S j).f.pg = pg)) := fun j hj hh => by
            by_cases e : j = k
            · subst e; exact h2 hh.2
            · exact unhide HI j (by omega) hh
          have h2a := nef_a h2
          have h2b := nef_b h2
          clear h1 h2
          go_wp2_with fail
          go_roundw
          case rel => exact ⟨k + 1, by omega, by go_num, by trivial, HI2⟩
          case measure => simp [intOf]; omega
    · obtain rfl : k = P.m := by omega
      have hd : decide ((P.m : Int) < (P.m : Int)) = false := by simp
      have HF : Hid (P.rfnd pg = -1) := by show _ = _; unfold Po.rfnd Po.find; rw [findTo_no (unhide HI)]
      go_wp2_with fail
      go_ret
      exact ⟨by rw [unhide HF]; rfl, rfl⟩

end Go.Proofs.Ytgnafbohikbpfaa
