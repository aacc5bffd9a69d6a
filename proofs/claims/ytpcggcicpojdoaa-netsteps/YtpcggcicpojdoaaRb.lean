/-
  The document's net: Send, Clear, Double.
-/
import Derived.Test.YtpcggcicpojdoaaRa
namespace Go.Proofs.Ytpcggcicpojdoaa
open Go.RowKit

/-- Who may send to whom. -/
def mayS (n fr to : Int) : Prop := 0 ≤ fr ∧ fr < n ∧ 0 ≤ to ∧ to < n ∧ fr ≠ to
theorem rsend_arg (r : Nat) (lv : Value) (R : Nn) (fr to : Int) (ao : Option Addr) (m c : Nat) (w : World) (h : Rt w r lv R) (hb : ¬mayS R.nodes fr to) : Calls Try.prog 27 #[P0 r, .int .i64 fr, .int .i64 to, .slice ao m c] w fun e w' => e = .returned (.tuple #[.int .i64 0, .int .i64 2]) ∧ w' = w := by
  have hc := h.cell.1
  clear h
  unfold mayS at hb
  by_cases h1 : fr < 0
  · go_enter Try.func27, Try.ntmps27
    go_wp2
    go_ret2
    exact ⟨rfl, rfl⟩
  by_cases h2 : R.nodes ≤ fr
  · go_enter Try.func27, Try.ntmps27
    go_wp2
    go_ret2
    exact ⟨rfl, rfl⟩
  by_cases h3 : to < 0
  · go_enter Try.func27, Try.ntmps27
    go_wp2
    go_ret2
    exact ⟨rfl, rfl⟩
  by_cases h4 : R.nodes ≤ to
  · go_enter Try.func27, Try.ntmps27
    go_wp2
    go_ret2
    exact ⟨rfl, rfl⟩
  · have h5 : fr = to := by
      apply Classical.byContradiction
      intro hne
      exact hb ⟨by omega, by omega, by omega, by omega, hne⟩
    subst h5
    go_enter Try.func27, Try.ntmps27
    go_wp2
    go_ret2
    exact ⟨rfl, rfl⟩
theorem rsend_long (r : Nat) (lv : Value) (R : Nn) (fr to : Int) (ao : Option Addr) (m c : Nat) (w : World) (h : Rt w r lv R) (hb : mayS R.nodes fr to) (hm : 512 < m) : Calls Try.prog 27 #[P0 r, .int .i64 fr, .int .i64 to, .slice ao m c] w fun e w' => e = .returned (.tuple #[.int .i64 0, .int .i64 3]) ∧ w' = w := by
  have hc := h.cell.1
  clear h
  obtain ⟨h1, h2, h3, h4, h5⟩ := hb
  have h6 : ¬(fr < 0) := by omega
  have h7 : ¬(R.nodes ≤ fr) := by omega
  have h8 : ¬(to < 0) := by omega
  have h9 : ¬(R.nodes ≤ to) := by omega
  have h10 : (fr == to) = false := by simp [h5]
  have h11 : (512 : Int) < m := by omega
  go_enter Try.func27, Try.ntmps27
  go_wp2
  go_ret2
  exact ⟨rfl, rfl⟩
theorem rsend_full (r : Nat) (lv : Value) (R : Nn) (fr to : Int) (ao : Option Addr) (m c : Nat) (w : World) (h : Rt w r lv R) (hb : mayS R.nodes fr to) (hm : m ≤ 512) (hf : 4096 ≤ R.L.length) : Calls Try.prog 27 #[P0 r, .int .i64 fr, .int .i64 to, .slice ao m c] w fun e w' => e = .returned (.tuple #[.int .i64 0, .int .i64 5]) ∧ w' = w := by
  have hc := h.cell.1
  have hc1 := h.cell.2.1
  obtain ⟨lo, lc, rfl, _, _, _⟩ := h.sl
  clear h
  obtain ⟨h1, h2, h3, h4, h5⟩ := hb
  have h6 : ¬(fr < 0) := by omega
  have h7 : ¬(R.nodes ≤ fr) := by omega
  have h8 : ¬(to < 0) := by omega
  have h9 : ¬(R.nodes ≤ to) := by omega
  have h10 : (fr == to) = false := by simp [h5]
  have h11 : ¬((512 : Int) < m) := by omega
  have h12 : (4096 : Int) ≤ R.L.length := by omega
  go_enter Try.func27, Try.ntmps27
  go_wp2
  go_ret2
  exact ⟨rfl, rfl⟩
theorem rsend_yes (r : Nat) (lv : Value) (R : Nn) (fr to : Int) (ao : Option Addr) (m c : Nat) (w : World) (h : Rt w r lv R) (bs : List Int) (hV : Vals w ao m c (u8s bs)) (hnil : ao = none → m = 0 ∧ c = 0) (hby : ∀ x ∈ bs, 0 ≤ x ∧ x < 256) (hA : bs ≠ [] → ∀ h off, ao = some ⟨h, off, none⟩ → h ≠ r) (hb : mayS R.nodes fr to) (hm : m ≤ 512) (hla : 0 ≤ R.last ∧ R.last ≤ 1000000000000) (hf : R.L.length < 4096) : Calls Try.prog 27 #[P0 r, .int .i64 fr, .int .i64 to, .slice ao m c] w fun e w' => ∃ lv' u, e = .returned (.tuple #[.int .i64 (R.last + 1), .int .i64 0]) ∧ Rt w' r lv' ⟨R.nodes, R.last + 1, R.L ++ [⟨R.last + 1, fr, to, u, bs⟩]⟩ ∧ Kept [r] w w' ∧ ∀ k, u.ownBlock = some k → w.heap.size ≤ k := by
  have hc := h.cell.1
  have hc1 := h.cell.2.1
  have P48 := hide (rput48 r lv R fr to ao m c bs w h hV hnil hby hA hm hla (by omega))
  obtain ⟨lo, lc, rfl, _, _, _⟩ := h.sl
  clear h hV hnil hby hA
  obtain ⟨h1, h2, h3, h4, h5⟩ := hb
  have h6 : ¬(fr < 0) := by omega
  have h7 : ¬(R.nodes ≤ fr) := by omega
  have h8 : ¬(to < 0) := by omega
  have h9 : ¬(R.nodes ≤ to) := by omega
  have h10 : (fr == to) = false := by simp [h5]
  have h11 : ¬((512 : Int) < m) := by omega
  have h12 : ¬((4096 : Int) ≤ R.L.length) := by omega
  go_enter Try.func27, Try.ntmps27
  go_wp2_with (
    first
    | (go_at_call 48
       refine (unhide P48).mono ?_
       rintro e W1 ⟨lv', u, rfl, hR, hK, hF⟩
       have HR := hide hR
       have HK := hide hK
       have HF := hide hF
       clear hR hK hF hc hc1))
  go_ret2
  exact ⟨lv', u, rfl, unhide HR, unhide HK, unhide HF⟩
theorem st43 (w : World) (b TT i : Nat) (us : List Value) (ao : Option Addr) (m c : Nat) (h : Blk w b TT us) (hi : i < us.length) : (storeVar 43 ⟨b, i, none⟩ (.slice ao m c)).run Try.prog w = .ok () (w.setCell ⟨b, i, none⟩ (.slice ao m c)) := by
  have hc := h.cell i
  rw [List.getElem?_eq_getElem hi] at hc
  have hf := h.frozen i
  simp [storeVar, go_sem, hc, hf]
theorem rclear30 (r : Nat) (lv : Value) (R : Nn) (w : World) (h : Rt w r lv R) : Calls Try.prog 30 #[P0 r] w fun e w' => e = .returned (.int .i64 R.L.length) ∧ Rt w' r (.slice none 0 0) ⟨R.nodes, R.last, []⟩ ∧ Kept [r] w w' := by
  have hc1 := h.cell.2.1
  have HH := hide h.head
  obtain ⟨lo, lc, rfl, _, _, _⟩ := h.sl
  clear h
  go_enter Try.func30, Try.ntmps30
  go_wp2_with (
    first
    | (refine wpStoreV (T := 43) (b := r) (i := 1) (v := .slice none 0 0) (by rfl) (.tmp 13) (.const (.slice none 0 0)) (by rfl) (by rfl) (by kernel_rfl) (by rfl) 60 _ (unhide HH) (st43 _ _ _ _ _ _ _ _ (unhide HH) (by simp)) ?_
       intro W1 B1 K1
       have HB : Hid (Blk W1 r 60 [.int .i64 R.nodes, .slice none 0 0, .int .i64 R.last]) := B1
       have HK := hide K1
       clear B1 K1 hc1))
  go_ret
  exact ⟨rfl, ⟨unhide HB, World.ownsRow_nil _ _ _ _, by simp⟩, unhide HK⟩

end Go.Proofs.Ytpcggcicpojdoaa
