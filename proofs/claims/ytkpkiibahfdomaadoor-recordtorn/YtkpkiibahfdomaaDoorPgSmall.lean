/-
  The walks of page's small functions: isPage, isWritten, isVersion, isStamp, isPlain, Better; and the law's num and version.
-/
import Derived.Test.YtkpkiibahfdomaaDoorKit
namespace Go.Proofs.YtkpkiibahfdomaaDoor.Pg
open Go.RowKit

def isPageB (p : Int) : Bool := decide (0 ≤ p ∧ p < 16)
def isWrit (n : Int) : Bool := decide (1 ≤ n ∧ n ≤ 2147483647)
def isVer (n : Int) (s : List Int) : Bool := if n = 0 then decide (s = zs 96) else isWrit n

theorem ret_bool {a b : Bool} (h : a = true ↔ b = true) : Ending.returned (Value.bool a) = .returned (.bool b) := by rw [Bool.eq_iff_iff.2 h]

theorem isPage24 (p : Int) (w : World) : Calls Tryd.prog 49 #[.int .i64 p] w fun e w' => e = .returned (.bool (isPageB p)) ∧ w' = w := by
  by_cases h1 : 0 ≤ p
  · go_enter Tryd.func49, Tryd.ntmps49
    go_wp2_with fail
    go_ret
    exact ⟨ret_bool (by simp [isPageB]; omega), rfl⟩
  · go_enter Tryd.func49, Tryd.ntmps49
    go_wp2_with fail
    go_ret
    exact ⟨ret_bool (by simp [isPageB]; omega), rfl⟩

theorem isWritten38 (n : Int) (w : World) : Calls Tryd.prog 50 #[.int .i64 n] w fun e w' => e = .returned (.bool (isWrit n)) ∧ w' = w := by
  by_cases h1 : 1 ≤ n
  · go_enter Tryd.func50, Tryd.ntmps50
    go_wp2_with fail
    go_ret
    exact ⟨ret_bool (by simp [isWrit]; omega), rfl⟩
  · go_enter Tryd.func50, Tryd.ntmps50
    go_wp2_with fail
    go_ret
    exact ⟨ret_bool (by simp [isWrit]; omega), rfl⟩

theorem num10 (n : Int) (w : World) : Calls Tryd.prog 11 #[.int .i64 n] w fun e w' => e = .returned (.int .i64 n) ∧ w' = w := by
  go_enter Tryd.func11, Tryd.ntmps11
  go_wp2_with fail
  go_ret
  exact ⟨rfl, rfl⟩

theorem fits_cell {w : World} {b T : Nat} {vs : List Value} (h : Blk w b T vs) (i : Nat) (v : Value) (hi : vs[i]? = some v) : w.cell? ⟨b, i, none⟩ = some v := by rw [h.cell]; exact hi

theorem isVersion25 (n : Int) (s : List Int) (hs : s.length = 96) (w : World) : Calls Tryd.prog 54 #[aggV (verC n s)] w fun e w' => e = .returned (.bool (isVer n s)) ∧ Kept [] w w' := by
  have hb : Blk (w.alloc (.cells (verC n s).toArray 61)) w.heap.size 61 (verC n s) := Blk.new w 61 _
  have hc : (w.alloc (.cells (verC n s).toArray 61)).cell? ⟨w.heap.size, 0, none⟩ = some (.int .i64 n) := fits_cell hb 0 _ rfl
  have hr : Hid ((w.alloc (.cells (verC n s).toArray 61)).rangeAt w.heap.size 1 (u8s s)) := hb.rangeIn _ (fun j _ => by simp [verC, Nat.add_comm])
  have hk := hide ((Kept.refl [] w).alloc (.cells (verC n s).toArray 61))
  have hw := hide (isWritten38 n (w.alloc (.cells (verC n s).toArray 61)))
  have hB := hide hb
  clear hb
  by_cases h0 : n = 0
  · subst h0
    go_enter Tryd.func54, Tryd.ntmps54
    go_wp2_with (first | (refine wpBoxA rfl (.tmp 0) rfl (verC 0 s) rfl ?_) | (refine wpLoadA row23 rfl (.tmp 6) rfl w.heap.size 1 rfl (u8s s) (by rw [u8s_len, hs]) (unhide hr) ?_) | (refine wpBuildZ (u8s (zs 96)) build23 rfl rfl ?_) | (refine wpEqlA 23 23 guard23 (.tmp 7) (.tmp 8) rfl rfl (u8s s) (u8s (zs 96)) rfl rfl _ (equal23 _ _ _ hs (zs_byts 96).len) ?_))
    go_ret
    exact ⟨by simp [isVer], unhide hk⟩
  · go_enter Tryd.func54, Tryd.ntmps54
    go_wp2_with (first | (refine wpBoxA rfl (.tmp 0) rfl (verC n s) rfl ?_) | (go_at_call 50; refine (unhide hw).mono ?_; rintro e w' ⟨rfl, rfl⟩))
    go_ret
    exact ⟨by simp [isVer, h0], unhide hk⟩

set_option maxHeartbeats 1000000 in
theorem isStamp30 (p h n : Int) (w : World) : Calls Tryd.prog 43 #[aggV (stC p h n)] w fun e w' => e = .returned (.bool (isPageB p && (decide (h = 0 ∨ h = 1) && isWrit n))) ∧ Kept [] w w' := by
  have hb : Blk (w.alloc (.cells (stC p h n).toArray 63)) w.heap.size 63 (stC p h n) := Blk.new w 63 _
  have c0 : (w.alloc (.cells (stC p h n).toArray 63)).cell? ⟨w.heap.size, 0, none⟩ = some (.int .i64 p) := fits_cell hb 0 _ rfl
  have c1 : (w.alloc (.cells (stC p h n).toArray 63)).cell? ⟨w.heap.size, 1, none⟩ = some (.int .i64 h) := fits_cell hb 1 _ rfl
  have c2 : (w.alloc (.cells (stC p h n).toArray 63)).cell? ⟨w.heap.size, 2, none⟩ = some (.int .i64 n) := fits_cell hb 2 _ rfl
  have hk := hide ((Kept.refl [] w).alloc (.cells (stC p h n).toArray 63))
  have hp := hide (isPage24 p (w.alloc (.cells (stC p h n).toArray 63)))
  have hw := hide (isWritten38 n (w.alloc (.cells (stC p h n).toArray 63)))
  clear hb
  cases hP : isPageB p with
  | false =>
    rw [hP] at hp
    clear hP
    go_enter Tryd.func43, Tryd.ntmps43
    go_wp2_with (first | (refine wpBoxA rfl (.tmp 0) rfl (stC p h n) rfl ?_) | (go_at_call 49; refine (unhide hp).mono ?_; rintro e w' ⟨rfl, rfl⟩))
    go_ret
    exact ⟨by simp, unhide hk⟩
  | true =>
    rw [hP] at hp
    clear hP
    by_cases h0 : h = 0
    · subst h0
      go_enter Tryd.func43, Tryd.ntmps43
      go_wp2_with (first | (refine wpBoxA rfl (.tmp 0) rfl (stC p 0 n) rfl ?_) | (go_at_call 49; refine (unhide hp).mono ?_; rintro e w' ⟨rfl, rfl⟩) | (go_at_call 50; refine (unhide hw).mono ?_; rintro e w' ⟨rfl, rfl⟩))
      go_ret
      exact ⟨by simp, unhide hk⟩
    · by_cases h1 : h = 1
      · subst h1
        go_enter Tryd.func43, Tryd.ntmps43
        go_wp2_with (first | (refine wpBoxA rfl (.tmp 0) rfl (stC p 1 n) rfl ?_) | (go_at_call 49; refine (unhide hp).mono ?_; rintro e w' ⟨rfl, rfl⟩) | (go_at_call 50; refine (unhide hw).mono ?_; rintro e w' ⟨rfl, rfl⟩))
        go_ret
        exact ⟨by simp, unhide hk⟩
      · go_enter Tryd.func43, Tryd.ntmps43
        go_wp2_with (first | (refine wpBoxA rfl (.tmp 0) rfl (stC p h n) rfl ?_) | (go_at_call 49; refine (unhide hp).mono ?_; rintro e w' ⟨rfl, rfl⟩))
        go_ret
        exact ⟨by simp [h0, h1], unhide hk⟩

end Go.Proofs.YtkpkiibahfdomaaDoor.Pg
