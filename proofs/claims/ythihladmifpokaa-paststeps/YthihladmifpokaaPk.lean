/-
  Discard.
-/
import Derived.Test.YthihladmifpokaaPj
namespace Go.Proofs.Ythihladmifpokaa
set_option maxRecDepth 100000
set_option linter.unusedSimpArgs false
open Go.RowKit

section
variable {ops : Array Oper} {rest : List Oper} {op o : Oper} {a : Act} {w : World} {K : Act → World → Prop} {Q : Exit → Act → World → Prop}
theorem c_sub3 (x y : Operand) (ho : o.op = .binOp .sub 3 x y 3) (m n : Int) (hm : -1000000000 ≤ m - n ∧ m - n ≤ 1000000000) (hx : a.eval x = .int .i64 m) (hy : a.eval y = .int .i64 n) (h : K (a.put o.dst (.int .i64 (m - n))) w) : o.wp Try.prog a w K Q := by
  unfold Oper.wp execOp
  simp only [ho, hx, hy]
  have e : IntKind.i64.wrap (m - n) = m - n := by rw [IntKind.wrap_i64]; omega
  simp [go_sem, e]
  exact h
theorem wpSub3 (hgd : op.guard = none) (x y : Operand) (ho : op.op = .binOp .sub 3 x y 3) (m n : Int) (hm : -1000000000 ≤ m - n ∧ m - n ≤ 1000000000) (hx : a.eval x = .int .i64 m) (hy : a.eval y = .int .i64 n) (h : wpList Try.prog ops Q rest (a.put op.dst (.int .i64 (m - n))) w) : wpList Try.prog ops Q (op :: rest) a w :=
  wpList_plain hgd fun _ hK => c_sub3 x y ho m n hm hx hy (hK _ _ h)
end
variable {w W W' : World} {b mb : Nat} {L : List Mk} {v : Value} {p s : Int}
theorem Ok.filter (h : Ok L) (q : Mk → Bool) : Ok (L.filter q) := ⟨fun l hl => h.may l (List.mem_filter.1 hl).1, Nat.le_trans (List.length_filter_le _ _) h.many⟩
/-- What Discard leaves. -/
def discL (p s : Int) (L : List Mk) : List Mk := L.filter (fun x => !gone p s x)
def discP (p s : Int) (L : List Mk) : Int × Int × List Mk := if isPg p = true then ((L.length : Int) - ((discL p s L).length : Int), 0, discL p s L) else (0, 2, L)
theorem disc17_z (h : Nil w v) : Calls Try.prog 17 #[v, .int .i64 p, .int .i64 s] w fun e W => e = .returned (.tuple #[.int .i64 0, .int .i64 1]) ∧ Kept [] w W := by
  have H := hide h
  clear h
  go_enter Try.func17, Try.ntmps17
  go_wp2_with (
    first
    | (go_at_call 31
       obtain ⟨W2, hW⟩ : ∃ W, W = (w.alloc (.cells #[.int .i64 p] 3)).alloc (.cells #[.int .i64 s] 2) := ⟨_, rfl⟩
       have HK : Hid (Kept [] w W2) := by rw [hW]; exact hide (((Kept.refl [] w).alloc _).alloc _)
       have H4 : Hid (Blk W2 w.heap.size 3 [.int .i64 p]) := by rw [hW]; exact hide ((Blk.new w 3 [.int .i64 p]).kept ((Kept.refl [] _).alloc _) (by simp))
       have H5 : Hid (Blk W2 (w.heap.size + 1) 2 [.int .i64 s]) := by rw [hW]; exact hide (by have h9 := Blk.new (w.alloc (.cells #[.int .i64 p] 3)) 2 [.int .i64 s]; rw [show (w.alloc (.cells #[.int .i64 p] 3)).heap.size = w.heap.size + 1 from Array.size_push _] at h9; exact h9)
       replace H := hide ((unhide H).step (unhide HK))
       have cp := fits_cell (unhide H4) 0 _ rfl
       rw [← hW]
       clear hW
       refine (none31_z (unhide H)).mono ?_
       rintro e W9 ⟨rfl, q9⟩
       replace q9 := q9.symm
       subst q9
       refine Stp.go ?_))
  constructor
  go_wp2_with fail
  go_ret2
  exact ⟨rfl, unhide HK⟩
theorem disc17_p (h : Pg w b mb L) (hp : isPg p = false) : Calls Try.prog 17 #[P0 b, .int .i64 p, .int .i64 s] w fun e W => e = .returned (.tuple #[.int .i64 0, .int .i64 2]) ∧ Kept [] w W := by
  have H := hide h
  have HP : Hid (∀ W, Calls Try.prog 34 #[.int .i64 p] W fun e w' => e = .returned (.bool false) ∧ w' = W) := fun W => by have h9 := isPage34 p W; rw [hp] at h9; exact h9
  clear h hp
  go_enter Try.func17, Try.ntmps17
  go_wp2_with (
    first
    | (go_at_call 31
       obtain ⟨W2, hW⟩ : ∃ W, W = (w.alloc (.cells #[.int .i64 p] 3)).alloc (.cells #[.int .i64 s] 2) := ⟨_, rfl⟩
       have HK : Hid (Kept [] w W2) := by rw [hW]; exact hide (((Kept.refl [] w).alloc _).alloc _)
       have H4 : Hid (Blk W2 w.heap.size 3 [.int .i64 p]) := by rw [hW]; exact hide ((Blk.new w 3 [.int .i64 p]).kept ((Kept.refl [] _).alloc _) (by simp))
       have H5 : Hid (Blk W2 (w.heap.size + 1) 2 [.int .i64 s]) := by rw [hW]; exact hide (by have h9 := Blk.new (w.alloc (.cells #[.int .i64 p] 3)) 2 [.int .i64 s]; rw [show (w.alloc (.cells #[.int .i64 p] 3)).heap.size = w.heap.size + 1 from Array.size_push _] at h9; exact h9)
       replace H := hide ((unhide H).step (unhide HK) (by simp) (by simp))
       have cp := fits_cell (unhide H4) 0 _ rfl
       rw [← hW]
       clear hW
       refine (none31 (unhide H)).mono ?_
       rintro e W9 ⟨rfl, q9⟩
       replace q9 := q9.symm
       subst q9
       refine Stp.go ?_))
  constructor
  go_wp2_with (
    first
    | (go_at_call 34
       refine (unhide HP _).mono ?_
       rintro e W9 ⟨rfl, q9⟩
       replace q9 := q9.symm
       subst q9
       refine Stp.go ?_))
  constructor
  go_wp2_with fail
  go_ret2
  exact ⟨rfl, unhide HK⟩
set_option maxHeartbeats 1000000 in
theorem disc17_ok (h : Pg w b mb L) (hp : isPg p = true) : Calls Try.prog 17 #[P0 b, .int .i64 p, .int .i64 s] w fun e W => e = .returned (.tuple #[.int .i64 ((L.length : Int) - ((discL p s L).length : Int)), .int .i64 0]) ∧ Pg W b mb (discL p s L) ∧ Kept [mb] w W := by
  have H := hide h
  have HP : Hid (∀ W, Calls Try.prog 34 #[.int .i64 p] W fun e w' => e = .returned (.bool true) ∧ w' = W) := fun W => by have h9 := isPage34 p W; rw [hp] at h9; exact h9
  have HL : Hid (L.length ≤ 256 ∧ (discL p s L).length ≤ 256) := ⟨h.ok.many, Nat.le_trans (List.length_filter_le _ _) h.ok.many⟩
  clear h hp
  go_enter Try.func17, Try.ntmps17
  go_wp2_with (
    first
    | (go_at_call 31
       obtain ⟨W2, hW⟩ : ∃ W, W = (w.alloc (.cells #[.int .i64 p] 3)).alloc (.cells #[.int .i64 s] 2) := ⟨_, rfl⟩
       have HK : Hid (Kept [] w W2) := by rw [hW]; exact hide (((Kept.refl [] w).alloc _).alloc _)
       have H4 : Hid (Blk W2 w.heap.size 3 [.int .i64 p]) := by rw [hW]; exact hide ((Blk.new w 3 [.int .i64 p]).kept ((Kept.refl [] _).alloc _) (by simp))
       have H5 : Hid (Blk W2 (w.heap.size + 1) 2 [.int .i64 s]) := by rw [hW]; exact hide (by have h9 := Blk.new (w.alloc (.cells #[.int .i64 p] 3)) 2 [.int .i64 s]; rw [show (w.alloc (.cells #[.int .i64 p] 3)).heap.size = w.heap.size + 1 from Array.size_push _] at h9; exact h9)
       replace H := hide ((unhide H).step (unhide HK) (by simp) (by simp))
       have cp := fits_cell (unhide H4) 0 _ rfl
       rw [← hW]
       clear hW
       refine (none31 (unhide H)).mono ?_
       rintro e W9 ⟨rfl, q9⟩
       replace q9 := q9.symm
       subst q9
       refine Stp.go ?_))
  constructor
  go_wp2_with (
    first
    | (go_at_call 34
       refine (unhide HP _).mono ?_
       rintro e W9 ⟨rfl, q9⟩
       replace q9 := q9.symm
       subst q9
       refine Stp.go ?_))
  constructor
  go_wp2_with (
    first
    | (go_at_call 18
       refine (len18 (unhide H)).mono ?_
       rintro e W9 ⟨rfl, q9⟩
       replace q9 := q9.symm
       subst q9
       have c0 := (unhide H).cw
       refine Stp.go ?_))
  constructor
  go_wp2_with (
    first
    | (go_at_call 38
       refine (del38 (unhide H).map (unhide H4) (unhide H5)).mono ?_
       rintro e W3 ⟨rfl, M3, K3⟩
       replace H : Hid (Pg W3 b mb (discL p s L)) := hide ((unhide H).to K3 M3 ((unhide H).ok.filter _))
       replace HK : Hid (Kept [mb] w W3) := hide ((Kept.mono (unhide HK) (by simp)).trans K3)
       clear M3 K3 c0
       refine Stp.go ?_))
  constructor
  go_wp2_with (
    first
    | (go_at_call 18
       refine (len18 (unhide H)).mono ?_
       rintro e W9 ⟨rfl, q9⟩
       replace q9 := q9.symm
       subst q9
       refine Stp.go ?_))
  constructor
  go_wp2_with (
    first
    | (refine wpSub3 rfl (.tmp 22) (.tmp 24) rfl _ _ (by have := unhide HL; omega) rfl rfl ?_
       refine Stp.go ?_))
  constructor
  go_wp2_with fail
  go_ret2
  exact ⟨rfl, unhide H, unhide HK⟩
theorem disc17 (h : Pg w b mb L) : Calls Try.prog 17 #[P0 b, .int .i64 p, .int .i64 s] w fun e W => e = .returned (.tuple #[.int .i64 (discP p s L).1, .int .i64 (discP p s L).2.1]) ∧ Pg W b mb (discP p s L).2.2 ∧ Kept [mb] w W := by
  unfold discP
  cases hp : isPg p with
  | false => exact (disc17_p h hp).mono fun e W ⟨h1, h2⟩ => ⟨h1, h.step h2 (by simp) (by simp), Kept.mono h2 (by simp)⟩
  | true => exact disc17_ok h hp

end Go.Proofs.Ythihladmifpokaa
