/-
  The walks of the device's methods that only look: Size, none, Nodes, hasNode, hasSectors, Epoch, Fenced, from, refusal, Done, num.
-/
import Derived.Test.YtffflafalffifaaDev
import Derived.Test.YtffflafalffifaaProg
import Derived.WalkMore
namespace Go.Proofs.Ytffflafalffifaa
open Go.RowKit

theorem ret_bool {a b : Bool} (h : a = b) : Ending.returned (.bool a) = .returned (.bool b) := by rw [h]
theorem ret_int {k : IntKind} {a b : Int} (h : a = b) : Ending.returned (.int k a) = .returned (.int k b) := by rw [h]

theorem num10 (x : Int) (w : World) : Calls Try.prog 10 #[.int .i64 x] w fun e w' => e = .returned (.int .i64 x) ∧ w' = w := by
  go_enter Try.func10, Try.ntmps10
  go_wp2
  go_ret
  exact ⟨rfl, rfl⟩

theorem from29 (a x b : Int) (w : World) : Calls Try.prog 29 #[.int .i64 a, .int .i64 x, .int .i64 b] w fun e w' => e = .returned (.bool (decide (a ≤ x ∧ x ≤ b))) ∧ w' = w := by
  by_cases h1 : a ≤ x
  · go_enter Try.func29, Try.ntmps29
    go_wp2
    go_ret
    exact ⟨ret_bool (by simp [h1]), rfl⟩
  · go_enter Try.func29, Try.ntmps29
    go_wp2
    go_ret
    exact ⟨ret_bool (by simp; omega), rfl⟩

theorem from47 (a x b : Int) (w : World) : Calls Try.prog 47 #[.int .i64 a, .int .i64 x, .int .i64 b] w fun e w' => e = .returned (.bool (decide (a ≤ x ∧ x ≤ b))) ∧ w' = w := by
  by_cases h1 : a ≤ x
  · go_enter Try.func47, Try.ntmps47
    go_wp2
    go_ret
    exact ⟨ret_bool (by simp [h1]), rfl⟩
  · go_enter Try.func47, Try.ntmps47
    go_wp2
    go_ret
    exact ⟨ret_bool (by simp; omega), rfl⟩

theorem size31 (p : Value) (n : Nat) (w : World) (h : Sz w p n) : Calls Try.prog 31 #[p] w fun e w' => e = .returned (.int .i64 n) ∧ w' = w := by
  rcases h with ⟨rfl, rfl⟩ | ⟨b, ao, cap, rfl, hc⟩
  · go_enter Try.func31, Try.ntmps31
    go_wp2
    go_ret
    exact ⟨rfl, rfl⟩
  · go_enter Try.func31, Try.ntmps31
    go_wp2
    go_ret
    exact ⟨rfl, rfl⟩

theorem none48 (p : Value) (n : Nat) (w : World) (h : Sz w p n) (r : Bool) (hr : (n == 0) = r) : Calls Try.prog 48 #[p] w fun e w' => e = .returned (.bool r) ∧ w' = w := by
  go_enter Try.func48, Try.ntmps48
  go_wp2_with (go_at_call 31; refine (size31 _ _ _ h).mono ?_; rintro e w' ⟨rfl, rfl⟩)
  go_ret
  refine ⟨ret_bool ?_, rfl⟩
  rw [← hr, Bool.eq_iff_iff]; simp

theorem none_yes (p : Value) (w : World) (h : Sz w p 0) : Calls Try.prog 48 #[p] w fun e w' => e = .returned (.bool true) ∧ w' = w := none48 p 0 w h true rfl
theorem none_no (b g : Nat) (D : Dev) (w : World) (h : Dv w b g D) : Calls Try.prog 48 #[.pointer (some ⟨b, 0, none⟩)] w fun e w' => e = .returned (.bool false) ∧ w' = w :=
  none48 _ _ w h.sz false (by have := h.ok.s0; simp; intro e; simp [e] at this)

theorem nodes_no (p : Value) (w : World) (h : Sz w p 0) : Calls Try.prog 32 #[p] w fun e w' => e = .returned (.int .i64 0) ∧ w' = w := by
  go_enter Try.func32, Try.ntmps32
  go_wp2_with (go_at_call 48; refine (none_yes _ _ h).mono ?_; rintro e w' ⟨rfl, rfl⟩)
  go_ret
  exact ⟨rfl, rfl⟩
theorem nodes32 (b g : Nat) (D : Dev) (w : World) (h : Dv w b g D) : Calls Try.prog 32 #[.pointer (some ⟨b, 0, none⟩)] w fun e w' => e = .returned (.int .i64 D.N) ∧ w' = w := by
  obtain ⟨cap, hh, _⟩ := h.lay
  obtain ⟨_, h1, _⟩ := hh.cells h.ok
  go_enter Try.func32, Try.ntmps32
  go_wp2_with (go_at_call 48; refine (none_no _ _ _ _ h).mono ?_; rintro e w' ⟨rfl, rfl⟩)
  go_ret
  exact ⟨rfl, rfl⟩
theorem done_no (p : Value) (w : World) (h : Sz w p 0) : Calls Try.prog 33 #[p] w fun e w' => e = .returned (.int .i64 0) ∧ w' = w := by
  go_enter Try.func33, Try.ntmps33
  go_wp2_with (go_at_call 48; refine (none_yes _ _ h).mono ?_; rintro e w' ⟨rfl, rfl⟩)
  go_ret
  exact ⟨rfl, rfl⟩
theorem done33 (b g : Nat) (D : Dev) (w : World) (h : Dv w b g D) : Calls Try.prog 33 #[.pointer (some ⟨b, 0, none⟩)] w fun e w' => e = .returned (.int .i64 D.done) ∧ w' = w := by
  obtain ⟨cap, hh, _⟩ := h.lay
  obtain ⟨_, _, h1, _⟩ := hh.cells h.ok
  go_enter Try.func33, Try.ntmps33
  go_wp2_with (go_at_call 48; refine (none_no _ _ _ _ h).mono ?_; rintro e w' ⟨rfl, rfl⟩)
  go_ret
  exact ⟨rfl, rfl⟩

/-- Is there such a node? -/
def hasN (N : Nat) (x : Int) : Bool := decide (0 ≤ x ∧ x < N)
theorem hasN_true {N : Nat} {x : Int} (h : hasN N x = true) : 0 ≤ x ∧ x < N := by simpa [hasN] using h
theorem hasN_false {N : Nat} {x : Int} (h : hasN N x = false) : ¬ (0 ≤ x ∧ x < N) := by simpa [hasN] using h

/-- How many nodes a pointer's device has. -/
def Nd (w : World) (p : Value) (N : Nat) : Prop := (Sz w p 0 ∧ N = 0) ∨ ∃ b g D, p = .pointer (some ⟨b, 0, none⟩) ∧ Dv w b g D ∧ D.N = N
theorem nodes_any (p : Value) (N : Nat) (w : World) (h : Nd w p N) : Calls Try.prog 32 #[p] w fun e w' => e = .returned (.int .i64 N) ∧ w' = w := by
  rcases h with ⟨h, rfl⟩ | ⟨b, g, D, rfl, h, rfl⟩
  · exact nodes_no p w h
  · exact nodes32 b g D w h

theorem hasNode50 (p : Value) (N : Nat) (x : Int) (w : World) (h : Nd w p N) : Calls Try.prog 50 #[p, .int .i64 x] w fun e w' => e = .returned (.bool (hasN N x)) ∧ w' = w := by
  by_cases h1 : 0 ≤ x
  · go_enter Try.func50, Try.ntmps50
    go_wp2_with (go_at_call 32; refine (nodes_any _ _ _ h).mono ?_; rintro e w' ⟨rfl, rfl⟩)
    go_ret
    exact ⟨ret_bool (by simp [hasN, h1]), rfl⟩
  · go_enter Try.func50, Try.ntmps50
    go_wp2_with fail
    go_ret
    exact ⟨ret_bool (by simp [hasN]; omega), rfl⟩

/-- Are these sectors there? -/
def hasS (n : Nat) (first many : Int) : Bool := decide (0 ≤ first ∧ many ≤ n - first)

theorem hasSectors53 (p : Value) (n : Nat) (first many : Int) (w : World) (h : Sz w p n) (hn : n ≤ 4096) (hf : -9223372036854775808 ≤ first ∧ first ≤ 9223372036854775807) :
    Calls Try.prog 53 #[p, .int .i64 first, .int .i64 many] w fun e w' => e = .returned (.bool (hasS n first many)) ∧ w' = w := by
  by_cases h1 : 0 ≤ first
  · go_enter Try.func53, Try.ntmps53
    go_wp2_with (go_at_call 31; refine (size31 _ _ _ h).mono ?_; rintro e w' ⟨rfl, rfl⟩)
    go_ret
    exact ⟨ret_bool (by simp [hasS, h1]), rfl⟩
  · go_enter Try.func53, Try.ntmps53
    go_wp2_with fail
    go_ret
    exact ⟨ret_bool (by simp [hasS]; omega), rfl⟩

/-- The device's epoch of a node. -/
def Dev.ep (D : Dev) (x : Int) : Int := D.E.getD x.toNat 0

theorem ep_cell {w : World} {b g : Nat} {D : Dev} (h : Dv w b g D) (k : Nat) (hk : k < D.N) : w.cell? ⟨b, 2 + k, none⟩ = some (.int .i64 (D.ep k)) := by
  obtain ⟨cap, hh, _⟩ := h.lay
  have h1 := h.ok.n1
  rw [hh.epoch h.ok k (by omega)]
  simp [Dev.ep, List.getD, h.ok.e8, show k < 8 by omega]

theorem ep_le {D : Dev} (h : D.Ok) (k : Nat) (hk : k < D.N) : 0 ≤ D.ep k ∧ D.ep k ≤ 2147483647 := by
  have h1 := h.n1
  have hl : k < D.E.length := by rw [h.e8]; omega
  have : D.ep k = D.E[k] := by simp [Dev.ep, List.getD, hl]
  rw [this]
  exact h.e0 _ (List.getElem_mem hl)

theorem Dv.nd {w : World} {b g : Nat} {D : Dev} (h : Dv w b g D) : Nd w (.pointer (some ⟨b, 0, none⟩)) D.N := .inr ⟨b, g, D, rfl, h, rfl⟩

theorem epoch_nil (p : Value) (x : Int) (w : World) (h : Sz w p 0) : Calls Try.prog 19 #[p, .int .i64 x] w fun e w' => e = .returned (.tuple #[.int .i64 0, .int .i64 1]) ∧ w' = w := by
  go_enter Try.func19, Try.ntmps19
  go_wp2_with (go_at_call 48; refine (none_yes _ _ h).mono ?_; rintro e w' ⟨rfl, rfl⟩)
  go_ret2
  exact ⟨rfl, rfl⟩

/-- What Epoch tells. -/
def Dev.epoch (D : Dev) (x : Int) : Int × Int := if hasN D.N x then (D.ep x, 0) else (0, 2)

theorem epoch19 (b g : Nat) (D : Dev) (x : Int) (w : World) (h : Dv w b g D) : Calls Try.prog 19 #[.pointer (some ⟨b, 0, none⟩), .int .i64 x] w fun e w' => e = .returned (.tuple #[.int .i64 (D.epoch x).1, .int .i64 (D.epoch x).2]) ∧ w' = w := by
  cases hN : hasN D.N x with
  | true =>
    obtain ⟨h0, h1⟩ := hasN_true hN
    obtain ⟨k, rfl⟩ := Int.eq_ofNat_of_zero_le h0
    have hc := ep_cell h k (by omega)
    have h8 : (k : Int) < 8 := by have := h.ok.n1; omega
    have hE : D.epoch k = (D.ep k, 0) := by simp [Dev.epoch, hN]
    rw [hE]
    clear hE h1
    go_enter Try.func19, Try.ntmps19
    go_wp2_with (first | (go_at_call 48; refine (none_no _ _ _ _ h).mono ?_; rintro e w' ⟨rfl, rfl⟩) | (go_at_call 50; refine (hasNode50 _ _ _ _ h.nd).mono ?_; rintro e w' ⟨rfl, rfl⟩))
    go_ret2
    exact ⟨rfl, rfl⟩
  | false =>
    have hE : D.epoch x = (0, 2) := by simp [Dev.epoch, hN]
    rw [hE]
    clear hE
    go_enter Try.func19, Try.ntmps19
    go_wp2_with (first | (go_at_call 48; refine (none_no _ _ _ _ h).mono ?_; rintro e w' ⟨rfl, rfl⟩) | (go_at_call 50; refine (hasNode50 _ _ _ _ h.nd).mono ?_; rintro e w' ⟨rfl, rfl⟩))
    go_ret2
    exact ⟨rfl, rfl⟩

/-- What Fenced tells. -/
def Dev.fenced (D : Dev) (x ep : Int) : Bool := hasN D.N x && decide (ep < D.ep x)

theorem fenced_nil (p : Value) (x ep : Int) (w : World) (h : Sz w p 0) : Calls Try.prog 37 #[p, .int .i64 x, .int .i64 ep] w fun e w' => e = .returned (.bool false) ∧ w' = w := by
  have hN : hasN 0 x = false := by simp [hasN]
  go_enter Try.func37, Try.ntmps37
  go_wp2_with (first | (go_at_call 50; refine (hasNode50 _ _ _ _ (.inl ⟨h, rfl⟩)).mono ?_; rintro e w' ⟨rfl, rfl⟩))
  go_ret
  exact ⟨rfl, rfl⟩

theorem fenced37 (b g : Nat) (D : Dev) (x ep : Int) (w : World) (h : Dv w b g D) : Calls Try.prog 37 #[.pointer (some ⟨b, 0, none⟩), .int .i64 x, .int .i64 ep] w fun e w' => e = .returned (.bool (D.fenced x ep)) ∧ w' = w := by
  cases hN : hasN D.N x with
  | true =>
    obtain ⟨h0, h1⟩ := hasN_true hN
    obtain ⟨k, rfl⟩ := Int.eq_ofNat_of_zero_le h0
    have hc := ep_cell h k (by omega)
    have h8 : (k : Int) < 8 := by have := h.ok.n1; omega
    have hE : Hid (D.fenced k ep = decide (ep < D.ep k)) := by simp [Dev.fenced, hN, Hid]
    clear h1
    go_enter Try.func37, Try.ntmps37
    go_wp2_with (first | (go_at_call 50; refine (hasNode50 _ _ _ _ h.nd).mono ?_; rintro e w' ⟨rfl, rfl⟩))
    go_ret
    exact ⟨ret_bool hE.out.symm, rfl⟩
  | false =>
    have hE : Hid (D.fenced x ep = false) := by simp [Dev.fenced, hN, Hid]
    go_enter Try.func37, Try.ntmps37
    go_wp2_with (first | (go_at_call 50; refine (hasNode50 _ _ _ _ h.nd).mono ?_; rintro e w' ⟨rfl, rfl⟩))
    go_ret
    exact ⟨ret_bool hE.out.symm, rfl⟩

/-- Why one who writes is refused. -/
def Dev.ref (D : Dev) (x ep : Int) (may : Bool) : Int := if may = true ∧ hasN D.N x = true ∧ 0 ≤ ep ∧ ep ≤ D.ep x then (if ep < D.ep x then 8 else 0) else 2

theorem refusal_nil (p : Value) (x ep : Int) (may : Bool) (w : World) (h : Sz w p 0) : Calls Try.prog 52 #[p, .int .i64 x, .int .i64 ep, .bool may] w fun e w' => e = .returned (.int .i64 1) ∧ w' = w := by
  go_enter Try.func52, Try.ntmps52
  go_wp2_with (first | (go_at_call 48; refine (none_yes _ _ h).mono ?_; rintro e w' ⟨rfl, rfl⟩))
  go_ret
  exact ⟨rfl, rfl⟩

theorem refusal52 (b g : Nat) (D : Dev) (x ep : Int) (may : Bool) (w : World) (h : Dv w b g D) : Calls Try.prog 52 #[.pointer (some ⟨b, 0, none⟩), .int .i64 x, .int .i64 ep, .bool may] w fun e w' => e = .returned (.int .i64 (D.ref x ep may)) ∧ w' = w := by
  cases may with
  | false =>
    have hE : Hid (D.ref x ep false = 2) := by simp [Dev.ref, Hid]
    go_enter Try.func52, Try.ntmps52
    go_wp2_with (first | (go_at_call 48; refine (none_no _ _ _ _ h).mono ?_; rintro e w' ⟨rfl, rfl⟩) | (go_at_call 50; refine (hasNode50 _ _ _ _ h.nd).mono ?_; rintro e w' ⟨rfl, rfl⟩))
    go_ret
    exact ⟨ret_int hE.out.symm, rfl⟩
  | true =>
    cases hN : hasN D.N x with
    | false =>
      have hE : Hid (D.ref x ep true = 2) := by simp [Dev.ref, Hid, hN]
      go_enter Try.func52, Try.ntmps52
      go_wp2_with (first | (go_at_call 48; refine (none_no _ _ _ _ h).mono ?_; rintro e w' ⟨rfl, rfl⟩) | (go_at_call 50; refine (hasNode50 _ _ _ _ h.nd).mono ?_; rintro e w' ⟨rfl, rfl⟩))
      go_ret
      exact ⟨ret_int hE.out.symm, rfl⟩
    | true =>
      obtain ⟨h0, h1⟩ := hasN_true hN
      obtain ⟨k, rfl⟩ := Int.eq_ofNat_of_zero_le h0
      have hc := ep_cell h k (by omega)
      have h8 : (k : Int) < 8 := by have := h.ok.n1; omega
      clear h1
      by_cases hb : 0 ≤ ep ∧ ep ≤ D.ep k
      · have hd : decide (0 ≤ ep ∧ ep ≤ D.ep k) = true := by simpa using hb
        cases hF : D.fenced k ep with
        | true =>
          have hE : Hid (D.ref k ep true = 8) := by simp [Dev.fenced, hN] at hF; simp [Dev.ref, Hid, hN, hb, hF]
          go_enter Try.func52, Try.ntmps52
          go_wp2_with (first | (go_at_call 48; refine (none_no _ _ _ _ h).mono ?_; rintro e w' ⟨rfl, rfl⟩) | (go_at_call 50; refine (hasNode50 _ _ _ _ h.nd).mono ?_; rintro e w' ⟨rfl, rfl⟩) | (go_at_call 47; refine (from47 _ _ _ _).mono ?_; rintro e w' ⟨rfl, rfl⟩) | (go_at_call 37; refine (fenced37 _ _ _ _ _ _ h).mono ?_; rintro e w' ⟨rfl, rfl⟩))
          go_ret
          exact ⟨ret_int hE.out.symm, rfl⟩
        | false =>
          have hE : Hid (D.ref k ep true = 0) := by simp [Dev.fenced, hN] at hF; simp [Dev.ref, Hid, hN, hb]; omega
          go_enter Try.func52, Try.ntmps52
          go_wp2_with (first | (go_at_call 48; refine (none_no _ _ _ _ h).mono ?_; rintro e w' ⟨rfl, rfl⟩) | (go_at_call 50; refine (hasNode50 _ _ _ _ h.nd).mono ?_; rintro e w' ⟨rfl, rfl⟩) | (go_at_call 47; refine (from47 _ _ _ _).mono ?_; rintro e w' ⟨rfl, rfl⟩) | (go_at_call 37; refine (fenced37 _ _ _ _ _ _ h).mono ?_; rintro e w' ⟨rfl, rfl⟩))
          go_ret
          exact ⟨ret_int hE.out.symm, rfl⟩
      · have hd : decide (0 ≤ ep ∧ ep ≤ D.ep k) = false := by simpa using hb
        have hE : Hid (D.ref k ep true = 2) := by simp [Dev.ref, Hid, hN]; omega
        clear hb
        go_enter Try.func52, Try.ntmps52
        go_wp2_with (first | (go_at_call 48; refine (none_no _ _ _ _ h).mono ?_; rintro e w' ⟨rfl, rfl⟩) | (go_at_call 50; refine (hasNode50 _ _ _ _ h.nd).mono ?_; rintro e w' ⟨rfl, rfl⟩) | (go_at_call 47; refine (from47 _ _ _ _).mono ?_; rintro e w' ⟨rfl, rfl⟩) | (go_at_call 37; refine (fenced37 _ _ _ _ _ _ h).mono ?_; rintro e w' ⟨rfl, rfl⟩))
        go_ret
        exact ⟨ret_int hE.out.symm, rfl⟩

end Go.Proofs.Ytffflafalffifaa
