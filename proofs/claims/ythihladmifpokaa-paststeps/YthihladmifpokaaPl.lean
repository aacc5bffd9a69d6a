/-
  maps.Equal; Same.
-/
import Derived.Test.YthihladmifpokaaPk
namespace Go.Proofs.Ythihladmifpokaa
set_option maxRecDepth 100000
set_option linter.unusedSimpArgs false
open Go.RowKit


section
variable {ops : Array Oper} {rest : List Oper} {op o : Oper} {a : Act} {w : World} {K : Act → World → Prop} {Q : Exit → Act → World → Prop}
theorem wpLook50 (hgd : op.guard = none) (x y : Operand) (ho : op.op = .lookup 50 x y true) (mb : Nat) (L : List Mk) (p s : Int) (u : Int) (f : Bool) (hu : lookV p s L = u) (hf : (placeOf p s L 0).isSome = f) (hM : MapAt w mb L) (hx : a.eval x = .map (some mb)) (hy : a.eval y = aggV (keyC p s)) (h : wpList Try.prog ops Q rest (a.put op.dst (.tuple #[.int .i64 u, .bool f])) w) : wpList Try.prog ops Q (op :: rest) a w :=
  wpList_plain hgd fun _ hK => o_lookU x y ho mb L p s u f hu hf hM hx hy (hK _ _ h)
end
variable {w W W' : World} {m1 m2 : Nat} {L1 L2 : List Mk} {l z : Mk} {q : Nat}
/-- A mark is among others, with the same First. -/
def inL (L : List Mk) (l : Mk) : Bool := match placeOf l.p l.s L 0 with
  | none => false
  | some x => decide (l.f = x.2.f)
def sameL (L1 L2 : List Mk) : Bool := decide (L1.length = L2.length) && L1.all (inL L2)
set_option maxHeartbeats 2000000 in
theorem eq32 (h1 : MapAt w m1 L1) (h2 : MapAt w m2 L2) : Calls Try.prog 32 #[.map (some m1), .map (some m2)] w fun e W => e = .returned (.bool (sameL L1 L2)) ∧ Kept [] w W := by
  have HM1 := hide h1
  have HM2 := hide h2
  clear h1 h2
  by_cases hl : L1.length = L2.length
  · have D0 : ((L1.length : Int) == (L2.length : Int)) = true := by simp [hl]
    have HS : Hid (sameL L1 L2 = L1.all (inL L2)) := by show _ = _; simp [sameL, hl]
    clear hl
    go_enter Try.func32, Try.ntmps32
    go_wp2_with (
      first
      | (refine wpLen50 rfl (.tmp 9) rfl m1 L1 rfl (unhide HM1) ?_
         refine Stp.go ?_))
    constructor
    go_wp2_with (
      first
      | (refine wpLen50 rfl (.tmp 11) rfl m2 L2 rfl (unhide HM2) ?_
         refine Stp.go ?_))
    constructor
    go_wp2_with (
      first
      | (refine wpRange50 rfl (.tmp 14) rfl m1 L1 rfl (unhide HM1) ?_
         intro W1 r e1 I1 K1
         have HR : Hid (w.heap.size ≤ r) := by show _ ≤ _; omega
         have HI := hide I1
         have HK := hide K1
         have HG : Hid (∀ l ∈ L1, (fun _ : Mk => true) l = false → inL L2 l = true) := fun l _ h => by cases h
         clear e1 I1 K1
         refine Stp.go ?_))
    constructor
    go_wp2_with fail
    go_loopw [6] (fun _ wr => ∃ T : Mk → Bool, Hid (RI wr r m1 L1 T) ∧ Hid (Kept [] w wr) ∧ Hid (∀ l ∈ L1, T l = false → inL L2 l = true)) (fun _ wr => wr.rangeLeft m1 r)
    case atStart => exact ⟨_, HI, HK, HG⟩
    case round =>
      clear HI HK HG
      obtain ⟨T, HI, HK, HG⟩ := hrel
      have HN : wr.rangeLeft m1 r = more L1 T := (unhide HI).left_eq
      go_wp2_with (
        first
        | (at_next
           refine Stp.go ?_))
      constructor
      refine wpNext50 rfl (.tmp 15) rfl r m1 _ T rfl (unhide HI) ?_ ?_
      · intro h0
        have HF : Hid (true = sameL L1 L2) := by
          rw [unhide HS]
          exact (List.all_eq_true.2 fun x hx => unhide HG x hx (h0 x hx)).symm
        clear h0 HN
        go_wp2_with fail
        go_ret
        exact ⟨ret_bool (by rw [← unhide HF]), unhide HK⟩
      · intro V1 l hl hT I1 E1 K1
        replace HK := hide ((unhide HK).fresh K1 (by have := unhide HR; intro i hi hl; simp at hi; omega))
        replace HI := hide I1
        have HE := hide E1
        clear I1 E1 K1
        have hno : inL L2 l = false → false = sameL L1 L2 := fun h9 => by
          rw [unhide HS]
          exact (List.all_eq_false.2 ⟨l, hl, by simp [h9]⟩).symm
        cases hp : placeOf l.p l.s L2 0 with
        | none =>
          have HU : Hid (lookV l.p l.s L2 = 0) := by show _ = _; unfold lookV; rw [hp]
          have HV : Hid ((placeOf l.p l.s L2 0).isSome = false) := by show _ = _; rw [hp]; rfl
          have HB : Hid (false = sameL L1 L2) := hno (by unfold inL; rw [hp])
          clear hno hp
          go_wp2_with (
            first
            | (refine wpEntry50 rfl (.tmp 15) rfl r m1 l rfl (unhide HE) ?_
               refine Stp.go ?_))
          constructor
          go_wp2_with (
            first
            | (refine wpNew row67 (keyC 0 0) rfl zero67 5 rfl rfl rfl (.tmp 19) rfl rfl rfl (keyC l.p l.s) rfl (keyC_one l.p l.s) rfl rfl ?_
               intro W2 y e2 B2 K2
               replace HI := hide ((unhide HI).step K2 (by simp) (by simp))
               replace HK := hide ((unhide HK).trans K2)
               have HY := hide B2
               clear e2 B2 K2
               refine Stp.go ?_))
          constructor
          go_wp2_with (
            first
            | (refine wpLoadA row67 rfl (.tmp 5) rfl y 0 rfl (keyC l.p l.s) rfl (unhide HY).range ?_
               refine Stp.go ?_))
          constructor
          go_wp2_with (
            first
            | (refine wpLook50 rfl (.tmp 22) (.tmp 23) rfl m2 L2 l.p l.s (0) false (unhide HU) (unhide HV) ((unhide HM2).kept (unhide HK) (by simp)) rfl rfl ?_
               refine Stp.go ?_))
          constructor
          go_wp2_with fail
          go_ret
          exact ⟨ret_bool (by rw [← unhide HB]), unhide HK⟩
        | some x =>
          obtain ⟨q, z⟩ := x
          have HU : Hid (lookV l.p l.s L2 = z.f) := by show _ = _; unfold lookV; rw [hp]
          have HV : Hid ((placeOf l.p l.s L2 0).isSome = true) := by show _ = _; rw [hp]; rfl
          by_cases hf : l.f = z.f
          · have HB : Hid (inL L2 l = true) := by show _ = _; unfold inL; rw [hp]; simp [hf]
            have D1 : (l.f == z.f) = true := by simp [hf]
            clear hno hp hf
            go_wp2_with (
              first
              | (refine wpEntry50 rfl (.tmp 15) rfl r m1 l rfl (unhide HE) ?_
                 refine Stp.go ?_))
            constructor
            go_wp2_with (
              first
              | (refine wpNew row67 (keyC 0 0) rfl zero67 5 rfl rfl rfl (.tmp 19) rfl rfl rfl (keyC l.p l.s) rfl (keyC_one l.p l.s) rfl rfl ?_
                 intro W2 y e2 B2 K2
                 replace HI := hide ((unhide HI).step K2 (by simp) (by simp))
                 replace HK := hide ((unhide HK).trans K2)
                 have HY := hide B2
                 clear e2 B2 K2
                 refine Stp.go ?_))
            constructor
            go_wp2_with (
              first
              | (refine wpLoadA row67 rfl (.tmp 5) rfl y 0 rfl (keyC l.p l.s) rfl (unhide HY).range ?_
                 refine Stp.go ?_))
            constructor
            go_wp2_with (
              first
              | (refine wpLook50 rfl (.tmp 22) (.tmp 23) rfl m2 L2 l.p l.s (z.f) true (unhide HU) (unhide HV) ((unhide HM2).kept (unhide HK) (by simp)) rfl rfl ?_
                 refine Stp.go ?_))
            constructor
            go_wp2_with fail
            have HG2 : Hid (∀ y ∈ L1, (T y && !decide (y = l)) = false → inL L2 y = true) := by
              intro y hy h9
              by_cases h8 : y = l
              · rw [h8]; exact unhide HB
              · exact unhide HG y hy (by simpa [h8] using h9)
            go_roundw
            case rel => exact ⟨_, HI, HK, HG2⟩
            case measure => rw [(unhide HI).left_eq, HN]; exact more_less hl hT
          · have HB : Hid (false = sameL L1 L2) := hno (by unfold inL; rw [hp]; simp [hf])
            have D1 : (l.f == z.f) = false := by simp [hf]
            clear hno hp hf
            go_wp2_with (
              first
              | (refine wpEntry50 rfl (.tmp 15) rfl r m1 l rfl (unhide HE) ?_
                 refine Stp.go ?_))
            constructor
            go_wp2_with (
              first
              | (refine wpNew row67 (keyC 0 0) rfl zero67 5 rfl rfl rfl (.tmp 19) rfl rfl rfl (keyC l.p l.s) rfl (keyC_one l.p l.s) rfl rfl ?_
                 intro W2 y e2 B2 K2
                 replace HI := hide ((unhide HI).step K2 (by simp) (by simp))
                 replace HK := hide ((unhide HK).trans K2)
                 have HY := hide B2
                 clear e2 B2 K2
                 refine Stp.go ?_))
            constructor
            go_wp2_with (
              first
              | (refine wpLoadA row67 rfl (.tmp 5) rfl y 0 rfl (keyC l.p l.s) rfl (unhide HY).range ?_
                 refine Stp.go ?_))
            constructor
            go_wp2_with (
              first
              | (refine wpLook50 rfl (.tmp 22) (.tmp 23) rfl m2 L2 l.p l.s (z.f) true (unhide HU) (unhide HV) ((unhide HM2).kept (unhide HK) (by simp)) rfl rfl ?_
                 refine Stp.go ?_))
            constructor
            go_wp2_with fail
            go_ret
            exact ⟨ret_bool (by rw [← unhide HB]), unhide HK⟩
  · have D0 : ((L1.length : Int) == (L2.length : Int)) = false := by simp; omega
    have HB : Hid (sameL L1 L2 = false) := by show _ = _; simp [sameL, hl]
    clear hl
    go_enter Try.func32, Try.ntmps32
    go_wp2_with (
      first
      | (refine wpLen50 rfl (.tmp 9) rfl m1 L1 rfl (unhide HM1) ?_
         refine Stp.go ?_))
    constructor
    go_wp2_with (
      first
      | (refine wpLen50 rfl (.tmp 11) rfl m2 L2 rfl (unhide HM2) ?_
         refine Stp.go ?_))
    constructor
    go_wp2_with fail
    go_ret
    exact ⟨ret_bool (by rw [unhide HB]), Kept.refl _ _⟩

end Go.Proofs.Ythihladmifpokaa
