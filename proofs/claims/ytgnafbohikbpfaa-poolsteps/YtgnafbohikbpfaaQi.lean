/-
  Copies, clearing, comparing; the lowest free place.
-/
import Derived.Test.YtgnafbohikbpfaaQh
namespace Go.Proofs.Ytgnafbohikbpfaa
set_option maxRecDepth 100000
set_option linter.unusedSimpArgs false
open Go.RowKit


variable {w W W' : World} {b mb : Nat} {P Q : Po} {L : List En} {pg : Int} {i : Nat}
theorem Kept.own {w W W' : World} {X : List Nat} (h : Kept [] w W) (k : Kept X W W') (hX : ∀ i ∈ X, w.heap.size ≤ i) : Kept [] w W' := h.fresh k (fun i hi hl => by have := hX i hi; omega)
section
variable {ops : Array Oper} {rest : List Oper} {op : Oper} {a : Act} {w : World} {Q : Exit → Act → World → Prop}
theorem wpStoreV1 {T : Nat} (hs : (Try.prog.info? T).map (·.size) = some 1) (hgd : op.guard = none) (x y : Operand) (ho : op.op = .store T x y) (hd : op.dst = none) (b off : Nat) (v : Value) (h1 : One v) (hx : a.eval x = .pointer (some ⟨b, off, none⟩)) (hy : a.eval y = v) {TT : Nat} {us : List Value} (hB : Blk w b TT us) (hl : off < us.length)
    (h : ∀ W, Blk W b TT (us.set off v) → Kept [b] w W → wpList Try.prog ops Q rest a W) : wpList Try.prog ops Q (op :: rest) a w :=
  wpSt1 hs hgd x y ho hd b off 0 v h1 hx hy (Mm.ini (X := [b]) hB (by simp)) rfl hl rfl (fun W hM => h W (hM.at 0 _ rfl) hM.kept)
end
theorem clone46 (mb : Nat) (L : List En) (w : World) (h : MapAt w mb L) : Calls Try.prog 46 #[.map (some mb)] w fun e w' => ∃ m', e = .returned (.map (some m')) ∧ w.heap.size ≤ m' ∧ MapAt w' m' L ∧ Kept [] w w' := by
  obtain ⟨es, c, hb, h2, hst⟩ := h
  have hq : ∀ W, Sem.run Try.prog (binOp BinOp.eql 68 (.map (some mb)) (.map none)) W = .ok (.bool false) W := fun W => by kernel_rfl
  have hc : (Extern.MapsClone.clone #[.iface 68 (.map (some mb))]).run Try.prog w = .ok (.iface 68 (.map (some w.heap.size))) (w.alloc (.map es c)) := by
    show Sem.run Try.prog (getObj mb >>= _) w = _
    rw [Sem.run_bind, get_map hb]
    rfl
  have ht : ∀ (W : World) (m : Nat), (Instr.typeAssert (.iface 68 (.map (some m))) 20 68 false).run Try.prog W = .ok (.map (some m)) W := fun W m => by kernel_rfl
  go_enter Try.func46, Try.ntmps46
  go_wp2
  rw [run_callFunc_extern Try.func54 (by kernel_rfl) (by kernel_rfl) (by kernel_rfl) (e := Extern.MapsClone.clone) (by kernel_rfl), hc]
  simp only [Result.andThen]
  rw [Oper.upon_value]
  go_wp2
  go_ret
  exact ⟨w.heap.size, rfl, Nat.le_refl _, ⟨es, c, heap_alloc_new w _, h2, hst⟩, (Kept.refl _ _).alloc _⟩

set_option maxHeartbeats 1000000 in
theorem copy23 (h : Pg w b mb P L) : Calls Try.prog 23 #[P0 b] w fun e w' => ∃ b2 mb2, e = .returned (P0 b2) ∧ w.heap.size ≤ b2 ∧ w.heap.size ≤ mb2 ∧ Pg w' b2 mb2 P L ∧ Kept [] w w' := by
  have P41 := hide (none41 w h)
  have HP := hide h
  obtain ⟨c0, hc0⟩ : ∃ c, c = P.C (.map (some mb)) := ⟨_, rfl⟩
  obtain ⟨zc, hzc⟩ : ∃ c, c = Po.C ⟨0, 0, z16⟩ (.map none) := ⟨_, rfl⟩
  have HL0 : Hid (c0.length = 1667) := by show _ = _; rw [hc0, Po.len]
  have HO0 : Hid (∀ v ∈ c0, v.oneCell' = true) := by rw [hc0]; exact Po.one _ _ rfl
  have HLZ : Hid (zc.length = 1667) := by show _ = _; rw [hzc, Po.len]
  have HZ70 : Hid (∀ w : World, (Instr.alloc 70 true (.tuple #[])).run Try.prog w = .ok (P0 w.heap.size) (w.alloc (.cells zc.toArray 70))) := fun w => by rw [hzc]; exact zero70 w
  have HB0 : Hid (Blk w b 70 c0) := by rw [hc0]; exact h.blk
  have HSW : Hid (∀ m2, c0.set 1666 (.map (some m2)) = P.C (.map (some m2))) := fun m2 => by rw [hc0]; exact P.set_w _ _
  clear hc0 hzc h
  go_enter Try.func23, Try.ntmps23
  go_wp2_with (
    first
    | (go_at_call 41
       refine (unhide P41).mono ?_
       rintro e W9 ⟨rfl, q9⟩
       replace q9 := q9.symm
       subst q9
       clear P41
       refine Stp.go ?_))
  constructor
  go_wp2_with (
    first
    | (refine wpLoadA row70 rfl (.tmp 7) rfl b 0 rfl c0 (unhide HL0) (unhide HB0).range ?_
       refine Stp.go ?_))
  constructor
  go_wp2_with (
    first
    | (refine wpNew row70 zc (unhide HLZ) (unhide HZ70) 3 rfl rfl rfl (.tmp 8) rfl rfl rfl c0 (unhide HL0) (unhide HO0) (by kernel_rfl) (by kernel_rfl) ?_
       intro W2 b2 e2 B2 K2
       have M : Hid (Mm [b] w W2 [(b, 70, c0), (b2, 70, c0)]) := hide ((Mm.ini (unhide HB0) (by simp)).new e2 B2 K2)
       have HB2 : Hid (w.heap.size ≤ b2) := by show _ ≤ _; omega
       have HK := hide K2
       clear e2 B2 K2
       refine Stp.go ?_))
  constructor
  go_wp2_with (
    first
    | (refine wpLd68 rfl (.tmp 11) rfl ⟨b, 1666, none⟩ (.map (some mb)) rfl ((unhide HK).cell (unhide HP).cw (by simp)) ?_
       refine Stp.go ?_))
  constructor
  go_wp2_with (
    first
    | (go_at_call 46
       refine (clone46 mb L _ ((unhide HP).map.kept (unhide HK) (by simp))).mono ?_
       rintro e W3 ⟨mb2, rfl, hm2, hM3, K3⟩
       replace M : Hid (Mm [b] w W3 [(b, 70, c0), (b2, 70, c0)]) := hide ((unhide M).step K3)
       have HM2 : Hid (w.heap.size ≤ mb2) := by have := (unhide HK).size; show _ ≤ _; omega
       have HMP0 := hide hM3
       replace HK := hide ((unhide HK).trans K3)
       obtain ⟨c2, hc2⟩ : ∃ c, c = P.C (.map (some mb2)) := ⟨_, rfl⟩
       have HC2 : Hid (c0.set 1666 (.map (some mb2)) = c2) := by show _ = _; rw [hc2]; exact unhide HSW mb2
       have HC3 := hide hc2
       clear hc2 hm2 hM3 K3
       refine Stp.go ?_))
  constructor
  go_wp2_with (
    first
    | (refine wpStoreV1 size68 rfl (.tmp 14) (.tmp 13) rfl rfl b2 1666 (.map (some mb2)) ⟨rfl, rfl⟩ rfl rfl ((unhide M).at 1 _ rfl) (by have := unhide HL0; show 1666 < c0.length; omega) ?_
       intro W4 B4 K4
       have HBB := hide ((unhide M).at 1 _ rfl)
       replace M : Hid (Mm [b] w W4 [(b, 70, c0), (b2, 70, c2)]) := hide ((unhide M).mut 1 rfl K4 (by rw [← unhide HC2]; exact B4))
       have HMP : Hid (MapAt W4 mb2 L) := (unhide HMP0).kept K4 (by have h8 := map_not_cells (unhide HMP0) (show _ = some _ from (unhide HBB)); simp; exact fun e => h8 e.symm)
       have HKK : Hid (Kept [] w W4) := (unhide HK).own K4 (by simp; exact unhide HB2)
       clear B4 K4
       refine Stp.go ?_))
  constructor
  go_wp2_with fail
  go_ret
  have M9 := unhide M
  exact ⟨b2, mb2, rfl, unhide HB2, unhide HM2, ⟨by have h9 := M9.at 1 _ rfl; rw [← unhide HC3]; exact h9, unhide HMP, (unhide HP).ok, (unhide HP).wh⟩, (unhide HKK)⟩
theorem copy23_z (v : Value) (h : Nil w v) : Calls Try.prog 23 #[v] w fun e w' => e = .returned (.pointer none) ∧ w' = w := by
  have P41 := hide (none41_z w v h)
  clear h
  go_enter Try.func23, Try.ntmps23
  go_wp2_with (
    first
    | (go_at_call 41
       refine (unhide P41).mono ?_
       rintro e W9 ⟨rfl, q9⟩
       replace q9 := q9.symm
       subst q9
       clear P41
       refine Stp.go ?_))
  constructor
  go_wp2_with fail
  go_ret
  exact ⟨rfl, rfl⟩

set_option maxHeartbeats 1000000 in
theorem clear33 (h : Pg w b mb P L) : Calls Try.prog 33 #[P0 b] w fun e w' => ∃ mb2, e = .returned (.int .i64 (cntB P.S P.m : Int)) ∧ w.heap.size ≤ mb2 ∧ Pg w' b mb2 (po0 P.m) [] ∧ Kept [b] w w' := by
  have P41 := hide (none41 w h)
  have P24 := hide (len24 h)
  have HP := hide h
  have cm := h.cm
  obtain ⟨c0, hc0⟩ : ∃ c, c = P.C (.map (some mb)) := ⟨_, rfl⟩
  have HL0 : Hid (c0.length = 1667) := by show _ = _; rw [hc0, Po.len]
  have HB0 : Hid (Blk w b 70 c0) := by rw [hc0]; exact h.blk
  clear hc0 h
  go_enter Try.func33, Try.ntmps33
  go_wp2_with (
    first
    | (go_at_call 24
       refine (unhide P24).mono ?_
       rintro e W9 ⟨rfl, q9⟩
       replace q9 := q9.symm
       subst q9
       clear P24
       refine Stp.go ?_))
  constructor
  go_wp2_with (
    first
    | (go_at_call 41
       refine (unhide P41).mono ?_
       rintro e W9 ⟨rfl, q9⟩
       replace q9 := q9.symm
       subst q9
       clear P41
       refine Stp.go ?_))
  constructor
  go_wp2_with (
    first
    | (refine wpMk68 rfl rfl ?_
       intro W1 mb2 e1 hm1 K1
       have HM2 : Hid (w.heap.size ≤ mb2) := by show _ ≤ _; omega
       have HMP0 := hide hm1
       have HK := hide K1
       clear e1 hm1 K1
       refine Stp.go ?_))
  constructor
  go_wp2_with (
    first
    | (refine wpBld70 rfl (.tmp 13) (.tmp 14) rfl P.m mb2 rfl rfl ?_
       obtain ⟨c1, hc1⟩ : ∃ c, c = Po.C ⟨P.m, 0, z16⟩ (.map (some mb2)) := ⟨_, rfl⟩
       rw [← hc1]
       have HC1 := hide hc1
       have HL1 : Hid (c1.length = 1667) := by show _ = _; rw [hc1, Po.len]
       have HO1 : Hid (∀ v ∈ c1, v.oneCell' = true) := by rw [hc1]; exact Po.one _ _ rfl
       clear hc1
       refine Stp.go ?_))
  constructor
  go_wp2_with (
    first
    | (refine wpStN row70 rfl (.tmp 16) (.tmp 15) rfl rfl b 0 0 c1 rfl rfl (unhide HL1) (unhide HO1) (Mm.ini (X := [b]) ((unhide HB0).kept (unhide HK) (by simp)) (by simp)) rfl (by have := unhide HL0; show 0 + 1667 ≤ c0.length; omega) (fun W h9 => h9.put (by rw [unhide HL0, unhide HL1])) ?_
       intro W4 M4
       have HB9 : Hid (Blk W4 b 70 c1) := M4.at 0 _ rfl
       have HMP : Hid (MapAt W4 mb2 []) := (unhide HMP0).kept M4.kept (by have h8 := map_not_cells (unhide HMP0) (show _ = some _ from (unhide HB0).kept (unhide HK) (by simp)); simp; exact fun e => h8 e.symm)
       have HKK : Hid (Kept [b] w W4) := ((unhide HK).mono (by simp)).trans M4.kept
       clear M4
       refine Stp.go ?_))
  constructor
  go_wp2_with fail
  go_ret
  exact ⟨mb2, rfl, unhide HM2, ⟨by have h9 := unhide HB9; rw [unhide HC1] at h9; exact h9, unhide HMP, po0_ok (unhide HP).ok.m, po0_wh _⟩, unhide HKK⟩
theorem clear33_z (v : Value) (h : Nil w v) : Calls Try.prog 33 #[v] w fun e w' => e = .returned (.int .i64 0) ∧ w' = w := by
  have P41 := hide (none41_z w v h)
  have P24 := hide (len24_z v h)
  clear h
  go_enter Try.func33, Try.ntmps33
  go_wp2_with (
    first
    | (go_at_call 24
       refine (unhide P24).mono ?_
       rintro e W9 ⟨rfl, q9⟩
       replace q9 := q9.symm
       subst q9
       clear P24
       refine Stp.go ?_))
  constructor
  go_wp2_with (
    first
    | (go_at_call 41
       refine (unhide P41).mono ?_
       rintro e W9 ⟨rfl, q9⟩
       replace q9 := q9.symm
       subst q9
       clear P41
       refine Stp.go ?_))
  constructor
  go_wp2_with fail
  go_ret
  exact ⟨rfl, rfl⟩

/-- The first place that is free. -/
def lowTo (S : Nat → Pl) : Nat → Nat
  | 0 => 0
  | n + 1 => if lowTo S n < n then lowTo S n else if (S n).f.md = 0 then n else n + 1
theorem lowTo_is {S : Nat → Pl} {k : Nat} : ∀ n, k ≤ n → (∀ i, i < k → ¬ (S i).f.md = 0) → (k < n → (S k).f.md = 0) → lowTo S n = k := by
  intro n
  induction n with
  | zero => intro h _ _; show 0 = k; omega
  | succ n ih =>
    intro h1 h2 h3
    unfold lowTo
    rcases Nat.lt_trichotomy k n with h | h | h
    · rw [ih (by omega) h2 (fun _ => h3 (by omega)), if_pos h]
    · subst h
      rw [ih (by omega) h2 (fun h => by omega), if_neg (by omega), if_pos (h3 (by omega))]
    · obtain rfl : k = n + 1 := by omega
      have h4 : lowTo S n = n := by
        clear ih
        have : ∀ m, m ≤ n → lowTo S m = m := by
          intro m
          induction m with
          | zero => intro _; rfl
          | succ m ihm => intro hm; unfold lowTo; rw [ihm (by omega), if_neg (by omega), if_neg (h2 m (by omega))]
        exact this n (by omega)
      rw [h4, if_neg (by omega), if_neg (h2 n (by omega))]
theorem lowTo_spec (S : Nat → Pl) : ∀ n, lowTo S n ≤ n ∧ (∀ i, i < lowTo S n → ¬ (S i).f.md = 0) ∧ (lowTo S n < n → (S (lowTo S n)).f.md = 0) := by
  intro n
  induction n with
  | zero => exact ⟨Nat.le_refl _, fun i hi => by simp [lowTo] at hi, fun h => by simp [lowTo] at h⟩
  | succ n ih =>
    obtain ⟨h1, h2, h3⟩ := ih
    unfold lowTo
    by_cases e : lowTo S n < n
    · rw [if_pos e]; exact ⟨by omega, h2, fun _ => h3 e⟩
    · have e1 : lowTo S n = n := by omega
      rw [if_neg e]
      rw [e1] at h2
      by_cases e2 : (S n).f.md = 0
      · rw [if_pos e2]; exact ⟨by omega, h2, fun _ => e2⟩
      · rw [if_neg e2]
        refine ⟨by omega, fun i hi => ?_, fun h => by omega⟩
        by_cases e3 : i = n
        · subst e3; exact e2
        · exact h2 i (by omega)
theorem lowest45 (h : Pg w b mb P L) : Calls Try.prog 45 #[P0 b] w fun e w' => e = .returned (.int .i64 (lowTo P.S P.m : Int)) ∧ w' = w := by
  have HP := hide h
  have cm := h.cm
  have hm16 := h.ok.m
  clear h
  go_enter Try.func45, Try.ntmps45
  go_wp2_with fail
  go_loopw [3] (fun xi wr => ∃ k : Nat, k ≤ P.m ∧ xi = .int .i64 k ∧ wr = w ∧ Hid (∀ i, i < k → ¬ (P.S i).f.md = 0)) (fun xi _ => P.m - (intOf xi).toNat)
  case atStart => exact ⟨0, by omega, rfl, rfl, fun i hi => by omega⟩
  case round =>
    obtain ⟨k, hk, rfl, rfl, HI⟩ := hrel
    by_cases hlt : k < P.m
    · have hd : decide ((k : Int) < (P.m : Int)) = true := by simp; omega
      have hk16 : k < 16 := by omega
      have hkI : (k : Int) < 16 := by omega
      have P43 := hide (free43 wr (unhide HP) k hk16)
      by_cases hf : (P.S k).f.md = 0
      · rw [decide_eq_true hf] at P43
        go_wp2_with (
          first
          | (go_at_call 43
             refine (unhide P43).mono ?_
             rintro e W9 ⟨rfl, q9⟩
             replace q9 := q9.symm
             subst q9
             clear P43
             refine Stp.go ?_))
        constructor
        go_wp2_with fail
        go_ret
        exact ⟨by rw [lowTo_is P.m hk (unhide HI) (fun _ => hf)]; rfl, rfl⟩
      · rw [decide_eq_false hf] at P43
        have HI2 : Hid (∀ i, i < k + 1 → ¬ (P.S i).f.md = 0) := fun i hi => by
          by_cases e : i = k
          · subst e; exact hf
          · exact unhide HI i (by omega)
        clear hf
        go_wp2_with (
          first
          | (go_at_call 43
             refine (unhide P43).mono ?_
             rintro e W9 ⟨rfl, q9⟩
             replace q9 := q9.symm
             subst q9
             clear P43
             refine Stp.go ?_))
        constructor
        go_wp2_with fail
        go_roundw
        case rel => exact ⟨k + 1, by omega, by go_num, by trivial, HI2⟩
        case measure => simp [intOf]; omega
    · obtain rfl : k = P.m := by omega
      have hd : decide ((P.m : Int) < (P.m : Int)) = false := by simp
      go_wp2_with fail
      go_ret
      exact ⟨by rw [lowTo_is P.m (Nat.le_refl _) (unhide HI) (fun h => by omega)]; rfl, rfl⟩

end Go.Proofs.Ytgnafbohikbpfaa
