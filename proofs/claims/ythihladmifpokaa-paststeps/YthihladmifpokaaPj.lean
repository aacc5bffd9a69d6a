/-
  Discard's closure; maps.DeleteFunc as Discard calls it; Discard.
-/
import Derived.Test.YthihladmifpokaaPi
import Derived.Maps.RangeWalk
namespace Go.Proofs.Ythihladmifpokaa
set_option maxRecDepth 100000
set_option linter.unusedSimpArgs false
open Go.RowKit


variable {w W W' : World} {r b mb b4 b5 : Nat} {L : List Mk} {T : Mk → Bool} {l : Mk} {p0 s0 : Int}
theorem ent39 : Ent 39 := fun vs w => by kernel_rfl
/-- What Discard takes away. -/
def gone (p0 s0 : Int) (l : Mk) : Bool := decide (l.p = p0) && decide (l.s ≤ s0)
theorem disc39 (h4 : Blk w b4 3 [.int .i64 p0]) (h5 : Blk w b5 2 [.int .i64 s0]) (p s f : Int) : Calls Try.prog 39 #[aggV (keyC p s), .int .i64 f, P0 b4, P0 b5] w fun e W => e = .returned (.bool (decide (p = p0) && decide (s ≤ s0))) ∧ Kept [] w W := by
  have H4 := hide h4
  have H5 := hide h5
  clear h4 h5
  by_cases h1 : p = p0
  · have d1 : (p == p0) = true := by simpa using h1
    have d2 : decide (p = p0) = true := by simpa using h1
    have HH : Hid (decide (p = p0) = true) := d2
    by_cases h2 : s ≤ s0
    · have d3 : decide (s ≤ s0) = true := by simpa using h2
      rw [d2, d3]
      clear h1 h2 d2
      go_enter Try.func39, Try.ntmps39
      go_wp2_with (
        first
        | (refine wpBoxV rfl (.tmp 0) rfl (keyC p s) rfl ?_
           intro W1 y e1 B1 K1
           have c1 := fits_cell B1 0 _ rfl
           have c2 := fits_cell B1 1 _ rfl
           have c3 := fits_cell ((unhide H4).kept K1 (by simp)) 0 _ rfl
           have c4 := fits_cell ((unhide H5).kept K1 (by simp)) 0 _ rfl
           have HK := hide K1
           clear e1 B1 K1
           refine Stp.go ?_))
      constructor
      go_wp2_with fail
      go_ret
      exact ⟨rfl, unhide HK⟩
    · have d3 : decide (s ≤ s0) = false := by simpa using h2
      rw [d2, d3]
      clear h1 h2 d2
      go_enter Try.func39, Try.ntmps39
      go_wp2_with (
        first
        | (refine wpBoxV rfl (.tmp 0) rfl (keyC p s) rfl ?_
           intro W1 y e1 B1 K1
           have c1 := fits_cell B1 0 _ rfl
           have c2 := fits_cell B1 1 _ rfl
           have c3 := fits_cell ((unhide H4).kept K1 (by simp)) 0 _ rfl
           have c4 := fits_cell ((unhide H5).kept K1 (by simp)) 0 _ rfl
           have HK := hide K1
           clear e1 B1 K1
           refine Stp.go ?_))
      constructor
      go_wp2_with fail
      go_ret
      exact ⟨rfl, unhide HK⟩
  · have d1 : (p == p0) = false := by simpa using h1
    rw [show decide (p = p0) = false by simpa using h1, Bool.false_and]
    clear h1
    go_enter Try.func39, Try.ntmps39
    go_wp2_with (
      first
      | (refine wpBoxV rfl (.tmp 0) rfl (keyC p s) rfl ?_
         intro W1 y e1 B1 K1
         have c1 := fits_cell B1 0 _ rfl
         have c2 := fits_cell B1 1 _ rfl
         have c3 := fits_cell ((unhide H4).kept K1 (by simp)) 0 _ rfl
         have c4 := fits_cell ((unhide H5).kept K1 (by simp)) 0 _ rfl
         have HK := hide K1
         clear e1 B1 K1
         refine Stp.go ?_))
    constructor
    go_wp2_with fail
    go_ret
    exact ⟨rfl, unhide HK⟩
section
variable {ops : Array Oper} {rest : List Oper} {op o : Oper} {a : Act} {w : World} {K : Act → World → Prop} {Q : Exit → Act → World → Prop}
theorem wpDel50 (hgd : op.guard = none) (x y : Operand) (ho : op.op = .call { callee := .builtin .delete, args := #[x, y], argTypes := #[50, 67] }) (r mb : Nat) (L : List Mk) (T : Mk → Bool) (l : Mk) (hx : a.eval x = .map (some mb)) (hy : a.eval y = aggV l.K) (hI : RI w r mb L T) (hl : l ∈ L)
    (h : ∀ W, RI W r mb (L.filter (fun x => !decide (x = l))) T → Kept [mb] w W → wpList Try.prog ops Q rest (a.put op.dst (.tuple #[])) W) : wpList Try.prog ops Q (op :: rest) a w :=
  wpList_plain hgd fun _ hK => by
    obtain ⟨W, hr, h1, h2⟩ := run_del w mb L T l r op.type hI hl
    unfold Oper.wp execOp
    simp only [ho, resolve, invoke, builtin, Sem.run_bind, Sem.run_pure, Result.andThen_ok, List.map_toArray, List.map_cons, List.map_nil, hx, hy, hr]
    exact hK _ _ (h W h1 h2)
end
theorem more_filter (q : Mk → Bool) : more (L.filter (fun x => T x || q x)) T = more L T := by
  unfold more
  rw [List.filter_filter]
  congr 1
  congr 1
  funext x
  cases T x <;> simp
theorem still (g : Mk → Bool) (hg : g l = false) : L.filter (fun x => (T x && !decide (x = l)) || !g x) = L.filter (fun x => T x || !g x) := by
  congr 1
  funext x
  by_cases h : x = l
  · subst h; simp [hg]
  · simp [h]
theorem taken (g : Mk → Bool) (hg : g l = true) : (L.filter (fun x => T x || !g x)).filter (fun x => !decide (x = l)) = L.filter (fun x => (T x && !decide (x = l)) || !g x) := by
  rw [List.filter_filter]
  congr 1
  funext x
  by_cases h : x = l
  · subst h; simp [hg]
  · simp [h]
set_option maxHeartbeats 2000000 in
theorem del38 (hM : MapAt w mb L) (h4 : Blk w b4 3 [.int .i64 p0]) (h5 : Blk w b5 2 [.int .i64 s0]) : Calls Try.prog 38 #[.map (some mb), fnV 39 #[P0 b4, P0 b5]] w fun e W => e = .returned (.tuple #[]) ∧ MapAt W mb (L.filter (fun x => !gone p0 s0 x)) ∧ Kept [mb] w W := by
  have HM := hide hM
  have P38 : Hid (∀ W, Kept [mb] w W → ∀ p s f, Calls Try.prog 39 #[aggV (keyC p s), .int .i64 f, P0 b4, P0 b5] W fun e W' => e = .returned (.bool (decide (p = p0) && decide (s ≤ s0))) ∧ Kept [] W W') := fun W hk p s f =>
    disc39 (h4.kept hk (by simpa using map_not_cells hM h4)) (h5.kept hk (by simpa using map_not_cells hM h5)) p s f
  clear hM h4 h5
  go_enter Try.func38, Try.ntmps38
  go_wp2_with (
    first
    | (refine wpRange50 rfl (.tmp 6) rfl mb L rfl (unhide HM) ?_
       intro W1 r e1 I1 K1
       have HR : Hid (w.heap.size ≤ r) := by show _ ≤ _; omega
       have HI : Hid (RI W1 r mb (L.filter (fun x => true || !gone p0 s0 x)) (fun _ => true)) := by
         have e9 : L.filter (fun x => true || !gone p0 s0 x) = L := List.filter_eq_self.2 (fun _ _ => rfl)
         rw [e9]; exact I1
       have HK : Hid (Kept [mb] w W1) := hide (Kept.mono K1 (by simp))
       clear e1 I1 K1 HM
       refine Stp.go ?_))
  constructor
  go_wp2_with fail
  go_loopw [5] (fun _ wr => ∃ T : Mk → Bool, Hid (RI wr r mb (L.filter (fun x => T x || !gone p0 s0 x)) T) ∧ Hid (Kept [mb] w wr)) (fun _ wr => wr.rangeLeft mb r)
  case atStart => exact ⟨_, HI, HK⟩
  case round =>
    clear HI HK
    obtain ⟨T, HI, HK⟩ := hrel
    have HN : wr.rangeLeft mb r = more L T := by rw [(unhide HI).left_eq, more_filter]
    go_wp2_with (
      first
      | (at_next
         refine Stp.go ?_))
    constructor
    refine wpNext50 rfl (.tmp 7) rfl r mb _ T rfl (unhide HI) ?_ ?_
    · intro h0
      have HF : Hid (MapAt wr mb (L.filter (fun x => !gone p0 s0 x))) := by
        have e9 : L.filter (fun x => T x || !gone p0 s0 x) = L.filter (fun x => !gone p0 s0 x) := by
          refine List.filter_congr fun x hx => ?_
          cases hT : T x with
          | false => rfl
          | true => have := h0 x (List.mem_filter.2 ⟨hx, by simp [hT]⟩); rw [hT] at this; cases this
        have := (unhide HI).map
        rw [e9] at this
        exact this
      clear h0 HN
      go_wp2_with fail
      exact bodyPost_end (results_none rfl _ _ _) rfl ⟨rfl, unhide HF, unhide HK⟩
    · intro V1 l hl hT I1 E1 K1
      have hlL : l ∈ L := (List.mem_filter.1 hl).1
      replace HK := hide ((unhide HK).fresh K1 (by have := unhide HR; intro i hi hl; simp at hi; omega))
      replace HI := hide I1
      have HE := hide E1
      have P39 := P38
      clear I1 E1 K1 P38
      cases hg : gone p0 s0 l with
      | false =>
        have HG : Hid (gone p0 s0 l = false) := hg
        have HJ0 : Hid (L.filter (fun x => (T x && !decide (x = l)) || !gone p0 s0 x) = L.filter (fun x => T x || !gone p0 s0 x)) := still (gone p0 s0) hg
        clear hg
        go_wp2_with (
          first
          | (refine wpEntry50 rfl (.tmp 7) rfl r mb l rfl (unhide HE) ?_
             refine Stp.go ?_))
        constructor
        go_wp2_with (
          first
          | (refine wpNew row67 (keyC 0 0) rfl zero67 4 rfl rfl rfl (.tmp 11) rfl rfl rfl (keyC l.p l.s) rfl (keyC_one l.p l.s) rfl rfl ?_
             intro W2 y e2 B2 K2
             replace HI := hide ((unhide HI).step K2 (by simp) (by simp))
             replace HK := hide ((unhide HK).fresh K2 (by simp))
             have HY := hide B2
             clear e2 B2 K2
             refine Stp.go ?_))
        constructor
        go_wp2_with (
          first
          | (refine wpLoadA row67 rfl (.tmp 4) rfl y 0 rfl (keyC l.p l.s) rfl (unhide HY).range ?_
             refine Stp.go ?_))
        constructor
        go_wp2_with (
          first
          | (go_at_call 39
             refine (unhide P39 _ (unhide HK) l.p l.s l.f).mono ?_
             rintro e W3 ⟨rfl, K3⟩
             rw [show (decide (l.p = p0) && decide (l.s ≤ s0)) = false from unhide HG]
             replace HI := hide ((unhide HI).step K3 (by simp) (by simp))
             replace HK := hide ((unhide HK).fresh K3 (by simp))
             replace HY := hide ((unhide HY).kept K3 (by simp))
             clear K3 P39
             refine Stp.go ?_))
        constructor
        go_wp2_with fail
        have HJ : Hid (RI W3 r mb (L.filter (fun x => (T x && !decide (x = l)) || !gone p0 s0 x)) (fun x => T x && !decide (x = l))) := by rw [unhide HJ0]; exact unhide HI
        go_roundw
        case rel => exact ⟨_, HJ, HK⟩
        case measure => rw [(unhide HJ).left_eq, HN, more_filter]; exact more_less hlL hT
      | true =>
        have HG : Hid (gone p0 s0 l = true) := hg
        clear hg
        go_wp2_with (
          first
          | (refine wpEntry50 rfl (.tmp 7) rfl r mb l rfl (unhide HE) ?_
             refine Stp.go ?_))
        constructor
        go_wp2_with (
          first
          | (refine wpNew row67 (keyC 0 0) rfl zero67 4 rfl rfl rfl (.tmp 11) rfl rfl rfl (keyC l.p l.s) rfl (keyC_one l.p l.s) rfl rfl ?_
             intro W2 y e2 B2 K2
             replace HI := hide ((unhide HI).step K2 (by simp) (by simp))
             replace HK := hide ((unhide HK).fresh K2 (by simp))
             have HY := hide B2
             clear e2 B2 K2
             refine Stp.go ?_))
        constructor
        go_wp2_with (
          first
          | (refine wpLoadA row67 rfl (.tmp 4) rfl y 0 rfl (keyC l.p l.s) rfl (unhide HY).range ?_
             refine Stp.go ?_))
        constructor
        go_wp2_with (
          first
          | (go_at_call 39
             refine (unhide P39 _ (unhide HK) l.p l.s l.f).mono ?_
             rintro e W3 ⟨rfl, K3⟩
             rw [show (decide (l.p = p0) && decide (l.s ≤ s0)) = true from unhide HG]
             replace HI := hide ((unhide HI).step K3 (by simp) (by simp))
             replace HK := hide ((unhide HK).fresh K3 (by simp))
             replace HY := hide ((unhide HY).kept K3 (by simp))
             clear K3 P39
             refine Stp.go ?_))
        constructor
        go_wp2_with (
          first
          | (refine wpLoadA row67 rfl (.tmp 4) rfl y 0 rfl (keyC l.p l.s) rfl (unhide HY).range ?_
             refine Stp.go ?_))
        constructor
        go_wp2_with (
          first
          | (refine wpDel50 rfl (.tmp 17) (.tmp 18) rfl r mb _ _ l rfl rfl (unhide HI) hl ?_
             intro W4 I4 K4
             have HJ : Hid (RI W4 r mb (L.filter (fun x => (T x && !decide (x = l)) || !gone p0 s0 x)) (fun x => T x && !decide (x = l))) := by rw [taken (gone p0 s0) (unhide HG)] at I4; exact I4
             replace HK := hide ((unhide HK).fresh K4 (by simp))
             clear I4 K4
             refine Stp.go ?_))
        constructor
        go_wp2_with fail
        go_roundw
        case rel => exact ⟨_, HJ, HK⟩
        case measure => rw [(unhide HJ).left_eq, HN, more_filter]; exact more_less hlL hT

end Go.Proofs.Ythihladmifpokaa
