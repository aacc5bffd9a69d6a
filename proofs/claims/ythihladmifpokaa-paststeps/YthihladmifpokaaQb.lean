/-
  Bound.
-/
import Derived.Test.YthihladmifpokaaQa
import Derived.Deep.CutBlock
namespace Go.Proofs.Ythihladmifpokaa
set_option maxRecDepth 100000
set_option linter.unusedSimpArgs false
open Go.RowKit

section
variable {ops : Array Oper} {rest : List Oper} {op o : Oper} {a : Act} {w : World} {K : Act → World → Prop} {Q : Exit → Act → World → Prop}
theorem o_idx23 (x y : Operand) (ho : o.op = .indexAddr 23 x y) (v : Value) (X : List Int) (j : Nat) (m : Int) (hx : a.eval x = v) (hy : a.eval y = .int .i64 j) (hI : Is w v X) (hm : X[j]? = some m) (h : ∀ ad, w.cell? ad = some (.int .i64 m) → K (a.put o.dst (.pointer (some ad))) w) : o.wp Try.prog a w K Q := by
  obtain ⟨g, off, c, rfl, hc⟩ := hI.get hm
  have hj := (List.getElem?_eq_some_iff.1 hm).1
  have hjI : (j : Int) < X.length := by omega
  unfold Oper.wp execOp
  simp only [ho, hx, hy]
  simp [go_sem, hjI]
  exact h _ hc
theorem wpIdx23 (hgd : op.guard = none) (x y : Operand) (ho : op.op = .indexAddr 23 x y) (v : Value) (X : List Int) (j : Nat) (m : Int) (hx : a.eval x = v) (hy : a.eval y = .int .i64 j) (hI : Is w v X) (hm : X[j]? = some m) (h : ∀ ad, w.cell? ad = some (.int .i64 m) → wpList Try.prog ops Q rest (a.put op.dst (.pointer (some ad))) w) : wpList Try.prog ops Q (op :: rest) a w :=
  wpList_plain hgd fun _ hK => o_idx23 x y ho v X j m hx hy hI hm (fun ad hp => hK _ _ (h ad hp))
theorem wpMin2 (hgd : op.guard = none) (x y : Operand) {ts : Array TypeId} (ho : op.op = .call { callee := .builtin .min, args := #[x, y], argTypes := ts }) (m n : Int) (hx : a.eval x = .int .i64 m) (hy : a.eval y = .int .i64 n) (h : wpList Try.prog ops Q rest (a.put op.dst (.int .i64 (min m n))) w) : wpList Try.prog ops Q (op :: rest) a w :=
  wpList_plain hgd fun _ hK => o_min2 x y ho m n hx hy (hK _ _ h)
end
/-- The least of a number and of those of others that are LSNs. -/
def boundF (n : Int) : List Int → Int
  | [] => n
  | f :: F => boundF (if 1 ≤ f then min n f else n) F
theorem boundF_app (f : Int) : ∀ (F : List Int) (n : Int), boundF n (F ++ [f]) = if 1 ≤ f then min (boundF n F) f else boundF n F
  | [], n => rfl
  | x :: F, n => by
    show boundF _ (F ++ [f]) = _
    rw [boundF_app f F]
    rfl
/-- The least of a number and of the Firsts of what has come. -/
def minM (n : Int) (T : Mk → Bool) : List Mk → Int
  | [] => n
  | l :: L => if T l = true then minM n T L else min l.f (minM n T L)
theorem minM_all (n : Int) : ∀ L, minM n (fun _ => true) L = n
  | [] => rfl
  | l :: L => by simp [minM, minM_all n L]
theorem minM_step {T : Mk → Bool} {l : Mk} (n : Int) (hT : T l = true) : ∀ L, (l ∈ L → minM n (fun x => T x && !decide (x = l)) L = min (minM n T L) l.f) ∧ (¬ l ∈ L → minM n (fun x => T x && !decide (x = l)) L = minM n T L)
  | [] => ⟨fun h => by simp at h, fun _ => rfl⟩
  | x :: L => by
    have ih := minM_step n hT L
    simp only [minM]
    by_cases e : x = l
    · subst e
      refine ⟨fun _ => ?_, fun h => absurd (by simp) h⟩
      simp only [decide_true, Bool.not_true, Bool.and_false, hT, if_true, Bool.false_eq_true, if_false]
      by_cases hm : x ∈ L
      · rw [ih.1 hm]; omega
      · rw [ih.2 hm]; omega
    · have hx : (T x && !decide (x = l)) = T x := by simp [e]
      simp only [hx]
      refine ⟨fun h => ?_, fun h => ?_⟩
      · have hm : l ∈ L := by
          rcases List.mem_cons.1 h with h1 | h1
          · exact absurd h1.symm e
          · exact h1
        rw [ih.1 hm]
        split <;> omega
      · have hm : ¬ l ∈ L := fun h1 => h (List.mem_cons_of_mem _ h1)
        rw [ih.2 hm]
theorem minM_none {T : Mk → Bool} (n : Int) : ∀ L, (∀ l ∈ L, T l = false) → minM n T L = minM n (fun _ => false) L
  | [], _ => rfl
  | l :: L, h => by
    have h1 := h l (by simp)
    have h2 := minM_none n L fun x hx => h x (List.mem_cons_of_mem _ hx)
    simp [minM, h1, h2]
/-- What Bound answers. -/
def boundP (n : Int) (F : List Int) (L : List Mk) : Int := minM (boundF n F) (fun _ => false) L
theorem Is.big {W : World} {v : Value} {F : List Int} (h : Is W v F) : F.length ≤ 9223372036854775807 := by
  rcases h.lie with ⟨_, h2⟩ | ⟨g, off, cap, cur, _, _, h3, h4, _⟩
  · omega
  · unfold maxLen at h4; omega
theorem Is.val {W : World} {v : Value} {F : List Int} (h : Is W v F) : ∃ ao c, v = .slice ao F.length c := by
  rcases h.lie with ⟨h1, h2⟩ | ⟨g, off, cap, cur, h1, _⟩
  · exact ⟨none, 0, by rw [h1, h2]⟩
  · exact ⟨_, _, h1⟩
variable {w W W' : World} {b mb : Nat} {L : List Mk} {v : Value} {F : List Int} {n : Int}
set_option maxHeartbeats 2000000 in
theorem bound15 (h : Pg w b mb L) (hI : Is w v F) (n : Int) : Calls Try.prog 15 #[P0 b, .int .i64 n, v] w fun e W => e = .returned (.int .i64 (boundP n F L)) ∧ Kept [] w W := by
  obtain ⟨ao, cc, rfl⟩ := hI.val
  have hFm := hI.big
  have H := hide h
  have HI := hide hI
  clear h hI
  go_enter Try.func15, Try.ntmps15
  go_upto_block 0 with fail
  go_cut [7, 9] from 15 to 24 (fun xb _ wc => xb = .int .i64 (boundF n F) ∧ w = wc)
  case first =>
    go_wp2_with fail
    go_loopw [7, 15] (fun xb xk wr => ∃ k : Nat, k ≤ F.length ∧ xk = .int .i64 k ∧ xb = .int .i64 (boundF n (F.take k)) ∧ w = wr) (fun _ xk _ => F.length - (intOf xk).toNat)
    case atStart => exact ⟨0, by omega, rfl, rfl, rfl⟩
    case round =>
      obtain ⟨k, hk, rfl, rfl, rfl⟩ := hrel
      by_cases hkl : k < F.length
      · have hd : decide ((k : Int) < (F.length : Int)) = true := by simp; omega
        obtain ⟨f, hf⟩ : ∃ f, F[k]? = some f := ⟨_, List.getElem?_eq_getElem hkl⟩
        have HT : Hid (F.take (k + 1) = F.take k ++ [f]) := by show _ = _; rw [List.take_add_one, hf]; rfl
        have HFK := hide hf
        by_cases h1 : 1 ≤ f
        · have d1 : decide (f ≥ 1) = true := by simpa using h1
          have HB : Hid (boundF n (F.take (k + 1)) = min (boundF n (F.take k)) f) := by show _ = _; rw [unhide HT, boundF_app, if_pos h1]
          clear hf h1
          go_wp2_with (
            first
            | (refine wpIdx23 rfl (.tmp 13) (.tmp 15) rfl _ F k f rfl rfl (unhide HI) (unhide HFK) ?_
               intro ad hc
               refine Stp.go ?_))
          constructor
          go_wp2_with (
            first
            | (refine wpMin2 rfl (.tmp 21) (.tmp 22) rfl _ _ rfl rfl ?_
               refine Stp.go ?_))
          constructor
          go_wp2_with fail
          go_roundw
          case rel => exact ⟨k + 1, by omega, by go_num, by rw [unhide HB], trivial⟩
          case measure => simp [intOf]; omega
        · have d1 : decide (f ≥ 1) = false := by simpa using h1
          have HB : Hid (boundF n (F.take (k + 1)) = boundF n (F.take k)) := by show _ = _; rw [unhide HT, boundF_app, if_neg h1]
          clear hf h1
          go_wp2_with (
            first
            | (refine wpIdx23 rfl (.tmp 13) (.tmp 15) rfl _ F k f rfl rfl (unhide HI) (unhide HFK) ?_
               intro ad hc
               refine Stp.go ?_))
          constructor
          go_wp2_with fail
          go_roundw
          case rel => exact ⟨k + 1, by omega, by go_num, by rw [unhide HB], trivial⟩
          case measure => simp [intOf]; omega
      · obtain rfl : k = F.length := by omega
        have hd : decide ((F.length : Int) < (F.length : Int)) = false := by simp
        go_wp2_with fail
        go_meet
        case rel => exact ⟨by rw [List.take_length], rfl⟩
  case rest =>
    obtain ⟨rfl, rfl⟩ := hcut
    obtain ⟨bf, hbf⟩ : ∃ x, x = boundF n F := ⟨_, rfl⟩
    rw [← hbf]
    have HBF := hide hbf
    clear hbf
    go_wp2_with (
      first
      | (go_at_call 33
         refine (marks33 (unhide H)).mono ?_
         rintro e W9 ⟨rfl, q9⟩
         replace q9 := q9.symm
         subst q9
         refine Stp.go ?_))
    constructor
    go_wp2_with (
      first
      | (refine wpRange50 rfl (.tmp 26) rfl mb L rfl (unhide H).map ?_
         intro W1 r e1 I1 K1
         have HR : Hid (w.heap.size ≤ r) := by show _ ≤ _; omega
         have HJ := hide I1
         have HK := hide K1
         clear e1 I1 K1
         refine Stp.go ?_))
    constructor
    go_wp2_with fail
    go_loopw [7] (fun xb wr => ∃ T : Mk → Bool, Hid (RI wr r mb L T) ∧ Hid (Kept [] w wr) ∧ xb = .int .i64 (minM bf T L)) (fun _ wr => wr.rangeLeft mb r)
    case atStart => exact ⟨_, HJ, HK, by rw [minM_all]⟩
    case round =>
      clear HJ HK
      obtain ⟨T, HJ, HK, rfl⟩ := hrel
      have HN : wr.rangeLeft mb r = more L T := (unhide HJ).left_eq
      go_wp2_with (
        first
        | (at_next
           refine Stp.go ?_))
      constructor
      refine wpNext50 rfl (.tmp 27) rfl r mb _ T rfl (unhide HJ) ?_ ?_
      · intro h0
        have HF : Hid (minM bf T L = boundP n F L) := by show _ = _; rw [minM_none bf L h0, unhide HBF]; rfl
        clear h0 HN
        go_wp2_with fail
        go_ret
        exact ⟨by rw [unhide HF]; rfl, unhide HK⟩
      · intro V1 l hl hT I1 E1 K1
        replace HK := hide ((unhide HK).fresh K1 (by have := unhide HR; intro i hi hl; simp at hi; omega))
        replace HJ := hide I1
        have HE := hide E1
        have HM : Hid (minM bf (fun x => T x && !decide (x = l)) L = min (minM bf T L) l.f) := (minM_step bf hT L).1 hl
        clear I1 E1 K1
        go_wp2_with (
          first
          | (refine wpEntry50 rfl (.tmp 27) rfl r mb l rfl (unhide HE) ?_
             refine Stp.go ?_))
        constructor
        go_wp2_with (
          first
          | (refine wpMin2 rfl (.tmp 32) (.tmp 33) rfl _ _ rfl rfl ?_
             refine Stp.go ?_))
        constructor
        go_wp2_with fail
        go_roundw
        case rel => exact ⟨_, HJ, HK, by rw [unhide HM]⟩
        case measure => rw [(unhide HJ).left_eq, HN]; exact more_less hl hT

end Go.Proofs.Ythihladmifpokaa
