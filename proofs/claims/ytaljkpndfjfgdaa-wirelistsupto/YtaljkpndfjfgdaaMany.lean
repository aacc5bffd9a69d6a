/-
  Plain facts on lists of numbers, and on rows of them in memory.
-/
import Derived.Test.YtaljkpndfjfgdaaThere
import Derived.Test.YtaljkpndfjfgdaaKnown
namespace Go.Proofs.Ytaljkpndfjfgdaa
open Go.RowKit

theorem rdNum_cases' (l : List Int) : (rdNum l).2.1 = 0 ∨ (rdNum l).2.1 = 4 := by
  unfold rdNum; cases dec 0 0 l with
  | none => right; rfl
  | some p => left; rfl

theorem rdNum_shorter (l : List Int) (h : (rdNum l).2.1 = 0) (hb : Byt l) : (rdNum l).2.2.length + 1 ≤ l.length ∧ ∃ k, (rdNum l).2.2 = l.drop k := by
  unfold rdNum at h ⊢
  cases hd : dec 0 0 l with
  | none => rw [hd] at h; simp at h
  | some p =>
    obtain ⟨v, k⟩ := p
    obtain ⟨x, _, e2, ⟨r, e3⟩, _⟩ := dec_inv l 0 0 v k hb hd
    have := num_pos x
    refine ⟨?_, k, rfl⟩
    simp only [List.length_drop]
    rw [e3]; simp; omega

/-- n numbers, one behind the other: those that are read, the error's number, what is left. -/
def many : Nat → List Int → List Nat × Int × List Int
  | 0, l => ([], 0, l)
  | n + 1, l => if (rdNum l).2.1 = 0 then (if (many n (rdNum l).2.2).2.1 = 0 then ((rdNum l).1 :: (many n (rdNum l).2.2).1, 0, (many n (rdNum l).2.2).2.2) else ([], (many n (rdNum l).2.2).2.1, l)) else ([], (rdNum l).2.1, l)

/-- What was read ahead of it, laid before it. -/
def pre (xs : List Nat) (r : List Nat × Int × List Int) : List Nat × Int := if r.2.1 = 0 then (xs ++ r.1, 0) else ([], r.2.1)

theorem many_bad {n : Nat} {l : List Int} (h : (rdNum l).2.1 ≠ 0) (xs : List Nat) : pre xs (many (n + 1) l) = ([], (rdNum l).2.1) := by
  unfold many pre; rw [if_neg h]; simp only; rw [if_neg h]

theorem many_good {n : Nat} {l : List Int} (h : (rdNum l).2.1 = 0) (xs : List Nat) : pre xs (many (n + 1) l) = pre (xs ++ [(rdNum l).1]) (many n (rdNum l).2.2) ∧ ((many n (rdNum l).2.2).2.1 = 0 → (many (n + 1) l).2.2 = (many n (rdNum l).2.2).2.2) := by
  rw [many, if_pos h]
  by_cases h2 : (many n (rdNum l).2.2).2.1 = 0
  · rw [if_pos h2]; unfold pre; rw [if_pos h2]; simp
  · rw [if_neg h2]; unfold pre; rw [if_neg h2]; simp [h2]

theorem many_err (n : Nat) : ∀ l, (many n l).2.1 = 0 ∨ (many n l).2.1 = 4 := by
  induction n with
  | zero => intro l; left; rfl
  | succ n ih =>
    intro l
    unfold many
    rcases rdNum_cases' l with h | h
    · rw [if_pos h]
      rcases ih (rdNum l).2.2 with h2 | h2
      · rw [if_pos h2]; left; rfl
      · rw [if_neg (by omega)]; right; exact h2
    · rw [if_neg (by omega)]; right; exact h

/-- What reading a list of numbers tells. -/
def rdTake (most : Int) (l : List Int) : List Nat × Int × List Int :=
  if (rdCount most l).2.1 = 0 then
    (if (many (rdCount most l).1 (rdCount most l).2.2).2.1 = 0 then ((many (rdCount most l).1 (rdCount most l).2.2).1, 0, (many (rdCount most l).1 (rdCount most l).2.2).2.2) else ([], (many (rdCount most l).1 (rdCount most l).2.2).2.1, l))
  else ([], (rdCount most l).2.1, l)

/-- Numbers as cells. -/
def u64s (l : List Nat) : List Value := l.map (fun (n : Nat) => Value.int .u64 (n : Int))
theorem u64s_app (a b : List Nat) : u64s (a ++ b) = u64s a ++ u64s b := by simp [u64s]
theorem u64s_len (l : List Nat) : (u64s l).length = l.length := by simp [u64s]

/-- A row of the call's own that holds these numbers. -/
abbrev Own64 (w : World) (B : Nat) (v : Value) (l : List Nat) : Prop := w.ownsRow B 22 1 v l.length (u64s l)

theorem Try.info22 : (Try.prog.info? 22).map (fun i => (i.zero, i.size, i.bytes)) = some (some (.int .u64 0), 1, 8) := by kernel_rfl

/-- 'append(out, x)', x a number that was just laid into a block of its own. -/
theorem wpApp64 {w : World} {ops : Array Oper} {rest : List Oper} {o : Oper} {a : Act} {Q : Exit → Act → World → Prop} (hgd : o.guard = none) (s x : Operand)
    (ho : o.op = .call { callee := .builtin .append, args := #[s, x], argTypes := #[84, 84] })
    (B : Nat) (v : Value) (l : List Nat) (hs : a.eval s = v) (n : Nat) (hx : a.eval x = .slice (some ⟨w.heap.size, 0, none⟩) 1 1)
    (hown : Own64 w B v l) (hlen : (l.length + 1) * 8 ≤ 140737488355328) (hbase : B ≤ w.heap.size)
    (h : ∀ v' w', Own64 w' B v' (l ++ [n]) → w.grownBy w' v.ownBlock → wpList Try.prog ops Q rest (a.put o.dst v') w') : wpList Try.prog ops Q (o :: rest) a (w.alloc (.cells #[.int .u64 n] 22)) := by
  obtain ⟨i0, hi, hz0, hz1, hz2⟩ := info_parts Try.info22
  refine wpList_append_own _ hgd s x 84 ho B 22 i0 (.int .u64 0) 1 8 Try.underlying84 hi hz0 hz1 hz2 rfl (by decide) v _ _ hs (hown.alloc _) ⟨w.heap.size, 0, none⟩ 1 1 (u64s [n]) hx rfl ?_ ?_ (by unfold maxLen; omega) hlen (by simp; omega) ?_
  · intro j u hj
    match j, hj with
    | 0, hj => simp [u64s] at hj; subst hj; simp [Addr.add]
  · intro u hu; simp [u64s] at hu; subst hu; rfl
  intro v' w' g1 g2 _
  refine h v' w' ?_ (grownBy_trans (World.grownBy_alloc _ _ _) g2)
  show w'.ownsRow B 22 1 v' (l ++ [n]).length (u64s (l ++ [n]))
  rw [u64s_app, List.length_append]; exact g1

theorem Own64.form {w : World} {B : Nat} {v : Value} {l : List Nat} (h : Own64 w B v l) : ∃ ao c, v = .slice ao l.length c ∧ (l = [] ∨ ∃ g, ao = some ⟨g, 0, none⟩) ∧ (∀ (j x : Nat), l[j]? = some x → ∀ g, ao = some ⟨g, 0, none⟩ → w.cell? ⟨g, j, none⟩ = some (.int .u64 (x : Int))) := by
  rcases h.2 with ⟨h1, h2⟩ | ⟨g, cap, cur, rfl, hb, hg, hn, hm, hs, ht⟩
  · exact ⟨none, 0, by rw [h1, h2], .inl (List.eq_nil_of_length_eq_zero h2), fun j x _ g hg => by cases hg⟩
  · refine ⟨_, cap, rfl, .inr ⟨g, rfl⟩, fun j x hj g' hg' => ?_⟩
    cases hg'
    have := h.cells (g := g) rfl j (.int .u64 (x : Int)) (by simp [u64s, hj])
    rwa [Addr.add_lit, Nat.zero_add] at this

end Go.Proofs.Ytaljkpndfjfgdaa
