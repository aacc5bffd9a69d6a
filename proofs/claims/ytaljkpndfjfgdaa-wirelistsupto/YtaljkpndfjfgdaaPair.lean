/-
  Plain facts on lists of pairs, and on rows of them in memory.
-/
import Derived.Test.YtaljkpndfjfgdaaMany
namespace Go.Proofs.Ytaljkpndfjfgdaa
open Go.RowKit

/-- Pairs as cells. -/
def p2s (l : List (Nat × Nat)) : List Value := l.flatMap (fun p => [Value.int .u64 (p.1 : Int), Value.int .u64 (p.2 : Int)])
theorem p2s_app (a b : List (Nat × Nat)) : p2s (a ++ b) = p2s a ++ p2s b := by simp [p2s]
theorem p2s_cons (p : Nat × Nat) (r : List (Nat × Nat)) : p2s (p :: r) = .int .u64 (p.1 : Int) :: .int .u64 (p.2 : Int) :: p2s r := by simp [p2s]
theorem p2s_len (l : List (Nat × Nat)) : (p2s l).length = l.length * 2 := by
  induction l with
  | nil => rfl
  | cons p r ih => rw [p2s_cons]; simp only [List.length_cons, ih]; omega
theorem p2s_one (l : List (Nat × Nat)) : ∀ u ∈ p2s l, u.oneCell' = true := by
  induction l with
  | nil => intro u hu; cases hu
  | cons p r ih =>
    intro u hu
    rw [p2s_cons] at hu
    simp only [List.mem_cons] at hu
    rcases hu with rfl | rfl | h
    · rfl
    · rfl
    · exact ih u h
theorem p2s_at (l : List (Nat × Nat)) : ∀ (i : Nat) (p : Nat × Nat), l[i]? = some p → (p2s l)[i * 2]? = some (.int .u64 (p.1 : Int)) ∧ (p2s l)[i * 2 + 1]? = some (.int .u64 (p.2 : Int)) := by
  induction l with
  | nil => intro i p h; simp at h
  | cons q r ih =>
    intro i p h
    rw [p2s_cons]
    cases i with
    | zero => simp at h; subst h; simp
    | succ i =>
      have h2 := ih i p (by simpa using h)
      have e : (i + 1) * 2 = i * 2 + 1 + 1 := by omega
      rw [e]
      simpa using h2

/-- Their forms, one behind the other. -/
def forms (l : List (Nat × Nat)) : List Int := l.flatMap (fun p => num p.1 ++ num p.2)
theorem forms_nil : forms [] = [] := rfl
theorem forms_cons (p : Nat × Nat) (r : List (Nat × Nat)) : forms (p :: r) = num p.1 ++ (num p.2 ++ forms r) := by simp [forms]
theorem forms_app (a b : List (Nat × Nat)) : forms (a ++ b) = forms a ++ forms b := by simp [forms]
/-- Each number is one of 64 bits. -/
def Small (l : List (Nat × Nat)) : Prop := ∀ p ∈ l, p.1 < 18446744073709551616 ∧ p.2 < 18446744073709551616
theorem forms_len (l : List (Nat × Nat)) (h : Small l) : (forms l).length ≤ l.length * 20 := by
  induction l with
  | nil => simp [forms]
  | cons p r ih =>
    have h1 := ih (fun q hq => h q (by simp [hq]))
    have h2 := h p (by simp)
    have h3 := num_len h2.1
    have h4 := num_len h2.2
    rw [forms_cons]
    simp only [List.length_append, List.length_cons]
    omega
theorem byt_forms (l : List (Nat × Nat)) : Byt (forms l) := by
  induction l with
  | nil => intro x hx; cases hx
  | cons p r ih => rw [forms_cons]; exact byt_app (byt_num _) (byt_app (byt_num _) ih)

/-- What reading a pair tells. -/
def rdPair (l : List Int) : (Nat × Nat) × Int × List Int :=
  if (rdNum l).2.1 = 0 then (((rdNum l).1, (rdNum (rdNum l).2.2).1), (rdNum (rdNum l).2.2).2.1, (rdNum (rdNum l).2.2).2.2) else ((0, 0), (rdNum l).2.1, (rdNum l).2.2)

theorem rdNum_err (l : List Int) (h : (rdNum l).2.1 ≠ 0) : rdNum l = (0, 4, l) := by
  unfold rdNum at h ⊢
  cases hd : dec 0 0 l with
  | none => rfl
  | some p => rw [hd] at h; simp at h

theorem rdPair_err (l : List Int) : (rdPair l).2.1 = 0 ∨ (rdPair l).2.1 = 4 := by
  unfold rdPair
  by_cases h : (rdNum l).2.1 = 0
  · rw [if_pos h]; exact rdNum_cases' _
  · rw [if_neg h]; exact rdNum_cases' _

theorem rdPair_num (a b : Nat) (r : List Int) (ha : a < 18446744073709551616) (hb : b < 18446744073709551616) : rdPair (num a ++ (num b ++ r)) = ((a, b), 0, r) := by
  unfold rdPair
  rw [rdNum_num a _ ha, if_pos rfl]
  simp only
  rw [rdNum_num b _ hb]

/-- A number's form that is cut short. -/
theorem rdNum_short (a j : Nat) (ha : a < 18446744073709551616) (hj : j < (num a).length) : (rdNum ((num a).take j)).2.1 = 4 := by
  rcases rdNum_cases' ((num a).take j) with h | h
  · exfalso
    unfold rdNum at h
    cases hd : dec 0 0 ((num a).take j) with
    | none => rw [hd] at h; simp at h
    | some p =>
      obtain ⟨v, k⟩ := p
      obtain ⟨x, hv, _, ⟨r, hr⟩, _⟩ := dec_inv _ 0 0 v k (byt_take (byt_num a) j) hd
      have e : num a = num x ++ (r ++ (num a).drop j) := by rw [← List.append_assoc, ← hr, List.take_append_drop]
      have h1 := rdNum_num a [] ha
      have hx : x < 18446744073709551616 := by
        have h2 := rdNum_lt (byt_take (byt_num a) j)
        rw [rdNum_some hd] at h2
        simp only at h2
        rw [Nat.pow_zero, Nat.mul_one, Nat.zero_add] at hv
        omega
      have h2 := rdNum_num x (r ++ (num a).drop j) hx
      rw [← e] at h2
      rw [List.append_nil, h2] at h1
      have h3 := congrArg (fun z => z.2.2.length) h1
      simp only [List.length_append, List.length_drop, List.length_nil] at h3
      omega
  · exact h

theorem rdPair_short (a b j : Nat) (ha : a < 18446744073709551616) (hb : b < 18446744073709551616) (hj : j < (num a ++ num b).length) : (rdPair ((num a ++ num b).take j)).2.1 = 4 := by
  rw [List.length_append] at hj
  by_cases h : j < (num a).length
  · rw [List.take_append_of_le_length (by omega)]
    have h1 := rdNum_short a j ha h
    unfold rdPair
    rw [if_neg (by omega)]; exact h1
  · have e : (num a ++ num b).take j = num a ++ (num b).take (j - (num a).length) := by rw [List.take_append, List.take_of_length_le (by omega)]
    rw [e]
    unfold rdPair
    rw [rdNum_num a _ ha, if_pos rfl]
    simp only
    exact rdNum_short b _ hb (by omega)

theorem rdPair_shorter (l : List Int) (h : (rdPair l).2.1 = 0) (hb : Byt l) : (rdPair l).2.2.length + 1 ≤ l.length := by
  unfold rdPair at h ⊢
  by_cases h0 : (rdNum l).2.1 = 0
  · rw [if_pos h0] at h ⊢
    obtain ⟨h1, k, hk⟩ := rdNum_shorter l h0 hb
    obtain ⟨h2, _⟩ := rdNum_shorter (rdNum l).2.2 h (by rw [hk]; exact byt_drop hb k)
    simp only; omega
  · rw [if_neg h0] at h; exact absurd h h0

theorem rdPair_left (l : List Int) : (rdPair l).2.2.length ≤ l.length := by
  have hl : ∀ l : List Int, (rdNum l).2.2.length ≤ l.length := by
    intro l; unfold rdNum
    cases dec 0 0 l with
    | none => simp
    | some p => simp
  unfold rdPair
  by_cases h0 : (rdNum l).2.1 = 0
  · rw [if_pos h0]; have := hl l; have := hl (rdNum l).2.2; simp only; omega
  · rw [if_neg h0]; exact hl l

/-- n pairs, one behind the other: those that are read, the error's number, what is left. -/
def many2 : Nat → List Int → List (Nat × Nat) × Int × List Int
  | 0, l => ([], 0, l)
  | n + 1, l => if (rdPair l).2.1 = 0 then (if (many2 n (rdPair l).2.2).2.1 = 0 then ((rdPair l).1 :: (many2 n (rdPair l).2.2).1, 0, (many2 n (rdPair l).2.2).2.2) else ([], (many2 n (rdPair l).2.2).2.1, l)) else ([], (rdPair l).2.1, l)

/-- What was read ahead of it, laid before it. -/
def pre2 (xs : List (Nat × Nat)) (r : List (Nat × Nat) × Int × List Int) : List (Nat × Nat) × Int := if r.2.1 = 0 then (xs ++ r.1, 0) else ([], r.2.1)

theorem many2_bad {n : Nat} {l : List Int} (h : (rdPair l).2.1 ≠ 0) (xs : List (Nat × Nat)) : pre2 xs (many2 (n + 1) l) = ([], (rdPair l).2.1) := by
  unfold many2 pre2; rw [if_neg h]; simp only; rw [if_neg h]

theorem many2_good {n : Nat} {l : List Int} (h : (rdPair l).2.1 = 0) (xs : List (Nat × Nat)) : pre2 xs (many2 (n + 1) l) = pre2 (xs ++ [(rdPair l).1]) (many2 n (rdPair l).2.2) ∧ ((many2 n (rdPair l).2.2).2.1 = 0 → (many2 (n + 1) l).2.2 = (many2 n (rdPair l).2.2).2.2) := by
  rw [many2, if_pos h]
  by_cases h2 : (many2 n (rdPair l).2.2).2.1 = 0
  · rw [if_pos h2]; unfold pre2; rw [if_pos h2]; simp
  · rw [if_neg h2]; unfold pre2; rw [if_neg h2]; simp [h2]

theorem pre2_nil (r : List (Nat × Nat) × Int × List Int) (h : r.2.1 = 0) : pre2 [] r = (r.1, 0) := by unfold pre2; rw [if_pos h]; simp
theorem pre2_nil' (r : List (Nat × Nat) × Int × List Int) (h : r.2.1 ≠ 0) : pre2 [] r = ([], r.2.1) := by unfold pre2; rw [if_neg h]

theorem many2_forms (l : List (Nat × Nat)) (hs : Small l) : many2 l.length (forms l) = (l, 0, []) := by
  induction l with
  | nil => rfl
  | cons p r ih =>
    have h1 := ih (fun q hq => hs q (by simp [hq]))
    have h2 := hs p (by simp)
    rw [List.length_cons, many2, forms_cons, rdPair_num p.1 p.2 _ h2.1 h2.2, if_pos rfl]
    simp only
    rw [h1, if_pos rfl]

theorem many2_short (l : List (Nat × Nat)) (hs : Small l) : ∀ j, j < (forms l).length → (many2 l.length ((forms l).take j)).2.1 = 4 := by
  induction l with
  | nil => intro j hj; simp [forms] at hj
  | cons p r ih =>
    intro j hj
    have h1 := ih (fun q hq => hs q (by simp [hq]))
    have h2 := hs p (by simp)
    have e : forms (p :: r) = (num p.1 ++ num p.2) ++ forms r := by rw [forms_cons, List.append_assoc]
    rw [e, List.length_append] at hj
    rw [List.length_cons, many2, e]
    by_cases h : j < (num p.1 ++ num p.2).length
    · rw [List.take_append_of_le_length (by omega)]
      have h3 := rdPair_short p.1 p.2 j h2.1 h2.2 h
      rw [if_neg (by omega)]; exact h3
    · have e2 : ((num p.1 ++ num p.2) ++ forms r).take j = num p.1 ++ (num p.2 ++ (forms r).take (j - (num p.1 ++ num p.2).length)) := by rw [List.take_append, List.take_of_length_le (by omega), List.append_assoc]
      rw [e2, rdPair_num p.1 p.2 _ h2.1 h2.2, if_pos rfl]
      simp only
      have h3 := h1 (j - (num p.1 ++ num p.2).length) (by omega)
      rw [if_neg (by omega)]; exact h3

/-- What reading a list of pairs tells. -/
def rdTake2 (most : Int) (l : List Int) : List (Nat × Nat) × Int × List Int :=
  if (rdCount most l).2.1 = 0 then
    (if (many2 (rdCount most l).1 (rdCount most l).2.2).2.1 = 0 then ((many2 (rdCount most l).1 (rdCount most l).2.2).1, 0, (many2 (rdCount most l).1 (rdCount most l).2.2).2.2) else ([], (many2 (rdCount most l).1 (rdCount most l).2.2).2.1, l))
  else ([], (rdCount most l).2.1, l)

theorem rdTake2_ok (l : List (Nat × Nat)) (hs : Small l) (hl : l.length ≤ 1048576) : rdTake2 (l.length : Int) (num l.length ++ forms l) = (l, 0, []) := by
  unfold rdTake2
  rw [rdCount_num l.length _ (forms l) (by omega) (by omega), if_pos rfl]
  simp only
  rw [many2_forms l hs, if_pos rfl]

theorem rdTake2_long (l : List (Nat × Nat)) (r : List Int) (hl : l.length ≤ 1048576) (h0 : 0 < l.length) : rdTake2 ((l.length : Int) - 1) (num l.length ++ r) = ([], 3, num l.length ++ r) := by
  have hd : dec 0 0 (num l.length ++ r) = some (l.length, (num l.length).length) := by
    have := dec_num l.length 0 0 r (by omega) (by omega)
    simpa using this
  have e1 : (rdCount ((l.length : Int) - 1) (num l.length ++ r)).2.1 = 3 := by
    unfold rdCount
    rw [if_neg (by omega : ¬ ((l.length : Int) - 1 < 0)), hd]
    simp only
    rw [if_pos (by omega : (l.length : Int) - 1 < (l.length : Int))]
  unfold rdTake2
  rw [e1, if_neg (by decide)]

theorem rdTake2_short (l : List (Nat × Nat)) (hs : Small l) (hl : l.length ≤ 1048576) (cut : Nat) (hc : cut < (num l.length ++ forms l).length) :
    rdTake2 (l.length : Int) ((num l.length ++ forms l).take cut) = ([], 4, (num l.length ++ forms l).take cut) := by
  rw [List.length_append] at hc
  by_cases h : cut < (num l.length).length
  · rw [List.take_append_of_le_length (by omega)]
    have h1 := rdNum_short l.length cut (by omega) h
    have hd : dec 0 0 ((num l.length).take cut) = none := by
      cases hd : dec 0 0 ((num l.length).take cut) with
      | none => rfl
      | some p => unfold rdNum at h1; rw [hd] at h1; simp at h1
    have e1 : (rdCount (l.length : Int) ((num l.length).take cut)).2.1 = 4 := by
      unfold rdCount
      rw [if_neg (by omega : ¬ ((l.length : Int) < 0)), hd]
    unfold rdTake2
    rw [e1, if_neg (by decide)]
  · have e : (num l.length ++ forms l).take cut = num l.length ++ (forms l).take (cut - (num l.length).length) := by rw [List.take_append, List.take_of_length_le (by omega)]
    rw [e]
    unfold rdTake2
    have h3 := many2_short l hs (cut - (num l.length).length) (by omega)
    rw [rdCount_num l.length _ _ (by omega) (by omega), if_pos rfl]
    simp only
    rw [if_neg (by omega), h3]

/-- A row of the call's own that holds these pairs. -/
abbrev Own2 (w : World) (B : Nat) (v : Value) (l : List (Nat × Nat)) : Prop := w.ownsRow B 59 2 v l.length (p2s l)

/-- A slice of pairs. -/
def H2 (w : World) (ao : Option Addr) (m c : Nat) (l : List (Nat × Nat)) : Prop :=
  l.length = m ∧ m ≤ c ∧ (ao = none → m = 0 ∧ c = 0) ∧ ∀ ad, ao = some ad → ∀ (j : Nat) (u : Value), (p2s l)[j]? = some u → w.cell? (ad.add j) = some u

theorem H2.kept {w w' : World} {ao : Option Addr} {m c : Nat} {l : List (Nat × Nat)} (h : H2 w ao m c l) (hk : ∀ a v, w.cell? a = some v → w'.cell? a = some v) : H2 w' ao m c l :=
  ⟨h.1, h.2.1, h.2.2.1, fun ad had j u hj => hk _ _ (h.2.2.2 ad had j u hj)⟩
theorem H2.below {w w' : World} {ao : Option Addr} {m c : Nat} {l : List (Nat × Nat)} (h : H2 w ao m c l) (hb : Below w.heap.size w w') : H2 w' ao m c l := h.kept (Below.keeps hb)

theorem h2_built (w : World) (a b : Nat) (e : TypeId) : H2 (w.alloc (.cells #[.int .u64 (a : Int), .int .u64 (b : Int)] e)) (some ⟨w.heap.size, 0, none⟩) 1 1 [(a, b)] := by
  refine ⟨rfl, Nat.le_refl _, fun h => (by cases h), ?_⟩
  intro ad had j u hj
  cases had
  match j, hj with
  | 0, hj => simp [p2s] at hj; subst hj; simp [Addr.add]
  | 1, hj => simp [p2s] at hj; subst hj; simp [Addr.add]

theorem Try.info59 : (Try.prog.info? 59).map (fun i => (i.zero, i.size, i.bytes)) = some (some (.agg #[.int .u64 0, .int .u64 0]), 2, 16) := by kernel_rfl

/-- 'append(out, src...)' over pairs, out nil or the call's own, src whatever. -/
theorem wpApp58 {w : World} {ops : Array Oper} {rest : List Oper} {o : Oper} {a : Act} {Q : Exit → Act → World → Prop} (hgd : o.guard = none) (s x : Operand)
    (ho : o.op = .call { callee := .builtin .append, args := #[s, x], argTypes := #[58, 58] })
    (B : Nat) (v : Value) (l : List (Nat × Nat)) (hs : a.eval s = v) (ao : Option Addr) (m c : Nat) (hx : a.eval x = .slice ao m c) (ls : List (Nat × Nat))
    (hown : Own2 w B v l) (hsrc : H2 w ao m c ls)
    (hlen : (l.length + ls.length) * 16 ≤ 140737488355328) (hbase : B ≤ w.heap.size)
    (h : ∀ v' w', Own2 w' B v' (l ++ ls) → w.grownBy w' v.ownBlock → wpList Try.prog ops Q rest (a.put o.dst v') w') : wpList Try.prog ops Q (o :: rest) a w := by
  obtain ⟨i0, hi, hz0, hz1, hz2⟩ := info_parts Try.info59
  obtain ⟨h1, _, h2, h3⟩ := hsrc
  subst h1
  cases ao with
  | none =>
    obtain ⟨h4, h5⟩ := h2 rfl
    have : ls = [] := List.eq_nil_of_length_eq_zero h4
    subst this
    subst h5
    exact wpList_append_own_none hgd s x 58 ho B 59 i0 2 Try.underlying58 hi v _ _ hs hown hx (h v w (by simpa using hown) (World.grownBy.refl _ _))
  | some ad =>
    refine wpList_append_own w hgd s x 58 ho B 59 i0 (.agg #[.int .u64 0, .int .u64 0]) 2 16 Try.underlying58 hi hz0 hz1 hz2 rfl (by decide) v _ _ hs hown ad _ c (p2s ls) hx (p2s_len ls) (h3 ad rfl) (p2s_one ls) (by unfold maxLen; omega) (by omega) hbase ?_
    intro v' w' g1 g2 _
    refine h v' w' ?_ g2
    show w'.ownsRow B 59 2 v' (l ++ ls).length (p2s (l ++ ls))
    rw [List.length_append, p2s_app]; exact g1

theorem Own2.form {w : World} {B : Nat} {v : Value} {l : List (Nat × Nat)} (h : Own2 w B v l) : ∃ ao c, v = .slice ao l.length c ∧ H2 w ao l.length c l ∧ (l = [] ∨ ∃ g, ao = some ⟨g, 0, none⟩ ∧ B ≤ g ∧ g < w.heap.size) := by
  have hlt := h.lt
  have hcs := fun g => h.cells (g := g)
  rcases h.2 with ⟨h1, h2⟩ | ⟨g, cap, cur, rfl, hb, hg, hn, hm, hs, ht⟩
  · have : l = [] := List.eq_nil_of_length_eq_zero h2
    subst this
    exact ⟨none, 0, h1, ⟨rfl, Nat.le_refl _, fun _ => ⟨rfl, rfl⟩, fun ad h => by cases h⟩, .inl rfl⟩
  · refine ⟨_, cap, rfl, ⟨rfl, hn, fun h => (by cases h), ?_⟩, .inr ⟨g, rfl, (hlt g rfl).1, (hlt g rfl).2⟩⟩
    intro ad had j u hj
    cases had
    exact hcs g rfl j u hj

theorem H2.pair {w : World} {g off m c : Nat} {l : List (Nat × Nat)} (h : H2 w (some ⟨g, off, none⟩) m c l) (i : Nat) (p : Nat × Nat) (hi : l[i]? = some p) :
    w.cell? ⟨g, off + i * 2, none⟩ = some (.int .u64 (p.1 : Int)) ∧ w.cell? ⟨g, off + i * 2 + 1, none⟩ = some (.int .u64 (p.2 : Int)) := by
  obtain ⟨h1, h2⟩ := p2s_at l i p hi
  have k1 := h.2.2.2 _ rfl _ _ h1
  have k2 := h.2.2.2 _ rfl _ _ h2
  rw [Addr.add_lit] at k1 k2
  exact ⟨k1, by rw [Nat.add_assoc]; exact k2⟩

/-- Where there is a pair, the slice's address is a plain one. -/
theorem H2.lit {w : World} {ao : Option Addr} {m c : Nat} {l : List (Nat × Nat)} (h : H2 w ao m c l) : l = [] ∨ ∃ g off, ao = some ⟨g, off, none⟩ := by
  cases l with
  | nil => exact .inl rfl
  | cons p r =>
    right
    cases ao with
    | none => have := (h.2.2.1 rfl).1; have := h.1; simp at this; omega
    | some a =>
      have hc := h.2.2.2 a rfl 0 _ (by rw [p2s_cons]; rfl)
      obtain ⟨b, off, spot⟩ := a
      have hsp : spot = none := by simpa [Addr.add] using World.cell?_spot hc
      subst hsp
      exact ⟨b, off, rfl⟩

end Go.Proofs.Ytaljkpndfjfgdaa
