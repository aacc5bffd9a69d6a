/-
  Plain facts on numbers, lists and worlds that the walks of this seat lean on: the form of a number, and what a slice of bytes reads as.
-/
import Derived.WalkKit
import Derived.WalkSpells
import Derived.Laws.AppendOwnNone
import Derived.Laws.BytesArg
namespace Go.Proofs.Ytaljkpndfjfgdaa
open Go.RowKit

/-- The digits of a number to the base 128, the lowest first, each but the last one raised by 128; the first argument bounds how many. -/
def digits : Nat → Nat → List Int
  | 0, n => [(n : Int)]
  | f + 1, n => if n < 128 then [(n : Int)] else (128 + (n : Int) % 128) :: digits f (n / 128)

theorem digits_any : ∀ f h n, n ≤ f → n ≤ h → digits f n = digits h n := by
  intro f
  induction f with
  | zero =>
    intro h n hn _
    obtain rfl : n = 0 := by omega
    cases h with
    | zero => rfl
    | succ h => simp [digits]
  | succ f ih =>
    intro h n hf hh
    cases h with
    | zero =>
      obtain rfl : n = 0 := by omega
      simp [digits]
    | succ h =>
      unfold digits
      by_cases hn : n < 128
      · rw [if_pos hn, if_pos hn]
      · rw [if_neg hn, if_neg hn, ih h (n / 128) (by omega) (by omega)]

/-- The form of a number. -/
def num (n : Nat) : List Int := digits n n

theorem num_lt {n : Nat} (h : n < 128) : num n = [(n : Int)] := by
  unfold num
  cases n with
  | zero => rfl
  | succ n => unfold digits; rw [if_pos h]
theorem num_ge {n : Nat} (h : ¬ n < 128) : num n = (128 + (n : Int) % 128) :: num (n / 128) := by
  unfold num
  cases n with
  | zero => omega
  | succ n => rw [digits, if_neg h, digits_any n ((n + 1) / 128) ((n + 1) / 128) (by omega) (Nat.le_refl _)]

theorem num_len_le (k : Nat) : ∀ n, n < 128 ^ (k + 1) → (num n).length ≤ k + 1 := by
  induction k with
  | zero => intro n h; rw [num_lt (by simpa using h)]; simp
  | succ k ih =>
    intro n h
    by_cases hn : n < 128
    · rw [num_lt hn]; simp
    · rw [num_ge hn, List.length_cons]
      have := ih (n / 128) (by rw [Nat.div_lt_iff_lt_mul (by decide)]; rw [Nat.pow_succ] at h; exact h)
      omega

theorem num_len {n : Nat} (h : n < 18446744073709551616) : (num n).length ≤ 10 :=
  num_len_le 9 n (by have : (128 : Nat) ^ 10 = 1180591620717411303424 := by decide
                     omega)

theorem num_pos (n : Nat) : 0 < (num n).length := by
  by_cases h : n < 128
  · rw [num_lt h]; simp
  · rw [num_ge h]; simp

theorem num_byte : ∀ n, ∀ x ∈ num n, 0 ≤ x ∧ x < 256 := by
  intro n
  induction n using Nat.strongRecOn with
  | _ n ih =>
    intro x hx
    by_cases h : n < 128
    · rw [num_lt h] at hx; simp at hx; omega
    · rw [num_ge h] at hx
      rcases List.mem_cons.1 hx with rfl | hx
      · omega
      · exact ih (n / 128) (by omega) x hx

/-- Bytes as cells. -/
def u8s (l : List Int) : List Value := l.map (Value.int .u8)
theorem u8s_len (l : List Int) : (u8s l).length = l.length := by simp [u8s]
theorem u8s_app (a b : List Int) : u8s (a ++ b) = u8s a ++ u8s b := by simp [u8s]
theorem u8s_one (l : List Int) : ∀ u ∈ u8s l, u.oneCell' = true := ints_oneCell _ _

/-- What a slice of bytes (its address, its length, its capacity) holds in a world. -/
def Holds (w : World) (ao : Option Addr) (m c : Nat) (l : List Int) : Prop :=
  l.length = m ∧ m ≤ c ∧ (ao = none → m = 0 ∧ c = 0) ∧ ∀ ad, ao = some ad → ∀ j u, (u8s l)[j]? = some u → w.cell? (ad.add j) = some u

theorem holds_nil (w : World) : Holds w none 0 0 [] := ⟨rfl, Nat.le_refl _, fun _ => ⟨rfl, rfl⟩, fun ad h => by cases h⟩

theorem holds_built (w : World) (x : Int) (e : TypeId) : Holds (w.alloc (.cells #[.int .u8 x] e)) (some ⟨w.heap.size, 0, none⟩) 1 1 [x] := by
  refine ⟨rfl, Nat.le_refl _, fun h => (by cases h), fun ad h j u hj => ?_⟩
  cases h
  match j, hj with
  | 0, hj => simp [u8s] at hj; subst hj; simp [Addr.add]

theorem grownBy_trans {a b c : World} {row : Option Nat} (h : a.grownBy b row) (k : b.grownBy c row) : a.grownBy c row :=
  ⟨k.os.trans h.os, k.tape.trans h.tape, k.output.trans h.output, Nat.le_trans h.size k.size, fun i hi hr => (k.block i (Nat.lt_of_lt_of_le hi h.size) hr).trans (h.block i hi hr)⟩

/-- What an append makes of a row of the call's own, and of the world. -/
theorem rel_app {B : Nat} {w wr w1 : World} {v : Value} {l : List Int} {e : TypeId}
    (hown : wr.ownsRow B e 1 v l.length (u8s l)) (hb : Below B w wr) (hB : B ≤ w.heap.size) (hg : wr.grownBy w1 v.ownBlock) : Below B w w1 := by
  have hs := hb.size
  exact hb.grown hg (by omega) (fun k hk => (hown.lt k hk).1)

/-- 'append(out, src...)' over bytes, out nil or the call's own, src whatever. -/
theorem wpApp {P : Program} {w : World} {ops : Array Oper} {rest : List Oper} {o : Oper} {a : Act} {Q : Exit → Act → World → Prop} (hgd : o.guard = none) (s x : Operand) (t e : TypeId)
    (ho : o.op = .call { callee := .builtin .append, args := #[s, x], argTypes := #[t, t] })
    (ht : P.underlying t = some (.slice e)) (hinfo : (P.info? e).map (fun i => (i.zero, i.size, i.bytes)) = some (some (.int .u8 0), 1, 1))
    (B : Nat) (v : Value) (l : List Int) (hs : a.eval s = v) (ao : Option Addr) (m c : Nat) (hx : a.eval x = .slice ao m c) (ls : List Int)
    (hown : w.ownsRow B e 1 v l.length (u8s l)) (hsrc : Holds w ao m c ls)
    (hlen : l.length + ls.length ≤ 140737488355328) (hbase : B ≤ w.heap.size)
    (h : ∀ v' w', w'.ownsRow B e 1 v' (l ++ ls).length (u8s (l ++ ls)) → w.grownBy w' v.ownBlock → wpList P ops Q rest (a.put o.dst v') w') : wpList P ops Q (o :: rest) a w := by
  obtain ⟨i0, hi, hz0, hz1, hz2⟩ := info_parts hinfo
  obtain ⟨h1, _, h2, h3⟩ := hsrc
  subst h1
  cases ao with
  | none =>
    obtain ⟨h4, h5⟩ := h2 rfl
    have : ls = [] := List.eq_nil_of_length_eq_zero h4
    subst this
    subst h5
    exact wpList_append_own_none hgd s x t ho B e i0 1 ht hi v _ _ hs hown hx (h v w (by simpa using hown) (World.grownBy.refl _ _))
  | some ad =>
    refine wpList_append_own w hgd s x t ho B e i0 (.int .u8 0) 1 1 ht hi hz0 hz1 hz2 rfl (by decide) v _ _ hs hown ad _ c (u8s ls) hx (by simp [u8s]) (h3 ad rfl) (u8s_one ls) (by unfold maxLen; omega) (by omega) hbase ?_
    intro v' w' g1 g2 _
    exact h v' w' (by rw [List.length_append, u8s_app]; exact g1) g2

/-- A row of the call's own that holds these bytes. -/
abbrev Owns (w : World) (B : Nat) (v : Value) (l : List Int) : Prop := w.ownsRow B 5 1 v l.length (u8s l)

/-- A slice value that owns these bytes. -/
def OwnS (w : World) (B : Nat) (ao : Option Addr) (m c : Nat) (l : List Int) : Prop := m = l.length ∧ Owns w B (.slice ao m c) l

/-- How a function ends that hands back bytes in a row of its own, and leaves all that was there: 'B' its first own block. -/
def Gives (w : World) (B : Nat) (l : List Int) (e : Ending) (w' : World) : Prop :=
  ∃ ao m c, e = .returned (.slice ao m c) ∧ OwnS w' B ao m c l ∧ Below w.heap.size w w'

/-- A slice of bytes as a value, and what it holds. -/
structure Sl where
  ao : Option Addr
  m : Nat
  c : Nat
  l : List Int
def Sl.val (s : Sl) : Value := .slice s.ao s.m s.c
def Sl.ok (s : Sl) (w : World) : Prop := Holds w s.ao s.m s.c s.l
def flat (xs : List Sl) : List Int := (xs.map Sl.l).flatten

theorem flat_succ (xs : List Sl) (k : Nat) (h : k < xs.length) : flat (xs.take (k + 1)) = flat (xs.take k) ++ xs[k].l := by
  unfold flat; rw [List.take_succ_eq_append_getElem h, List.map_append, List.flatten_append]; simp
theorem flat_all (xs : List Sl) (k : Nat) (h : xs.length ≤ k) : flat (xs.take k) = flat xs := by rw [List.take_of_length_le h]
theorem flat_le (xs : List Sl) (k : Nat) : (flat (xs.take k)).length ≤ (flat xs).length := by
  have h : flat xs = flat (xs.take k) ++ flat (xs.drop k) := by unfold flat; rw [← List.flatten_append, ← List.map_append, List.take_append_drop]
  rw [h]; simp

/-- What a slice holds stays, as long as each block below a bound that it lies under stays. -/
theorem Holds.kept {w w' : World} {ao : Option Addr} {m c : Nat} {l : List Int} (h : Holds w ao m c l) (hk : ∀ a v, w.cell? a = some v → w'.cell? a = some v) : Holds w' ao m c l :=
  ⟨h.1, h.2.1, h.2.2.1, fun ad ha j u hj => hk _ _ (h.2.2.2 ad ha j u hj)⟩

theorem Below.keeps {w w' : World} (h : Below w.heap.size w w') : ∀ a v, w.cell? a = some v → w'.cell? a = some v := by
  intro a v hv
  rw [h.cell (World.block_lt_of_cell? w a hv)]; exact hv

theorem Holds.below {w w' : World} {ao : Option Addr} {m c : Nat} {l : List Int} (h : Holds w ao m c l) (hb : Below w.heap.size w w') : Holds w' ao m c l := h.kept (Below.keeps hb)

theorem Holds.alloc {w : World} {ao : Option Addr} {m c : Nat} {l : List Int} (h : Holds w ao m c l) (o : Obj) : Holds (w.alloc o) ao m c l :=
  h.below ((Below.refl _ _).alloc (Nat.le_refl _) o)

/-- The shape of a row of the call's own. -/
theorem Owns.shape {w : World} {B : Nat} {v : Value} {l : List Int} (h : Owns w B v l) :
    (v = .slice none 0 0 ∧ l = []) ∨ ∃ g cap, v = .slice (some ⟨g, 0, none⟩) l.length cap ∧ B ≤ g ∧ g < w.heap.size ∧ l.length ≤ cap ∧ ∀ j u, (u8s l)[j]? = some u → w.cell? ⟨g, j, none⟩ = some u := by
  rcases h.2 with ⟨h1, h2⟩ | ⟨g, cap, cur, rfl, hb, hg, hn, hm, hs, ht⟩
  · exact .inl ⟨h1, List.eq_nil_of_length_eq_zero h2⟩
  · refine .inr ⟨g, cap, rfl, hb, (Array.getElem?_eq_some_iff.1 hg).1, hn, fun j u hj => ?_⟩
    have := h.cells (g := g) rfl j u hj
    rwa [Addr.add_lit, Nat.zero_add] at this

theorem Owns.holds {w : World} {B : Nat} {v : Value} {l : List Int} (h : Owns w B v l) : ∃ ao cap, v = .slice ao l.length cap ∧ Holds w ao l.length cap l := by
  rcases Owns.shape h with ⟨rfl, rfl⟩ | ⟨g, cap, rfl, hb, hg, hn, hc⟩
  · exact ⟨none, 0, rfl, holds_nil w⟩
  · refine ⟨some ⟨g, 0, none⟩, cap, rfl, rfl, hn, fun h => (by cases h), fun ad had j u hj => ?_⟩
    cases had
    rw [Addr.add_lit, Nat.zero_add]
    exact hc j u hj

theorem owns_of {w : World} {B n : Nat} {v : Value} {l : List Int} (h : w.ownsRow B 5 1 v n (u8s l)) : Owns w B v l := by
  have hn : n = l.length := by have := h.1; rw [u8s_len] at this; omega
  subst hn; exact h

theorem gives_of {w w' : World} {B : Nat} {v : Value} {l : List Int} (h : Owns w' B v l) (hb : Below w.heap.size w w') : Gives w B l (.returned v) w' := by
  obtain ⟨ao, c, rfl, _⟩ := Owns.holds h
  exact ⟨ao, _, c, rfl, ⟨rfl, h⟩, hb⟩

theorem OwnS.held {w : World} {B : Nat} {ao : Option Addr} {m c : Nat} {l : List Int} (h : OwnS w B ao m c l) : Holds w ao m c l := by
  obtain ⟨rfl, h⟩ := h
  obtain ⟨ao', c', he, hh⟩ := Owns.holds h
  cases he
  exact hh

theorem Owns.lower {w : World} {B B' : Nat} {v : Value} {l : List Int} (h : Owns w B v l) (hB : B' ≤ B) : Owns w B' v l := by
  refine ⟨h.1, ?_⟩
  rcases h.2 with h1 | ⟨g, cap, cur, h1, h2, h3⟩
  · exact .inl h1
  · exact .inr ⟨g, cap, cur, h1, Nat.le_trans hB h2, h3⟩

theorem OwnS.lower {w : World} {B B' : Nat} {ao : Option Addr} {m c : Nat} {l : List Int} (h : OwnS w B ao m c l) (hB : B' ≤ B) : OwnS w B' ao m c l := ⟨h.1, Owns.lower h.2 hB⟩

theorem ret_int {k : IntKind} {a b : Int} (h : a = b) : Ending.returned (.int k a) = .returned (.int k b) := by rw [h]

theorem notU64 (a : Nat) (ha : a < 18446744073709551616) : bits .xor .u64 IntKind.u64.max (a : Int) = 18446744073709551615 - (a : Int) := by
  have hm : IntKind.u64.max = ((18446744073709551615 : Nat) : Int) := by decide
  rw [hm, u64_xor_nat _ _ (by omega) ha]
  have h : (18446744073709551615 : Nat) ^^^ a = 18446744073709551615 - a := by
    have h1 : (BitVec.allOnes 64 ^^^ BitVec.ofNat 64 a).toNat = (~~~ (BitVec.ofNat 64 a)).toNat := by rw [BitVec.allOnes_xor]
    rw [BitVec.toNat_xor, BitVec.toNat_not, BitVec.toNat_allOnes, BitVec.toNat_ofNat, Nat.mod_eq_of_lt (by simpa using ha)] at h1
    simpa using h1
  rw [h]; omega

end Go.Proofs.Ytaljkpndfjfgdaa
