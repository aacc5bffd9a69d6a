/-
  The order of marks; there is one sorted row of marks that have unlike keys.
-/
import Derived.Test.YthihladmifpokaaQh
namespace Go.Proofs.Ythihladmifpokaa
set_option maxRecDepth 100000
set_option linter.unusedSimpArgs false
open Go.RowKit


/-- Is a mark ahead of another one: by page, then by PSN? -/
def lessB (x y : Mk) : Bool := decide (x.p < y.p) || (decide (x.p = y.p) && decide (x.s < y.s))
theorem lessB_iff {x y : Mk} : lessB x y = true ↔ x.p < y.p ∨ (x.p = y.p ∧ x.s < y.s) := by simp [lessB]
theorem lessB_no {x y : Mk} : lessB x y = false ↔ ¬ (x.p < y.p ∨ (x.p = y.p ∧ x.s < y.s)) := by rw [← lessB_iff]; simp
theorem ord_lt (x y : Mk) : decide (ordI x y < 0) = lessB x y := by
  rw [Bool.eq_iff_iff, lessB_iff, decide_eq_true_eq]
  unfold ordI orI cmpI
  by_cases h1 : x.p < y.p
  · simp [h1]
  · by_cases h2 : x.p > y.p
    · have : ¬ x.p = y.p := by omega
      simp [h1, h2, this]
    · have h3 : x.p = y.p := by omega
      by_cases h4 : x.s < y.s
      · simp [h3, h4]
      · by_cases h5 : x.s > y.s <;> simp [h3, h4, h5]
theorem less_irr (x : Mk) : lessB x x = false := by rw [lessB_no]; omega
theorem less_trans {x y z : Mk} (h : lessB x y = true) (k : lessB y z = true) : lessB x z = true := by rw [lessB_iff] at *; omega
theorem less_ntrans {x y z : Mk} (h : lessB x y = false) (k : lessB y z = false) : lessB x z = false := by rw [lessB_no] at *; omega
/-- Marks in their order, no two of one key. -/
def Srt (L : List Mk) : Prop := L.Pairwise (fun x y => lessB x y = true)
theorem Srt.uniq {L : List Mk} (h : Srt L) {x y : Mk} (hx : x ∈ L) (hy : y ∈ L) (hk : x.p = y.p) (hs : x.s = y.s) : x = y := by
  induction L with
  | nil => cases hx
  | cons l L ih =>
    obtain ⟨h1, h2⟩ := List.pairwise_cons.1 h
    rcases List.mem_cons.1 hx with ex | hx' <;> rcases List.mem_cons.1 hy with ey | hy'
    · rw [ex, ey]
    · have := h1 y hy'; rw [← ex, lessB_iff] at this; omega
    · have := h1 x hx'; rw [← ey, lessB_iff] at this; omega
    · exact ih h2 hx' hy'
theorem Srt.filter {L : List Mk} (h : Srt L) (f : Mk → Bool) : Srt (L.filter f) := List.Pairwise.filter f h
theorem Srt.nodup {L : List Mk} (h : Srt L) : L.Nodup := h.imp fun {a b} h e => by subst e; rw [less_irr] at h; cases h
/-- There is one sorted row. -/
theorem Srt.one {L D : List Mk} (h : Srt L) (hp : D.Perm L) (hd : D.Pairwise (fun x y => lessB y x = false)) : D = L := by
  refine List.Perm.eq_of_pairwise (le := fun x y => lessB y x = false) ?_ hd ?_ hp
  · intro a b ha hb h1 h2
    rw [lessB_no] at h1 h2
    exact h.uniq (hp.mem_iff.1 ha) hb (by omega) (by omega)
  · exact h.imp fun {a b} h => by rw [lessB_iff] at h; rw [lessB_no]; omega
/-- What came of a map, put behind what had come. -/
theorem perm_step {M D : List Mk} {T f : Mk → Bool} {l : Mk} (hn : M.Nodup) (hl : l ∈ M) (hT : T l = true) (hf : f l = true) (hp : D.Perm (M.filter (fun x => f x && !T x))) : (D ++ [l]).Perm (M.filter (fun x => f x && !(T x && !decide (x = l)))) := by
  refine (hp.append_right [l]).trans ?_
  clear hp
  induction M with
  | nil => cases hl
  | cons x M ih =>
    obtain ⟨h1, h2⟩ := List.nodup_cons.1 hn
    by_cases e : x = l
    · subst e
      have h3 : M.filter (fun y => f y && !(T y && !decide (y = x))) = M.filter (fun y => f y && !T y) := by
        refine List.filter_congr fun y hy => ?_
        have : ¬ y = x := fun e => h1 (e ▸ hy)
        simp [this]
      simp only [List.filter_cons, hT, hf, h3, decide_true, Bool.not_true, Bool.and_false, Bool.not_false, Bool.and_true, Bool.false_eq_true, if_false, if_true]
      exact List.perm_append_singleton _ _
    · have h4 := ih h2 (by rcases List.mem_cons.1 hl with h | h; exact absurd h.symm e; exact h)
      have h5 : (T x && !decide (x = l)) = T x := by simp [e]
      simp only [List.filter_cons, h5]
      split
      · exact List.Perm.cons x h4
      · exact h4
theorem filter_none {M : List Mk} {T f : Mk → Bool} (h : ∀ l ∈ M, T l = false) : M.filter (fun x => f x && !T x) = M.filter f := List.filter_congr fun x hx => by simp [h x hx]
theorem filter_no {M : List Mk} {T f : Mk → Bool} {l : Mk} (hf : f l = false) : M.filter (fun x => f x && !(T x && !decide (x = l))) = M.filter (fun x => f x && !T x) := by
  congr 1
  funext x
  by_cases h : x = l
  · subst h; simp [hf]
  · simp [h]
theorem filter_all (M : List Mk) (f : Mk → Bool) : M.filter (fun x => f x && !true) = [] := by simp

end Go.Proofs.Ythihladmifpokaa
