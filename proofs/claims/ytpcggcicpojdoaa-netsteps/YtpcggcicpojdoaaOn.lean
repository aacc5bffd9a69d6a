/-
  What NetOnce keeps.
-/
import Derived.Test.YtpcggcicpojdoaaKna
namespace Go.Proofs.Ytpcggcicpojdoaa
open Go.RowKit

theorem row36 : Row 36 5 := ⟨_, Try.underlying36, rfl, by kernel_rfl⟩
def z36 : List Value := [.int .i64 0, .int .i64 0, .int .i64 0, .int .i64 0, .slice none 0 0]
theorem alloc36 (w : World) : (Instr.alloc 36 true (.tuple #[])).run Try.prog w = .ok (P0 w.heap.size) (w.alloc (.cells z36.toArray 36)) := by kernel_rfl
theorem Stq.one (x : Stq) : ∀ u ∈ x.C, u.oneCell' = true := by
  intro u hu
  simp [Stq.C] at hu
  rcases hu with rfl | rfl | rfl | rfl | rfl <;> rfl
/-- A letter on its way is one that was sent. -/
def Was (S : List Ltr) (l : Ltr) : Prop := ∃ (i : Nat) (s : Ltr), l.num = (i : Int) + 1 ∧ S[i]? = some s ∧ s.num = l.num ∧ s.fr = l.fr ∧ s.to = l.to ∧ s.bs = l.bs
theorem Was.more {S : List Ltr} {l : Ltr} (h : Was S l) (s : Ltr) : Was (S ++ [s]) l := by
  obtain ⟨i, x, h1, h2, h3⟩ := h
  exact ⟨i, x, h1, by rw [List.getElem?_append_left (List.getElem?_eq_some_iff.1 h2).1]; exact h2, h3⟩
structure On (w W : World) (b mb : Nat) (v : Value) (L : List Ltr) (sv : Value) (S : List Ltr) (gone : Int) : Prop where
  kn : Kn w W b mb v ⟨8, S.length, L⟩
  sent : W.ownsRow w.heap.size 47 4 sv S.length (cellsL S)
  row : ∀ s ∈ S, RowAt w s.v s.bs
  num : ∀ (i : Nat) s, S[i]? = some s → s.num = (i : Int) + 1
  was : ∀ l ∈ L, Was S l
  cnt : (L.length : Int) = S.length - gone
  g0 : 0 ≤ gone
theorem On.step {w W W' : World} {b mb : Nat} {v : Value} {L : List Ltr} {sv : Value} {S : List Ltr} {gone : Int} (h : On w W b mb v L sv S gone) (hk : Kept [] W W') : On w W' b mb v L sv S gone :=
  ⟨h.kn.step hk, owns_keptX h.sent hk (by simp), h.row, h.num, h.was, h.cnt, h.g0⟩
theorem owns_apart {w W W' : World} {b mb : Nat} {v sv : Value} {N : Nn} {base n : Nat} {xs : List Value} (hn : Kn w W b mb v N) (ho : W.ownsRow base 47 4 sv n xs) (hk : Kept (nX b mb v) W W') : W'.ownsRow base 47 4 sv n xs :=
  owns_keptX ho hk (fun k e => by obtain ⟨cs, hc⟩ := owns_block ho k e; exact hn.apart (T := 47) (us := cs.toList) (show Blk W k 47 cs.toList by unfold Blk; simpa using hc) (by decide) (by decide))
/-- A letter more. -/
theorem On.put {w W W1 W2 W3 : World} {b mb : Nat} {v v' : Value} {L : List Ltr} {sv sv' : Value} {S : List Ltr} {gone : Int} (h : On w W b mb v L sv S gone) (l s : Ltr) (hn : Nt W1 b mb v' ⟨8, (S.length : Int) + 1, L ++ [l]⟩) (hk : Kept (nX b mb v) W W1) (hv : ∀ i, v'.ownBlock = some i → v.ownBlock = some i ∨ W.heap.size ≤ i)
    (h1 : l.num = (S.length : Int) + 1) (h2 : s.num = l.num) (h3 : s.fr = l.fr) (h4 : s.to = l.to) (h5 : s.bs = l.bs) (hr : RowAt w s.v s.bs) (hk2 : Kept [] W1 W2) (hg : W2.grownBy W3 sv.ownBlock) (ho : W3.ownsRow w.heap.size 47 4 sv' (S.length + 1) (cellsL S ++ s.C)) : On w W3 b mb v' (L ++ [l]) sv' (S ++ [s]) gone := by
  have hl : ((S ++ [s]).length : Int) = (S.length : Int) + 1 := by simp
  have kn2 := (h.kn.mut hn hk hv).step hk2
  have hsk : ∀ k, sv.ownBlock = some k → k ∉ nX b mb v' ∧ w.heap.size ≤ k ∧ ∃ cs, W2.heap[k]? = some (.cells cs 47 (0, 0)) := by
    intro k e
    have ho2 := owns_keptX (owns_apart h.kn h.sent hk) hk2 (by simp)
    obtain ⟨cs, hc⟩ := owns_block ho2 k e
    exact ⟨kn2.apart (T := 47) (us := cs.toList) (show Blk W2 k 47 cs.toList by unfold Blk; simpa using hc) (by decide) (by decide), (ho2.lt k e).1, cs, hc⟩
  have hk3 : Kept sv.ownBlock.toList W2 W3 := kept_grow (Kept.refl _ _) hg (fun k e => by rw [e]; simp)
  have hn3 : Nt W3 b mb v' ⟨8, (S.length : Int) + 1, L ++ [l]⟩ := kn2.nt.kept hk3 (fun k ⟨o, ho', hm⟩ => by
    rw [Option.mem_toList] at hm
    obtain ⟨g1, _, cs, hc⟩ := hsk k hm
    refine ⟨g1, fun x hx e => ?_⟩
    obtain ⟨cs', hc'⟩ := (kn2.nt.body x hx).block k e
    rw [hc'] at hc
    cases hc)
  refine ⟨⟨by rw [hl]; exact hn3, kn2.k.fresh hk3 (fun i hi hlt => by rw [Option.mem_toList] at hi; have := (hsk i hi).2.1; omega), kn2.ge⟩, ?_, ?_, ?_, ?_, ?_, h.g0⟩
  · rw [List.length_append, cellsL_app, cellsL_one]
    exact ho
  · intro x hx
    rcases List.mem_append.1 hx with hx | hx
    · exact h.row x hx
    · simp at hx
      subst hx
      exact hr
  · intro i x hx
    by_cases hi : i < S.length
    · rw [List.getElem?_append_left hi] at hx
      exact h.num i x hx
    · rw [List.getElem?_append_right (by omega)] at hx
      have hi2 : i - S.length = 0 := by
        have := (List.getElem?_eq_some_iff.1 hx).1
        simp at this
        omega
      rw [hi2] at hx
      simp at hx
      subst hx
      rw [h2, h1]
      omega
  · intro x hx
    rcases List.mem_append.1 hx with hx | hx
    · exact (h.was x hx).more s
    · simp at hx
      subst hx
      exact ⟨S.length, s, h1, by simp, h2, h3, h4, h5⟩
  · have := h.cnt
    simp
    omega
/-- A letter less. -/
theorem On.del {w W W1 : World} {b mb : Nat} {v v' : Value} {L : List Ltr} {sv : Value} {S : List Ltr} {gone : Int} (h : On w W b mb v L sv S gone) (i : Nat) (hi : i < L.length) (hn : Nt W1 b mb v' ⟨8, (S.length : Int), L.eraseIdx i⟩) (hk : Kept (nX b mb v) W W1) (hv : v'.ownBlock = v.ownBlock) : On w W1 b mb v' (L.eraseIdx i) sv S (gone + 1) := by
  refine ⟨h.kn.mut hn hk (fun i hi => .inl (hv ▸ hi)), owns_apart h.kn h.sent hk, h.row, h.num, fun l hl => h.was l (List.mem_of_mem_eraseIdx hl), ?_, by have := h.g0; omega⟩
  have := h.cnt
  have h2 : (L.eraseIdx i).length = L.length - 1 := List.length_eraseIdx_of_lt hi
  omega
theorem place_erase {L : List Ltr} {k : Int} {i : Nat} {l : Ltr} (hr : L.Pairwise (fun a b => a.num < b.num)) (h : placeOf k L 0 = some (i, l)) : placeOf k (L.eraseIdx i) 0 = none := by
  obtain ⟨_, h2, h3⟩ := placeOf_some h
  simp only [Nat.sub_zero] at h2
  apply placeOf_no
  intro x hx e
  obtain ⟨j, hj, hne, rfl⟩ := List.mem_eraseIdx_iff_getElem.1 hx
  have h4 := place_self hr (List.getElem?_eq_getElem hj)
  rw [e, h] at h4
  cases h4
  exact hne rfl

end Go.Proofs.Ytpcggcicpojdoaa
