/-
  Body is the document's Body; the body of a body's text is the body.
-/
import Derived.Test.YtnflcajidgbbbaaDoorRbody
namespace Go.Proofs.YtnflcajidgbbbaaDoor
open Go.RowKit

theorem pairs_all : (List.range 256).all (fun x => decide (pairB (digC ((x : Int) / 16)) (digC ((x : Int) % 16)) = x)) = true := by kernel_rfl
theorem rpairs_all : (List.range 256).all (fun x => decide (rdig (digC ((x : Int) / 16)) = (x : Int) / 16 ∧ rdig (digC ((x : Int) % 16)) = (x : Int) % 16)) = true := by kernel_rfl
theorem pair_back {x : Int} (h : 0 ≤ x ∧ x < 256) : pairB (digC (x / 16)) (digC (x % 16)) = x := by
  obtain ⟨n, rfl⟩ := Int.eq_ofNat_of_zero_le h.1
  simpa using List.all_eq_true.1 pairs_all n (List.mem_range.2 (by omega))
theorem rpair_back {x : Int} (h : 0 ≤ x ∧ x < 256) : rdig (digC (x / 16)) = x / 16 ∧ rdig (digC (x % 16)) = x % 16 := by
  obtain ⟨n, rfl⟩ := Int.eq_ofNat_of_zero_le h.1
  simpa using List.all_eq_true.1 rpairs_all n (List.mem_range.2 (by omega))
theorem escs_cons (x : Int) (l : List Int) : escs (x :: l) = esc x ++ escs l := by simp [escs]
theorem meant_escs : ∀ (b : List Int), (∀ x ∈ b, 0 ≤ x ∧ x < 256) → meantL (escs b) = b
  | [], _ => rfl
  | x :: b, h => by
    have ih := meant_escs b (fun y hy => h y (List.mem_cons_of_mem _ hy))
    rw [escs_cons, esc_of]
    split
    · next hp => rw [List.singleton_append, meant_plain hp.2.2, ih]
    · show meantL (37 :: digC (x / 16) :: digC (x % 16) :: escs b) = _
      rw [meant_pair, ih, pair_back (h x (by simp))]
theorem unw_escs : ∀ (b : List Int), (∀ x ∈ b, 0 ≤ x ∧ x < 256) → unw (escs b) = some b
  | [], _ => rfl
  | x :: b, h => by
    have ih := unw_escs b (fun y hy => h y (List.mem_cons_of_mem _ hy))
    have hx := h x (by simp)
    rw [escs_cons, esc_of]
    split
    · next hp => rw [List.singleton_append, unw_plain hp.2.2, ih]; rfl
    · show unw (37 :: digC (x / 16) :: digC (x % 16) :: escs b) = _
      have hr := rpair_back hx
      rw [unw_pair, hr.1, hr.2, if_neg (by omega), ih]
      show some (_ :: b) = _
      rw [show x / 16 * 16 + x % 16 = x by omega]

end Go.Proofs.YtnflcajidgbbbaaDoor
