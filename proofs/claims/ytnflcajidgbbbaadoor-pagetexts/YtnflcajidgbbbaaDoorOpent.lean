/-
  How the arguments of the law PageTexts are opened.
-/
import Derived.Test.YtnflcajidgbbbaaDoorOpen
import Derived.Test.YtnflcajidgbbbaaDoorTxt
import Derived.ChangeMaps5
namespace Go.Proofs.YtnflcajidgbbbaaDoor
open Go.ChangeShapes Go.WideShapes Go.ChangeAt Go.RowKit Go.Joins

/-- A body that came in. -/
theorem body_open {H : Type} {enc : TypeId × Value → H} {W : World} {r : Reach} {b0 : Nat} {v : Value} {d : DataW H} {p : List MemPlace} (hv : Value.okWide Tryd.prog W r b0 23 v) (h : DataW.Trod enc Tryd.prog W 0 (fun _ => true) true 23 v d p) :
    ∃ s, v = aggV (u8s s) ∧ Byts 96 s := by
  obtain ⟨cs, rfl, hsz⟩ := okWide_array Tryd.underlying23 hv
  obtain ⟨fuel, hf⟩ := h
  have c23 : Tryd.prog.cellsOf 23 = 96 := by kernel_rfl
  obtain ⟨s, e, hs⟩ := byts_open Tryd.underlying23 c23 hf
  refine ⟨s, ?_, hs⟩
  have : cs.toList = u8s s := e
  show Value.agg cs = .agg (u8s s).toArray
  rw [← this]
/-- A string is a list of bytes. -/
theorem str_of (b : ByteArray) : ∃ L : List Int, .string b = strV L ∧ ∀ x ∈ L, 0 ≤ x ∧ x < 256 := by
  refine ⟨b.data.toList.map (fun c => (c.toNat : Int)), ?_, ?_⟩
  · unfold strV
    have : (b.data.toList.map (fun c => (c.toNat : Int))).map (fun x => UInt8.ofNat x.toNat) = b.data.toList := by
      rw [List.map_map]
      conv => rhs; rw [← List.map_id b.data.toList]
      apply List.map_congr_left
      intro c _
      simp
    rw [this]
  · intro x hx
    obtain ⟨c, _, rfl⟩ := List.mem_map.1 hx
    have := c.toNat_lt
    omega

end Go.Proofs.YtnflcajidgbbbaaDoor
