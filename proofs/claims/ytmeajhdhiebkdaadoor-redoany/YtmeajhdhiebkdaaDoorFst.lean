/-
  The variable that the rows lay: the first head.
-/
import Derived.Test.YtmeajhdhiebkdaaDoorRcHead
import Derived.Test.YtmeajhdhiebkdaaDoorKit
import Derived.Test.YtmeajhdhiebkdaaDoorRows
import Derived.MakeChecks
import Derived.LaidLaws
import Derived.ProofKit
import Derived.OpenShut
import Derived.SizedLaws
import Derived.Lib.SmallJoins
import Derived.LaidMore
import Derived.Lay
import Derived.SevenTiedAt
import Derived.Stop.Joined
namespace Go.Proofs.YtmeajhdhiebkdaaDoor
open Go.ChangeShapes Go.WideShapes Go.ChangeAt Go.RowKit Go.Joins Go.Deep

theorem own : ownKnob Tryd.prog.godebug = none := by kernel_rfl
theorem Tryd.laidOut : laidOutB Tryd.prog = true := by kernel_rfl
theorem fields91' : ∃ f0 f1 : Field, Tryd.prog.underlying 91 = some (.struct #[f0, f1]) ∧ (f0.type = 2 ∧ f0.offset = 0) ∧ f1.type = 2 ∧ f1.offset = 1 := ⟨_, _, Tryd.underlying91, ⟨rfl, rfl⟩, rfl, rfl⟩
theorem global0 : Tryd.prog.globalNamed "millpond/record.first" = some 0 := by kernel_rfl
theorem global0t : (Tryd.prog.globals[0]?).map (·.type) = some 91 := by kernel_rfl
theorem first_of {W : World} (h : laidMetH Tryd.prog [("millpond/record.first", Rows.laid_millpond_record_first)] W) : Rc.First W := by
  rw [MakeChecks.laidMetH_plain _ _ _ (by kernel_rfl)] at h
  obtain ⟨ps, ⟨g, t, cs, fuel, p, q, hg, ht, hv, hd, _, _⟩, _, _⟩ := h
  obtain rfl : 0 = g := Option.some.inj (global0.symm.trans hg)
  obtain rfl : 91 = t := Option.some.inj (global0t.symm.trans ht)
  obtain ⟨f0, f1, hu, ⟨t0, o0⟩, t1, o1⟩ := fields91'
  obtain ⟨y0, y1, n, hx, hl, h0, h1⟩ := trod_struct2 hu hd
  have c2 : Tryd.prog.cellsOf 2 = 1 := by kernel_rfl
  have c91 : Tryd.prog.cellsOf 91 = 2 := by kernel_rfl
  rw [t0, o0, c2] at h0
  rw [t1, o1, c2] at h1
  rw [c91] at hl
  obtain ⟨a, e0, d0, _⟩ := DataW.trod_int Tryd.underlying2 h0
  obtain ⟨b, e1, d1, _⟩ := DataW.trod_int Tryd.underlying2 h1
  subst d0 d1
  simp only [Rows.laid_millpond_record_first, Prod.mk.injEq, DataW.agg.injEq, List.cons.injEq, DataW.lit.injEq, Lit.int.injEq, true_and, and_true] at hx
  obtain ⟨⟨rfl, rfl⟩, _⟩ := hx
  have e : cs.toList = Rc.hdC 1 0 := by
    match hc : cs.toList, hl with
    | [x, y], _ =>
      rw [hc] at e0 e1
      simp at e0 e1
      rw [e0, e1]; rfl
  unfold World.var? at hv
  rw [global0] at hv
  simp only [Option.bind_some] at hv
  split at hv
  · rename_i cs' t p' hh
    obtain rfl := Option.some.inj hv
    refine ⟨fun i v hi => ?_, lt_of_block hh⟩
    rw [Nat.zero_add, cell_of_block hh, ← Array.getElem?_toList, e]
    exact hi
  · cases hv

end Go.Proofs.YtmeajhdhiebkdaaDoor
