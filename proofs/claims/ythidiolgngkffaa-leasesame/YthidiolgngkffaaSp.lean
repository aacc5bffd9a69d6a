/-
  Steps as plain data.
-/
import Derived.Test.YthidiolgngkffaaLa
namespace Go.Proofs.Ythidiolgngkffaa
set_option maxRecDepth 100000
open Go.RowKit


/-- A step. -/
structure Sp where
  kd : Int
  n : Int
  l : Le
def Sp.C (x : Sp) : List Value := [.int .i64 x.kd, .int .i64 x.n, .int .i64 x.l.ep, .int .i64 x.l.be, .int .i64 x.l.re]
/-- A list of steps in memory. -/
def StepS (W : World) (ao : Option Addr) (l : List Sp) : Prop := ∀ (i : Nat) (x : Sp), l[i]? = some x → ∃ b o, ao = some ⟨b, o, none⟩ ∧ ∀ (c : Nat) u, x.C[c]? = some u → W.cell? ⟨b, o + i * 5 + c, none⟩ = some u
theorem StepS.kept {W W' : World} {ao : Option Addr} {l : List Sp} (h : StepS W ao l) (hk : Kept [] W W') : StepS W' ao l := by
  intro i x hx
  obtain ⟨b, o, e, hc⟩ := h i x hx
  exact ⟨b, o, e, fun c u hu => hk.cell (hc c u hu) (by simp)⟩
theorem StepS.range {W : World} {ao : Option Addr} {l : List Sp} (h : StepS W ao l) {i : Nat} {x : Sp} (hx : l[i]? = some x) : ∃ b o, ao = some ⟨b, o, none⟩ ∧ W.rangeAt b (o + i * 5) x.C := by
  obtain ⟨b, o, e, hc⟩ := h i x hx
  exact ⟨b, o, e, fun c u hu => hc c u hu⟩

end Go.Proofs.Ythidiolgngkffaa
