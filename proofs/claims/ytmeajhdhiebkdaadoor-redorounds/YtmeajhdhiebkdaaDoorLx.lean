/-
  The chapter's rows, computed.
-/
import Derived.Test.YtmeajhdhiebkdaaDoorLw
namespace Go.Proofs.YtmeajhdhiebkdaaDoor
set_option maxRecDepth 100000
open Go.RowKit

def vb (c : Int) : List Int := c :: Rc.zs 95
theorem vb_byts (c : Int) (h : 0 ≤ c ∧ c < 256) : Rc.Byts 96 (vb c) := ⟨by simp [vb, Rc.zs], by intro x hx; rcases List.mem_cons.1 hx with rfl | hx; exact h; rw [List.eq_of_mem_replicate hx]; decide⟩
def kr (n c : Int) : Rc.Rec := ⟨0, 1, n, 0, n, vb c⟩
def kl (s : Int) (R : List Rc.Rec) (f : Nat) : Lo := ⟨lawJ, 0, 1, s, R, f⟩
def kR : List Rc.Rec := [kr 1 97, kr 2 97, kr 3 97]
def ke0 : Dv.Dev := ups (Dv.newDev lawJ.sectors.1.toNat lawJ.n.toNat) lawJ.n.toNat
def ke1 : Dv.Dev := ((kl 1 kR 0).flush ke0).1
def ke2 : Dv.Dev := ((kl 1 (kR ++ [kr 4 98]) 3).flush ke1).1
def ke3 : Dv.Dev := ((kl 1 (kR ++ [kr 4 98]) 4).cut ke2 4).1
def ke4 : Dv.Dev := ((kl 4 [kr 4 98, kr 5 99] 1).flush ke3).1
def ke5 : Dv.Dev := (ke4.up 0).2.2
def ke6 : Dv.Dev := ((kl 4 [kr 4 98, kr 5 99, kr 6 100] 2).flush ke5).1
theorem kmay : lawJ.may = true := by decide
theorem kf0 : lookR ke0 lawJ 0 true = (1, [], 0) := by kernel_rfl
theorem kf1a : (kl 1 (kR.take 0) 0).app 0 (((0 : Nat) : Int) + 1) (vb 97) = (kl 1 (kR.take (0 + 1)) 0, ((0 : Nat) : Int) + 1, 0) := by kernel_rfl
theorem kf1b : (kl 1 (kR.take 1) 0).app 0 (((1 : Nat) : Int) + 1) (vb 97) = (kl 1 (kR.take (1 + 1)) 0, ((1 : Nat) : Int) + 1, 0) := by kernel_rfl
theorem kf1c : (kl 1 (kR.take 2) 0).app 0 (((2 : Nat) : Int) + 1) (vb 97) = (kl 1 (kR.take (2 + 1)) 0, ((2 : Nat) : Int) + 1, 0) := by kernel_rfl
theorem kf1 (k : Nat) (h : k < 3) : (kl 1 (kR.take k) 0).app 0 ((k : Int) + 1) (vb 97) = (kl 1 (kR.take (k + 1)) 0, (k : Int) + 1, 0) := by
  rcases (by omega : k = 0 ∨ k = 1 ∨ k = 2) with rfl | rfl | rfl
  · exact kf1a
  · exact kf1b
  · exact kf1c
theorem kf2 : ((kl 1 kR 0).flush ke0).2 = (3, 0) := by kernel_rfl
theorem kf3 : (kl 1 kR 3).app 0 4 (vb 98) = (kl 1 (kR ++ [kr 4 98]) 3, 4, 0) := by kernel_rfl
theorem kf4 : (kl 1 (kR ++ [kr 4 98]) 3).app 0 5 (vb 99) = (kl 1 (kR ++ [kr 4 98]) 3, 0, 5) := by kernel_rfl
theorem kf5 : ((kl 1 (kR ++ [kr 4 98]) 3).flush ke1).2 = (4, 0) := by kernel_rfl
theorem kf6 : ((kl 1 (kR ++ [kr 4 98]) 4).cut ke2 4).2 = (kl 4 [kr 4 98] 1, 0) := by kernel_rfl
theorem kf7 : (kl 4 [kr 4 98] 1).app 0 5 (vb 99) = (kl 4 [kr 4 98, kr 5 99] 1, 5, 0) := by kernel_rfl
theorem kf8 : ((kl 4 [kr 4 98, kr 5 99] 1).flush ke3).2 = (2, 0) := by kernel_rfl
theorem kf9 : lookR ke4 lawJ 0 true = (4, [kr 4 98, kr 5 99], 0) := by kernel_rfl
theorem kf10 : ((ke4.up 0).1, (ke4.up 0).2.1) = (2, 0) := by kernel_rfl
theorem kf11 : (kl 4 [kr 4 98, kr 5 99] 2).app 0 6 (vb 100) = (kl 4 [kr 4 98, kr 5 99, kr 6 100] 2, 6, 0) := by kernel_rfl
theorem kf12 : ((kl 4 [kr 4 98, kr 5 99, kr 6 100] 2).flush ke5).2 = (2, 8) := by kernel_rfl
theorem kf13 : (kl 4 [kr 4 98] 1).room = 3 := by kernel_rfl
theorem kf14 : (kl 1 [] 0).room = 4 := by kernel_rfl

end Go.Proofs.YtmeajhdhiebkdaaDoor
