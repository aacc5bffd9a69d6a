/-
  The walk of Follows.
-/
import Derived.Test.YtmeajhdhiebkdaaDoorRcSmall
namespace Go.Proofs.YtmeajhdhiebkdaaDoor.Rc
set_option maxRecDepth 100000
open Go.RowKit

set_option maxHeartbeats 1000000 in
theorem follows24 (a b : Rec) (ha : I64 a.ls) (hb : I64 b.ls) (w : World) : Calls Tryd.prog 83 #[aggV (recC a), aggV (recC b)] w fun e w' => e = .returned (.bool (folB a b)) ∧ Kept [] w w' := by
  obtain ⟨ha1, ha2⟩ := ha
  obtain ⟨hb1, hb2⟩ := hb
  by_cases h1 : a.ls < b.ls
  rotate_left
  · go_enter Tryd.func83, Tryd.ntmps83
    go_wp2_with (
      first
      | (refine wpBoxV rfl (.tmp 0) rfl (recC a) rfl ?_
         intro W1 b1 e1 B1 K1
         have BB := hide B1
         have KK := hide K1
         clear e1 B1 K1)
      | (refine wpBoxV rfl (.tmp 1) rfl (recC b) rfl ?_
         intro W2 b2 e2 B2 K2
         obtain ⟨c0, c1, c2, c3, c4⟩ := Rec.cells ((unhide BB).kept K2 (by simp))
         obtain ⟨d0, d1, d2, d3, d4⟩ := Rec.cells B2
         have K3 := hide ((unhide KK).trans K2)
         clear e2 B2 K2 BB KK))
    go_ret
    exact ⟨ret_bool (by simp [folB]; omega), unhide K3⟩
  by_cases h2 : a.ls = b.ls - 1
  rotate_left
  · go_enter Tryd.func83, Tryd.ntmps83
    go_wp2_with (
      first
      | (refine wpBoxV rfl (.tmp 0) rfl (recC a) rfl ?_
         intro W1 b1 e1 B1 K1
         have BB := hide B1
         have KK := hide K1
         clear e1 B1 K1)
      | (refine wpBoxV rfl (.tmp 1) rfl (recC b) rfl ?_
         intro W2 b2 e2 B2 K2
         obtain ⟨c0, c1, c2, c3, c4⟩ := Rec.cells ((unhide BB).kept K2 (by simp))
         obtain ⟨d0, d1, d2, d3, d4⟩ := Rec.cells B2
         have K3 := hide ((unhide KK).trans K2)
         clear e2 B2 K2 BB KK))
    go_ret
    exact ⟨ret_bool (by simp [folB]; omega), unhide K3⟩
  by_cases h3 : a.nd = b.nd
  rotate_left
  · go_enter Tryd.func83, Tryd.ntmps83
    go_wp2_with (
      first
      | (refine wpBoxV rfl (.tmp 0) rfl (recC a) rfl ?_
         intro W1 b1 e1 B1 K1
         have BB := hide B1
         have KK := hide K1
         clear e1 B1 K1)
      | (refine wpBoxV rfl (.tmp 1) rfl (recC b) rfl ?_
         intro W2 b2 e2 B2 K2
         obtain ⟨c0, c1, c2, c3, c4⟩ := Rec.cells ((unhide BB).kept K2 (by simp))
         obtain ⟨d0, d1, d2, d3, d4⟩ := Rec.cells B2
         have K3 := hide ((unhide KK).trans K2)
         clear e2 B2 K2 BB KK))
    go_ret
    exact ⟨ret_bool (by simp [folB]; omega), unhide K3⟩
  go_enter Tryd.func83, Tryd.ntmps83
  go_wp2_with (
    first
    | (refine wpBoxV rfl (.tmp 0) rfl (recC a) rfl ?_
       intro W1 b1 e1 B1 K1
       have BB := hide B1
       have KK := hide K1
       clear e1 B1 K1)
    | (refine wpBoxV rfl (.tmp 1) rfl (recC b) rfl ?_
       intro W2 b2 e2 B2 K2
       obtain ⟨c0, c1, c2, c3, c4⟩ := Rec.cells ((unhide BB).kept K2 (by simp))
       obtain ⟨d0, d1, d2, d3, d4⟩ := Rec.cells B2
       have K3 := hide ((unhide KK).trans K2)
       clear e2 B2 K2 BB KK))
  go_ret
  exact ⟨ret_bool (by simp [folB]; omega), unhide K3⟩

end Go.Proofs.YtmeajhdhiebkdaaDoor.Rc
