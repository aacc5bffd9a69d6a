import Derived.Test.YtbigongmlpoahaaUFr
namespace Go.Proofs.Ytbigongmlpoahaa
set_option maxRecDepth 100000
set_option linter.unusedSimpArgs false
open Go.RowKit
def Nl (w:World) (v:Value):Prop:=v= .pointer none∨∃b,v=P0 b∧w.cell? ⟨b,0,none⟩=some (.bool false)
theorem Nl.kept {w w':World} {v:Value} (h:Nl w v) (hk:Kept [] w w'):Nl w' v:=by
 rcases h with h | ⟨b,h,hc⟩
 · exact .inl h
 · exact .inr ⟨b,h,hk.cell hc (by simp)⟩
end Go.Proofs.Ytbigongmlpoahaa
namespace Go.Proofs.Ytbigongmlpoahaa
set_option maxRecDepth 100000
set_option linter.unusedSimpArgs false
open Go.RowKit
end Go.Proofs.Ytbigongmlpoahaa
namespace Go.Proofs.Ytbigongmlpoahaa
set_option maxRecDepth 100000
set_option linter.unusedSimpArgs false
open Go.RowKit
end Go.Proofs.Ytbigongmlpoahaa
namespace Go.Proofs.Ytbigongmlpoahaa
set_option maxRecDepth 100000
set_option linter.unusedSimpArgs false
open Go.RowKit
end Go.Proofs.Ytbigongmlpoahaa
namespace Go.Proofs.Ytbigongmlpoahaa.D
set_option maxRecDepth 100000
set_option linter.unusedSimpArgs false
open Go.RowKit
variable {w:World}
end Go.Proofs.Ytbigongmlpoahaa.D
