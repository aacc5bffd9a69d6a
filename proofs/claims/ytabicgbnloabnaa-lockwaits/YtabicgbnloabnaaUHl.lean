import Derived.Test.YtabicgbnloabnaaUHa
import Derived.Test.YtabicgbnloabnaaUPf
namespace Go.Proofs.Ytabicgbnloabnaa
set_option maxRecDepth 100000
set_option linter.unusedSimpArgs false
open Go.RowKit
theorem Rw.le {W:World} {e z n:Nat} {v:Value} {xs:List Value} (h:Rw W e z v n xs):(n:Int)≤9223372036854775807:=by
 rcases h.lie with ⟨_,rfl⟩ | ⟨g,off,cap,cur,_,_,h1,h2,_⟩
 · decide
 · have:cap≤9223372036854775807:=h2
   omega
end Go.Proofs.Ytabicgbnloabnaa
