import Derived.Test.YtabicgbnloabnaaVPf
import Derived.Test.YtabicgbnloabnaaVRg
import Derived.Test.YtabicgbnloabnaaVFq
namespace Go.Proofs.Ytabicgbnloabnaa
set_option maxRecDepth 100000
set_option linter.unusedSimpArgs false
open Go.RowKit
theorem b8_get (f:Nat→Bool) (j:Nat) (h:j<8):(b8 f)[j]?=some (.bool (f j)):=by
 match j,h with
 | 0,_ | 1,_ | 2,_ | 3,_ | 4,_ | 5,_ | 6,_ | 7,_=>rfl
end Go.Proofs.Ytabicgbnloabnaa
