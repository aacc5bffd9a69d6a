import Derived.Test.YtabicgbnloabnaaUPd
namespace Go.Proofs.Ytabicgbnloabnaa
set_option maxRecDepth 100000
set_option linter.unusedSimpArgs false
open Go.RowKit
variable {s:Lo} {r:Rk} {l L:List Wi}
end Go.Proofs.Ytabicgbnloabnaa
