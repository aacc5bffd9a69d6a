import Derived.Test.YtabicgbnloabnaaUNi
namespace Go.Proofs.Ytabicgbnloabnaa
set_option maxRecDepth 100000
set_option linter.unusedSimpArgs false
open Go.RowKit
structure Bs (w:World) (B:Bo) (x y z:Value):Prop where
 sh:Is w x B.sh
 pa:Is w y B.pa
 ln:Ws w z B.ln
theorem Bs.kept {w w':World} {B:Bo} {x y z:Value} (h:Bs w B x y z) (hk:Kept [] w w'):Bs w' B x y z:=⟨h.sh.kept hk (by simp),h.pa.kept hk (by simp),h.ln.kept hk (by simp)⟩
section
variable {o:Oper} {a:Act} {w:World} {K:Act→World→Prop} {Q:Exit→Act→World→Prop}
end
end Go.Proofs.Ytabicgbnloabnaa
