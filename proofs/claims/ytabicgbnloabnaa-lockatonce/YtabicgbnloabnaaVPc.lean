import Derived.Test.YtabicgbnloabnaaVPa
import Derived.Test.YtabicgbnloabnaaVJRg
import Derived.Test.YtabicgbnloabnaaVFr
namespace Go.Proofs.Ytabicgbnloabnaa
set_option maxRecDepth 100000
set_option linter.unusedSimpArgs false
open Go.RowKit
theorem emp_at {f:Nat→Bool} (h:emp f=true) (i:Nat) (hi:i<8):f i=false:=by
 have h1:∀i∈List.range 8,f i=no8 i:=by simpa [emp,like] using h
 exact h1 i (by simpa using hi)
theorem now_op {s:Lo}  :s.now.op=s.op:=by unfold Lo.now;split;exact nowSh_op _ _;exact nowEx_op _ _
theorem lst_none:∀(j:Nat) (f:Nat→Bool),(∀i,i<j→f i=false)→lstTo f j= []
 | 0,_,_=>rfl
 | j+1,f,h=>by
   have h1:=lst_none j f (fun i hi=>h i (by omega))
   have h2:=h j (by omega)
   simp [lstTo,h1,h2]
end Go.Proofs.Ytabicgbnloabnaa
