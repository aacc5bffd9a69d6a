import Derived.Test.YtabicgbnloabnaaVHa
import Derived.Test.YtabicgbnloabnaaVPf
namespace Go.Proofs.Ytabicgbnloabnaa
set_option maxRecDepth 100000
set_option linter.unusedSimpArgs false
open Go.RowKit
theorem Rw.le {W:World} {e z n:Nat} {v:Value} {xs:List Value} (h:Rw W e z v n xs):(n:Int)≤9223372036854775807:=by
 rcases h.lie with ⟨_,rfl⟩ | ⟨g,off,cap,cur,_,_,h1,h2,_⟩
 · decide
 · have:cap≤9223372036854775807:=h2
   omega
structure Lp (base:Bw) (W:World) (b c j:Nat) (s:Lo) (L:List Wi) (ln lr:Value):Prop where
 st:St base W b c j s L s.abs L ln lr
 jv:Jv s
theorem Lp.step {base:Bw} {W W':World} {b c j:Nat} {s:Lo} {L:List Wi} {ln lr:Value} (h:Lp base W b c j s L ln lr) (hk:Kept [] W W'):Lp base W' b c j s L ln lr:=⟨h.st.step hk,h.jv⟩
end Go.Proofs.Ytabicgbnloabnaa
