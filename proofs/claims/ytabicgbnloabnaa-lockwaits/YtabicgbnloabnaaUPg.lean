import Derived.Test.YtabicgbnloabnaaUPf
namespace Go.Proofs.Ytabicgbnloabnaa
set_option maxRecDepth 100000
set_option linter.unusedSimpArgs false
open Go.RowKit
variable {s:Lo} {r:Rk} {l L:List Wi}
def Dc (O:List Od) (n:Nat):Prop:=∃o∈O,o.k=6∧o.t=(n:Int)
theorem Dc.left {O P:List Od} {n:Nat} (h:Dc O n):Dc (O++P) n:=by
 obtain⟨o,h1,h2⟩:=h
 exact⟨o,List.mem_append_left _ h1,h2⟩
def Tr (O:List Od):Prop:=∀o∈O,o.k=6→0≤o.t∧o.t<8
theorem Tr.nil:Tr []:=fun o ho=>by cases ho
theorem Tr.not {O:List Od} (h:∀o∈O,¬o.k=6):Tr O:=fun o ho e=>absurd e (h o ho)
structure Ps (s:Lo) (s1:Lo) (O:List Od):Prop where
 pa:∀n,n<8→s.pa n=true→s1.pa n=true∨Dc O n
 tr:Tr O
theorem Ps.none (s:Lo):Ps s s []:=⟨fun _ _ h=> .inl h,Tr.nil⟩
theorem Ps.same {s1:Lo} {O:List Od} (h:s1.pa=s.pa) (hO:∀o∈O,¬o.k=6):Ps s s1 O:=⟨fun n _ e=> .inl (by rw [h];exact e),Tr.not hO⟩
def K2 (s:Lo):Prop:=s.hk=2→s.ow= -1∨s.ow=(s.hn:Int)∨s.su=s.ow
end Go.Proofs.Ytabicgbnloabnaa
