import Derived.Test.YtbigongmlpoahaaUDo
import Derived.Test.YtbigongmlpoahaaUNi
namespace Go.Proofs.Ytbigongmlpoahaa.D
set_option maxRecDepth 100000
set_option linter.unusedSimpArgs false
open Go.RowKit Go.Shelf
attribute [local go_sem] Oper.semAt_some
section
variable {o:Oper} {a:Act} {w:World} {K:Act→World→Prop} {Q:Exit→Act→World→Prop}
theorem o_load42 (x:Operand) (ho:o.op= .load 42 x) (p:Addr) (v:Value) (hx:a.eval x= .pointer (some p)) (hc:w.cell? p=some v) (h:K (a.put o.dst v) w):o.wp Try.prog a w K Q:=by
 unfold Oper.wp execOp
 simp only [ho,hx]
 simp [go_sem,hc]
 exact h
end
section
variable {F:Fence} {n:Nat} {ops:Array Oper} {rest:List Oper} {o:Oper} {a:Act} {w:World} {Q:Exit→Act→World→Prop}
end
variable {A A2:Nat} {w W W':World} {b mb b2 mb2 c z:Nat} {L L2:List Lk} {Z:List Nat}
theorem Dg.nod (h:Dg A W b mb L) (hk:Kept Z W W') (hz:∀i∈Z,NoD W i):Dg A W' b mb L:=
 ⟨h.blk.kept hk (fun e=>(hz _ e).blk h.blk),MapAt.nod h.map hk hz,fun x hx=>(h.lk x hx).nod hk hz,h.may,h.nd,h.ap⟩
end Go.Proofs.Ytbigongmlpoahaa.D
namespace Go.Proofs.Ytbigongmlpoahaa.D
set_option maxRecDepth 100000
set_option linter.unusedSimpArgs false
open Go.RowKit Go.Shelf
attribute [local go_sem] Oper.semAt_some
variable {w W V:World} {v:Value} {g c1 c2:Nat} {cs:Array Value} {m:Int} {p:Option Addr}
end Go.Proofs.Ytbigongmlpoahaa.D
