import Derived.Test.YtbigongmlpoahaaUKc
namespace Go.Proofs.Ytbigongmlpoahaa
open Go.RowKit
theorem Blk.ropsP {w:World} {b T:Nat} {s:Rk} {ln:Value} (h:Blk w b T (s.C ln)) (f:Nat→Int):Blk (w.setCells b 18 (i8 f)) b T (({ s with ops:=f } :Rk).C ln):=
 Blk.part (pre:=(s.C ln).take 18) (mid:=i8 s.ops) (post:=(s.C ln).drop 26) h rfl rfl
section
variable {op o:Oper} {a:Act} {w:World} {K:Act→World→Prop} {Q:Exit→Act→World→Prop}
theorem o_fld47_5 (x:Operand) (ho:o.op= .fieldAddr 80 x 5) (b i j:Nat) (hj:i+26=j) (hx:a.eval x= .pointer (some ⟨b,i,none⟩)) (h:K (a.put o.dst (.pointer (some ⟨b,j,none⟩))) w):o.wp Try.prog a w K Q:=by
 subst hj
 unfold Oper.wp execOp
 simp only [ho,hx]
 simp [go_sem]
 exact h
end
end Go.Proofs.Ytbigongmlpoahaa
