import Derived.Test.YtbigongmlpoahaaUFq
namespace Go.Proofs.Ytbigongmlpoahaa
set_option maxRecDepth 100000
set_option linter.unusedSimpArgs false
open Go.RowKit
section
variable {o:Oper} {a:Act} {w:World} {K:Act→World→Prop} {Q:Exit→Act→World→Prop}
theorem o_idx28n (x y:Operand) (ho:o.op= .indexAddr 81 x y) (g off n c j:Nat) (hj:j<n) (hx:a.eval x= .slice (some ⟨g,off,none⟩) n c) (hy:a.eval y= .int .i64 j) (h:K (a.put o.dst (.pointer (some ⟨g,off+j*6,none⟩))) w):o.wp Try.prog a w K Q:=by
 have hjI:(j:Int)<n:=by omega
 unfold Oper.wp execOp
 simp only [ho,hx,hy]
 simp [go_sem,hj,hjI]
 exact h
theorem o_idx36n (x y:Operand) (ho:o.op= .indexAddr 22 x y) (g off n c j:Nat) (hj:j<n) (hx:a.eval x= .slice (some ⟨g,off,none⟩) n c) (hy:a.eval y= .int .i64 j) (h:K (a.put o.dst (.pointer (some ⟨g,off+j,none⟩))) w):o.wp Try.prog a w K Q:=by
 have hjI:(j:Int)<n:=by omega
 unfold Oper.wp execOp
 simp only [ho,hx,hy]
 simp [go_sem,hj,hjI]
 exact h
end
def od0:Od:=⟨0,0,0,0,0,0⟩
theorem zero65 (w:World):(Instr.alloc 74 true (.tuple #[])).run Try.prog w= .ok (P0 w.heap.size) (w.alloc (.cells od0.C.toArray 74)):=by kernel_rfl
end Go.Proofs.Ytbigongmlpoahaa
