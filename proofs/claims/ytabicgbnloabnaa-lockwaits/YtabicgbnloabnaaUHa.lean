import Derived.Test.YtabicgbnloabnaaUPc
import Derived.Test.YtabicgbnloabnaaUKn
namespace Go.Proofs.Ytabicgbnloabnaa
set_option maxRecDepth 100000
set_option linter.unusedSimpArgs false
open Go.RowKit
def RowS {α:Type} (C:α→List Value) (m:Nat) (W:World) (ao:Option Addr) (l:List α):Prop:=∀i x,l[i]?=some x→∃b o,ao=some ⟨b,o,none⟩∧∀c u,(C x)[c]?=some u→W.cell? ⟨b,o+i*m+c,none⟩=some u
theorem RowS.kept {α:Type} {C:α→List Value} {m:Nat} {W W':World} {ao:Option Addr} {l:List α} (h:RowS C m W ao l) (hk:Kept [] W W'):RowS C m W' ao l:=by
 intro i x hx
 obtain⟨b,o,e,h1⟩:=h i x hx
 exact⟨b,o,e,fun c u hu=>hk.cell (h1 c u hu) (by simp)⟩
section
variable {ops:Array Oper} {rest:List Oper} {op o:Oper} {a:Act} {w:World} {K:Act→World→Prop} {Q:Exit→Act→World→Prop}
theorem o_idx22 (x y:Operand) (ho:o.op= .indexAddr 22 x y) (ao:Option Addr) (c:Nat) (X:List Sp) (j:Nat) (m:Sp) (hx:a.eval x= .slice ao X.length c) (hy:a.eval y= .int .i64 j) (hI:RowS Sp.C 5 w ao X) (hm:X[j]?=some m) (h:∀g o',w.rangeAt g o' m.C→K (a.put o.dst (.pointer (some ⟨g,o',none⟩))) w):o.wp Try.prog a w K Q:=by
 obtain⟨g,off,rfl,hc⟩:=hI j m hm
 have hj:=(List.getElem?_eq_some_iff.1 hm).1
 have hjI:(j:Int)<X.length:=by omega
 unfold Oper.wp execOp
 simp only [ho,hx,hy]
 simp [go_sem,hj,hjI]
 exact h _ _ (fun i u hu=>hc i u hu)
theorem wpIdx22 (hgd:op.guard=none) (x y:Operand) (ho:op.op= .indexAddr 22 x y) (ao:Option Addr) (c:Nat) (X:List Sp) (j:Nat) (m:Sp) (hx:a.eval x= .slice ao X.length c) (hy:a.eval y= .int .i64 j) (hI:RowS Sp.C 5 w ao X) (hm:X[j]?=some m) (h:∀g o',w.rangeAt g o' m.C→wpList Try.prog ops Q rest (a.put op.dst (.pointer (some ⟨g,o',none⟩))) w):wpList Try.prog ops Q (op::rest) a w:=
 wpList_plain hgd fun _ hK=>o_idx22 x y ho ao c X j m hx hy hI hm (fun g o' hp=>hK _ _ (h g o' hp))
end
structure St (base:Bw) (W:World) (b c j:Nat) (s:Lo) (L:List Wi) (r:Rk) (R:List Wi) (ln lr:Value):Prop where
 du:Du base W b c s L r R ln lr
 gd:Gd j s L
 gr:Gr j r R
 iv:Iv s
 bz:s.busy=false→L= []
variable {base:Bw} {W W':World} {b c j:Nat} {s:Lo} {L R:List Wi} {r:Rk} {ln lr:Value}
theorem St.step (h:St base W b c j s L r R ln lr) (hk:Kept [] W W'):St base W' b c j s L r R ln lr:=⟨h.du.step hk,h.gd,h.gr,h.iv,h.bz⟩
theorem St.does (h:St base W b c j s L r R ln lr) (hj:j≤600) (x:Sp):Calls Try.prog 12 #[P0 b,P0 c,aggV x.C] W fun e w'=>∃u v ln' lr',e= .returned (.tuple #[u,v])∧Ou W w' u (pdo s L r x).2.2∧Ou W w' v (rdo r R x).2.2∧St base w' b c (j+1) (pdo s L r x).1 (pdo s L r x).2.1 (rdo r R x).1 (rdo r R x).2.1 ln' lr':=by
 refine(does12 base W b c x s L r R ln lr h.du (fun W ln h1 h2=>h.gd.sd (by omega) h1 h2) (fun W lr h1 h2=>h.gr.rs (by omega) h1 h2)).mono ?_
 rintro e w' ⟨u,v,ln',lr',e1,h1,h2,h3⟩
 have hl:=pdo_lf h.gd h.iv h.bz r x
 exact⟨u,v,ln',lr',e1,h1,h2,h3,pdo_gd h.gd r x,rdo_gr h.gr x,hl.1.iv,hl.1.bz⟩
theorem St.new {w:World} {W1 W2:World} (hb:b=w.heap.size) (hB:Blk W1 b 75 (lo0.C (.slice none 0 0))) (hK:Kept [] w W1) (hc:c=W1.heap.size) (hC:Blk W2 c 47 (rk0.C (.slice none 0 0))) (hK2:Kept [] W1 W2):St ⟨w,[]⟩ W2 b c 0 lo0 [] rk0 [] (.slice none 0 0) (.slice none 0 0):=by
 have h1:=hK.size
 refine⟨⟨hB.kept hK2 (by simp),Rw.nil _,hC,Rw.nil _,.inl (by show w.heap.size≤b;omega),.inl (by show w.heap.size≤c;omega),(fun k hk=>by cases hk),(fun k hk=>by cases hk),(fun k hk=>by cases hk),hK.trans hK2⟩,lo0_gd,rk0_gr,lo0_iv,fun _=>rfl⟩
theorem St.does2 (h:St base W b c j s L r R ln lr) (hj:j≤600) (x:Sp):Calls Try.prog 12 #[P0 b,P0 c,aggV x.C] W fun e w'=>∃u v ln' lr',e= .returned (.tuple #[u,v])∧Ou W w' u (pdo s L r x).2.2∧Ou W w' v (rdo r R x).2.2∧St base w' b c (j+1) (pdo s L r x).1 (pdo s L r x).2.1 (rdo r R x).1 (rdo r R x).2.1 ln' lr'∧Kept (b::c::(own1 ln++own1 lr)) W w':=by
 refine(St.does (base:=⟨W,b::c::(own1 ln++own1 lr)⟩) ⟨h.du.rebase,h.gd,h.gr,h.iv,h.bz⟩ hj x).mono ?_
 rintro e w' ⟨u,v,ln',lr',e1,h1,h2,h3⟩
 exact⟨u,v,ln',lr',e1,h1,h2,⟨h.du.back h3.du,h3.gd,h3.gr,h3.iv,h3.bz⟩,h3.du.kept⟩
end Go.Proofs.Ytabicgbnloabnaa
